import Derived.Test.YtnbomhedoelklaaGreatDoorZW2
import Derived.Lib.SmallJoins
namespace Go.Proofs.YtnbomhedoelklaaGreatDoor
open Go.RowKit
set_option maxRecDepth 99999
set_option maxHeartbeats 0
open Go.ChangeShapes Go.WideShapes Go.ChangeAt Go.Joins Go.Deep
theorem add_plain(b off n:Nat):((aA b off):WT).add n=(aA b (off+n)):=by
 unfold Addr.add;split
 .rename_i h;subst h;rfl
 .rfl
def jH(w:WA)(a:Option WT)(n:Nat)(f g h:Nat->Int):Prop:=
 0<n->∃b off,a=some (aA b off)/\b<w.1.size/\∀j,j<n->w.cell? ⟨b,off+j*3,none⟩=some (iI (f j))/\w.cell? ⟨b,off+j*3+1,none⟩=some (iI (g j))/\w.cell? ⟨b,off+j*3+2,none⟩=some (iI (h j))
theorem jH.below{w w':WA}{a:Option WT}{n:Nat}{f g h:Nat->Int}(r:jH w a n f g h)(hb:bW w w'):jH w' a n f g h:=by intro hn;obtain⟨b,off,ha,oF,hc⟩:=r hn;exact⟨b,off,ha,kC oF hb.size,λj hj=>⟨(hb.cell oF).trans (hc j hj).1,(hb.cell oF).trans (hc j hj).2.1,(hb.cell oF).trans (hc j hj).2.2⟩⟩
def xL(w:WA)(a:Option WT)(n:Nat)(f g h i:Nat->Int):Prop:=
 0<n->∃b off,a=some (aA b off)/\b<w.1.size/\∀j,j<n->w.cell? ⟨b,off+j*4,none⟩=some (iI (f j))/\w.cell? ⟨b,off+j*4+1,none⟩=some (iI (g j))/\w.cell? ⟨b,off+j*4+2,none⟩=some (iI (h j))/\w.cell? ⟨b,off+j*4+3,none⟩=some (iI (i j))
theorem xL.below{w w':WA}{a:Option WT}{n:Nat}{f g h i:Nat->Int}(r:xL w a n f g h i)(hb:bW w w'):xL w' a n f g h i:=by intro hn;obtain⟨b,off,ha,oF,hc⟩:=r hn;exact⟨b,off,ha,kC oF hb.size,λj hj=>⟨(hb.cell oF).trans (hc j hj).1,(hb.cell oF).trans (hc j hj).2.1,(hb.cell oF).trans (hc j hj).2.2.1,(hb.cell oF).trans (hc j hj).2.2.2⟩⟩
theorem aKu{H:Type}{enc:WI×WB->H}{P:WJ}{w:WA}{A5:Nat->Bool}{held:Bool}{r:Reach}{b0:Nat}{v:WB}{d:DataW H}{p:List MemPlace}{t e:WI}(ht:P.underlying t=some (.slice e))(hs:P.underlying e=some .string)(hc:P.cellsOf e=1)
  (hv:Value.okWide P w r b0 t v)(h:DataW.Trod enc P w 0 A5 held t v d p):
  ∃(a:Option WT)(cap:Nat)(l:List WG),v=sV a l.length cap/\(0<l.length->∃b off,a=some (aA b off)/\b<w.1.size/\∃c e f,w.1[b]?=some (.cells c e f)/\∀i (hi:i<l.length),c[off+i]?=some (sT l[i])):=by
 obtain⟨a1,len,cap,rfl⟩:=okWide_slice ht hv;obtain⟨fuel,hf⟩:=h;rcases open_slice1 ht hc hf with⟨fO,_⟩|⟨a,bN1,cap',m,n,V,D,Pl,fO,_,hl,_,hm,_,hx⟩
 .simp[Value.cells]at fO;obtain⟨rfl,rfl,rfl⟩:=fO;exact⟨none,0,[],rfl,λhn=>absurd hn (kW _)⟩
 .simp[Value.cells]at fO;obtain⟨rfl,rfl,rfl⟩:=fO;have hle:len<=m:=by rw[hm];split<;>omega
  have key:∀i,i<len->∃s:WG,w.cell? (a.add i)=some (sT s):=λi hi=>by obtain⟨h1,h2⟩:=hx i od;obtain⟨s,e1,_⟩:=DataW.trod_string hs h2;simp at e1;exact⟨s,by rw[h1,e1]⟩
  have bK1:∃F:Nat->WG,∀i,i<len->w.cell? (a.add i)=some (sT (F i)):=
   ⟨λi=>if hi:i<len then(key i hi).choose else AU,λi hi=>by simp only[dif_pos hi];exact(key i hi).choose_spec⟩
  obtain⟨F,hF⟩:=bK1;refine⟨some a,cap,(List.range len).map F,oe,λhn=>?_⟩;have hn:0<len:=by simpa using hn
  obtain⟨b,off,bM7⟩:=a;have hs:bM7=none:=by simpa[Addr.add]using World.cell?_spot (hF 0 hn)
  subst hs;have h0:∀i,i<len->w.cell? (aA b (off+i))=some (sT (F i)):=λi hi=>by
   rw[<-hF i hi];unfold Addr.add;split
   .rename_i h;subst h;rfl
   .rfl
  have h1:=h0 0 hn;unfold World.cell? at h1;split at h1
  .rename_i c e f hb;refine⟨b,off,rfl,(kZ hb).1,c,e,f,hb,λi hi=>?_⟩;have hi:i<len:=by simpa using hi
   have h2:=h0 i hi;simp only[World.cell?,hb]at h2;simpa using h2
  .cases h1
