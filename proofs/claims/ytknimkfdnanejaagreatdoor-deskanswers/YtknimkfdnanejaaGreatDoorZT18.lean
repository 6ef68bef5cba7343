import Derived.Test.YtknimkfdnanejaaGreatDoorZDkIter
import Derived.Test.YtknimkfdnanejaaGreatDoorZT17
namespace Go.Proofs.YtknimkfdnanejaaGreatDoor
open Go.RowKit Go.Proofs.Tryz
set_option maxRecDepth 100000
set_option maxHeartbeats 16000000
section
open Go.RowKit Go.Shelf Go.Sort
theorem aJf{x:Int}(h:x<0):x.tmod 2=-((-x)%2):=by obtain⟨y,rfl⟩:∃y:Nat,x=-(y:Int):=⟨(-x).toNat,od⟩;rw[Int.neg_tmod,Int.neg_neg,Int.tmod_eq_emod_of_nonneg od]
theorem aJc{x:Int}(h:x<0):x.tdiv 2=-((-x)/2):=by obtain⟨y,rfl⟩:∃y:Nat,x=-(y:Int):=⟨(-x).toNat,od⟩;rw[Int.neg_tdiv,Int.neg_neg,Int.tdiv_eq_ediv_of_nonneg od]
theorem aTn(x:Int)(w:World):Calls prog 53 #[iI x,iI (-1099511627776),iI 1099511627776] w fun e w'=>e=rT (.bool (!far x))/\w'=w:=by
 by_cases h1:-1099511627776<=x
 ·by_cases h2:x<=1099511627776
  ·rw[tL.2 ⟨h1,h2⟩];exact zG3
  ·rw[vZ.2 od];have h3:decide (x<=1099511627776)=false:=kC h2;exact zG3
 ·rw[vZ.2 od];have h3:decide (-1099511627776<=x)=false:=kC h1;exact zG3
theorem aM6(a:Option Addr)(n cap:Nat)(f:Int)(w:World)(h:f<0\/(n:Int)<2*f+1):
  Calls prog 59 #[sV a n cap,iI f] w fun e w'=>e=rT (tU #[iI 0,iI 1])/\bW w w':=by
 by_cases hf:f<0
 ·clear h;exact zHo
 ·have k1:decide (f<0)=false:=kC hf;by_cases h0:1000<f
  ·clear h hf;exact zHo
  ·have k2:decide (1000<f)=false:=kC h0;have k3:(n:Int)<2*f+1:=od;have k4:0<=f:=od;have k5:f<=1000:=od;clear h hf h0;exact zHo
theorem aR6(a:Option Addr)(cap:Nat)(l:List Int)(f:Nat)(w:World)(hr:bE w a l)(hn:l.length<=2000)(h:2*f+1<=l.length):
  Calls prog 59 #[sV a l.length cap,iI f] w fun e w'=>e=rT (tU #[iI (fO l f),iI (dR l f)])/\bW w w':=by
 obtain⟨b,off,rfl,hb,hc⟩:=hr od;obtain⟨n,hl⟩:∃n,l.length=n:=⟨_,rfl⟩;have HL:Hid (l.length=n):=hl;have HCC:Hid (∀j,j<n->w.cell? (aA b (off+j))=some (iI (l.getD j 0))):=hl▸hc;rw[hl]at hn h⊢;have k1:decide ((f:Int)<0)=false:=kC od;have k2:decide (1000<(f:Int))=false:=kC od;have k3:decide ((n:Int)<2*(f:Int)+1)=false:=kC od;clear hc hr hl;go_enter func59,ntmps59;go_wp2;go_loop [26] (fun i=>∃k:Nat,k<=n/\i=iI k/\Hid (∀j,j<k->far (l.getD j 0)=false)) (fun i=>n-(intOf i).toNat);case atStart=>exact⟨0,kH _,rfl,fun j hj=>absurd hj (kT _)⟩
 case round=>
  obtain⟨k,hk,rfl,h0⟩:=hrel;by_cases hlt:k<n
  ·have y0:=HCC.out k hlt;obtain⟨x,hx⟩:∃x,l.getD k 0=x:=⟨_,rfl⟩;have HX:Hid (l.getD k 0=x):=hx;rw[hx]at y0;clear hx;have hif:=aTn x;cases hfx:far x
   ·rw[hfx]at hif;have HF:Hid (far x=false):=hfx;clear hfx;go_wp2_with(go_at_call 53;refine(hif _).mono ?_;rintro e w' ⟨rfl,rfl⟩);refine⟨⟨k+1,od,ow,fun j hj=>?_⟩,ot⟩;rcases Nat.lt_succ_iff_lt_or_eq.1 hj with q|q
    ·exact h0.out j q
    ·rw[q,HX.out];exact HF.out
   ·rw[hfx]at hif;have HF:Hid (far x=true):=hfx;clear hfx;go_wp2_with(go_at_call 53;refine(hif _).mono ?_;rintro e w' ⟨rfl,rfl⟩);have HE:dR l f=2:=J6 Ef (by
     rw[List.any_eq_true]
     exact⟨x,by rw[<-HX.out,getD_at ji];exact List.getElem_mem _,HF.out⟩)
    go_ret2;rw[HE,uE (by rw[HE];decide)];exact zB1
  ·have:k=n:=by omega
   subst this;have eE:l.any far=false:=by rw[List.any_eq_false];intro x hx;obtain⟨j,hj,rfl⟩:=List.getElem_of_mem hx;have:=h0.out j (by rw[<-HL.out];exact hj);rw[getD_at hj]at this;simp[this]
   have hA:=l7 eE (k:=f) Ef;have hZ:=l7 eE (k:=k-1-f) Ef;have HM:Hid (fO l f=(nP l f+nP l (k-1-f))/2/\dR l f=0):=by have h0':dR l f=0:=uD Ef eE;exact⟨by rw[rK h0',yV,HL.out];rfl,h0'⟩
   obtain⟨p,hp⟩:∃p,nP l f=p:=⟨_,rfl⟩;obtain⟨q,hq⟩:∃q,nP l (k-1-f)=q:=⟨_,rfl⟩;rw[hp]at hA HM;rw[hq]at hZ HM;have HP:Hid (nP l f=p):=hp;have HQ:Hid (nP l (k-1-f)=q):=hq;clear hp hq eE h0;have wD:∀(j:Nat)(u:Value),(l.map (Value.int .i64))[j]?=some u->(w.alloc (.cells #[] 3)).cell? (((aA b off):Addr).add j)=some u:=fun j u hj=>by
    rw[nE,World.cell?_alloc_lt _ _ _ hb];rw[List.getElem?_map]at hj;have hjl:j<l.length:=by
     rcases Nat.lt_or_ge j l.length with q|q
     ·exact q
     ·rw[List.getElem?_eq_none q]at hj;cases hj
    rw[List.getElem?_eq_getElem hjl]at hj;rw[HCC.out j (by rw[<-HL.out];exact hjl),getD_at hjl];exact hj
   have HN:=(show Hid _ from wD);clear wD;obtain⟨i0,hi,lO,mX,jX⟩:=info_parts Tryz.uZ;have hmt:=zD w #[] 3 0 rfl (kH _) w.heap.size (kF _);go_wp2_with(at_builtin;refine wpList_append_own _ rfl _ _ 55 rfl w.heap.size 3 i0 (iI 0) 1 8 underlying55 hi lO mX jX rfl oe _ 0 [] rfl hmt (aA b off) k cap (l.map (Value.int .i64)) rfl (by rw[List.length_map,HL.out];omega) HN.out (gK l) oo od oh ?_;intro v' w2 cD bP vP;apply Hid.out);unfold Hid;have jB:v'≠sV none 0 0:=fun e=>by have:=(vP.1 e).1;cases this
   have xR:bW w w2:=((kX _ _).alloc (kF _) _).grown bP oh (fun j hj=>by cases hj;exact kF _);rw[List.nil_append,Nat.zero_add]at cD;obtain⟨g,cp,rfl,hbg,tE,hcp,hcm,_,hH⟩:=Lib.holds_of_ownsRow cD jB;have hS:=Tryz.sort_Ints g 0 cp l w2 hH tE Ef;rw[HL.out]at hS;have HX:Hid (Holds (Value.int .i64) w2 g 0 l.toArray):=hH;clear hH cD bP vP jB hmt HN hi lO mX jX;go_wp2_with fail;refine hS.mono ?_;rintro e w4 ⟨rfl,nn,os,hw4⟩;obtain⟨hcs,yN⟩:=aAx xR hbg tE HX.out hw4;have c1:w4.cell? (aA g f)=some (iI p):=by rw[hcs f Ef,HP.out]
   have c2:w4.cell? ⟨g,k-1-f,none⟩=some (iI q):=by rw[hcs (k-1-f) Ef,HQ.out]
   clear hcs hw4 HX hS xR;obtain⟨m,hm⟩:∃m,k-f=m:=⟨_,rfl⟩;have k4:(k:Int)-(f:Int)=(m:Int):=od;have k5:(f:Int)<=(m:Int):=od;have k6:(m:Int)<=(cp:Int):=od;obtain⟨r,hr⟩:∃r,m-f=r:=⟨_,rfl⟩;obtain⟨j,hj⟩:∃j,r-1=j:=⟨_,rfl⟩;rw[show k-1-f=f+j from by omega]at c2;have k7:(r:Int)-1=(j:Int):=od;have k8:(j:Int)<(r:Int):=od;have k9:0<r:=od;have k10:r<=2000:=od;go_wp2_with fail;clear hm hr hj;go_quiet(fail);obtain⟨x,hx⟩:∃x,p+q=x:=⟨_,rfl⟩;have hx1:-2199023255552<=x:=od;have hx2:x<=2199023255552:=od;rw[hx]at HM;simp only[hx];clear hx;by_cases hs:x<0
   ·by_cases ho:x%2=0
    ·have ho2:(x.tmod 2 !=0)=false:=by rw[aJf hs];simp;omega
     go_wp2;have he:x.tdiv 2=x/2:=by rw[aJc hs];omega
     rw[he];exact zEo
    ·have ho2:(x.tmod 2 !=0)=true:=by rw[aJf hs];simp;omega
     go_wp2;have he:(x-1).tdiv 2=x/2:=by rw[aJc od];omega
     rw[he];exact zEo
   ·have hs2:decide (x<0)=false:=kC hs;go_wp2;exact zEo
theorem aAr(a:Option Addr)(cap:Nat)(l:List Int)(f:Int)(w:World)(hr:bE w a l)(hn:l.length<=2000):
  Calls prog 59 #[sV a l.length cap,iI f] w fun e w'=>e=rT (tU #[iI (fO l f),iI (dR l f)])/\bW w w':=have bGk:=0;zMd
end
section
open Go.RowKit Go.Shelf Go.Sort
variable{base n size:Nat}
theorem aHv{w:World}{e:TypeId}{v:Value}{xs:List Value}{b i:Nat}{x:Value}(h:w.ownsRow base e size v n xs)(hb:b<base):(w.setCell (aA b i) x).ownsRow base e size v n xs:=zC0
theorem aQc{w:World}{e:TypeId}{v:Value}{xs:List Value}(h:w.ownsRow base e size v n xs):w.drew.ownsRow base e size v n xs:=h
theorem zV{w V wr:World}{x y:Int}(hV:V=w.alloc (.cells #[iI 0,iI 0] 98))(bT:bW V wr):
  wr.cell? (aA w.heap.size 0)=some (iI 0)/\wr.cell? (aA w.heap.size 1)=some (iI 0)/\wr.frozen? (aA w.heap.size 0)=false/\wr.frozen? (aA w.heap.size 1)=false/\bW w ((wr.setCell (aA w.heap.size 0) (iI x)).setCell (aA w.heap.size 1) (iI y))/\bW w wr:=by subst hV;have hA:bW w (w.alloc (.cells #[iI 0,iI 0] 98)):=(kX _ _).alloc (kF _) _;have hB:=hA.trans (bT.mono oh);exact⟨by rw[bT.cell oh];simp,by rw[bT.cell oh];simp,by rw[bT.frozen oh];simp,by rw[bT.frozen oh];simp,(hB.setCell (p:=(aA w.heap.size 0)) (kF _) _).setCell (p:=(aA w.heap.size 1)) (kF _) _,hB⟩
theorem aZs(a ra:Option Addr)(cap bD2:Nat)(cs:List Int)(rows:List (List Int))(f:Int)(w:World)(mQ:pT w)(hr:bE w a cs)(ht:wZ w ra rows)(hlen:rows.length=cs.length)(hn:cs.length<=1000)(hrn:∀r∈rows,r.length<=1000)
  (e i p:Int)(hF:bY (fun j=>fQ cs.length (cs.getD j 0) (rows.getD j []) f) cs.length e i)(hp:p=if e=0 then-1 else i):
  Calls prog 100 #[sV a cs.length cap,sV ra rows.length bD2,iI f] w fun ev w'=>∃v,ev=rT (tU #[v,.agg #[iI e,iI p]])/\(e=0->w'.ownsRow w.heap.size 3 1 v cs.length ((rZ cs rows f cs.length).map (Value.int .i64)))/\(e≠0->v=sV none 0 0)/\bW w w':=have m35:=0;zJn
end
section
open Go
def cL(c:UInt8):List UInt8->List (List UInt8)
 |[]=>[[]]
 |x::r=>if x=c then[]::cL c r else(x::(cL c r).headD [])::(cL c r).tail
theorem wP(c:UInt8):∀l,cL c l≠[]
 |[]=>by simp[cL]
 |x::r=>by unfold cL;split<;>simp
theorem aD0:∀l,cL 10 l=cU l
 |[]=>rfl
 |x::r=>by unfold cL cU;rw[aD0 r]
theorem T4{c:UInt8}:∀{l:List UInt8},(∀x∈l,x≠c)->cL c l=[l]
 |[],_=>rfl
 |x::r,h=>by unfold cL;rw[kI (h x kQ),T4 fun y hy=>h y (kO _ hy)];rfl
theorem aAy{c:UInt8}:∀{a:List UInt8},(∀x∈a,x≠c)->∀b,cL c (a++c::b)=a::cL c b
 |[],_,b=>by simp[cL]
 |x::r,h,b=>by rw[List.cons_append,show cL c (x::(r++c::b))=if x=c then[]::cL c (r++c::b)else(x::(cL c (r++c::b)).headD [])::(cL c (r++c::b)).tail from rfl,kI (h x kQ),aAy fun y hy=>h y (kO _ hy)];rfl
theorem aMt(c:UInt8):∀(k:Nat)(s:ByteArray),Lib.countB s ⟨#[c]⟩=k->(Lib.splitB ⟨#[c]⟩ 0 k s).map (·.data.toList)=cL c s.data.toList:=by
 intro k
 induction k with
 |zero=>
  intro s hk
  rcases pJ c s.data.toList with⟨h1,h2⟩|⟨i,h1,h2,h3,h4⟩
  ·rw[T4 h2];rfl
  ·have hi:Lib.indexB s ⟨#[c]⟩=i:=(Lib.index_one s.data.toList c).trans h1
   have:=Lib.countB_hit s ⟨#[c]⟩ i (kF 1) hi
   omega
 |succ k ih=>
  intro s hk
  rcases pJ c s.data.toList with⟨h1,h2⟩|⟨i,h1,h2,h3,h4⟩
  ·have hi:Lib.indexB s ⟨#[c]⟩=-1:=(Lib.index_one s.data.toList c).trans h1
   have:=Lib.countB_miss s ⟨#[c]⟩ hi
   omega
  ·have hi:Lib.indexB s ⟨#[c]⟩=i:=(Lib.index_one s.data.toList c).trans h1
   have hc:=Lib.countB_hit s ⟨#[c]⟩ i (kF 1) hi
   rw[Lib.splitB_hit _ 0 k s i hi,List.map_cons,ih _ od]
   have e1:(s.extract 0 (i+0)).data.toList=s.data.toList.take i:=by rw[oI];simp
   have e2:(s.extract (i+ByteArray.size ⟨#[c]⟩) s.size).data.toList=s.data.toList.drop (i+1):=by
    rw[oI]
    have:(s.data.toList.take s.size)=s.data.toList:=List.take_of_length_le (by show s.data.toList.length<=s.data.size;simp)
    rw[this];rfl
   rw[e1,e2]
   conv=>rhs;rw[h3]
   rw[aAy h4]
def wl:List UInt8->List UInt8->List (List UInt8)
 |cur,[]=>if cur=[]then[]else[cur]
 |cur,x::r=>if x=32 then(if cur=[]then wl [] r else cur::wl [] r)else wl (cur++[x]) r
theorem aB3:∀(l cur:List UInt8),wl cur l=((cur++(cL 32 l).headD [])::(cL 32 l).tail).filter (fun x=>decide (x≠[]))
 |[],cur=>by
  unfold wl cL
  by_cases h:cur=[]
  ·simp[h]
  ·simp[h]
 |x::r,cur=>by
  unfold wl cL
  cases q:cL 32 r with
  |nil=>exact absurd q (wP 32 r)
  |cons y ys=>
   by_cases hx:x=32
   ·rw[kJ hx,kJ hx,aB3 r []]
    rw[q]
    by_cases h:cur=[]
    ·rw[kJ h,h];simp
    ·rw[kI h];simp[h]
   ·rw[kI hx,kI hx,aB3 r,q];simp
theorem aNd:∀(x cur r:List UInt8),(∀c∈x,c≠32)->wl cur (x++r)=wl (cur++x) r
 |[],cur,r,_=>by simp
 |c::x,cur,r,h=>by rw[List.cons_append,wl,kI (h c kQ),aNd x _ r fun y hy=>h y (kO _ hy)];simp
theorem bEq(s:ByteArray)(pos:Nat)(h:pos<s.size):(Utf8.decode s pos=(32,1)/\s.data.toList[pos]?=some 32)\/((Utf8.decode s pos).1≠32/\1<=(Utf8.decode s pos).2/\pos+(Utf8.decode s pos).2<=s.size/\∀k,k<(Utf8.decode s pos).2->s.data.toList[pos+k]?≠some 32):=by
 have hg:∀k,k<s.size->s.data.toList[k]?=some (s.get! k):=fun k hk=>by have hk':k<s.data.size:=hk;show s.data.toList[k]?=some (s.data[k]!);rw[Array.getElem?_toList,Array.getElem?_eq_getElem hk',getElem!_pos s.data k hk']
 have key:∀k,(s.get! k).toNat≠32->s.data.toList[k]?≠some 32:=fun k hk e=>by
  have hlt:k<s.size:=by
   rcases Nat.lt_or_ge k s.size with q|q
   ·exact q
   ·rw[List.getElem?_eq_none (by show s.data.toList.length<=k;simpa using q)]at e;cases e
  rw[hg k hlt]at e;injection e with e;rw[e]at hk;exact hk rfl
 unfold Utf8.decode;simp only[Nat.add_zero];by_cases h0:(s.get! pos).toNat<0x80
 ·rw[kJ h0];by_cases h1:(s.get! pos).toNat=32
  ·exact .inl ⟨by rw[h1],by rw[hg pos h];exact congrArg some (UInt8.toNat_inj.1 h1)⟩
  ·refine .inr ⟨h1,kF 1,h,fun k hk=>?_⟩;have:k=0:=by have:k<1:=hk;omega
   subst this;exact key _ h1
 ·rw[kI h0];refine .inr ?_;have k0:∀k,k<1->s.data.toList[pos+k]?≠some 32:=fun k hk=>by have:k=0:=od;subst this;exact key _ (by show(s.get! pos).toNat≠32;omega)
  have kc:∀k,(s.get! (pos+k)).toNat/64=2->s.data.toList[pos+k]?≠some 32:=fun k hk=>key _ od;have bad:(Utf8.runeError,1).1≠32/\1<=(Utf8.runeError,1).2/\pos+(Utf8.runeError,1).2<=s.size/\∀k,k<(Utf8.runeError,1).2->s.data.toList[pos+k]?≠some 32:=⟨oe,kF 1,h,k0⟩;split
  ·rename_i q;simp only[Bool.and_eq_true,beq_iff_eq,decide_eq_true_eq]at q;split
   ·refine⟨by show _≠32;omega,by show 1<=2;omega,by show pos+2<=s.size;omega,fun k hk=>?_⟩;have hk':k<2:=hk;rcases(show k<1\/k=1 by omega)with e|e
    ·exact k0 k e
    ·subst e;exact kc 1 q.2.2
   ·exact bad
  ·split
   ·exact zLs
   ·split
    ·have aY8:=0;exact zLs
    ·exact bad
theorem aD3(l:List UInt8)(pos n a:Nat)(ha:a<=pos)(hp:pos<=l.length):(l.take (pos+n)).drop a=(l.take pos).drop a++(l.drop pos).take n:=by rw[List.take_add,List.drop_append_of_le_length ol]
def aSb(s:ByteArray)(pos:Nat)(st:Option Nat)(cur:List UInt8):Prop:=
 match st with
 |some a=>a<pos/\cur=(s.data.toList.take pos).drop a
 |none=>cur=[]
theorem aCz(s:ByteArray)(st:Option Nat)(acc:List (Nat×Nat))(cur:List UInt8)(h:aSb s s.size st cur):(Lib.closeSpans s (acc,st)).map (fun x=>s.extract x.1 x.2)=acc.map (fun x=>s.extract x.1 x.2)++(wl cur []).map nH:=by
 have hl:s.data.toList.length=s.size:=Array.length_toList
 cases st with
 |none=>obtain rfl:=h;simp[Lib.closeSpans,wl]
 |some a=>
  obtain⟨h1,h2⟩:=h
  have dM:cur≠[]:=fun e=>by
   have:cur.length=s.size-a:=by rw[h2];simp[hl]
   rw[e]at this;simp at this;omega
  simp only[Lib.closeSpans,wl,kI dM,List.map_append,List.map_cons,List.map_nil]
  rw[oI,<-h2]
theorem aVu(s:ByteArray):∀(f pos:Nat)(st:Option Nat)(acc:List (Nat×Nat))(cur:List UInt8),s.size<=pos+f->pos<=s.size->aSb s pos st cur->
  (Lib.closeSpans s (Lib.spansFromP (fun x=>decide (x=32)) s f pos st acc)).map (fun x=>s.extract x.1 x.2)=acc.map (fun x=>s.extract x.1 x.2)++(wl cur (s.data.toList.drop pos)).map nH:=by
 have hl:s.data.toList.length=s.size:=Array.length_toList;intro f
 induction f with
 |zero=>
  intro pos st acc cur hf hp xE
  have e:pos=s.size:=od
  subst e
  rw[List.drop_eq_nil_of_le (Nat.le_of_eq hl)]
  exact aCz s st acc cur xE
 |succ f ih=>
  intro pos st acc cur hf hp xE
  unfold Lib.spansFromP
  by_cases hlt:pos<s.size
  ·rw[kJ hlt]
   rcases bEq s pos hlt with⟨hd,hb⟩|⟨hd,hw,hr,hn⟩
   ·rw[hd]
    have e:s.data.toList.drop pos=32::s.data.toList.drop (pos+1):=by
     rw[List.drop_eq_getElem_cons od]
     rw[List.getElem?_eq_getElem od]at hb
     injection hb with hb
     rw[hb]
    rw[kJ oh]
    cases st with
    |none=>
     obtain rfl:=xE
     simp only
     rw[ih (pos+1) none acc [] od od rfl,e]
     simp[wl]
    |some a=>
     obtain⟨h1,h2⟩:=xE
     have dM:cur≠[]:=fun e=>by
      have:cur.length=pos-a:=by rw[h2];simp[hl];omega
      rw[e]at this;simp at this;omega
     simp only
     rw[ih (pos+1) none _ [] od od rfl,e]
     rw[show wl cur (32::s.data.toList.drop (pos+1))=cur::wl [] (s.data.toList.drop (pos+1))from by rw[wl,kJ rfl,kI dM]]
     rw[List.map_append,List.map_cons,List.map_nil,List.map_cons,oI,<-h2]
     simp
   ·have hx:∀c∈(s.data.toList.drop pos).take (Utf8.decode s pos).2,c≠32:=fun c hc e=>by
     obtain⟨k,hk,q⟩:=List.mem_iff_getElem.1 hc
     have hk2:k<(Utf8.decode s pos).2:=by simp at hk;omega
     refine hn k hk2 ?_
     rw[List.getElem_take,List.getElem_drop]at q
     rw[List.getElem?_eq_getElem (by simp at hk;omega),q,e]
    have e:s.data.toList.drop pos=(s.data.toList.drop pos).take (Utf8.decode s pos).2++s.data.toList.drop (pos+(Utf8.decode s pos).2):=by
     rw[<-List.drop_drop,List.take_append_drop]
    rw[kI (by simpa using hd)]
    cases st with
    |none=>
     obtain rfl:=xE
     simp only
     rw[ih _ (some pos) acc ((s.data.toList.drop pos).take (Utf8.decode s pos).2) od hr ⟨od,by rw[aD3 _ _ _ _ (kF pos) od];simp⟩]
     conv=>rhs;rw[e]
     rw[aNd _ _ _ hx];simp
    |some a=>
     obtain⟨h1,h2⟩:=xE
     simp only
     rw[ih _ (some a) acc (cur++(s.data.toList.drop pos).take (Utf8.decode s pos).2) od hr ⟨od,by rw[aD3 _ _ _ _ (kV h1) od,<-h2]⟩]
     conv=>rhs;rw[e]
     rw[aNd _ _ _ hx]
  ·rw[kI hlt]
   have e:pos=s.size:=od
   subst e
   rw[List.drop_eq_nil_of_le (Nat.le_of_eq hl)]
   exact aCz s st acc cur xE
theorem U2(s:ByteArray):fA s=((cL 32 s.data.toList).filter (fun x=>decide (x≠[]))).map nH:=by
 have h:=aVu s s.size 0 none [] [] od od rfl;unfold fA Lib.goFieldsP Lib.spansOfP;rw[h,aB3]
 cases q:cL 32 s.data.toList with
 |nil=>exact absurd q (wP _ _)
 |cons x xs=>simp[q]
theorem aHf(t:ByteArray):iF t=(if 1<(cL 10 t.data.toList).length/\(cL 10 t.data.toList).getLast?=some []then(cL 10 t.data.toList).dropLast else cL 10 t.data.toList).map nH:=by
 unfold iF;rw[aD0];congr 1;unfold uM;by_cases h:t.data.toList.getLast?=some 10
 ·rw[kJ h];obtain⟨a,ha⟩:=List.getLast?_eq_some_iff.1 h;rw[ha,List.dropLast_concat,uI];have e:cU []=[[]]:=rfl;have h1:0<(cU a).length:=List.length_pos_iff.2 (uJ a);rw[e,kJ ⟨ol,oh⟩];simp
 ·rw[kI h,kI];rintro⟨h1,h2⟩;have key:∀l:List UInt8,1<(cU l).length->(cU l).getLast?=some []->l.getLast?=some 10:=by
   intro l
   induction l with
   |nil=>intro q;simp[cU]at q
   |cons c r ih=>
    intro q1 q2
    rw[tJ]at q1 q2
    cases q:cU r with
    |nil=>exact absurd q (uJ r)
    |cons x xs=>
     rw[q]at q1 q2
     by_cases hc:c=10
     ·rw[kJ hc]at q1 q2
      cases xs with
      |nil=>
       simp at q2
       subst q2
       have hr:r=[]:=by
        cases r with
        |nil=>rfl
        |cons d r'=>
         rw[tJ]at q
         split at q
         ·simp at q;exact absurd q (uJ r')
         ·simp at q
       rw[hr,hc];rfl
      |cons y ys=>
       have:=ih (by rw[q];simp) (by rw[q];simpa using q2)
       rw[List.getLast?_cons,this];rfl
     ·rw[kI hc]at q1 q2
      cases xs with
      |nil=>simp at q1
      |cons y ys=>
       have:=ih (by rw[q];simp) (by rw[q];simpa using q2)
       rw[List.getLast?_cons,this];rfl
  exact h (key _ h1 h2)
end
section
open Go.RowKit Go.Lib
theorem aD1(s:ByteArray)(c:UInt8)(w:World)(hs:s.size<4294967281):
  Calls prog 13 #[sT s,sT ⟨#[c]⟩] w fun e w'=>∃n,n=(cL c s.data.toList).length/\e=rT (sL w.heap.size n n)/\w'=w.alloc (.cells ((cL c s.data.toList).map fun x=>Value.string (nH x)).toArray 9):=by
 have hle:=Lib.countB_le ⟨#[c]⟩ (kF 1) s.size s (kF _);have hlen:=Lib.splitB_all ⟨#[c]⟩ (kF 1) 0 _ s rfl;have g:Calls prog 48 #[sT s,sT ⟨#[c]⟩,iI (0:Nat),iI (-1)] w _:=Any.strings_genSplit_core (P:=prog) { Tryz.lays146 with } og s ⟨#[c]⟩ 0 (-1) (Lib.countB s ⟨#[c]⟩+1) w hs (kF 1) (kH _)
  (fun x d _=>by have:=Tryz.strings_Index_one x c (w.alloc (.cells d 9));rw[<-Lib.index_one]at this;exact this)
  (by have:=Tryz.strings_Count_one s c w;unfold Lib.countByte at this;rw[<-Lib.count_one]at this;exact this) oe oe (by rw[kJ oe];omega)
 have e3:(Lib.splitB ⟨#[c]⟩ 0 (Lib.countB s ⟨#[c]⟩) s)=(cL c s.data.toList).map nH:=by
  rw[<-aMt c _ s rfl,List.map_map];have:((fun l=>nH l)∘fun(x:ByteArray)=>x.data.toList)=id:=by funext x;simp[nH]
  simp[Function.comp_def,nH]
 rw[Nat.add_sub_cancel,hlen]at g;have e2:Lib.cellsOf (Lib.splitB ⟨#[c]⟩ 0 (Lib.countB s ⟨#[c]⟩) s) (Lib.countB s ⟨#[c]⟩+1)=((cL c s.data.toList).map fun x=>Value.string (nH x)).toArray:=by rw[<-hlen,Lib.cellsOf_full,e3,List.map_map];rfl
 rw[e2]at g;have hn:Lib.countB s ⟨#[c]⟩+1=(cL c s.data.toList).length:=by rw[<-hlen,e3,List.length_map]
 rw[hn]at g;clear e2 e3 hlen hle;go_enter func13,ntmps13;go_wp2_with fail;refine g.mono ?_;rintro e w' ⟨rfl,rfl⟩;go_wp2;go_ret;exact⟨_,rfl,rfl,rfl⟩
end
theorem wK{e:TypeId}{w:World}{base n:Nat}{v:Value}{f g' h':Nat->Int}(h:w.ownsRow base e 3 v n (bN f g' h' n)):∃a cap,v=sV a n cap/\dX w a n f g' h'/\∀b off s,a=some ⟨b,off,s⟩->base<=b/\b<w.heap.size:=zBc
theorem uH(f g h:Nat->Int)(n:Nat):bN f g h (n+1)=bN f g h n++[iI (f n),iI (g n),iI (h n)]:=by unfold bN;rfl
theorem w8(v:World)(a b c:Value)(t:TypeId):∀(j:Nat)(u:Value),[a,b,c][j]?=some u->(v.alloc (.cells #[a,b,c] t)).drew.cell? (((aA v.heap.size 0):Addr).add j)=some u:=fun j u hu=>by rw[nE,Nat.zero_add];have:=World.cell?_alloc_new v #[a,b,c] t j;refine this.trans ?_;simpa using hu
theorem Tryz.aY6:(Tryz.prog.info? 110).map (fun i=>(i.zero,i.size,i.bytes))=some (some (.pointer none),1,8):=by kernel_rfl
def aN3(k:Nat):Bool:=(decide (106<=k)&&decide (k<=120))
theorem bD5(code:Code)(lN:Tryz.f52.body.bind (dU 31)=some code)(Q:Exit->Act->World->Prop)(base C LB k:Nat)(bag que:Int)(V:Value)(l:List Value)(w:World)(hk:k<=100)(y13:w.cell? (aA C 13)=some V)(z13:w.frozen? (aA C 13)=false)(hV:∃a c,V=sV a k c)(x2:w.cell? (aA LB 2)=some (iI bag))(x3:w.cell? (aA LB 3)=some (iI que))(hCL:LB≠C)(bK:w.ownsRow base 110 1 V k l)(hVC:V.ownBlock≠some C)(hVL:V.ownBlock≠some LB)(qV:base<=w.heap.size){L:List Value}(tC:L.length=139)(s9:L[9]?=some (pP C))(s17:L[17]?=some (pP LB))
  (cN:∀(L':List Value) (g cap:Nat) (w3:World),w3.ownsRow base 110 1 (sL g (k+1) cap) (k+1) (l++[pP w.heap.size])->((w.drew.alloc (.cells #[iI bag,iI que,sV none 0 0,iI 0,iI 0,iI 0] 174)).alloc (.cells #[pP w.heap.size] 110)).grownBy w3 V.ownBlock->(V.ownBlock=some g\/g=w.heap.size+2)->L'.length=139->Rest aN3 L L'->Q .normal ⟨L'.toArray,[]⟩ (w3.setCell (aA C 13) (sL g (k+1) cap))):
  Code.wp prog code Q ⟨L.toArray,[]⟩ w:=by
 have uR:(Tryz.f52.body.bind (dU 31)).getD Code.skip=code:=Ee;obtain rfl:=uR;clear lN;conv=>arg 2;whnf
 have wW:Hid _:=cN;obtain⟨fL,rfl⟩:=lit L 139 tC;replace s9:=aX s9;replace s17:=aX s17;simp only[List.range,List.range.loop,List.map_cons,List.map_nil,s9,s17];obtain⟨i1,hiI,R8,hy1,M3⟩:=info_parts Tryz.aY6;obtain⟨a13,aSj,rfl⟩:=hV;have lC:C<w.heap.size:=lt_of_cell y13;have lL:LB<w.heap.size:=lt_of_cell x2;have n1:C≠w.heap.size:=od;have n2:LB≠w.heap.size:=od;have n3:C≠w.heap.size+1:=od;have n4:LB≠w.heap.size+1:=od;have hOd:((w.drew.alloc (.cells #[iI bag,iI que,sV none 0 0,iI 0,iI 0,iI 0] 174)).alloc (.cells #[pP w.heap.size] 110)).ownsRow base 110 1 (sV a13 k aSj) k l:=(World.ownsRow.alloc (World.ownsRow.alloc (show w.drew.ownsRow base 110 1 (sV a13 k aSj) k l from bK) _) _);have lT:Hid (∀(w3:World),((w.drew.alloc (.cells #[iI bag,iI que,sV none 0 0,iI 0,iI 0,iI 0] 174)).alloc (.cells #[pP w.heap.size] 110)).grownBy w3 (Value.slice a13 k aSj).ownBlock->w3.cell? (aA C 13)=some (sV a13 k aSj)/\w3.frozen? (aA C 13)=false/\w3.cell? (aA LB 2)=some (iI bag)/\w3.cell? (aA LB 3)=some (iI que)):=fun w3 hg=>by have hA:bW w ((w.drew.alloc (.cells #[iI bag,iI que,sV none 0 0,iI 0,iI 0,iI 0] 174)).alloc (.cells #[pP w.heap.size] 110)):=(((kX w.heap.size w).drew).alloc (kF _) _).alloc oh _;have hs:=hA.size;exact⟨(hg.cell_far (aA C 13) jv (Ne.symm hVC)).trans (bc hA lC y13),(hg.frozen_far (aA C 13) jv (Ne.symm hVC)).trans ((hA.frozen (p:=(aA C 13)) lC).trans z13),(hg.cell_far (aA LB 2) (by show LB<_;omega) (Ne.symm hVL)).trans (bc hA lL x2),(hg.cell_far (aA LB 3) (by show LB<_;omega) (Ne.symm hVL)).trans (bc hA lL x3)⟩
 have bEc:Hid (∀(j:Nat)(u:Value),[Value.pointer (some (aA w.heap.size 0))][j]?=some u->((w.alloc (.cells #[iI bag,iI que,sV none 0 0,iI 0,iI 0,iI 0] 174)).alloc (.cells #[pP w.heap.size] 110)).drew.cell? (((aA (w.heap.size+1) 0):Addr).add j)=some u):=fun j u hu=>by have q:=cell_one_new (w.alloc (.cells #[iI bag,iI que,sV none 0 0,iI 0,iI 0,iI 0] 174)) (pP w.heap.size) 110 j u hu;rw[show(w.alloc (.cells #[iI bag,iI que,sV none 0 0,iI 0,iI 0,iI 0] 174)).heap.size=w.heap.size+1 by simp]at q;exact q
 clear cN bK;refine wp_region_noPanic ?_;go_region_law (first
  |(refine step_append_lies _ oq _ _ _ oq base 110 i1 (.pointer none) 1 8 underlying105 hiI R8 hy1 M3 rfl oe (sV a13 k aSj) k l oq hOd (aA (w.heap.size+1) 0) 1 1 [pP w.heap.size] oq rfl bEc.out Oc oe oo od ol (w.heap.size+2) oh ?_;intro gq cq w3 cD bP jW _;obtain⟨bO4,bO7,x2c,x3c⟩:=lT.out w3 bP;have q2:∀v,(w3.setCell (aA C 13) v).cell? (aA LB 2)=some (iI bag):=(fun v=>(aB (.inl hCL)).trans x2c);have q3:∀v,(w3.setCell (aA C 13) v).cell? (aA LB 3)=some (iI que):=(fun v=>(aB (.inl hCL)).trans x3c)))
 all_goals(refine NoPanic.normal ?_;exact wW.out _ _ _ _ cD bP jW rfl (Rest.of rfl))
def NMz(wr:World)(base:Nat)(Z:List Nat)(C:Nat)(p:aQ)(cc:Nat->Option Value)(fT:List Nat)(m0:iD)(iT:Value)(k:Nat):Prop:=∃iU,Z3 wr base Z C p cc fT m0 p.n k (X6 p.n k 0) iT iU
theorem bHl(w:World)(a b c d:Value)(t:TypeId):(w.alloc (.cells #[a,b,c,d] t)).cell? (aA w.heap.size 2)=some c/\(w.alloc (.cells #[a,b,c,d] t)).cell? (aA w.heap.size 3)=some d/\bW w (w.alloc (.cells #[a,b,c,d] t))/\(w.alloc (.cells #[a,b,c,d] t)).heap.size=w.heap.size+1:=⟨oh,oh,(kX _ _).alloc (kF _) _,oh⟩
def aJh(k:Nat):Bool:=(decide (16<=k)&&decide (k<=18))||(decide (101<=k)&&decide (k<=136))
theorem aZ6(body:Code)(mP:(Tryz.f52.body.map cY).bind (fun l=>l[2]?)=some body)(Q:Exit->Act->World->Prop)(base:Nat)(Z:List Nat)(C PB:Nat)(p:aQ)(cc:Nat->Option Value)(fT:List Nat)(m0:iD)(iT:Value)(LA:Option Addr)(lcp:Nat)(w:World)(hn:p.n<=16)(qO:p.nl<=8)(e14:cc 14=some (.map (some m0.tb)))(hPB:w.cell? (aA PB 0)=some (iI p.n))(hPC:PB≠C)(hPT:PB≠m0.tb)
  (fE:0<p.nl->∃b off,LA=some (aA b off)/\(b<w.heap.size/\b≠C/\b≠m0.tb)/\∀i,i<p.nl->w.cell? ⟨b,off+i*4,none⟩=some (iI (p.lf i))/\w.cell? ⟨b,off+i*4+1,none⟩=some (iI (p.lt i))/\w.cell? ⟨b,off+i*4+2,none⟩=some (iI (p.lb i))/\w.cell? ⟨b,off+i*4+3,none⟩=some (iI (p.lq i)))(h:NMz w base Z C p cc fT m0 iT 0)(bFd:∀iU,Z3 w base Z C p cc fT m0 p.n 0 (X6 p.n 0 0) iT iU->iU.ownBlock=none){L:List Value}(tC:L.length=139)(s3:L[3]?=some (pP PB))(s9:L[9]?=some (pP C))(s99:L[99]?=some (sV LA p.nl lcp))(bDf:L[100]?=some (iI p.nl))(aMk:L[101]?=some (iI 0))
  (cN:∀(L':List Value) (wr:World),NMz wr base Z C p cc fT m0 iT p.nl->aU C m0.tb w wr->L'.length=139->Rest aJh L L'->L'[101]?=some (iI p.nl)->Q (.exit 4) ⟨L'.toArray,[]⟩ wr):
  Code.wp prog (Code.loop body) Q ⟨L.toArray,[]⟩ w:=by have dQ:((Tryz.f52.body.map cY).bind (fun l=>l[2]?)).getD Code.skip=body:=ey;exact zLp
section
section
variable{w:World}{O:List Nat}{C:Nat}{p:aQ}{fa:Int}{cs:List Int}{s:cA}{rd:Int}{B:Nat}{m:wV}
theorem Cl.closed(h:Cl w O C p fa cs s rd B m){g gc:Nat}{cs':List Int}(hg:g<w.heap.size)(hgO:g∉O)(sP:∀j,j<cs'.length->w.cell? (aA g j)=some (iI (cs'.getD j 0)))(Y4:Int):
  Cl ((w.setCell (aA C 12) (iI Y4)).setCell (aA C 11) (sL g cs'.length gc)) (g::O) C p fa cs' s Y4 B { m with X:=g::m.X,cb:=g,cI:=gc }/\aU C C w ((w.setCell (aA C 12) (iI Y4)).setCell (aA C 11) (sL g cs'.length gc)):=by have hT:aU C C w ((w.setCell (aA C 12) (iI Y4)).setCell (aA C 11) (sL g cs'.length gc)):=((aU.refl C C w).set (p:=(aA C 12)) (.inl rfl) _).set (p:=(aA C 11)) (.inl rfl) _;exact zKn
theorem aSt{V wr:World}(h:dZ O V wr C p fa cs s rd B m)(H:lJ)(i:Nat)(mode:Int)(hi:i<p.ns)(hl:H.lies=aW fa)(hm:H.mode (p.S.nd i)=mode)(hnd:0<=p.nd i)(H7:p.S.nd i<p.n)(jB:p.nodes=p.n)(hn:p.n<=16)(wS:1<=B)
  (xU:1<=p.round)(pE:p.round<=137438953472)(sH:0<=rd)(hf0:0<=p.fr i)(zY:p.fr i<=1099511627776)(qO:p.nl<=8)(hB:B<=9999990)(qF:∀k,k<p.nl->0<=p.lf k/\0<=p.lb k/\p.lb k<=1099511627776):
  Calls prog 127 #[pP C,iI i,iI mode] wr fun e w'=>∃mem aT LK SQ SD,e=rT (tU #[.agg #[iI (p.S.nd i:Nat),iI i,iI mem,iI LK,iI SQ,sT SD],.bool aT])/\((LK=gS (s.goes p.S H rd i).2/\SQ=dN (s.goes p.S H rd i).2/\SD=dE (s.goes p.S H rd i).2)/\tY p (s.goes p.S H rd i).2/\aT=s.sends H (p.S.nd i)/\(aT=true->mem=aZ (s.pH p.S H (p.S.nd i)) p.n))/\dZ O V w' C p fa cs (s.mT p H rd i) rd B m:=by obtain⟨O',h,c⟩:=h;have aXy:=c.msg H i;refine(aX4 c H i mode hi hl hm hnd H7 jB hn wS xU pE sH hf0 zY qO hB qF).mono ?_;rintro e w' ⟨mem,aT,he,h1,h2,O'',h3,h4⟩;exact⟨mem,aT,_,_,_,he,⟨⟨rfl,rfl,rfl⟩,aXy,h1,h2⟩,O'',h.trans h3,h4⟩
theorem aX5{V wr:World}{H:lJ}{i:Nat}{mem l0 l1 LK SQ:Int}{SD:ByteArray}{aT:Bool}(h:dZ O V wr C p fa cs (s.mT p H rd i) rd B m)(hx:(LK=gS (s.goes p.S H rd i).2/\SQ=dN (s.goes p.S H rd i).2/\SD=dE (s.goes p.S H rd i).2)/\tY p (s.goes p.S H rd i).2/\aT=s.sends H (p.S.nd i)/\(aT=true->mem=aZ (s.pH p.S H (p.S.nd i)) p.n))(hw:p.S.nd i<p.n)(hn:p.n<=16)(hB:B<=9999000)(h0:∀j,j<p.n->aW l0 j=H.lost i 0 j)(h1:∀j,j<p.n->aW l1 j=H.lost i 1 j):
  Calls prog 129 #[pP C,.agg #[iI (p.S.nd i:Nat),iI i,iI mem,iI LK,iI SQ,sT SD],.bool aT,.agg #[iI l0,iI l1]] wr fun e w'=>e=rT (tU #[])/\dZ O V w' C p fa cs (s.slot p.S H rd i) rd (B+5*p.n) m:=by obtain⟨O',h,c⟩:=h;obtain⟨⟨rfl,rfl,rfl⟩,hm,hs,J3⟩:=hx;refine(aP0 c hm hw hn hB hs J3 h0 h1).mono ?_;rintro e w' ⟨he,O'',h3,h4⟩;exact⟨he,O'',h.trans h3,h4⟩
end
end
section
section
variable{w:World}{O:List Nat}{C:Nat}{p:aQ}{fa:Int}{cs:List Int}{s:cA}{rd:Int}{B:Nat}{m:wV}
def Z6(w w':World)(O:List Nat)(C:Nat)(p:aQ)(fa:Int)(cs:List Int)(s:cA)(rd:Int)(B:Nat)(m:wV)(r:cT)(e:Ending):Prop:=
 ∃O',aS O O' w w'/\((nY p fa cs r=true/\e=rT (fI 6)/\Cl w' O' C p fa cs s rd B m)\/(nY p fa cs r=false/\e=rT (fI 0)/\∃m',Cl w' O' C p fa (nZ p fa cs r) (aCe p fa s rd r) (rd+1) (B+2600) m'))
theorem aOv(h:Cl w O C p fa cs s rd B m)(lF:vX p fa cs)(sH:0<=rd)(uT:rd<=1000000)(wS:1<=B)(hB:B<=9000000)(r:cT)(a:nJ)(hr:r.In a w)(hma:∀b off,a.ma=some (aA b off)->0<r.bH.length->b∉O):
  Calls prog 74 #[pP C,r.val a] w fun e w'=>Z6 w w' O C p fa cs s rd B m r e:=zNk
end
end
