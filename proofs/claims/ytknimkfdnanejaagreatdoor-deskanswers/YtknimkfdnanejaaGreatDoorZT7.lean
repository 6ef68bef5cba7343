import Derived.Test.YtknimkfdnanejaaGreatDoorZT5
import Derived.Test.YtknimkfdnanejaaGreatDoorZT6
import Derived.Deep.LoopGhost
namespace Go.Proofs.YtknimkfdnanejaaGreatDoor
open Go.RowKit Go.Proofs.Tryz
set_option maxRecDepth 100000
set_option maxHeartbeats 16000000
section
variable{V u u':World}
theorem aZy(h:Below V.drew.heap.size V.drew u):bW V u:=⟨h.os,h.tape,h.output,h.size,h.block⟩
theorem jS(hW:bW V u)(h:bW u u'):bW V u':=hW.trans (h.mono hW.size)
theorem aO6(hW:bW V u)(h:Below u.drew.heap.size u.drew u'):bW V u':=jS hW (aZy h)
theorem oE{o:Obj}(hW:bW V u)(h:Below (u.alloc o).heap.size (u.alloc o) u'):bW V u':=jS (hW.alloc hW.size _) h
theorem G8{o:Obj}(hW:bW V u)(h:Below (u.drew.alloc o).heap.size (u.drew.alloc o) u'):bW V u':=jS (hW.alloc hW.size o) ⟨h.os,h.tape,h.output,h.size,h.block⟩
def X7(b:Nat)(nodes aF aJ aC aH round frame:Int)(sa la wa:Option Addr)(ns sc nl lc nw wc:Nat)(u:World):Prop:=
 u.cell? (aA b 0)=some (iI nodes)/\u.cell? (aA b 1)=some (iI aF)/\u.cell? (aA b 2)=some (iI aJ)/\u.cell? (aA b 3)=some (iI aC)/\u.cell? (aA b 4)=some (iI aH)/\u.cell? (aA b 5)=some (iI round)/\u.cell? (aA b 6)=some (sV sa ns sc)/\u.cell? (aA b 7)=some (sV la nl lc)/\u.cell? (aA b 8)=some (iI frame)/\u.cell? (aA b 9)=some (sV wa nw wc)
theorem X7.below{b:Nat}{nodes aF aJ aC aH round frame:Int}{sa la wa:Option Addr}{ns sc nl lc nw wc:Nat}(h:X7 b nodes aF aJ aC aH round frame sa la wa ns sc nl lc nw wc u)(hb:bW u u'):X7 b nodes aF aJ aC aH round frame sa la wa ns sc nl lc nw wc u':=by obtain⟨h0,h1,h2,h3,h4,h5,h6,h7,h8,h9⟩:=h;exact⟨aO h0 hb,aO h1 hb,aO h2 hb,aO h3 hb,aO h4 hb,aO h5 hb,aO h6 hb,aO h7 hb,aO h8 hb,aO h9 hb⟩
theorem aSi(nodes aF aJ aC aH round frame:Int)(sa la wa:Option Addr)(ns sc nl lc nw wc:Nat)(w:World)(t:TypeId):
  X7 w.heap.size nodes aF aJ aC aH round frame sa la wa ns sc nl lc nw wc (w.alloc (.cells #[iI nodes,iI aF,iI aJ,iI aC,iI aH,iI round,sV sa ns sc,sV la nl lc,iI frame,sV wa nw wc] t))/\bW w (w.alloc (.cells #[iI nodes,iI aF,iI aJ,iI aC,iI aH,iI round,sV sa ns sc,sV la nl lc,iI frame,sV wa nw wc] t)):=
 ⟨⟨oh,oh,oh,oh,oh,oh,oh,oh,oh,oh⟩,(kX _ _).alloc (kF _) _⟩
theorem iA(R:Bool)(fv:Value)(lo hi x:Int)(b cap:Nat)(w:World)(hB:Btw w fv lo hi)(h0:w.cell? (aA b 0)=some (iI x))(hR:decide (lo<=x/\x<=hi)=R):
  Calls prog 195 #[fv,sL b 1 cap] w fun e w'=>e=rT (.bool R)/\bW w w':=hR▸bEi fv lo hi x b cap w hB h0
theorem aDh(R:Bool)(fv:Value)(lo hi x y:Int)(b cap:Nat)(w:World)(hB:Btw w fv lo hi)(h0:w.cell? (aA b 0)=some (iI x))(h1:w.cell? (aA b 1)=some (iI y))(hR:decide ((lo<=x/\x<=hi)/\lo<=y/\y<=hi)=R):
  Calls prog 195 #[fv,sL b 2 cap] w fun e w'=>e=rT (.bool R)/\bW w w':=hR▸bEj fv lo hi x y b cap w hB h0 h1
theorem aDi(R:Bool)(fv:Value)(lo hi x y z:Int)(b cap:Nat)(w:World)(hB:Btw w fv lo hi)(h0:w.cell? (aA b 0)=some (iI x))(h1:w.cell? (aA b 1)=some (iI y))(h2:w.cell? (aA b 2)=some (iI z))(hR:decide ((lo<=x/\x<=hi)/\(lo<=y/\y<=hi)/\lo<=z/\z<=hi)=R):
  Calls prog 195 #[fv,sL b 3 cap] w fun e w'=>e=rT (.bool R)/\bW w w':=hR▸bEk fv lo hi x y z b cap w hB h0 h1 h2
theorem Btw.alloc{w:World}{fv:Value}{lo hi:Int}(h:Btw w fv lo hi)(o:Obj):Btw (w.alloc o) fv lo hi:=h.below ((kX _ _).alloc (kF _) _)
theorem vK(n:Int)(h0:0<=n)(h:n<=1000000):IntKind.i64.wrap n=n:=zD7
theorem aLu(n:Nat)(h:n<=15):1<=(2:Int)^n/\(2:Int)^n<=32768:=zG0
end
theorem aQ7{v w:World}(h:bW v w):∀b o,b<v.heap.size->w.cell? (aA b o)=v.cell? (aA b o):=fun _ _ hb=>h.cell hb
theorem rC{w w1:World}{o:Obj}(hb:Below (w.alloc o).heap.size (w.alloc o) w1):bW w w1:=((kX _ _).alloc (kF _) _).trans (hb.mono oh)
theorem bA8{w w1:World}{a b c d:Value}{T:TypeId}(hb:Below (w.alloc (.cells #[a,b,c,d] T)).heap.size (w.alloc (.cells #[a,b,c,d] T)) w1):
  w1.cell? (aA w.heap.size 0)=some a/\w1.cell? (aA w.heap.size 1)=some b/\w1.cell? (aA w.heap.size 2)=some c/\w1.cell? (aA w.heap.size 3)=some d/\w.heap.size<w1.heap.size:=by have hz:=hb.size;simp at hz;refine⟨?_,?_,?_,?_,od⟩<;>(rw[aQ7 hb _ _ oh];simp)
theorem aPv(f s n d r:Int)(w:World)(h:cV f s n d=false):
  Calls prog 82 #[.agg #[iI f,iI s,iI n,iI d],iI r] w fun e w'=>e=rT (tU #[iI 0,.iface 25 (iI 1)])/\bW w w':=by have HR:Hid (cV f s n d=false):=h;clear h;have W9:=Tryz.mf;go_enter func82,ntmps82;exact zEd
theorem aHj(f s n d r:Int)(w:World)(h:cV f s n d=true)(hr:r<f):
  Calls prog 82 #[.agg #[iI f,iI s,iI n,iI d],iI r] w fun e w'=>e=rT (tU #[iI 0,.iface 25 (iI 2)])/\bW w w':=by have HR:Hid (cV f s n d=true):=h;clear h;have W9:=Tryz.mf;have hn:decide (f<=r)=false:=kC od;go_enter func82,ntmps82;exact zLy
theorem aL4(f s n d r:Int)(w:World)(h:cV f s n d=true)(hr:1099511627776<r):
  Calls prog 82 #[.agg #[iI f,iI s,iI n,iI d],iI r] w fun e w'=>e=rT (tU #[iI 0,.iface 25 (iI 2)])/\bW w w':=zMi
theorem aU0(f s n d r:Int)(w:World)(h:cV f s n d=true)(hr:f<=r)(pE:r<=1099511627776)(hv:s+(r-f)*n/d<=1099511627776):
  Calls prog 82 #[.agg #[iI f,iI s,iI n,iI d],iI r] w fun e w'=>e=rT (tU #[iI (s+(r-f)*n/d),.nilIface])/\bW w w':=zGu
theorem aL3(f s n d r:Int)(w:World)(h:cV f s n d=true)(hr:f<=r)(pE:r<=1099511627776)(hv:1099511627776<s+(r-f)*n/d):
  Calls prog 82 #[.agg #[iI f,iI s,iI n,iI d],iI r] w fun e w'=>e=rT (tU #[iI 0,.iface 25 (iI 2)])/\bW w w':=zGu
section
variable{b i j:Nat}
def mZ(w:World)(X:List Nat)(v:Value)(l:List ByteArray):Prop:=
 ∃a cap,v=sV a l.length cap/\l.length<=cap/\cap<=maxLen/\(0<l.length->∃b off,a=some (aA b off)/\b∈X/\b<w.heap.size/\∀j,j<l.length->w.cell? (aA b (off+j))=some (sT (l.getD j ByteArray.empty)))
theorem mZ.keep{w w':World}{X X':List Nat}{v:Value}{l:List ByteArray}(h:mZ w X v l)(k:Same X w w')(hX:∀c,c∈X->c∈X'):mZ w' X' v l:=by obtain⟨a,cap,h1,h2,h3,h4⟩:=h;refine⟨a,cap,h1,h2,h3,fun hl=>?_⟩;obtain⟨b,off,e,hb,hlt,hc⟩:=h4 hl;exact⟨b,off,e,hX b hb,kB hlt k.1,fun j hj=>(k.cell (p:=(aA b (off+j))) hb).trans (hc j hj)⟩
theorem mZ.nil(w:World)(X:List Nat):mZ w X (sV none 0 0) []:=⟨none,0,rfl,kF _,oe,fun h=>absurd h (kU _)⟩
theorem mZ.rest{w:World}{X:List Nat}{off cap:Nat}{d:ByteArray}{l:List ByteArray}(h:mZ w X (sV (some (aA b off)) (l.length+1) cap) (d::l)):mZ w X (sV (some ⟨b,if cap=1 then off else off+1,none⟩) l.length (cap-1)) l:=by
 obtain⟨a,cap',h1,h2,h3,h4⟩:=h;injection h1 with e1 _ e3;subst e3;refine⟨_,cap-1,rfl,by simp at h2;omega,od,fun hl=>?_⟩;obtain⟨b',aLk,e,hb,hlt,hc⟩:=h4 oh;rw[<-e1]at e;injection e with e;injection e with e5 e6;subst e5;subst e6;refine⟨b,_,rfl,hb,hlt,fun j hj=>?_⟩;have dM:cap≠1:=by simp at h2;omega
 rw[kI dM];have:=hc (j+1) ol;rw[show off+1+j=off+(j+1)by omega];(first|(simp;done)|simpa using this)
def jT(w:World)(X:List Nat)(b:Nat)(aR:Nat->Nat->List ByteArray):Prop:=
 ∃g,jL w b g/\∀i j,i<8->j<16->(g i j=none/\aR i j=[])\/∃v,g i j=some v/\mZ w X v (aR i j)
theorem jT.look{w:World}{X:List Nat}{aR:Nat->Nat->List ByteArray}(h:jT w X b aR)(hi:i<8)(hj:j<16):∃v,(Instr.lookup 107 (.map (some b)) (aAf i j) false).run prog w=.ok v w/\mZ w X v (aR i j):=by
 obtain⟨g,hg,hr⟩:=h;have hl:=hg.look (t:=107) (e:=43) underlying107 (zeroValue43 w) hi hj;rcases hr i j hi hj with⟨h1,h2⟩|⟨v,h1,h2⟩
 ·rw[h1]at hl;rw[h2];exact⟨_,hl,mZ.nil _ _⟩
 ·rw[h1]at hl;exact⟨v,hl,h2⟩
theorem jT.put{w:World}{X:List Nat}{aR:Nat->Nat->List ByteArray}(h:jT w X b aR)(hbX:b∉X)(hi:i<8)(hj:j<16){v:Value}{l:List ByteArray}(hv:mZ w X v l):∃w',(Instr.mapUpdate 107 (.map (some b)) (aAf i j) v).run prog w=.ok () w'/\jT w' X b (fun i' j'=>if i'=i/\j'=j then l else aR i' j')/\aU b b w w':=by
 obtain⟨g,hg,hr⟩:=h;obtain⟨w',h1,h2,h3⟩:=hg.put (t:=107) (e:=43) underlying107 v hi hj;have hs:∀v l,mZ w X v l->mZ w' X v l:=fun v l q=>by obtain⟨a,cap,q1,q2,q3,q4⟩:=q;refine⟨a,cap,q1,q2,q3,fun hl=>?_⟩;obtain⟨c,off,e,hc,hlt,tN⟩:=q4 hl;have dM:c≠b:=fun e=>hbX (e▸hc);exact⟨c,off,e,hc,kB hlt h3.size,fun j hj=>(h3.cell (p:=(aA c (off+j))) hlt dM dM).trans (tN j hj)⟩
 refine⟨w',h1,⟨_,h2,fun i' j' qC D8=>?_⟩,h3⟩;by_cases q:i'=i/\j'=j
 ·have e:(if i'=i/\j'=j then l else aR i' j')=l:=kJ q;refine .inr ⟨v,kJ q,?_⟩;simp only[e];exact hs v l hv
 ·have e:(if i'=i/\j'=j then l else aR i' j')=aR i' j':=kI q;rcases hr i' j' qC D8 with⟨q1,q2⟩|⟨u,q1,q2⟩
  ·exact .inl ⟨(kI q).trans q1,e.trans q2⟩
  ·refine .inr ⟨u,(kI q).trans q1,?_⟩;simp only[e];exact hs u _ q2
theorem T0(n:Nat)(h:n<=15):1<=(2:Int)^n/\(2:Int)^n<=32768:=zG0
end
theorem aUh(n:Nat)(h:n<=16):1<=(2:Int)^n/\(2:Int)^n<=65536:=zCm
theorem I5(k:Nat)(hk:k<=16)(w:World):Calls prog 114 #[iI k] w fun e w'=>e=rT (iI (2^k))/\w'=w:=by have p:=aUh k hk;go_enter func114,ntmps114;exact C6
theorem yJ(x:Int)(j:Nat)(hj:j<=16)(w:World):Calls prog 130 #[iI x,iI j] w fun e w'=>e=rT (.bool (aW x j))/\w'=w:=by have p:=aUh j hj;have hb:=zT x (j:=j) od;have HB:=I5 j hj w;generalize(2:Int)^j=T at *;go_enter func130,ntmps130;go_wp2_with fail;refine HB.mono ?_;rintro e w1 ⟨rfl,h⟩;replace h:=h.symm;subst h;clear HB;exact C6
theorem Tryz.makesFunc9(fn:Fn)(first cap:Array Value)(w:World):(Instr.makeFunc fn first cap).run prog w=.ok (.func fn first cap) w:=rfl
theorem aGh(most:Int)(w:World):Calls prog 162 #[iI most] w fun e w'=>e=rT (.func (.func 200) #[] #[pP w.heap.size])/\w'=w.alloc (.cells #[iI most] 3):=by have W9:=Tryz.makesFunc9;go_enter func162,ntmps162;exact C6
theorem dY{w:World}{X i:Nat}{v:Value}(h:w.cell? (aA X i)=some v):X<w.heap.size:=by
 rcases Nat.lt_or_ge X w.heap.size with g|g
 ·exact g
 ·simp[World.cell?,Array.getElem?_eq_none g]at h
theorem zU(x most:Int)(B:Nat)(h0:0<=most)(h1:most<=1099511627776)(w:World)(hc:w.cell? (aA B 0)=some (iI most)):
  Calls prog 200 #[iI x,pP B] w fun e w'=>e=rT (iI (cutV x most))/\w'=w:=by
 have hl:B<w.heap.size:=dY hc;unfold cutV;by_cases k1:x< -most
 ·rw[show max (-most) (min most x)=-most by omega];exact zB5
 ·have k1':=kC k1;by_cases k2:most<x
  ·rw[show max (-most) (min most x)=most by omega];exact zB5
  ·rw[show max (-most) (min most x)=x by omega];have k2':=kC k2;exact zB5
def iW(x:Int):Bool:=decide (x< -274877906944\/274877906944<x)
theorem aGo(x:Int)(w:World):Calls prog 118 #[iI x] w fun e w'=>e=rT (.bool (iW x))/\bW w w':=by
 have HC:=aGh 274877906944 w;have H1:=zU x 274877906944 w.heap.size oe oe (w.alloc (.cells #[iI 274877906944] 3)) oh;have hb:bW w (w.alloc (.cells #[iI 274877906944] 3)):=(kX _ _).alloc (kF _) _;have HB:Hid _:=hb;clear hb;have he:(cutV x 274877906944 !=x)=iW x:=by
  unfold cutV iW;by_cases h:x< -274877906944\/274877906944<x
  ·rw[kD h];simp;omega
  ·rw[kC h];simp;omega
 generalize cutV x 274877906944=y at *;generalize iW x=b at *;go_enter func118,ntmps118;go_wp2_with fail;refine HC.mono ?_;rintro e w1 ⟨rfl,rfl⟩;go_wp2_with fail;refine H1.mono ?_;rintro e w1 ⟨rfl,rfl⟩;go_wp2;go_ret;exact⟨rfl,HB.out⟩
def yB(l:List Int)(i:Int):Prop:=
 (i=-1/\∀j,j<l.length->iW (l.getD j 0)=false)\/∃k:Nat,k<l.length/\i=k/\iW (l.getD k 0)=true
theorem yB.is{l:List Int}{i:Int}(h:yB l i):decide (0<=i)=l.any iW:=by
 rcases h with⟨rfl,h⟩|⟨k,hk,rfl,h⟩
 ·rw[kC od];symm;rw[Bool.eq_false_iff];intro h2;obtain⟨x,hx,h3⟩:=List.any_eq_true.1 h2;obtain⟨j,hj,rfl⟩:=List.getElem_of_mem hx;have:=h j hj;simp[List.getD,hj]at this;rw[this]at h3;cases h3
 ·rw[kD od];symm;refine List.any_eq_true.2 ⟨l[k],List.getElem_mem hk,?_⟩;simpa[List.getD,hk]using h
theorem aOo(a:Option Addr)(cap n:Nat)(l:List Int)(hl:l.length=n)(w:World)(hr:bE w a l)(hn:n<=1000):
  Calls prog 161 #[sV a n cap,.func (.func 118) #[] #[]] w fun e w'=>∃i,e=rT (iI i)/\yB l i/\bW w w':=by
 have HR:Hid (bE w a l):=hr;have HL:Hid (l.length=n):=hl;clear hr hl;go_enter func161,ntmps161;go_wp2_with fail;go_loopw[8] (fun t wr=>∃k:Nat,k<=n/\t=iI k/\Hid (∀j,j<k->iW (l.getD j 0)=false)/\Hid (bW w wr)) (fun t _=>n-(intOf t).toNat);case atStart=>exact⟨0,kH _,rfl,fun j hj=>absurd hj (kT _),kX _ _⟩
 case round=>
  obtain⟨k,hk,rfl,h0,bT⟩:=hrel;by_cases hlt:k<n
  ·obtain⟨b,off,rfl,hb,hc⟩:=HR.out Jo;have y0:=bc bT.out hb (hc k Jo);clear hc;have hz:b<wr.heap.size:=kB hb bT.out.size;have kk:(k:Int)<(n:Int):=od;have qF:=aGo (l.getD k 0) wr;have HLT:Hid (k<n):=hlt;by_cases hit:iW (l.getD k 0)=true
   ·rw[hit]at qF;have bI7:Hid (yB l k):=.inr ⟨k,Jo,rfl,hit⟩;clear hit;exact zLk
   ·have bBu:iW (l.getD k 0)=false:=by simpa using hit
    rw[bBu]at qF;have HN:Hid (∀j,j<k+1->iW (l.getD j 0)=false):=fun j hj=>by
     rcases Nat.lt_or_ge j k with q|q
     ·exact h0.out j q
     ·obtain rfl:j=k:=by omega
      exact bBu
    clear hit bBu h0;have bK6:=0;exact zLk
  ·have M2:k=n:=by omega
   have HM:Hid (yB l (-1)):=.inl ⟨rfl,fun j hj=>h0.out j Jo⟩;have kk:decide (k<n)=false:=kC od;clear M2 hlt;go_wp2;go_ret;exact⟨_,rfl,HM.out,bT.out⟩
theorem aGi(a:Option Addr)(cap n:Nat)(l:List Int)(hl:l.length=n)(w:World)(hr:bE w a l)(hn:n<=1000):
  Calls prog 117 #[sV a n cap,.func (.func 118) #[] #[]] w fun e w'=>e=rT (.bool (l.any iW))/\bW w w':=by have HF:=aOo a cap n l hl w hr hn;clear hr hl;obtain⟨B,hB⟩:∃B,l.any iW=B:=⟨_,rfl⟩;have HB:Hid (l.any iW=B):=hB;rw[hB];clear hB;go_enter func117,ntmps117;go_wp2_with fail;refine HF.mono ?_;rintro e w1 ⟨i,rfl,hi,hb⟩;have he:=hi.is;rw[HB.out]at he;clear hi HF;go_wp2;go_ret;exact⟨rfl,hb⟩
def aN5(k:Nat):Bool:=decide (k=15)||(decide (83<=k)&&decide (k<=91))
def aN4(k:Nat):Bool:=decide (k=15)||(decide (83<=k)&&decide (k<=91))
theorem bD6(body:Code)(mP:(Tryz.f52.body.map cY).bind (fun l=>l[1]?)=some body)(Q:Exit->Act->World->Prop)(RB n:Nat)(ca:Option Addr)(cI:Nat)(cs:List Int)(w:World)(hlen:cs.length=n)(hn:n<=9223372036854775807)(hr:bE w ca cs)(r0:w.cell? (aA RB 0)=some (iI 0))(r1:w.cell? (aA RB 1)=some (iI 0))(q0:w.frozen? (aA RB 0)=false)(q1:w.frozen? (aA RB 1)=false){L:List Value}(tC:L.length=139)(s6:L[6]?=some (.pointer none))(s7:L[7]?=some (pP RB))(s81:L[81]?=some (sV ca n cI))(s82:L[82]?=some (iI n))(s83:L[83]?=some (iI 0))
  (cN:∀(L':List Value) (wr:World),(∀c∈cs,-274877906944<=c/\c<=274877906944)->wr=w->L'.length=139->Rest aN5 L L'->L'[83]?=some (iI n)->Q (.exit 2) ⟨L'.toArray,[]⟩ wr)
  (aY1:∀(L':List Value) (wr:World),¬(∀c∈cs,-274877906944<=c/\c<=274877906944)->(wr.cell? (aA RB 0)=some (iI 2)/\wr.cell? (aA RB 1)=some (iI (-1)))->aU RB RB w wr->L'.length=139->Rest aN4 L L'->Q .ret ⟨L'.toArray,[]⟩ wr):
  Code.wp prog (Code.loop body) Q ⟨L.toArray,[]⟩ w:=by have dQ:((Tryz.f52.body.map cY).bind (fun l=>l[1]?)).getD Code.skip=body:=ey;exact zN9
