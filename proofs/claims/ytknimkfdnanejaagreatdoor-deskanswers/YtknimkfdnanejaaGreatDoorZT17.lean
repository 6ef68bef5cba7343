import Derived.Test.YtknimkfdnanejaaGreatDoorZT15
import Derived.Test.YtknimkfdnanejaaGreatDoorZT16
namespace Go.Proofs.YtknimkfdnanejaaGreatDoor
open Go.RowKit Go.Proofs.Tryz
set_option maxRecDepth 100000
set_option maxHeartbeats 16000000
theorem aJ2(fr tq bag queue:Int)(w:World)(hb:(1<=bag/\bag<=1099511627776)/\1<=queue/\queue<=16):
  Calls prog 204 #[.agg #[iI fr,iI tq,iI bag,iI queue]] w fun e w'=>∃O P,e=rT (tU #[pP P,.nilIface])/\Sdr w' O P bag queue [] 0 0 0/\bW w w'/\∀c,c∈O->w.heap.size<=c:=by
 have k1:decide (bag<1)=false:=kC od;have k2:decide (1099511627776<bag)=false:=kC od;have k3:decide (queue<1)=false:=kC od;have k4:decide (16<queue)=false:=kC od;clear hb;have hR:=fun(V:World)=>aUi (w:=V) (bag:=bag) (queue:=queue);have HR:Hid _:=hR;clear hR;go_enter func204,ntmps204;go_wp2;have fin:=HR.out (w.alloc (.cells #[iI fr,iI tq,iI bag,iI queue] 96));rw[show(w.alloc (.cells #[iI fr,iI tq,iI bag,iI queue] 96)).heap.size=w.heap.size+1 by simp]at fin;go_ret2;exact⟨_,_,rfl,fin,((kX _ _).alloc (kF _) _).alloc oh _,fun c hc=>by
  simp only[List.mem_cons,List.not_mem_nil,or_false]at hc
  omega⟩
theorem Tryz.aY4:(Tryz.prog.info? 210).map (fun i=>(i.zero,i.size,i.bytes))=some (some (.pointer none),1,8):=by kernel_rfl
theorem aN1(w:World)(a b c d x y z:Value)(t u:TypeId)(V:World)(hV:(w.alloc (.cells #[a,b,c,d] t)).alloc (.cells #[x,y,z] u)=V):
  (V.cell? (aA w.heap.size 0)=some a/\V.cell? (aA w.heap.size 1)=some b/\V.cell? (aA w.heap.size 2)=some c/\V.cell? (aA w.heap.size 3)=some d)/\(V.cell? (aA (w.heap.size+1) 0)=some x/\V.cell? (aA (w.heap.size+1) 1)=some y/\V.cell? (aA (w.heap.size+1) 2)=some z)/\(∀i,V.frozen? (aA (w.heap.size+1) i)=false)/\bW w V/\V.heap.size=w.heap.size+2:=by
 subst hV;have hs:(w.alloc (.cells #[a,b,c,d] t)).heap.size=w.heap.size+1:=oh;have k:Below (w.heap.size+1) (w.alloc (.cells #[a,b,c,d] t)) ((w.alloc (.cells #[a,b,c,d] t)).alloc (.cells #[x,y,z] u)):=(kX _ _).alloc od _;have c1:∀i,((w.alloc (.cells #[a,b,c,d] t)).alloc (.cells #[x,y,z] u)).cell? (aA w.heap.size i)=(w.alloc (.cells #[a,b,c,d] t)).cell? (aA w.heap.size i):=fun i=>k.cell (p:=(aA w.heap.size i)) oh;refine⟨⟨(c1 0).trans oh,(c1 1).trans oh,(c1 2).trans oh,(c1 3).trans oh⟩,⟨?_,?_,?_⟩,fun i=>?_,((kX _ _).alloc (kF _) _).alloc oh _,oh⟩
 ·rw[<-hs];simp
 ·rw[<-hs];simp
 ·rw[<-hs];simp
 ·rw[<-hs];simp
theorem aHr(kk n:Nat)(fr tq bag queue:Int)(w:World)(hn:n<=16)(hb:(1<=bag/\bag<=1099511627776)/\1<=queue/\queue<=16):
  Calls prog 164 #[.agg #[iI fr,iI tq,iI bag,iI queue],iI n] w fun e w'=>bW w w'/\∃N S E D R Q,e=rT (tU #[.agg #[iI fr,pP S,sL E n n],.nilIface])/\eF w.heap.size w' N kk n n tq bag queue S E D R Q:=by
 obtain⟨i0,hi,lO,mX,jX⟩:=info_parts Tryz.aY4;have hmk:=fun(v:World)=>run_makeSlice (P:=prog) v 206 210 i0 _ underlying206 hi lO .i64 .i64 (n:Int) (n:Int) od (Int.le_refl _) Jj jw od;rw[Int.toNat_natCast,mX,Nat.mul_one]at hmk;clear hi lO mX jX;obtain⟨V,hV⟩:∃V,(w.alloc (.cells #[iI fr,iI tq,iI bag,iI queue] 96)).alloc (.cells #[iI 0,.pointer none,sV none 0 0] 208)=V:=⟨_,rfl⟩;obtain⟨⟨l0,l1,l2,l3⟩,⟨r0,r1,r2⟩,rz,hBV,hVs⟩:=aN1 w _ _ _ _ _ _ _ _ _ V hV;have hs:=aJ2 fr tq bag queue V hb;have l0w:w.heap.size<V.heap.size:=od;have l1w:w.heap.size+1<V.heap.size:=od;have HBV:Hid (bW w V/\V.heap.size=w.heap.size+2):=⟨hBV,hVs⟩;obtain⟨L,hL⟩:∃L,w.heap.size=L:=⟨_,rfl⟩;have HLL:Hid (w.heap.size=L):=hL;have HLR:Hid (V.cell? (aA w.heap.size 0)=some (iI fr)/\V.cell? (aA w.heap.size 1)=some (iI tq)/\(V.cell? (aA (w.heap.size+1) 0)=some (iI 0)/\V.cell? (aA (w.heap.size+1) 1)=some (.pointer none)/\V.cell? (aA (w.heap.size+1) 2)=some (sV none 0 0))/\∀i,V.frozen? (aA (w.heap.size+1) i)=false):=⟨l0,l1,⟨r0,r1,r2⟩,rz⟩;have HMK:Hid _:=hmk;clear hmk hb hVs hBV r0 r1 r2 rz hL;go_enter func164,ntmps164;go_wp2_with fail;refine hs.mono ?_;rintro e w1 ⟨OS,S,rfl,hSd,uY,X9⟩;have bFj:=HMK.out w1;obtain⟨w2,qP⟩:∃w2,w1.alloc (.cells (madeCells #[.pointer none] n) 210)=w2:=⟨_,rfl⟩;have HF:=eF.first hSd X9 uY qP kk tq (fun _=>0) (fun _=>0) (fun _=>0);have Z1:Hid (∃D R Q N,eF V.heap.size w2 N kk n 0 tq bag queue S w1.heap.size D R Q/\bW V w2):=by obtain⟨⟨N,hN⟩,hB⟩:=HF;exact⟨_,_,_,N,hN,hB⟩
 rw[show(Value.pointer none).cells=#[.pointer none]from rfl,qP]at bFj;clear hs HF hSd X9 uY qP l0 l1 l2 l3 hV HMK;go_wp2_with fail;clear bFj;generalize w1.heap.size=E at *;go_loopw[25] (fun t wr=>∃J:Nat,J<=n/\t=iI J/\Hid (∃D R Q N,eF V.heap.size wr N kk n J tq bag queue S E D R Q/\bW V wr)) (fun t _=>n-(intOf t).toNat);case atStart=>exact⟨0,kH _,rfl,Z1⟩
 case round=>
  obtain⟨J,hJ,rfl,HI⟩:=hrel;clear Z1;by_cases hlt:J<n
  ·have jj:(J:Int)<(n:Int):=by omega
   have y1:=bc HI.out.choose_spec.choose_spec.choose_spec.choose_spec.2 l0w HLR.out.2.1;have J2:w.heap.size<wr.heap.size:=kB l0w HI.out.choose_spec.choose_spec.choose_spec.choose_spec.2.size;have yO:=yJ tq J od wr;by_cases N2:aW tq J=true
   ·rw[N2]at yO;have bFs:=aI5 16 wr od;exact zMx
   ·have wU:aW tq J=false:=by simpa using N2
    rw[wU]at yO;have HN:Hid (∃D R Q N,eF V.heap.size wr N kk n (J+1) tq bag queue S E D R Q/\bW V wr):=by obtain⟨D,R,Q,N,h1,h2⟩:=HI.out;exact⟨D,R,Q,N,h1.skip wU,h2⟩
    clear HI;have bKr:=0;exact zMx
  ·have hJn:J=n:=by omega
   have kj:decide (J<n)=false:=kC od;obtain⟨D,R,Q,N,hN,U9⟩:=HI.out;rw[hJn]at hN;have x0:=bc U9 l0w HLR.out.1;have y0:=bc U9 l1w HLR.out.2.2.1.1;have y1:=bc U9 l1w HLR.out.2.2.1.2.1;have y2:=bc U9 l1w HLR.out.2.2.1.2.2;have z0:=(U9.frozen (p:=(aA (w.heap.size+1) 0)) l1w).trans (HLR.out.2.2.2 0);have z1:=(U9.frozen (p:=(aA (w.heap.size+1) 1)) l1w).trans (HLR.out.2.2.2 1);have z2:=(U9.frozen (p:=(aA (w.heap.size+1) 2)) l1w).trans (HLR.out.2.2.2 2);have h0r:w.heap.size<wr.heap.size:=kB l0w U9.size;have h1r:w.heap.size+1<wr.heap.size:=kB l1w U9.size;have HD:Hid (eF V.heap.size wr N kk n n tq bag queue S E D R Q/\bW V wr):=⟨hN,U9⟩;clear HI hN U9 hlt;go_wp2;obtain⟨hN,U9⟩:=HD.out;have wS:=HBV.out;obtain⟨W3,hW3⟩:∃W3,((wr.setCell (aA (w.heap.size+1) 0) (iI fr)).setCell (aA (w.heap.size+1) 1) (pP S)).setCell (aA (w.heap.size+1) 2) (sL E n n)=W3:=⟨_,rfl⟩;have q0:W3.cell? (aA (w.heap.size+1) 0)=some (iI fr):=by rw[<-hW3];exact(aB (.inr oe)).trans ((aB (.inr oe)).trans (aY y0))
   have q1:W3.cell? (aA (w.heap.size+1) 1)=some (pP S):=by rw[<-hW3];exact(aB (.inr oe)).trans (aY ((aB (.inr oe)).trans y1))
   have q2:W3.cell? (aA (w.heap.size+1) 2)=some (sL E n n):=by rw[<-hW3];exact aY ((aB (.inr oe)).trans ((aB (.inr oe)).trans y2))
   have hT:aU (w.heap.size+1) (w.heap.size+1) wr W3:=by rw[<-hW3];exact(((aU.refl _ _ wr).set (p:=(aA (w.heap.size+1) 0)) (.inl rfl) _).set (p:=(aA (w.heap.size+1) 1)) (.inl rfl) _).set (p:=(aA (w.heap.size+1) 2)) (.inl rfl) _
   rw[hW3];have hBw:bW w wr:=wS.1.trans (U9.mono wS.1.size);refine bodyPost_ret (v:=tU #[.agg #[iI fr,pP S,sL E n n],.nilIface]) (by simp[results,results164,go_sem,q0,q1,q2]) rfl ⟨hBw.trans (hT.below hBw.size od od),N,S,E,D,R,Q,rfl,(hN.same hT.size (fun c h1 h2=>hT.block c h2 od od)).low od⟩
section
open Go.RowKit Go.Shelf Go.Sort
theorem xI{n:Nat}{lies:Nat->Bool}{aC:Int}{now:Nat->Int}(hj0:0<=aC)(hj1:aC<=137438953472)(uS:∀i,i<n->-274877906944<=now i/\now i<=274877906944)(l:List I1):∀i k,i<n->k<n->-1099511627776<=readAll n lies aC now l i k/\readAll n lies aC now l i k<=1099511627776:=by
 have key:∀(l:List I1)(row:Nat->Nat->Int),(∀i k,i<n->k<n->-1099511627776<=row i k/\row i k<=1099511627776)->∀i k,i<n->k<n->-1099511627776<=l.foldl (fun row x=>jG n lies aC now x row) row i k/\l.foldl (fun row x=>jG n lies aC now x row) row i k<=1099511627776:=by
  intro l
  induction l with
  |nil=>intro row h;exact h
  |cons x l ih=>
   intro row h
   refine ih _ fun i k hi hk=>?_
   show -1099511627776<=jG n lies aC now x row i k/\jG n lies aC now x row i k<=1099511627776
   unfold jG
   split
   ·have a:=uS i hi
    have b:=uS k hk
    have c:=xC (x:=x.is_) hj0
    have d:=xC (x:=x.is_) (most:=549755813888) oe
    split<;>omega
   ·exact h i k hi hk
 refine key l _ fun i k hi hk=>?_;have a:=uS i hi;have b:=uS k hk;show -1099511627776<=now k-now i/\now k-now i<=1099511627776;omega
def rowsOf(n:Nat)(f:Nat->Nat->Int):List (List Int):=(List.range n).map fun i=>(List.range n).map (f i)
theorem pQ(n:Nat)(f:Nat->Nat->Int):(rowsOf n f).length=n:=by simp[rowsOf]
theorem tT(n:Nat)(f:Nat->Nat->Int){i:Nat}(hi:i<n):(rowsOf n f).getD i []=(List.range n).map (f i):=by simp[rowsOf,hi]
theorem RTab.tab{w:World}{base R n Bi:Nat}{f:Nat->Nat->Int}{G cap:Nat->Nat}{v:Value}(h:RTab w base R n n f G cap Bi v):wZ w (some (aA R 0)) (rowsOf n f):=fun _=>by
 refine⟨R,0,rfl,kB h.lR h.lB,fun j hj=>?_⟩;rw[pQ]at hj;rw[tT n f hj];refine⟨_,cap j,?_,fun _=>⟨G j,0,rfl,kB (h.lt j hj) h.lB,fun k hk=>?_⟩⟩
 ·rw[Nat.zero_add,List.length_map,List.length_range];exact h.row j hj
 ·exact zFk
theorem aNl(a:Option Addr)(cap:Nat)(l:List Int)(j n:Nat)(hl:l.length=n)(hn:n<=9223372036854775807)(w:World)(hr:bE w a l):Calls prog 128 #[sV a n cap,iI j] w fun e w'=>e=rT (iI (if j<n then l.getD j 0 else 0))/\w'=w:=by
 by_cases h:j<n
 ·rw[kJ h];obtain⟨b,off,rfl,hb,hc⟩:=hr od;have y:=hc j od;have k1:decide (n<=j)=false:=kC od;have k1':decide ((n:Int)<=(j:Int))=false:=kC od;have k2:(j:Int)<(n:Int):=od;generalize l.getD j 0=X at *;clear hc hr;go_enter func128,ntmps128;exact C6
 ·rw[kI h];have k1:n<=j:=od;have k1':(n:Int)<=(j:Int):=od;go_enter func128,ntmps128;exact C6
theorem aSx(l:List Int)(d:Int)(j:Nat)(hd:0<=d):cutV (if j<l.length then l.getD j 0 else 0) d=eU l d j:=by
 unfold eU;split
 ·rfl
 ·unfold cutV;omega
def aG4(w w':World)(n:Nat)(BY:Bool)(CT:Nat->Int)(e:Ending):Prop:=
 (BY=true/\e=rT (tU #[sV none 0 0,fI 6]))\/(BY=false/\∃g cap,e=rT (tU #[sL g n cap,.nilIface])/\(w.heap.size<=g/\g<w'.heap.size)/\∀j,j<n->w'.cell? (aA g j)=some (iI (CT j)))
theorem bEn(w:World)(a b c d:Value)(t:TypeId):((w.alloc (.cells #[a,b,c,d] t)).cell? (aA w.heap.size 0)=some a/\(w.alloc (.cells #[a,b,c,d] t)).cell? (aA w.heap.size 1)=some b/\(w.alloc (.cells #[a,b,c,d] t)).cell? (aA w.heap.size 2)=some c/\(w.alloc (.cells #[a,b,c,d] t)).cell? (aA w.heap.size 3)=some d)/\bW w (w.alloc (.cells #[a,b,c,d] t))/\(w.alloc (.cells #[a,b,c,d] t)).heap.size=w.heap.size+1:=
 ⟨⟨oh,oh,oh,oh⟩,(kX _ _).alloc (kF _) _,oh⟩
theorem aGf(C cb n cI f:Nat)(fa aC aH:Int)(cs:List Int)(dI:cs.length=n)(w:World)(c0:w.cell? (aA C 0)=some (iI n))(c1:w.cell? (aA C 1)=some (iI f))(c3:w.cell? (aA C 3)=some (iI aC))(c4:w.cell? (aA C 4)=some (iI aH))(c10:w.cell? (aA C 10)=some (iI fa))(c11:w.cell? (aA C 11)=some (sL cb n cI))(ck:∀j,j<cs.length->w.cell? (aA cb j)=some (iI (cs.getD j 0)))(eE:∀x∈cs,-274877906944<=x/\x<=274877906944)(hf3:3*f+1<=n)(hn:n<=16)(aH0:0<=aC)(hji:aC<=137438953472)(hd0:0<=aH)(hd1:aH<=137438953472)(r:cT)(a:nJ)(hr:r.In a w):
  Calls prog 125 #[pP C,r.val a] w fun e w'=>bW w w'/\aG4 w w' n (gV n (jM n f (aW fa) aC aH (fun i=>cs.getD i 0) r.reads r.bA)) (jM n f (aW fa) aC aH (fun i=>cs.getD i 0) r.reads r.bA) e:=by
 have sG:=dY c11;have aTb:=dY (ck 0 od);have uS:∀i,i<n->-274877906944<=cs.getD i 0/\cs.getD i 0<=274877906944:=fun i hi=>eE _ (tM od);have HRI:Hid (r.In a w):=hr;have HRE:Hid (∀v,bW w v->Calls prog 168 #[pP C,sV a.ra r.nR a.rc] v fun e w'=>∃R G rF Bi,e=rT (sL R n n)/\RTab w' v.heap.size R n n (readAll n (aW fa) aC (fun i=>cs.getD i 0) r.reads) G rF Bi (sV none 0 0)/\bW v w'):=fun v hv=>aOw C cb n cI fa aC cs dI v (bc hv sG c0) (bc hv sG c3) (bc hv sG c10) (bc hv sG c11) (fun j hj=>bc hv aTb (ck j hj)) eE od hn aH0 hji r a.ra a.rc (hr.reads.below hv) hr.lR;have HRO:Hid (∀v base R G rF Bi,bW w v->RTab v base R n n (readAll n (aW fa) aC (fun i=>cs.getD i 0) r.reads) G rF Bi (sV none 0 0)->Calls prog 167 #[sL cb n cI,sL R n n,iI f] v fun ev w'=>∃g cap,ev=rT (tU #[sL g n cap,.nilIface])/\(v.heap.size<=g/\g<w'.heap.size/\(∀j,j<n->w'.cell? (aA g j)=some (iI (mW n f (fun i=>cs.getD i 0) (readAll n (aW fa) aC (fun i=>cs.getD i 0) r.reads) j)))/\∀j,w'.frozen? (aA g j)=false)/\bW v w'):=by
  intro v base R G rF Bi hv hT;have hro:=aVk (some (aA cb 0)) (some (aA R 0)) cI n cs (rowsOf n (readAll n (aW fa) aC (fun i=>cs.getD i 0) r.reads)) f v (fun _=>⟨cb,0,rfl,kB aTb hv.size,fun j hj=>by rw[Nat.zero_add];exact bc hv aTb (ck j hj)⟩) hT.tab (by rw[pQ,dI]) od (fun q hq=>by
   obtain⟨i,_,rfl⟩:=List.mem_map.1 hq
   simp;omega) (fun j hj=>by
   rw[tT n _ od]
   rw[sC (by simp[dI]) (by rw[tL];have:=uS j od;omega)]
   refine uD Ez ?_
   rw[Bool.eq_false_iff]
   intro hx
   obtain⟨y,hy,M3⟩:=List.any_eq_true.1 hx
   obtain⟨k,hk,rfl⟩:=List.mem_map.1 hy
   have hk:=List.mem_range.1 hk
   have:=xI (lies:=aW fa) aH0 hji uS r.reads j k od hk
   rw[vZ]at M3
   omega)
  rw[pQ,dI]at hro;refine hro.mono ?_;rintro e w' ⟨x,he,ho,hb⟩;rcases ho.2 with⟨_,e0⟩|⟨g,cap,cur,hx,hg,hh,_⟩
  ·omega
  ·have tE:g<w'.heap.size:=zE2
   refine⟨g,cap,by rw[he,hx],⟨hg,tE,fun j hj=>?_,fun j=>by simp[World.frozen?,hh]⟩,⟨hb.os,hb.tape,hb.output,hb.size,hb.block⟩⟩;have:=ho.cells (g:=g) (by rw[hx];rfl) j (iI (mW n f (fun i=>cs.getD i 0) (readAll n (aW fa) aC (fun i=>cs.getD i 0) r.reads) j)) (by
    have hlj:j<(rZ cs (rowsOf n (readAll n (aW fa) aC (fun i=>cs.getD i 0) r.reads)) f n).length:=by rw[aCw];exact hj
    rw[List.getElem?_map,List.getElem?_eq_getElem hlj]
    simp only[rZ,List.getElem_map,List.getElem_range,Option.map_some]
    rw[tT n _ hj,rK]
    ·rw[Int.toNat_natCast];rfl
    ·refine uD Ez ?_
     rw[Bool.eq_false_iff]
     intro hx
     obtain⟨y,hy,M3⟩:=List.any_eq_true.1 hx
     obtain⟨k,hk,rfl⟩:=List.mem_map.1 hy
     have hk:=List.mem_range.1 hk
     have:=xI (lies:=aW fa) aH0 hji uS r.reads j k hj hk
     rw[vZ]at M3
     omega)
   exact zCx
 have aB7:Hid (∀v,Calls prog 162 #[iI aH] v fun e w'=>∃L,e=rT (.func (.func 200) #[] #[pP L])/\v.heap.size<=L/\w'.cell? (aA L 0)=some (iI aH)/\L<w'.heap.size/\bW v w'):=fun v=>aSk aH v;have HCO:Hid (∀L (v:World) (x:Int),v.cell? (aA L 0)=some (iI aH)->Calls prog 200 #[iI x,pP L] v fun e w'=>e=rT (iI (cutV x aH))/\w'=v):=fun L v x hv=>zU x aH L hd0 od v hv;have HOF:Hid (∀v (j:Nat),bW w v->Calls prog 128 #[sV a.da r.bA.length a.dc,iI j] v fun e w'=>e=rT (iI (if j<r.bA.length then r.bA.getD j 0 else 0))/\w'=v):=fun v j hv=>aNl a.da a.dc r.bA j r.bA.length rfl hr.lD v (hr.bA.below hv);have HDI:Hid (∀j,cutV (if j<r.bA.length then r.bA.getD j 0 else 0) aH=eU r.bA aH j/\-aH<=eU r.bA aH j/\eU r.bA aH j<=aH):=fun j=>⟨aSx _ _ _ hd0,N0 hd0 j⟩;have HMI:Hid (∀j,j<n->-1374389534720<=mW n f (fun i=>cs.getD i 0) (readAll n (aW fa) aC (fun i=>cs.getD i 0) r.reads) j/\mW n f (fun i=>cs.getD i 0) (readAll n (aW fa) aC (fun i=>cs.getD i 0) r.reads) j<=1374389534720):=fun j hj=>by exact zOd
 have HTO:Hid (∀j,jM n f (aW fa) aC aH (fun i=>cs.getD i 0) r.reads r.bA j=mW n f (fun i=>cs.getD i 0) (readAll n (aW fa) aC (fun i=>cs.getD i 0) r.reads) j+eU r.bA aH j):=fun j=>rfl;have HBY:Hid (gV n (jM n f (aW fa) aC aH (fun i=>cs.getD i 0) r.reads r.bA)=((List.range n).map (jM n f (aW fa) aC aH (fun i=>cs.getD i 0) r.reads r.bA)).any iW):=by show _=_;rw[List.any_map];rfl
 generalize mW n f (fun i=>cs.getD i 0) (readAll n (aW fa) aC (fun i=>cs.getD i 0) r.reads)=ST at *;generalize readAll n (aW fa) aC (fun i=>cs.getD i 0) r.reads=RA at *;generalize jM n f (aW fa) aC aH (fun i=>cs.getD i 0) r.reads r.bA=CT at *;generalize gV n CT=BY at *;generalize eU r.bA aH=DV at *;unfold cT.val;exact zJu
end
theorem Tryz.aY5:(Tryz.prog.info? 119).map (fun i=>(i.zero,i.size,i.bytes))=some (some (.pointer none),1,8):=by kernel_rfl
def NMy(w wr:World)(base:Nat)(Z:List Nat)(C:Nat)(p:aQ)(cc:Nat->Option Value)(fT:List Nat)(m0:iD)(i:Nat):Prop:=∃iT,Z3 wr base Z C p cc fT m0 i 0 (fun _ _=>false) iT (sV none 0 0)/\∀g,iT.ownBlock=some g->w.heap.size<=g
def aJj(k:Nat):Bool:=(decide (10<=k)&&decide (k<=13))||(decide (44<=k)&&decide (k<=69))
theorem aZ8(body:Code)(mP:(Tryz.f52.body.map cY).bind (fun l=>l[0]?)=some body)(Q:Exit->Act->World->Prop)(base:Nat)(Z:List Nat)(C PB:Nat)(p:aQ)(fa:Int)(cc:Nat->Option Value)(fT:List Nat)(m0:iD)(w:World)(lK:1<=p.n)(hn:p.n<=16)(e10:cc 10=some (iI fa))(hPB:w.cell? (aA PB 0)=some (iI p.n))(hPC:PB≠C)(h:NMy w w base Z C p cc fT m0 0){L:List Value}(tC:L.length=139)(s3:L[3]?=some (pP PB))(s9:L[9]?=some (pP C))(s10:L[10]?=some (iI 0))(s43:L[43]?=some (iI p.n))(s44:L[44]?=some (iI 0))
  (cN:∀(L':List Value) (wr:World),NMy w wr base Z C p cc fT m0 p.n->aU C C w wr->L'.length=139->Rest aJj L L'->L'[10]?=some (iI ((List.range p.n).countP (aW fa):Nat))->L'[44]?=some (iI p.n)->Q (.exit 0) ⟨L'.toArray,[]⟩ wr):
  Code.wp prog (Code.loop body) Q ⟨L.toArray,[]⟩ w:=by have dQ:((Tryz.f52.body.map cY).bind (fun l=>l[0]?)).getD Code.skip=body:=ey;have bG6:=0;exact zLp
