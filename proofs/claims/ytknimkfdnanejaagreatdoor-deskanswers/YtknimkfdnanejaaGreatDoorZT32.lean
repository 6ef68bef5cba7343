import Derived.Test.YtknimkfdnanejaaGreatDoorZDkSession
import Derived.Test.YtknimkfdnanejaaGreatDoorZHkLines
namespace Go.Proofs.YtknimkfdnanejaaGreatDoor
open Go.RowKit Go.Proofs.Tryz
set_option maxRecDepth 100000
set_option maxHeartbeats 16000000
def aH5:gN:=⟨sV none 0 0,sV none 0 0,sV none 0 0,sV none 0 0,none,0,none,0,0⟩
theorem iG.first{w:World}{S:Nat}(hb:w.heap[S]?=some (.cells (mV 0 0 0 0 0 0 (sV none 0 0) (sV none 0 0) 1 none (sV none 0 0) (sV none 0 0) (sV none 0 0) (sV none 0 0)) 57 (0,0))):iG w S S [S] [] gD.start aH5 0:=by
 have hlt:S<w.heap.size:=by
  by_cases q:S<w.heap.size
  ·exact q
  ·rw[Array.getElem?_eq_none od]at hb;cases hb
 refine⟨?_,hb⟩;exact {
     s:=List.mem_singleton.2 rfl
     lo:=fun c hc=>by rw[List.mem_singleton.1 hc];exact kF _
     hi:=fun c hc=>by rw[List.mem_singleton.1 hc];exact hlt
     loO:=fun c hc=>(by cases hc)
     hiO:=fun c hc=>(by cases hc)
     ap:=fun c hc=>(by cases hc)
     oS:=World.ownsRow_nil _ _ _ _
     oL:=World.ownsRow_nil _ _ _ _
     oO:=World.ownsRow_nil _ _ _ _
     oR:=World.ownsRow_nil _ _ _ _
     bS:=fun g e=>Es
     bL:=fun g e=>Es
     bO:=fun g e=>Es
     bR:=fun g e=>Es
     rD:=fun q=>absurd q (kU _)
     rM:=fun q=>absurd q (kU _)
     bD:=fun _ _ e=>Es
     bM:=fun _ _ e=>Es
     nw:=rfl
     iL:=fun k q=>absurd q (kT _)
     iO:=fun k q=>absurd q (kT _)
     ns:=kH _
     nl:=kH _
     nL:=kH _
     nR:=kH _
     nD:=kH _
     nM:=kH _
     clu:=fun fa cs c rd T e=>Es }
theorem aC5(text:ByteArray)(h:20000<text.size)(w:World):Calls prog 5 #[sT text] w fun e w'=>e=rT (sT ⟨#[101,114,114,111,114,32,52,10]⟩)/\w'=w:=by have h1:(20000:Int)<(text.size:Int):=od;clear h;go_enter func5,ntmps5;exact C6
theorem aL0(text:ByteArray):∃m,(cL 10 text.data.toList).length=m+1/\m<=text.size/\((0<m/\(cL 10 text.data.toList).getD m []=[]/\iF text=((cL 10 text.data.toList).take m).map nH)\/((m=0\/(0<m/\(cL 10 text.data.toList).getD m []≠[]))/\iF text=(cL 10 text.data.toList).map nH)):=by
 have dM:=wP 10 text.data.toList;have hle:=G6 10 text.data.toList;have h2:text.data.toList.length=text.size:=Array.length_toList;rw[aHf];generalize cL 10 text.data.toList=ps at *;obtain⟨m,hm⟩:∃m,ps.length=m+1:=⟨ps.length-1,by have:=List.length_pos_iff.2 dM;omega⟩;have aA7:ps.getLast?=some (ps.getD m []):=by rw[List.getLast?_eq_getElem?,hm,List.getD_eq_getElem?_getD];have:m+1-1=m:=od;rw[this,List.getElem?_eq_getElem od];rfl
 refine⟨m,hm,od,?_⟩;by_cases h0:0<m
 ·by_cases h1:ps.getD m []=[]
  ·refine .inl ⟨h0,h1,?_⟩;rw[kJ ⟨od,by rw[aA7,h1]⟩,List.dropLast_eq_take,hm];rfl
  ·refine .inr ⟨.inr ⟨h0,h1⟩,?_⟩;rw[kI fun q=>h1 (by have:=q.2;rw[aA7]at this;injection this)]
 ·refine .inr ⟨.inl od,?_⟩;rw[kI fun q=>by have:=q.1;omega]
theorem xO{c:UInt8}:∀{l:List UInt8}{x:List UInt8},x∈cL c l->x.length<=l.length
 |[],x,h=>by simp[cL]at h;simp[h]
 |a::r,x,h=>by
  unfold cL at h;split at h
  ·rcases kN h with q|q
   ·simp[q]
   ·have:=xO q;simp only[List.length_cons];omega
  ·rcases kN h with q|q
   ·rw[q];have dM:=wP c r
    cases e:cL c r with
    |nil=>exact absurd e dM
    |cons b t=>
     have:=xO (c:=c) (l:=r) (x:=b) jh
     simp only[List.headD_cons,List.length_cons]
     omega
   ·have:=xO (c:=c) (l:=r) (x:=x) (List.mem_of_mem_tail q);simp only[List.length_cons];omega
theorem aFm(text:ByteArray)(h:text.size<=3000)(w:World)(hD:cB w.heap.size w)(hF:pT w):Calls prog 5 #[sT text] w fun e w'=>∃os st,gA gD.start (iF text) os st/\e=rT (sT ⟨(jO os).toArray⟩)/\bW w w':=by
 obtain⟨m,hm,hmt,aY2⟩:=aL0 text;have hSp:=aD1 text 10 w od;have hlen:decide ((20000:Int)<text.size)=false:=kC od;have wF:∀x∈cL 10 text.data.toList,x.length<=3000:=fun x hx=>by have q:=xO hx;have h2:text.data.toList.length=text.size:=Array.length_toList;omega
 generalize cL 10 text.data.toList=ps at *;obtain⟨w1,yS⟩:∃w1,w.alloc (.cells (ps.map fun x=>Value.string (nH x)).toArray 9)=w1:=⟨_,rfl⟩;have dB:bW w w1:=yS▸(kX _ w).alloc (kF _) _;have hs1:w.heap.size<w1.heap.size:=by rw[<-yS];simp
 have N5:∀j,j<m+1->w1.cell? (aA w.heap.size j)=some (sT (nH (ps.getD j []))):=fun j hj=>by rw[<-yS];refine(World.cell?_alloc_new w (ps.map fun x=>Value.string (nH x)).toArray 9 j).trans ?_;simp[List.getD_eq_getElem?_getD,List.getElem?_eq_getElem (show j<ps.length by omega)]
 have y0:=N5 m od;have hmm:=@run_makeMap prog;obtain⟨V1,V2,V3,V4,V5,V6,V7,V8,V9,V10,V11,iT,iU,V14,V15,V16,V17,V18,V19,U6,⟨e1,e2,e3,e4,e5,e6,e7,e8,e9,e10,e11,e12,e13,e14,e15,e16,e17,e18,e19,e20⟩,hM,hBM⟩:=aL9 w1;have hMl:=hM.lt;obtain⟨W,hW⟩:∃W,U6.alloc (.cells (mV 0 0 0 0 0 0 (sV none 0 0) (sV none 0 0) 1 none (sV none 0 0) (sV none 0 0) (sV none 0 0) (sV none 0 0)) 57)=W:=⟨_,rfl⟩;have hbW:bW U6 W:=hW▸(kX _ U6).alloc (kF _) _;have hsW:U6.heap.size<W.heap.size:=by rw[<-hW];simp
 have bBj:bW w1 W:=hBM.trans (hbW.mono hBM.size);have aXq:bW w W:=dB.trans (bBj.mono dB.size);have HH:Hid (iG W U6.heap.size U6.heap.size [U6.heap.size] [] gD.start aH5 0):=iG.first (by rw[<-hW];exact heap_alloc_new U6 _);have HMA:Hid (tX W w1.heap.size):=hM.keep (hbW.block _ hMl);have hlS:w1.heap.size<=U6.heap.size:=hBM.size;have HDW:Hid (cB U6.heap.size W):=fun u hu=>hD u (aXq.trans (hu.mono (by have:=dB.size;omega)));have HFW:Hid (xP U6.heap.size W):=⟨kB hF.1 (by have:=dB.size;omega),kV hsW,hF.below aXq⟩;have HL:Hid (∀j,j<m+1->W.cell? (aA w.heap.size j)=some (sT (nH (ps.getD j [])))):=fun j hj=>bc bBj hs1 (N5 j hj);have HPS:Hid (∀x∈ps,x.length<=3000):=wF;have HM:Hid (ps.length=m+1):=hm;have HB0:Hid (bW w W):=aXq;have HWE:Hid _:=hW;have HW1:Hid _:=yS;have HBS:Hid (w.heap.size<=U6.heap.size):=by have:=dB.size;show w.heap.size<=U6.heap.size;omega
 clear hD hF hM hBM hbW bBj aXq N5 wF hW yS hm;have aAb:(0<m/\ps.getD m []=[]/\iF text=(ps.take m).map nH)\/(m=0/\iF text=ps.map nH)\/(0<m/\ps.getD m []≠[]/\iF text=ps.map nH):=by
  rcases aY2 with q|⟨q|q,q2⟩
  ·exact .inl q
  ·exact .inr (.inl ⟨q,q2⟩)
  ·exact .inr (.inr ⟨q.1,q.2,q2⟩)
 clear aY2;go_enter func5,ntmps5;go_wp2_with fail;refine hSp.mono ?_;rintro e u ⟨n,hn,rfl,hu⟩;rw[HM.out]at hn;rw[HW1.out]at hu;subst hn hu;clear hSp;rcases aAb with⟨h0,hx,hL⟩|⟨rfl,hL⟩|⟨h0,hx,hL⟩
 ·rw[hx]at y0;have y1:u.cell? (aA w.heap.size m)=some (sT ⟨#[]⟩):=y0;have k1:(1:Int)<(m:Int)+1:=od;clear y0 hx;go_wp2_with fail;have hWE:=HWE.out;unfold mV at hWE;rw[hWE];clear hWE;refine P3 _ oq _ (ps.take m) w.heap.size (m) _ u.heap.size U6.heap.size aH5 (by rw[List.length_take,HM.out];omega) od (fun x hx=>HPS.out x (List.mem_of_mem_take hx)) W (fun j hj=>by rw[List.getD_eq_getElem?_getD,List.getElem?_take_of_lt hj,<-List.getD_eq_getElem?_getD];exact HL.out j od) od HMA.out hMl HH.out HDW.out HFW.out rfl rfl rfl rfl rfl rfl rfl ?_;exact zA9
 ·go_wp2_with fail;have hWE:=HWE.out;unfold mV at hWE;rw[hWE];clear hWE;refine P3 _ oq _ (ps) w.heap.size (0+1) _ u.heap.size U6.heap.size aH5 HM.out od HPS.out W HL.out od HMA.out hMl HH.out HDW.out HFW.out rfl rfl rfl rfl rfl rfl rfl ?_;exact zA9
 ·have dM:=aW9 hx;have aTf:(nH (ps.getD m [])).toList.isEmpty=false:=by simpa using dM
  have k1:(1:Int)<(m:Int)+1:=od;generalize nH (ps.getD m [])=xl at *;clear hx;go_wp2_with fail;have hWE:=HWE.out;unfold mV at hWE;rw[hWE];clear hWE;refine P3 _ oq _ (ps) w.heap.size (m+1) _ u.heap.size U6.heap.size aH5 HM.out od HPS.out W HL.out od HMA.out hMl HH.out HDW.out HFW.out rfl rfl rfl rfl rfl rfl rfl ?_;exact zA9
theorem aGa(text:ByteArray)(hs:text.size<=281474976710656)(w:World)(hw:cB w.heap.size w)(hF:pT w):Calls prog 3 #[sT text] w fun e w'=>e=rT (.bool true)/\bW w w':=by
 by_cases h1:text.size<=3000
 ·have S0:=aJ4 text h1 w hw;have HS:Hid (∀u,bW w u->Calls prog 5 #[sT text] u fun e w'=>∃os st,gA gD.start (iF text) os st/\e=rT (sT ⟨(jO os).toArray⟩)/\bW u w'):=fun u hu=>aFm text h1 u (hw.at hu hu.size) (hF.below hu);have k1:decide ((3000:Int)<(text.size:Int))=false:=kC od;exact zMj
 ·by_cases h2:text.size<=20000
  ·have k1:(3000:Int)<(text.size:Int):=by omega
   have k3:(text.size:Int)<=20000:=od;go_enter func3,ntmps3;go_wp2;go_ret;exact zB1
  ·have k1:(3000:Int)<(text.size:Int):=by omega
   have k3:decide ((text.size:Int)<=20000)=false:=kC od;by_cases h3:30000<text.size
   ·have k2:(30000:Int)<(text.size:Int):=by omega
    go_enter func3,ntmps3;go_wp2;go_ret;exact zB1
   ·have bGo:=0;exact zMj
