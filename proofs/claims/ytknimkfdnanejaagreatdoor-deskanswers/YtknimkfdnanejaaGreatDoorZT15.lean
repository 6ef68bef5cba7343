import Derived.Test.YtknimkfdnanejaaGreatDoorZT11
import Derived.Test.YtknimkfdnanejaaGreatDoorZT12
import Derived.Test.YtknimkfdnanejaaGreatDoorZT13
import Derived.Test.YtknimkfdnanejaaGreatDoorZT14
import Derived.Sort.OwnSortedInts
namespace Go.Proofs.YtknimkfdnanejaaGreatDoor
open Go.RowKit Go.Proofs.Tryz
set_option maxRecDepth 100000
set_option maxHeartbeats 16000000
section
open Go.RowKit Go.Shelf Go.Sort
theorem aBd{w:World}{g:Nat}{S:List Int}(h:Holds (Value.int .i64) w g 0 S.toArray)(j:Nat)(hj:j<S.length):w.cell? (aA g j)=some (iI (S.getD j 0)):=by have h1:=(h j ju).1;rw[Nat.zero_add]at h1;rw[h1,getElem!_pos _ j ju];simp[List.getD,List.getElem?_eq_getElem hj]
theorem aAx{w w1 w2:World}{g nn:Nat}{os:Array Obj}{l:List Int}(hB:bW w w1)(hg:w.heap.size<=g)(hlt:g<w1.heap.size)(hH:Holds (Value.int .i64) w1 g 0 l.toArray)
  (qP:w2=grow (putRow (Value.int .i64) (Sort.ahead w1 nn) g 0 (l.mergeSort fun x y=>decide (x<=y)).toArray) os):
  (∀k,k<l.length->w2.cell? (aA g k)=some (iI (nP l k)))/\bW w w2:=by
 have hH2:Holds (Value.int .i64) w2 g 0 (srt l).toArray:=by subst qP;exact holds_grow _ _ os g 0 _ (by simpa[putRow,mapBlock,Sort.ahead]using hlt) (holds_putRow _ _ g 0 _ _ (holds_ahead _ w1 nn g 0 _ hH) oh)
 refine⟨fun k hk=>?_,?_⟩
 ·exact aBd hH2 k (by rw[mL];exact hk)
 ·subst qP;exact hB.grown (grownBy_sortedI _) hB.size (fun j hj=>by cases hj;exact hg)
end
section
open Go.RowKit Go.Shelf Go.Sort
theorem Q5(B:Nat)(w:World)(hB:B<w.heap.size)(sP:w.cell? (aA B 0)=some (iI 1099511627776)):
  PredAt prog 176 #[pP B] (Value.int .i64) far w:=fun W x hb=>by have hc:W.cell? (aA B 0)=some (iI 1099511627776):=bc hb hB sP;show Calls prog 176 #[iI x,pP B] W _;unfold far;go_enter func176,ntmps176;go_wp2;all_goals(go_ret;exact⟨je,0,rfl⟩)
theorem aA1(w:World):Calls prog 134 #[iI 1099511627776] w fun e w'=>e=rT (.func (.func 176) #[] #[pP w.heap.size])/\w'=w.alloc (.cells #[iI 1099511627776] 3):=by go_enter func134,ntmps134;exact C6
theorem aYo(a:Option Addr)(n cap:Nat)(f:Int)(w:World)(hn:n<=20000)(h:f<0\/(n:Int)<2*f+1):
  Calls prog 80 #[sV a n cap,iI f] w fun e w'=>e=rT (tU #[iI 0,fI 1])/\bW w w':=by
 rw[aSy];by_cases hf:f<0
 ·clear h;exact zHn
 ·have k1:decide (f<0)=false:=kC hf;by_cases h0:n=0
  ·subst h0;clear h hf;exact zHn
  ·have k2:((n:Int)==0)=false:=by simp;omega
   have k3:((n:Int)-1)/2<f:=od;clear h hf;exact zHn
theorem aKj:∀args w,(callFunc 176 args).run prog w=.ok (.enter 176 args) w:=enters_of func176 og rfl
theorem aXj(b off cap n:Nat)(l:List Int)(hl:l.length=n)(hn:n<=20000)(w:World)(hb:b<w.heap.size)(hc:∀j,j<l.length->w.cell? (aA b (off+j))=some (iI (l.getD j 0))):
  Calls prog 117 #[sV (some (aA b off)) n cap,.func (.func 176) #[] #[pP w.heap.size]] (w.alloc (.cells #[iI 1099511627776] 3)) fun e w'=>e=rT (.bool (l.any far))/\bW w w':=by
 have h:=Tryz.slices_ContainsFunc (Value.int .i64) far 176 #[pP w.heap.size] aKj b off n cap l (w.alloc (.cells #[iI 1099511627776] 3)) (Q5 w.heap.size _ oh oh) od od (fun j hj=>by
  rw[World.cell?_alloc_lt _ _ _ hb,hc j hj,getElem!_pos l j hj,getD_at hj])
 rw[List.take_of_length_le od]at h;exact h.mono fun e w' ⟨he,q,hq⟩=>⟨he,hq▸below_drewN' ((kX _ w).alloc (kF _) _) q⟩
theorem aQ2(a:Option Addr)(cap:Nat)(l:List Int)(f:Nat)(w:World)(hr:bE w a l)(hn:l.length<=20000)(h:2*f+1<=l.length)(eE:l.any far=true):
  Calls prog 80 #[sV a l.length cap,iI f] w fun e w'=>e=rT (tU #[iI 0,fI 2])/\bW w w':=by rw[aSz];exact zKg
theorem bCt(a:Option Addr)(cap:Nat)(l:List Int)(f:Nat)(w:World)(hr:bE w a l)(hn:l.length<=20000)(h:2*f+1<=l.length)(eE:l.any far=false):
  Calls prog 80 #[sV a l.length cap,iI f] w fun e w'=>e=rT (tU #[iI (yV l f),.nilIface])/\bW w w':=have jA5:=0;zKg
theorem aO1(a:Option Addr)(cap:Nat)(l:List Int)(f:Int)(w:World)(hr:bE w a l)(hn:l.length<=20000):
  Calls prog 80 #[sV a l.length cap,iI f] w fun e w'=>e=rT (tU #[iI (fO l f),fI (dR l f)])/\bW w w':=zMd
end
section
open Go.RowKit Go.Shelf Go.Sort
theorem aVw(a:Option Addr)(cap:Nat)(row:List Int)(m:Nat)(c f:Int)(w:World)(hr:bE w a row)(hn:row.length<=1000):
  Calls prog 211 #[iI c,sV a row.length cap,iI m,iI f] w fun e w'=>e=rT (tU #[iI (vI m c row f),fI (fQ m c row f)])/\bW w w':=by
 by_cases h1:row.length=m;rotate_left
 ·rw[T9 (by rw[r8 h1];decide),r8 h1,aSy];have k1:((row.length:Int) !=(m:Int))=true:=ol;generalize row.length=n at *;go_enter func211,ntmps211;exact zIm
 ·have k1:((row.length:Int) !=(m:Int))=false:=by simp;omega
  have hp:=Q5 w.heap.size (w.alloc (.cells #[iI 1099511627776] 3)) oh oh _ c (kX _ _);have hp:Calls prog 176 #[iI c,pP w.heap.size] (w.alloc (.cells #[iI 1099511627776] 3)) fun e w'=>e=rT (.bool (far c))/\∃q,w'=(w.alloc (.cells #[iI 1099511627776] 3)).drewN q:=hp;have bT:=aA1 w;have HM:Hid (∀u:World,bW w u->Calls prog 80 #[sV a row.length cap,iI f] u fun e w'=>e=rT (tU #[iI (fO row f),fI (dR row f)])/\bW u w'):=fun u hu=>aO1 a cap row f u (hr.below hu) od;have hV:∀q,bW w ((w.alloc (.cells #[iI 1099511627776] 3)).drewN q):=fun q=>below_drewN' ((kX _ w).alloc (kF _) _) q;cases h2:far c
  ·rw[h2]at hp;have e1:=sC (f:=f) h1 h2;have e2:vI m c row f=fO row f:=by
    unfold vI;rw[e1];by_cases h:dR row f=0
    ·rw[kJ h]
    ·rw[kI h,uE h]
   rw[e1,e2];generalize fO row f=x at *;generalize fI (dR row f)=E at *;exact zLq
  ·rw[h2]at hp;rw[T9 (by rw[r9 h1 h2];decide),r9 h1 h2,aSz];have bG7:=0;exact zLq
end
section
open Go.RowKit Go.Shelf Go.Sort
theorem aVk(a ra:Option Addr)(cap bD2:Nat)(cs:List Int)(rows:List (List Int))(f:Int)(w:World)(hr:bE w a cs)(ht:wZ w ra rows)(hlen:rows.length=cs.length)(hn:cs.length<=1000)(hrn:∀r∈rows,r.length<=1000)
  (hF:∀j,j<cs.length->fQ cs.length (cs.getD j 0) (rows.getD j []) f=0):
  Calls prog 167 #[sV a cs.length cap,sV ra rows.length bD2,iI f] w fun ev w'=>∃v,ev=rT (tU #[v,.nilIface])/\w'.ownsRow w.heap.size 3 1 v cs.length ((rZ cs rows f cs.length).map (Value.int .i64))/\bW w w':=zJn
end
structure Kd where
 i:Fin 20
def Kd.qX:Kd:=⟨⟨0,oe⟩⟩
def Kd.oW:Kd:=⟨⟨1,oe⟩⟩
def Kd.oU:Kd:=⟨⟨2,oe⟩⟩
def Kd.bytes_:Kd:=⟨⟨3,oe⟩⟩
def Kd.iV:Kd:=⟨⟨4,oe⟩⟩
def Kd.oZ:Kd:=⟨⟨5,oe⟩⟩
def Kd.iC:Kd:=⟨⟨6,oe⟩⟩
def Kd.pV:Kd:=⟨⟨7,oe⟩⟩
def Kd.pY:Kd:=⟨⟨8,oe⟩⟩
def Kd.mF:Kd:=⟨⟨9,oe⟩⟩
def Kd.qL:Kd:=⟨⟨10,oe⟩⟩
def Kd.oC:Kd:=⟨⟨11,oe⟩⟩
def Kd.jV:Kd:=⟨⟨12,oe⟩⟩
def Kd.kY:Kd:=⟨⟨13,oe⟩⟩
def Kd.eD:Kd:=⟨⟨14,oe⟩⟩
def Kd.gP:Kd:=⟨⟨15,oe⟩⟩
def Kd.pM:Kd:=⟨⟨16,oe⟩⟩
def Kd.real_:Kd:=⟨⟨17,oe⟩⟩
def Kd.clear_:Kd:=⟨⟨18,oe⟩⟩
def Kd.wB:Kd:=⟨⟨19,oe⟩⟩
theorem Kd.each{P:Kd->Prop}(qX:P Kd.qX)(oW:P Kd.oW)(oU:P Kd.oU)(bytes_:P Kd.bytes_)(iV:P Kd.iV)(oZ:P Kd.oZ)(iC:P Kd.iC)(pV:P Kd.pV)(pY:P Kd.pY)(mF:P Kd.mF)(qL:P Kd.qL)(oC:P Kd.oC)(jV:P Kd.jV)(kY:P Kd.kY)(eD:P Kd.eD)(gP:P Kd.gP)(pM:P Kd.pM)(real_:P Kd.real_)(clear_:P Kd.clear_)(wB:P Kd.wB):∀k,P k
 |⟨⟨0,_⟩⟩=>qX
 |⟨⟨1,_⟩⟩=>oW
 |⟨⟨2,_⟩⟩=>oU
 |⟨⟨3,_⟩⟩=>bytes_
 |⟨⟨4,_⟩⟩=>iV
 |⟨⟨5,_⟩⟩=>oZ
 |⟨⟨6,_⟩⟩=>iC
 |⟨⟨7,_⟩⟩=>pV
 |⟨⟨8,_⟩⟩=>pY
 |⟨⟨9,_⟩⟩=>mF
 |⟨⟨10,_⟩⟩=>qL
 |⟨⟨11,_⟩⟩=>oC
 |⟨⟨12,_⟩⟩=>jV
 |⟨⟨13,_⟩⟩=>kY
 |⟨⟨14,_⟩⟩=>eD
 |⟨⟨15,_⟩⟩=>gP
 |⟨⟨16,_⟩⟩=>pM
 |⟨⟨17,_⟩⟩=>real_
 |⟨⟨18,_⟩⟩=>clear_
 |⟨⟨19,_⟩⟩=>wB
 |⟨⟨n+20,h⟩⟩=>absurd h od
def Kd.name(k:Kd):ByteArray:=[⟨#[112,108,97,110]⟩,⟨#[115,108,111,116]⟩,⟨#[108,105,110,107]⟩,⟨#[98,121,116,101,115]⟩,⟨#[115,116,97,114,116]⟩,⟨#[112,117,116]⟩,⟨#[114,101,99,101,105,118,101]⟩,⟨#[108,111,115,101]⟩,⟨#[114,101,97,100]⟩,⟨#[100,114,105,102,116]⟩,⟨#[109,111,100,101]⟩,⟨#[114,111,117,110,100]⟩,⟨#[99,108,111,99,107,115]⟩,⟨#[115,112,114,101,97,100]⟩,⟨#[109,101,109,98,101,114,115]⟩,⟨#[109,105,100,112,111,105,110,116]⟩,⟨#[108,111,99,97,108]⟩,⟨#[114,101,97,108]⟩,⟨#[99,108,101,97,114]⟩,⟨#[104,101,108,112]⟩].getD k.i.1 ByteArray.empty
def Kd.m(k:Kd):Nat:=([6,3,4,0,1,1,2,3,3,1,1,0,0,0,1,1,5,5,0,0]:List Nat).getD k.i.1 0
def Kd.more(k:Kd):Bool:=([false,false,false,false,true,false,false,false,false,true,true,false,false,false,false,true,false,false,false,false]:List Bool).getD k.i.1 false
def Kd.text(k:Kd):Bool:=([false,false,false,false,false,true,false,false,false,false,false,false,false,false,false,false,false,false,false,false]:List Bool).getD k.i.1 false
def Kd.when(k:Kd):Int:=([1,1,1,0,1,2,2,2,2,2,2,2,2,2,2,0,0,0,0,0]:List Int).getD k.i.1 0
def Kd.fn(k:Kd):Nat:=[18,19,20,21,22,23,24,25,26,27,28,29,30,31,32,33,34,35,36,37].getD k.i.1 0
def aSe:List Kd:=[.qX,.oW,.oU,.bytes_,.iV,.oZ,.iC,.pV,.pY,.mF,.qL,.oC,.jV,.kY,.eD,.gP,.pM,.real_,.clear_,.wB]
def nF(x:ByteArray):Option Kd:=aSe.find? fun k=>decide (k.name=x)
theorem wH{x:ByteArray}{k:Kd}(h:nF x=some k):k.name=x:=by have:=List.find?_some h;exact zHh
theorem aCn{x:ByteArray}(h:nF x=none)(k:Kd):k.name≠x:=by
 intro e;have h2:k∈aSe:=by cases k using Kd.each<;>simp[aSe]
 have:=List.find?_eq_none.1 h k h2;simp[e]at this
structure gD where
 aI:aQ
 clu:Option (Int×List Int×cA×Int×Nat)
 next:cT
def bHq:aQ:=⟨0,0,0,0,0,0,1,0,0,0,fun _=>0,fun _=>0,fun _=>0,fun _=>0,fun _=>0,fun _=>0,fun _=>0,fun _=>0,fun _=>0,fun _=>0⟩
def gD.start:gD:=⟨bHq,none,cT.none⟩
def mM(f:Nat->Int)(n:Nat)(x:Int):Nat->Int:=fun i=>if i=n then x else f i
def aQ.head(p:aQ)(n:List Int):aQ:={ p with nodes:=n.getD 0 0,aF:=n.getD 1 0,aJ:=n.getD 2 0,aC:=n.getD 3 0,aH:=n.getD 4 0,round:=n.getD 5 0 }
def aQ.slot(p:aQ)(n:List Int):aQ:={ p with ns:=p.ns+1,nd:=mM p.nd p.ns (n.getD 0 0),fr:=mM p.fr p.ns (n.getD 1 0),td:=mM p.td p.ns (n.getD 2 0) }
def aQ.link(p:aQ)(n:List Int):aQ:={ p with nl:=p.nl+1,lf:=mM p.lf p.nl (n.getD 0 0),lt:=mM p.lt p.nl (n.getD 1 0),lb:=mM p.lb p.nl (n.getD 2 0),lq:=mM p.lq p.nl (n.getD 3 0) }
def cT.bC2(r:cT)(n:List Int):cT:={ r with nL:=r.nL+1,ls:=mM r.ls r.nL (n.getD 0 0),lc:=mM r.lc r.nL (n.getD 1 0),lt:=mM r.lt r.nL (n.getD 2 0) }
def cT.read(r:cT)(n:List Int):cT:={ r with nR:=r.nR+1,rn:=mM r.rn r.nR (n.getD 0 0),ro:=mM r.ro r.nR (n.getD 1 0),ri:=mM r.ri r.nR (n.getD 2 0) }
def dG(x:Int):ByteArray:=⟨(Lib.itoa x).toArray⟩
def mJ(p:aQ):Nat:=(bytesOf (dP p.nodes p.aF p.aJ p.aC p.aH p.round p.frame p.ns p.nl p.nw p.nd p.fr p.td p.lf p.lt p.lb p.lq p.wp p.wf p.wt)).length
abbrev H5:=Sum Int ByteArray
abbrev H5.err(k:Int):H5:=.inl k
abbrev H5.ok(s:ByteArray):H5:=.inr s
def H5.ending:H5->Ending
 |.inl k=>fX k
 |.inr s=>rT (sT s)
def dS(k:Int):ByteArray:=⟨#[101,114,114,111,114,32]⟩++dG k
def H5.out:H5->ByteArray
 |.inl k=>dS k
 |.inr s=>s
def jR(k x:Int):H5:=if k=0 then .ok (dG x)else .err k
def jC(f s n d r:Int):Int:=if cV f s n d=false then 1 else if r<f\/1099511627776<r\/1099511627776<s+(r-f)*n/d then 2 else 0
def lQ(f s n d l:Int):Int:=if l<=s then f else f+((l-s)*d+n-1)/n
def oA(f s n d l:Int):Int:=if cV f s n d=false then 1 else if l< -1099511627776\/1099511627776<l\/1099511627776<lQ f s n d l then 2 else 0
def yX(l:List Int):ByteArray:=⟨(Lib.join (l.map fun x=>(dG x).data.toList) [32]).toArray⟩
def aNs:ByteArray:=⟨#[98,121,116,101,115,32,99,108,101,97,114,32,99,108,111,99,107,115,32,100,114,105,102,116,32,104,101,108,112,32,108,105,110,107,32,108,111,99,97,108,32,108,111,115,101,32,109,101,109,98,101,114,115,32,109,105,100,112,111,105,110,116,32,109,111,100,101,32,112,108,97,110,32,112,117,116,32,114,101,97,100,32,114,101,97,108,32,114,101,99,101,105,118,101,32,114,111,117,110,100,32,115,108,111,116,32,115,112,114,101,97,100,32,115,116,97,114,116]⟩
def bEr:List (gD->List Int->ByteArray->gD->H5->Prop):=[
 fun s n _ s' r=>s'={ s with aI:=s.aI.head n }/\r=.ok Kd.qX.name,
 fun s n _ s' r=>(s.aI.ns<32/\s'={ s with aI:=s.aI.slot n }/\r=.ok (dG s.aI.ns))\/(¬s.aI.ns<32/\s'=s/\r=.err 4),
 fun s n _ s' r=>(s.aI.nl<8/\s'={ s with aI:=s.aI.link n }/\r=.ok (dG s.aI.nl))\/(¬s.aI.nl<8/\s'=s/\r=.err 4),
 fun s _ _ s' r=>∃E I,s.aI.Is E I/\s'=s/\r=jR E (mJ s.aI),
 fun s n _ s' r=>∃E I,qU s.aI (n.getD 0 0) n.tail E I/\((E≠0/\s'=s/\r=.err E)\/(E=0/\s'={ s with clu:=some (n.getD 0 0,n.tail,cA.start,0,0) }/\r=.ok Kd.iV.name)),
 fun s n tx s' r=>∃fa cs c rd T,s.clu=some (fa,cs,c,rd,T)/\((∃j:Nat,n.getD 0 0=j/\j<s.aI.nl/\s'={ s with clu:=some (fa,cs,c.put s.aI j tx,rd,T+1) }/\r=(if c.putK s.aI j tx=0 then .ok Kd.oZ.name else .err (c.putK s.aI j tx)))\/(¬(0<=n.getD 0 0/\n.getD 0 0<s.aI.nl)/\s'=s/\r=.err 2)),
 fun s n _ s' r=>∃fa cs c rd T,s.clu=some (fa,cs,c,rd,T)/\((∃j i:Nat,n.getD 0 0=j/\n.getD 1 0=i/\(j<s.aI.n/\i<s.aI.nl/\aW (s.aI.lt i) j=true)/\s'={ s with clu:=some (fa,cs,c.recv i j,rd,T) }/\r=(if zH (c.aR i j)=0 then .ok (⟨#[105,115,32]⟩++recvD (c.aR i j))else .err (zH (c.aR i j))))\/(¬((0<=n.getD 0 0/\n.getD 0 0<s.aI.nodes)/\(0<=n.getD 1 0/\n.getD 1 0<s.aI.nl)/\aW (s.aI.lt (n.getD 1 0).toNat) (n.getD 0 0).toNat=true)/\s'=s/\r=.err 2)),
 fun s n _ s' r=>s'={ s with next:=s.next.bC2 n }/\r=.ok Kd.pV.name,
 fun s n _ s' r=>s'={ s with next:=s.next.read n }/\r=.ok Kd.pY.name,
 fun s n _ s' r=>s'={ s with next:={ s.next with bA:=n } }/\r=.ok Kd.mF.name,
 fun s n _ s' r=>s'={ s with next:={ s.next with bH:=n } }/\r=.ok Kd.qL.name,
 fun s _ _ s' r=>∃fa cs c rd T,s.clu=some (fa,cs,c,rd,T)/\((nY s.aI fa cs s.next=true/\s'=s/\r=.err 6)\/(nY s.aI fa cs s.next=false/\s'={ s with clu:=some (fa,nZ s.aI fa cs s.next,aCe s.aI fa c rd s.next,rd+1,T+1),next:=cT.none }/\r=.ok (dG (rd+1)))),
 fun s _ _ s' r=>∃fa cs c rd T,s.clu=some (fa,cs,c,rd,T)/\s'=s/\r=.ok (yX cs),
 fun s _ _ s' r=>∃fa cs c rd T,s.clu=some (fa,cs,c,rd,T)/\s'=s/\r=.ok (dG (dA (dW fa cs))),
 fun s n _ s' r=>∃fa cs c rd T,s.clu=some (fa,cs,c,rd,T)/\s'=s/\((∃j:Nat,n.getD 0 0=j/\j<s.aI.n/\r=.ok (if(c.nodes j).fz=true then dG (aZ (c.nodes j).t s.aI.n)++⟨#[32,102,114,111,122,101,110]⟩else dG (aZ (c.nodes j).t s.aI.n)))\/(¬(0<=n.getD 0 0/\n.getD 0 0<s.aI.nodes)/\r=.err 2)),
 fun s n _ s' r=>s'=s/\r=jR (dR n.tail (n.getD 0 0)) (fO n.tail (n.getD 0 0)),
 fun s n _ s' r=>s'=s/\r=jR (jC (n.getD 0 0) (n.getD 1 0) (n.getD 2 0) (n.getD 3 0) (n.getD 4 0)) (n.getD 1 0+(n.getD 4 0-n.getD 0 0)*n.getD 2 0/n.getD 3 0),
 fun s n _ s' r=>s'=s/\r=jR (oA (n.getD 0 0) (n.getD 1 0) (n.getD 2 0) (n.getD 3 0) (n.getD 4 0)) (lQ (n.getD 0 0) (n.getD 1 0) (n.getD 2 0) (n.getD 3 0) (n.getD 4 0)),
 fun _ _ _ s' r=>s'=gD.start/\r=.ok Kd.clear_.name,
 fun s _ _ s' r=>s'=s/\r=.ok aNs]
def sI(k:Kd)(s:gD)(n:List Int)(tx:ByteArray)(s':gD)(r:H5):Prop:=bEr.getD k.i.1 (fun _ _ _ _ _=>False) s n tx s' r
def fA(cO:ByteArray):List ByteArray:=Lib.goFieldsP (fun x=>decide (x=32)) cO
def kZ(s:gD)(k:Kd):Bool:=k.when==0||(s.clu.isSome==(k.when==2))
def fK(s:gD)(cO:ByteArray)(s':gD)(out:ByteArray):Prop:=
 match fA cO with
 |[]=>s'=s/\out=⟨#[111,107]⟩
 |x::ws=>match nF x with
  |none=>s'=s/\out=dS 3
  |some k=>match qN k.m k.more k.text ws with
   |none=>s'=s/\out=dS 3
   |some y=>if kZ s k=true then ∃r,sI k s y.1 y.2 s' r/\out=r.out else s'=s/\out=dS 6
def gA:gD->List ByteArray->List ByteArray->gD->Prop
 |s,[],os,s2=>os=[]/\s2=s
 |s,l::ls,os,s2=>∃s1 o os',os=o::os'/\fK s l s1 o/\gA s1 ls os' s2
theorem gA.nil(s:gD):gA s [] [] s:=⟨rfl,rfl⟩
theorem gA.cons{s s1 s2:gD}{l o:ByteArray}{ls os:List ByteArray}(h:fK s l s1 o)(t:gA s1 ls os s2):gA s (l::ls) (o::os) s2:=⟨s1,o,os,rfl,h,t⟩
theorem sI.one{k:Kd}{s s1 s2:gD}{n:List Int}{tx:ByteArray}{r1 r2:H5}(h:sI k s n tx s1 r1)(g:sI k s n tx s2 r2):s1=s2/\r1=r2:=by
 cases k using Kd.each;case qX=>exact⟨h.1.trans g.1.symm,h.2.trans g.2.symm⟩
 case oW=>exact zCz
 case oU=>exact zCz
 case bytes_=>obtain⟨E,I,h0,h1,h2⟩:=h;obtain⟨E',I',g0,g1,g2⟩:=g;obtain⟨rfl,rfl⟩:=h0.one g0;exact zBm
 case iV=>obtain⟨E,I,h0,h⟩:=h;obtain⟨E',I',g0,g⟩:=g;obtain⟨rfl,rfl⟩:=h0.one g0;exact zL9
 case oZ=>obtain⟨fa,cs,c,rd,T,e,h⟩:=h;obtain⟨fa',cs',c',Y4,T',e',g⟩:=g;exact zMu
 case iC=>exact zMy
 case pV=>exact⟨h.1.trans g.1.symm,h.2.trans g.2.symm⟩
 case pY=>exact⟨h.1.trans g.1.symm,h.2.trans g.2.symm⟩
 case mF=>exact⟨h.1.trans g.1.symm,h.2.trans g.2.symm⟩
 case qL=>exact⟨h.1.trans g.1.symm,h.2.trans g.2.symm⟩
 case oC=>have bCa:=0;exact zMy
 case jV=>exact zHm
 case kY=>exact zHm
 case eD=>obtain⟨fa,cs,c,rd,T,e,h1,h⟩:=h;obtain⟨fa',cs',c',Y4,T',e',g1,g⟩:=g;have bC8:=0;exact zMu
 case gP=>exact⟨h.1.trans g.1.symm,h.2.trans g.2.symm⟩
 case pM=>exact⟨h.1.trans g.1.symm,h.2.trans g.2.symm⟩
 case real_=>exact⟨h.1.trans g.1.symm,h.2.trans g.2.symm⟩
 case clear_=>exact⟨h.1.trans g.1.symm,h.2.trans g.2.symm⟩
 case wB=>exact⟨h.1.trans g.1.symm,h.2.trans g.2.symm⟩
theorem fK.one{s s1 s2:gD}{l o1 o2:ByteArray}(h:fK s l s1 o1)(g:fK s l s2 o2):s1=s2/\o1=o2:=by
 unfold fK at h g
 cases e:fA l with
 |nil=>
  simp only[e]at h g
  exact⟨h.1.trans g.1.symm,h.2.trans g.2.symm⟩
 |cons x ws=>
  simp only[e]at h g
  cases e2:nF x with
  |none=>
   simp only[e2]at h g
   exact⟨h.1.trans g.1.symm,h.2.trans g.2.symm⟩
  |some k=>
   simp only[e2]at h g
   cases e3:qN k.m k.more k.text ws with
   |none=>
    simp only[e3]at h g
    exact⟨h.1.trans g.1.symm,h.2.trans g.2.symm⟩
   |some y=>
    simp only[e3]at h g
    by_cases q:kZ s k=true
    ·rw[kJ q]at h g
     obtain⟨r,h1,h2⟩:=h
     obtain⟨r',g1,g2⟩:=g
     obtain⟨rfl,rfl⟩:=h1.one g1
     exact⟨rfl,h2.trans g2.symm⟩
    ·rw[kI q]at h g
     exact⟨h.1.trans g.1.symm,h.2.trans g.2.symm⟩
theorem gA.one{s s1 s2:gD}{ls o1 o2:List ByteArray}(h:gA s ls o1 s1)(g:gA s ls o2 s2):s1=s2/\o1=o2:=by
 induction ls generalizing s o1 o2 with
 |nil=>
  obtain⟨rfl,rfl⟩:=h
  obtain⟨rfl,rfl⟩:=g
  exact⟨rfl,rfl⟩
 |cons l ls ih=>
  obtain⟨a,o,os,rfl,h1,h2⟩:=h
  obtain⟨a',o',os',rfl,g1,g2⟩:=g
  obtain⟨rfl,rfl⟩:=h1.one g1
  obtain⟨rfl,rfl⟩:=ih h2 g2
  exact⟨rfl,rfl⟩
theorem gA.snoc{s s1 s2:gD}{ls os:List ByteArray}{l o:ByteArray}(h:gA s ls os s1)(g:fK s1 l s2 o):gA s (ls++[l]) (os++[o]) s2:=by
 induction ls generalizing s os with
 |nil=>
  obtain⟨rfl,rfl⟩:=h
  exact .cons g (.nil _)
 |cons l' ls ih=>
  obtain⟨a,o',os',rfl,h1,h2⟩:=h
  exact .cons h1 (ih h2)
def jO(os:List ByteArray):List UInt8:=os.flatMap fun o=>o.data.toList++[10]
theorem aAz(os:List ByteArray)(o:ByteArray):jO (os++[o])=(jO os++o.data.toList)++[10]:=by unfold jO;rw[List.flatMap_append];simp
theorem aD4:∀(os:List ByteArray),(∀o∈os,o.size<=500)->(jO os).length<=501*os.length
 |[],_=>by simp[jO]
 |o::os,h=>by
  have h1:=aD4 os fun x hx=>h x (kO _ hx);have h2:=h o kQ;have h3:o.data.toList.length=o.size:=Array.length_toList;have e:jO (o::os)=(o.data.toList++[10])++jO os:=by simp[jO]
  rw[e,List.length_append,List.length_append,List.length_cons,List.length_cons,List.length_nil];omega
section
section
variable{w:World}{O:List Nat}{C:Nat}{p:aQ}{fa:Int}{cs:List Int}{s:cA}{rd:Int}{B:Nat}{m:wV}
theorem aGg(h:Cl w O C p fa cs s rd B m)(hl:cs.length=p.n)(lK:1<=p.n)(hn:p.n<=16):
  Calls prog 76 #[pP C] w fun e w'=>∃a cap,e=rT (sV a cs.length cap)/\bE w' a cs/\bW w w':=by have hr:bE w (some (aA m.cb 0)) cs:=fun _=>⟨m.cb,0,rfl,h.base.lx _ h.base.ckX,fun j hj=>by rw[Nat.zero_add];exact h.base.ck j hj⟩;have M1:=aSm cs (some (aA m.cb 0)) p.n m.cI hl lK od w hr;have c11:=h.base.c11;rw[hl]at c11;clear h;have HL:Hid (cs.length=p.n):=hl;rw[hl];clear hl;go_enter func76,ntmps76;go_wp2_with fail;refine M1.mono ?_;rintro e w1 ⟨g,cp,rfl,⟨hg,tE⟩,hc,hb⟩;have HR:Hid (bE w1 (some (aA g 0)) cs):=fun _=>⟨g,0,rfl,tE,fun j hj=>by rw[Nat.zero_add];exact hc j hj⟩;have HB:Hid (bW w w1):=hb;clear hc hb M1;go_wp2;go_ret;exact⟨_,_,rfl,HR.out,HB.out⟩
theorem aDv(h:Cl w O C p fa cs s rd B m)(j:Int)(hj:¬(0<=j/\j<p.nodes)):
  Calls prog 78 #[pP C,iI j] w fun e w'=>e=rT (tU #[iI 0,.bool false,fI 2])/\bW w w':=have bGc:=0;zLz
theorem aDu(h:Cl w O C p fa cs s rd B m)(j:Nat)(hj:j<p.n)(jB:p.nodes=(p.n:Int)):
  Calls prog 78 #[pP C,iI j] w fun e w'=>e=rT (tU #[iI (aZ (s.nodes j).t p.n),.bool (s.nodes j).fz,.nilIface])/\bW w w':=by have hi:=rV C p.nodes j w h.base.c0;rw[kD (show 0<=(j:Int)/\(j:Int)<p.nodes by omega)]at hi;have c13:=h.base.c13;have y1:=h.base.nd j hj;have hN:=(h.nod hj).1;have hm:=fun u (hu:bW w u)=>aEq (hN.same (Same.of_below hu (fun c hc=>by rw[List.mem_singleton.1 hc];exact hN.lp)));have hf:=fun u (hu:bW w u)=>aHw (hN.same (Same.of_below hu (fun c hc=>by rw[List.mem_singleton.1 hc];exact hN.lp)));have HM:Hid (∀u,bW w u->Calls prog 132 #[.pointer (some ⟨m.P j,0,none⟩)] u fun e w'=>e=rT (iI (aZ (s.nodes j).t p.n))/\w'=u):=hm;have HF:Hid (∀u,bW w u->Calls prog 133 #[.pointer (some ⟨m.P j,0,none⟩)] u fun e w'=>e=rT (.bool (s.nodes j).fz)/\w'=u):=hf;have ii:(j:Int)<(p.n:Int):=od;generalize aZ (s.nodes j).t p.n=bv at *;generalize(s.nodes j).fz=fz at *;clear h hN hm hf;go_enter func78,ntmps78;exact zL8
end
end
section
section
variable{w:World}{base:Nat}{Z:List Nat}{Of:vW->List Nat}{C:Nat}{p:aQ}{cc:Nat->Option Value}{fT:List Nat}{m:iD}{i k:Nat}{T:Nat->Nat->Bool}{iT iU:Value}
theorem NM.aSd(h:NM w base Z Of C p cc fT m i k T iT iU)(a b:Nat)(ha:a<8)(hb:b<16)(hT:T a b=false):
  ∃w2 Of',(Instr.mapUpdate 106 (.map (some m.tb)) (.agg #[iI a,iI b]) (pP w.heap.size)).run prog (w.alloc (.cells #[iI (-1),iI 0,iI 0] 177))=.ok () w2/\
   NM w2 base Z Of' C p cc fT { m with R:=fun x y=>if x=a/\y=b then w.heap.size else m.R x y } i k (fun x y=>T x y||decide (x=a/\y=b)) iT iU/\aU m.tb m.tb (w.alloc (.cells #[iI (-1),iI 0,iI 0] 177)) w2:=by
 have xZ:bW w (w.alloc (.cells #[iI (-1),iI 0,iI 0] 177)):=(kX _ _).alloc (kF _) _;have hR:=aM8 (w:=w) (-1);have hs1:(w.alloc (.cells #[iI (-1),iI 0,iI 0] 177)).heap.size=w.heap.size+1:=oh;generalize yS:w.alloc (.cells #[iI (-1),iI 0,iI 0] 177)=w1 at *;have h1:=h.below xZ;obtain⟨g,hg,hr⟩:=h1.tk;obtain⟨w2,hrun,hg2,hT2⟩:=hg.put (t:=106) (e:=175) underlying106 (pP w.heap.size) ha hb;have ltb:m.tb<w.heap.size:=h.fam.lt iB _ Jd;have aGz:vV w1 (dV Of (iR a b) [w.heap.size]):=h.fam.add xZ (h.eR a b hT) (fun c hc=>by
  rw[List.mem_singleton.1 hc,hs1]
  exact⟨kF _,Nat.lt_succ_self _⟩)
 have hob:dV Of (iR a b) [w.heap.size] iB=Of iB:=bG _ _ Ou;have htm:m.tb∈Of iB:=Jd;have hF:aS (dV Of (iR a b) [w.heap.size] iB) (dV Of (iR a b) [w.heap.size] iB) w1 w2:=by rw[hob];exact aS.jD hT2 htm htm
 have same:∀x,x≠iB->Same (dV Of (iR a b) [w.heap.size] x) w1 w2:=fun x hx=>aGz.same hF hx;have zK:∀x,x≠iB->x≠iR a b->Same (Of x) w1 w2:=fun x h1 h2=>by exact zE4
 have lC1:C<w1.heap.size:=h1.lC;have hCt:C≠m.tb:=fun e=>h.nC jh;have aNt:vV w2 (dV Of (iR a b) [w.heap.size]):=⟨fun x c hc=>kB (aGz.lt x c hc) hT2.size,aGz.ap⟩;have kb:∀c,c<w1.heap.size->c≠m.tb->w2.heap[c]?=w1.heap[c]?:=fun c hc hn=>hT2.block c hc hn hn;have o12:∀c,iT.ownBlock=some c->c<w1.heap.size/\c≠m.tb:=fun c hc=>⟨h1.fam.lt iB c (by rw[h.ob];simp[hc]),fun e=>h.nT (by rw[<-e];simp[hc])⟩;have o13:∀c,iU.ownBlock=some c->c<w1.heap.size/\c≠m.tb:=fun c hc=>⟨h1.fam.lt iB c (by rw[h.ob];simp[hc]),fun e=>h.nT (by rw[<-e];simp[hc])⟩;refine⟨w2,dV Of (iR a b) [w.heap.size],hrun,⟨fun q h2 h3=>(hT2.cell (p:=(aA C q)) lC1 hCt hCt).trans (h1.cel q h2 h3),(hT2.cell (p:=(aA C 12)) lC1 hCt hCt).trans h1.c12,(hT2.cell (p:=(aA C 13)) lC1 hCt hCt).trans h1.c13,fun q=>(hT2.frozen (p:=(aA C q)) lC1 hCt hCt).trans (h1.z q),?_,?_,hob.trans h.ob,h.ap,h.nC,h.nT,h.n12,h.n13,fun j hj=>?_,fun j hj=>?_,fun x y hxy=>?_,⟨_,hg2,fun x y hxy=>?_⟩,⟨?_,?_⟩,fun j hj=>?_,fun j hj=>?_,fun x y hxy=>?_,?_,aNt,fun x c hx hc=>?_,by have:=h.sz;have:=hT2.size;omega⟩,hT2⟩
 ·exact lI (X:=iT.ownBlock.toList) h1.own12 ⟨hT2.size,fun c hc=>kb c (o12 c jA1).1 (o12 c jA1).2⟩ (fun g hg=>by simpa using hg)
 ·exact lI (X:=iU.ownBlock.toList) h1.own13 ⟨hT2.size,fun c hc=>kb c (o13 c jA1).1 (o13 c jA1).2⟩ (fun g hg=>by simpa using hg)
 ·have hn:=h1.node j hj;exact⟨hn.1.J5 (hn.2▸zK (iN j) om om),by rw[bG _ _ om];exact hn.2⟩
 ·rw[bG _ _ om];exact(h1.snd j hj).keep (zK _ om om)
 ·by_cases e:x=a/\y=b
  ·obtain⟨rfl,rfl⟩:=e;have hs:=same (iR x y) om;rw[cZ]at hs;simp only[and_self,if_true];exact⟨hR.keep hs,cZ _ _ _⟩
  ·simp only[kI e];have dM:iR x y≠iR a b:=by intro z;cases z;exact e ⟨rfl,rfl⟩
   have hn:=h1.rcv x y (by simpa[e]using hxy);exact⟨hn.1.keep (hn.2▸zK (iR x y) om dM),by rw[bG _ _ dM];exact hn.2⟩
 ·by_cases e:x=a/\y=b
  ·simp only[kJ e]
  ·simp only[kI e];exact hr x y (by simpa[e]using hxy)
 ·rw[bG _ _ om];exact h1.prt.1
 ·exact h1.prt.2.keep E9
 ·rw[bG _ _ om];exact h.eN j hj
 ·rw[bG _ _ om];exact h.eS j hj
 ·have e:¬(x=a/\y=b):=fun e=>by simp[e]at hxy
  rw[bG _ _ (by intro z;cases z;exact e ⟨rfl,rfl⟩)];exact h.eR x y (by simpa[e]using hxy)
 ·rw[bG _ _ om];exact h.oz
 ·by_cases e:x=iR a b
  ·subst e;rw[cZ]at hc;rw[List.mem_singleton.1 hc];exact h.sz
  ·exact zFt
def aC9(Of:vW->List Nat)(p:aQ):List Nat:=Of iB++(Of iP++((List.range p.n).flatMap (fun j=>Of (iN j))++((List.range p.nl).flatMap (fun j=>Of (iS j))++(List.range p.nl).flatMap fun a=>(List.range p.n).flatMap fun b=>Of (iR a b))))
end
end
section
section
variable{w:World}{base:Nat}{Z:List Nat}{Of:vW->List Nat}{C:Nat}{p:aQ}{cc:Nat->Option Value}{fT:List Nat}{m:iD}{T:Nat->Nat->Bool}{iT iU:Value}{fa:Int}{cs:List Int}
def pL(p:aQ)(x:vW):Prop:=x=iB\/x=iP\/x=iZ\/(∃j,j<p.n/\x=iN j)\/(∃j,j<p.nl/\x=iS j)\/∃a b,a<p.nl/\b<p.n/\x=iR a b
theorem aOj{x:vW}(hx:pL p x)(hz:x≠iZ){c:Nat}(hc:c∈Of x):c∈aC9 Of p:=by
 unfold aC9;simp only[List.mem_append,List.mem_flatMap,List.mem_range];rcases hx with rfl|rfl|rfl|⟨j,hj,rfl⟩|⟨j,hj,rfl⟩|⟨a,b,ha,hb,rfl⟩
 ·exact .inl hc
 ·exact .inr (.inl hc)
 ·exact absurd rfl hz
 ·exact .inr (.inr (.inl ⟨j,hj,hc⟩))
 ·exact .inr (.inr (.inr (.inl ⟨j,hj,hc⟩)))
 ·exact .inr (.inr (.inr (.inr ⟨a,ha,b,hb,hc⟩)))
theorem aCa{c:Nat}(h:c∈aC9 Of p):∃x,pL p x/\x≠iZ/\c∈Of x:=by
 unfold aC9 at h;simp only[List.mem_append,List.mem_flatMap,List.mem_range]at h;rcases h with h|h|⟨j,hj,h⟩|⟨j,hj,h⟩|⟨a,ha,b,hb,h⟩
 ·exact⟨iB,.inl rfl,oe,h⟩
 ·exact⟨iP,.inr (.inl rfl),oe,h⟩
 ·exact⟨iN j,.inr (.inr (.inr (.inl ⟨j,hj,rfl⟩))),Ou,h⟩
 ·exact⟨iS j,.inr (.inr (.inr (.inr (.inl ⟨j,hj,rfl⟩)))),Ou,h⟩
 ·exact⟨iR a b,.inr (.inr (.inr (.inr (.inr ⟨a,b,ha,hb,rfl⟩)))),Ou,h⟩
theorem NM.done(h:NM w base Z Of C p cc fT m p.n p.nl T iT iU)(hT:∀a b,a<p.nl->b<p.n->T a b=true)(lK:1<=p.n)
  (e0:cc 0=some (iI p.nodes))(e1:cc 1=some (iI p.aF))(e3:cc 3=some (iI p.aC))(e4:cc 4=some (iI p.aH))(e5:cc 5=some (iI p.round))(e6:cc 6=some (sV m.sa p.ns m.oD))(e7:cc 7=some (sV m.la p.nl m.rJ))(e10:cc 10=some (iI fa))(e11:cc 11=some (sV m.ca cs.length m.cI))(e14:cc 14=some (.map (some m.tb)))(e15:cc 15=some (.map (some m.pb)))(e16:cc 16=some (iI 0))
  (M1:0<cs.length->∃b off,m.ca=some (aA b off)/\b∈fT/\∀j,j<cs.length->w.cell? (aA b (off+j))=some (iI (cs.getD j 0)))(fE:I0 w Z p m)(hzb:∀c,c∈Z->c<base):
  ∃O m',jJ w O Z C p fa cs cA.start 0 1 m'/\∀c,c∈O->base<=c:=by
 classical
 obtain⟨nb,nc,rfl,hnb,bNt⟩:=h.own12.form od;obtain⟨ka,kc,rfl⟩:=eY h.own13;have hka:0<p.nl->∃kb,ka=some (aA kb 0):=fun h0=>by obtain⟨g,cap,e,_,_⟩:=h.own13.form h0;injection e with e;exact⟨g,e⟩
 obtain⟨kb,hkb⟩:∃kb,0<p.nl->ka=some (aA kb 0):=by
  by_cases h0:0<p.nl
  ·obtain⟨kb,e⟩:=hka h0;exact⟨kb,fun _=>e⟩
  ·exact⟨0,fun y=>absurd y h0⟩
 have bN8:∀x,(if pL p x then Of x else[])=Of x\/(if pL p x then Of x else[])=[]:=fun x=>by
  by_cases hx:pL p x
  ·exact .inl (kJ hx)
  ·exact .inr (kI hx)
 have pB:(if pL p iB then Of iB else[])=Of iB:=kJ (.inl rfl);have pP:(if pL p iP then Of iP else[])=Of iP:=kJ (.inr (.inl rfl));have pZ:(if pL p iZ then Of iZ else[])=Of iZ:=kJ (.inr (.inr (.inl rfl)));have pN:∀j,j<p.n->(if pL p (iN j)then Of (iN j)else[])=Of (iN j):=fun j hj=>kJ (.inr (.inr (.inr (.inl ⟨j,hj,rfl⟩))));have pS:∀j,j<p.nl->(if pL p (iS j)then Of (iS j)else[])=Of (iS j):=fun j hj=>kJ (.inr (.inr (.inr (.inr (.inl ⟨j,hj,rfl⟩)))));have pR:∀a b,a<p.nl->b<p.n->(if pL p (iR a b)then Of (iR a b)else[])=Of (iR a b):=fun a b ha hb=>kJ (.inr (.inr (.inr (.inr (.inr ⟨a,b,ha,hb,rfl⟩)))));have bBz:∀x c,c∈(if pL p x then Of x else[])->c∈Of x:=fun x c hc=>by
  by_cases hx:pL p x
  ·rw[kJ hx]at hc;exact hc
  ·rw[kI hx]at hc;cases hc
 have X9:∀c,c∈aC9 Of p->base<=c:=fun c hc=>by obtain⟨x,_,hz,hm⟩:=aCa hc;exact h.lo x c hz hm
 refine⟨aC9 Of p,{ m with X:=m.tb::(fT++((Value.slice (some (aA nb 0)) p.n nc).ownBlock.toList++(Value.slice ka p.nl kc).ownBlock.toList)),nb:=nb,vQ:=nc,ka:=ka,kb:=kb,aKw:=kc },⟨fun x=>if pL p x then Of x else[],⟨?_,⟨fE.sl,fE.lk,fE.zl⟩,pB.trans h.ob,pZ.trans h.oz,⟨fun x c hc=>h.fam.lt x c (bBz x c hc),fun x y hxy c hc hd=>h.fam.ap x y hxy c (bBz x c hc) (bBz y c hd)⟩,fun x c hz hc=>?_,fun c hc hx=>?_,fun c hc=>?_,fun j hj=>?_,fun j hj=>?_,fun a b ha hb=>?_,?_,fun _ _=>kH _⟩⟩,X9⟩
 ·refine⟨(h.cel 0 oe oe).trans e0,(h.cel 1 oe oe).trans e1,(h.cel 3 oe oe).trans e3,(h.cel 4 oe oe).trans e4,(h.cel 5 oe oe).trans e5,(h.cel 6 oe oe).trans e6,(h.cel 7 oe oe).trans e7,(h.cel 10 oe oe).trans e10,(h.cel 11 oe oe).trans e11,h.c12,h.c13,(h.cel 14 oe oe).trans e14,(h.cel 15 oe oe).trans e15,(h.cel 16 oe oe).trans e16,h.z,h.lC,h.nC,fun c hc=>h.fam.lt iB c (by rw[h.ob];exact kO _ hc),fun h0=>?_,fun j hj=>?_,?_,fun h0=>⟨hkb h0,?_⟩,fun j hj=>?_,?_,kQ⟩
  ·obtain⟨b,off,e,hb,hc⟩:=M1 h0;exact⟨b,off,e,kO _ (kK (.inl hb)),hc⟩
  ·have:=h.own12.cells (g:=nb) rfl j (.pointer (some ⟨m.P j,0,none⟩)) (by simp[hj]);exact zCx
  ·simp[Value.ownBlock]
  ·rw[hkb h0];simp[Value.ownBlock]
  ·have bJn:=hkb od;subst bJn;have:=h.own13.cells (g:=kb) rfl j (.pointer (some ⟨m.S j,0,none⟩)) (by simp[hj]);exact zCx
  ·obtain⟨g,hg,hr⟩:=h.tk;exact⟨g,hg,fun a b ha hb=>hr a b (hT a b ha hb)⟩
 ·by_cases hx:pL p x
  ·simp only[kJ hx]at hc;exact aOj hx hz hc
  ·simp only[kI hx]at hc;cases hc
 ·have:=X9 c hc;have:=hzb c hx;omega
 ·obtain⟨x,_,_,hm⟩:=aCa hc;exact h.fam.lt x c hm
 ·exact⟨⟨(h.node j hj).1,(pN j hj).trans (h.node j hj).2⟩,⟨show(0:Int)<=1 by decide,show(1:Int)<=((1:Nat):Int)by decide⟩,show(0:Int)<=0 by decide,show(0:Int)<=((1:Nat):Int)by decide⟩
 ·simp only[pS j hj];exact⟨h.snd j hj,kH _,⟨show(0:Int)<=0 by decide,show(0:Int)<=1099511627776 by decide⟩,fun d hd=>by cases hd⟩
 ·have hn:=h.rcv a b (hT a b ha hb);exact⟨0,0,⟨hn.1,(pR a b ha hb).trans hn.2⟩,⟨⟨oe,oe⟩,oe,oe⟩,show(-1:Int)<=255 by decide⟩
 ·exact⟨[],pP.trans h.prt.1,om,h.prt.2⟩
end
end
def iD.fix(m m0:iD):Prop:=(m.tb=m0.tb/\m.pb=m0.pb)/\(m.sa=m0.sa/\m.oD=m0.oD)/\(m.la=m0.la/\m.rJ=m0.rJ)/\m.ca=m0.ca/\m.cI=m0.cI
def Z3(w:World)(base:Nat)(Z:List Nat)(C:Nat)(p:aQ)(cc:Nat->Option Value)(fT:List Nat)(m0:iD)(i k:Nat)(T:Nat->Nat->Bool)(iT iU:Value):Prop:=∃Of m,iD.fix m m0/\NM w base Z Of C p cc fT m i k T iT iU
def X6(n k j:Nat):Nat->Nat->Bool:=fun a b=>decide ((a<k/\b<n)\/(a=k/\b<j))
theorem aW7(n k j:Nat):(fun x y=>X6 n k j x y||decide (x=k/\y=j))=X6 n k (j+1):=by funext x y;unfold X6;rw[<-Bool.decide_or];congr 1;apply propext;omega
theorem aZw(n k:Nat):X6 n k n=X6 n (k+1) 0:=by funext x y;unfold X6;congr 1;apply propext;omega
def aFy(k:Nat):Bool:=decide (k=18)||(decide (123<=k)&&decide (k<=135))
theorem aVi(body:Code)(mP:(Tryz.f52.body.map cY).bind (fun l=>l[3]?)=some body)(Q:Exit->Act->World->Prop)(base:Nat)(Z:List Nat)(C k:Nat)(p:aQ)(cc:Nat->Option Value)(fT:List Nat)(m0:iD)(iT iU:Value)(w:World)(hk:k<8)(hn:p.n<=16)(e14:cc 14=some (.map (some m0.tb)))(h:Z3 w base Z C p cc fT m0 p.n (k+1) (X6 p.n k 0) iT iU){L:List Value}(tC:L.length=139)(s9:L[9]?=some (pP C))(s16:L[16]?=some (iI k))(bDi:L[122]?=some (iI p.n))(bDj:L[123]?=some (iI 0))
  (cN:∀(L':List Value) (wr:World),Z3 wr base Z C p cc fT m0 p.n (k+1) (X6 p.n (k+1) 0) iT iU->aU m0.tb m0.tb w wr->L'.length=139->Rest aFy L L'->L'[123]?=some (iI p.n)->Q (.exit 6) ⟨L'.toArray,[]⟩ wr):
  Code.wp prog (Code.loop body) Q ⟨L.toArray,[]⟩ w:=by
 have dQ:((Tryz.f52.body.map cY).bind (fun l=>l[3]?)).getD Code.skip=body:=ey;obtain rfl:=dQ;clear mP;conv=>arg 2;arg 1;whnf
 have wW:Hid _:=cN;obtain⟨fL,rfl⟩:=lit L 139 tC;replace s9:=aX s9;replace s16:=aX s16;replace bDi:=aX bDi;replace bDj:=aX bDj;simp only[List.range,List.range.loop,List.map_cons,List.map_nil,s9,s16,bDi,bDj];have HH:Hid (Z3 w base Z C p cc fT m0 p.n (k+1) (X6 p.n k 0) iT iU):=h;clear cN h;go_loopw[123] (fun a wr=>∃j:Nat,j<=p.n/\a=iI j/\Hid (Z3 wr base Z C p cc fT m0 p.n (k+1) (X6 p.n k j) iT iU)/\Hid (aU m0.tb m0.tb w wr)) (fun a _=>p.n-(intOf a).toNat);case atStart=>exact⟨0,kH _,rfl,HH.out,aU.refl _ _ _⟩
 case round=>
  obtain⟨j,hj,rfl,hN,Q9⟩:=hrel;by_cases hlt:j<p.n
  ·have jj:(j:Int)<(p.n:Int):=by omega
   obtain⟨Of,m,aEb,hNM⟩:=hN.out;have htb:=aEb.1.1;have y14:wr.cell? (aA C 14)=some (.map (some m0.tb)):=(hNM.cel 14 oe oe).trans e14;have lC:=hNM.lC;obtain⟨w2,Of2,hrun,bBb,hT2⟩:=hNM.aSd k j hk od (by unfold X6;exact kC od);rw[htb]at hrun hT2;rw[aW7]at bBb;have HN2:Hid (Z3 w2 base Z C p cc fT m0 p.n (k+1) (X6 p.n k (j+1)) iT iU):=by refine⟨Of2,_,?_,bBb⟩;exact aEb
   have hTa:aU m0.tb m0.tb wr (wr.alloc (.cells #[iI (-1),iI 0,iI 0] 177)):=⟨rfl,rfl,rfl,oh,fun c hc _ _=>((kX wr.heap.size wr).alloc (kF _) _).block c hc⟩;have HT2:Hid (aU m0.tb m0.tb w w2):=Q9.out.trans (hTa.trans hT2);clear hNM bBb hT2;go_wp2;exact⟨⟨j+1,od,ow,HN2.out,HT2.out⟩,ot⟩
  ·obtain rfl:j=p.n:=by omega
   have HE:Hid _:=hN.out;rw[aZw]at HE;go_wp2;exact wW.out _ _ HE.out Q9.out rfl (Rest.of rfl) rfl
section
section
variable{V wr:World}{O Z:List Nat}{C:Nat}{p:aQ}{fa:Int}{cs:List Int}{s:cA}{rd:Int}{B:Nat}{m:iD}
theorem bDe(h:cP O V wr Z C p fa cs s rd B m)(k j:Nat)(hk:k<p.nl)(hj:j<p.n)(q:Int)(hB:B<=9999990):
  Calls prog 104 #[.pointer (some ⟨m.R k j,0,none⟩),iI q] wr fun e w'=>e=rT (.bool (takeB (s.aV k j) q))/\cP O V w' Z C p fa cs (s.fW k j (uK (takeB (s.aV k j) q) q (s.aV k j))) rd (B+1) m:=by
 obtain⟨O',h,c⟩:=h;obtain⟨a,b,r1,⟨⟨a1,a2⟩,b1,b2⟩,r2,r3⟩:=c.rcv hk hj;refine(aIl r1 q r2 a1 od b1 od).mono ?_;rintro e w' ⟨he,q1,q2⟩;obtain⟨O'',h2,c2⟩:=r3 w' (B+1) _ _ _ q1 q2 (by
  unfold aFu aO8
  refine⟨⟨?_,?_⟩,?_,?_⟩<;>split<;>omega) (aW8 r2) od
 exact zHf
theorem aZ3(h:cP O V wr Z C p fa cs s rd B m)(j:Nat)(hj:j<p.n)(gH bU:Int)(lK:1<=p.n)(hn:p.n<=16)(hB:B<=9999990):
  Calls prog 105 #[.pointer (some ⟨m.P j,0,none⟩),iI gH,iI bU] wr fun e w'=>e=rT (tU #[])/\cP O V w' Z C p fa cs (s.setNode j { t:=heT j p.n (s.nodes j).fz gH bU (s.nodes j).t,g:=heG j p.n (s.nodes j).fz gH bU (s.nodes j).g,b:=heB j p.n (s.nodes j).fz gH bU (s.nodes j).b,fz:=(s.nodes j).fz }) rd (B+1) m:=by
 obtain⟨O',h,c⟩:=h;obtain⟨n1,⟨⟨n2,n3⟩,n4,n5⟩,n6⟩:=c.nod hj;have fin:∀(e:Ending)(w':World),e=rT (tU #[])/\bZ w' (m.P j) (m.Q j) j p.n (heT j p.n (s.nodes j).fz gH bU (s.nodes j).t) (heG j p.n (s.nodes j).fz gH bU (s.nodes j).g) (heB j p.n (s.nodes j).fz gH bU (s.nodes j).b) (s.nodes j).fz/\aU (m.P j) (m.Q j) wr w'->e=rT (tU #[])/\cP O V w' Z C p fa cs (s.setNode j { t:=heT j p.n (s.nodes j).fz gH bU (s.nodes j).t,g:=heG j p.n (s.nodes j).fz gH bU (s.nodes j).g,b:=heB j p.n (s.nodes j).fz gH bU (s.nodes j).b,fz:=(s.nodes j).fz }) rd (B+1) m:=by
  rintro e w' ⟨he,q1,q2⟩;obtain⟨O'',h2,c2⟩:=n6 w' (B+1) { t:=heT j p.n (s.nodes j).fz gH bU (s.nodes j).t,g:=heG j p.n (s.nodes j).fz gH bU (s.nodes j).g,b:=heB j p.n (s.nodes j).fz gH bU (s.nodes j).b,fz:=(s.nodes j).fz } q1 q2 (by
   unfold qZ heG heB
   simp only[]
   refine⟨⟨?_,?_⟩,?_,?_⟩<;>split<;>omega) od
  exact zHf
 cases hh:sK j p.n (s.nodes j).fz gH bU
 ·refine(aEx n1 gH bU lK hn hh).mono fun e w' ⟨he,hw⟩=>fin e w' ⟨he,?_,?_⟩
  ·subst hw;have e1:heG j p.n (s.nodes j).fz gH bU (s.nodes j).g=(s.nodes j).g:=by unfold heG;rw[kI (fun y=>by rw[hh]at y;cases y.1)]
   have e2:heB j p.n (s.nodes j).fz gH bU (s.nodes j).b=(s.nodes j).b:=by unfold heB;rw[kI (fun y=>by rw[hh]at y;cases y.1)]
   rw[aNr _ hh,e1,e2];exact n1
  ·subst hw;exact aU.refl _ _ _
 ·obtain⟨hf,k,hk,M2,hid,h0,h2⟩:=R3 hh;subst hk;refine(aBu n1 k bU hn hf M2 hid h0 h2 n2 od n4 od).mono fun e w' ⟨he,hr,ht⟩=>fin e w' ⟨he,?_,ht⟩;have e1:heG j p.n (s.nodes j).fz k bU (s.nodes j).g=if bU=1 then(s.nodes j).g+1 else(s.nodes j).g:=by
   unfold heG;by_cases q:bU=1
   ·rw[kJ ⟨hh,q⟩,kJ q]
   ·rw[kI (fun y=>q y.2),kI q]
  have e2:heB j p.n (s.nodes j).fz k bU (s.nodes j).b=if bU=2 then(s.nodes j).b+1 else(s.nodes j).b:=by
   unfold heB;by_cases q:bU=2
   ·rw[kJ ⟨hh,q⟩,kJ q]
   ·rw[kI (fun y=>q y.2),kI q]
  rw[aGw _ hh,e1,e2,hf];exact hr
theorem aZn(h:cP O V wr Z C p fa cs s rd B m)(j:Nat)(hj:j<p.n)(hn:p.n<=16)(hB:1<=B):
  Calls prog 101 #[.pointer (some ⟨m.P j,0,none⟩)] wr fun e w'=>e=rT (tU #[iI (if eZ (s.nodes j).g (s.nodes j).b (s.nodes j).fz=true then aZ (s.nodes j).t p.n else 0),.bool (eZ (s.nodes j).g (s.nodes j).b (s.nodes j).fz)])/\cP O V w' Z C p fa cs (s.setNode j (s.nodes j).aT) rd B m:=by obtain⟨O',h,c⟩:=h;obtain⟨n1,⟨⟨n2,n3⟩,n4,n5⟩,n6⟩:=c.nod hj;refine(aFf n1 hn).mono ?_;exact zC7
theorem bDd(h:cP O V wr Z C p fa cs s rd B m)(k:Nat)(hk:k<p.nl)(t:Int)(wT:0<=p.lb k)(dB:p.lb k<=1099511627776)(hB:B<=9999990):
  Calls prog 102 #[.pointer (some ⟨m.S k,0,none⟩),iI t] wr fun e w'=>e=rT (tU #[iI (jZ (fU (s.aN k).all.length (s.aN k).aP t (s.aN k).now (s.aN k).last (p.lb k)) (s.aN k).aP),sT (jY (fU (s.aN k).all.length (s.aN k).aP t (s.aN k).now (s.aN k).last (p.lb k)) (s.aN k).all (s.aN k).aP),iI (fU (s.aN k).all.length (s.aN k).aP t (s.aN k).now (s.aN k).last (p.lb k))])/\cP O V w' Z C p fa cs (s.tH k ((s.aN k).asked t (p.lb k))) rd B m:=by
 obtain⟨O',h,c⟩:=h;obtain⟨OS,s1,⟨s2,⟨s3,s4⟩,s5⟩,s6⟩:=c.sdr hk;refine(aIk s1 t od s3 s4 wT dB).mono ?_;rintro e w' ⟨he,q1,q2⟩;obtain⟨O'',h2,c2⟩:=s6 w' OS B ((s.aN k).asked t (p.lb k)) q1 q2 ⟨s2,(by
  show 0<=pF _ t (s.aN k).last/\pF _ t (s.aN k).last<=1099511627776
  unfold pF
  split
  ·next q=>
   by_cases ht:0<=t/\t<=1099511627776
   ·exact ht
   ·unfold fU at q
    rw[kJ od]at q
    cases q
  ·omega),s5⟩ (kF _)
 exact zHf
theorem aZ4(h:cP O V wr Z C p fa cs s rd B m)(j:Nat)(hj:j<p.n)(gH mem:Int)(lK:1<=p.n)(hn:p.n<=16):
  Calls prog 103 #[.pointer (some ⟨m.P j,0,none⟩),iI gH,iI mem] wr fun e w'=>e=rT (iI (eV p.n (s.nodes j).t (tb mem) gH mem))/\w'=wr:=by obtain⟨O',h,c⟩:=h;exact aBv (c.nod hj).1 gH mem (tb mem) lK hn (fun m0 m1 i hi=>aX0 m0 m1 hn hi)
theorem H9.look{w:World}(h:H9 w C p fa cs rd m){k j:Nat}(hk:k<p.nl)(hj:j<p.n)(qO:p.nl<=8)(hn:p.n<=16):
  (Instr.lookup 106 (.map (some m.tb)) (.agg #[iI k,iI j]) false).run prog w=.ok (.pointer (some ⟨m.R k j,0,none⟩)) w:=by obtain⟨g,hg,hr⟩:=h.tk;have:=hg.look (t:=106) (e:=175) underlying106 (zeroValue175 w) (show k<8 by omega) (show j<16 by omega);rw[hr k j hk hj]at this;exact this
end
end
section
section
variable{w:World}{O Z:List Nat}{C:Nat}{p:aQ}{fa:Int}{cs:List Int}{s:cA}{rd:Int}{B:Nat}{m:iD}
def aJy(k:Nat):Bool:=(decide (374<=k)&&decide (k<=402))
theorem aZm(code:Code)(lN:Tryz.f56.body.bind (dU 73)=some code)(Q:Exit->Act->World->Prop)(h:jJ w O Z C p fa cs s rd B m)(k j:Nat)(q:Int)(hk:k<p.nl)(hj:j<p.n)(qO:p.nl<=8)(hn:p.n<=16)(hB:B<=9999990)(C0:aW (p.lt k) j=true){L:List Value}(tC:L.length=452)(s0:L[0]?=some (pP C))(s27:L[27]?=some (iI k))(s28:L[28]?=some (iI q))(s35:L[35]?=some (iI j))
  (cN:∀(L':List Value) (w3:World),cP O w w3 Z C p fa cs (s.fW k j (uK (takeB (s.aV k j) q) q (s.aV k j))) rd (B+1) m->L'.length=452->Rest aJy L L'->L'[402]?=some (.bool (takeB (s.aV k j) q))->Q .normal ⟨L'.toArray,[]⟩ w3):
  Code.wp prog code Q ⟨L.toArray,[]⟩ w:=by have dQ:(Tryz.f56.body.bind (dU 73)).getD Code.skip=code:=Ee;have bGe:=0;exact zL3
end
end
