import Derived.Test.YtknimkfdnanejaaGreatDoorZRPOneC
import Derived.Test.YtknimkfdnanejaaGreatDoorZRPOneD
import Derived.Test.YtknimkfdnanejaaGreatDoorZT26
import Derived.Test.YtknimkfdnanejaaGreatDoorZT27
namespace Go.Proofs.YtknimkfdnanejaaGreatDoor
open Go.RowKit Go.Proofs.Tryz
set_option maxRecDepth 100000
set_option maxHeartbeats 16000000
section
section
variable{wr:World}{Oi Z:List Nat}{C:Nat}{p:aQ}{fa:Int}{cs:List Int}{si:cA}{rd:Int}{B:Nat}{m:iD}
def aN8(k:Nat):Bool:=(decide (21<=k)&&decide (k<=38))||(decide (40<=k)&&decide (k<=41))||(decide (215<=k)&&decide (k<=439))
theorem bD9(code:Code)(lN:Tryz.f56.body.bind (jU 9)=some code)(Q:Exit->Act->World->Prop)(h:jJ wr Oi Z C p fa cs si rd B m)(H:lJ)(i:Nat)(la:Option Addr)(nL lc:Nat)(ls oJ lt:Nat->Int)(ma:Option Addr)(mc:Nat)(bH:List Int)(SA:Option Addr)(hSA:SA=m.sa)
  (hlt:i<p.ns)(jB:p.nodes=p.n)(lK:1<=p.n)(hn:p.n<=16)(qO:p.nl<=8)(sW:p.ns<=32)(wS:1<=B)(hB:B<=9999000)(hr:dX wr la nL ls oJ lt)(hrO:∀b off,la=some (aA b off)->b∉Oi)(hrL:∀b off,la=some (aA b off)->b<wr.heap.size)(hL:nL<=9223372036854775807)
  (hm:bE wr ma bH)(hmO:∀b off,ma=some (aA b off)->0<bH.length->b∉Oi)(hmL:bH.length<=9223372036854775807)(sS:H.lies=aW fa)(sU:∀j,H.mode j=if j<bH.length then bH.getD j 0 else 0)(qW:∀i c j,H.lost i c j=mS ls oJ lt nL i c j)
  (sH:0<=rd)(uT:rd<=1000000)(xU:1<=p.round)(pE:p.round<=137438953472)(rW:∀i,i<p.ns->(0<=p.nd i/\p.nd i<p.nodes)/\0<=p.fr i/\p.fr i<=1099511627776)(qF:∀k,k<p.nl->0<=p.lf k/\0<=p.lb k/\p.lb k<=1099511627776){L:List Value}(tC:L.length=452)(s0:L[0]?=some (pP C))(s1:L[1]?=some (sV la nL lc))(s4:L[4]?=some (sV ma bH.length mc))(P4:L[11]?=some (iI p.n))(xJ:L[211]?=some (sV SA p.ns m.oD))(xK:L[212]?=some (iI p.ns))(xL:L[213]?=some (iI i))
  (cN:∀(L':List Value) (w':World),cP Oi wr w' Z C p fa cs (si.slot p.S H rd i) rd (B+70) m->L'.length=452->Rest aN8 L L'->Q .normal ⟨L'.toArray,[]⟩ w'):
  Code.wp prog code Q ⟨L.toArray,[]⟩ wr:=by
 cases hb:aW fa (p.S.nd i)
 ·exact aZd code lN Q h H i la nL lc ls oJ lt ma mc bH SA hSA hlt jB lK hn qO sW wS hB hr hrO hrL hL hm hmO hmL sS sU qW sH uT xU pE rW qF hb tC s0 s1 s4 P4 xJ xK xL cN
 ·by_cases hm1:p.S.nd i<bH.length
  ·by_cases d1:bH.getD (p.S.nd i) 0=1
   ·exact aZe code lN Q h H i la nL lc ls oJ lt ma mc bH SA hSA hlt jB lK hn qO sW wS hB hr hrO hrL hL hm hmO hmL sS sU qW sH uT xU pE rW qF ⟨hb,hm1,d1⟩ tC s0 s1 s4 P4 xJ xK xL cN
   ·by_cases d2:bH.getD (p.S.nd i) 0=2
    ·by_cases d3:(p.S.nd i+1)%p.n=p.S.nd i
     ·exact aZf code lN Q h H i la nL lc ls oJ lt ma mc bH SA hSA hlt jB lK hn qO sW wS hB hr hrO hrL hL hm hmO hmL sS sU qW sH uT xU pE rW qF ⟨⟨hb,hm1,d2⟩,d3⟩ tC s0 s1 s4 P4 xJ xK xL cN
     ·exact aZg code lN Q h H i la nL lc ls oJ lt ma mc bH SA hSA hlt jB lK hn qO sW wS hB hr hrO hrL hL hm hmO hmL sS sU qW sH uT xU pE rW qF ⟨⟨hb,hm1,d2⟩,d3⟩ tC s0 s1 s4 P4 xJ xK xL cN
    ·exact aZh code lN Q h H i la nL lc ls oJ lt ma mc bH SA hSA hlt jB lK hn qO sW wS hB hr hrO hrL hL hm hmO hmL sS sU qW sH uT xU pE rW qF ⟨hb,hm1,d1,d2⟩ tC s0 s1 s4 P4 xJ xK xL cN
  ·exact aZi code lN Q h H i la nL lc ls oJ lt ma mc bH SA hSA hlt jB lK hn qO sW wS hB hr hrO hrL hL hm hmO hmL sS sU qW sH uT xU pE rW qF ⟨hb,hm1⟩ tC s0 s1 s4 P4 xJ xK xL cN
end
section
variable{w:World}{O Z:List Nat}{C:Nat}{p:aQ}{fa:Int}{cs:List Int}{s:cA}{rd:Int}{B:Nat}{m:iD}
def aJx(k:Nat):Bool:=(decide (21<=k)&&decide (k<=38))||(decide (40<=k)&&decide (k<=41))||(decide (213<=k)&&decide (k<=440))
theorem aZl(body:Code)(mP:(Tryz.f56.body.map cY).bind (fun l=>l[4]?)=some body)(Q:Exit->Act->World->Prop)(h:jJ w O Z C p fa cs s rd B m)(H:lJ)(la:Option Addr)(nL lc:Nat)(ls oJ lt:Nat->Int)(ma:Option Addr)(mc:Nat)(bH:List Int)(SA:Option Addr)(hSA:SA=m.sa)
  (jB:p.nodes=p.n)(lK:1<=p.n)(hn:p.n<=16)(sW:p.ns<=32)(qO:p.nl<=8)(wS:1<=B)(hB:B<=9000000)(hr:dX w la nL ls oJ lt)(hrO:∀b off,la=some (aA b off)->b∉O)(hrL:∀b off,la=some (aA b off)->b<w.heap.size)(hL:nL<=9223372036854775807)
  (hm:bE w ma bH)(hmO:∀b off,ma=some (aA b off)->0<bH.length->b∉O)(hmL:bH.length<=9223372036854775807)(sS:H.lies=aW fa)(sU:∀j,H.mode j=if j<bH.length then bH.getD j 0 else 0)(qW:∀i c j,H.lost i c j=mS ls oJ lt nL i c j)
  (sH:0<=rd)(uT:rd<=1000000)(xU:1<=p.round)(pE:p.round<=137438953472)(rW:∀i,i<p.ns->(0<=p.nd i/\p.nd i<p.nodes)/\0<=p.fr i/\p.fr i<=1099511627776)(qF:∀k,k<p.nl->0<=p.lf k/\0<=p.lb k/\p.lb k<=1099511627776){L:List Value}(tC:L.length=452)(s0:L[0]?=some (pP C))(s1:L[1]?=some (sV la nL lc))(s4:L[4]?=some (sV ma bH.length mc))(P4:L[11]?=some (iI p.n))(xJ:L[211]?=some (sV SA p.ns m.oD))(xK:L[212]?=some (iI p.ns))(xL:L[213]?=some (iI 0))
  (cN:∀(L':List Value) (wr:World),cP O w wr Z C p fa cs (s.iM p.S H rd p.ns) rd (B+70*p.ns) m->L'.length=452->Rest aJx L L'->L'[213]?=some (iI p.ns)->Q (.exit 8) ⟨L'.toArray,[]⟩ wr):
  Code.wp prog (Code.loop body) Q ⟨L.toArray,[]⟩ w:=by have dQ:((Tryz.f56.body.map cY).bind (fun l=>l[4]?)).getD Code.skip=body:=ey;have bGd:=0;exact zL2
end
end
def sN(ps:List (List UInt8)):List Value:=(ps.filter (fun x=>decide (x≠[]))).map fun x=>sT (nH x)
theorem aK3{ps:List (List UInt8)}{k:Nat}(h:k<ps.length):sN (ps.take (k+1))=sN (ps.take k)++(if ps.getD k []=[]then[]else[sT (nH (ps.getD k []))]):=by
 unfold sN;rw[List.take_add_one,List.filter_append,List.map_append,List.getD_eq_getElem?_getD,List.getElem?_eq_getElem h];simp only[Option.toList_some,Option.getD_some,List.filter_cons,List.filter_nil];by_cases q:ps[k]=[]
 ·simp[q]
 ·simp[q]
theorem aW9{x:List UInt8}(h:x≠[]):(!(nH x).toList.isEmpty)=true:=by
 rw[ByteArray.toList_eq]
 cases x with
 |nil=>exact absurd rfl h
 |cons a r=>rfl
theorem aCb{a b:ByteArray}(h:a.data.toList=b.data.toList):a=b:=by obtain⟨⟨x⟩⟩:=a;obtain⟨⟨y⟩⟩:=b;cases h;rfl
def bA1(k:Nat):Bool:=decide (k=9)||decide (k=11)||(decide (57<=k)&&decide (k<=67))
theorem aR9(body:Code)(mP:(Tryz.f5.body.map cY).bind (fun l=>l[1]?)=some body)(Q:Exit->Act->World->Prop)(ps:List (List UInt8))(pb n:Nat)(hn:ps.length=n)(wC:n<=20001)(w:World)(hp:∀j,j<n->w.cell? (aA pb j)=some (sT (nH (ps.getD j []))))(hpl:pb<w.heap.size){L:List Value}(tC:L.length=154)(s9:L[9]?=some (sV none 0 0))(s55:L[55]?=some (sL pb n n))(s56:L[56]?=some (iI n))(s57:L[57]?=some (iI 0))
  (cN:∀(L':List Value) (V:Value) (wr:World),wr.ownsRow w.heap.size 9 1 V (sN ps).length (sN ps)->bW w wr->L'.length=154->Rest bA1 L L'->L'[9]?=some V->Q (.exit 2) ⟨L'.toArray,[]⟩ wr):
  Code.wp prog (Code.loop body) Q ⟨L.toArray,[]⟩ w:=by have dQ:((Tryz.f5.body.map cY).bind (fun l=>l[1]?)).getD Code.skip=body:=ey;exact zMk
def C2(ws:List ByteArray):List Value:=ws.map fun x=>iI ((qA x).getD 0)
def lH(ws:List ByteArray):Bool:=ws.all fun x=>(qA x).isSome
theorem aLj{ws:List ByteArray}{k:Nat}(h:k<ws.length):C2 (ws.take (k+1))=C2 (ws.take k)++[iI ((qA (ws.getD k ByteArray.empty)).getD 0)]:=by unfold C2;rw[List.take_add_one,List.map_append,List.getD_eq_getElem?_getD,List.getElem?_eq_getElem h];rfl
theorem aHt{ws:List ByteArray}{k:Nat}(h:k<ws.length):lH (ws.take (k+1))=(lH (ws.take k)&&(qA (ws.getD k ByteArray.empty)).isSome):=by unfold lH;rw[List.take_add_one,List.all_append,List.getD_eq_getElem?_getD,List.getElem?_eq_getElem h];simp
def gT(x:ByteArray)(m:Nat):Nat:=if x=⟨#[112,117,116]⟩then min 1 m else m
def bDz(k:Nat):Bool:=(decide (15<=k)&&decide (k<=20))||(decide (103<=k)&&decide (k<=129))
theorem aVe(body:Code)(mP:(Tryz.f5.body.map cY).bind (fun l=>l[2]?)=some body)(Q:Exit->Act->World->Prop)(x0:ByteArray)(ws:List ByteArray)(m g cap sc:Nat)(sa:Option Addr)(ok:Bool)(hn:ws.length=m)(wC:m<=20000)(w:World)(hD:cB w.heap.size w)(y0:w.cell? (aA g 0)=some (sT x0))(hp:∀j,j<m->w.cell? (aA g (j+1))=some (sT (ws.getD j ByteArray.empty)))(hsz:∀x∈ws,x.size<=20000)(hsa:0<m->sa=some (aA g 1))(hpl:g<w.heap.size){L:List Value}(tC:L.length=154)(s9:L[9]?=some (sL g (m+1) cap))(s15:L[15]?=some (.bool ok))(s16:L[16]?=some (sV none 0 0))(aMk:L[101]?=some (sV sa m sc))(bDg:L[102]?=some (iI m))(bDh:L[103]?=some (iI 0))
  (cN:∀(L':List Value) (V:Value) (wr:World),wr.ownsRow w.heap.size 3 1 V (gT x0 m) (C2 (ws.take (gT x0 m)))->bW w wr->L'.length=154->Rest bDz L L'->L'[15]?=some (.bool (ok&&lH (ws.take (gT x0 m))))->L'[16]?=some V->Q (.exit 4) ⟨L'.toArray,[]⟩ wr):
  Code.wp prog (Code.loop body) Q ⟨L.toArray,[]⟩ w:=by have dQ:((Tryz.f5.body.map cY).bind (fun l=>l[2]?)).getD Code.skip=body:=ey;have bGp:=0;exact zMk
theorem aAh:∀ws:List ByteArray,jI ws=if lH ws=true then some (ws.map fun x=>(qA x).getD 0)else none
 |[]=>rfl
 |x::ws=>by
  have h:=aAh ws;unfold jI;rw[h];unfold lH
  cases e:qA x with
  |none=>simp[e]
  |some v=>
   by_cases q:(ws.all fun x=>(qA x).isSome)=true
   ·simp[e,q]
   ·simp[e,q]
def Kd.many(k:Kd):Int:=if k.more=true then-1 else if k.text=true then 2 else k.m
def aBq(k:Kd)(l:Nat):Bool:=(decide (k.many≥0)&&decide ((l:Int)+1=k.many+1))||(decide (k.many<0)&&decide ((l:Int)+1>1))
theorem aTt(k:Kd):k=.oZ\/(k.text=false/\k.name≠⟨#[112,117,116]⟩/\((k.more=true/\k.m=1)\/k.more=false)):=by
 cases k using Kd.each;all_goals first
  |exact .inl rfl
  |exact .inr ⟨rfl,oe,.inr rfl⟩
  |exact .inr ⟨rfl,oe,.inl ⟨rfl,rfl⟩⟩
theorem aIa(k:Kd)(ws:List ByteArray):qN k.m k.more k.text ws=if(aBq k ws.length&&lH (ws.take (gT k.name ws.length)))=true then some ((ws.take (gT k.name ws.length)).map fun x=>(qA x).getD 0,if k.text=true then ws.getD 1 ByteArray.empty else ByteArray.empty)else none:=by
 rcases aTt k with rfl|⟨h1,h2,h3⟩
 ·have hM:gT Kd.oZ.name ws.length=min 1 ws.length:=kJ rfl;have e1:Kd.oZ.m=1:=rfl;have e2:Kd.oZ.more=false:=rfl;have e3:Kd.oZ.text=true:=rfl;have e4:aBq .oZ ws.length=decide (ws.length=2):=by
   unfold aBq Kd.many;rw[e2,e3];by_cases q:ws.length=2
   ·simp[q]
   ·have:¬((ws.length:Int)+1=3):=by omega
    simp[q,this]
  rw[hM,e1,e2,e3,e4];unfold qN
  match ws with
  |[]=>simp
  |[a]=>simp
  |[a,b]=>
   simp only[List.length_cons,List.length_nil,ne_eq,reduceCtorEq,not_false_eq_true,and_self,if_true]
   rw[aAh]
   by_cases q:lH [a]=true
   ·simp[q]
   ·simp[q]
  |a::b::c::r=>simp
 ·have hM:gT k.name ws.length=ws.length:=kI h2;rw[hM,List.take_length,h1];unfold qN;rw[kI oh,aAh];have e4:aBq k ws.length=decide (ws.length=k.m\/(k.m<ws.length/\k.more=true)):=by
   unfold aBq Kd.many;rw[h1];rcases h3 with⟨a,b⟩|a
   ·rw[a,b];by_cases q:ws.length=1\/1<ws.length
    ·have:(ws.length:Int)+1>1:=by omega
     have q2:ws.length=1\/1<ws.length/\True:=by rcases q with q|q;exact .inl q;exact .inr ⟨q,trivial⟩
     simp[this];omega
    ·have:¬((ws.length:Int)+1>1):=by omega
     simp[this];omega
   ·rw[a];by_cases q:ws.length=k.m
    ·simp[q]
    ·have:¬((ws.length:Int)+1=(k.m:Int)+1):=by omega
     simp[q,this];omega
  rw[e4];by_cases q:ws.length=k.m\/(k.m<ws.length/\k.more=true)
  ·rw[kJ q,kD q];by_cases q2:lH ws=true
   ·simp[q2]
   ·simp[q2]
  ·rw[kI q,kC q];simp
section
variable{I d f k n s x:Int}
def fG(k:Int):Prop:=0<=k/\k<=100
theorem fG.int(h:fG k):gW k:=⟨by have:=h.1;omega,by have:=h.2;omega⟩
theorem bY.small{f:Nat->Int}{n:Nat}{e i:Int}(h:bY f n e i)(hf:∀j,fG (f j)):fG e:=by
 rcases h with⟨_,rfl,_⟩|⟨k,_,_,rfl,_⟩
 ·exact zHx
 ·exact hf k
theorem aQ.Is.small{p:aQ}{E:Int}(h:p.Is E I):fG E:=by
 unfold aQ.Is lS at h;rcases h with⟨_,rfl,_⟩|⟨_,e1,i1,e2,i2,e3,i3,F1,F2,F3,R⟩
 ·unfold dJ fG;exact zDr
 ·have s1:fG e1:=F1.small fun j=>by unfold dH fG;exact zDr
  have s2:fG e2:=F2.small fun j=>by unfold dC fG;exact zDr
  have s3:fG e3:=F3.small fun j=>by unfold fH fG;exact zDr
  obtain⟨r1,r2,r3,r4⟩:=R;by_cases q1:e1=0
  ·by_cases q2:e2=0
   ·by_cases q3:e3=0
    ·rw[(r4 q1 q2 q3).1];exact⟨od,od⟩
    ·rw[(r3 q1 q2 q3).1];exact s3
   ·rw[(r2 q1 q2).1];exact s2
  ·rw[(r1 q1).1];exact s1
theorem qU.small{p:aQ}{fa:Int}{cs:List Int}{K:Int}(h:qU p fa cs K I):fG K:=by
 rcases h with⟨E,h,_,rfl⟩|⟨_,_,h⟩
 ·exact h.small
 ·rcases h with⟨_,rfl⟩|⟨_,h⟩
  ·exact zHx
  ·rcases h with⟨_,rfl⟩|⟨_,h⟩
   ·exact zHx
   ·rcases h with⟨_,rfl⟩|⟨_,rfl⟩<;>exact⟨od,od⟩
def H5.short:H5->Prop
 |.inl k=>fG k
 |.inr o=>o.size<=500
theorem tF(hk:fG k)(hx:k=0->gW x):(jR k x).short:=by
 unfold jR;by_cases q:k=0
 ·rw[kJ q];have:=jQ (hx q);show(dG x).size<=500;omega
 ·rw[kI q];exact hk
theorem D9(h:gW x):(H5.ok (dG x)).short:=by have:=jQ h;show(dG x).size<=500;omega
structure gD.bAv(s:gD):Prop where
 clu:∀fa cs c rd T,s.clu=some (fa,cs,c,rd,T)->vX s.aI fa cs/\0<=rd/\rd<=100000
 ns:s.aI.ns<=32
 nl:s.aI.nl<=8
theorem jF.aYt{w:World}{base S:Nat}{M O:List Nat}{st:gD}{A:gN}{N:Nat}(h:jF w base S M O st A N)(hN:N<=3000):st.bAv where
 clu:=fun fa cs c rd T e=>by
  obtain⟨h1,h2⟩:=h.r.clu fa cs c rd T e
  obtain⟨h3,h4,h5⟩:=gG.ok h1
  exact⟨h3,h4,od⟩
 ns:=h.r.ns
 nl:=h.r.nl
theorem aHk{r:Int}(h:jC f s n d r=0):gW (s+(r-f)*n/d):=by unfold jC at h;exact zLd
theorem aO4{l:Int}(h:oA f s n d l=0):gW (lQ f s n d l):=by unfold oA at h;have m97:=0;exact zLd
theorem aEf(f s n d r:Int):fG (jC f s n d r):=by unfold jC fG;exact zDr
theorem aIb(f s n d r:Int):fG (oA f s n d r):=by unfold oA fG;exact zDr
theorem aEj(l:List Int)(f:Int):fG (dR l f):=by unfold dR fG;exact zDr
theorem sI.short{k:Kd}{s s':gD}{n:List Int}{tx:ByteArray}{r:H5}(h:sI k s n tx s' r)(hs:s.Small)(hk:s.bAv):r.short:=by
 have e1:∀x:Int,0<=x->x<=100->fG x:=fun x a b=>⟨a,b⟩;cases k using Kd.each;case qX=>rw[h.2];exact(by decide:Kd.qX.name.size<=500)
 case oW=>have:=hk.ns;exact zEz
 case oU=>have:=hk.nl;exact zEz
 case bytes_=>obtain⟨E,I,h0,h1,h2⟩:=h;rw[h2];refine tF h0.small fun q=>?_;subst q;obtain⟨⟨d1,d2,d3⟩,jB⟩:=aEk rfl h0;have:mJ s.aI<=2000:=kG (iY _) (by rw[qM];omega);exact zHx
 case iV=>
  obtain⟨E,I,h0,h⟩:=h;rcases h with⟨a,h1,h2⟩|⟨a,h1,h2⟩
  ·rw[h2];exact h0.small
  ·rw[h2];exact(by decide:Kd.iV.name.size<=500)
 case oZ=>
  obtain⟨fa,cs,c,rd,T,e,h⟩:=h;rcases h with⟨j,a,a2,h1,h2⟩|⟨a,h1,h2⟩
  ·rw[h2];by_cases q:c.putK s.aI j tx=0
   ·rw[kJ q];exact(by decide:Kd.oZ.name.size<=500)
   ·rw[kI q];show fG _;unfold cA.putK putK fG;exact zDr
  ·rw[h2];exact e1 2 od od
 case iC=>
  obtain⟨fa,cs,c,rd,T,e,h⟩:=h;rcases h with⟨j,i,a,a2,a3,h1,h2⟩|⟨a,h1,h2⟩
  ·rw[h2];by_cases q:zH (c.aR i j)=0
   ·rw[kJ q];have:=(hs fa cs c rd T e).recvD i j;show(_++recvD (c.aR i j)).size<=500;rw[ByteArray.size_append];have:(⟨#[105,115,32]⟩:ByteArray).size=3:=rfl;omega
   ·rw[kI q];show fG _;unfold zH fG;exact zDr
  ·rw[h2];exact e1 2 od od
 case pV=>rw[h.2];exact(by decide:Kd.pV.name.size<=500)
 case pY=>rw[h.2];exact(by decide:Kd.pY.name.size<=500)
 case mF=>rw[h.2];exact(by decide:Kd.mF.name.size<=500)
 case qL=>rw[h.2];exact(by decide:Kd.qL.name.size<=500)
 case oC=>
  obtain⟨fa,cs,c,rd,T,e,h⟩:=h;have:=hk.clu fa cs c rd T e;rcases h with⟨a,h1,h2⟩|⟨a,h1,h2⟩
  ·rw[h2];exact e1 6 od od
  ·rw[h2];exact D9 ⟨od,od⟩
 case jV=>
  obtain⟨fa,cs,c,rd,T,e,h1,h2⟩:=h;obtain⟨q,_⟩:=hk.clu fa cs c rd T e;rw[h2];refine S6 ?_ fun x hx=>?_
  ·rw[q.len];have:=q.aI.bounds.n2;show s.aI.nodes.toNat<=16;omega
  ·have:=q.inn x hx;exact zHx
 case kY=>obtain⟨fa,cs,c,rd,T,e,h1,h2⟩:=h;obtain⟨q,_⟩:=hk.clu fa cs c rd T e;rw[h2];have h1:=q.bCv;have h2:=q.aI.bounds.s1;have h3:=T8 (dW fa cs);exact D9 ⟨od,od⟩
 case eD=>
  obtain⟨fa,cs,c,rd,T,e,h1,h⟩:=h;obtain⟨q,_⟩:=hk.clu fa cs c rd T e;rcases h with⟨j,a,a2,h2⟩|⟨a,h2⟩
  ·rw[h2];have h1:=mO (c.nodes j).t s.aI.n;have h2:=q.aI.bounds.n2;have h3:s.aI.n<=16:=by show s.aI.nodes.toNat<=16;omega
   have h4:(2:Int)^s.aI.n<=2^16:=by exact_mod_cast Nat.pow_le_pow_right (by decide:0<2) h3
   have h5:(2:Int)^16=65536:=oe;have h6:=jQ (x:=aZ (c.nodes j).t s.aI.n) ⟨od,od⟩;show ByteArray.size (if _ then _ else _)<=500;split
   ·rw[ByteArray.size_append];have:(⟨#[32,102,114,111,122,101,110]⟩:ByteArray).size=7:=rfl;omega
   ·omega
  ·rw[h2];exact e1 2 od od
 case gP=>rw[h.2];refine tF (aEj _ _) fun _=>?_;have:=tR n.tail (n.getD 0 0);exact zHx
 case pM=>rw[h.2];exact tF (aEf ..) aHk
 case real_=>rw[h.2];exact tF (aIb ..) aO4
 case clear_=>rw[h.2];exact(by decide:Kd.clear_.name.size<=500)
 case wB=>rw[h.2];exact(by decide:aNs.size<=500)
theorem sF(h:fG k):(dS k).size<=100:=by have:=jQ h.int;unfold dS;rw[ByteArray.size_append];have:(⟨#[101,114,114,111,114,32]⟩:ByteArray).size=6:=rfl;omega
theorem H5.short.out{r:H5}(h:r.short):r.out.size<=500:=by
 cases r with
 |inl k=>have:=sF (show fG k from h);show(dS k).size<=500;omega
 |inr o=>exact h
end
section
variable{k:Kd}
section
variable{w:World}{base S:Nat}{M O X:List Nat}{st:gD}{A:gN}{N:Nat}
theorem jF.more(h:jF w base S M O st A N)(lo:∀c,c∈X->base<=c)(hi:∀c,c∈X->c<w.heap.size)(ap:∀c,c∈X->c∉O):jF w base S (X++M) O st A N:=
 ⟨{ h.r with
  s:=kK (.inr h.r.s)
  lo:=fun c q=>(kL q).elim (lo c) (h.r.lo c)
  hi:=fun c q=>(kL q).elim (hi c) (h.r.hi c)
  ap:=fun c q1 q2=>(kL q2).elim (fun q=>ap c q q1) (h.r.ap c q1)
  bS:=fun g e=>kK (.inr (h.r.bS g e))
  bL:=fun g e=>kK (.inr (h.r.bL g e))
  bO:=fun g e=>kK (.inr (h.r.bO g e))
  bR:=fun g e=>kK (.inr (h.r.bR g e))
  bD:=fun b off e h0=>⟨kK (.inr (h.r.bD b off e h0).1),(h.r.bD b off e h0).2⟩
  bM:=fun b off e h0=>⟨kK (.inr (h.r.bM b off e h0).1),(h.r.bM b off e h0).2⟩ },h.blk⟩
theorem cS.more{n:List Int}{tx:ByteArray}{e:Ending}{w':World}(h:cS base S M O st N k n tx w e w'):cS base S (X++M) O st N k n tx w e w':=zBn
def aDd(k:Kd)(n:List Int):Prop:=n.length=k.m\/(k.m<n.length/\k.more=true)
theorem l8{ws:List ByteArray}{y:List Int×ByteArray}(h:qN k.m k.more k.text ws=some y):aDd k y.1/\y.1.length<=ws.length/\∀x∈y.1,gW x:=by
 unfold qN at h;split at h
 ·split at h
  ·rename_i q
   cases e:jI (ws.take (ws.length-1))with
   |none=>rw[e]at h;cases h
   |some l=>
    rw[e]at h
    cases h
    have h1:=tG e
    rw[List.length_take]at h1
    have h2:l.length=ws.length-1:=od
    refine⟨?_,by show l.length<=_;omega,fun x hx=>yY e x hx⟩
    show l.length=_\/(_<l.length/\_)
    rw[h2];exact q
  ·cases h
 ·split at h
  ·rename_i q
   cases e:jI ws with
   |none=>rw[e]at h;cases h
   |some l=>
    rw[e]at h
    cases h
    have h1:=tG e
    refine⟨?_,by show l.length<=_;omega,fun x hx=>yY e x hx⟩
    show l.length=_\/(_<l.length/\_)
    rw[h1];exact q
  ·cases h
theorem aNg(h:jF w base S M O st A N)(hD:cB base w):cB w.heap.size w:=hD.at (kX _ _) (kG (h.r.lo S h.r.s) (kV (h.r.hi S h.r.s)))
theorem lZ(h:kZ st k=true)(hk:k.when=1):st.clu=none:=by
 unfold kZ at h;rw[hk]at h
 cases e:st.clu with
 |none=>rfl
 |some y=>rw[e]at h;cases h
theorem mB(h:kZ st k=true)(hk:k.when=2):∃fa cs c rd T,st.clu=some (fa,cs,c,rd,T):=by
 unfold kZ at h;rw[hk]at h
 cases e:st.clu with
 |none=>rw[e]at h;cases h
 |some y=>obtain⟨fa,cs,c,rd,T⟩:=y;exact⟨fa,cs,c,rd,T,rfl⟩
theorem aGp(k:Kd)(h:jF w base S M O st A N)(hD:cB base w)(xZ:kZ st k=true)(wF:st.Small)(hN:N<=3000)(n:List Int)(tx:ByteArray)(A5:aDd k n)(hlen:n.length<=20000)(eE:∀x∈n,gW x)
  (a:Option Addr)(cap:Nat)(hcap:n.length<=cap)(hr:bE w a n)(hX:∀b off,a=some (aA b off)->b∈X/\∃cs fr,w.heap[b]?=some (.cells cs 3 fr))(lo:∀c,c∈X->base<=c)(hi:∀c,c∈X->c<w.heap.size)(ap:∀c,c∈X->c∉M++O):
  Calls prog k.fn #[pP S,.agg #[sV a n.length cap,sT tx]] w (cS base S (X++M) O st N k n tx w):=by have hDw:=aNg h hD;exact zI1
end
theorem aCo(k:Kd)(args:Array Value)(w:World):(callFunc k.fn args).run prog w=.ok (.enter k.fn args) w:=by
 cases k using Kd.each
 ·exact enters_of func18 og rfl args w
 ·exact enters_of func19 og rfl args w
 ·exact enters_of func20 og rfl args w
 ·exact enters_of func21 og rfl args w
 ·exact enters_of func22 og rfl args w
 ·exact enters_of func23 og rfl args w
 ·exact enters_of func24 og rfl args w
 ·exact enters_of func25 og rfl args w
 ·exact enters_of func26 og rfl args w
 ·exact enters_of func27 og rfl args w
 ·exact enters_of func28 og rfl args w
 ·exact enters_of func29 og rfl args w
 ·exact enters_of func30 og rfl args w
 ·exact enters_of func31 og rfl args w
 ·exact enters_of func32 og rfl args w
 ·exact enters_of func33 og rfl args w
 ·exact enters_of func34 og rfl args w
 ·exact enters_of func35 og rfl args w
 ·exact enters_of func36 og rfl args w
 ·exact enters_of func37 og rfl args w
end
section
def H5.two:H5->Ending->Prop
 |.inl k,e=>k≠0/\∃s,e=rT (tU #[sT s,iI k])
 |.inr s,e=>e=rT (tU #[sT s,iI 0])
def gU(base S:Nat)(M O:List Nat)(st:gD)(N:Nat)(k:Kd)(n:List Int)(tx:ByteArray)(w:World)(e:Ending)(w':World):Prop:=
 ∃qQ r M' O' A',sI k st n tx qQ r/\r.two e/\aS (M++O) (M'++O') w w'/\iG w' base S M' O' qQ A' (N+1)
section
variable{w:World}{base S:Nat}{M O:List Nat}{st:gD}{A:gN}{N:Nat}
theorem iG.c10(h:iG w base S M O st A N):w.cell? (aA S 10)=some (.pointer (st.clu.map fun _=>(aA A.C 0))):=aM h.blk (i:=10) rfl
theorem iG.c10s(h:iG w base S M O st A N)(hc:st.clu≠none):w.cell? (aA S 10)=some (pP A.C):=by
 have:=h.c10
 cases q:st.clu with
 |none=>exact absurd q hc
 |some y=>rw[q]at this;exact this
theorem iG.c10n(h:iG w base S M O st A N)(hc:st.clu=none):w.cell? (aA S 10)=some (.pointer none):=by have:=h.c10;rw[hc]at this;exact this
theorem mY.neH{a:Option Addr}{n:List Int}{b off:Nat}(hr:mY w M a n)(h:iG w base S M O st A N)(e:a=some (aA b off))(h0:0<n.length):b≠S:=by obtain⟨_,_,_,q⟩:=hr.2 b off e h0;exact sJ q h.blk oe
theorem aQo(k:Kd)(h:iG w base S M O st A N)(hk:kZ st k=false)(va vb:Value):
  Calls prog 15 #[pP S,sT k.name,va,vb] w fun e w'=>e=rT (tU #[sT ⟨#[]⟩,iI 6])/\w'=w:=by
 have hc:(st.clu=none/\w.cell? (aA S 10)=some (.pointer none))\/(st.clu.isSome=true/\w.cell? (aA S 10)=some (pP A.C)):=by
  cases q:st.clu with
  |none=>exact .inl ⟨rfl,h.c10n q⟩
  |some y=>exact .inr ⟨rfl,h.c10s (by rw[q];exact fun e=>by cases e)⟩
 unfold kZ at hk;clear h
 rcases hc with⟨e,c10⟩|⟨e,c10⟩<;>rw[e]at hk<;>clear e<;>cases k using Kd.each<;>
  first
   |(exfalso;revert hk;decide)
   |(
     clear hk
     simp only[Kd.name,Kd.qX,Kd.oW,Kd.oU,Kd.iV,Kd.oZ,Kd.iC,Kd.pV,Kd.pY,Kd.mF,Kd.qL,Kd.oC,Kd.jV,Kd.kY,Kd.eD,List.getD_cons_zero,List.getD_cons_succ]
     go_enter func15,ntmps15
     go_wp2
     go_ret2
     exact⟨rfl,rfl⟩)
theorem aQk(h:iG w base S M O st A N)(dI:st.clu≠none)(n:List Int)(hn:n.length<=20000)(a:Option Addr)(cap:Nat)(tx:ByteArray)(hr:mY w M a n)(va:Value):
  Calls prog 15 #[pP S,sT ⟨#[100,114,105,102,116]⟩,va,sV a n.length cap] w (gU base S M O st N .mF n tx w):=by have c10:=h.c10s dI;have c0:=aM h.blk (i:=13) rfl;have z0:=bC h.blk (i:=13);exact zKm
theorem aUq(h:iG w base S M O st A N)(dI:st.clu≠none)(n:List Int)(hn:n.length<=20000)(a:Option Addr)(cap:Nat)(tx:ByteArray)(hr:mY w M a n)(va:Value):
  Calls prog 15 #[pP S,sT ⟨#[109,111,100,101]⟩,va,sV a n.length cap] w (gU base S M O st N .qL n tx w):=by have c10:=h.c10s dI;have c0:=aM h.blk (i:=14) rfl;have z0:=bC h.blk (i:=14);have m70:=0;exact zKm
theorem aUn(h:iG w base S M O st A N)(n:List Int)(tx:ByteArray)(va vb:Value):
  Calls prog 15 #[pP S,sT ⟨#[104,101,108,112]⟩,va,vb] w (gU base S M O st N .wB n tx w):=by have c10:=h.c10;have HS:Hid (iG w base S M O st A N):=h;clear h;go_enter func15,ntmps15;go_wp2;go_ret2;exact⟨st,.ok aNs,M,O,A,⟨rfl,rfl⟩,rfl,aS.of_below (kX _ _),HS.out.later (kR N)⟩
end
end
theorem aD8(k:Int)(hk:gW k)(w:World)(hw:nV w):Calls prog 6 #[iI k] w fun e w'=>e=rT (sT (dS k))/\bW w w':=by have hI:=qH k hk w hw;have hz:=jQ hk;have jX:decide (9223372036854775807<6+(dG k).size)=false:=kC od;go_enter func6,ntmps6;go_wp2_with fail;refine hI.mono ?_;rintro e u ⟨rfl,hb⟩;exact zIb
theorem Z8{w:World}{base S:Nat}{M O:List Nat}{st:gD}{A:gN}{N:Nat}(h:jF w base S M O st A N)(k:Kd):Calls prog 47 #[pP S,iI k.when] w fun e w'=>e=rT (.bool (kZ st k))/\w'=w:=by
 have c0:w.cell? (aA S 10)=some (.pointer (st.clu.map fun _=>(aA A.C 0))):=aM h.blk (i:=10) rfl;have hw:k.when=0\/k.when=1\/k.when=2:=by cases k using Kd.each<;>decide
 unfold kZ;clear h;rcases hw with e|e|e<;>rw[e]<;>cases q:st.clu<;>rw[q]at c0<;>simp only[Option.map]at c0;all_goals
  go_enter func47,ntmps47
  go_wp2_with fail
  go_ret
  exact⟨rfl,rfl⟩
theorem Tryz.aY7(v:Value)(w:World):(Instr.typeAssert (.iface 25 v) 20 25 true).run prog w=.ok (tU #[v,.bool true]) w:=by kernel_rfl
theorem Tryz.aYr(w:World):(Instr.typeAssert .nilIface 20 25 true).run prog w=.ok (tU #[iI 0,.bool false]) w:=by kernel_rfl
theorem mD(b:Nat)(k:Int)(hk:gW k)(old:ByteArray)(w:World)(hb:w.heap[b]?=some (.cells #[sT old] 9 (0,0)))(hw:nV w):
  CallsD prog 42 #[pP b] (.panicking [{ v:=.iface 25 (iI k),recovered:=false }]) w fun e u' w'=>
   e=rT (tU #[])/\u'=.panicking [{ v:=.iface 25 (iI k),recovered:=true }]/\∃w1,bW w w1/\w'=w1.setCell (aA b 0) (sT (dS k)):=by have hW:=aD8 k hk w hw;have hlt:=cW hb;exact zKo
theorem D6(b:Nat)(w:World):
  CallsD prog 42 #[pP b] .returning w fun e u' w'=>e=rT (tU #[])/\u'=.returning/\w'=w:=have m72:=0;zKo
section
section
variable{w:World}{base S:Nat}{M O:List Nat}{st:gD}{A:gN}{N:Nat}
theorem aQj(h:iG w base S M O st A N)(n:List Int)(tx:ByteArray)(va vb:Value):
  Calls prog 15 #[pP S,sT ⟨#[99,108,101,97,114]⟩,va,vb] w (gU base S M O st N .clear_ n tx w):=by have hblk:=h.blk;have c0:=aM hblk (i:=0) rfl;have z0:=bC hblk (i:=0);have c1:=aM hblk (i:=1) rfl;have z1:=bC hblk (i:=1);have c2:=aM hblk (i:=2) rfl;have z2:=bC hblk (i:=2);have c3:=aM hblk (i:=3) rfl;have z3:=bC hblk (i:=3);have c4:=aM hblk (i:=4) rfl;have z4:=bC hblk (i:=4);have c5:=aM hblk (i:=5) rfl;have z5:=bC hblk (i:=5);have c6:=aM hblk (i:=6) rfl;have z6:=bC hblk (i:=6);have c7:=aM hblk (i:=7) rfl;have z7:=bC hblk (i:=7);have c8:=aM hblk (i:=8) rfl;have z8:=bC hblk (i:=8);have c9:=aM hblk (i:=9) rfl;have z9:=bC hblk (i:=9);have c10:=aM hblk (i:=10) rfl;have z10:=bC hblk (i:=10);have c11:=aM hblk (i:=11) rfl;have z11:=bC hblk (i:=11);have c12:=aM hblk (i:=12) rfl;have z12:=bC hblk (i:=12);have c13:=aM hblk (i:=13) rfl;have z13:=bC hblk (i:=13);have c14:=aM hblk (i:=14) rfl;have z14:=bC hblk (i:=14);exact zOa
end
end
section
section
variable{w:World}{base S:Nat}{M O:List Nat}{st:gD}{A:gN}{N:Nat}
theorem iG.apart(h:iG w base S M O st A N):∀c,c∈M++O->base<=c:=fun c hc=>(kL hc).elim (h.r.lo c) (h.r.loO c)
theorem iG.low(h:iG w base S M O st A N):base<=w.heap.size:=kG (h.r.lo S h.r.s) (kV (h.r.hi S h.r.s))
theorem iG.aBi{u:World}{X:List Nat}(h:iG w base S M O st A N)(hD:cB base w)(hf:aS (M++O) X w u):cB u.heap.size u:=
 hD.at (hf.below h.apart h.low) (kG h.low hf.size)
theorem aI6(h:iG w base S M O st A N)(dI:st.clu=none)(sW:¬st.aI.nl<8)(n:List Int)(tx:ByteArray)(va vb:Value):
  Calls prog 15 #[pP S,sT ⟨#[108,105,110,107]⟩,va,vb] w (gU base S M O st N .oU n tx w):=by have c10:=h.c10n dI;obtain⟨va2,vc,hvv⟩:∃a c,A.vL=sV a st.aI.nl c:=(d8 h.r.oL).elim fun a q=>q.elim fun c r=>⟨a,c,r.1⟩;have c7:w.cell? (aA S 7)=some (sV va2 st.aI.nl vc):=(aM h.blk (i:=7) rfl).trans (congrArg some hvv);have k1:(8:Int)<=(st.aI.nl:Int):=od;have HS:Hid (iG w base S M O st A N):=h;have HN:Hid (¬st.aI.nl<8):=sW;exact zDc
theorem Tryz.aKt:(Tryz.prog.info? 96).map (fun i=>(i.zero,i.size,i.bytes))=some (some (.agg #[iI 0,iI 0,iI 0,iI 0]),4,32):=by kernel_rfl
theorem aUo(h:iG w base S M O st A N)(hD:cB base w)(dI:st.clu=none)(sW:st.aI.nl<8)(n:List Int)(hn:n.length=4)(hi:gW (n.getD 1 0))(a:Option Addr)(cap:Nat)(tx:ByteArray)(hr:mY w M a n)(va:Value):
  Calls prog 15 #[pP S,sT ⟨#[108,105,110,107]⟩,va,sV a n.length cap] w (gU base S M O st N .oU n tx w):=by obtain⟨b,off,rfl,gX,hc⟩:=hr.1 od;have dM:b≠S:=hr.neH h rfl od;obtain⟨_,bcs,bfr,C0⟩:=hr.2 b off rfl od;rw[hn]at hc⊢;obtain⟨i0,hi0,lO,mX,jX⟩:=info_parts Tryz.aKt;exact zJq
end
end
section
open Go.RowKit Go.Lib
theorem aH9(x:Nat)(W:World):FnGives prog 44 #[] #[encR x] (.bool (decide (x=32))) W:=by
 unfold FnGives encR;by_cases h:x=32
 ·subst h;exact zGh
 ·have h2:((x:Int)==32)=false:=by simp;omega
  have h3:decide ((x:Int)=32)=false:=kC od;have h4:decide (x=32)=false:=kC h;rw[h4];exact zGh
theorem wO(p:Nat->Bool)(s:ByteArray):∀(f pos:Nat)(st:Option Nat)(acc:List (Nat×Nat)),(spansFromP p s f pos st acc).1.length<=acc.length+f
 |0,_,_,_=>kF _
 |f+1,pos,st,acc=>by
  unfold spansFromP;split
  ·split
   ·split
    ·rename_i a;have:=wO p s f (pos+(Utf8.decode s pos).2) none (acc++[(a,pos)]);rw[List.length_append]at this;simp only[List.length_cons,List.length_nil]at this;omega
    ·have:=wO p s f (pos+(Utf8.decode s pos).2) none acc;omega
   ·split
    ·rename_i a;have:=wO p s f (pos+(Utf8.decode s pos).2) (some a) acc;omega
    ·have:=wO p s f (pos+(Utf8.decode s pos).2) (some pos) acc;omega
  ·show acc.length<=_;omega
theorem aK2(l:ByteArray):(fA l).length<=l.size+1:=by
 unfold fA goFieldsP spansOfP;rw[List.length_map];have:=wO (fun x=>decide (x=32)) l l.size 0 none [];unfold closeSpans;split
 ·rw[List.length_append];simp only[List.length_cons,List.length_nil]at this⊢;omega
 ·simp only[List.length_nil]at this;omega
theorem vJ{l x:ByteArray}(h:x∈fA l):x.size<=l.size:=by unfold fA goFieldsP at h;obtain⟨p,_,rfl⟩:=List.mem_map.1 h;rw[ByteArray.size_extract];omega
theorem Tryz.aGq(args:Array Value)(w:World):(callFunc 44 args).run prog w=.ok (.enter 44 args) w:=enters_of func44 og rfl args w
theorem aKk(l:ByteArray)(hl:l.size<=20000)(w:World):Calls prog 43 #[sT l,.func (.func 44) #[] #[]] w fun e w'=>∃A,e=rT (sL A (fA l).length (fA l).length)/\A<w'.heap.size/\(∀j x,(fA l)[j]?=some x->w'.cell? (aA A j)=some (sT x))/\bW w w':=by refine(Tryz.strings_FieldsFunc 44 #[] Tryz.aGq (fun x=>decide (x=32)) l w od (fun W x _=>aH9 x W)).mono ?_;rintro e w' ⟨A,rfl,hA,ho,hb⟩;refine⟨A,rfl,(ho.lt A rfl).2,fun j x hj=>?_,hb⟩;have:=ho.cells (g:=A) rfl j (sT x) (by rw[List.getElem?_map];unfold fA at hj;rw[hj];rfl);rw[nE]at this;exact zHh
end
section
variable{fa rd:Int}
section
variable{w:World}{base S:Nat}{M O:List Nat}{st:gD}{A:gN}{N:Nat}
theorem A3.aDs{C:Nat}{p:aQ}{cs:List Int}{s:cA}{T:Nat}(h:A3 w M O C p fa cs s rd T):∃a cap,w.cell? (aA C 10)=some (iI fa)/\w.cell? (aA C 11)=some (sV a cs.length cap)/\bE w a cs/\cs.length<=16/\∀x∈cs,-274877906944<=x/\x<=274877906944:=by
 obtain⟨Z,m,hZ,hR,lF,_⟩:=h;refine⟨m.ca,m.cI,hR.base.c10,hR.base.c11,fun h0=>?_,?_,lF.inn⟩
 ·obtain⟨b,off,e,hbX,hc⟩:=hR.base.ck h0;exact⟨b,off,e,hR.base.lx b hbX,hc⟩
 ·rw[lF.len];have:=lF.aI.bounds.n2;show p.nodes.toNat<=16;omega
theorem lE{w':World}{e:Ending}{k:Kd}{n:List Int}{tx:ByteArray}{r:H5}(h:iG w base S M O st A N)(hb:bW w w')(hd:sI k st n tx st r)(he:r.two e):gU base S M O st N k n tx w e w':=
 ⟨st,r,M,O,A,hd,he,aS.of_below hb,(h.below hb).later (kR N)⟩
theorem aLz(h:iG w base S M O st A N)(hD:cB base w){cs:List Int}{c:cA}{T:Nat}(dI:st.clu=some (fa,cs,c,rd,T))(n:List Int)(tx:ByteArray)(va vb:Value):
  Calls prog 15 #[pP S,sT ⟨#[99,108,111,99,107,115]⟩,va,vb] w (gU base S M O st N .jV n tx w):=zLv
theorem aM1(h:iG w base S M O st A N)(hD:cB base w){cs:List Int}{c:cA}{T:Nat}(dI:st.clu=some (fa,cs,c,rd,T))(hsp:gW (dA (dW fa cs)))(n:List Int)(tx:ByteArray)(va vb:Value):
  Calls prog 15 #[pP S,sT ⟨#[115,112,114,101,97,100]⟩,va,vb] w (gU base S M O st N .kY n tx w):=have aY9:=0;zLv
end
end
section
section
variable{w:World}{base S:Nat}{M O:List Nat}{st:gD}{A:gN}{N:Nat}
theorem xG(k x:Int)(s:ByteArray)(hs:k=0->s=dG x):(jR k x).two (rT (tU #[sT s,iI k])):=by
 unfold jR;by_cases h:k=0
 ·rw[kJ h,hs h,h];rfl
 ·rw[kI h];exact⟨h,s,rfl⟩
theorem aEs(h:iG w base S M O st A N)(hD:cB base w)(x:Int)(l:List Int)(hl:l.length<=1999)(a:Option Addr)(cap:Nat)(hcap:l.length+1<=cap)(tx:ByteArray)(hr:bE w a (x::l))(hv:gW (fO l x))(va:Value):
  Calls prog 15 #[pP S,sT ⟨#[109,105,100,112,111,105,110,116]⟩,va,sV a (l.length+1) cap] w (gU base S M O st N .gP (x::l) tx w):=zKq
end
end
