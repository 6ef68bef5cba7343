import Derived.Test.YtknimkfdnanejaaGreatDoorZT7
import Derived.Test.YtknimkfdnanejaaGreatDoorZW4
namespace Go.Proofs.YtknimkfdnanejaaGreatDoor
open Go.RowKit Go.Proofs.Tryz
set_option maxRecDepth 100000
set_option maxHeartbeats 16000000
theorem bHt(n:Int)(h1:1<=n)(h2:n<=16):IntKind.i64.wrap ((IntKind.i64.wrap (n-1)).tdiv 3)=(n-1)/3:=by have:n=1\/n=2\/n=3\/n=4\/n=5\/n=6\/n=7\/n=8\/n=9\/n=10\/n=11\/n=12\/n=13\/n=14\/n=15\/n=16:=od;exact zBa
theorem aRy(nodes aF aJ aC aH round frame:Int)(sa la wa:Option Addr)(ns sc nl lc nw wc:Nat)(w:World):
  Calls prog 155 #[.agg #[iI nodes,iI aF,iI aJ,iI aC,iI aH,iI round,sV sa ns sc,sV la nl lc,iI frame,sV wa nw wc]] w fun ev w'=>ev=rT (iI (dJ nodes aF aJ aC aH round frame ns nl nw))/\bW w w':=by
 have HE:Hid (∀c,dJ nodes aF aJ aC aH round frame ns nl nw=c->Ending.returned (iI c)=rT (iI (dJ nodes aF aJ aC aH round frame ns nl nw))):=fun c h=>by rw[h]
 obtain⟨hc,hV⟩:=aSi nodes aF aJ aC aH round frame sa la wa ns sc nl lc nw wc w 51;go_enter func155,ntmps155;go_wp2_with fail;generalize w.alloc (.cells #[iI nodes,iI aF,iI aJ,iI aC,iI aH,iI round,sV sa ns sc,sV la nl lc,iI frame,sV wa nw wc] 51)=V at hc hV⊢;have hW:bW V V:=kX _ _;obtain⟨c0,c1,c2,c3,c4,c5,c6,c7,c8,c9⟩:=hc.below hW;by_cases n1:1<=nodes/\nodes<=16;rotate_left
 ·have hd:decide (1<=nodes/\nodes<=16)=false:=kC n1;exact zI9
 have hd1:decide (1<=nodes/\nodes<=16)=true:=kD n1;obtain⟨n2,n3⟩:=n1;by_cases n4:0<=aF/\aF<=(nodes-1)/3;rotate_left
 ·have J1:decide (0<=aF/\aF<=(nodes-1)/3)=false:=kC n4;rw[<-bHt nodes n2 n3]at J1;have m21:=0;exact zI9
 have J1:decide (0<=aF/\aF<=(nodes-1)/3)=true:=kD n4;rw[<-bHt nodes n2 n3]at J1;have h1:Hid (¬(nodes<1\/16<nodes\/aF<0\/nodes<aF*3+1)):=by rintro(h|h|h|h)<;>omega
 clear n4;rename_i Q1 K2 k2 K1 k1;have aSo:∀(t3 t4 t5 t6 t7 t8 t9 P5 t11 t12 t13 Y8 t15 t16 t17 t18 t19:Value)(u:World),bW V u->Exit.then K1 (Exit.then K2 Q1) .normal ⟨#[.agg #[iI nodes,iI aF,iI aJ,iI aC,iI aH,iI round,sV sa ns sc,sV la nl lc,iI frame,sV wa nw wc],pP w.heap.size,iI 0,t3,t4,t5,t6,t7,t8,t9,P5,t11,t12,t13,Y8,t15,t16,t17,t18,t19,.bool false,undef,undef,undef,undef,undef,undef,undef,undef,undef,undef,undef,undef,undef,undef,undef,undef,undef,undef,undef,undef,undef,undef,undef,undef,undef,undef,undef,undef,undef,undef,undef,undef,undef,undef,undef,undef,undef,undef,undef,undef,undef,undef,undef,undef,undef,undef,undef,undef,undef,undef,undef],[]⟩ u:=by
  intro t3 t4 t5 t6 t7 t8 t9 P5 t11 t12 t13 Y8 t15 t16 t17 t18 t19 u hW;clear c0 c1 c2 c3 c4 c5 c6 c7 c8 c9;obtain⟨c0,c1,c2,c3,c4,c5,c6,c7,c8,c9⟩:=hc.below hW;clear hd1 J1;go_wp2_with fail;by_cases s1:(0<=aJ/\aJ<=137438953472)/\(0<=aC/\aC<=137438953472)/\0<=aH/\aH<=137438953472;rotate_left
  ·have hd:decide ((0<=aJ/\aJ<=137438953472)/\(0<=aC/\aC<=137438953472)/\0<=aH/\aH<=137438953472)=false:=kC s1;have hE:Hid (dJ nodes aF aJ aC aH round frame ns nl nw=2):=rI h1.out od;clear s1;exact zI5
  have hd1:decide ((0<=aJ/\aJ<=137438953472)/\(0<=aC/\aC<=137438953472)/\0<=aH/\aH<=137438953472)=true:=kD s1;have h2:Hid (¬(aJ<0\/137438953472<aJ\/aC<0\/137438953472<aC\/aH<0\/137438953472<aH)):=by rintro(h|h|h|h|h|h)<;>omega
  by_cases s2:(1<=round/\round<=137438953472)/\1<=frame/\frame<=137438953472;rotate_left
  ·have J1:decide ((1<=round/\round<=137438953472)/\1<=frame/\frame<=137438953472)=false:=kC s2;have hE:Hid (dJ nodes aF aJ aC aH round frame ns nl nw=2):=wA h1.out h2.out od;clear s1 s2;have m17:=0;exact zI5
  have J1:decide ((1<=round/\round<=137438953472)/\1<=frame/\frame<=137438953472)=true:=kD s2;have h3:Hid (¬(round<1\/137438953472<round\/frame<1\/137438953472<frame)):=by rintro(h|h|h|h)<;>omega
  obtain⟨⟨s3,s4⟩,⟨s5,s6⟩,s7,s8⟩:=s1;clear s2;rename_i K3 k3 K4 k4;have aSp:∀(t3 t4 t5 t6 t7 t8 t9 P5 t11 t12 t13 Y8 t15 t16 t17 t18 t19 t20 t21 t22 t23 t24 t25 t26 t27 t28 t29 t30 t31 t32 t33 t34 t35 t36 t37 t38 t39:Value)(u:World),bW V u->Exit.then K4 (Exit.then K3 Q1) .normal ⟨#[.agg #[iI nodes,iI aF,iI aJ,iI aC,iI aH,iI round,sV sa ns sc,sV la nl lc,iI frame,sV wa nw wc],pP w.heap.size,iI 0,t3,t4,t5,t6,t7,t8,t9,P5,t11,t12,t13,Y8,t15,t16,t17,t18,t19,t20,t21,t22,t23,t24,t25,t26,t27,t28,t29,t30,t31,t32,t33,t34,t35,t36,t37,t38,t39,.bool false,undef,undef,undef,undef,undef,undef,undef,undef,undef,undef,undef,undef,undef,undef,undef,undef,undef,undef,undef,undef,undef,undef,undef,undef,undef,undef,undef,undef,undef,undef,undef],[]⟩ u:=by
   clear hd1 J1 c0 c1 c2 c3 c4 c5 c6 c7 c8 c9 hW;intro t3 t4 t5 t6 t7 t8 t9 P5 t11 t12 t13 Y8 t15 t16 t17 t18 t19 t20 t21 t22 t23 t24 t25 t26 t27 t28 t29 t30 t31 t32 t33 t34 t35 t36 t37 t38 t39 u hW;obtain⟨c0,c1,c2,c3,c4,c5,c6,c7,c8,c9⟩:=hc.below hW;by_cases d1:ns<=32;rotate_left
   ·have hn:decide ((32:Int)<(ns:Int))=true:=kD od;exact zP6
   by_cases d2:nl<=8;rotate_left
   ·have hn:decide ((8:Int)<(nl:Int))=true:=kD od;exact zMq
   by_cases d3:nw<=32;rotate_left
   ·have hn:decide ((32:Int)<(nw:Int))=true:=kD od;have bKo:=0;exact zMq
   have h4:Hid (¬(32<ns\/8<nl\/32<nw)):=by rintro(h|h|h)<;>omega
   by_cases f1:aJ/2+2*aC+1+2*aH<=aJ
   ·have hE:Hid (dJ nodes aF aJ aC aH round frame ns nl nw=0):=aCi h1.out h2.out h3.out h4.out od;exact zG1
   ·have hn:decide (aJ<aJ/2+2*aC+1+2*aH)=true:=kD od;have hE:Hid (dJ nodes aF aJ aC aH round frame ns nl nw=13):=aA6 h1.out h2.out h3.out h4.out od;clear f1;exact zG1
  exact zM3
 exact zPf
def mS(ls oJ lt:Nat->Int)(k i ch M4:Nat):Bool:=(List.range k).any fun x=>decide (ls x=i)&&(decide (oJ x=ch)&&aW (lt x) M4)
theorem aL6(ls oJ lt:Nat->Int)(k i ch M4:Nat):mS ls oJ lt (k+1) i ch M4=(mS ls oJ lt k i ch M4||(decide (ls k=i)&&(decide (oJ k=ch)&&aW (lt k) M4))):=by unfold mS;rw[List.range_succ,List.any_append];simp
theorem bAi(w:World)(a b c:Value)(t:TypeId):(w.alloc (.cells #[a,b,c] t)).cell? (aA w.heap.size 0)=some a/\(w.alloc (.cells #[a,b,c] t)).cell? (aA w.heap.size 1)=some b/\(w.alloc (.cells #[a,b,c] t)).cell? (aA w.heap.size 2)=some c:=⟨oh,oh,oh⟩
def aJn(k:Nat):Bool:=decide (k=38)||decide (k=40)||(decide (338<=k)&&decide (k<=360))
theorem aZc(body:Code)(mP:(Tryz.f56.body.map cY).bind (fun l=>l[8]?)=some body)(Q:Exit->Act->World->Prop)(i M4 ch:Nat)(b0:Bool)(la:Option Addr)(nL lc:Nat)(ls oJ lt:Nat->Int)(w:World)(hr:dX w la nL ls oJ lt)(hL:nL<=9223372036854775807)(hto:M4<=15){L:List Value}(tC:L.length=452)(s21:L[21]?=some (iI i))(s35:L[35]?=some (iI M4))(s37:L[37]?=some (iI ch))(s38:L[38]?=some (.bool b0))(bDs:L[336]?=some (sV la nL lc))(bDt:L[337]?=some (iI nL))(bDu:L[338]?=some (iI 0))
  (cN:∀(L':List Value) (wr:World),bW w wr->L'.length=452->Rest aJn L L'->L'[38]?=some (.bool (b0&& !mS ls oJ lt nL i ch M4))->L'[338]?=some (iI nL)->Q (.exit 16) ⟨L'.toArray,[]⟩ wr):
  Code.wp prog (Code.loop body) Q ⟨L.toArray,[]⟩ w:=by
 have dQ:((Tryz.f56.body.map cY).bind (fun l=>l[8]?)).getD Code.skip=body:=ey;obtain rfl:=dQ;clear mP;conv=>arg 2;arg 1;whnf
 have wW:Hid _:=cN;obtain⟨fL,rfl⟩:=lit L 452 tC;replace s21:=aX s21;replace s35:=aX s35;replace s37:=aX s37;replace s38:=aX s38;replace bDs:=aX bDs;replace bDt:=aX bDt;replace bDu:=aX bDu;simp only[List.range,List.range.loop,List.map_cons,List.map_nil,s21,s35,s37,s38,bDs,bDt,bDu];have HR:Hid (dX w la nL ls oJ lt):=hr;clear cN hr;go_loopw[338,38] (fun t v wr=>∃k:Nat,k<=nL/\t=iI k/\v=.bool (b0&& !mS ls oJ lt k i ch M4)/\Hid (bW w wr)) (fun t _ _=>nL-(intOf t).toNat);case atStart=>exact⟨0,kH _,rfl,by simp[mS],kX _ _⟩
 case round=>
  obtain⟨k,hk,rfl,rfl,bT⟩:=hrel;by_cases hlt:k<nL
  ·obtain⟨b,off,rfl,gX,hc⟩:=HR.out od;obtain⟨x0,x1,x2⟩:=hc k hlt;have y0:=(bT.out.cell (p:=⟨b,off+k*3,none⟩) gX).trans x0;have y1:=(bT.out.cell (p:=⟨b,off+k*3+1,none⟩) gX).trans x1;have y2:=(bT.out.cell (p:=⟨b,off+k*3+2,none⟩) gX).trans x2;have hbw:b<wr.heap.size:=kB gX bT.out.size;have kk:(k:Int)<(nL:Int):=od;have HS:Hid (mS ls oJ lt (k+1) i ch M4=(mS ls oJ lt k i ch M4||(decide (ls k=i)&&(decide (oJ k=ch)&&aW (lt k) M4)))):=aL6 ..;have hsh:=aOl (lt k) M4;have hB:bW w (wr.alloc (.cells #[iI (ls k),iI (oJ k),iI (lt k)] 114)):=bT.out.alloc bT.out.size _;have HB:Hid _:=hB;clear hc hB x0 x1 x2;generalize mS ls oJ lt k i ch M4=LB at *;generalize ls k=A0 at *;generalize oJ k=A1 at *;generalize lt k=A2 at *;by_cases e0:A0=(i:Int)
   ·subst e0;by_cases e1:A1=(ch:Int)
    ·subst e1;cases C0:aW A2 M4
     ·exact zFv
     ·exact zFv
    ·have e1':(A1==(ch:Int))=false:=by simpa using e1
     have HE:Hid (decide (A1=(ch:Int))=false):=kC e1;clear e1;exact zGa
   ·have e0':(A0==(i:Int))=false:=by simpa using e0
    have HE:Hid (decide (A0=(i:Int))=false):=kC e0;clear e0;exact zGa
  ·obtain rfl:k=nL:=by omega
   go_wp2;exact wW.out _ _ bT.out rfl (Rest.of rfl) rfl rfl
