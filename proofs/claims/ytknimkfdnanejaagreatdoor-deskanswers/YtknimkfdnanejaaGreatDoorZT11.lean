import Derived.Test.YtknimkfdnanejaaGreatDoorZRefMain
import Derived.Test.YtknimkfdnanejaaGreatDoorZT10
import Derived.Test.YtknimkfdnanejaaGreatDoorZT8
namespace Go.Proofs.YtknimkfdnanejaaGreatDoor
open Go.RowKit Go.Proofs.Tryz
set_option maxRecDepth 100000
set_option maxHeartbeats 16000000
theorem J7(n:Nat)(h:n<128)(w:World):
  Calls prog 95 #[iI n] w fun e w'=>∃v,e=rT v/\w'.ownsRow w.heap.size 5 1 v 1 [.int .u8 n]/\bW w w':=by have h1:(n:Int)<128:=od;go_enter func95,ntmps95;go_wp2;go_ret;exact⟨_,rfl,aHu w _ _,(kX _ _).alloc (kF _) _⟩
theorem aHs(n:Nat)(h:128<=n)(hM:n<=1099511627776)(m:Nat)(xs:List Value)(hm:xs.length=m)(hm1:1<=m)(hm2:m<=10)(bJz:∀u∈xs,u.oneCell'=true)(w:World)
  (aA8:∀w:World,Calls prog 95 #[iI ((n:Int)/128)] w fun e w'=>∃v,e=rT v/\w'.ownsRow w.heap.size 5 1 v m xs/\bW w w'):
  Calls prog 95 #[iI n] w fun e w'=>∃v,e=rT v/\w'.ownsRow w.heap.size 5 1 v (1+m) (.int .u8 ((n:Int)%128+128)::xs)/\bW w w':=by have h1:(128:Int)<=(n:Int):=od;have h2:(n:Int)<=1099511627776:=od;have hn:decide ((n:Int)<128)=false:=kC od;have HR:Hid (∀w:World,Calls prog 95 #[iI ((n:Int)/128)] w fun e w'=>∃v,e=rT v/\w'.ownsRow w.heap.size 5 1 v m xs/\bW w w'):=aA8;clear aA8;obtain⟨i0,hi,lO,mX,jX⟩:=info_parts Tryz.infoByte;go_enter func95,ntmps95;go_wp2_with fail;refine(HR.out _).mono ?_;rintro e w1 ⟨v1,rfl,bK,hb⟩;have bJo:=fF (aHu w (.int .u8 ((n:Int)%128+128)) 5) hb;obtain⟨g,cap,rfl,hg,hcells⟩:=pX bK hm1;have hz:=hb.size;simp at hz hg;have hlen:xs.length=m*1:=od;clear bK;go_wp2_with(at_builtin;refine wpList_append_own _ rfl _ _ 31 rfl w.heap.size 5 i0 (.int .u8 0) 1 1 underlying31 hi lO mX jX rfl oe _ 1 [.int .u8 ((n:Int)%128+128)] rfl bJo (aA g 0) m cap xs rfl hlen hcells bJz oo od od ?_;intro v' w2 cD bP vP);go_ret;refine⟨_,rfl,cD,?_⟩;have hB:bW w w1:=((kX _ _).alloc (kF _) _).trans (hb.mono oh);exact hB.grown bP od (fun k hk=>by cases hk;exact kF _)
theorem aIv:∀(k n:Nat),n<128^(k+1)->n<=1099511627776->k<=8->∀w:World,
  Calls prog 95 #[iI n] w fun e w'=>∃v,e=rT v/\w'.ownsRow w.heap.size 5 1 v (pO k n).length ((pO k n).map (Value.int .u8))/\bW w w'
 |0,n,h,_,_,w=>J7 n (by simpa using h) w
 |k+1,n,h,hM,hk,w=>by
  by_cases h1:n<128
  ·have e:pO (k+1) n=[(n:Int)]:=by simp[pO,h1]
   rw[e];exact J7 n h1 w
  ·have e:pO (k+1) n=((n%128:Nat)+128:Int)::pO k (n/128):=by simp[pO,h1]
   have hl:=uF k (n/128);have ih:=aIv k (n/128) (by rw[Nat.div_lt_iff_lt_mul oe];rw[Nat.pow_succ]at h;exact h) od od;have e2:((n/128:Nat):Int)=(n:Int)/128:=od;rw[e2]at ih;have s:=aHs n od hM (pO k (n/128)).length ((pO k (n/128)).map (Value.int .u8)) oh hl.1 od (fun u hu=>by
    simp at hu;obtain⟨a,_,rfl⟩:=hu;rfl) w ih
   rw[e];have e3:(((n%128:Nat):Int)+128)=(n:Int)%128+128:=od;have e4:(((n%128:Nat)+128:Int)::pO k (n/128)).length=1+(pO k (n/128)).length:=ol;rw[e4,List.map_cons,e3];exact s
theorem aKn{w w':World}{row:Option Nat}(h:w.grownBy w' row){a:Addr}{v:Value}(hc:w.cell? a=some v)(hr:row≠some a.block):w'.cell? a=some v:=
 (World.cell?_of_block (w:=w) (h.block a.block (lt_of_cell hc) (fun e=>hr e.symm))).trans hc
theorem aS2(base:Nat)(v0:Value)(xs:List Int)(b cap:Nat)(L:List Int)(w:World)(bK:w.ownsRow base 5 1 v0 xs.length (xs.map (Value.int .u8)))
  (hc:∀j (h:j<L.length),w.cell? (aA b j)=some (iI L[j]))(hL:∀x∈L,0<=x/\x<=1099511627776)(hb:v0.ownBlock≠some b)(qV:base<=w.heap.size)(hlen:xs.length<=10000)(hLl:L.length<=100):
  Calls prog 112 #[v0,sL b L.length cap] w fun ev w'=>∃v',ev=rT v'/\w'.ownsRow base 5 1 v' (xs++dL L L.length).length ((xs++dL L L.length).map (Value.int .u8))/\Below base w w'/\w.heap.size<=w'.heap.size:=by
 obtain⟨i1,hj,R8,hy1,M3⟩:=info_parts Tryz.infoByte;have HC:Hid (∀j (h:j<L.length),w.cell? (aA b j)=some (iI L[j])):=hc;have HL:Hid (∀x∈L,0<=x/\x<=1099511627776):=hL;clear hc hL;obtain⟨n,hn⟩:∃n,L.length=n:=⟨_,rfl⟩;rw[hn]at hLl;have HN:Hid (L.length=n):=hn;rw[hn];clear hn;go_enter func112,ntmps112;go_wp2;go_loopw[0,9] (fun v t wr=>∃k:Nat,k<=n/\t=iI k/\Hid (wr.ownsRow base 5 1 v (xs++dL L k).length ((xs++dL L k).map (Value.int .u8)))/\Hid (v.ownBlock≠some b)/\Hid (∀j (h:j<L.length),wr.cell? (aA b j)=some (iI L[j]))/\Below base w wr) (fun _ t _=>n-(intOf t).toNat);case atStart=>exact⟨0,kH _,rfl,by simpa[dL,Hid]using bK,hb,HC.out,kX _ _⟩
 case round=>
  obtain⟨k,hk,rfl,ho,hbk,tN,bT⟩:=hrel;by_cases hlt:k<n
  ·have hkL:k<L.length:=by rw[HN.out];exact hlt
   obtain⟨x,hx⟩:∃x,x=L[k]:=⟨_,rfl⟩;have hxb:=HL.out x (by rw[hx];exact List.getElem_mem hkL);have y0:wr.cell? (aA b k)=some (iI x):=by rw[hx];exact tN.out k hkL
   obtain⟨m,hm⟩:=Int.eq_ofNat_of_zero_le hxb.1;have hm2:m<=1099511627776:=od;have hm3:(L[k]).toNat=m:=od;have HM:Hid ((L[k]).toNat=m):=hm3;subst hm;clear hx hm3 hxb;have Y0:b<wr.heap.size:=lt_of_cell y0;go_wp2_with fail;rename World=>wq
   go_loopw[0,6] (fun v t wv=>∃(j q:Nat)(dn:List Int),j<=5/\Hid (q<128^(j+1))/\q<=1099511627776/\t=iI q/\Hid (dn++pO j q=pO 5 m)/\Hid (wv.ownsRow base 5 1 v ((xs++dL L k)++dn).length (((xs++dL L k)++dn).map (Value.int .u8)))/\Hid (v.ownBlock≠some b)/\Hid (∀j (h:j<L.length),wv.cell? (aA b j)=some (iI L[j]))/\Below base w wv) (fun _ t _=>(intOf t).toNat);case atStart=>exact⟨5,m,[],od,(by show m<128^6;omega),hm2,rfl,rfl,by simpa using ho,hbk,tN,bT⟩
   case round=>
    clear ho hbk tN bT y0 Y0;obtain⟨j,q,dn,hj5,hq1,hq2,rfl,hdn,ho,hbk,tN,bT⟩:=hrel;by_cases hbig:128<=q
    ·have h1:(128:Int)<=(q:Int):=by omega
     have h2:(q:Int)<=1099511627776:=od;have hjp:1<=j:=by
      rcases Nat.eq_zero_or_pos j with e|e
      ·subst e;have:=hq1.out;simp at this;omega
      ·exact e
     obtain⟨j',rfl⟩:∃j',j=j'+1:=⟨j-1,od⟩;have HNB:Hid (pO (j'+1) q=((q%128:Nat)+128:Int)::pO j' (q/128)):=by show _=_;simp only[pO];rw[kI od]
     have hQ:Hid (q/128<128^(j'+1)):=by show _<_;rw[Nat.div_lt_iff_lt_mul oe];have:=hq1.out;rw[Nat.pow_succ]at this;exact this
     exact zJx
    ·have h1:decide ((128:Int)<=(q:Int))=false:=kC od;have h2:(q:Int)<128:=od;have HNB:Hid (pO j q=[(q:Int)]):=by
      show _=_
      cases j with
      |zero=>simp only[pO]
      |succ j=>simp only[pO];rw[kJ od]
     clear hbig;have m45:=0;exact zJx
  ·have M2:k=n:=by omega
   subst M2;go_wp2;go_ret;exact⟨_,rfl,ho.out,bT,bT.size⟩
def bytesOf(L:List Int):List Int:=L.flatMap fun x=>pO 5 x.toNat
theorem yI(L:List Int):dL L L.length=bytesOf L:=by simp[dL,bytesOf]
theorem nW(A B:List Int):bytesOf (A++B)=bytesOf A++bytesOf B:=by simp[bytesOf]
theorem iY(L:List Int):(bytesOf L).length<=6*L.length:=by rw[<-yI];exact uV L _ (kF _)
theorem rP(base:Nat)(v0:Value)(xs L:List Int)(cur:Array Value)(cap:Nat)(u:World)(H:Nat)(hH:u.heap.size=H)(bJf:cur.toList=L.map (Value.int .i64))(bK:u.ownsRow base 5 1 v0 xs.length (xs.map (Value.int .u8)))(qV:base<=u.heap.size)
  (hL:∀x∈L,0<=x/\x<=1099511627776)(hlen:xs.length<=10000)(hLl:L.length<=100):
  Calls prog 112 #[v0,sL H L.length cap] (u.alloc (.cells cur 3)) fun ev w'=>∃v',ev=rT v'/\w'.ownsRow base 5 1 v' (xs++bytesOf L).length ((xs++bytesOf L).map (Value.int .u8))/\Below base u w'/\u.heap.size<w'.heap.size:=by
 subst hH;refine(aS2 base v0 xs u.heap.size cap L (u.alloc (.cells cur 3)) (fF bK ((kX _ _).alloc (kF _) _)) (fun j h=>?_) hL (fun e=>?_) ol hlen hLl).mono ?_
 ·have:=rN u cur 3 j (iI L[j]) (by rw[bJf];simp[h]);simpa only[add_plain,Nat.zero_add]using this
 ·have:=(bK.lt _ e).2;omega
 ·rintro ev w' ⟨v',h1,h2,h3,h4⟩;rw[yI]at h2;simp at h4;exact⟨v',h1,h2,((kX _ _).alloc qV _).trans h3,od⟩
theorem aV3(f s n d l:Int)(w:World)(h:cV f s n d=false):
  Calls prog 83 #[.agg #[iI f,iI s,iI n,iI d],iI l] w fun e w'=>e=rT (tU #[iI 0,.iface 25 (iI 1)])/\bW w w':=by have HR:Hid (cV f s n d=false):=h;clear h;have W9:=Tryz.mf;go_enter func83,ntmps83;exact zEd
theorem aV4(f s n d l:Int)(w:World)(h:cV f s n d=true)(hl:l< -1099511627776):
  Calls prog 83 #[.agg #[iI f,iI s,iI n,iI d],iI l] w fun e w'=>e=rT (tU #[iI 0,.iface 25 (iI 2)])/\bW w w':=by obtain⟨h1,h2,h3,h4,h5,h6,h7,h8,h9,h10⟩:=iK h;have HR:Hid (cV f s n d=true):=h;clear h;have hn:decide (-1099511627776<=l)=false:=kC od;exact zHk
theorem aQu(f s n d l:Int)(w:World)(h:cV f s n d=true)(hl:1099511627776<l):
  Calls prog 83 #[.agg #[iI f,iI s,iI n,iI d],iI l] w fun e w'=>e=rT (tU #[iI 0,.iface 25 (iI 2)])/\bW w w':=by obtain⟨h1,h2,h3,h4,h5,h6,h7,h8,h9,h10⟩:=iK h;exact zMb
theorem aM3(f s n d l:Int)(w:World)(h:cV f s n d=true)(hl:-1099511627776<=l)(J2:l<=s):
  Calls prog 83 #[.agg #[iI f,iI s,iI n,iI d],iI l] w fun e w'=>e=rT (tU #[iI f,.nilIface])/\bW w w':=by obtain⟨h1,h2,h3,h4,h5,h6,h7,h8,h9,h10⟩:=iK h;have HR:Hid (cV f s n d=true):=h;clear h;have hn:l<=1099511627776:=od;exact zHk
theorem aZ0(f s n d l:Int)(w:World)(h:cV f s n d=true)(hl:l<=1099511627776)(J2:s<l)(hv:f+((l-s)*d+n-1)/n<=1099511627776):
  Calls prog 83 #[.agg #[iI f,iI s,iI n,iI d],iI l] w fun e w'=>e=rT (tU #[iI (f+((l-s)*d+n-1)/n),.nilIface])/\bW w w':=zGo
theorem aQt(f s n d l:Int)(w:World)(h:cV f s n d=true)(hl:l<=1099511627776)(J2:s<l)(hv:1099511627776<f+((l-s)*d+n-1)/n):
  Calls prog 83 #[.agg #[iI f,iI s,iI n,iI d],iI l] w fun e w'=>e=rT (tU #[iI 0,.iface 25 (iI 2)])/\bW w w':=zGo
def uB(tq:Nat->Int)(k:Nat):Int:=if k=0 then 0 else tq (k-1)
theorem zP(nd fr tq:Nat->Int)(frame:Int)(k:Nat):
  fH nd fr tq frame k=if nK (fr k) (tq k) (uB tq k) frame≠0 then nK (fr k) (tq k) (uB tq k) frame else if nd k<0\/5<nd k then 7 else 0:=by
 have e:((k=0/\fr k<0)\/(0<k/\fr k<tq (k-1)))↔fr k<uB tq k:=by unfold uB;exact zCj
 unfold fH nK;by_cases h1:tq k<=fr k
 ·simp[h1]
 ·rw[kI h1];by_cases h2:fr k<uB tq k
  ·simp[e,h1,h2]
  ·simp only[e];rw[kI h2];by_cases h3:frame<tq k
   ·simp[h1,h2,h3]
   ·simp[h1,h2,h3]
theorem aWi(nodes aF aJ aC aH round frame:Int)(sa la wa:Option Addr)(ns sc nl lc nw wc:Nat)(w:World)
  (d1:nw<=32)
  (nd fr tq:Nat->Int)(hs:dX w wa nw nd fr tq)(e i:Int)(hF:bY (fH nd fr tq frame) nw e i):
  Calls prog 158 #[.agg #[iI nodes,iI aF,iI aJ,iI aC,iI aH,iI round,sV sa ns sc,sV la nl lc,iI frame,sV wa nw wc]] w fun ev w'=>∃E,ev=rT E/\U3 w' E e (2000+i)/\bW w w':=by have HF:Hid (bY (fH nd fr tq frame) nw e i):=hF;have m9:=0;exact zIx
theorem aQh(nodes:Int)(h1:1<=nodes)(h2:nodes<=16):2<=(2:Int)^nodes.toNat/\(2:Int)^nodes.toNat<=65536:=zGt
theorem aEu(nodes aF aJ aC aH round frame:Int)(sa la wa:Option Addr)(ns sc nl lc nw wc:Nat)(nd fr tq lf lt lb lq:Nat->Int)(hit:Nat->Bool)(pw:Int)(wp wf wt:Nat->Int)(E I:Int)(w:World)
  (hs:dX w sa ns nd fr tq)(hl:vY w la nl lf lt lb lq)(hw:dX w wa nw wp wf wt)(hpw:(2:Int)^nodes.toNat=pw)(N4:∀j,0<=lf j->lf j<=15->hit j=(bits BinOp.and .i64 (lt j) (2^(lf j).toNat) !=0))(mQ:pT w)
  (hC:lS nodes aF aJ aC aH round frame ns nl nw nd fr tq lf lt lb lq hit pw wp wf wt E I):
  Calls prog 94 #[.agg #[iI nodes,iI aF,iI aJ,iI aC,iI aH,iI round,sV sa ns sc,sV la nl lc,iI frame,sV wa nw wc]] w fun ev w'=>ev=rT (.agg #[iI E,iI I])/\bW w w':=by
 by_cases a1:1<=nodes;rotate_left
 ·obtain⟨rfl,rfl⟩:=hC.head (tP od) oe;exact aV5 nodes aF aJ aC aH round frame sa la wa ns sc nl lc nw wc w  od
 by_cases a2:nodes<=16;rotate_left
 ·obtain⟨rfl,rfl⟩:=hC.head (tP od) oe;exact aV6 nodes aF aJ aC aH round frame sa la wa ns sc nl lc nw wc w a1 od
 by_cases a3:0<=aF;rotate_left
 ·obtain⟨rfl,rfl⟩:=hC.head (tP od) oe;exact aV7 nodes aF aJ aC aH round frame sa la wa ns sc nl lc nw wc w a1 a2 od
 by_cases a4:aF<=100;rotate_left
 ·obtain⟨rfl,rfl⟩:=hC.head (tP od) oe;exact aV8 nodes aF aJ aC aH round frame sa la wa ns sc nl lc nw wc w a1 a2 a3 od
 by_cases a5:aF*3+1<=nodes;rotate_left
 ·obtain⟨rfl,rfl⟩:=hC.head (tP od) oe;exact aV9 nodes aF aJ aC aH round frame sa la wa ns sc nl lc nw wc w a1 a2 a3 a4 od
 by_cases b1:0<=aJ;rotate_left
 ·obtain⟨rfl,rfl⟩:=hC.head (rI od od) oe;exact aVa nodes aF aJ aC aH round frame sa la wa ns sc nl lc nw wc w a1 a2 a3 a4 a5 od
 by_cases b2:aJ<=137438953472;rotate_left
 ·obtain⟨rfl,rfl⟩:=hC.head (rI od od) oe;exact aVb nodes aF aJ aC aH round frame sa la wa ns sc nl lc nw wc w a1 a2 a3 a4 a5 b1 od
 by_cases b3:0<=aC;rotate_left
 ·obtain⟨rfl,rfl⟩:=hC.head (rI od od) oe;exact aVc nodes aF aJ aC aH round frame sa la wa ns sc nl lc nw wc w a1 a2 a3 a4 a5 b1 b2 od
 by_cases b4:aC<=137438953472;rotate_left
 ·obtain⟨rfl,rfl⟩:=hC.head (rI od od) oe;exact aVd nodes aF aJ aC aH round frame sa la wa ns sc nl lc nw wc w a1 a2 a3 a4 a5 b1 b2 b3 od
 by_cases b5:0<=aH;rotate_left
 ·obtain⟨rfl,rfl⟩:=hC.head (rI od od) oe;exact aQw nodes aF aJ aC aH round frame sa la wa ns sc nl lc nw wc w a1 a2 a3 a4 a5 b1 b2 b3 b4 od
 by_cases b6:aH<=137438953472;rotate_left
 ·obtain⟨rfl,rfl⟩:=hC.head (rI od od) oe;exact aQx nodes aF aJ aC aH round frame sa la wa ns sc nl lc nw wc w a1 a2 a3 a4 a5 b1 b2 b3 b4 b5 od
 by_cases c1:1<=round;rotate_left
 ·obtain⟨rfl,rfl⟩:=hC.head (wA od od od) oe;exact aQy nodes aF aJ aC aH round frame sa la wa ns sc nl lc nw wc w a1 a2 a3 a4 a5 b1 b2 b3 b4 b5 b6 od
 by_cases c2:round<=137438953472;rotate_left
 ·obtain⟨rfl,rfl⟩:=hC.head (wA od od od) oe;exact aQz nodes aF aJ aC aH round frame sa la wa ns sc nl lc nw wc w a1 a2 a3 a4 a5 b1 b2 b3 b4 b5 b6 c1 od
 by_cases c3:1<=frame;rotate_left
 ·obtain⟨rfl,rfl⟩:=hC.head (wA od od od) oe;exact aR0 nodes aF aJ aC aH round frame sa la wa ns sc nl lc nw wc w a1 a2 a3 a4 a5 b1 b2 b3 b4 b5 b6 c1 c2 od
 by_cases c4:frame<=137438953472;rotate_left
 ·obtain⟨rfl,rfl⟩:=hC.head (wA od od od) oe;exact aR1 nodes aF aJ aC aH round frame sa la wa ns sc nl lc nw wc w a1 a2 a3 a4 a5 b1 b2 b3 b4 b5 b6 c1 c2 c3 od
 by_cases d1:ns<=32;rotate_left
 ·obtain⟨rfl,rfl⟩:=hC.head (zX od od od od) oe;exact aR2 nodes aF aJ aC aH round frame sa la wa ns sc nl lc nw wc w a1 a2 a3 a4 a5 b1 b2 b3 b4 b5 b6 c1 c2 c3 c4 od
 by_cases d2:nl<=8;rotate_left
 ·obtain⟨rfl,rfl⟩:=hC.head (zX od od od od) oe;exact aR3 nodes aF aJ aC aH round frame sa la wa ns sc nl lc nw wc w a1 a2 a3 a4 a5 b1 b2 b3 b4 b5 b6 c1 c2 c3 c4 d1 od
 by_cases d3:nw<=32;rotate_left
 ·obtain⟨rfl,rfl⟩:=hC.head (zX od od od od) oe;exact aR4 nodes aF aJ aC aH round frame sa la wa ns sc nl lc nw wc w a1 a2 a3 a4 a5 b1 b2 b3 b4 b5 b6 c1 c2 c3 c4 d1 d2 od
 by_cases f1:aJ/2+aC*2+aH*2+1<=aJ;rotate_left
 ·obtain⟨rfl,rfl⟩:=hC.head (aA6 od od od od od) oe;exact aR5 nodes aF aJ aC aH round frame sa la wa ns sc nl lc nw wc w a1 a2 a3 a4 a5 b1 b2 b3 b4 b5 b6 c1 c2 c3 c4 d1 d2 d3 od
 obtain⟨p1,p2⟩:=aQh nodes a1 a2;rw[hpw]at p1 p2;rcases hC with⟨h0,_⟩|⟨_,e1,i1,e2,i2,e3,i3,g1,g2,g3,g4⟩
 ·exact absurd (aCi od od od od od) h0
 ·exact aZ2 nodes aF aJ aC aH round frame sa la wa ns sc nl lc nw wc w a1 a2 a3 a4 a5 b1 b2 b3 b4 b5 b6 c1 c2 c3 c4 d1 d2 d3 f1 nd fr tq hs lf lt lb lq hl hit pw hpw p1 p2 N4 e1 i1 e2 i2 e3 i3 E I g1 wp wf wt hw mQ g3 g2 g4
section
variable{P Q n:Nat}{b g id:Int}
theorem aBw{w:World}{t:Nat->Bool}{fz:Bool}(h:bZ w P Q id n t g b fz)(gH m:Int)(lK:1<=n)(hn:n<=16)(ho:¬((0<=gH/\gH<n)/\0<=m/\m<2^n)):
  Calls prog 103 #[pP P,iI gH,iI m] w fun e w'=>e=rT (iI 2)/\w'=w:=zMs
theorem aEy{w:World}{t:Nat->Bool}{fz:Bool}(h:bZ w P Q id n t g b fz)(k:Nat)(m:Int)(s:Nat->Bool)(hn:n<=16)(hk:k<n)(m0:0<=m)(m1:m<2^n)(hs:∀j,j<n->(bits BinOp.and .i64 m (2^j) !=0)=s j):
  Calls prog 103 #[pP P,iI k,iI m] w fun e w'=>e=rT (iI (if F4 n k s t=true then 1 else 2))/\w'=w:=have bGq:=0;zMs
theorem aBv{w:World}{t:Nat->Bool}{fz:Bool}(h:bZ w P Q id n t g b fz)(gH m:Int)(s:Nat->Bool)(lK:1<=n)(hn:n<=16)(hs:0<=m->m<2^n->∀j,j<n->(bits BinOp.and .i64 m (2^j) !=0)=s j):
  Calls prog 103 #[pP P,iI gH,iI m] w fun e w'=>e=rT (iI (eV n t s gH m))/\w'=w:=by
 by_cases ho:(0<=gH/\gH<n)/\0<=m/\m<2^n
 ·have key:=aEy h gH.toNat m s hn od ho.2.1 ho.2.2 (hs ho.2.1 ho.2.2);rw[show((gH.toNat:Nat):Int)=gH by omega]at key;have e:eV n t s gH m=if F4 n gH.toNat s t=true then 1 else 2:=by
   unfold eV;by_cases q:F4 n gH.toNat s t=true
   ·rw[kJ ⟨ho.1,ho.2.1,ho.2.2,q⟩,kJ q]
   ·rw[kI (fun y=>q y.2.2.2),kI q]
  rw[e];exact key
 ·have e:eV n t s gH m=2:=by unfold eV;rw[kI (fun y=>ho ⟨y.1,y.2.1,y.2.2.1⟩)]
  rw[e];exact aBw h gH m lK hn ho
end
theorem aEa{nodes aF aJ aC aH round frame:Int}{ns nl nw:Nat}(h:dJ nodes aF aJ aC aH round frame ns nl nw=0):
  1<=nodes/\nodes<=16/\0<=aF/\aF<=5/\(0<=aJ/\aJ<=137438953472)/\(0<=aC/\aC<=137438953472)/\(0<=aH/\aH<=137438953472)/\(1<=round/\round<=137438953472)/\(1<=frame/\frame<=137438953472)/\ns<=32/\nl<=8/\nw<=32:=zBs
theorem aLw(nodes:Int)(h1:1<=nodes)(h2:nodes<=16):2<=(2:Int)^nodes.toNat/\(2:Int)^nodes.toNat<=65536:=zGt
theorem U3.err{w:World}{E:Value}{e i:Int}(h:U3 w E e i)(he:e≠0):jK w E e i:=by
 rcases h with⟨_,h⟩|h
 ·exact absurd h he
 ·exact .inr (.inr h)
theorem U3.isNone{w:World}{E:Value}{i:Int}(h:U3 w E 0 i):E=.nilIface:=by
 rcases h with⟨h,_⟩|⟨_,_,h,_⟩
 ·exact h
 ·exact absurd rfl h
theorem U3.isSome{w:World}{E:Value}{e i:Int}(h:U3 w E e i)(he:e≠0):∃b,E=.iface 299 (pP b):=by
 rcases h with⟨_,h⟩|⟨b,h,_⟩
 ·exact absurd h he
 ·exact⟨b,h⟩
theorem aOq(nodes aF aJ aC aH round frame:Int)(sa la wa:Option Addr)(ns sc nl lc nw wc:Nat)(nd fr tq lf lt lb lq:Nat->Int)(hit:Nat->Bool)(pw:Int)(wp wf wt:Nat->Int)(E I:Int)(w:World)
  (hs:dX w sa ns nd fr tq)(hl:vY w la nl lf lt lb lq)(hw:dX w wa nw wp wf wt)(hpw:(2:Int)^nodes.toNat=pw)(N4:∀j,0<=lf j->lf j<=15->hit j=(bits BinOp.and .i64 (lt j) (2^(lf j).toNat) !=0))
  (hC:lS nodes aF aJ aC aH round frame ns nl nw nd fr tq lf lt lb lq hit pw wp wf wt E I):
  Calls prog 111 #[.agg #[iI nodes,iI aF,iI aJ,iI aC,iI aH,iI round,sV sa ns sc,sV la nl lc,iI frame,sV wa nw wc]] w fun ev w'=>∃V,ev=rT V/\jK w' V E I/\bW w w':=by have HC:Hid (lS nodes aF aJ aC aH round frame ns nl nw nd fr tq lf lt lb lq hit pw wp wf wt E I):=hC;have HPW:Hid ((2:Int)^nodes.toNat=pw):=hpw;have HH:Hid (∀j,0<=lf j->lf j<=15->hit j=(bits BinOp.and .i64 (lt j) (2^(lf j).toNat) !=0)):=N4;clear hC hpw N4;exact zPk
theorem bY.one{f:Nat->Int}{n:Nat}{e i e' i':Int}(h:bY f n e i)(h':bY f n e' i'):e=e'/\i=i':=by
 rcases h with⟨h0,h1,h2⟩|⟨k,hk,h0,hf,h1,h2⟩
 ·obtain⟨q1,q2⟩:=h'.at_end h0;exact⟨h1.trans q1.symm,h2.trans q2.symm⟩
 ·obtain⟨q1,q2⟩:=h'.aSg hk h0 (fun y=>h1 (hf.symm.trans y));exact⟨hf.symm.trans q1.symm,h2.trans q2.symm⟩
theorem aQ.Is.one{p:aQ}{E I E' I':Int}(h:p.Is E I)(h':p.Is E' I'):E=E'/\I=I':=by
 unfold aQ.Is lS at h h';rcases h with⟨a0,a1,a2⟩|⟨a0,e1,i1,e2,i2,e3,i3,F1,F2,F3,R⟩
 ·rcases h' with⟨b0,b1,b2⟩|⟨b0,_⟩
  ·exact⟨a1.trans b1.symm,a2.trans b2.symm⟩
  ·exact absurd b0 a0
 ·rcases h' with⟨b0,b1,b2⟩|⟨b0,g1,j1,g2,j2,g3,j3,G1,G2,G3,S⟩
  ·exact absurd a0 b0
  ·obtain⟨rfl,rfl⟩:=F1.one G1;obtain⟨rfl,rfl⟩:=F2.one G2;obtain⟨rfl,rfl⟩:=F3.one G3;by_cases z1:e1=0
   ·by_cases z2:e2=0
    ·by_cases z3:e3=0
     ·have q1:=R.2.2.2 z1 z2 z3;have q2:=S.2.2.2 z1 z2 z3;exact zD5
     ·have q1:=R.2.2.1 z1 z2 z3;have q2:=S.2.2.1 z1 z2 z3;exact zD5
    ·have q1:=R.2.1 z1 z2;have q2:=S.2.1 z1 z2;exact zD5
   ·have q1:=R.1 z1;have q2:=S.1 z1;exact zD5
theorem aQ.Is.neg{p:aQ}{I:Int}(h:p.Is 0 I):I=-1:=by
 unfold aQ.Is lS at h;rcases h with⟨a0,a1,a2⟩|⟨a0,e1,i1,e2,i2,e3,i3,F1,F2,F3,R⟩
 ·exact a2
 ·by_cases z1:e1=0
  ·by_cases z2:e2=0
   ·by_cases z3:e3=0
    ·exact(R.2.2.2 z1 z2 z3).2
    ·exact absurd (R.2.2.1 z1 z2 z3).1.symm z3
   ·exact absurd (R.2.1 z1 z2).1.symm z2
  ·exact absurd (R.1 z1).1.symm z1
theorem qU.one{p:aQ}{fa:Int}{cs:List Int}{K I K' I':Int}(h:qU p fa cs K I)(h':qU p fa cs K' I'):K=K'/\I=I':=by
 rcases h with⟨E,h1,h2,h3⟩|⟨h0,hI,h⟩
 ·rcases h' with⟨E',g1,g2,g3⟩|⟨g0,_⟩
  ·obtain⟨q1,q2⟩:=h1.one g1;exact⟨h3.trans (q1.trans g3.symm),q2⟩
  ·exact absurd (h1.one g0).1 h2
 ·rcases h' with⟨E',g1,g2,g3⟩|⟨g0,gI,g⟩
  ·exact absurd (g1.one h0).1 g2
  ·refine⟨?_,hI.trans gI.symm⟩;rcases h with⟨n1,k1⟩|⟨n1,h⟩
   ·rcases g with⟨m1,l1⟩|⟨m1,g⟩
    ·exact k1.trans l1.symm
    ·exact absurd m1 n1
   ·rcases g with⟨m1,l1⟩|⟨m1,g⟩
    ·exact absurd n1 m1
    ·rcases h with⟨n2,k2⟩|⟨n2,h⟩
     ·rcases g with⟨m2,l2⟩|⟨m2,g⟩
      ·exact k2.trans l2.symm
      ·exact absurd m2 n2
     ·rcases g with⟨m2,l2⟩|⟨m2,g⟩
      ·exact absurd n2 m2
      ·rcases h with⟨n3,k3⟩|⟨n3,k3⟩
       ·rcases g with⟨m3,l3⟩|⟨m3,l3⟩
        ·exact k3.trans l3.symm
        ·exact absurd m3 n3
       ·rcases g with⟨m3,l3⟩|⟨m3,l3⟩
        ·exact absurd n3 m3
        ·exact k3.trans l3.symm
def on1(x:Int):Int:=IntKind.u64.wrap (bits .and .u64 (x/2) 6148914691236517205+bits .and .u64 x 6148914691236517205)
def on2(x:Int):Int:=IntKind.u64.wrap (bits .and .u64 (x/4) 3689348814741910323+bits .and .u64 x 3689348814741910323)
def on3(x:Int):Int:=bits .and .u64 (IntKind.u64.wrap (x/16+x)) 1085102592571150095
def on4(x:Int):Int:=IntKind.u64.wrap (x+x/256)
def on5(x:Int):Int:=IntKind.u64.wrap (x+x/65536)
def on6(x:Int):Int:=IntKind.u64.wrap (x+x/4294967296)
def on7(x:Int):Int:=bits .and .i64 (wrap64 x) 127
def S7(x:Int):Int:=on7 (on6 (on5 (on4 (on3 (on2 (on1 x))))))
theorem u64_in(y:Int):0<=IntKind.u64.wrap y/\IntKind.u64.wrap y<=18446744073709551615:=zDd
theorem aSf(y z:Int):0<=bits .and .u64 y z/\bits .and .u64 y z<=18446744073709551615:=u64_in _
theorem aUa(x:Int)(h01:0<=x/\x<=18446744073709551615)(w:World):Calls prog 113 #[.int .u64 x] w fun e w'=>e=rT (iI (S7 x))/\w'=w:=by obtain⟨h0,h1⟩:=h01;have HE:Hid (S7 x=on7 (on6 (on5 (on4 (on3 (on2 (on1 x))))))):=rfl;have e1:IntKind.u64.wrap (bits .and .u64 (x/2) 6148914691236517205+bits .and .u64 x 6148914691236517205)=on1 x:=rfl;have b1:0<=on1 x/\on1 x<=18446744073709551615:=u64_in _;generalize on1 x=y1 at *;have e2:IntKind.u64.wrap (bits .and .u64 (y1/4) 3689348814741910323+bits .and .u64 y1 3689348814741910323)=on2 y1:=rfl;have b2:0<=on2 y1/\on2 y1<=18446744073709551615:=u64_in _;generalize on2 y1=y2 at *;have e3:bits .and .u64 (IntKind.u64.wrap (y2/16+y2)) 1085102592571150095=on3 y2:=rfl;have b3:0<=on3 y2/\on3 y2<=18446744073709551615:=aSf _ _;generalize on3 y2=y3 at *;have e4:IntKind.u64.wrap (y3+y3/256)=on4 y3:=rfl;have b4:0<=on4 y3/\on4 y3<=18446744073709551615:=u64_in _;generalize on4 y3=y4 at *;have e5:IntKind.u64.wrap (y4+y4/65536)=on5 y4:=rfl;have b5:0<=on5 y4/\on5 y4<=18446744073709551615:=u64_in _;generalize on5 y4=y5 at *;have e6:IntKind.u64.wrap (y5+y5/4294967296)=on6 y5:=rfl;have b6:0<=on6 y5/\on6 y5<=18446744073709551615:=u64_in _;generalize on6 y5=y6 at *;have e7:bits .and .i64 (wrap64 y6) 127=on7 y6:=rfl;generalize on7 y6=y7 at *;rw[HE.out];go_enter func113,ntmps113;exact C6
def pcN:Nat->Nat->Nat
 |0,_=>0
 |d+1,x=>x%2+pcN d (x/2)
theorem aYw:∀(d x:Nat),pcN (d+1) x=pcN d x+x/2^d%2:=by
 intro d
 induction d with
 |zero=>intro x;show x%2+0=0+x/1%2;rw[Nat.div_one];omega
 |succ d ih=>
  intro x
  show x%2+pcN (d+1) (x/2)=x%2+pcN d (x/2)+_
  rw[ih (x/2),Nat.div_div_eq_div_mul,Nat.pow_succ,Nat.mul_comm 2]
  omega
def onN(x:Nat):Nat:=
 let n1:=((x/2)&&&6148914691236517205)+(x&&&6148914691236517205)
 let n2:=((n1/4)&&&3689348814741910323)+(n1&&&3689348814741910323)
 let n3:=(n2/16+n2)&&&1085102592571150095
 let n4:=n3+n3/256
 let n5:=n4+n4/65536
 let n6:=n5+n5/4294967296
 n6&&&127
def onL(x:Nat):Nat:=(fun n1=>(fun n2=>(fun n3=>(fun n4=>(fun n5=>Nat.land (Nat.add n5 (Nat.div n5 4294967296)) 127) (Nat.add n4 (Nat.div n4 65536))) (Nat.add n3 (Nat.div n3 256))) (Nat.land (Nat.add (Nat.div n2 16) n2) 1085102592571150095)) (Nat.add (Nat.land (Nat.div n1 4) 3689348814741910323) (Nat.land n1 3689348814741910323))) (Nat.add (Nat.land (Nat.div x 2) 6148914691236517205) (Nat.land x 6148914691236517205))
def J8:Nat->Nat->Nat->Bool
 |0,x,c=>Nat.beq (onL x) c
 |d+1,x,c=>cond (J8 d (Nat.mul 2 x) c) (J8 d (Nat.succ (Nat.mul 2 x)) (Nat.succ c)) false
theorem aQ8:J8 16 0 0=true:=by kernel_rfl
theorem aU9:∀d b c,J8 d b c=true->∀x,x/2^d=b->onL x=c+pcN d x:=by
 intro d
 induction d with
 |zero=>
  intro b c h x hx
  rw[Nat.pow_zero,Nat.div_one]at hx
  subst hx
  exact Nat.eq_of_beq_eq_true h
 |succ d ih=>
  intro b c h x hx
  have h2:J8 d (2*b) c=true/\J8 d (2*b+1) (c+1)=true:=by
   have h':cond (J8 d (2*b) c) (J8 d (2*b+1) (c+1)) false=true:=h
   cases q:J8 d (2*b) c
   ·rw[q]at h';cases h'
   ·rw[q]at h';exact⟨rfl,h'⟩
  have e:x/2^(d+1)=x/2^d/2:=by rw[Nat.pow_succ,Nat.div_div_eq_div_mul]
  rw[e]at hx
  rw[aYw]
  rcases Nat.mod_two_eq_zero_or_one (x/2^d)with q|q
  ·rw[q,ih (2*b) c h2.1 x od]
   omega
  ·rw[q,ih (2*b+1) (c+1) h2.2 x od]
   omega
theorem bCy{x:Nat}(h:x<65536):onN x=pcN 16 x:=by have:=aU9 16 0 0 aQ8 x (Nat.div_eq_of_lt h);rw[Nat.zero_add]at this;exact this
theorem aD7{n:Nat}(h:n<18446744073709551616):IntKind.u64.wrap (n:Int)=(n:Int):=zDd
theorem aQ9{x:Nat}(h:x<65536):S7 x=(onN x:Nat):=by
 have a1:((x/2)&&&6148914691236517205)<=x/2:=Nat.and_le_left;have a2:(x&&&6148914691236517205)<=x:=Nat.and_le_left;have c1:on1 x=((((x/2)&&&6148914691236517205)+(x&&&6148914691236517205):Nat):Int):=by unfold on1;rw[show((x:Int)/2)=((x/2:Nat):Int)by omega,show(6148914691236517205:Int)=((6148914691236517205:Nat):Int)from rfl,u64_and_nat _ _ od oe,u64_and_nat _ _ od oe,<-Int.natCast_add];exact aD7 od
 unfold S7 onN;rw[c1];have lK:(x/2&&&6148914691236517205)+(x&&&6148914691236517205)<=131072:=od;generalize((x/2)&&&6148914691236517205)+(x&&&6148914691236517205)=n1 at *;have b1:((n1/4)&&&3689348814741910323)<=n1/4:=Nat.and_le_left;have b2:(n1&&&3689348814741910323)<=n1:=Nat.and_le_left;have c2:on2 n1=((((n1/4)&&&3689348814741910323)+(n1&&&3689348814741910323):Nat):Int):=by unfold on2;rw[show((n1:Int)/4)=((n1/4:Nat):Int)by omega,show(3689348814741910323:Int)=((3689348814741910323:Nat):Int)from rfl,u64_and_nat _ _ od oe,u64_and_nat _ _ od oe,<-Int.natCast_add];exact aD7 od
 rw[c2];simp only[];have wC:(n1/4&&&3689348814741910323)+(n1&&&3689348814741910323)<=262144:=od;generalize((n1/4)&&&3689348814741910323)+(n1&&&3689348814741910323)=n2 at *;have d1:((n2/16+n2)&&&1085102592571150095)<=n2/16+n2:=Nat.and_le_left;have c3:on3 n2=(((n2/16+n2)&&&1085102592571150095:Nat):Int):=by unfold on3;rw[show((n2:Int)/16+n2)=((n2/16+n2:Nat):Int)by omega,aD7 od,show(1085102592571150095:Int)=((1085102592571150095:Nat):Int)from rfl,u64_and_nat _ _ od oe]
 rw[c3];generalize(n2/16+n2)&&&1085102592571150095=n3 at *;have c4:on4 n3=((n3+n3/256:Nat):Int):=by unfold on4;rw[show((n3:Int)+n3/256)=((n3+n3/256:Nat):Int)by omega];exact aD7 od
 rw[c4];obtain⟨n4,hn4⟩:∃n4,n3+n3/256=n4:=⟨_,rfl⟩;rw[hn4];have c5:on5 n4=((n4+n4/65536:Nat):Int):=by unfold on5;rw[show((n4:Int)+n4/65536)=((n4+n4/65536:Nat):Int)by omega];exact aD7 od
 rw[c5];obtain⟨n5,hn5⟩:∃n5,n4+n4/65536=n5:=⟨_,rfl⟩;rw[hn5];have c6:on6 n5=((n5+n5/4294967296:Nat):Int):=by unfold on6;rw[show((n5:Int)+n5/4294967296)=((n5+n5/4294967296:Nat):Int)by omega];exact aD7 od
 rw[c6];obtain⟨n6,hn6⟩:∃n6,n5+n5/4294967296=n6:=⟨_,rfl⟩;rw[hn6];unfold on7;rw[show wrap64 ((n6:Nat):Int)=((n6:Nat):Int)by unfold wrap64;omega,show(127:Int)=((127:Nat):Int)from rfl,R9 _ _ od oe]
theorem aQe:∀(n x:Nat),(List.range n).countP (aW (x:Int))=pcN n x:=by
 intro n
 induction n with
 |zero=>intro x;rfl
 |succ n ih=>
  intro x
  rw[List.range_succ_eq_map,List.countP_cons,List.countP_map]
  have e:(aW (x:Int)∘Nat.succ)=aW ((x/2:Nat):Int):=by
   funext j
   show aW (x:Int) (j+1)=aW ((x/2:Nat):Int) j
   unfold aW
   have:(x:Int)/2^(j+1)=((x/2:Nat):Int)/2^j:=by
    rw[show((x/2:Nat):Int)=(x:Int)/2 by omega,Int.pow_succ,Int.mul_comm,<-Int.ediv_ediv_of_nonneg oe]
   rw[this]
  rw[e,ih]
  show pcN n (x/2)+_=x%2+pcN n (x/2)
  have:aW (x:Int) 0=decide (x%2=1):=by
   unfold aW
   rw[Int.pow_zero,Int.ediv_one]
   congr 1
   apply propext
   omega
  rw[this]
  rcases Nat.mod_two_eq_zero_or_one x with q|q
  ·rw[q];simp
  ·rw[q];simp;omega
theorem aUf:∀(d n x:Nat),x<2^n->pcN (n+d) x=pcN n x:=by
 intro d n
 induction n with
 |zero=>
  intro x hx
  have:x=0:=by simpa using hx
  subst this
  rw[Nat.zero_add]
  show pcN d 0=0
  induction d with
  |zero=>rfl
  |succ d ih=>show 0%2+pcN d (0/2)=0;rw[Nat.zero_div,ih]
 |succ n ih=>
  intro x hx
  rw[show n+1+d=(n+d)+1 by omega]
  show x%2+pcN (n+d) (x/2)=x%2+pcN n (x/2)
  rw[ih (x/2) (by rw[Nat.pow_succ]at hx;omega)]
theorem aLl{x n:Nat}(hn:n<=16)(h:x<2^n):S7 x=((List.range n).countP (aW (x:Int)):Nat):=by have hx:x<65536:=kB h (Nat.pow_le_pow_right (n:=2) oe hn);have:=aUf (16-n) n x h;rw[show n+(16-n)=16 by omega]at this;rw[aQ9 hx,bCy hx,aQe,this]
def gQ(fa:Int)(cs:List Int)(k:Nat):List Int:=((List.range k).filter fun i=>!aW fa i).map fun i=>cs.getD i 0
theorem X5(fa:Int)(cs:List Int)(k:Nat):gQ fa cs (k+1)=gQ fa cs k++(if aW fa k=true then[]else[cs.getD k 0]):=by unfold gQ;exact zFg
theorem zJ(fa:Int)(cs:List Int)(k:Nat):(gQ fa cs k).length<=k:=by unfold gQ;exact zGd
theorem aAs{fa:Int}{cs:List Int}{k:Nat}(hk:k<=cs.length){x:Int}(h:x∈gQ fa cs k):x∈cs:=by obtain⟨i,hi,rfl⟩:=List.mem_map.1 h;have:=List.mem_range.1 (List.mem_filter.1 hi).1;exact rG od
theorem aIf{w:World}{base n:Nat}{v:Value}{l:List Int}(h:w.ownsRow base 3 1 v n (l.map (Value.int .i64))):∃a cap,v=sV a l.length cap/\bE w a l/\l.length=n:=zBp
theorem zI(C:Nat)(fa:Int)(a:Option Addr)(cap:Nat)(cs:List Int)(w:World)(c10:w.cell? (aA C 10)=some (iI fa))(c11:w.cell? (aA C 11)=some (sV a cs.length cap))(hr:bE w a cs)(hn:cs.length<=16)(eE:∀x∈cs,-274877906944<=x/\x<=274877906944):
  Calls prog 57 #[pP C] w fun e w'=>e=rT (iI (dA (dW fa cs)))/\bW w w':=have m19:=0;zI7
