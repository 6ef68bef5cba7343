import Derived.Test.YtknimkfdnanejaaGreatDoorZT31
namespace Go.Proofs.YtknimkfdnanejaaGreatDoor
open Go.RowKit Go.Proofs.Tryz
set_option maxRecDepth 100000
set_option maxHeartbeats 16000000
theorem P3(body:Code)(mP:(Tryz.f5.body.map cY).bind (fun l=>l[0]?)=some body)(Q:Exit->Act->World->Prop)(ls:List (List UInt8))(lb n rJ mb S:Nat)(A0:gN)(hn:ls.length=n)(wC:n<=3001)(hls:∀x∈ls,x.length<=3000)(w:World)(hl:∀j,j<n->w.cell? (aA lb j)=some (sT (nH (ls.getD j []))))(hlb:lb<S)(hmb:tX w mb)(hmS:mb<S)(h:iG w S S [S] [] gD.start A0 0)(hD:cB S w)(hFi:xP S w)
  {L:List Value}(tC:L.length=154)(s4:L[4]?=some (.map (some mb)))(s5:L[5]?=some (pP S))(s6:L[6]?=some (sT ⟨#[]⟩))(s48:L[48]?=some (sL lb n rJ))(s49:L[49]?=some (iI n))(s50:L[50]?=some (iI 0))
  (cN:∀(L':List Value) (os:List ByteArray) (st:gD) (wr:World),gA gD.start (ls.map nH) os st->Below S w wr->L'.length=154->Rest bA0 L L'->L'[6]?=some (sT ⟨(jO os).toArray⟩)->Q (.exit 0) ⟨L'.toArray,[]⟩ wr):
  Code.wp prog (Code.loop body) Q ⟨L.toArray,[]⟩ w:=by
 have dQ:((Tryz.f5.body.map cY).bind (fun l=>l[0]?)).getD Code.skip=body:=ey;obtain rfl:=dQ;clear mP;conv=>arg 2;arg 1;whnf
 have wW:Hid _:=cN;have HL:Hid _:=hl;have HLS:Hid (∀x∈ls,x.length<=3000):=hls;have HN:Hid (ls.length=n):=hn;have HMB:Hid (tX w mb):=hmb;have HS0:Hid (iG w S S [S] [] gD.start A0 0):=h;have HDW:Hid (cB S w):=hD;have HFW:Hid (xP S w):=hFi;obtain⟨fL,rfl⟩:=lit L 154 tC;replace s4:=aX s4;replace s5:=aX s5;replace s6:=aX s6;replace s48:=aX s48;replace s49:=aX s49;replace s50:=aX s50;simp only[List.range,List.range.loop,List.map_cons,List.map_nil,s4,s5,s6,s48,s49,s50];clear cN hl hls hn hmb h hD hFi;go_loopw[50,6] (fun a o wr=>∃(k:Nat)(os:List ByteArray)(st:gD)(M O:List Nat)(A:gN),k<=n/\a=iI k/\o=sT ⟨(jO os).toArray⟩/\Hid (gA gD.start ((ls.take k).map nH) os st/\st.Small/\(jO os).length<=501*k)/\Hid (iG wr S S M O st A k)/\Hid (Below S w wr)) (fun a _ _=>n-(intOf a).toNat);case atStart=>exact⟨0,[],gD.start,[S],[],A0,kH _,rfl,rfl,⟨gA.nil _,gD.Small.start,kF _⟩,HS0.out,kX _ _⟩
 case round=>
  obtain⟨k,os,st,M,O,A,hk,rfl,rfl,hrun,wE,bT⟩:=hrel;by_cases hlt:k<n
  ·have kk:(k:Int)<(n:Int):=by omega
   have y0:=bc bT.out hlb (HL.out k hlt);have hxl:(ls.getD k []).length<=3000:=HLS.out _ js;have hlz:(nH (ls.getD k [])).size<=3000:=hxl;have HSU:Hid ((ls.take (k+1)).map nH=(ls.take k).map nH++[nH (ls.getD k [])]):=by show _=_;rw[List.take_add_one,List.map_append,List.getD_eq_getElem?_getD,List.getElem?_eq_getElem E5];rfl
   generalize nH (ls.getD k [])=cO at *;have hSp:=aD1 cO 32 wr od;clear hxl;go_wp2_with fail;refine hSp.mono ?_;rintro e w1 ⟨m,hm,rfl,yS⟩;have dB:bW wr w1:=by rw[yS];exact(kX _ wr).alloc (kF _) _
   have bJq:wr.heap.size<w1.heap.size:=by rw[yS];simp
   have hp:∀j,j<m->w1.cell? (aA wr.heap.size j)=some (sT (nH ((cL 32 cO.data.toList).getD j []))):=fun j hj=>by rw[yS];have q:=World.cell?_alloc_new wr ((cL 32 cO.data.toList).map fun x=>Value.string (nH x)).toArray 9 j;refine q.trans ?_;rw[hm]at hj;simp[List.getD_eq_getElem?_getD,List.getElem?_eq_getElem hj]
   have hm2:m<=3001:=by rw[hm];have:=G6 32 cO.data.toList;have h2:cO.data.toList.length=cO.size:=Array.length_toList;omega
   have HM:Hid _:=hm;clear hSp yS hm;go_wp2_with fail;refine aR9 _ oq _ (cL 32 cO.data.toList) wr.heap.size m HM.out.symm od w1 hp bJq rfl rfl rfl rfl rfl ?_;intro L2 V w2 bK dQ pC pD t9;rw[aRz,List.length_map]at bK;exact zN8
  ·obtain rfl:k=n:=by omega
   go_wp2;have hr:=hrun.out.1;rw[List.take_of_length_le (Nat.le_of_eq HN.out)]at hr;exact wW.out _ _ _ _ hr bT.out rfl (Rest.of rfl) rfl
