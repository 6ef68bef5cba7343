import Derived.Test.YtknimkfdnanejaaGreatDoorZShelf
import Derived.Test.YtknimkfdnanejaaGreatDoorZT5
import Derived.Test.YtknimkfdnanejaaGreatDoorZT6
import Derived.Lib.OwnBridge
namespace Go.Proofs.YtknimkfdnanejaaGreatDoor
open Go.RowKit Go.Proofs.Tryz
set_option maxRecDepth 100000
set_option maxHeartbeats 16000000
theorem aNq{w:World}{B g n cap:Nat}{xs:List ByteArray}(own:w.ownsRow B 9 1 (sL g n cap) n (xs.map Value.string))(n0:0<n):
  Calls prog 166 #[sL g n cap,iI 0,iI 1] w fun e w'=>e=rT (sL g (n-1) cap)/\w'.ownsRow B 9 1 (sL g (n-1) cap) (n-1) ((xs.drop 1).map Value.string)/\aU g g w w':=by
 rw[<-Lib.map_encStr]at own;obtain⟨g',cap',hv,hg,tE,hcap,hm,hlen,hH⟩:=Lib.holds_of_ownsRow own oh;injection hv with e1 _ e3;injection e1 with e1;injection e1 with e1;subst e1;subst e3;have hc:=Tryz.slices_Delete_string g 0 cap 0 1 (xs.map (fun x:ByteArray=>x.data.toList)) w hH od hm od od;rw[hlen]at hc;refine hc.mono ?_;rintro e w' ⟨rfl,q,rfl⟩;refine⟨by rw[Nat.sub_zero],?_,?_⟩
 ·have hy:=Lib.ownsRow_putRow (q:=q) (k:=n-1) (ys:=(xs.map (fun x:ByteArray=>x.data.toList)).take 0++(xs.map (fun x:ByteArray=>x.data.toList)).drop 1++List.replicate (1-0) []) own (by simp at hlen⊢;omega) od;have e2:((xs.map (fun x:ByteArray=>x.data.toList)).take 0++(xs.map (fun x:ByteArray=>x.data.toList)).drop 1++List.replicate (1-0) []).take (n-1)=(xs.drop 1).map (fun x:ByteArray=>x.data.toList):=by rw[List.take_zero,List.nil_append,List.take_append_of_le_length (by simp at hlen⊢;omega),List.take_of_length_le (by simp at hlen⊢;omega),List.map_drop]
  rw[e2,Lib.map_encStr]at hy;exact hy
 ·exact⟨rfl,rfl,rfl,by simp[Sort.putRow,Sort.mapBlock,Sort.ahead],fun c hc h1 _=>by simp[Sort.putRow,Sort.mapBlock,Sort.ahead,Array.getElem?_modify,Ne.symm h1]⟩
theorem aX6(s:ByteArray)(h:Lib.indexByte s.data.toList 10=-1)(w:World):Calls prog 84 #[sT s,sT ⟨#[10]⟩] w fun e w'=>e=rT (tU #[sT s,sT ⟨#[]⟩,.bool false])/\bW w w':=zMa
theorem bB5(s:ByteArray)(h:Lib.indexByte s.data.toList 10=-1)(w:World):Calls prog 39 #[sT s,sT ⟨#[10]⟩] w fun e w'=>e=rT (tU #[sT s,sT ⟨#[]⟩,.bool false])/\bW w w':=by have hc:=aX6 s h w;go_enter func39,ntmps39;go_wp2_with(go_at_call 84;refine hc.mono ?_;rintro e w' ⟨rfl,hb⟩);refine bodyPost_ret (v:=tU #[sT s,sT ⟨#[]⟩,.bool false]) (by simp[results,results39,go_sem]) rfl ⟨rfl,hb⟩
theorem aSu(s:ByteArray)(k:Nat)(h:Lib.indexByte s.data.toList 10=k)(hk:k<s.size)(hs:s.size<=100000)(w:World):Calls prog 84 #[sT s,sT ⟨#[10]⟩] w fun e w'=>e=rT (tU #[sT (s.extract 0 k),sT (s.extract (k+1) s.size),.bool true])/\bW w w':=have bGj:=0;zMa
theorem aX7(s:ByteArray)(k:Nat)(h:Lib.indexByte s.data.toList 10=k)(hk:k<s.size)(hs:s.size<=100000)(w:World):Calls prog 39 #[sT s,sT ⟨#[10]⟩] w fun e w'=>e=rT (tU #[sT (s.extract 0 k),sT (s.extract (k+1) s.size),.bool true])/\bW w w':=by have hc:=aSu s k h hk hs w;go_enter func39,ntmps39;go_wp2_with(go_at_call 84;refine hc.mono ?_;rintro e w' ⟨rfl,hb⟩);refine bodyPost_ret (v:=tU #[sT (s.extract 0 k),sT (s.extract (k+1) s.size),.bool true]) (by simp[results,results39,go_sem]) rfl ⟨rfl,hb⟩
section
variable{B P aP:Nat}{bag last now queue:Int}
theorem gM.keep{w':World}{w:World}{all:List ByteArray}{v:Value}(h:gM w B P bag queue all v aP last now)(k:Same (P::v.ownBlock.toList) w w'):gM w' B P bag queue all v aP last now:=by have hp:P∈P::v.ownBlock.toList:=kM (.inl rfl);exact⟨(k.cell (p:=(aA P 0)) hp).trans h.c0,(k.cell (p:=(aA P 1)) hp).trans h.c1,(k.cell (p:=(aA P 2)) hp).trans h.c2,(k.cell (p:=(aA P 3)) hp).trans h.c3,(k.cell (p:=(aA P 4)) hp).trans h.c4,(k.cell (p:=(aA P 5)) hp).trans h.c5,fun i=>(k.frozen (p:=(aA P i)) hp).trans (h.z i),lI h.own k (fun g hg=>kM (.inr (by simpa using hg))),h.lp,kG h.lb k.1,h.we⟩
theorem aQb(k:Nat):Int.tmod (mH k) 255+1=mH (k+1):=by have h:=aO2 k;rw[Int.tmod_eq_emod_of_nonneg h.1,<-aCt];unfold C4;split<;>omega
theorem aIo{w:World}{all:List ByteArray}{v:Value}(h:gM w B P bag queue all v aP last now)(t:Int)(ht0:0<=t)(ht:t<=1099511627776)(wT:0<=bag)(hb:bag<=1099511627776)(hw:aP<all.length)(ha:all.length<=10000000):
  Calls prog 236 #[pP P,iI t] w fun e w'=>e=rT (.agg #[iI (mH aP),sT (all.getD aP ByteArray.empty)])/\∃v',gM w' B P bag queue all v' (aP+1) t now/\aU P (v.ownBlock.getD P) w w'/\v'.ownBlock=v.ownBlock:=by
 obtain⟨c0,c1,c2,c3,c4,c5,z,own,lp,lb,we⟩:=h;have hv:v≠sV none 0 0:=by
  rintro rfl;have:=own.1;rcases own.2 with⟨_,e⟩|⟨g,cap,cur,e,_⟩
  ·omega
  ·cases e
 rw[<-Lib.map_encStr]at own;obtain⟨g,cap,rfl,hg,tE,hcap,hm,hlen,hH⟩:=Lib.holds_of_ownsRow own hv;have g0:w.cell? (aA g 0)=some (sT (all.getD aP ByteArray.empty)):=by
  have:=(hH 0 ol).1;rw[Nat.zero_add]at this;rw[this];have e1:(List.map (fun x:ByteArray=>x.data.toList) (List.drop aP all)).toArray[0]! =(all.getD aP ByteArray.empty).data.toList:=by rw[getElem!_pos _ _ ol];simp[List.getD,List.getElem?_eq_getElem hw]
  rw[e1]
 have aDb:Hid (w.ownsRow B 9 1 (sL g (all.length-aP) cap) (all.length-aP) ((all.drop aP).map Value.string)):=by rw[<-Lib.map_encStr];exact own
 have HZ:Hid (∀i,w.frozen? (aA P i)=false):=z;obtain⟨n,hn⟩:∃n,all.length-aP=n:=⟨_,rfl⟩;have HN:Hid (all.length-aP=n/\aP<all.length):=⟨hn,hw⟩;rw[hn]at c2 hcap aDb⊢;have n0:0<n:=od;have n1:n<=10000000:=od;have hgP:g≠P:=od;generalize all.getD aP ByteArray.empty=D at *;obtain⟨V,hV⟩:∃V,w.alloc (.cells #[iI 0,sT ⟨#[]⟩] 303)=V:=⟨_,rfl⟩;have hB:bW w V:=Jh;have hVs:V.heap.size=w.heap.size+1:=eo;have r0:V.cell? (aA w.heap.size 0)=some (iI 0):=eo;have r1:V.cell? (aA w.heap.size 1)=some (sT ⟨#[]⟩):=eo;have rz:∀i,V.frozen? (aA w.heap.size i)=false:=fun i=>by rw[<-hV];simp
 have cc:∀i,V.cell? (aA P i)=w.cell? (aA P i):=fun i=>hB.cell (p:=(aA P i)) (show P<w.heap.size by omega);have y0:=(cc 0).trans c0;have y1:=(cc 1).trans c1;have y2:=(cc 2).trans c2;have y3:=(cc 3).trans c3;have y5:=(cc 5).trans c5;have yg:=(hB.cell (p:=(aA g 0)) tE).trans g0;have HB:Hid (bW w V):=hB;have lP:P<w.heap.size:=od;obtain⟨U,hU⟩:∃U,(V.alloc (.cells #[iI (mH aP),sT D] 303)).drew=U:=⟨_,rfl⟩;have hUB:bW V U:=by rw[<-hU];exact⟨rfl,rfl,rfl,oh,fun c hc=>((kX V.heap.size V).alloc (kF _) _).block c hc⟩
 have hUs:U.heap.size=w.heap.size+1+1:=by rw[<-hU,<-hVs];simp
 have x0:U.cell? (aA (w.heap.size+1) 0)=some (iI (mH aP)):=by rw[<-hU,<-hVs];simp
 have x1:U.cell? (aA (w.heap.size+1) 1)=some (sT D):=by rw[<-hU,<-hVs];simp
 have hOU:U.ownsRow B 9 1 (sL g n cap) n ((all.drop aP).map Value.string):=by
  refine lI (X:=[g]) aDb.out ⟨od,fun c hc=>?_⟩ (fun g' hg'=>?_)
  ·have:c=g:=by simpa using hc
   subst this;exact(hUB.block c od).trans (hB.block c tE)
  ·have:g=g':=by simpa[Value.ownBlock]using hg'
   simp[this]
 have hD:=aNq hOU n0;have HUB:Hid (bW V U):=hUB;have uc:∀i,U.cell? (aA P i)=w.cell? (aA P i):=fun i=>(hUB.cell (p:=(aA P i)) (show P<V.heap.size by omega)).trans (cc i);have u2:=(uc 2).trans c2;have HU:Hid (∀i,U.cell? (aA P i)=w.cell? (aA P i)):=uc;have HUZ:Hid (∀i,U.frozen? (aA P i)=false):=fun i=>((hUB.frozen (p:=(aA P i)) (show P<V.heap.size by omega)).trans (hB.frozen (p:=(aA P i)) lP)).trans (HZ.out i);have HU0:Hid (U.cell? (aA w.heap.size 0)=some (iI 0)):=(hUB.cell (p:=(aA w.heap.size 0)) (show w.heap.size<V.heap.size by omega)).trans r0;have HU1:Hid (U.cell? (aA w.heap.size 1)=some (sT ⟨#[]⟩)):=(hUB.cell (p:=(aA w.heap.size 1)) (show w.heap.size<V.heap.size by omega)).trans r1;have HRZ:Hid (∀i,U.frozen? (aA w.heap.size i)=false):=fun i=>(hUB.frozen (p:=(aA w.heap.size i)) (show w.heap.size<V.heap.size by omega)).trans (rz i);have HX0:Hid (U.cell? (aA (w.heap.size+1) 0)=some (iI (mH aP))):=x0;have HX1:Hid (U.cell? (aA (w.heap.size+1) 1)=some (sT D)):=x1;have HC:Hid (w.cell? (aA P 0)=some (iI bag)/\w.cell? (aA P 1)=some (iI queue)/\w.cell? (aA P 3)=some (iI now)/\w.cell? (aA P 4)=some (iI (I8 aP last bag))/\w.cell? (aA P 5)=some (iI (mH aP))):=⟨c0,c1,c3,c4,c5⟩;have HWU:Hid (aU P g w U):=⟨hUB.os.trans hB.os,hUB.tape.trans hB.tape,hUB.output.trans hB.output,od,fun c hc _ _=>(hUB.block c od).trans (hB.block c hc)⟩;have o1:=aO2 aP;have hnx:=aQb aP;generalize mH aP=Y at *;have hX:0<=Int.tmod Y 255/\Int.tmod Y 255<255:=by rw[Int.tmod_eq_emod_of_nonneg o1.1];omega
 generalize hXe:Int.tmod Y 255=X at *;have HNX:Hid (X+1=mH (aP+1)):=hnx;clear own hH z hn hw ha we hlen hv cc c0 c1 c2 c3 c4 c5 g0 hB hUB uc x0 x1 rz hnx;go_enter func236,ntmps236;go_wp2_with fail;go_region;go_wp2_with fail;refine hD.mono ?_;rintro e W ⟨rfl,hOW,hT⟩;have lU:P<U.heap.size:=od;have wc:∀i,W.cell? (aA P i)=w.cell? (aA P i):=fun i=>(hT.cell (p:=(aA P i)) lU (Ne.symm hgP) (Ne.symm hgP)).trans (HU.out i);have w0:=(wc 0).trans HC.out.1;have w1:=(wc 1).trans HC.out.2.1;have w2:=(hT.cell (p:=(aA P 2)) lU (Ne.symm hgP) (Ne.symm hgP)).trans u2;have w3:=(wc 3).trans HC.out.2.2.1;have w4:=(wc 4).trans HC.out.2.2.2.1;have w5:=(wc 5).trans HC.out.2.2.2.2;have wz:∀i,W.frozen? (aA P i)=false:=fun i=>(hT.frozen (p:=(aA P i)) lU (Ne.symm hgP) (Ne.symm hgP)).trans (HUZ.out i);have z2:=wz 2;have z4:=wz 4;have z5:=wz 5;have hr:w.heap.size≠g:=od;have hx:w.heap.size+1≠g:=od;have lr:w.heap.size<U.heap.size:=od;have lx:w.heap.size+1<U.heap.size:=od;have q0:=(hT.cell (p:=(aA w.heap.size 0)) lr hr hr).trans HU0.out;have q1:=(hT.cell (p:=(aA w.heap.size 1)) lr hr hr).trans HU1.out;have qz:∀i,W.frozen? (aA w.heap.size i)=false:=fun i=>(hT.frozen (p:=(aA w.heap.size i)) lr hr hr).trans (HRZ.out i);have qz0:=qz 0;have qz1:=qz 1;have x0:=(hT.cell (p:=(aA (w.heap.size+1) 0)) lx hx hx).trans HX0.out;have x1:=(hT.cell (p:=(aA (w.heap.size+1) 1)) lx hx hx).trans HX1.out;have lW:w.heap.size+1+1<=W.heap.size:=by have:=hT.size;omega
 have HT:Hid (aU g g U W):=hT;have H3:Hid (W.ownsRow B 9 1 (sL g (n-1) cap) (n-1) ((all.drop (aP+1)).map Value.string)):=by rw[List.drop_drop]at hOW;exact hOW
 have HWZ:Hid (∀i,W.frozen? (aA P i)=false):=wz;clear wc wz qz hT hOW hD hOU hU hV;go_wp2;obtain⟨W3,hW3⟩:∃W3,((W.setCell (aA P 2) (sL g (n-1) cap)).setCell (aA P 4) (iI (t+bag))).setCell (aA P 5) (iI (X+1))=W3:=⟨_,rfl⟩;rw[hW3];have hS3:W3.heap.size=W.heap.size:=by rw[<-hW3];simp
 have fin:gM W3 B P bag queue all (sL g (n-1) cap) (aP+1) t now:=by
  have e0:=HN.out;refine⟨?_,?_,?_,?_,?_,?_,fun i=>?_,?_,lp,od,od⟩
  ·rw[<-hW3];exact(aB (.inr oe)).trans ((aB (.inr oe)).trans ((aB (.inr oe)).trans w0))
  ·rw[<-hW3];exact(aB (.inr oe)).trans ((aB (.inr oe)).trans ((aB (.inr oe)).trans w1))
  ·rw[<-hW3];exact(aB (.inr oe)).trans ((aB (.inr oe)).trans (aY w2))
  ·rw[<-hW3];exact(aB (.inr oe)).trans ((aB (.inr oe)).trans ((aB (.inr oe)).trans w3))
  ·rw[<-hW3,show I8 (aP+1) t bag=t+bag from kI od];exact(aB (.inr oe)).trans (aY ((aB (.inr oe)).trans w4))
  ·rw[<-hW3,<-HNX.out];exact aY ((aB (.inr oe)).trans ((aB (.inr oe)).trans w5))
  ·rw[<-hW3];exact bI.trans (bI.trans (bI.trans (HWZ.out i)))
  ·rw[show all.length-(aP+1)=n-1 by omega,<-hW3];exact fY (fY (fY H3.out lp) lp) lp
 have t3:aU P g w W3:=by refine HWU.out.trans (aU.trans ⟨HT.out.os,HT.out.tape,HT.out.output,HT.out.size,fun c hc _ h2=>HT.out.block c hc h2 h2⟩ ?_);rw[<-hW3];exact(((aU.refl P g W).set (p:=(aA P 2)) (.inl rfl) _).set (p:=(aA P 4)) (.inl rfl) _).set (p:=(aA P 5)) (.inl rfl) _
 have q0':W3.cell? (aA w.heap.size 0)=some (iI 0):=by rw[<-hW3];exact(aB (.inl od)).trans ((aB (.inl od)).trans ((aB (.inl od)).trans q0))
 have q1':W3.cell? (aA w.heap.size 1)=some (sT ⟨#[]⟩):=by rw[<-hW3];exact(aB (.inl od)).trans ((aB (.inl od)).trans ((aB (.inl od)).trans q1))
 have s0:((W3.setCell (aA w.heap.size 0) (iI Y)).setCell (aA w.heap.size 1) (sT D)).cell? (aA w.heap.size 0)=some (iI Y):=(aB (.inr oe)).trans (aY q0');have s1:((W3.setCell (aA w.heap.size 0) (iI Y)).setCell (aA w.heap.size 1) (sT D)).cell? (aA w.heap.size 1)=some (sT D):=aY ((aB (.inr oe)).trans q1');have ht5:aU w.heap.size w.heap.size W3 ((W3.setCell (aA w.heap.size 0) (iI Y)).setCell (aA w.heap.size 1) (sT D)):=((aU.refl _ _ _).set (p:=(aA w.heap.size 0)) (.inl rfl) _).set (p:=(aA w.heap.size 1)) (.inl rfl) _;have bB7:=fin.keep (w':=(W3.setCell (aA w.heap.size 0) (iI Y)).setCell (aA w.heap.size 1) (sT D)) ⟨ht5.size,fun c hc=>by
  have:c=P\/c=g:=by simpa[Value.ownBlock]using hc
  exact ht5.block c od od od⟩
 refine bodyPost_ret (v:=.agg #[iI Y,sT D]) (by simp[results,results236,go_sem,s0,s1]) rfl ⟨rfl,_,bB7,?_,rfl⟩;exact⟨ht5.os.trans t3.os,ht5.tape.trans t3.tape,ht5.output.trans t3.output,kG t3.size ht5.size,fun c hc h1 h2=>(ht5.block c (by have:=t3.size;omega) od od).trans (t3.block c hc h1 h2)⟩
end
section
variable{B P:Nat}{all:List ByteArray}{lost most:Int}{w w':World}
theorem Tryz.infoStr8:(Tryz.prog.info? 9).map (fun i=>(i.zero,i.size,i.bytes))=some (some (sT ByteArray.empty),1,16):=by kernel_rfl
structure pK(w:World)(B P:Nat)(most:Int)(all:List ByteArray)(lost:Int)(v:Value):Prop where
 c0:w.cell? (aA P 0)=some (iI most)
 c1:w.cell? (aA P 1)=some v
 c2:w.cell? (aA P 2)=some (iI lost)
 z:∀i,w.frozen? (aA P i)=false
 own:w.ownsRow B 9 1 v all.length (all.map Value.string)
 lp:P<B
 lb:B<=w.heap.size
def Que(w:World)(O:List Nat)(P:Nat)(most:Int)(all:List ByteArray)(lost:Int):Prop:=
 ∃v,pK w (P+1) P most all lost v/\O=P::v.ownBlock.toList
theorem pK.keep{v:Value}(h:pK w B P most all lost v)(k:Same (P::v.ownBlock.toList) w w'):pK w' B P most all lost v:=by have hp:P∈P::v.ownBlock.toList:=kM (.inl rfl);exact⟨(k.cell (p:=(aA P 0)) hp).trans h.c0,(k.cell (p:=(aA P 1)) hp).trans h.c1,(k.cell (p:=(aA P 2)) hp).trans h.c2,fun i=>(k.frozen (p:=(aA P i)) hp).trans (h.z i),lI h.own k (fun g hg=>kM (.inr (by simpa using hg))),h.lp,kG h.lb k.1⟩
theorem Que.lt{O:List Nat}(h:Que w O P most all lost):∀c,c∈O->c<w.heap.size:=zCo
theorem Que.keep{O:List Nat}(h:Que w O P most all lost)(k:Same O w w'):Que w' O P most all lost:=by obtain⟨v,h,rfl⟩:=h;exact⟨v,h.keep k,rfl⟩
theorem aI5(most:Int)(w:World)(hb:1<=most/\most<=16):
  Calls prog 205 #[iI most] w fun e w'=>∃O P,e=rT (tU #[pP P,.nilIface])/\Que w' O P most [] 0/\bW w w'/\∀c,c∈O->w.heap.size<=c:=by
 have k1:decide (most<1)=false:=kC od;have k2:decide (16<most)=false:=kC od;clear hb;have fin:Que (w.alloc (.cells #[iI most,sV none 0 0,iI 0] 262)) [w.heap.size] w.heap.size most [] 0:=
  ⟨sV none 0 0,⟨oh,oh,oh,fun i=>by simp,World.ownsRow_nil _ _ _ _,od,oh⟩,rfl⟩
 have HF:Hid _:=fin;clear fin;go_enter func205,ntmps205;go_wp2;go_ret2;exact⟨_,_,rfl,HF.out,(kX _ _).alloc (kF _) _,fun c hc=>by
  simp only[List.mem_cons,List.not_mem_nil,or_false]at hc
  omega⟩
theorem aLx{v:Value}(h:pK w B P most all lost v)(d:ByteArray)(hd:d.size<=40)(hq:most<=(all.length:Int))(hl:0<=lost/\lost<=10000000):
  Calls prog 217 #[pP P,sT d] w fun e w'=>e=rT (fI 12)/\pK w' B P most all (lost+1) v/\aU P P w w':=by
 have HH:Hid (pK w B P most all lost v):=h;have HF:Hid (∀q:Nat,pK ((w.drewN q).setCell (aA P 2) (iI (lost+1))) B P most all (lost+1) v/\aU P P w ((w.drewN q).setCell (aA P 2) (iI (lost+1)))):=fun q=>⟨⟨(aB (.inr oe)).trans HH.out.c0,(aB (.inr oe)).trans HH.out.c1,aY HH.out.c2,fun i=>bI.trans (HH.out.z i),fY HH.out.own HH.out.lp,HH.out.lp,by have:=HH.out.lb;simp;omega⟩,(aU.drawn q).set (p:=(aA P 2)) (.inl rfl) _⟩
 obtain⟨c0,c1,c2,z,own,lp,lb⟩:=h;exact zMw
theorem aUl{v:Value}(h:pK w B P most all lost v)(d:ByteArray)(hd:d.size<=40)(hq:(all.length:Int)<most)(ha:all.length<=10000000):
  Calls prog 217 #[pP P,.string d] w fun e w'=>e=.returned (fI 0)/\∃v',pK w' B P most (all++[d]) lost v'/\aU P (v.ownBlock.getD P) w w'/\(v'.ownBlock=v.ownBlock\/∃g,w.heap.size<=g/\v'.ownBlock=some g):=by obtain⟨c0,c1,c2,z,own,lp,lb⟩:=h;obtain⟨i0,hi,lO,mX,jX⟩:=info_parts Tryz.infoStr8;exact zIy
theorem aI3(P:Nat)(w:World)(d:ByteArray)(hd:40<d.size):
  Calls prog 217 #[pP P,sT d] w fun e w'=>e=rT (fI 4)/\w'=w:=by have k:(40:Int)<(d.size:Int):=od;go_enter func217,ntmps217;exact C6
theorem aYx{O:List Nat}(h:Que w O P most all lost)(d:ByteArray)(ha:all.length<=10000000)(hl:0<=lost/\lost<=10000000):
  Calls prog 217 #[pP P,sT d] w fun e w'=>e=rT (fI (putK all.length most d))/\∃O',Que w' O' P most (oY (putK all.length most d) all d) (aU3 (putK all.length most d) lost)/\aS O O' w w':=by
 obtain⟨v,h,rfl⟩:=h;have hP:P∈P::v.ownBlock.toList:=kM (.inl rfl);unfold oY aU3 putK;by_cases h1:40<d.size
 ·simp only[kJ h1];refine(aI3 P w d h1).mono ?_;exact zEc
 ·simp only[kI h1];by_cases h2:most<=(all.length:Int)
  ·simp only[kJ h2];refine(aLx h d od h2 hl).mono ?_;exact zFr
  ·simp only[kI h2];refine(aUl h d od od ha).mono ?_;exact zAz
theorem aQv{v:Value}(h:pK w B P most [] lost v):
  Calls prog 124 #[pP P] w fun e w'=>e=rT (tU #[sT ByteArray.empty,fI 8])/\w'=w:=by obtain⟨c0,c1,c2,z,own,lp,lb⟩:=h;obtain⟨a,cap,rfl⟩:=eY own;have hlp:P<w.heap.size:=od;have c1':w.cell? (aA P 1)=some (sV a 0 cap):=c1;clear own z c1;go_enter func124,ntmps124;go_wp2;go_ret2;exact zIf
theorem aZ1{x:ByteArray}{v:Value}(h:pK w B P most (x::all) lost v)(ha:all.length<=10000000):
  Calls prog 124 #[pP P] w fun e w'=>e=rT (tU #[sT x,fI 0])/\∃v',pK w' B P most all lost v'/\aU P (v.ownBlock.getD P) w w'/\v'.ownBlock=v.ownBlock:=by
 obtain⟨c0,c1,c2,z,own,lp,lb⟩:=h;obtain⟨g,cap,rfl,hg,tE⟩:=own.form oh;have g0:w.cell? (aA g 0)=some (sT x):=by have:=own.cells (g:=g) rfl 0 (sT x) rfl;simpa[Addr.add]using this
 have hD:=aNq (xs:=x::all) own oh;have HO:Hid _:=hD;have hgP:g≠P:=od;have hlp:P<w.heap.size:=od;have dI:(x::all).length=all.length+1:=rfl;have n1:=ha;rw[dI]at c1 hD HO own;have HZ:Hid (∀i,w.frozen? (aA P i)=false):=z;obtain⟨n,hn⟩:∃n,all.length=n:=⟨_,rfl⟩;have HN:Hid (all.length=n):=hn;rw[hn]at c1 hD n1;rw[dI,hn];clear own z hn HO ha dI;go_enter func124,ntmps124;go_wp2_with fail;refine hD.mono ?_;rintro e W ⟨rfl,hOW,hT⟩;have wc:∀i,W.cell? (aA P i)=w.cell? (aA P i):=fun i=>hT.cell (p:=(aA P i)) hlp (Ne.symm hgP) (Ne.symm hgP);have w0:=(wc 0).trans c0;have w1:=(wc 1).trans c1;have w2:=(wc 2).trans c2;have wz:∀i,W.frozen? (aA P i)=false:=fun i=>(hT.frozen (p:=(aA P i)) hlp (Ne.symm hgP) (Ne.symm hgP)).trans (HZ.out i);have z1:=wz 1;have lW:P<W.heap.size:=kB hlp hT.size;have fin:pK (W.setCell (aA P 1) (sL g n cap)) B P most all lost (sL g n cap):=
  ⟨(aB (.inr oe)).trans w0,aY w1,(aB (.inr oe)).trans w2,fun i=>bI.trans (wz i),by
   rw[HN.out]
   exact fY hOW lp,lp,by have:=hT.size;simp;omega⟩
 have aG6:Hid _:=fin;have HTT:Hid (aU P g w (W.setCell (aA P 1) (sL g n cap))):=aU.set (aU.trans (aU.refl P g w) ⟨hT.os,hT.tape,hT.output,hT.size,fun c hc _ h2=>hT.block c hc h2 h2⟩) (p:=(aA P 1)) (.inl rfl) _;clear fin wc wz hOW hT hD;go_wp2;go_ret2;exact⟨rfl,_,aG6.out,HTT.out,rfl⟩
theorem aLy{O:List Nat}(h:Que w O P most all lost)(ha:all.length<=10000000):
  Calls prog 124 #[pP P] w fun e w'=>e=rT (tU #[sT (recvD all),fI (zH all)])/\∃O',Que w' O' P most all.tail lost/\aS O O' w w':=by
 obtain⟨v,h,rfl⟩:=h;have hP:P∈P::v.ownBlock.toList:=kM (.inl rfl)
 cases all with
 |nil=>
  refine(aQv h).mono ?_
  rintro e w' ⟨rfl,rfl⟩
  exact⟨rfl,_,⟨v,h,rfl⟩,aS.refl _ _⟩
 |cons x all=>
  refine(aZ1 h (by simp at ha;omega)).mono ?_
  rintro e w' ⟨rfl,v',h',ht,jW⟩
  refine⟨rfl,_,⟨v',h',rfl⟩,?_⟩
  rw[jW]
  refine aS.jD ht hP ?_
  cases e:v.ownBlock with
  |none=>exact kM (.inl rfl)
  |some g=>exact kM (.inr (List.mem_singleton.2 rfl))
end
section
variable{B P aP:Nat}{all:List ByteArray}{bag last now queue:Int}{w:World}
theorem aMm(P:Nat)(t:Int)(w:World)(h1:¬(0<=t/\t<=1099511627776)):
  Calls prog 214 #[pP P,iI t] w fun e w'=>e=rT (tU #[.agg #[iI 0,N1],fI 2])/\bW w w':=by
 by_cases k1:t<0
 ·clear h1;exact zDo
 ·have k1':=kC k1;have k2:1099511627776<t:=od;clear h1 k1;exact zDo
theorem aMl{v:Value}(h:gM w B P bag queue all v aP last now)(t:Int)(h1:0<=t/\t<=1099511627776)(h2:t<now):
  Calls prog 214 #[pP P,iI t] w fun e w'=>e=rT (tU #[.agg #[iI 0,N1],fI 10])/\bW w w':=zN1
theorem gM.bAx{w':World}{v:Value}(h:gM w B P bag queue all v aP last now)(k:bW w w')(t:Int):gM (w'.setCell (aA P 3) (iI t)) B P bag queue all v aP last t:=by
 have lP:P<w.heap.size:=by have:=h.lp;have:=h.lb;omega
 have cc:∀i,w'.cell? (aA P i)=w.cell? (aA P i):=fun i=>k.cell (p:=(aA P i)) lP;exact⟨(aB (.inr oe)).trans ((cc 0).trans h.c0),(aB (.inr oe)).trans ((cc 1).trans h.c1),(aB (.inr oe)).trans ((cc 2).trans h.c2),aY ((cc 3).trans h.c3),(aB (.inr oe)).trans ((cc 4).trans h.c4),(aB (.inr oe)).trans ((cc 5).trans h.c5),fun i=>bI.trans ((k.frozen (p:=(aA P i)) lP).trans (h.z i)),fY (lI (X:=v.ownBlock.toList) h.own ⟨k.size,fun c hc=>k.block c (h.own.lt c jA1).2⟩ (fun g hg=>by simpa using hg)) h.lp,h.lp,by have:=k.size;have:=h.lb;simp;omega,h.we⟩
theorem gM.asked{v:Value}(h:gM w B P bag queue all v aP last now)(t:Int):gM ((w.setCell (aA P 3) (iI t)).alloc (.cells #[iI 0,sT ⟨#[]⟩] 303)) B P bag queue all v aP last t/\aU P P w ((w.setCell (aA P 3) (iI t)).alloc (.cells #[iI 0,sT ⟨#[]⟩] 303)):=by
 have h':=h.bAx (kX _ _) t;have ha:Below (w.setCell (aA P 3) (iI t)).heap.size (w.setCell (aA P 3) (iI t)) ((w.setCell (aA P 3) (iI t)).alloc (.cells #[iI 0,sT ⟨#[]⟩] 303)):=(kX _ _).alloc (kF _) _;refine⟨h'.keep (Same.of_below ha fun c hc=>?_),((aU.refl P P w).set (p:=(aA P 3)) (.inl rfl) _).trans (aU.of_below ha)⟩;rcases kN hc with y|y
 ·have:=h'.lp;have:=h'.lb;omega
 ·exact(h'.own.lt c Ea).2
theorem aRp{v:Value}(h:gM w B P bag queue all v aP last now)(t:Int)(h1:0<=t/\t<=1099511627776)(h2:now<=t)(h3:xV all.length aP t last bag=true)(ha:all.length<=10000000):
  Calls prog 214 #[pP P,iI t] w fun e w'=>e=rT (tU #[.agg #[iI 0,N1],fI 8])/\gM w' B P bag queue all v aP last t/\aU P P w w':=zKi
theorem aZq{v:Value}(h:gM w B P bag queue all v aP last now)(t:Int)(h1:0<=t/\t<=1099511627776)(h2:now<=t)(h3:xV all.length aP t last bag=false)(ha:all.length<=10000000)(wT:0<=bag)(hb:bag<=1099511627776):
  Calls prog 214 #[.pointer (some ⟨P,0,none⟩),.int .i64 t] w fun e w'=>e=.returned (.tuple #[.agg #[.int .i64 (mH aP),.string (all.getD aP ByteArray.empty)],fI 0])/\∃v',gM w' B P bag queue all v' (aP+1) t t/\aU P (v.ownBlock.getD P) w w'/\v'.ownBlock=v.ownBlock:=by
 have we0:=h.we;have hgb:∀c,v.ownBlock=some c->B<=c:=fun c hc=>(h.own.lt c hc).1;have tE:∀c,v.ownBlock=some c->c<w.heap.size:=fun c hc=>(h.own.lt c hc).2;unfold xV at h3;rw[Bool.or_eq_false_iff,Bool.and_eq_false_iff,decide_eq_false_iff_not,decide_eq_false_iff_not,decide_eq_false_iff_not]at h3;have hw:aP<all.length:=od;have h5:¬t<I8 aP last bag:=by
  unfold I8;split
  ·omega
  ·omega
 have m66:=0;exact zKi
theorem aZp{O:List Nat}(h:Sdr w O P bag queue all aP last now)(t:Int)(ha:all.length<=10000000)(tQ:0<=last)(hl:last<=1099511627776)(wT:0<=bag)(hb:bag<=1099511627776):
  Calls prog 214 #[pP P,iI t] w fun e w'=>e=rT (tU #[.agg #[iI (jZ (fU all.length aP t now last bag) aP),sT (jY (fU all.length aP t now last bag) all aP)],fI (fU all.length aP t now last bag)])/\
   ∃O',Sdr w' O' P bag queue all (K0 (fU all.length aP t now last bag) aP) (pF (fU all.length aP t now last bag) t last) (Y7 (fU all.length aP t now last bag) t now)/\aS O O' w w':=by have _:=tQ;have _:=hl;have hlt:=h.lt;have hS:=h;exact zKd
end
section
variable{j k:Nat}
abbrev vW:=Nat×Nat×Nat
abbrev iB:vW:=(0,0,0)
abbrev iN(j:Nat):vW:=(1,j,0)
abbrev iS(k:Nat):vW:=(2,k,0)
abbrev iR(k j:Nat):vW:=(3,k,j)
abbrev iQ(k j:Nat):vW:=(4,k,j)
structure wV where
 X:List Nat
 cb:Nat
 cI:Nat
 sa:Option Addr
 oD:Nat
 nb:Nat
 vQ:Nat
 la:Option Addr
 lb:Nat
 rJ:Nat
 P:Nat->Nat
 S:Nat->Nat
 E:Nat->Nat
 D:Nat->Nat->Nat
 R:Nat->Nat->Nat
 Q:Nat->Nat->Nat
structure Z0(w:World)(C:Nat)(p:aQ)(fa:Int)(cs:List Int)(rd:Int)(m:wV):Prop where
 c0:w.cell? (aA C 0)=some (iI p.nodes)
 c1:w.cell? (aA C 1)=some (iI p.aF)
 c3:w.cell? (aA C 3)=some (iI p.aC)
 c4:w.cell? (aA C 4)=some (iI p.aH)
 c5:w.cell? (aA C 5)=some (iI p.round)
 c6:w.cell? (aA C 6)=some (sV m.sa p.ns m.oD)
 c10:w.cell? (aA C 10)=some (iI fa)
 c11:w.cell? (aA C 11)=some (sL m.cb cs.length m.cI)
 c12:w.cell? (aA C 12)=some (iI rd)
 c13:w.cell? (aA C 13)=some (sL m.nb p.n m.vQ)
 c14:w.cell? (aA C 14)=some (sV m.la p.nl m.rJ)
 z:∀i,w.frozen? (aA C i)=false
 lc:C<w.heap.size
 nC:C∉m.X
 lx:∀c,c∈m.X->c<w.heap.size
 ck:∀j,j<cs.length->w.cell? (aA m.cb j)=some (iI (cs.getD j 0))
 ckX:m.cb∈m.X
 sl:0<p.ns->∃b off,m.sa=some (aA b off)/\b∈m.X/\∀i,i<p.ns->w.cell? ⟨b,off+i*3,none⟩=some (iI (p.nd i))/\w.cell? ⟨b,off+i*3+1,none⟩=some (iI (p.fr i))/\w.cell? ⟨b,off+i*3+2,none⟩=some (iI (p.td i))
 nd:∀j,j<p.n->w.cell? (aA m.nb j)=some (.pointer (some ⟨m.P j,0,none⟩))
 ndX:m.nb∈m.X
 la:0<p.nl->m.la=some (aA m.lb 0)/\m.lb∈m.X
 lk:∀k,k<p.nl->w.cell? ⟨m.lb,k*3,none⟩=some (iI (p.lf k))/\w.cell? ⟨m.lb,k*3+1,none⟩=some (.pointer (some ⟨m.S k,0,none⟩))/\w.cell? ⟨m.lb,k*3+2,none⟩=some (sV (some ⟨m.E k,0,none⟩) p.n p.n)
 en:∀k,k<p.nl->m.E k∈m.X/\∀j,j<p.n->w.cell? ⟨m.E k,j,none⟩=some (.pointer (if aW (p.lt k) j=true then some ⟨m.D k j,0,none⟩else none))
 dn:∀k j,k<p.nl->j<p.n->aW (p.lt k) j=true->m.D k j∈m.X/\w.cell? ⟨m.D k j,0,none⟩=some (.pointer (some ⟨m.R k j,0,none⟩))/\w.cell? ⟨m.D k j,1,none⟩=some (.pointer (some ⟨m.Q k j,0,none⟩))
theorem Z0.keep{w w':World}{C:Nat}{p:aQ}{fa:Int}{cs:List Int}{rd:Int}{m:wV}(h:Z0 w C p fa cs rd m)(k:Same (C::m.X) w w'):Z0 w' C p fa cs rd m:=zK2
def qZ(B:Nat)(N:xQ):Prop:=(0<=N.g/\N.g<=B)/\0<=N.b/\N.b<=B
def vN(B:Nat)(S:jH):Prop:=S.all.length<=B/\(0<=S.last/\S.last<=1099511627776)/\∀d∈S.all,d.size<=40
structure CM(w:World)(O:List Nat)(Of:vW->List Nat)(C:Nat)(p:aQ)(fa:Int)(cs:List Int)(s:cA)(rd:Int)(B:Nat)(m:wV):Prop where
 base:Z0 w C p fa cs rd m
 ob:Of iB=C::m.X
 fam:vV w Of
 sub:∀i c,c∈Of i->c∈O
 lo:∀c,c∈O->c<w.heap.size
 node:∀j,j<p.n->(bJ w (m.P j) j p.n (aZ (s.nodes j).t p.n) (s.nodes j).g (s.nodes j).b (s.nodes j).fz/\Of (iN j)=[m.P j])/\qZ B (s.nodes j)
 snd:∀k,k<p.nl->Sdr w (Of (iS k)) (m.S k) (p.lb k) (p.lq k) (s.aN k).all (s.aN k).aP (s.aN k).last (s.aN k).now/\vN B (s.aN k)
 rcv:∀k j,k<p.nl->j<p.n->aW (p.lt k) j=true->∃a b,Rcv w (Of (iR k j)) (m.R k j) (s.aV k j) a b/\((0<=a/\a<=B)/\0<=b/\b<=B)/\s.aV k j<=255
 que:∀k j,k<p.nl->j<p.n->aW (p.lt k) j=true->∃lost,Que w (Of (iQ k j)) (m.Q k j) 16 (s.aR k j) lost/\(0<=lost/\lost<=B)/\(s.aR k j).length<=16
def Cl(w:World)(O:List Nat)(C:Nat)(p:aQ)(fa:Int)(cs:List Int)(s:cA)(rd:Int)(B:Nat)(m:wV):Prop:=∃Of,CM w O Of C p fa cs s rd B m
section
variable{w w':World}{O:List Nat}{Of:vW->List Nat}{C:Nat}{p:aQ}{fa:Int}{cs:List Int}{s:cA}{rd:Int}{B:Nat}{m:wV}
theorem bJ.same{P:Nat}{id:Int}{n:Nat}{mm g b:Int}{fz:Bool}(h:bJ w P id n mm g b fz)(k:Same [P] w w'):bJ w' P id n mm g b fz:=
 have c:∀i,w'.cell? (aA P i)=w.cell? (aA P i):=fun i=>k.cell (p:=(aA P i)) kQ
 ⟨(c 0).trans h.c0,(c 1).trans h.c1,(c 2).trans h.c2,(c 3).trans h.c3,(c 4).trans h.c4,(c 5).trans h.c5,fun i=>(k.frozen (p:=(aA P i)) kQ).trans (h.z i),kB h.lp k.1⟩
theorem Cl.base(h:Cl w O C p fa cs s rd B m):Z0 w C p fa cs rd m:=by obtain⟨_,h⟩:=h;exact h.base
theorem Cl.lt(h:Cl w O C p fa cs s rd B m):∀c,c∈O->c<w.heap.size:=by obtain⟨_,h⟩:=h;exact h.lo
theorem Cl.mem(h:Cl w O C p fa cs s rd B m):C∈O:=by obtain⟨_,h⟩:=h;exact h.sub iB C Oz
theorem Cl.keep(h:Cl w O C p fa cs s rd B m)(k:Same O w w'):Cl w' O C p fa cs s rd B m:=by
 obtain⟨Of,h⟩:=h;have hs:∀i,Same (Of i) w w':=fun i=>k.part (h.sub i);refine⟨Of,h.base.keep (h.ob▸hs iB),h.ob,⟨fun i c hc=>kB (h.fam.lt i c hc) k.1,h.fam.ap⟩,h.sub,fun c hc=>kB (h.lo c hc) k.1,fun j hj=>?_,fun i hi=>⟨(h.snd i hi).1.keep (hs _),(h.snd i hi).2⟩,fun i j hi hj hb=>?_,fun i j hi hj hb=>?_⟩
 ·obtain⟨⟨a,b⟩,c⟩:=h.node j hj;exact⟨⟨a.same (b▸hs (iN j)),b⟩,c⟩
 ·obtain⟨a,b,q,r⟩:=h.rcv i j hi hj hb;exact⟨a,b,q.keep (hs _),r⟩
 ·obtain⟨l,q,r⟩:=h.que i j hi hj hb;exact⟨l,q.keep (hs _),r⟩
theorem Cl.below(h:Cl w O C p fa cs s rd B m)(k:bW w w'):Cl w' O C p fa cs s rd B m:=h.keep (Same.of_below k h.lt)
theorem Cl.more{B':Nat}(h:Cl w O C p fa cs s rd B m)(hB:B<=B'):Cl w O C p fa cs s rd B' m:=by
 obtain⟨Of,h⟩:=h;refine⟨Of,h.base,h.ob,h.fam,h.sub,h.lo,fun j hj=>⟨(h.node j hj).1,?_⟩,fun i hi=>⟨(h.snd i hi).1,?_⟩,fun i j hi hj hb=>?_,fun i j hi hj hb=>?_⟩
 ·exact zF9
 ·obtain⟨a,b⟩:=(h.snd i hi).2;exact⟨od,b⟩
 ·obtain⟨a,b,q,⟨⟨r1,r2⟩,r3,r4⟩,t⟩:=h.rcv i j hi hj hb;exact⟨a,b,q,⟨⟨r1,od⟩,r3,od⟩,t⟩
 ·obtain⟨l,q,⟨r1,r2⟩,t⟩:=h.que i j hi hj hb;exact⟨l,q,⟨r1,od⟩,t⟩
theorem Cl.agree{s':cA}(h:Cl w O C p fa cs s rd B m)(h1:∀j,j<p.n->s'.nodes j=s.nodes j)(h2:∀k,k<p.nl->s'.aN k=s.aN k)(h3:∀k j,k<p.nl->j<p.n->aW (p.lt k) j=true->s'.aV k j=s.aV k j/\s'.aR k j=s.aR k j):Cl w O C p fa cs s' rd B m:=by
 obtain⟨Of,h⟩:=h;refine⟨Of,h.base,h.ob,h.fam,h.sub,h.lo,fun j hj=>?_,fun i hi=>?_,fun i j hi hj hb=>?_,fun i j hi hj hb=>?_⟩
 ·rw[h1 j hj];exact h.node j hj
 ·rw[h2 i hi];exact h.snd i hi
 ·rw[(h3 i j hi hj hb).1];exact h.rcv i j hi hj hb
 ·rw[(h3 i j hi hj hb).2];exact h.que i j hi hj hb
theorem CM.aN0(h:CM w O Of C p fa cs s rd B m){i:vW}{Y:List Nat}(hi:i≠iB)(k:aS (Of i) Y w w')(hY:∀c,c∈Y->c<w'.heap.size):
  (aS O (O++Y) w w'/\Z0 w' C p fa cs rd m/\dV Of i Y iB=C::m.X)/\vV w' (dV Of i Y)/\(∀i' c,c∈dV Of i Y i'->c∈O++Y)/\(∀c,c∈O++Y->c<w'.heap.size)/\∀i',i'≠i->Same (Of i') w w'/\dV Of i Y i'=Of i':=zLr
def cA.setNode(s:cA)(j:Nat)(N:xQ):cA:=⟨fun x=>if x=j then N else s.nodes x,s.aN,s.aV,s.aR⟩
def cA.tH(s:cA)(k:Nat)(S:jH):cA:=⟨s.nodes,fun x=>if x=k then S else s.aN x,s.aV,s.aR⟩
def cA.fW(s:cA)(k j:Nat)(v:Int):cA:=⟨s.nodes,s.aN,fun x y=>if x=k/\y=j then v else s.aV x y,s.aR⟩
def cA.setPort(s:cA)(k j:Nat)(v:List ByteArray):cA:=⟨s.nodes,s.aN,s.aV,fun x y=>if x=k/\y=j then v else s.aR x y⟩
theorem Cl.nod(h:Cl w O C p fa cs s rd B m)(hj:j<p.n):bJ w (m.P j) j p.n (aZ (s.nodes j).t p.n) (s.nodes j).g (s.nodes j).b (s.nodes j).fz/\qZ B (s.nodes j)/\
  ∀(w':World)(B':Nat)(N:xQ),bJ w' (m.P j) j p.n (aZ N.t p.n) N.g N.b N.fz->aU (m.P j) (m.P j) w w'->qZ B' N->B<=B'->∃O',aS O O' w w'/\Cl w' O' C p fa cs (s.setNode j N) rd B' m:=zKw
theorem Cl.sdr(h:Cl w O C p fa cs s rd B m)(hk:k<p.nl):∃OS,Sdr w OS (m.S k) (p.lb k) (p.lq k) (s.aN k).all (s.aN k).aP (s.aN k).last (s.aN k).now/\vN B (s.aN k)/\
  ∀(w':World)(OS':List Nat)(B':Nat)(S:jH),Sdr w' OS' (m.S k) (p.lb k) (p.lq k) S.all S.aP S.last S.now->aS OS OS' w w'->vN B' S->B<=B'->∃O',aS O O' w w'/\Cl w' O' C p fa cs (s.tH k S) rd B' m:=by obtain⟨Of,h⟩:=h;refine⟨Of (iS k),(h.snd k hk).1,(h.snd k hk).2,fun w' OS' B' S hS hF hB U9=>?_⟩;exact zKx
theorem Cl.rcv(h:Cl w O C p fa cs s rd B m)(hk:k<p.nl)(hj:j<p.n)(hb:aW (p.lt k) j=true):∃OR a b,Rcv w OR (m.R k j) (s.aV k j) a b/\((0<=a/\a<=B)/\0<=b/\b<=B)/\s.aV k j<=255/\
  ∀(w':World)(OR':List Nat)(B':Nat)(v a' b':Int),Rcv w' OR' (m.R k j) v a' b'->aS OR OR' w w'->((0<=a'/\a'<=B')/\0<=b'/\b'<=B')->v<=255->B<=B'->∃O',aS O O' w w'/\Cl w' O' C p fa cs (s.fW k j v) rd B' m:=by obtain⟨Of,h⟩:=h;obtain⟨a,b,q,r,t⟩:=h.rcv k j hk hj hb;refine⟨Of (iR k j),a,b,q,r,t,fun w' OR' B' v a' b' hS hF hB hv U9=>?_⟩;exact zNu
theorem Cl.que(h:Cl w O C p fa cs s rd B m)(hk:k<p.nl)(hj:j<p.n)(hb:aW (p.lt k) j=true):∃OQ lost,Que w OQ (m.Q k j) 16 (s.aR k j) lost/\(0<=lost/\lost<=B)/\(s.aR k j).length<=16/\
  ∀(w':World)(OQ':List Nat)(B':Nat)(v:List ByteArray)(aU2:Int),Que w' OQ' (m.Q k j) 16 v aU2->aS OQ OQ' w w'->(0<=aU2/\aU2<=B')->v.length<=16->B<=B'->∃O',aS O O' w w'/\Cl w' O' C p fa cs (s.setPort k j v) rd B' m:=by obtain⟨Of,h⟩:=h;obtain⟨l,q,r,t⟩:=h.que k j hk hj hb;refine⟨Of (iQ k j),l,q,r,t,fun w' OQ' B' v l' hS hF hB hv U9=>?_⟩;have m81:=0;exact zKx
end
end
