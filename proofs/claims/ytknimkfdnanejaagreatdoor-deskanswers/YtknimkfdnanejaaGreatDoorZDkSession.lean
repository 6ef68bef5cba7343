import Derived.Test.YtknimkfdnanejaaGreatDoorZT30
namespace Go.Proofs.YtknimkfdnanejaaGreatDoor
open Go.RowKit Go.Proofs.Tryz
set_option maxRecDepth 100000
set_option maxHeartbeats 16000000
open Go.RowKit Go.Shelf
attribute [local go_sem] Oper.semAt_some
theorem aFo(text:ByteArray)(h:20000<text.size)(hs:text.size<=9223372036854775807)(w:World)(hw:nV w):Calls prog 4 #[sT text] w fun e w'=>e=rT (sT (dS 4++⟨#[10]⟩))/\bW w w':=by have hW:=aD8 4 ⟨od,od⟩ w hw;have hz:=sF (k:=4) ⟨od,od⟩;have jX:decide (9223372036854775807<(dS 4).size+1)=false:=kC od;go_enter func4,ntmps4;go_wp2_with fail;refine hW.mono ?_;rintro e u ⟨rfl,hb⟩;exact zIb
theorem jF.first{w:World}{S:Nat}(hb:w.heap[S]?=some (.cells (mV 0 0 0 0 0 0 (sV none 0 0) (sV none 0 0) 1 none (sV none 0 0) (sV none 0 0) (sV none 0 0) (sV none 0 0)) 70 (0,0))):jF w S S [S] [] gD.start aJ3 0:=by refine⟨?_,hb⟩;exact { s:=kQ,lo:=fun c h=>Nat.le_of_eq (List.mem_singleton.1 h).symm,hi:=fun c h=>by rw[List.mem_singleton.1 h];exact cW hb,loO:=fun c h=>Oy,hiO:=fun c h=>Oy,ap:=fun c h=>Oy,oS:=⟨rfl,.inl ⟨rfl,rfl⟩⟩,oL:=⟨rfl,.inl ⟨rfl,rfl⟩⟩,oO:=⟨rfl,.inl ⟨rfl,rfl⟩⟩,oR:=⟨rfl,.inl ⟨rfl,rfl⟩⟩,bS:=fun _ h=>Oy,bL:=fun _ h=>Oy,bO:=fun _ h=>Oy,bR:=fun _ h=>Oy,rD:=fun h=>absurd h (kU _),rM:=fun h=>absurd h (kU _),bD:=fun _ _ h=>Oy,bM:=fun _ _ h=>Oy,nw:=rfl,iL:=fun _ h=>absurd h (kT _),iO:=fun _ h=>absurd h (kT _),ns:=kH _,nl:=kH _,nL:=kH _,nR:=kH _,nD:=kH _,nM:=kH _,clu:=fun _ _ _ _ _ h=>Oy }
theorem aKz(text:ByteArray)(w:World):Calls prog 9 #[sT text] w fun e w'=>e=rT (.func (.func 38) #[] #[pP w.heap.size])/\w'=w.alloc (.cells #[sT text] 9):=by have W9:=Tryz.mfD;go_enter func9,ntmps9;exact C6
theorem aJ4(text:ByteArray)(h:text.size<=3000)(w:World)(hw:cB w.heap.size w):Calls prog 4 #[sT text] w fun e w'=>∃os st,gA gD.start (iF text) os st/\(∀o∈os,o.size<=500)/\e=rT (sT ⟨(jO os).toArray⟩)/\bW w w':=by
 have W9:=Tryz.mfD;have hN:=yW w;have hlen:decide ((20000:Int)<text.size)=false:=kC od;refine(callsIn_wide (n:=3)).1 ?_;refine callsIn_of_wp_marks func4 rfl trivial ?_ rfl;simp only[ntmps4,List.size_toArray,List.length_cons,List.length_nil,Nat.reduceAdd,Nat.reduceSub,Array.replicate_succ,Array.replicate_zero,List.push_toArray,List.append_toArray,List.nil_append,List.cons_append];gi_wp2_with fail;refine⟨trivial,(callsIn_wide.2 hN).mono ?_⟩;rintro e w1 ⟨rfl,yS⟩;have dB:bW w w1:=yS▸(kX _ w).alloc (kF _) _;have hblk:w1.heap[w.heap.size]?=some (.cells (mV 0 0 0 0 0 0 (sV none 0 0) (sV none 0 0) 1 none (sV none 0 0) (sV none 0 0) (sV none 0 0) (sV none 0 0)) 70 (0,0)):=by rw[yS];exact heap_alloc_new w _
 have HW1:Hid (w1.heap.size=w.heap.size+1):=by rw[yS];simp[Hid]
 clear yS hN;gi_wp2_with fail;generalize qP:w1.alloc (.cells #[pP w.heap.size] 26)=w2;have hK:=aPs w.heap.size w2;have uN:Hid (bW w1 w2):=qP▸(kX _ w1).alloc (kF _) _;have hs2:w2.heap[w1.heap.size]?=some (.cells #[pP w.heap.size] 26 (0,0)):=by rw[<-qP];exact heap_alloc_new w1 _
 refine⟨trivial,(callsIn_wide.2 hK).mono ?_⟩;rintro e w3 ⟨kb,rfl,hkb,hKi,jN⟩;have HB3:Hid (bW w2 w3):=jN;have HKi:Hid (lY w3 kb w.heap.size):=hKi;clear jN hKi hK;gi_wp2_with fail;generalize hw4:w3.alloc (.cells #[.map (some kb)] 28)=w4;generalize hw5:w4.alloc (.cells #[.pointer none,sV none 0 0] 33)=w5;have hL:=aKz text w5;refine⟨trivial,(callsIn_wide.2 hL).mono ?_⟩;rintro e w6 ⟨rfl,hw6⟩;have zQ:Hid (bW w3 w4):=hw4▸(kX _ w3).alloc (kF _) _;have HB5:Hid (bW w4 w5):=hw5▸(kX _ w4).alloc (kF _) _;have HB6:Hid (bW w5 w6):=hw6▸(kX _ w5).alloc (kF _) _;have k4:w4.heap[w3.heap.size]?=some (.cells #[.map (some kb)] 28 (0,0)):=by rw[<-hw4];exact heap_alloc_new w3 _
 have k5:w5.heap[w4.heap.size]?=some (.cells #[.pointer none,sV none 0 0] 33 (0,0)):=by rw[<-hw5];exact heap_alloc_new w4 _
 have k6:w6.heap[w5.heap.size]?=some (.cells #[sT text] 9 (0,0)):=by rw[hw6];exact heap_alloc_new w5 _
 have z4:w4.heap.size=w3.heap.size+1:=by rw[<-hw4];simp
 have z5:w5.heap.size=w4.heap.size+1:=by rw[<-hw5];simp
 have z6:w6.heap.size=w5.heap.size+1:=by rw[hw6];simp
 have b12:=uN.out;have b3:=HB3.out;have b23:bW w1 w3:=b12.trans (b3.mono b12.size);have b24:bW w1 w4:=b23.trans (zQ.out.mono b23.size);have b25:bW w1 w5:=b24.trans (HB5.out.mono b24.size);have b26:bW w1 w6:=b25.trans (HB6.out.mono b25.size);have b36:bW w3 w6:=(zQ.out.trans (HB5.out.mono zQ.out.size)).trans (HB6.out.mono (zQ.out.trans (HB5.out.mono zQ.out.size)).size);have b46:bW w4 w6:=HB5.out.trans (HB6.out.mono HB5.out.size);have h1:=HW1.out;have h3:=b3.size;have hkl:=HKi.out.lt;have bFy:=cW hs2;have HI0:Hid (bEh w w.heap.size w.heap.size w1.heap.size w3.heap.size kb (w3.heap.size+1) w6.heap.size [] w6):=by
  refine⟨[],gD.start,[w.heap.size],[],aJ3,sV none 0 0,.nil _,rfl,fun o ho=>(by cases ho),gD.Small.start,?_⟩;exact {
      ses:=jF.first ((b26.block _ (cW hblk)).trans hblk)
      bld:=⟨⟨_,.inl rfl,by rw[<-z4];exact(HB6.out.block _ (cW k5)).trans k5⟩,World.ownsRow_nil _ _ _ _⟩
      kin:=HKi.out.keep (b36.block _ hkl)
      cs:=aM (((b3.trans (b36.mono b3.size)).block _ bFy).trans hs2) rfl
      cx:=aM ((b46.block _ (cW k4)).trans k4) rfl
      bel:=dB.trans (b26.mono dB.size)
      b0:=kF _
      b1:=by omega
      l1:=by omega
      l2:=by omega
      l3:=by omega
      l4:=kF _
      lo:=by omega
      d1:=fun c hc q=>by
       simp only[C7.yL,Value.ownBlock,Option.toList,List.append_nil,List.mem_cons,List.not_mem_nil,or_false]at hc q
       omega
      d2:=fun c hc q=>by
       simp only[C7.yL,Value.ownBlock,Option.toList,List.mem_cons,List.not_mem_nil,or_false]at hc q
       omega }
 have hG:=aHe 2 w5.heap.size text od w6 (cW k6) (aM k6 rfl);have HH:Hid (w.heap.size<=w6.heap.size):=by show w.heap.size<=w6.heap.size;omega
 clear z4 z5 z6 h1 hw4 hw5 hw6 zQ HB5 HB6 k4 k5 k6 b12 b3 b23 b24 b25 b26 b36 b46 hblk hs2 hkb HKi uN HB3 hL h3 hkl bFy qP dB;gi_wp2_with fail;have hDW:cB w.heap.size w:=hw;refine aB5 (α:=ByteArray) rfl oe (gf:=38) (lb:=#[pP w5.heap.size]) rfl trivial (enters_of func38 og rfl) hG (fun _=>rfl)
  (bEh w w.heap.size w.heap.size w1.heap.size w3.heap.size kb (w3.heap.size+1) w6.heap.size) ?_ ?_ HI0.out
  (fun x=>{ tmps:=#[sT text,undef,sT ⟨#[]⟩,pP w1.heap.size,pP w3.heap.size,.pointer (some (aA (w3.heap.size+1) 0)),sT x,sT text,iI text.size,.bool false,undef,undef,pP w.heap.size,pP w.heap.size,.map (some kb),sT text,.func (.func 38) #[] #[pP w5.heap.size],sT x,undef,undef,undef,undef,undef,undef,undef],defers:=[] }) ?assign ?body ?done
 ·rintro pre B1 B2 ⟨os,st,M,O,A,v,q1,q2,q3,q4,q5⟩ hb;exact⟨os,st,M,O,A,v,q1,q2,q3,q4,q5.below hb⟩
 ·rintro pre B1 o ⟨os,st,M,O,A,v,q1,q2,q3,q4,q5⟩ _;exact⟨os,st,M,O,A,v,q1,q2,q3,q4,q5.put o⟩
 case assign=>intro l x W K hK;gi_wp2;exact hK
 case body=>
  rintro l pre x W ⟨os,st,M,O,A,v,q1,q2,q3,q4,q5⟩ aTk hD1;have hxs:x∈iF text:=aTk.subset oh;have hx:=aHd hxs;have hll:=aHc text;have hpl:=aTk.length_le;rw[List.length_append,List.length_cons,List.length_nil]at hpl;have c1:=q5.cs;have c2:=q5.cx;have hA:=aK6 q5.ses q5.kin (hDW.below q5.bel) q4 od x od;have HQ:Hid (gA gD.start pre os st/\os.length=pre.length/\(∀o∈os,o.size<=500)/\SI w w.heap.size w.heap.size w1.heap.size w3.heap.size kb (w3.heap.size+1) w6.heap.size st M O A pre.length v (jO os) W):=⟨q1,q2,q3,q5⟩;clear q1 q2 q3 q4 q5 hG aTk hxs;gi_wp2_with fail;refine⟨trivial,(CallsIn.inRound l (callsIn_wide.2 hA)).mono ?_⟩;rintro e W1 ⟨qQ,out,M',O',A',r1,r2,r3,rfl,r4,r5⟩;obtain⟨p1,p2,p3,p4⟩:=HQ.out;obtain⟨s1,s2,s3⟩:=p4.ans hD1 r4 r5;have bN6:=aD4 os p3;have R0:=xY s1.bld (kG s1.lo s1.l4) out od;have HR:Hid (fK st x qQ out/\out.size<=500/\qQ.Small):=⟨r1,r2,r3⟩;have HS1:Hid (SI w w.heap.size w.heap.size w1.heap.size w3.heap.size kb (w3.heap.size+1) w6.heap.size qQ M' O' A' (pre.length+1) v (jO os) W1/\W.heap.size<=W1.heap.size/\W1.heap[w6.heap.size]?=W.heap[w6.heap.size]?/\W1.heap[w6.heap.size+1]?=W.heap[w6.heap.size+1]?):=⟨s1,r4.size,s2,s3⟩;have hos:os.length=pre.length:=p2;have pE:out.size<=500:=r2;clear p1 p2 p3 p4 s1 s2 s3 r1 r2 r3 r4 r5 hA c1 c2;gi_wp2_with fail;refine⟨trivial,(CallsIn.inRound l (callsIn_wide.2 R0)).mono ?_⟩;rintro e W2 ⟨v2,rfl,dQ,hf2⟩;obtain⟨t1,t2⟩:=HS1.out.1.wrote (by have:=HS1.out.2.1;omega) hf2 dQ;have hW2:=xY t1.bld (kG t1.lo t1.l4) ⟨#[10]⟩ (by
   have:(⟨#[10]⟩:ByteArray).size=1:=rfl
   have h3:out.data.toList.length=out.size:=Array.length_toList
   rw[List.length_append]
   omega)
  have HS2:Hid (SI w w.heap.size w.heap.size w1.heap.size w3.heap.size kb (w3.heap.size+1) w6.heap.size qQ M' O' A' (pre.length+1) v2 (jO os++out.data.toList) W2/\W1.heap.size<=W2.heap.size/\W2.heap[w6.heap.size]?=W1.heap[w6.heap.size]?/\W2.heap[w6.heap.size+1]?=W1.heap[w6.heap.size+1]?):=⟨t1,hf2.size,t2⟩;clear t1 t2 dQ hf2 R0;gi_wp2_with fail;refine⟨trivial,(CallsIn.inRound l (callsIn_wide.2 hW2)).mono ?_⟩;rintro e W3 ⟨v3,rfl,jN,hf3⟩;have HS3:=HS2.out.1.wrote (by have:=HS1.out.2.1;have:=HS2.out.2.1;omega) hf3 jN;have HF3:Hid (W2.heap.size<=W3.heap.size/\SI w w.heap.size w.heap.size w1.heap.size w3.heap.size kb (w3.heap.size+1) w6.heap.size qQ M' O' A' (pre.length+1) v3 ((jO os++out.data.toList)++[10]) W3/\W3.heap[w6.heap.size]?=W2.heap[w6.heap.size]?/\W3.heap[w6.heap.size+1]?=W2.heap[w6.heap.size+1]?):=⟨hf3.size,HS3⟩;clear HS3 jN hf3 hW2;gi_wp2_with fail;obtain⟨z1,z2,z3,z4⟩:=HS1.out;obtain⟨y1,y2,y3,y4⟩:=HS2.out;obtain⟨x1,x2,x3,x4⟩:=HF3.out;obtain⟨p1,p2,p3,p4⟩:=HQ.out;obtain⟨r1,r2,r3⟩:=HR.out;refine⟨od,x3.trans (y3.trans z3),(x4.trans (y4.trans z4)).trans (Array.getElem?_eq_getElem hD1),?_⟩;refine⟨os++[out],qQ,M',O',A',v3,p1.snoc r1,by simp[p2],fun o ho=>?_,r3,?_⟩
  ·rcases kL ho with q|q
   ·exact p3 o q
   ·rw[List.mem_singleton.1 q];exact r2
  ·rw[aAz,List.length_append];exact x2
 case done=>rintro W ⟨os,st,M,O,A,v,q1,q2,q3,q4,q5⟩ hdf;have hS:=aMw q5.bld q5.b1 (kG q5.lo q5.l4);have HQ:Hid (gA gD.start (iF text) os st/\(∀o∈os,o.size<=500)/\bW w W):=⟨q1,q3,q5.bel⟩;have HDf:Hid (W.heap[w6.heap.size]?=some (.deferred (some []))/\w.heap.size<=w6.heap.size):=⟨hdf,HH.out⟩;clear q1 q2 q3 q4 q5 hG hdf;gi_wp2_with fail;refine⟨trivial,(callsIn_wide.2 hS).mono ?_⟩;rintro e W1 ⟨rfl,hb,hdd⟩;have HB:Hid (Below w.heap.size W W1):=hb;have HK:Hid (W1.heap[w6.heap.size]?=some (.deferred (some []))):=hdd _ _ HDf.out.1;clear hb hdd;gi_wp2_with fail;refine⟨oh,.inl ⟨_,_,rfl,run_takeDeferred HK.out,?_⟩⟩;refine⟨_,results_tmp rfl _ _ _,os,st,HQ.out.1,HQ.out.2.1,rfl,?_⟩;have hbb:=HQ.out.2.2.trans HB.out;exact⟨hbb.os,hbb.tape,hbb.output,by simpa[World.putObj]using hbb.size,fun c hc=>(wM (by have:=HDf.out.2;omega)).trans (hbb.block c hc)⟩
