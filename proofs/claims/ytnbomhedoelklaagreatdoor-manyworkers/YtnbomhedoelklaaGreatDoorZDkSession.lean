import Derived.Test.YtnbomhedoelklaaGreatDoorZT16
namespace Go.Proofs.YtnbomhedoelklaaGreatDoor
open Go.RowKit Go.Proofs.Tryz
set_option maxRecDepth 99999
set_option maxHeartbeats 0
open Go.Shelf
attribute [local go_sem] Oper.semAt_some
theorem fV.first{w:WA}{S:Nat}(hb:w.1[S]?=some (.cells (qH 0 0 0 0 0 0 (sV none 0 0) (sV none 0 0) 1 none (sV none 0 0) (sV none 0 0) (sV none 0 0) (sV none 0 0)) 91 (0,0))):fV w S S [S] [] iY.start aNl 0:=by refine⟨?_,hb⟩;exact { s:=kT,lo:=λc h=>Nat.le_of_eq (List.mem_singleton.1 h).symm,hi:=λc h=>by rw[List.mem_singleton.1 h];exact bQ hb,loO:=λc h=>Oa,hiO:=λc h=>Oa,ap:=λc h=>Oa,oS:=⟨rfl,.inl ⟨rfl,rfl⟩⟩,oL:=⟨rfl,.inl ⟨rfl,rfl⟩⟩,oO:=⟨rfl,.inl ⟨rfl,rfl⟩⟩,oR:=⟨rfl,.inl ⟨rfl,rfl⟩⟩,bS:=λ_ h=>Oa,bL:=λ_ h=>Oa,bO:=λ_ h=>Oa,bR:=λ_ h=>Oa,rD:=λh=>absurd h (kW _),rM:=λh=>absurd h (kW _),bD:=λ_ _ h=>Oa,bM:=λ_ _ h=>Oa,nw:=rfl,iL:=λ_ h=>absurd h (kV _),iO:=λ_ h=>absurd h (kV _),ns:=kI _,nl:=kI _,nL:=kI _,nR:=kI _,nD:=kI _,nM:=kI _,clu:=λ_ _ _ _ _ h=>Oa }
theorem aK8(text:WG)(w:WA):Calls prog 14 #[sT text] w λe w'=>e=rT (.func (.func 57) #[] #[pP w.1.size])/\w'=w.alloc (.cells #[sT text] 9):=by have L8:=Tryz.mfD;go_enter func14,ntmps14;exact W5
theorem aIi(text:WG)(h:text.size<=3000)(w:WA)(hw:cU w.1.size w):Calls prog 6 #[sT text] w λe w'=>∃os st,jI iY.start (nE text) os st/\(∀o∈os,o.size<=500)/\e=rT (sT ⟨(nV os).toArray⟩)/\bW w w':=by
 have L8:=Tryz.mfD;have hN:=vV w;have hlen:decide ((20000:Int)<text.size)=false:=kD od;refine(callsIn_wide (n:=3)).1 ?_;refine callsIn_of_wp_marks func6 rfl trivial ?_ rfl;simp only[ntmps6,List.size_toArray,List.length_cons,List.length_nil,Nat.reduceAdd,Nat.reduceSub,Array.replicate_succ,Array.replicate_zero,List.push_toArray,List.append_toArray,List.nil_append,List.cons_append];gi_wp2_with fail;refine⟨trivial,(callsIn_wide.2 hN).mono ?_⟩;rintro e w1 ⟨rfl,iM⟩;have cV:bW w w1:=iM▸(jD _ w).alloc (kG _) _;have hblk:w1.1[w.1.size]?=some (.cells (qH 0 0 0 0 0 0 (sV none 0 0) (sV none 0 0) 1 none (sV none 0 0) (sV none 0 0) (sV none 0 0) (sV none 0 0)) 91 (0,0)):=by rw[iM];exact heap_alloc_new w _
 have HW1:Hid (w1.1.size=w.1.size+1):=by rw[iM];simp[Hid]
 clear iM hN;gi_wp2_with fail;generalize xG:w1.alloc (.cells #[pP w.1.size] 47)=w2;have hK:=aPe w.1.size w2;have HB2:Hid (bW w1 w2):=xG▸(jD _ w1).alloc (kG _) _;have hs2:w2.1[w1.1.size]?=some (.cells #[pP w.1.size] 47 (0,0)):=by rw[<-xG];exact heap_alloc_new w1 _
 refine⟨trivial,(callsIn_wide.2 hK).mono ?_⟩;rintro e w3 ⟨kb,rfl,hkb,hKi,sN⟩;have HB3:Hid (bW w2 w3):=sN;have HKi:Hid (iC w3 kb w.1.size):=hKi;clear sN hKi hK;gi_wp2_with fail;generalize hw4:w3.alloc (.cells #[.map (some kb)] 49)=w4;generalize hw5:w4.alloc (.cells #[.pointer none,sV none 0 0] 54)=w5;have hL:=aK8 text w5;refine⟨trivial,(callsIn_wide.2 hL).mono ?_⟩;rintro e w6 ⟨rfl,hw6⟩;have R4:Hid (bW w3 w4):=hw4▸(jD _ w3).alloc (kG _) _;have HB5:Hid (bW w4 w5):=hw5▸(jD _ w4).alloc (kG _) _;have HB6:Hid (bW w5 w6):=hw6▸(jD _ w5).alloc (kG _) _;have k4:w4.1[w3.1.size]?=some (.cells #[.map (some kb)] 49 (0,0)):=by rw[<-hw4];exact heap_alloc_new w3 _
 have k5:w5.1[w4.1.size]?=some (.cells #[.pointer none,sV none 0 0] 54 (0,0)):=by rw[<-hw5];exact heap_alloc_new w4 _
 have k6:w6.1[w5.1.size]?=some (.cells #[sT text] 9 (0,0)):=by rw[hw6];exact heap_alloc_new w5 _
 have z4:w4.1.size=w3.1.size+1:=by rw[<-hw4];simp
 have z5:w5.1.size=w4.1.size+1:=by rw[<-hw5];simp
 have z6:w6.1.size=w5.1.size+1:=by rw[hw6];simp
 have b12:=HB2.out;have b3:=HB3.out;have b23:bW w1 w3:=b12.trans (b3.mono b12.size);have b24:bW w1 w4:=b23.trans (R4.out.mono b23.size);have b25:bW w1 w5:=b24.trans (HB5.out.mono b24.size);have b26:bW w1 w6:=b25.trans (HB6.out.mono b25.size);have b36:bW w3 w6:=(R4.out.trans (HB5.out.mono R4.out.size)).trans (HB6.out.mono (R4.out.trans (HB5.out.mono R4.out.size)).size);have b46:bW w4 w6:=HB5.out.trans (HB6.out.mono HB5.out.size);have h1:=HW1.out;have h3:=b3.size;have hkl:=HKi.out.lt;have bFl:=bQ hs2;have HI0:Hid (bDs w w.1.size w.1.size w1.1.size w3.1.size kb (w3.1.size+1) w6.1.size [] w6):=by
  refine⟨[],iY.start,[w.1.size],[],aNl,sV none 0 0,.nil _,rfl,λo ho=>(by cases ho),iY.Small.start,?_⟩;exact {
      ses:=fV.first ((b26.block _ (bQ hblk)).trans hblk)
      bld:=⟨⟨_,.inl rfl,by rw[<-z4];exact(HB6.out.block _ (bQ k5)).trans k5⟩,World.ownsRow_nil _ _ _ _⟩
      kin:=HKi.out.keep (b36.block _ hkl)
      cs:=aN (((b3.trans (b36.mono b3.size)).block _ bFl).trans hs2) rfl
      cx:=aN ((b46.block _ (bQ k4)).trans k4) rfl
      bel:=cV.trans (b26.mono cV.size)
      b0:=kG _
      b1:=by omega
      l1:=by omega
      l2:=by omega
      l3:=by omega
      l4:=kG _
      lo:=by omega
      d1:=λc hc q=>by
       simp only[yF.vG,Value.ownBlock,Option.toList,List.append_nil,List.mem_cons,List.not_mem_nil,or_false]at hc q
       omega
      d2:=λc hc q=>by
       simp only[yF.vG,Value.ownBlock,Option.toList,List.mem_cons,List.not_mem_nil,or_false]at hc q
       omega }
 have hG:=aH4 2 w5.1.size text od w6 (bQ k6) (aN k6 rfl);have HH:Hid (w.1.size<=w6.1.size):=by show w.1.size<=w6.1.size;omega
 clear z4 z5 z6 h1 hw4 hw5 hw6 R4 HB5 HB6 k4 k5 k6 b12 b3 b23 b24 b25 b26 b36 b46 hblk hs2 hkb HKi HB2 HB3 hL h3 hkl bFl xG cV;gi_wp2_with fail;have hDW:cU w.1.size w:=hw;refine aB5 (α:=WG) rfl og (gf:=57) (lb:=#[pP w5.1.size]) rfl trivial (enters_of func57 oh rfl) hG (λ_=>rfl)
  (bDs w w.1.size w.1.size w1.1.size w3.1.size kb (w3.1.size+1) w6.1.size) ?_ ?_ HI0.out
  (λx=>{ tmps:=#[sT text,undef,sT ⟨#[]⟩,pP w1.1.size,pP w3.1.size,.pointer (some (aA (w3.1.size+1) 0)),sT x,sT text,iI text.size,.bool false,undef,undef,pP w.1.size,pP w.1.size,.map (some kb),sT text,.func (.func 57) #[] #[pP w5.1.size],sT x,undef,undef,undef,undef,undef,undef,undef],defers:=[] }) ?assign ?body ?done
 .rintro pre B1 B2 ⟨os,st,M,O,A,v,q1,q2,q3,q4,q5⟩ hb;exact⟨os,st,M,O,A,v,q1,q2,q3,q4,q5.below hb⟩
 .rintro pre B1 o ⟨os,st,M,O,A,v,q1,q2,q3,q4,q5⟩ _;exact⟨os,st,M,O,A,v,q1,q2,q3,q4,q5.put o⟩
 case assign=>intro l x W K hK;gi_wp2;exact hK
 case body=>
  rintro l pre x W ⟨os,st,M,O,A,v,q1,q2,q3,q4,q5⟩ aK5 hD1;have hxs:x∈nE text:=aK5.subset oe;have hx:=aH3 hxs;have hll:=aH2 text;have hpl:=aK5.length_le;rw[List.length_append,List.length_cons,List.length_nil]at hpl;have c1:=q5.cs;have c2:=q5.cx;have hA:=aJa q5.ses q5.kin (hDW.below q5.bel) q4 od x od;have HQ:Hid (jI iY.start pre os st/\os.length=pre.length/\(∀o∈os,o.size<=500)/\SI w w.1.size w.1.size w1.1.size w3.1.size kb (w3.1.size+1) w6.1.size st M O A pre.length v (nV os) W):=⟨q1,q2,q3,q5⟩;clear q1 q2 q3 q4 q5 hG aK5 hxs;gi_wp2_with fail;refine⟨trivial,(CallsIn.inRound l (callsIn_wide.2 hA)).mono ?_⟩;rintro e W1 ⟨pO,out,M',O',A',r1,r2,r3,rfl,r4,r5⟩;obtain⟨p1,p2,p3,p4⟩:=HQ.out;obtain⟨s1,s2,s3⟩:=p4.ans hD1 r4 r5;have bMf:=aD1 os p3;have hW1:=uM s1.bld (kH s1.lo s1.l4) out od;have HR:Hid (eQ st x pO out/\out.size<=500/\pO.Small):=⟨r1,r2,r3⟩;have HS1:Hid (SI w w.1.size w.1.size w1.1.size w3.1.size kb (w3.1.size+1) w6.1.size pO M' O' A' (pre.length+1) v (nV os) W1/\W.1.size<=W1.1.size/\W1.1[w6.1.size]?=W.1[w6.1.size]?/\W1.1[w6.1.size+1]?=W.1[w6.1.size+1]?):=⟨s1,r4.size,s2,s3⟩;have hos:os.length=pre.length:=p2;have pF:out.size<=500:=r2;clear p1 p2 p3 p4 s1 s2 s3 r1 r2 r3 r4 r5 hA c1 c2;gi_wp2_with fail;refine⟨trivial,(CallsIn.inRound l (callsIn_wide.2 hW1)).mono ?_⟩;rintro e W2 ⟨v2,rfl,iT,hf2⟩;obtain⟨t1,t2⟩:=HS1.out.1.wrote (by have:=HS1.out.2.1;omega) hf2 iT;have hW2:=uM t1.bld (kH t1.lo t1.l4) ⟨#[10]⟩ (by
   have:(⟨#[10]⟩:WG).size=1:=rfl
   have h3:out.data.toList.length=out.size:=Array.length_toList
   rw[List.length_append]
   omega)
  have HS2:Hid (SI w w.1.size w.1.size w1.1.size w3.1.size kb (w3.1.size+1) w6.1.size pO M' O' A' (pre.length+1) v2 (nV os++out.data.toList) W2/\W1.1.size<=W2.1.size/\W2.1[w6.1.size]?=W1.1[w6.1.size]?/\W2.1[w6.1.size+1]?=W1.1[w6.1.size+1]?):=⟨t1,hf2.size,t2⟩;clear t1 t2 iT hf2 hW1;gi_wp2_with fail;refine⟨trivial,(CallsIn.inRound l (callsIn_wide.2 hW2)).mono ?_⟩;rintro e W3 ⟨v3,rfl,sN,hf3⟩;have HS3:=HS2.out.1.wrote (by have:=HS1.out.2.1;have:=HS2.out.2.1;omega) hf3 sN;have HF3:Hid (W2.1.size<=W3.1.size/\SI w w.1.size w.1.size w1.1.size w3.1.size kb (w3.1.size+1) w6.1.size pO M' O' A' (pre.length+1) v3 ((nV os++out.data.toList)++[10]) W3/\W3.1[w6.1.size]?=W2.1[w6.1.size]?/\W3.1[w6.1.size+1]?=W2.1[w6.1.size+1]?):=⟨hf3.size,HS3⟩;clear HS3 sN hf3 hW2;gi_wp2_with fail;obtain⟨z1,z2,z3,z4⟩:=HS1.out;obtain⟨y1,y2,y3,y4⟩:=HS2.out;obtain⟨x1,x2,x3,x4⟩:=HF3.out;obtain⟨p1,p2,p3,p4⟩:=HQ.out;obtain⟨r1,r2,r3⟩:=HR.out;refine⟨od,x3.trans (y3.trans z3),(x4.trans (y4.trans z4)).trans (Array.getElem?_eq_getElem hD1),?_⟩;refine⟨os++[out],pO,M',O',A',v3,p1.snoc r1,by simp[p2],λo ho=>?_,r3,?_⟩
  .rcases kN ho with q|q
   .exact p3 o q
   .rw[List.mem_singleton.1 q];exact r2
  .rw[aLy,List.length_append];exact x2
 case done=>rintro W ⟨os,st,M,O,A,v,q1,q2,q3,q4,q5⟩ hdf;have hS:=aLv q5.bld q5.b1 (kH q5.lo q5.l4);have HQ:Hid (jI iY.start (nE text) os st/\(∀o∈os,o.size<=500)/\bW w W):=⟨q1,q3,q5.bel⟩;have HDf:Hid (W.1[w6.1.size]?=some (.deferred (some []))/\w.1.size<=w6.1.size):=⟨hdf,HH.out⟩;clear q1 q2 q3 q4 q5 hG hdf;gi_wp2_with fail;refine⟨trivial,(callsIn_wide.2 hS).mono ?_⟩;rintro e W1 ⟨rfl,hb,hdd⟩;have HB:Hid (Below w.1.size W W1):=hb;have HK:Hid (W1.1[w6.1.size]?=some (.deferred (some []))):=hdd _ _ HDf.out.1;clear hb hdd;gi_wp2_with fail;refine⟨oe,.inl ⟨_,_,rfl,run_takeDeferred HK.out,?_⟩⟩;refine⟨_,results_tmp rfl _ _ _,os,st,HQ.out.1,HQ.out.2.1,rfl,?_⟩;have hbb:=HQ.out.2.2.trans HB.out;exact⟨hbb.os,hbb.tape,hbb.output,by simpa[World.putObj]using hbb.size,λc hc=>(tB (by have:=HDf.out.2;omega)).trans (hbb.block c hc)⟩
