import Derived.Test.YthccoinonjoleaaGreatDoorZPCluF1
import Derived.BigQuiet
import Derived.Deep.AppendLies
import Derived.Deep.RegionHeld3
import Derived.Lib.SliceRun
import Derived.Maps.Own
import Derived.OwnWalk
import Derived.StringKeys
namespace Go.Proofs.YthccoinonjoleaaGreatDoor
open Go.RowKit
set_option maxRecDepth 100000
set_option maxHeartbeats 16000000
section
section
variable {w:World} {O:List Nat} {C:Nat} {p:PlanN} {fa:Int} {cs:List Int} {s:ClS} {rd:Int} {B:Nat} {m:CMap}
theorem cput_bad (h:Cl w O C p fa cs s rd B m) (k:Int) (d:ByteArray) (hk:¬ (0≤k∧k<p.nl)) :
  Calls Tryz.prog 51 #[.pointer (some ⟨C,0,none⟩),.int .i64 k,.string d] w fun e w'=>e=.returned (errV 2)∧Below w.heap.size w w':=by
 have hi:=cisLink_any C m.la p.nl m.lcap k w h.base.c14
 rw [decide_eq_false hk] at hi
 clear h hk
 go_enter Tryz.func51,Tryz.ntmps51
 go_wp2_with fail
 refine hi.mono ?_
 rintro e w1 ⟨rfl,hw⟩
 replace hw:=hw.symm
 subst hw
 clear hi
 go_wp2
 go_ret
 exact ⟨rfl,Below.refl _ _⟩
theorem cput_any (h:Cl w O C p fa cs s rd B m) (k:Nat) (d:ByteArray) (hk:k<p.nl) (hB:B≤10000000) :
  Calls Tryz.prog 51 #[.pointer (some ⟨C,0,none⟩),.int .i64 k,.string d] w fun e w'=>e=.returned (errV (s.putK p k d))∧∃ O',Foot O O' w w'∧Cl w' O' C p fa cs (s.put p k d) rd (B+1) m:=by
 have hi:=cisLink_any C m.la p.nl m.lcap k w h.base.c14
 rw [decide_eq_true (by omega)] at hi
 obtain ⟨OS,hS,⟨hS1,hS2,hS3⟩,hback⟩:=h.sdr hk
 have hp:=sdrPut hS d (by omega)
 have HBK:Hid (∀ (w':World) (OS':List Nat),Sdr w' OS' (m.S k) (p.lb k) (p.lq k) (putAll (putK ((s.links k).all.length - (s.links k).went) (p.lq k) d) (s.links k).all d) (s.links k).went (s.links k).last (s.links k).now→Foot OS OS' w w'→∃ O',Foot O O' w w'∧Cl w' O' C p fa cs (s.put p k d) rd (B+1) m):=fun w' OS' q1 q2=>by
  refine hback w' OS' (B+1) ⟨_,_,_,_⟩ q1 q2 ⟨?_,hS2,?_⟩ (by omega)
  ·show (putAll _ (s.links k).all d).length≤B+1
   unfold putAll
   split
   ·simp only [List.length_append,List.length_cons,List.length_nil];omega
   ·omega
  ·show ∀ d'∈putAll _ (s.links k).all d,d'.size≤40
   intro d' hd'
   unfold putAll at hd'
   by_cases hK:putK ((s.links k).all.length - (s.links k).went) (p.lq k) d=0
   ·rw [if_pos hK] at hd'
    have h1:¬ 40<d.size:=fun q=>by unfold putK at hK;rw [if_pos q] at hK;cases hK
    rcases List.mem_append.1 hd' with q | q
    ·exact hS3 d' q
    ·simp only [List.mem_cons,List.not_mem_nil,or_false] at q
     subst q;omega
   ·rw [if_neg hK] at hd'
    exact hS3 d' hd'
 have HK:Hid (s.putK p k d=putK ((s.links k).all.length - (s.links k).went) (p.lq k) d):=rfl
 rw [HK.out]
 generalize putK ((s.links k).all.length - (s.links k).went) (p.lq k) d=K at *
 obtain ⟨la1,la2⟩:=h.base.la (by omega)
 obtain ⟨l0,l1,l2⟩:=h.base.lk k hk
 have c14:=h.base.c14
 rw [la1] at c14
 have hll:=h.base.lx _ la2
 have hlC:=h.base.lc
 have kk:(k:Int)<(p.nl:Int):=by omega
 generalize errV K=EV at *
 clear hback hS hS1 hS2 hS3 h la1 la2 HK
 go_enter Tryz.func51,Tryz.ntmps51
 go_wp2_with fail
 refine hi.mono ?_
 rintro e w1 ⟨rfl,hw⟩
 replace hw:=hw.symm
 subst hw
 clear hi
 go_wp2_with fail
 refine hp.mono ?_
 rintro e w1 ⟨rfl,OS',q1,q2⟩
 have HD:=HBK.out w1 OS' q1 q2
 clear HBK q1 q2 hp c14 l0 l1 l2
 go_wp2
 go_ret
 exact ⟨rfl,HD⟩
theorem crecv_node (h:Cl w O C p fa cs s rd B m) (j k:Int) (hj:¬ (0≤j∧j<p.nodes)) :
  Calls Tryz.prog 53 #[.pointer (some ⟨C,0,none⟩),.int .i64 j,.int .i64 k] w fun e w'=>e=.returned (.tuple #[.string ByteArray.empty,errV 2])∧Below w.heap.size w w':=by
 have hi:=cisNode_any C p.nodes j w h.base.c0
 rw [decide_eq_false hj] at hi
 clear h hj
 go_enter Tryz.func53,Tryz.ntmps53
 go_wp2_with fail
 refine hi.mono ?_
 rintro e w1 ⟨rfl,hw⟩
 replace hw:=hw.symm
 subst hw
 clear hi
 go_wp2
 go_ret2
 exact ⟨rfl,Below.refl _ _⟩
theorem crecv_link (h:Cl w O C p fa cs s rd B m) (j k:Int) (hj:0≤j∧j<p.nodes) (hk:¬ (0≤k∧k<p.nl)) :
  Calls Tryz.prog 53 #[.pointer (some ⟨C,0,none⟩),.int .i64 j,.int .i64 k] w fun e w'=>e=.returned (.tuple #[.string ByteArray.empty,errV 2])∧Below w.heap.size w w':=by
 have hi:=cisNode_any C p.nodes j w h.base.c0
 rw [decide_eq_true hj] at hi
 have hl:=cisLink_any C m.la p.nl m.lcap k w h.base.c14
 rw [decide_eq_false hk] at hl
 clear h hj hk
 go_enter Tryz.func53,Tryz.ntmps53
 go_wp2_with fail
 refine hi.mono ?_
 rintro e w1 ⟨rfl,hw⟩
 replace hw:=hw.symm
 subst hw
 clear hi
 go_wp2_with fail
 refine hl.mono ?_
 rintro e w1 ⟨rfl,hw⟩
 replace hw:=hw.symm
 subst hw
 clear hl
 go_wp2
 go_ret2
 exact ⟨rfl,Below.refl _ _⟩
theorem crecv_end (h:Cl w O C p fa cs s rd B m) (j k:Nat) (hj:j<p.n) (hnn:p.nodes=p.n) (hk:k<p.nl) (hb:bitI (p.lt k) j=false) :
  Calls Tryz.prog 53 #[.pointer (some ⟨C,0,none⟩),.int .i64 j,.int .i64 k] w fun e w'=>e=.returned (.tuple #[.string ByteArray.empty,errV 2])∧Below w.heap.size w w':=by
 have hi:=cisNode_any C p.nodes j w h.base.c0
 rw [decide_eq_true (by omega)] at hi
 have hl:=cisLink_any C m.la p.nl m.lcap k w h.base.c14
 rw [decide_eq_true (by omega)] at hl
 obtain ⟨la1,la2⟩:=h.base.la (by omega)
 obtain ⟨l0,l1,l2⟩:=h.base.lk k hk
 obtain ⟨e1,e2⟩:=h.base.en k hk
 have e3:=e2 j hj
 rw [hb,if_neg (by decide)] at e3
 have c14:=h.base.c14
 rw [la1] at c14
 have hll:=h.base.lx _ la2
 have hel:=h.base.lx _ e1
 have hlC:=h.base.lc
 have kk:(k:Int)<(p.nl:Int):=by omega
 have jj:(j:Int)<(p.n:Int):=by omega
 generalize p.n=n at *
 clear h la1 la2 e2 hb
 go_enter Tryz.func53,Tryz.ntmps53
 go_wp2_with fail
 refine hi.mono ?_
 rintro e w1 ⟨rfl,hw⟩
 replace hw:=hw.symm
 subst hw
 clear hi
 go_wp2_with fail
 refine hl.mono ?_
 rintro e w1 ⟨rfl,hw⟩
 replace hw:=hw.symm
 subst hw
 clear hl
 go_wp2
 go_ret2
 exact ⟨rfl,Below.refl _ _⟩
theorem crecv_bad (h:Cl w O C p fa cs s rd B m) (hnn:p.nodes=p.n) (j k:Int) (hb:¬ ((0≤j∧j<p.nodes)∧(0≤k∧k<p.nl)∧bitI (p.lt k.toNat) j.toNat=true)) :
  Calls Tryz.prog 53 #[.pointer (some ⟨C,0,none⟩),.int .i64 j,.int .i64 k] w fun e w'=>e=.returned (.tuple #[.string ByteArray.empty,errV 2])∧Below w.heap.size w w':=by
 by_cases h1:0≤j∧j<p.nodes
 ·by_cases h2:0≤k∧k<p.nl
  ·obtain ⟨j,rfl⟩:∃ n:Nat,j=n:=⟨j.toNat,by omega⟩
   obtain ⟨k,rfl⟩:∃ n:Nat,k=n:=⟨k.toNat,by omega⟩
   refine crecv_end h j k (by omega) hnn (by omega) ?_
   cases q:bitI (p.lt k) j
   ·rfl
   ·exact absurd ⟨h1,h2,q⟩ hb
  ·exact crecv_link h j k h1 h2
 ·exact crecv_node h j k h1
theorem crecv_any (h:Cl w O C p fa cs s rd B m) (j k:Nat) (hj:j<p.n) (hnn:p.nodes=p.n) (hk:k<p.nl) (hb:bitI (p.lt k) j=true) :
  Calls Tryz.prog 53 #[.pointer (some ⟨C,0,none⟩),.int .i64 j,.int .i64 k] w fun e w'=>e=.returned (.tuple #[.string (recvD (s.ports k j)),errV (recvK (s.ports k j))])∧∃ O',Foot O O' w w'∧Cl w' O' C p fa cs (s.recv k j) rd B m:=by
 have hi:=cisNode_any C p.nodes j w h.base.c0
 rw [decide_eq_true (by omega)] at hi
 have hl:=cisLink_any C m.la p.nl m.lcap k w h.base.c14
 rw [decide_eq_true (by omega)] at hl
 obtain ⟨OQ,lost,hQ,hQ1,hQ2,hback⟩:=h.que hk hj hb
 have hp:=queReceive hQ (by omega)
 have HBK:Hid (∀ (w':World) (OQ':List Nat),Que w' OQ' (m.Q k j) 16 (s.ports k j).tail lost→Foot OQ OQ' w w'→∃ O',Foot O O' w w'∧Cl w' O' C p fa cs (s.recv k j) rd B m):=fun w' OQ' q1 q2=>hback w' OQ' B (s.ports k j).tail lost q1 q2 hQ1 (by rw [List.length_tail];omega) (Nat.le_refl _)
 obtain ⟨la1,la2⟩:=h.base.la (by omega)
 obtain ⟨l0,l1,l2⟩:=h.base.lk k hk
 obtain ⟨e1,e2⟩:=h.base.en k hk
 obtain ⟨d1,d2,d3⟩:=h.base.dn k j hk hj hb
 have e3:=e2 j hj
 rw [hb,if_pos rfl] at e3
 have c14:=h.base.c14
 rw [la1] at c14
 have hll:=h.base.lx _ la2
 have hel:=h.base.lx _ e1
 have hdl:=h.base.lx _ d1
 have hlC:=h.base.lc
 have kk:(k:Int)<(p.nl:Int):=by omega
 have jj:(j:Int)<(p.n:Int):=by omega
 generalize recvD (s.ports k j)=RD at *
 generalize errV (recvK (s.ports k j))=RK at *
 obtain ⟨n,hn⟩:∃ n,p.n=n:=⟨_,rfl⟩
 rw [hn] at l2 jj
 clear hback hQ hQ1 hQ2 h la1 la2 e2 d1
 go_enter Tryz.func53,Tryz.ntmps53
 go_wp2_with fail
 refine hi.mono ?_
 rintro e w1 ⟨rfl,hw⟩
 replace hw:=hw.symm
 subst hw
 clear hi
 go_wp2_with fail
 refine hl.mono ?_
 rintro e w1 ⟨rfl,hw⟩
 replace hw:=hw.symm
 subst hw
 clear hl
 go_wp2_with fail
 refine hp.mono ?_
 rintro e w1 ⟨rfl,OQ',q1,q2⟩
 have HD:=HBK.out w1 OQ' q1 q2
 clear HBK q1 q2 hp c14 l0 l1 l2
 go_wp2
 go_ret2
 exact ⟨rfl,HD⟩
end
end
section
theorem sdrNew_full (fr tq bag queue:Int) (w:World) (hb:(1≤bag∧bag≤1099511627776)∧1≤queue∧queue≤16) :
  Calls Tryz.prog 152 #[.agg #[.int .i64 fr,.int .i64 tq,.int .i64 bag,.int .i64 queue]] w fun e w'=>∃ O P,e=.returned (.tuple #[.pointer (some ⟨P,0,none⟩),.nilIface])∧Sdr w' O P bag queue [] 0 0 0∧Below w.heap.size w w'∧∀ c,c∈O→w.heap.size≤c:=by
 have k1:decide (bag<1)=false:=decide_eq_false (by omega)
 have k2:decide (1099511627776<bag)=false:=decide_eq_false (by omega)
 have k3:decide (queue<1)=false:=decide_eq_false (by omega)
 have k4:decide (16<queue)=false:=decide_eq_false (by omega)
 clear hb
 have hR:=fun (V:World)=>psdr_new (w:=V) (bag:=bag) (queue:=queue)
 have HR:Hid _:=hR
 clear hR
 go_enter Tryz.func152,Tryz.ntmps152
 go_wp2
 have fin:=HR.out (w.alloc (.cells #[.int .i64 fr,.int .i64 tq,.int .i64 bag,.int .i64 queue] 84))
 rw [show (w.alloc (.cells #[.int .i64 fr,.int .i64 tq,.int .i64 bag,.int .i64 queue] 84)).heap.size=w.heap.size+1 by simp] at fin
 go_ret2
 exact ⟨_,_,rfl,fin,((Below.refl _ _).alloc (Nat.le_refl _) _).alloc (by simp) _,fun c hc=>by
  simp only [List.mem_cons,List.not_mem_nil,or_false] at hc
  omega⟩
theorem Tryz.infoEnd:(Tryz.prog.info? 142).map (fun i=>(i.zero,i.size,i.bytes))=some (some (.pointer none),1,8):=by kernel_rfl
theorem two_boxesN (w:World) (a b c d x y z:Value) (t u:TypeId) (V:World) (hV:(w.alloc (.cells #[a,b,c,d] t)).alloc (.cells #[x,y,z] u)=V) :
  (V.cell? ⟨w.heap.size,0,none⟩=some a∧V.cell? ⟨w.heap.size,1,none⟩=some b∧V.cell? ⟨w.heap.size,2,none⟩=some c∧V.cell? ⟨w.heap.size,3,none⟩=some d)∧(V.cell? ⟨w.heap.size+1,0,none⟩=some x∧V.cell? ⟨w.heap.size+1,1,none⟩=some y∧V.cell? ⟨w.heap.size+1,2,none⟩=some z)∧(∀ i,V.frozen? ⟨w.heap.size+1,i,none⟩=false)∧Below w.heap.size w V∧V.heap.size=w.heap.size+2:=by
 subst hV
 have hs:(w.alloc (.cells #[a,b,c,d] t)).heap.size=w.heap.size+1:=by simp
 have k:Below (w.heap.size+1) (w.alloc (.cells #[a,b,c,d] t)) ((w.alloc (.cells #[a,b,c,d] t)).alloc (.cells #[x,y,z] u)):=(Below.refl _ _).alloc (by omega) _
 have c1:∀ i,((w.alloc (.cells #[a,b,c,d] t)).alloc (.cells #[x,y,z] u)).cell? ⟨w.heap.size,i,none⟩=(w.alloc (.cells #[a,b,c,d] t)).cell? ⟨w.heap.size,i,none⟩:=fun i=>k.cell (p:=⟨w.heap.size,i,none⟩) (by simp)
 refine ⟨⟨(c1 0).trans (by simp),(c1 1).trans (by simp),(c1 2).trans (by simp),(c1 3).trans (by simp)⟩,⟨?_,?_,?_⟩,fun i=>?_,((Below.refl _ _).alloc (Nat.le_refl _) _).alloc (by simp) _,by simp⟩
 ·rw [← hs];simp
 ·rw [← hs];simp
 ·rw [← hs];simp
 ·rw [← hs];simp
theorem newLink_any (kk n:Nat) (fr tq bag queue:Int) (w:World) (hn:n≤16) (hb:(1≤bag∧bag≤1099511627776)∧1≤queue∧queue≤16) :
  Calls Tryz.prog 115 #[.agg #[.int .i64 fr,.int .i64 tq,.int .i64 bag,.int .i64 queue],.int .i64 n] w fun e w'=>Below w.heap.size w w'∧∃ N S E D R Q,e=.returned (.tuple #[.agg #[.int .i64 fr,.pointer (some ⟨S,0,none⟩),.slice (some ⟨E,0,none⟩) n n],.nilIface])∧LinkNew w.heap.size w' N kk n n tq bag queue S E D R Q:=by
 obtain ⟨i0,hi,hz0,hz1,hz2⟩:=info_parts Tryz.infoEnd
 have hmk:=fun (v:World)=>run_makeSlice (P:=Tryz.prog) v 138 142 i0 _ Tryz.underlying138 hi hz0 .i64 .i64 (n:Int) (n:Int) (by omega) (Int.le_refl _) (by rw [hz1];simp;omega) (by rw [hz2];omega) (by omega)
 rw [Int.toNat_natCast,hz1,Nat.mul_one] at hmk
 clear hi hz0 hz1 hz2
 obtain ⟨V,hV⟩:∃ V,(w.alloc (.cells #[.int .i64 fr,.int .i64 tq,.int .i64 bag,.int .i64 queue] 84)).alloc (.cells #[.int .i64 0,.pointer none,.slice none 0 0] 140)=V:=⟨_,rfl⟩
 obtain ⟨⟨l0,l1,l2,l3⟩,⟨r0,r1,r2⟩,rz,hBV,hVs⟩:=two_boxesN w _ _ _ _ _ _ _ _ _ V hV
 have hs:=sdrNew_full fr tq bag queue V hb
 have l0w:w.heap.size<V.heap.size:=by omega
 have l1w:w.heap.size+1<V.heap.size:=by omega
 have HBV:Hid (Below w.heap.size w V∧V.heap.size=w.heap.size+2):=⟨hBV,hVs⟩
 obtain ⟨L,hL⟩:∃ L,w.heap.size=L:=⟨_,rfl⟩
 have HLL:Hid (w.heap.size=L):=hL
 have HLR:Hid (V.cell? ⟨w.heap.size,0,none⟩=some (.int .i64 fr)∧V.cell? ⟨w.heap.size,1,none⟩=some (.int .i64 tq)∧(V.cell? ⟨w.heap.size+1,0,none⟩=some (.int .i64 0)∧V.cell? ⟨w.heap.size+1,1,none⟩=some (.pointer none)∧V.cell? ⟨w.heap.size+1,2,none⟩=some (.slice none 0 0))∧∀ i,V.frozen? ⟨w.heap.size+1,i,none⟩=false):=⟨l0,l1,⟨r0,r1,r2⟩,rz⟩
 have HMK:Hid _:=hmk
 clear hmk hb hVs hBV r0 r1 r2 rz hL
 go_enter Tryz.func115,Tryz.ntmps115
 go_wp2_with fail
 refine hs.mono ?_
 rintro e w1 ⟨OS,S,rfl,hSd,hB1,hlo⟩
 have hmk1:=HMK.out w1
 obtain ⟨w2,hw2⟩:∃ w2,w1.alloc (.cells (madeCells #[.pointer none] n) 142)=w2:=⟨_,rfl⟩
 have HF:=LinkNew.first hSd hlo hB1 hw2 kk tq (fun _=>0) (fun _=>0) (fun _=>0)
 have HF0:Hid (∃ D R Q N,LinkNew V.heap.size w2 N kk n 0 tq bag queue S w1.heap.size D R Q∧Below V.heap.size V w2):=by
  obtain ⟨⟨N,hN⟩,hB⟩:=HF
  exact ⟨_,_,_,N,hN,hB⟩
 rw [show (Value.pointer none).cells=#[.pointer none] from rfl,hw2] at hmk1
 clear hs HF hSd hlo hB1 hw2 l0 l1 l2 l3 hV HMK
 go_wp2_with fail
 clear hmk1
 generalize w1.heap.size=E at *
 go_loopw [25] (fun t wr=>∃ J:Nat,J≤n∧t=.int .i64 J∧Hid (∃ D R Q N,LinkNew V.heap.size wr N kk n J tq bag queue S E D R Q∧Below V.heap.size V wr)) (fun t _=>n - (intOf t).toNat)
 case atStart=>exact ⟨0,Nat.zero_le _,rfl,HF0⟩
 case round =>
  obtain ⟨J,hJ,rfl,HI⟩:=hrel
  clear HF0
  by_cases hlt:J<n
  ·have jj:(J:Int)<(n:Int):=by omega
   have y1:=(HI.out.choose_spec.choose_spec.choose_spec.choose_spec.2.cell (p:=⟨w.heap.size,1,none⟩) l0w).trans HLR.out.2.1
   have hl2:w.heap.size<wr.heap.size:=Nat.lt_of_lt_of_le l0w HI.out.choose_spec.choose_spec.choose_spec.choose_spec.2.size
   have hhas:=chas_any tq J (by omega) wr
   by_cases hbit:bitI tq J=true
   ·rw [hbit] at hhas
    have hque:=queNew_good 16 wr (by omega)
    go_wp2_with fail
    refine hhas.mono ?_
    rintro e w' ⟨rfl,hw⟩
    rw [hw]
    clear hw
    go_wp2_with fail
    refine hque.mono ?_
    rintro e v1 ⟨OQ,PQ,rfl,hQ,hB1,hlq⟩
    have hrcv:=rcvNew v1
    clear hque hhas y1
    go_wp2_with fail
    refine hrcv.mono ?_
    rintro e v2 ⟨OR,PR,rfl,hR,hB2,hlr⟩
    obtain ⟨D,R,Q,N,hN,hBB⟩:=HI.out
    obtain ⟨v3,hv3⟩:∃ v3,v2.alloc (.cells #[.pointer (some ⟨PR,0,none⟩),.pointer (some ⟨PQ,0,none⟩)] 146)=v3:=⟨_,rfl⟩
    have hst:=hN.step hbit hBB.size hBB hB1 hQ hlq hB2 hR hlr hv3 rfl
    have hE:=hN.fam.lt _ _ hN.eX
    have hk3:Below wr.heap.size wr v3:=by rw [← hv3];exact (hB1.trans (hB2.mono hB1.size)).alloc (by have:=hB1.size;have:=hB2.size;omega) _
    have g:=(hk3.cell (p:=⟨E,J,none⟩) hE).trans (hN.en J hlt)
    have gz:=(hk3.frozen (p:=⟨E,J,none⟩) hE).trans (hN.zE J)
    have hE3:E<v3.heap.size:=Nat.lt_of_lt_of_le hE hk3.size
    have HST:Hid (∃ D R Q N,LinkNew V.heap.size (v3.setCell ⟨E,J,none⟩ (.pointer (some ⟨v2.heap.size,0,none⟩))) N kk n (J+1) tq bag queue S E D R Q∧Below V.heap.size V (v3.setCell ⟨E,J,none⟩ (.pointer (some ⟨v2.heap.size,0,none⟩)))):=by
     obtain ⟨⟨N',h1⟩,h2⟩:=hst
     exact ⟨_,_,_,N',h1,h2⟩
    clear hst hk3 hE hN hBB hB1 hQ hlq hB2 hR hlr hrcv HI
    go_wp2
    go_roundw
    case rel=>exact ⟨J+1,by omega,by go_num,HST⟩
    case measure=>simp [intOf];omega
   ·have hbf:bitI tq J=false:=by simpa using hbit
    rw [hbf] at hhas
    have HN:Hid (∃ D R Q N,LinkNew V.heap.size wr N kk n (J+1) tq bag queue S E D R Q∧Below V.heap.size V wr):=by
     obtain ⟨D,R,Q,N,h1,h2⟩:=HI.out
     exact ⟨D,R,Q,N,h1.skip hbf,h2⟩
    clear HI
    go_wp2_with fail
    refine hhas.mono ?_
    rintro e w' ⟨rfl,hw⟩
    rw [hw]
    clear hw
    go_wp2
    go_roundw
    case rel=>exact ⟨J+1,by omega,by go_num,HN⟩
    case measure=>simp [intOf];omega
  ·have hJn:J=n:=by omega
   have kj:decide (J<n)=false:=decide_eq_false (by omega)
   obtain ⟨D,R,Q,N,hN,hBB⟩:=HI.out
   rw [hJn] at hN
   have x0:=(hBB.cell (p:=⟨w.heap.size,0,none⟩) l0w).trans HLR.out.1
   have y0:=(hBB.cell (p:=⟨w.heap.size+1,0,none⟩) l1w).trans HLR.out.2.2.1.1
   have y1:=(hBB.cell (p:=⟨w.heap.size+1,1,none⟩) l1w).trans HLR.out.2.2.1.2.1
   have y2:=(hBB.cell (p:=⟨w.heap.size+1,2,none⟩) l1w).trans HLR.out.2.2.1.2.2
   have z0:=(hBB.frozen (p:=⟨w.heap.size+1,0,none⟩) l1w).trans (HLR.out.2.2.2 0)
   have z1:=(hBB.frozen (p:=⟨w.heap.size+1,1,none⟩) l1w).trans (HLR.out.2.2.2 1)
   have z2:=(hBB.frozen (p:=⟨w.heap.size+1,2,none⟩) l1w).trans (HLR.out.2.2.2 2)
   have h0r:w.heap.size<wr.heap.size:=Nat.lt_of_lt_of_le l0w hBB.size
   have h1r:w.heap.size+1<wr.heap.size:=Nat.lt_of_lt_of_le l1w hBB.size
   have HD:Hid (LinkNew V.heap.size wr N kk n n tq bag queue S E D R Q∧Below V.heap.size V wr):=⟨hN,hBB⟩
   clear HI hN hBB hlt
   go_wp2
   obtain ⟨hN,hBB⟩:=HD.out
   have hB0:=HBV.out
   obtain ⟨W3,hW3⟩:∃ W3,((wr.setCell ⟨w.heap.size+1,0,none⟩ (.int .i64 fr)).setCell ⟨w.heap.size+1,1,none⟩ (.pointer (some ⟨S,0,none⟩))).setCell ⟨w.heap.size+1,2,none⟩ (.slice (some ⟨E,0,none⟩) n n)=W3:=⟨_,rfl⟩
   have q0:W3.cell? ⟨w.heap.size+1,0,none⟩=some (.int .i64 fr):=by rw [← hW3];exact (cell_other (.inr (by decide))).trans ((cell_other (.inr (by decide))).trans (cell_set y0))
   have q1:W3.cell? ⟨w.heap.size+1,1,none⟩=some (.pointer (some ⟨S,0,none⟩)):=by rw [← hW3];exact (cell_other (.inr (by decide))).trans (cell_set ((cell_other (.inr (by decide))).trans y1))
   have q2:W3.cell? ⟨w.heap.size+1,2,none⟩=some (.slice (some ⟨E,0,none⟩) n n):=by rw [← hW3];exact cell_set ((cell_other (.inr (by decide))).trans ((cell_other (.inr (by decide))).trans y2))
   have hT:Turns (w.heap.size+1) (w.heap.size+1) wr W3:=by rw [← hW3];exact (((Turns.refl _ _ wr).set (p:=⟨w.heap.size+1,0,none⟩) (.inl rfl) _).set (p:=⟨w.heap.size+1,1,none⟩) (.inl rfl) _).set (p:=⟨w.heap.size+1,2,none⟩) (.inl rfl) _
   rw [hW3]
   have hBw:Below w.heap.size w wr:=hB0.1.trans (hBB.mono hB0.1.size)
   refine bodyPost_ret (v:=.tuple #[.agg #[.int .i64 fr,.pointer (some ⟨S,0,none⟩),.slice (some ⟨E,0,none⟩) n n],.nilIface]) (by simp [results,Tryz.results115,go_sem,q0,q1,q2]) rfl ⟨hBw.trans (hT.below hBw.size (by omega) (by omega)),N,S,E,D,R,Q,rfl,(hN.same hT.size (fun c h1 h2=>hT.block c h2 (by omega) (by omega))).low (by omega)⟩
end
section
theorem Tryz.keyedS:Maps.Keyed Tryz.prog 9:=Maps.string_keyed Tryz.underlying9
def Kd.val (k:Kd) (S:Nat):Value:=kindV k.m k.more k.text k.when (.func (.func k.fn) #[.pointer (some ⟨S,0,none⟩)] #[])
def KindsAt (w:World) (b S:Nat):Prop:=∃ f,MapIs Tryz.prog 9 w b f∧∀ x,f (.string x)=(kdOf x).map fun k=>k.val S
theorem KindsAt.lt {w:World} {b S:Nat} (h:KindsAt w b S):b<w.heap.size:=by
 obtain ⟨f,h,_⟩:=h
 exact h.lt
theorem KindsAt.keep {w w':World} {b S:Nat} (h:KindsAt w b S) (e:w'.heap[b]? = w.heap[b]?):KindsAt w' b S:=by
 obtain ⟨f,h,r⟩:=h
 exact ⟨f,h.keep e,r⟩
def kindZ:Value:=kindV 0 false false 0 .nilFunc
theorem KindsAt.look {w:World} {b S:Nat} (h:KindsAt w b S) (x:ByteArray) (hx:x.size≤20000) :
  (Instr.lookup 28 (.map (some b)) (.string x) true).run Tryz.prog w=.ok (.tuple #[((kdOf x).map fun k=>k.val S).getD kindZ,.bool (kdOf x).isSome]) w:=by
 obtain ⟨f,h,r⟩:=h
 have:=h.look (e:=59) (t:=28) Tryz.keyedS Tryz.underlying28 (z:=kindZ) (Tryz.zeroValue59 w) (x:=.string x) (Go.WideMaps.keyOf_string_mk Tryz.underlying9 (s:=x) (by unfold maxLen;omega)) true
 rw [r x] at this
 simpa using this
theorem Tryz.mfD (fn:Fn) (first cap:Array Value) (w:World):(Instr.makeFunc fn first cap).run Tryz.prog w=.ok (.func fn first cap) w:=rfl
theorem str_ne {a b:ByteArray} (h:a≠b):Value.string a≠.string b:=fun e=>h (by injection e)
theorem kinds_any (S:Nat) (w:World):Calls Tryz.prog 7 #[.pointer (some ⟨S,0,none⟩)] w fun e w'=>∃ b,e=.returned (.map (some b))∧w.heap.size≤b∧KindsAt w' b S∧Below w.heap.size w w':=by
 have hmf:=Tryz.mfD
 have hmm:=@run_makeMap Tryz.prog
 have m0:=MapIs.new Tryz.prog 9 w
 generalize hV:w.alloc (.map #[] 0)=V0 at m0
 have hB:Below w.heap.size w V0:=hV▸(Below.refl _ w).alloc (Nat.le_refl _) _
 obtain ⟨V1,f1,e1,m1,p1,t1⟩:=m0.put (t:=28) (e:=59) (x:=.string ⟨#[112,108,97,110]⟩) (v:=.agg #[.int .i64 6,.bool false,.bool false,.int .i64 1,.func (.func 13) #[.pointer (some ⟨S,0,none⟩)] #[]]) Tryz.keyedS Tryz.underlying28 (Go.WideMaps.keyOf_string_mk Tryz.underlying9 (by unfold maxLen;decide))
 obtain ⟨V2,f2,e2,m2,p2,t2⟩:=m1.put (t:=28) (e:=59) (x:=.string ⟨#[115,108,111,116]⟩) (v:=.agg #[.int .i64 3,.bool false,.bool false,.int .i64 1,.func (.func 14) #[.pointer (some ⟨S,0,none⟩)] #[]]) Tryz.keyedS Tryz.underlying28 (Go.WideMaps.keyOf_string_mk Tryz.underlying9 (by unfold maxLen;decide))
 obtain ⟨V3,f3,e3,m3,p3,t3⟩:=m2.put (t:=28) (e:=59) (x:=.string ⟨#[108,105,110,107]⟩) (v:=.agg #[.int .i64 4,.bool false,.bool false,.int .i64 1,.func (.func 15) #[.pointer (some ⟨S,0,none⟩)] #[]]) Tryz.keyedS Tryz.underlying28 (Go.WideMaps.keyOf_string_mk Tryz.underlying9 (by unfold maxLen;decide))
 obtain ⟨V4,f4,e4,m4,p4,t4⟩:=m3.put (t:=28) (e:=59) (x:=.string ⟨#[98,121,116,101,115]⟩) (v:=.agg #[.int .i64 0,.bool false,.bool false,.int .i64 0,.func (.func 16) #[.pointer (some ⟨S,0,none⟩)] #[]]) Tryz.keyedS Tryz.underlying28 (Go.WideMaps.keyOf_string_mk Tryz.underlying9 (by unfold maxLen;decide))
 obtain ⟨V5,f5,e5,m5,p5,t5⟩:=m4.put (t:=28) (e:=59) (x:=.string ⟨#[115,116,97,114,116]⟩) (v:=.agg #[.int .i64 1,.bool true,.bool false,.int .i64 1,.func (.func 17) #[.pointer (some ⟨S,0,none⟩)] #[]]) Tryz.keyedS Tryz.underlying28 (Go.WideMaps.keyOf_string_mk Tryz.underlying9 (by unfold maxLen;decide))
 obtain ⟨V6,f6,e6,m6,p6,t6⟩:=m5.put (t:=28) (e:=59) (x:=.string ⟨#[112,117,116]⟩) (v:=.agg #[.int .i64 1,.bool false,.bool true,.int .i64 2,.func (.func 18) #[.pointer (some ⟨S,0,none⟩)] #[]]) Tryz.keyedS Tryz.underlying28 (Go.WideMaps.keyOf_string_mk Tryz.underlying9 (by unfold maxLen;decide))
 obtain ⟨V7,f7,e7,m7,p7,t7⟩:=m6.put (t:=28) (e:=59) (x:=.string ⟨#[114,101,99,101,105,118,101]⟩) (v:=.agg #[.int .i64 2,.bool false,.bool false,.int .i64 2,.func (.func 19) #[.pointer (some ⟨S,0,none⟩)] #[]]) Tryz.keyedS Tryz.underlying28 (Go.WideMaps.keyOf_string_mk Tryz.underlying9 (by unfold maxLen;decide))
 obtain ⟨V8,f8,e8,m8,p8,t8⟩:=m7.put (t:=28) (e:=59) (x:=.string ⟨#[108,111,115,101]⟩) (v:=.agg #[.int .i64 3,.bool false,.bool false,.int .i64 2,.func (.func 20) #[.pointer (some ⟨S,0,none⟩)] #[]]) Tryz.keyedS Tryz.underlying28 (Go.WideMaps.keyOf_string_mk Tryz.underlying9 (by unfold maxLen;decide))
 obtain ⟨V9,f9,e9,m9,p9,t9⟩:=m8.put (t:=28) (e:=59) (x:=.string ⟨#[114,101,97,100]⟩) (v:=.agg #[.int .i64 3,.bool false,.bool false,.int .i64 2,.func (.func 21) #[.pointer (some ⟨S,0,none⟩)] #[]]) Tryz.keyedS Tryz.underlying28 (Go.WideMaps.keyOf_string_mk Tryz.underlying9 (by unfold maxLen;decide))
 obtain ⟨V10,f10,e10,m10,p10,t10⟩:=m9.put (t:=28) (e:=59) (x:=.string ⟨#[100,114,105,102,116]⟩) (v:=.agg #[.int .i64 1,.bool true,.bool false,.int .i64 2,.func (.func 22) #[.pointer (some ⟨S,0,none⟩)] #[]]) Tryz.keyedS Tryz.underlying28 (Go.WideMaps.keyOf_string_mk Tryz.underlying9 (by unfold maxLen;decide))
 obtain ⟨V11,f11,e11,m11,p11,t11⟩:=m10.put (t:=28) (e:=59) (x:=.string ⟨#[109,111,100,101]⟩) (v:=.agg #[.int .i64 1,.bool true,.bool false,.int .i64 2,.func (.func 23) #[.pointer (some ⟨S,0,none⟩)] #[]]) Tryz.keyedS Tryz.underlying28 (Go.WideMaps.keyOf_string_mk Tryz.underlying9 (by unfold maxLen;decide))
 obtain ⟨V12,f12,e12,m12,p12,t12⟩:=m11.put (t:=28) (e:=59) (x:=.string ⟨#[114,111,117,110,100]⟩) (v:=.agg #[.int .i64 0,.bool false,.bool false,.int .i64 2,.func (.func 24) #[.pointer (some ⟨S,0,none⟩)] #[]]) Tryz.keyedS Tryz.underlying28 (Go.WideMaps.keyOf_string_mk Tryz.underlying9 (by unfold maxLen;decide))
 obtain ⟨V13,f13,e13,m13,p13,t13⟩:=m12.put (t:=28) (e:=59) (x:=.string ⟨#[99,108,111,99,107,115]⟩) (v:=.agg #[.int .i64 0,.bool false,.bool false,.int .i64 2,.func (.func 25) #[.pointer (some ⟨S,0,none⟩)] #[]]) Tryz.keyedS Tryz.underlying28 (Go.WideMaps.keyOf_string_mk Tryz.underlying9 (by unfold maxLen;decide))
 obtain ⟨V14,f14,e14,m14,p14,t14⟩:=m13.put (t:=28) (e:=59) (x:=.string ⟨#[115,112,114,101,97,100]⟩) (v:=.agg #[.int .i64 0,.bool false,.bool false,.int .i64 2,.func (.func 26) #[.pointer (some ⟨S,0,none⟩)] #[]]) Tryz.keyedS Tryz.underlying28 (Go.WideMaps.keyOf_string_mk Tryz.underlying9 (by unfold maxLen;decide))
 obtain ⟨V15,f15,e15,m15,p15,t15⟩:=m14.put (t:=28) (e:=59) (x:=.string ⟨#[109,101,109,98,101,114,115]⟩) (v:=.agg #[.int .i64 1,.bool false,.bool false,.int .i64 2,.func (.func 27) #[.pointer (some ⟨S,0,none⟩)] #[]]) Tryz.keyedS Tryz.underlying28 (Go.WideMaps.keyOf_string_mk Tryz.underlying9 (by unfold maxLen;decide))
 obtain ⟨V16,f16,e16,m16,p16,t16⟩:=m15.put (t:=28) (e:=59) (x:=.string ⟨#[109,105,100,112,111,105,110,116]⟩) (v:=.agg #[.int .i64 1,.bool true,.bool false,.int .i64 0,.func (.func 28) #[.pointer (some ⟨S,0,none⟩)] #[]]) Tryz.keyedS Tryz.underlying28 (Go.WideMaps.keyOf_string_mk Tryz.underlying9 (by unfold maxLen;decide))
 obtain ⟨V17,f17,e17,m17,p17,t17⟩:=m16.put (t:=28) (e:=59) (x:=.string ⟨#[108,111,99,97,108]⟩) (v:=.agg #[.int .i64 5,.bool false,.bool false,.int .i64 0,.func (.func 29) #[.pointer (some ⟨S,0,none⟩)] #[]]) Tryz.keyedS Tryz.underlying28 (Go.WideMaps.keyOf_string_mk Tryz.underlying9 (by unfold maxLen;decide))
 obtain ⟨V18,f18,e18,m18,p18,t18⟩:=m17.put (t:=28) (e:=59) (x:=.string ⟨#[114,101,97,108]⟩) (v:=.agg #[.int .i64 5,.bool false,.bool false,.int .i64 0,.func (.func 30) #[.pointer (some ⟨S,0,none⟩)] #[]]) Tryz.keyedS Tryz.underlying28 (Go.WideMaps.keyOf_string_mk Tryz.underlying9 (by unfold maxLen;decide))
 obtain ⟨V19,f19,e19,m19,p19,t19⟩:=m18.put (t:=28) (e:=59) (x:=.string ⟨#[99,108,101,97,114]⟩) (v:=.agg #[.int .i64 0,.bool false,.bool false,.int .i64 0,.func (.func 31) #[.pointer (some ⟨S,0,none⟩)] #[]]) Tryz.keyedS Tryz.underlying28 (Go.WideMaps.keyOf_string_mk Tryz.underlying9 (by unfold maxLen;decide))
 obtain ⟨V20,f20,e20,m20,p20,t20⟩:=m19.put (t:=28) (e:=59) (x:=.string ⟨#[104,101,108,112]⟩) (v:=.agg #[.int .i64 0,.bool false,.bool false,.int .i64 0,.func (.func 32) #[.pointer (some ⟨S,0,none⟩)] #[]]) Tryz.keyedS Tryz.underlying28 (Go.WideMaps.keyOf_string_mk Tryz.underlying9 (by unfold maxLen;decide))
 have HB:Hid (Below w.heap.size w V20):=by
  have st:∀ {a c:World},Turns w.heap.size w.heap.size a c→Below w.heap.size w a→Below w.heap.size w c:=fun h k=>⟨h.os.trans k.os,h.tape.trans k.tape,h.output.trans k.output,Nat.le_trans k.size h.size,fun i hi=>(h.block i (Nat.lt_of_lt_of_le hi k.size) (by omega) (by omega)).trans (k.block i hi)⟩
  exact st t20 (st t19 (st t18 (st t17 (st t16 (st t15 (st t14 (st t13 (st t12 (st t11 (st t10 (st t9 (st t8 (st t7 (st t6 (st t5 (st t4 (st t3 (st t2 (st t1 hB)))))))))))))))))))
 have HK:Hid (KindsAt V20 w.heap.size S):=by
  refine ⟨f20,m20,fun x=>?_⟩
  cases q:kdOf x with
  | some k =>
   have e:=kdOf_name q
   subst e
   clear q
   cases k using Kd.each
   ·exact (p20.2 _ (str_ne (by decide))).trans ((p19.2 _ (str_ne (by decide))).trans ((p18.2 _ (str_ne (by decide))).trans ((p17.2 _ (str_ne (by decide))).trans ((p16.2 _ (str_ne (by decide))).trans ((p15.2 _ (str_ne (by decide))).trans ((p14.2 _ (str_ne (by decide))).trans ((p13.2 _ (str_ne (by decide))).trans ((p12.2 _ (str_ne (by decide))).trans ((p11.2 _ (str_ne (by decide))).trans ((p10.2 _ (str_ne (by decide))).trans ((p9.2 _ (str_ne (by decide))).trans ((p8.2 _ (str_ne (by decide))).trans ((p7.2 _ (str_ne (by decide))).trans ((p6.2 _ (str_ne (by decide))).trans ((p5.2 _ (str_ne (by decide))).trans ((p4.2 _ (str_ne (by decide))).trans ((p3.2 _ (str_ne (by decide))).trans ((p2.2 _ (str_ne (by decide))).trans (p1.1)))))))))))))))))))
   ·exact (p20.2 _ (str_ne (by decide))).trans ((p19.2 _ (str_ne (by decide))).trans ((p18.2 _ (str_ne (by decide))).trans ((p17.2 _ (str_ne (by decide))).trans ((p16.2 _ (str_ne (by decide))).trans ((p15.2 _ (str_ne (by decide))).trans ((p14.2 _ (str_ne (by decide))).trans ((p13.2 _ (str_ne (by decide))).trans ((p12.2 _ (str_ne (by decide))).trans ((p11.2 _ (str_ne (by decide))).trans ((p10.2 _ (str_ne (by decide))).trans ((p9.2 _ (str_ne (by decide))).trans ((p8.2 _ (str_ne (by decide))).trans ((p7.2 _ (str_ne (by decide))).trans ((p6.2 _ (str_ne (by decide))).trans ((p5.2 _ (str_ne (by decide))).trans ((p4.2 _ (str_ne (by decide))).trans ((p3.2 _ (str_ne (by decide))).trans (p2.1))))))))))))))))))
   ·exact (p20.2 _ (str_ne (by decide))).trans ((p19.2 _ (str_ne (by decide))).trans ((p18.2 _ (str_ne (by decide))).trans ((p17.2 _ (str_ne (by decide))).trans ((p16.2 _ (str_ne (by decide))).trans ((p15.2 _ (str_ne (by decide))).trans ((p14.2 _ (str_ne (by decide))).trans ((p13.2 _ (str_ne (by decide))).trans ((p12.2 _ (str_ne (by decide))).trans ((p11.2 _ (str_ne (by decide))).trans ((p10.2 _ (str_ne (by decide))).trans ((p9.2 _ (str_ne (by decide))).trans ((p8.2 _ (str_ne (by decide))).trans ((p7.2 _ (str_ne (by decide))).trans ((p6.2 _ (str_ne (by decide))).trans ((p5.2 _ (str_ne (by decide))).trans ((p4.2 _ (str_ne (by decide))).trans (p3.1)))))))))))))))))
   ·exact (p20.2 _ (str_ne (by decide))).trans ((p19.2 _ (str_ne (by decide))).trans ((p18.2 _ (str_ne (by decide))).trans ((p17.2 _ (str_ne (by decide))).trans ((p16.2 _ (str_ne (by decide))).trans ((p15.2 _ (str_ne (by decide))).trans ((p14.2 _ (str_ne (by decide))).trans ((p13.2 _ (str_ne (by decide))).trans ((p12.2 _ (str_ne (by decide))).trans ((p11.2 _ (str_ne (by decide))).trans ((p10.2 _ (str_ne (by decide))).trans ((p9.2 _ (str_ne (by decide))).trans ((p8.2 _ (str_ne (by decide))).trans ((p7.2 _ (str_ne (by decide))).trans ((p6.2 _ (str_ne (by decide))).trans ((p5.2 _ (str_ne (by decide))).trans (p4.1))))))))))))))))
   ·exact (p20.2 _ (str_ne (by decide))).trans ((p19.2 _ (str_ne (by decide))).trans ((p18.2 _ (str_ne (by decide))).trans ((p17.2 _ (str_ne (by decide))).trans ((p16.2 _ (str_ne (by decide))).trans ((p15.2 _ (str_ne (by decide))).trans ((p14.2 _ (str_ne (by decide))).trans ((p13.2 _ (str_ne (by decide))).trans ((p12.2 _ (str_ne (by decide))).trans ((p11.2 _ (str_ne (by decide))).trans ((p10.2 _ (str_ne (by decide))).trans ((p9.2 _ (str_ne (by decide))).trans ((p8.2 _ (str_ne (by decide))).trans ((p7.2 _ (str_ne (by decide))).trans ((p6.2 _ (str_ne (by decide))).trans (p5.1)))))))))))))))
   ·exact (p20.2 _ (str_ne (by decide))).trans ((p19.2 _ (str_ne (by decide))).trans ((p18.2 _ (str_ne (by decide))).trans ((p17.2 _ (str_ne (by decide))).trans ((p16.2 _ (str_ne (by decide))).trans ((p15.2 _ (str_ne (by decide))).trans ((p14.2 _ (str_ne (by decide))).trans ((p13.2 _ (str_ne (by decide))).trans ((p12.2 _ (str_ne (by decide))).trans ((p11.2 _ (str_ne (by decide))).trans ((p10.2 _ (str_ne (by decide))).trans ((p9.2 _ (str_ne (by decide))).trans ((p8.2 _ (str_ne (by decide))).trans ((p7.2 _ (str_ne (by decide))).trans (p6.1))))))))))))))
   ·exact (p20.2 _ (str_ne (by decide))).trans ((p19.2 _ (str_ne (by decide))).trans ((p18.2 _ (str_ne (by decide))).trans ((p17.2 _ (str_ne (by decide))).trans ((p16.2 _ (str_ne (by decide))).trans ((p15.2 _ (str_ne (by decide))).trans ((p14.2 _ (str_ne (by decide))).trans ((p13.2 _ (str_ne (by decide))).trans ((p12.2 _ (str_ne (by decide))).trans ((p11.2 _ (str_ne (by decide))).trans ((p10.2 _ (str_ne (by decide))).trans ((p9.2 _ (str_ne (by decide))).trans ((p8.2 _ (str_ne (by decide))).trans (p7.1)))))))))))))
   ·exact (p20.2 _ (str_ne (by decide))).trans ((p19.2 _ (str_ne (by decide))).trans ((p18.2 _ (str_ne (by decide))).trans ((p17.2 _ (str_ne (by decide))).trans ((p16.2 _ (str_ne (by decide))).trans ((p15.2 _ (str_ne (by decide))).trans ((p14.2 _ (str_ne (by decide))).trans ((p13.2 _ (str_ne (by decide))).trans ((p12.2 _ (str_ne (by decide))).trans ((p11.2 _ (str_ne (by decide))).trans ((p10.2 _ (str_ne (by decide))).trans ((p9.2 _ (str_ne (by decide))).trans (p8.1))))))))))))
   ·exact (p20.2 _ (str_ne (by decide))).trans ((p19.2 _ (str_ne (by decide))).trans ((p18.2 _ (str_ne (by decide))).trans ((p17.2 _ (str_ne (by decide))).trans ((p16.2 _ (str_ne (by decide))).trans ((p15.2 _ (str_ne (by decide))).trans ((p14.2 _ (str_ne (by decide))).trans ((p13.2 _ (str_ne (by decide))).trans ((p12.2 _ (str_ne (by decide))).trans ((p11.2 _ (str_ne (by decide))).trans ((p10.2 _ (str_ne (by decide))).trans (p9.1)))))))))))
   ·exact (p20.2 _ (str_ne (by decide))).trans ((p19.2 _ (str_ne (by decide))).trans ((p18.2 _ (str_ne (by decide))).trans ((p17.2 _ (str_ne (by decide))).trans ((p16.2 _ (str_ne (by decide))).trans ((p15.2 _ (str_ne (by decide))).trans ((p14.2 _ (str_ne (by decide))).trans ((p13.2 _ (str_ne (by decide))).trans ((p12.2 _ (str_ne (by decide))).trans ((p11.2 _ (str_ne (by decide))).trans (p10.1))))))))))
   ·exact (p20.2 _ (str_ne (by decide))).trans ((p19.2 _ (str_ne (by decide))).trans ((p18.2 _ (str_ne (by decide))).trans ((p17.2 _ (str_ne (by decide))).trans ((p16.2 _ (str_ne (by decide))).trans ((p15.2 _ (str_ne (by decide))).trans ((p14.2 _ (str_ne (by decide))).trans ((p13.2 _ (str_ne (by decide))).trans ((p12.2 _ (str_ne (by decide))).trans (p11.1)))))))))
   ·exact (p20.2 _ (str_ne (by decide))).trans ((p19.2 _ (str_ne (by decide))).trans ((p18.2 _ (str_ne (by decide))).trans ((p17.2 _ (str_ne (by decide))).trans ((p16.2 _ (str_ne (by decide))).trans ((p15.2 _ (str_ne (by decide))).trans ((p14.2 _ (str_ne (by decide))).trans ((p13.2 _ (str_ne (by decide))).trans (p12.1))))))))
   ·exact (p20.2 _ (str_ne (by decide))).trans ((p19.2 _ (str_ne (by decide))).trans ((p18.2 _ (str_ne (by decide))).trans ((p17.2 _ (str_ne (by decide))).trans ((p16.2 _ (str_ne (by decide))).trans ((p15.2 _ (str_ne (by decide))).trans ((p14.2 _ (str_ne (by decide))).trans (p13.1)))))))
   ·exact (p20.2 _ (str_ne (by decide))).trans ((p19.2 _ (str_ne (by decide))).trans ((p18.2 _ (str_ne (by decide))).trans ((p17.2 _ (str_ne (by decide))).trans ((p16.2 _ (str_ne (by decide))).trans ((p15.2 _ (str_ne (by decide))).trans (p14.1))))))
   ·exact (p20.2 _ (str_ne (by decide))).trans ((p19.2 _ (str_ne (by decide))).trans ((p18.2 _ (str_ne (by decide))).trans ((p17.2 _ (str_ne (by decide))).trans ((p16.2 _ (str_ne (by decide))).trans (p15.1)))))
   ·exact (p20.2 _ (str_ne (by decide))).trans ((p19.2 _ (str_ne (by decide))).trans ((p18.2 _ (str_ne (by decide))).trans ((p17.2 _ (str_ne (by decide))).trans (p16.1))))
   ·exact (p20.2 _ (str_ne (by decide))).trans ((p19.2 _ (str_ne (by decide))).trans ((p18.2 _ (str_ne (by decide))).trans (p17.1)))
   ·exact (p20.2 _ (str_ne (by decide))).trans ((p19.2 _ (str_ne (by decide))).trans (p18.1))
   ·exact (p20.2 _ (str_ne (by decide))).trans (p19.1)
   ·exact p20.1
  | none =>
   have hn:=kdOf_none q
   have hne:∀ k:Kd,Value.string x≠.string k.name:=fun k e=>hn k (by injection e with e;exact e.symm)
   exact (p20.2 _ (hne Kd.help_)).trans ((p19.2 _ (hne Kd.clear_)).trans ((p18.2 _ (hne Kd.real_)).trans ((p17.2 _ (hne Kd.local_)).trans ((p16.2 _ (hne Kd.midpoint_)).trans ((p15.2 _ (hne Kd.members_)).trans ((p14.2 _ (hne Kd.spread_)).trans ((p13.2 _ (hne Kd.clocks_)).trans ((p12.2 _ (hne Kd.round_)).trans ((p11.2 _ (hne Kd.mode_)).trans ((p10.2 _ (hne Kd.drift_)).trans ((p9.2 _ (hne Kd.read_)).trans ((p8.2 _ (hne Kd.lose_)).trans ((p7.2 _ (hne Kd.receive_)).trans ((p6.2 _ (hne Kd.put_)).trans ((p5.2 _ (hne Kd.start_)).trans ((p4.2 _ (hne Kd.bytes_)).trans ((p3.2 _ (hne Kd.link_)).trans ((p2.2 _ (hne Kd.slot_)).trans ((p1.2 _ (hne Kd.plan_)).trans (congrFun rfl _))))))))))))))))))))
 have hz:=Tryz.zeroValue59
 have Hw:Hid (w.heap.size=w.heap.size):=rfl
 clear p1 p2 p3 p4 p5 p6 p7 p8 p9 p10 p11 p12 p13 p14 p15 p16 p17 p18 p19 p20 t1 t2 t3 t4 t5 t6 t7 t8 t9 t10 t11 t12 t13 t14 t15 t16 t17 t18 t19 t20 m0 m1 m2 m3 m4 m5 m6 m7 m8 m9 m10 m11 m12 m13 m14 m15 m16 m17 m18 m19 m20
 go_enter Tryz.func7,Tryz.ntmps7
 go_wp2_with fail
 go_ret
 exact ⟨w.heap.size,rfl,Nat.le_refl _,HK.out,HB.out⟩
end
section
theorem triCells_cell (a b c:Nat→Value) (n j:Nat) (u:Value) (h:(triCells a b c n)[j]? = some u):∃ i,i<n∧((j=i*3∧u=a i)∨(j=i*3+1∧u=b i)∨(j=i*3+2∧u=c i)):=by
 have hl:=triCells_length a b c n
 have hj:j<n*3:=by
  rcases Nat.lt_or_ge j (n*3) with q | q
  ·exact q
  ·rw [List.getElem?_eq_none (by omega)] at h;cases h
 have h3:=triCells_at a b c n (j / 3) (by omega)
 refine ⟨j / 3,by omega,?_⟩
 have:j % 3=0∨j % 3=1∨j % 3=2:=by omega
 rcases this with q | q | q
 ·have e:j=j / 3*3:=by omega
  rw [← e] at h3
  rw [h3.1] at h
  cases h
  exact .inl ⟨e,rfl⟩
 ·have e:j=j / 3*3+1:=by omega
  rw [← e] at h3
  rw [h3.2.1] at h
  cases h
  exact .inr (.inl ⟨e,rfl⟩)
 ·have e:j=j / 3*3+2:=by omega
  rw [← e] at h3
  rw [h3.2.2] at h
  cases h
  exact .inr (.inr ⟨e,rfl⟩)
def slotCells (f g h:Nat→Int) (n:Nat):List Value:=triCells (fun i=>.int .i64 (f i)) (fun i=>.int .i64 (g i)) (fun i=>.int .i64 (h i)) n
theorem slot_cells {w:World} {ad:Addr} {n:Nat} {f g h:Nat→Int} (hr:Rows3 w (some ad) n f g h):∀ j u,(slotCells f g h n)[j]? = some u→w.cell? (ad.add j)=some u:=by
 intro j u hj
 obtain ⟨i,hi,hh⟩:=triCells_cell _ _ _ n j u hj
 obtain ⟨b,off,e,_,hc⟩:=hr (by omega)
 injection e with e
 subst e
 obtain ⟨c0,c1,c2⟩:=hc i hi
 rw [add_at]
 rcases hh with ⟨rfl,rfl⟩ | ⟨rfl,rfl⟩ | ⟨rfl,rfl⟩
 ·exact c0
 ·exact c1
 ·exact c2
theorem slot_one (f g h:Nat→Int) (n:Nat):∀ u∈slotCells f g h n,u.oneCell'=true:=by
 intro u hu
 obtain ⟨j,hj⟩:=List.getElem?_of_mem hu
 obtain ⟨i,_,hh⟩:=triCells_cell _ _ _ n j u hj
 rcases hh with ⟨_,rfl⟩ | ⟨_,rfl⟩ | ⟨_,rfl⟩ <;> rfl
theorem owns_slots {w:World} {base n:Nat} {v:Value} {f g' h':Nat→Int} (h:w.ownsRow base 80 3 v n (slotCells f g' h' n)):∃ a cap,v=.slice a n cap∧Rows3 w a n f g' h'∧∀ b off s,a=some ⟨b,off,s⟩→base≤b∧b<w.heap.size:=by
 rcases h.2 with ⟨rfl,rfl⟩ | ⟨g,cap,cur,rfl,hg,hh,_⟩
 ·exact ⟨none,0,rfl,fun q=>absurd q (Nat.lt_irrefl _),fun _ _ _ e=>by cases e⟩
 ·have hlt:g<w.heap.size:=by
   rcases Nat.lt_or_ge g w.heap.size with q | q
   ·exact q
   ·rw [Array.getElem?_eq_none q] at hh;cases hh
  refine ⟨_,_,rfl,fun _=>⟨g,0,rfl,hlt,fun j hj=>?_⟩,fun b off s e=>by cases e;exact ⟨hg,hlt⟩⟩
  have h3:=triCells_at (fun i=>.int .i64 (f i)) (fun i=>.int .i64 (g' i)) (fun i=>.int .i64 (h' i)) n j hj
  have c:=fun i u (hi:(slotCells f g' h' n)[i]? = some u)=>h.cells (g:=g) rfl i u hi
  refine ⟨?_,?_,?_⟩
  ·have:=c _ _ h3.1;rw [add_at] at this;exact this
  ·have:=c _ _ h3.2.1;rw [add_at] at this;exact this
  ·have:=c _ _ h3.2.2;rw [add_at] at this;exact this
theorem Tryz.infoSlot9:(Tryz.prog.info? 80).map (fun i=>(i.zero,i.size,i.bytes))=some (some (.agg #[.int .i64 0,.int .i64 0,.int .i64 0]),3,24):=by kernel_rfl
theorem cloneS (pt fr tq:Nat→Int) (a:Option Addr) (n cap:Nat) (w:World) (hn:n≤1000) (hr:Rows3 w a n pt fr tq) :
  Calls Tryz.prog 75 #[.slice a n cap] w fun e w'=>∃ a' cap',e=.returned (.slice a' n cap')∧Rows3 w' a' n pt fr tq∧(∀ b off s,a'=some ⟨b,off,s⟩→w.heap.size≤b∧b<w'.heap.size)∧Below w.heap.size w w':=by
 cases a with
 | none =>
  have h0:n=0:=by
   rcases Nat.eq_zero_or_pos n with q | q
   ·exact q
   ·obtain ⟨_,_,e,_⟩:=hr q;cases e
  subst h0
  have q22:∀ (w:World) (a:Option Addr) (n c n' c':Nat),(binOp .eql 44 (.slice a n c) (.slice none n' c')).run Tryz.prog w=.ok (.bool a.isNone) w:=fun w a n c n' c'=>Lib.run_eql_slice_nil w _ _ a n c n' c' Tryz.underlying44
  go_enter Tryz.func75,Tryz.ntmps75
  go_wp2
  go_ret
  exact ⟨none,0,rfl,fun q=>absurd q (Nat.lt_irrefl _),(fun _ _ _ e=>by cases e),Below.refl _ _⟩
 | some ad =>
  have q22:∀ (w:World) (a:Option Addr) (n c n' c':Nat),(binOp .eql 44 (.slice a n c) (.slice none n' c')).run Tryz.prog w=.ok (.bool a.isNone) w:=fun w a n c n' c'=>Lib.run_eql_slice_nil w _ _ a n c n' c' Tryz.underlying44
  obtain ⟨i0,hi,hz0,hz1,hz2⟩:=info_parts Tryz.infoSlot9
  have HC:Hid (∀ j u,(slotCells pt fr tq n)[j]? = some u→w.cell? (ad.add j)=some u):=slot_cells hr
  clear hr
  go_enter Tryz.func75,Tryz.ntmps75
  go_wp2_with (at_builtin;refine wpList_append_own _ rfl _ _ 44 rfl w.heap.size 80 i0 (.agg #[.int .i64 0,.int .i64 0,.int .i64 0]) 3 24 Tryz.underlying44 hi hz0 hz1 hz2 rfl (by decide) _ _ _ rfl (World.ownsRow_made w #[] 0 (Nat.le_refl _) (Nat.zero_le _) rfl) ad n cap (slotCells pt fr tq n) rfl ?qc1 ?qc2 ?qc3 ?qc4 ?qc5 ?qc6 ?_)
  case qc1=>exact triCells_length _ _ _ n
  case qc2 =>
   intro j u hj
   exact Lib.cell?_alloc_some _ (HC.out j u hj)
  case qc3=>exact slot_one pt fr tq n
  case qc4=>unfold maxLen;omega
  case qc5=>omega
  case qc6=>simp
  intro v' w1 hown hgrow hnil
  obtain ⟨a',cap',rfl,hr',hb'⟩:=owns_slots hown
  go_wp2
  go_ret
  exact ⟨a',cap',rfl,hr',hb',((Below.refl _ w).alloc (Nat.le_refl _) _).grown hgrow (by simp) (by intro k hk;simp [Value.ownBlock] at hk;omega)⟩
theorem cloneC (cs:List Int) (a:Option Addr) (n cap:Nat) (hl:cs.length=n) (hn:1≤n) (hn2:n≤1000) (w:World) (hr:IntRow w a cs) :
  Calls Tryz.prog 74 #[.slice a n cap] w fun e w'=>∃ g cp,e=.returned (.slice (some ⟨g,0,none⟩) n cp)∧(w.heap.size≤g∧g<w'.heap.size)∧(∀ j,j<cs.length→w'.cell? ⟨g,j,none⟩=some (.int .i64 (cs.getD j 0)))∧Below w.heap.size w w':=by
 obtain ⟨b,off,rfl,hb,hc⟩:=hr (by omega)
 refine (Tryz.slices_Clone_int b off n cap cs w (by omega) (by omega) hc).mono ?_
 rintro e w1 ⟨v1,rfl,hown,hnn,hbel⟩
 rw [List.take_of_length_le (by omega)] at hown
 rcases hown.2 with ⟨_,e0⟩ | ⟨g,cp,cur,hv,hg,hh,_⟩
 ·omega
 ·have hgl:g<w1.heap.size:=(hown.lt g (by rw [hv];rfl)).2
  refine ⟨g,cp,by rw [hv],⟨hg,hgl⟩,fun j hj=>?_,hbel⟩
  have:=hown.cells (g:=g) (by rw [hv];rfl) j (.int .i64 (cs.getD j 0)) (by simp [List.getD,hj])
  rwa [add_at,Nat.zero_add] at this
end
section
def frameV (nd i mem:Int) (lk q:Int) (d:ByteArray):Value:=.agg #[.int .i64 nd,.int .i64 i,.int .i64 mem,.int .i64 lk,.int .i64 q,.string d]
def ClS.take1 (s:ClS) (k j:Nat) (q:Int) (d:ByteArray):ClS:=if takeB (s.newest k j) q=true then (s.setNew k j q).setPort k j (if (s.ports k j).length<16 then s.ports k j ++ [d] else s.ports k j) else s
section
variable {w:World} {O:List Nat} {C:Nat} {p:PlanN} {fa:Int} {cs:List Int} {s:ClS} {rd:Int} {B:Nat} {m:CMap}
theorem ctake_none (C:Nat) (nd i mem q:Int) (d:ByteArray) (j:Int) (w:World) :
  Calls Tryz.prog 123 #[.pointer (some ⟨C,0,none⟩),frameV nd i mem (-1) q d,.int .i64 j] w fun e w'=>e=.returned (.tuple #[])∧Below w.heap.size w w':=by
 unfold frameV
 go_enter Tryz.func123,Tryz.ntmps123
 go_wp2
 exact bodyPost_ret (v:=.tuple #[]) (by simp [results,Tryz.results123,go_sem]) rfl ⟨rfl,(Below.refl _ _).alloc (Nat.le_refl _) _⟩
theorem box6 (w:World) (a b c d e:Value) (f:Value) (t:TypeId):(∀ (i:Nat) (v:Value),(#[a,b,c,d,e,f]:Array Value)[i]? = some v→(w.alloc (.cells #[a,b,c,d,e,f] t)).cell? ⟨w.heap.size,i,none⟩=some v)∧Below w.heap.size w (w.alloc (.cells #[a,b,c,d,e,f] t))∧w.heap.size<(w.alloc (.cells #[a,b,c,d,e,f] t)).heap.size:=by
 refine ⟨fun i v hi=>?_,(Below.refl _ _).alloc (Nat.le_refl _) _,by simp⟩
 simp
 simpa using hi
theorem ctake_not (h:Cl w O C p fa cs s rd B m) (nd i mem q:Int) (d:ByteArray) (j k:Nat) (hj:j<p.n) (hk:k<p.nl) (hb:bitI (p.lt k) j=false) :
  Calls Tryz.prog 123 #[.pointer (some ⟨C,0,none⟩),frameV nd i mem k q d,.int .i64 j] w fun e w'=>e=.returned (.tuple #[])∧Below w.heap.size w w':=by
 unfold frameV
 obtain ⟨la1,la2⟩:=h.base.la (by omega)
 obtain ⟨hbx,hV,hF⟩:=box6 w (.int .i64 nd) (.int .i64 i) (.int .i64 mem) (.int .i64 k) (.int .i64 q) (.string d) 153
 have h2:=h.below hV
 have f3:(w.alloc (.cells #[.int .i64 nd,.int .i64 i,.int .i64 mem,.int .i64 k,.int .i64 q,.string d] 153)).cell? ⟨w.heap.size,3,none⟩=some (.int .i64 k):=hbx 3 _ rfl
 have HV:Hid (Below w.heap.size w (w.alloc (.cells #[.int .i64 nd,.int .i64 i,.int .i64 mem,.int .i64 k,.int .i64 q,.string d] 153))):=hV
 obtain ⟨l0,l1,l2⟩:=h2.base.lk k hk
 obtain ⟨e1,e2⟩:=h2.base.en k hk
 have e3:=e2 j hj
 rw [hb,if_neg (by decide)] at e3
 have c14:=h2.base.c14
 rw [la1] at c14
 have hll:=h2.base.lx _ la2
 have hel:=h2.base.lx _ e1
 have hlC:=h2.base.lc
 have kk:(k:Int)<(p.nl:Int):=by omega
 have jj:(j:Int)<(p.n:Int):=by omega
 have k1:((k:Int) == -1)=false:=by simp
 obtain ⟨n,hn⟩:∃ n,p.n=n:=⟨_,rfl⟩
 rw [hn] at l2 jj
 clear h h2 la1 la2 e2 hb hbx hV hj hn
 go_enter Tryz.func123,Tryz.ntmps123
 go_wp2_with fail
 generalize w.alloc (.cells #[.int .i64 nd,.int .i64 i,.int .i64 mem,.int .i64 k,.int .i64 q,.string d] 153)=V at *
 go_quiet (fail)
 go_wp2_with fail
 go_quiet (fail)
 go_wp2
 exact bodyPost_end (v:=.tuple #[]) (by simp [results,Tryz.results123,go_sem]) rfl ⟨rfl,⟨HV.out.os,HV.out.tape,HV.out.output,HV.out.size,HV.out.block⟩⟩
theorem tk_in9 {nw x:Int} (h:nw≤255):tkNew (takeB nw x) x nw≤255:=by
 unfold tkNew
 split
 ·next q=>exact (takeB_in q).2
 ·exact h
theorem put16 (l:List ByteArray) (d:ByteArray) (hd:d.size≤40):putAll (putK l.length 16 d) l d=if l.length<16 then l ++ [d] else l:=by
 by_cases q:l.length<16
 ·have e:putK l.length 16 d=0:=by
   unfold putK
   rw [if_neg (show ¬ 40<d.size by omega),if_neg (show ¬ (16:Int)≤(l.length:Int) by omega)]
  rw [e,if_pos q]
  rfl
 ·have e:putK l.length 16 d=12:=by
   unfold putK
   rw [if_neg (show ¬ 40<d.size by omega),if_pos (show (16:Int)≤(l.length:Int) by omega)]
  rw [e,if_neg q]
  rfl
theorem Foot.box {O O':List Nat} {V v:World} {b:Nat} (k:Foot O O' V v) (hb:b<V.heap.size) (hO:∀ c,c∈O→c<b) (i:Nat):v.cell? ⟨b,i,none⟩=V.cell? ⟨b,i,none⟩:=k.cell (p:=⟨b,i,none⟩) hb (fun y=>Nat.lt_irrefl _ (hO b y))
theorem ctake_end (h:Cl w O C p fa cs s rd B m) (nd i mem q:Int) (d:ByteArray) (j k:Nat) (hj:j<p.n) (hk:k<p.nl) (hb:bitI (p.lt k) j=true) (hd:d.size≤40) (hB:B≤9999990) :
  Calls Tryz.prog 123 #[.pointer (some ⟨C,0,none⟩),frameV nd i mem k q d,.int .i64 j] w fun e w'=>e=.returned (.tuple #[])∧∃ O',Foot O O' w w'∧Cl w' O' C p fa cs (s.take1 k j q d) rd (B+2) m:=by
 unfold frameV
 obtain ⟨la1,la2⟩:=h.base.la (by omega)
 obtain ⟨hbx,hV,hF⟩:=box6 w (.int .i64 nd) (.int .i64 i) (.int .i64 mem) (.int .i64 k) (.int .i64 q) (.string d) 153
 have h2:=h.below hV
 have f3:(w.alloc (.cells #[.int .i64 nd,.int .i64 i,.int .i64 mem,.int .i64 k,.int .i64 q,.string d] 153)).cell? ⟨w.heap.size,3,none⟩=some (.int .i64 k):=hbx 3 _ rfl
 have f4:(w.alloc (.cells #[.int .i64 nd,.int .i64 i,.int .i64 mem,.int .i64 k,.int .i64 q,.string d] 153)).cell? ⟨w.heap.size,4,none⟩=some (.int .i64 q):=hbx 4 _ rfl
 have f5:(w.alloc (.cells #[.int .i64 nd,.int .i64 i,.int .i64 mem,.int .i64 k,.int .i64 q,.string d] 153)).cell? ⟨w.heap.size,5,none⟩=some (.string d):=hbx 5 _ rfl
 have HV:Hid (Below w.heap.size w (w.alloc (.cells #[.int .i64 nd,.int .i64 i,.int .i64 mem,.int .i64 k,.int .i64 q,.string d] 153))):=hV
 have HL:Hid (∀ c,c∈O→c<w.heap.size):=h.lt
 obtain ⟨l0,l1,l2⟩:=h2.base.lk k hk
 obtain ⟨e1,e2⟩:=h2.base.en k hk
 have e3:=e2 j hj
 rw [hb,if_pos rfl] at e3
 have c14:=h2.base.c14
 rw [la1] at c14
 have hll:=h2.base.lx _ la2
 have hel:=h2.base.lx _ e1
 have hlC:=h2.base.lc
 obtain ⟨d1,d2,d3⟩:=h2.base.dn k j hk hj hb
 have hdl:=h2.base.lx _ d1
 have kk:(k:Int)<(p.nl:Int):=by omega
 have jj:(j:Int)<(p.n:Int):=by omega
 have k1:((k:Int) == -1)=false:=by simp
 obtain ⟨n,hn⟩:∃ n,p.n=n:=⟨_,rfl⟩
 have HN:Hid (j<p.n∧k<p.nl∧bitI (p.lt k) j=true):=⟨hj,hk,hb⟩
 rw [hn] at l2 jj
 have HC2:Hid (Cl (w.alloc (.cells #[.int .i64 nd,.int .i64 i,.int .i64 mem,.int .i64 k,.int .i64 q,.string d] 153)) O C p fa cs s rd B m):=h2
 clear h h2 la1 la2 e2 hb hbx hV hj hn
 go_enter Tryz.func123,Tryz.ntmps123
 go_wp2_with fail
 generalize w.alloc (.cells #[.int .i64 nd,.int .i64 i,.int .i64 mem,.int .i64 k,.int .i64 q,.string d] 153)=V at *
 go_quiet (fail)
 clear c14 l0 l1 l2 e3
 have HTk:Hid (∀ (u:Nat) ,Calls Tryz.prog 164 #[.pointer (some ⟨m.R k j,0,none⟩),.agg #[.int .i64 q,.string d]] (V.drewN u) fun e w'=>e=.returned (.bool (takeB (s.newest k j) q))∧∃ O',Foot O O' V w'∧Cl w' O' C p fa cs (s.setNew k j (tkNew (takeB (s.newest k j) q) q (s.newest k j))) rd (B+1) m):=by
  intro u
  obtain ⟨hj,hk,hb⟩:=HN.out
  have hcd:Cl (V.drewN u) O C p fa cs s rd B m:=HC2.out.below ⟨rfl,rfl,rfl,Nat.le_refl _,fun _ _=>rfl⟩
  obtain ⟨OR,a,b,r1,⟨⟨r2,r3⟩,r4,r5⟩,r6,r7⟩:=hcd.rcv hk hj hb
  refine (rcvTake r1 q d r6 r2 (by omega) r4 (by omega)).mono ?_
  rintro e w' ⟨he,OR',t1,t2⟩
  refine ⟨he,?_⟩
  obtain ⟨O',y1,y2⟩:=r7 w' OR' (B+1) _ _ _ t1 t2 (by unfold tkTold tkNot;split <;> omega) (tk_in9 r6) (Nat.le_succ _)
  exact ⟨O',(Foot.drawn O V u).trans y1,y2⟩
 have HSt:Hid (takeB (s.newest k j) q=true→s.take1 k j q d=(s.setNew k j q).setPort k j (if (s.ports k j).length<16 then s.ports k j ++ [d] else s.ports k j)):=fun hT=>if_pos hT
 have HSf:Hid (takeB (s.newest k j) q=false→s.take1 k j q d=s):=fun hT=>if_neg (by rw [hT];decide)
 cases hT:takeB (s.newest k j) q
 ·rw [hT] at HTk
  have HSF:Hid (s.take1 k j q d=s):=HSf.out hT
  clear HSt HSf hT
  go_wp2_with fail
  go_region_held3 (fun u=>u.cell? ⟨w.heap.size,4,none⟩=some (.int .i64 q)∧u.cell? ⟨w.heap.size,5,none⟩=some (.string d)∧u.cell? ⟨m.D k j,0,none⟩=some (.pointer (some ⟨m.R k j,0,none⟩))) (go_keep) (first
   | (go_at_call 164;refine (HTk.out _).mono ?_;rintro ev v1 ⟨rfl,O1,hf1,hc1⟩;have HC3:Hid (Cl v1 O1 C p fa cs (s.setNew k j (tkNew false q (s.newest k j))) rd (B+1) m):=hc1;have HF1:Hid (Foot O O1 V v1):=hf1;have g4:=(hf1.box hF HL.out 4).trans f4;have g5:=(hf1.box hF HL.out 5).trans f5;have g0:=(hc1.base.dn k j HN.out.2.1 HN.out.1 HN.out.2.2).2.1))
  have HD:Hid (∃ O',Foot O O' w v1∧Cl v1 O' C p fa cs (s.take1 k j q d) rd (B+2) m):=by
   refine ⟨O1,(Foot.of_below HV.out).trans HF1.out,?_⟩
   rw [HSF.out]
   refine (HC3.out.more (Nat.le_succ _)).agree (fun _ _=>rfl) (fun _ _=>rfl) (fun k' j' _ _ _=>⟨?_,rfl⟩)
   show s.newest k' j'=if k'=k∧j'=j then tkNew false q (s.newest k j) else s.newest k' j'
   split
   ·next e=>obtain ⟨rfl,rfl⟩:=e;rfl
   ·rfl
  clear HC3 HF1 hf1 hc1 g0 g4 g5
  go_wp2
  exact bodyPost_end (v:=.tuple #[]) (by simp [results,Tryz.results123,go_sem]) rfl ⟨rfl,HD.out⟩
 ·rw [hT] at HTk
  have HST:Hid (s.take1 k j q d=(s.setNew k j q).setPort k j (if (s.ports k j).length<16 then s.ports k j ++ [d] else s.ports k j)):=HSt.out hT
  clear HSt HSf hT
  go_wp2_with fail
  go_region_held3 (fun u=>u.cell? ⟨w.heap.size,4,none⟩=some (.int .i64 q)∧u.cell? ⟨w.heap.size,5,none⟩=some (.string d)∧u.cell? ⟨m.D k j,0,none⟩=some (.pointer (some ⟨m.R k j,0,none⟩))) (go_keep) (first
   | (go_at_call 164;refine (HTk.out _).mono ?_;rintro ev v1 ⟨rfl,O1,hf1,hc1⟩;have HC3:Hid (Cl v1 O1 C p fa cs (s.setNew k j (tkNew true q (s.newest k j))) rd (B+1) m):=hc1;have HF1:Hid (Foot O O1 V v1):=hf1;have g4:=(hf1.box hF HL.out 4).trans f4;have g5:=(hf1.box hF HL.out 5).trans f5;have g0:=(hc1.base.dn k j HN.out.2.1 HN.out.1 HN.out.2.2).2.1))
  have HN1:Hid (w.heap.size∉O1):=fun y=>by
   rcases HF1.out.fresh _ y with z | z
   ·exact Nat.lt_irrefl _ (HL.out _ z)
   ·omega
  have HQ:Hid (∀ (u:Nat),Calls Tryz.prog 165 #[.pointer (some ⟨m.Q k j,0,none⟩),.string d] (v1.drewN u) fun e w'=>(∃ E,e=.returned E)∧∃ O',Foot O1 O' v1 w'∧Cl w' O' C p fa cs (s.take1 k j q d) rd (B+2) m):=by
   intro u
   obtain ⟨hj,hk,hb⟩:=HN.out
   have hcd:Cl (v1.drewN u) O1 C p fa cs (s.setNew k j (tkNew true q (s.newest k j))) rd (B+1) m:=HC3.out.below ⟨rfl,rfl,rfl,Nat.le_refl _,fun _ _=>rfl⟩
   obtain ⟨OQ,lost,r1,⟨r2,r3⟩,r4,r5⟩:=hcd.que hk hj hb
   refine (queSend r1 d (by omega) (by omega)).mono ?_
   rintro e w' ⟨he,OQ',t1,t2⟩
   refine ⟨⟨_,he⟩,?_⟩
   have r4':(s.ports k j).length≤16:=r4
   have e1:=put16 (s.ports k j) d hd
   obtain ⟨O',y1,y2⟩:=r5 w' OQ' (B+2) _ _ t1 t2 (by unfold lostK;split <;> omega) (by
    show (putAll (putK (s.ports k j).length 16 d) (s.ports k j) d).length≤16
    rw [e1]
    split
    ·simp only [List.length_append,List.length_cons,List.length_nil];omega
    ·omega) (Nat.le_succ _)
   refine ⟨O',(Foot.drawn O1 v1 u).trans y1,?_⟩
   rw [HST.out,← e1]
   exact y2
  have g1:=(HC3.out.base.dn k j HN.out.2.1 HN.out.1 HN.out.2.2).2.2
  have hdl1:=HC3.out.base.lx _ d1
  have hfl1:w.heap.size<v1.heap.size:=Nat.lt_of_lt_of_le hF HF1.out.size
  have HF0:Hid (Foot O O1 w v1):=(Foot.of_below HV.out).trans HF1.out
  clear HC3 HF1 hf1 hc1 g0 g4 HTk
  go_wp2_with fail
  go_region_held3 (fun u=>u.cell? ⟨w.heap.size,5,none⟩=some (.string d)∧u.cell? ⟨m.D k j,1,none⟩=some (.pointer (some ⟨m.Q k j,0,none⟩))) (go_keep) (first
   | (go_at_call 165;refine (HQ.out _).mono ?_;rintro ev v2 ⟨⟨E,rfl⟩,O2,hf2,hc2⟩;have HD:Hid (∃ O',Foot O O' w v2∧Cl v2 O' C p fa cs (s.take1 k j q d) rd (B+2) m):=⟨O2,HF0.out.trans hf2,hc2⟩;have y5:=(hf2.cell (p:=⟨w.heap.size,5,none⟩) hfl1 HN1.out).trans g5;have y1:=(hc2.base.dn k j HN.out.2.1 HN.out.1 HN.out.2.2).2.2))
  go_wp2
  exact bodyPost_end (v:=.tuple #[]) (by simp [results,Tryz.results123,go_sem]) rfl ⟨rfl,HD.out⟩
theorem ctake_any (h:Cl w O C p fa cs s rd B m) (nd i mem q:Int) (d:ByteArray) (j k:Nat) (hj:j<p.n) (hk:k<p.nl) (hd:d.size≤40) (hB:B≤9999990) :
  Calls Tryz.prog 123 #[.pointer (some ⟨C,0,none⟩),frameV nd i mem k q d,.int .i64 j] w fun e w'=>e=.returned (.tuple #[])∧∃ O',Foot O O' w w'∧Cl w' O' C p fa cs (if bitI (p.lt k) j=true then s.take1 k j q d else s) rd (B+2) m:=by
 cases hb:bitI (p.lt k) j
 ·refine (ctake_not h nd i mem q d j k hj hk hb).mono ?_
  rintro e w' ⟨he,hw⟩
  exact ⟨he,O,Foot.of_below hw,(h.below hw).more (by omega)⟩
 ·exact ctake_end h nd i mem q d j k hj hk hb hd hB
end
end
end Go.Proofs.YthccoinonjoleaaGreatDoor
