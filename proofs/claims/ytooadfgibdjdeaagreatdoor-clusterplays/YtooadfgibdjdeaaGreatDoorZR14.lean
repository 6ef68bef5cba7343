import Derived.Test.YtooadfgibdjdeaaGreatDoorZRPPlay
namespace Go.Proofs.YtooadfgibdjdeaaGreatDoor
open Go.RowKit
set_option maxRecDepth 100000
set_option maxHeartbeats 16000000
section
section
variable {w:World} {O Z:List Nat} {C:Nat} {p:PlanN} {fa:Int} {cs:List Int} {s:ClS} {rd:Int} {B:Nat} {m:RMap}
theorem rput_any (h:RCl w O Z C p fa cs s rd B m) (k:Nat) (d:ByteArray) (hk:k<p.nl) (hB:B≤1000000) :
  Calls Tryz.prog 11 #[.pointer (some ⟨m.S k,0,none⟩),.string d] w fun e w'=>e=.returned (.int .i64 (s.putK p k d))∧∃ O',Foot O O' w w'∧RCl w' O' Z C p fa cs (s.put p k d) rd (B+1) m:=by
 obtain ⟨OS,hS,⟨hS1,hS2,hS3⟩,hback⟩:=h.sdr hk
 refine (refPut_all hS d (by omega)).mono ?_
 rintro e w' ⟨rfl,OS',q1,q2⟩
 refine ⟨rfl,hback w' OS' (B+1) ⟨_,_,_,_⟩ q1 q2 ⟨?_,hS2,?_⟩ (by omega)⟩
 ·show (putAll _ (s.links k).all d).length≤B+1
  unfold putAll
  split
  ·simp only [List.length_append,List.length_cons,List.length_nil];omega
  ·omega
 ·show ∀ d'∈putAll _ (s.links k).all d,d'.size≤40
  intro d' hd'
  unfold putAll at hd'
  by_cases hK:putK ((s.links k).all.length - (s.links k).went) (p.lq k) d=0
  ·rw [if_pos hK] at hd'
   have h1:¬ 40<d.size:=fun q=>by unfold putK at hK;rw [if_pos q] at hK;cases hK
   rcases List.mem_append.1 hd' with q | q
   ·exact hS3 d' q
   ·simp only [List.mem_cons,List.not_mem_nil,or_false] at q
    subst q;omega
  ·rw [if_neg hK] at hd'
   exact hS3 d' hd'
theorem rrecv_bad (h:RCl w O Z C p fa cs s rd B m) (hok:CluOk p fa cs) (j k:Int) (hb:¬ ((0≤j∧j<p.nodes)∧(0≤k∧k<p.nl)∧bitI (p.lt k.toNat) j.toNat=true)) :
  Calls Tryz.prog 13 #[.pointer (some ⟨C,0,none⟩),.int .i64 j,.int .i64 k] w fun e w'=>e=.returned (.tuple #[.string ByteArray.empty,.int .i64 2])∧Below w.heap.size w w':=by
 have hB:=hok.plan.bounds
 have hn1:=hB.n1
 have hn2:=hB.n2
 have hnl:=hB.nl
 by_cases hj:0≤j∧j<p.nodes
 ·by_cases hk:0≤k∧k<p.nl
  ·have hnn:p.nodes=(p.n:Int):=by unfold PlanN.n;omega
   obtain ⟨J,rfl⟩:∃ J:Nat,j=J:=⟨j.toNat,by omega⟩
   obtain ⟨K,rfl⟩:∃ K:Nat,k=K:=⟨k.toNat,by omega⟩
   refine rrecv_bad3 h J K hnn (by omega) (by omega) hnl (by omega) ?_
   cases e:bitI (p.lt K) J with
   | false=>rfl
   | true=>exact absurd ⟨hj,hk,e⟩ hb
  ·exact rrecv_bad2 h j k hn1 hn2 hj hnl hk
 ·exact rrecv_bad1 h j k hn1 hn2 hj
end
structure St (Clu:World→List Nat→Nat→PlanN→Int→List Int→ClS→Int→Nat→Prop) (base:Nat) (w v:World) (XS:List Nat) (u:World) (C D:Nat) (p:PlanN) (fa:Int) (cs1:List Int) (s1:ClS) (rd1:Int) (T1:Nat) (cs2:List Int) (s2:ClS) (rd2:Int) (T2:Nat) (O1 O2 Z:List Nat) (m:RMap):Prop where
 clu:Clu u O1 C p fa cs1 s1 rd1 T1
 rcl:RCl u O2 Z D p fa cs2 s2 rd2 (2600*T2+1) m
 ap:Apart O1 O2
 l1:∀ c,c∈O1→base≤c
 l2:∀ c,c∈O2→base≤c
 lz:∀ c,c∈Z→c<base
 sz:base≤u.heap.size
 wb:w.heap.size≤base
 bel:Below w.heap.size w u
 xs:∀ c,c∈XS→(c∉O1∧c∉O2)∧c<u.heap.size
 same:Same XS v u
section
variable {Clu:World→List Nat→Nat→PlanN→Int→List Int→ClS→Int→Nat→Prop} {base:Nat} {w v u u':World} {XS:List Nat} {C D:Nat} {p:PlanN} {fa:Int} {cs1:List Int} {s1:ClS} {rd1:Int} {T1:Nat} {cs2:List Int} {s2:ClS} {rd2:Int} {T2:Nat} {O1 O1' O2 O2' Z:List Nat} {m m':RMap}
theorem St.below (ops:CluOps Clu) (h:St Clu base w v XS u C D p fa cs1 s1 rd1 T1 cs2 s2 rd2 T2 O1 O2 Z m) (b:Below u.heap.size u u'):St Clu base w v XS u' C D p fa cs1 s1 rd1 T1 cs2 s2 rd2 T2 O1 O2 Z m :=
 ⟨ops.keep h.clu (Same.of_below b (ops.lt h.clu)),h.rcl.below b,h.ap,h.l1,h.l2,h.lz,Nat.le_trans h.sz b.size,h.wb,h.bel.trans (b.mono (Nat.le_trans h.wb h.sz)),fun c hc=>⟨(h.xs c hc).1,Nat.lt_of_lt_of_le (h.xs c hc).2 b.size⟩,⟨Nat.le_trans h.same.1 b.size,fun c hc=>(b.block c (h.xs c hc).2).trans (h.same.2 c hc)⟩⟩
theorem St.left {cs1':List Int} {s1':ClS} {rd1':Int} {T1':Nat} (h:St Clu base w v XS u C D p fa cs1 s1 rd1 T1 cs2 s2 rd2 T2 O1 O2 Z m) (f:Foot O1 O1' u u') (hc:Clu u' O1' C p fa cs1' s1' rd1' T1'):St Clu base w v XS u' C D p fa cs1' s1' rd1' T1' cs2 s2 rd2 T2 O1' O2 Z m :=
 ⟨hc,h.rcl.keep (f.same h.ap h.rcl.lt) (f.same (fun c hc hz=>by have:=h.l1 c hc;have:=h.lz c hz;omega) h.rcl.rows.zl),f.apart h.ap h.rcl.lt,f.above h.l1 h.sz,h.l2,h.lz,Nat.le_trans h.sz f.size,h.wb,h.bel.trans ((f.below h.l1 h.sz).mono h.wb),fun c hc=>⟨⟨fun y=>(f.fresh c y).elim (h.xs c hc).1.1 (fun z=>by have:=(h.xs c hc).2;omega),(h.xs c hc).1.2⟩,Nat.lt_of_lt_of_le (h.xs c hc).2 f.size⟩,⟨Nat.le_trans h.same.1 f.size,fun c hc=>(f.block c (h.xs c hc).2 (h.xs c hc).1.1).trans (h.same.2 c hc)⟩⟩
theorem St.right (ops:CluOps Clu) {cs2':List Int} {s2':ClS} {rd2':Int} {T2':Nat} (h:St Clu base w v XS u C D p fa cs1 s1 rd1 T1 cs2 s2 rd2 T2 O1 O2 Z m) (f:Foot O2 O2' u u') (hc:RCl u' O2' Z D p fa cs2' s2' rd2' (2600*T2'+1) m'):St Clu base w v XS u' C D p fa cs1 s1 rd1 T1 cs2' s2' rd2' T2' O1 O2' Z m' :=
 ⟨ops.keep h.clu (f.same h.ap.symm (ops.lt h.clu)),hc,(f.apart h.ap.symm (ops.lt h.clu)).symm,h.l1,f.above h.l2 h.sz,h.lz,Nat.le_trans h.sz f.size,h.wb,h.bel.trans ((f.below h.l2 h.sz).mono h.wb),fun c hc=>⟨⟨(h.xs c hc).1.1,fun y=>(f.fresh c y).elim (h.xs c hc).1.2 (fun z=>by have:=(h.xs c hc).2;omega)⟩,Nat.lt_of_lt_of_le (h.xs c hc).2 f.size⟩,⟨Nat.le_trans h.same.1 f.size,fun c hc=>(f.block c (h.xs c hc).2 (h.xs c hc).1.2).trans (h.same.2 c hc)⟩⟩
theorem St.over (ops:CluOps Clu) {v2:World} {YS:List Nat} (h:St Clu base w v XS u C D p fa cs1 s1 rd1 T1 cs2 s2 rd2 T2 O1 O2 Z m) (b:Below u.heap.size u v2) (hY:∀ c,c∈YS→u.heap.size≤c∧c<v2.heap.size):St Clu base w v2 YS v2 C D p fa cs1 s1 rd1 T1 cs2 s2 rd2 T2 O1 O2 Z m :=
 have h2:=h.below ops b
 ⟨h2.clu,h2.rcl,h2.ap,h2.l1,h2.l2,h2.lz,h2.sz,h2.wb,h2.bel,fun c hc=>⟨⟨fun y=>by have:=ops.lt h.clu c y;have:=(hY c hc).1;omega,fun y=>by have:=h.rcl.lt c y;have:=(hY c hc).1;omega⟩,(hY c hc).2⟩,Nat.le_refl _,fun _ _=>rfl⟩
theorem St.cell (h:St Clu base w v XS u C D p fa cs1 s1 rd1 T1 cs2 s2 rd2 T2 O1 O2 Z m) {b i:Nat} (hb:b∈XS):u.cell? ⟨b,i,none⟩=v.cell? ⟨b,i,none⟩:=h.same.cell (p:=⟨b,i,none⟩) hb
end
end
section
theorem cbtr {w v v':World} (h:Below w.heap.size w v) (k:Below v.heap.size v v'):Below w.heap.size w v':=h.trans (k.mono h.size)
theorem bdN (v:World) (q:Nat):Below v.heap.size v (v.drewN q):=⟨rfl,rfl,rfl,Nat.le_refl _,fun _ _=>rfl⟩
theorem bare_errV (k:Int):BareSays (errV k) k:=by
 unfold errV
 by_cases h:k=0
 ·rw [if_pos h,h];exact bare_nil
 ·rw [if_neg h];exact bare_e k
theorem rows3_same {w w':World} {X:List Nat} {a:Option Addr} {n:Nat} {f g h:Nat→Int} (hr:Rows3 w a n f g h) (k:Same X w w') (hX:∀ b off s,a=some ⟨b,off,s⟩→b∈X):Rows3 w' a n f g h:=fun h0=>by
 obtain ⟨b,off,e,hb,hc⟩:=hr h0
 have hm:=hX b off none e
 exact ⟨b,off,e,Nat.lt_of_lt_of_le hb k.1,fun j hj=>⟨(k.cell (p:=⟨b,off+j*3,none⟩) hm).trans (hc j hj).1,(k.cell (p:=⟨b,off+j*3+1,none⟩) hm).trans (hc j hj).2.1,(k.cell (p:=⟨b,off+j*3+2,none⟩) hm).trans (hc j hj).2.2⟩⟩
section
variable {Clu:World→List Nat→Nat→PlanN→Int→List Int→ClS→Int→Nat→Prop} {base:Nat} {w v u:World} {XS:List Nat} {C D:Nat} {p:PlanN} {fa:Int} {cs1:List Int} {s1:ClS} {rd1:Int} {T1:Nat} {cs2:List Int} {s2:ClS} {rd2:Int} {T2:Nat} {O1 O2 Z:List Nat} {m:RMap}
theorem st_play1 (ops:CluOps Clu) (h:St Clu base w v XS u C D p fa cs1 s1 rd1 T1 cs2 s2 rd2 T2 O1 O2 Z m) (hT:T1≤300) (r:RoundN) (a:RoundAt) (hr:r.In a w) :
  Calls Tryz.prog 9 #[.pointer (some ⟨C,0,none⟩),r.val a] u fun e u1=>∃ O1',(cluFar p fa cs1 r=true∧e=.returned (errV 6)∧St Clu base w v XS u1 C D p fa cs1 s1 rd1 T1 cs2 s2 rd2 T2 O1' O2 Z m)∨(cluFar p fa cs1 r=false∧e=.returned (errV 0)∧St Clu base w v XS u1 C D p fa (cluTo p fa cs1 r) (cluOn p fa s1 rd1 r) (rd1+1) (T1+1) cs2 s2 rd2 T2 O1' O2 Z m):=by
 refine (ops.play r a h.clu hT (hr.below h.bel) (fun b off e h0 y=>?_)).mono ?_
 ·have:=hr.low b off e h0
  have:=h.l1 b y
  have:=h.wb
  omega
 ·rintro e u1 ⟨O',f,⟨q,he,hc⟩ | ⟨q,he,hc⟩⟩
  ·exact ⟨O',.inl ⟨q,he,h.left f hc⟩⟩
  ·exact ⟨O',.inr ⟨q,he,h.left f hc⟩⟩
theorem st_play2 (ops:CluOps Clu) (h:St Clu base w v XS u C D p fa cs1 s1 rd1 T1 cs2 s2 rd2 T2 O1 O2 Z m) (hok:CluOk p fa cs2) (h0:0≤rd2) (h1:rd2≤T2) (hT:T2≤300) (hfine:Fine0 w) (r:RoundN) (a:RoundAt) (hr:r.In a w) (va ra:Option Addr) (vc rc:Nat) (hv:Rows3 v va r.nL r.ls r.lc r.lt) (hv2:Rows3 v ra r.nR r.rn r.ro r.ri) (hx:∀ b off s,va=some ⟨b,off,s⟩→b∈XS) (hx2:∀ b off s,ra=some ⟨b,off,s⟩→b∈XS) :
  Calls Tryz.prog 10 #[.pointer (some ⟨D,0,none⟩),.slice va r.nL vc,.slice ra r.nR rc,.slice a.da r.drifts.length a.dc,.slice a.ma r.modes.length a.mc] u fun e u1=>∃ O2' m',(cluFar p fa cs2 r=true∧e=.returned (.int .i64 6)∧St Clu base w v XS u1 C D p fa cs1 s1 rd1 T1 cs2 s2 rd2 T2 O1 O2' Z m')∨(cluFar p fa cs2 r=false∧e=.returned (.int .i64 0)∧St Clu base w v XS u1 C D p fa cs1 s1 rd1 T1 (cluTo p fa cs2 r) (cluOn p fa s2 rd2 r) (rd2+1) (T2+1) O1 O2' Z m'):=by
 have hru:=hr.below h.bel
 have hI:r.In ⟨va,vc,ra,rc,a.da,a.dc,a.ma,a.mc⟩ u:=⟨rows3_same hv h.same hx,rows3_same hv2 h.same hx2,hru.drifts,hru.modes,hru.ints,hru.lL,hru.lR,hru.lD,hru.lM⟩
 refine (rplay_any h.rcl hok h0 (by omega) (by omega) (by omega) (hfine.below h.bel) r ⟨va,vc,ra,rc,a.da,a.dc,a.ma,a.mc⟩ hI (fun b off e=>?_) (fun b off e h00 y=>?_)).mono ?_
 ·have hm:=h.xs b (hx b off none e)
  exact ⟨hm.1.2,hm.2⟩
 ·have:=hr.low b off e h00
  have:=h.l2 b y
  have:=h.wb
  omega
 ·rintro e u1 ⟨O',f,⟨q,he,hc⟩ | ⟨q,he,m',hc⟩⟩
  ·exact ⟨O',m,.inl ⟨q,he,h.right ops f hc⟩⟩
  ·refine ⟨O',m',.inr ⟨q,he,h.right ops f ?_⟩⟩
   exact hc
theorem st_put2 (ops:CluOps Clu) (h:St Clu base w v XS u C D p fa cs1 s1 rd1 T1 cs2 s2 rd2 T2 O1 O2 Z m) (hT:T2≤300) (k:Nat) (d:ByteArray) (hk:k<p.nl) :
  Calls Tryz.prog 11 #[.pointer (some ⟨m.S k,0,none⟩),.string d] u fun e u1=>e=.returned (.int .i64 (s2.putK p k d))∧∃ O2',St Clu base w v XS u1 C D p fa cs1 s1 rd1 T1 cs2 (s2.put p k d) rd2 (T2+1) O1 O2' Z m:=by
 refine (rput_any h.rcl k d hk (by omega)).mono ?_
 rintro e u1 ⟨he,O',f,hc⟩
 exact ⟨he,O',h.right ops f (hc.more (by omega))⟩
theorem st_put1 (ops:CluOps Clu) (h:St Clu base w v XS u C D p fa cs1 s1 rd1 T1 cs2 s2 rd2 T2 O1 O2 Z m) (hT:T1≤300) (k:Nat) (d:ByteArray) (hk:k<p.nl) :
  Calls Tryz.prog 12 #[.pointer (some ⟨C,0,none⟩),.int .i64 k,.string d] u fun e u1=>e=.returned (errV (s1.putK p k d))∧∃ O1',St Clu base w v XS u1 C D p fa cs1 (s1.put p k d) rd1 (T1+1) cs2 s2 rd2 T2 O1' O2 Z m:=by
 refine (ops.put k d h.clu hT hk).mono ?_
 rintro e u1 ⟨he,O',f,hc⟩
 exact ⟨he,O',h.left f hc⟩
theorem st_recv2 (ops:CluOps Clu) (h:St Clu base w v XS u C D p fa cs1 s1 rd1 T1 cs2 s2 rd2 T2 O1 O2 Z m) (hok:CluOk p fa cs2) (j k:Nat) (hj:j<p.n) (hk:k<p.nl) (hb:bitI (p.lt k) j=true) :
  Calls Tryz.prog 13 #[.pointer (some ⟨D,0,none⟩),.int .i64 j,.int .i64 k] u fun e u1=>e=.returned (.tuple #[.string (recvD (s2.ports k j)),.int .i64 (recvK (s2.ports k j))])∧∃ O2',St Clu base w v XS u1 C D p fa cs1 s1 rd1 T1 cs2 (s2.recv k j) rd2 T2 O1 O2' Z m:=by
 have hB:=hok.plan.bounds
 have hn1:=hB.n1
 have hn2:=hB.n2
 have hnn:p.nodes=(p.n:Int):=by unfold PlanN.n;omega
 refine (rrecv_any h.rcl j k hnn (by omega) hj hB.nl hk hb).mono ?_
 rintro e u1 ⟨he,O',f,hc⟩
 exact ⟨he,O',h.right ops f hc⟩
theorem st_recv1 (ops:CluOps Clu) (h:St Clu base w v XS u C D p fa cs1 s1 rd1 T1 cs2 s2 rd2 T2 O1 O2 Z m) (j k:Nat) (hj:j<p.n) (hk:k<p.nl) (hb:bitI (p.lt k) j=true) :
  Calls Tryz.prog 14 #[.pointer (some ⟨C,0,none⟩),.int .i64 j,.int .i64 k] u fun e u1=>e=.returned (.tuple #[.string (recvD (s1.ports k j)),errV (recvK (s1.ports k j))])∧∃ O1',St Clu base w v XS u1 C D p fa cs1 (s1.recv k j) rd1 T1 cs2 s2 rd2 T2 O1' O2 Z m:=by
 refine (ops.recv j k h.clu hj hk hb).mono ?_
 rintro e u1 ⟨he,O',f,hc⟩
 exact ⟨he,O',h.left f hc⟩
end
def StX (Clu:World→List Nat→Nat→PlanN→Int→List Int→ClS→Int→Nat→Prop) (base:Nat) (w v:World) (XS:List Nat) (u:World) (C D:Nat) (p:PlanN) (fa:Int) (cs1:List Int) (s1:ClS) (rd1:Int) (T1:Nat) (cs2:List Int) (s2:ClS) (rd2:Int) (T2:Nat):Prop:=∃ O1 O2 Z m,St Clu base w v XS u C D p fa cs1 s1 rd1 T1 cs2 s2 rd2 T2 O1 O2 Z m
def LS (Clu:World→List Nat→Nat→PlanN→Int→List Int→ClS→Int→Nat→Prop) (base:Nat) (w u:World) (C D:Nat) (p:PlanN) (fa:Int) (i:Nat):Prop:=∃ T cs s rd,T≤i∧StX Clu base w u [] u C D p fa cs s rd T cs s rd T
section
variable {Clu:World→List Nat→Nat→PlanN→Int→List Int→ClS→Int→Nat→Prop} {base:Nat} {w v u u':World} {XS:List Nat} {C D:Nat} {p:PlanN} {fa:Int} {cs1 cs2 cs:List Int} {s1 s2 s:ClS} {rd1 rd2 rd:Int} {T1 T2 T:Nat}
theorem StX.below (ops:CluOps Clu) (h:StX Clu base w v XS u C D p fa cs1 s1 rd1 T1 cs2 s2 rd2 T2) (b:Below u.heap.size u u'):StX Clu base w v XS u' C D p fa cs1 s1 rd1 T1 cs2 s2 rd2 T2:=by
 obtain ⟨O1,O2,Z,m,h⟩:=h
 exact ⟨O1,O2,Z,m,h.below ops b⟩
theorem StX.over (ops:CluOps Clu) {v2:World} {YS:List Nat} (h:StX Clu base w v XS u C D p fa cs1 s1 rd1 T1 cs2 s2 rd2 T2) (b:Below u.heap.size u v2) (hY:∀ c,c∈YS→u.heap.size≤c∧c<v2.heap.size):StX Clu base w v2 YS v2 C D p fa cs1 s1 rd1 T1 cs2 s2 rd2 T2:=by
 obtain ⟨O1,O2,Z,m,h⟩:=h
 exact ⟨O1,O2,Z,m,h.over ops b hY⟩
theorem StX.cell (h:StX Clu base w v XS u C D p fa cs1 s1 rd1 T1 cs2 s2 rd2 T2) {b i:Nat} (hb:b∈XS):u.cell? ⟨b,i,none⟩=v.cell? ⟨b,i,none⟩:=by
 obtain ⟨O1,O2,Z,m,h⟩:=h
 exact h.cell hb
theorem StX.bel (h:StX Clu base w v XS u C D p fa cs1 s1 rd1 T1 cs2 s2 rd2 T2):Below w.heap.size w u:=by
 obtain ⟨O1,O2,Z,m,h⟩:=h
 exact h.bel
theorem StX.ls (ops:CluOps Clu) (h:StX Clu base w v XS u C D p fa cs s rd T cs s rd T) {i:Nat} (hT:T≤i):LS Clu base w u C D p fa i :=
 ⟨T,cs,s,rd,hT,h.over ops (Below.refl _ _) (fun _ hc=>absurd hc List.not_mem_nil)⟩
theorem stx_play (ops:CluOps Clu) (hok:CluOk p fa cs) (h0:0≤rd) (h1:rd≤T) (hT:T≤300) (hfine:Fine0 w) (r:RoundN) (a:RoundAt) (hr:r.In a w) (va ra:Option Addr) (vc rc:Nat) (hv:Rows3 v va r.nL r.ls r.lc r.lt) (hv2:Rows3 v ra r.nR r.rn r.ro r.ri) (hx:∀ b off s,va=some ⟨b,off,s⟩→b∈XS) (hx2:∀ b off s,ra=some ⟨b,off,s⟩→b∈XS) :
  ∃ K cs' s' rd' T',T'≤T+1∧(∀ u,StX Clu base w v XS u C D p fa cs s rd T cs s rd T→Calls Tryz.prog 9 #[.pointer (some ⟨C,0,none⟩),r.val a] u fun e u1=>e=.returned (errV K)∧StX Clu base w v XS u1 C D p fa cs' s' rd' T' cs s rd T) ∧
   (∀ u,StX Clu base w v XS u C D p fa cs' s' rd' T' cs s rd T→Calls Tryz.prog 10 #[.pointer (some ⟨D,0,none⟩),.slice va r.nL vc,.slice ra r.nR rc,.slice a.da r.drifts.length a.dc,.slice a.ma r.modes.length a.mc] u fun e u1=>e=.returned (.int .i64 K)∧StX Clu base w v XS u1 C D p fa cs' s' rd' T' cs' s' rd' T'):=by
 cases hf:cluFar p fa cs r with
 | true =>
  refine ⟨6,cs,s,rd,T,by omega,fun u h=>?_,fun u h=>?_⟩
  ·obtain ⟨O1,O2,Z,m,h⟩:=h
   refine (st_play1 ops h hT r a hr).mono ?_
   rintro e u1 ⟨O',⟨_,he,hs⟩ | ⟨q,_⟩⟩
   ·exact ⟨he,_,_,_,_,hs⟩
   ·rw [hf] at q;cases q
  ·obtain ⟨O1,O2,Z,m,h⟩:=h
   refine (st_play2 ops h hok h0 h1 hT hfine r a hr va ra vc rc hv hv2 hx hx2).mono ?_
   rintro e u1 ⟨O',m',⟨_,he,hs⟩ | ⟨q,_⟩⟩
   ·exact ⟨he,_,_,_,_,hs⟩
   ·rw [hf] at q;cases q
 | false =>
  refine ⟨0,cluTo p fa cs r,cluOn p fa s rd r,rd+1,T+1,Nat.le_refl _,fun u h=>?_,fun u h=>?_⟩
  ·obtain ⟨O1,O2,Z,m,h⟩:=h
   refine (st_play1 ops h hT r a hr).mono ?_
   rintro e u1 ⟨O',⟨q,_⟩ | ⟨_,he,hs⟩⟩
   ·rw [hf] at q;cases q
   ·exact ⟨he,_,_,_,_,hs⟩
  ·obtain ⟨O1,O2,Z,m,h⟩:=h
   refine (st_play2 ops h hok h0 h1 hT hfine r a hr va ra vc rc hv hv2 hx hx2).mono ?_
   rintro e u1 ⟨O',m',⟨q,_⟩ | ⟨_,he,hs⟩⟩
   ·rw [hf] at q;cases q
   ·exact ⟨he,_,_,_,_,hs⟩
end
structure StepN where
 what:Int
 node:Int
 link:Int
 data:ByteArray
 r:RoundN
 a:RoundAt
def StepsIn (w:World) (a:Option Addr) (n:Nat) (S:Nat→StepN):Prop :=
 0<n→∃ b off,a=some ⟨b,off,none⟩∧b<w.heap.size∧∀ j,j<n→((w.cell? ⟨b,off+j*8,none⟩=some (.int .i64 (S j).what)∧w.cell? ⟨b,off+j*8+1,none⟩=some (.int .i64 (S j).node)∧w.cell? ⟨b,off+j*8+2,none⟩=some (.int .i64 (S j).link)∧w.cell? ⟨b,off+j*8+3,none⟩=some (.string (S j).data))∧w.cell? ⟨b,off+j*8+4,none⟩=some (.slice (S j).a.la (S j).r.nL (S j).a.lc)∧w.cell? ⟨b,off+j*8+5,none⟩=some (.slice (S j).a.ra (S j).r.nR (S j).a.rc)∧w.cell? ⟨b,off+j*8+6,none⟩=some (.slice (S j).a.da (S j).r.drifts.length (S j).a.dc)∧w.cell? ⟨b,off+j*8+7,none⟩=some (.slice (S j).a.ma (S j).r.modes.length (S j).a.mc))∧(S j).r.In (S j).a w
theorem StepsIn.below {w w':World} {a:Option Addr} {n:Nat} {S:Nat→StepN} (h:StepsIn w a n S) (hb:Below w.heap.size w w'):StepsIn w' a n S:=by
 intro hn
 obtain ⟨b,off,e,hl,hc⟩:=h hn
 refine ⟨b,off,e,Nat.lt_of_lt_of_le hl hb.size,fun j hj=>?_⟩
 obtain ⟨⟨⟨c0,c1,c2,c3⟩,c4,c5,c6,c7⟩,hI⟩:=hc j hj
 have k:∀ q,w'.cell? ⟨b,q,none⟩=w.cell? ⟨b,q,none⟩:=fun q=>hb.cell (p:=⟨b,q,none⟩) hl
 exact ⟨⟨⟨(k _).trans c0,(k _).trans c1,(k _).trans c2,(k _).trans c3⟩,(k _).trans c4,(k _).trans c5,(k _).trans c6,(k _).trans c7⟩,hI.below hb⟩
theorem StepsIn.at {w:World} {a:Option Addr} {n:Nat} {S:Nat→StepN} (h:StepsIn w a n S) {j:Nat} (hj:j<n):(S j).r.In (S j).a w:=by
 obtain ⟨b,off,_,_,hc⟩:=h (by omega)
 exact (hc j hj).2
end
end Go.Proofs.YtooadfgibdjdeaaGreatDoor
