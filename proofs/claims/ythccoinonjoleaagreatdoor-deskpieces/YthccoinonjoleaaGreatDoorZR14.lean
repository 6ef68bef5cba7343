import Derived.Test.YthccoinonjoleaaGreatDoorZDkQues
import Derived.Lib.ItoaLen
namespace Go.Proofs.YthccoinonjoleaaGreatDoor
open Go.RowKit
set_option maxRecDepth 100000
set_option maxHeartbeats 16000000
section
theorem clockOf_any (n:List Int) (hn:n.length=5) (a:Option Addr) (cap:Nat) (tx:ByteArray) (w:World) (hr:IntRow w a n) :
  Calls Tryz.prog 62 #[.agg #[.slice a 5 cap,.string tx]] w fun e w'=>e=.returned (.tuple #[.agg #[.int .i64 (n.getD 0 0),.int .i64 (n.getD 1 0),.int .i64 (n.getD 2 0),.int .i64 (n.getD 3 0)],.int .i64 (n.getD 4 0)])∧Below w.heap.size w w':=by
 obtain ⟨b,off,rfl,hbl,hc⟩:=hr (by omega)
 rw [hn] at hc
 generalize hV:(w.alloc (.cells #[.slice (some ⟨b,off,none⟩) 5 cap,.string tx] 71)).alloc (.cells #[.int .i64 0,.int .i64 0,.int .i64 0,.int .i64 0] 110)=V
 have hB:Below w.heap.size w V:=hV▸((Below.refl _ w).alloc (Nat.le_refl _) _).alloc (by simp) _
 have x0:V.cell? ⟨w.heap.size,0,none⟩=some (.slice (some ⟨b,off,none⟩) 5 cap):=by rw [← hV];simp [go_sem]
 have k0:V.cell? ⟨w.heap.size+1,0,none⟩=some (.int .i64 0):=by rw [← hV];simp [go_sem]
 have k1:V.cell? ⟨w.heap.size+1,1,none⟩=some (.int .i64 0):=by rw [← hV];simp [go_sem]
 have k2:V.cell? ⟨w.heap.size+1,2,none⟩=some (.int .i64 0):=by rw [← hV];simp [go_sem]
 have k3:V.cell? ⟨w.heap.size+1,3,none⟩=some (.int .i64 0):=by rw [← hV];simp [go_sem]
 have z0:∀ i,V.frozen? ⟨w.heap.size+1,i,none⟩=false:=fun i=>by rw [← hV];simp [go_sem]
 have n0:V.cell? ⟨b,off,none⟩=some (.int .i64 (n.getD 0 0)):=(hB.cell (p:=⟨b,off,none⟩) hbl).trans (hc 0 (by decide))
 have n1:V.cell? ⟨b,off+1,none⟩=some (.int .i64 (n.getD 1 0)):=(hB.cell (p:=⟨b,off+1,none⟩) hbl).trans (hc 1 (by decide))
 have n2:V.cell? ⟨b,off+2,none⟩=some (.int .i64 (n.getD 2 0)):=(hB.cell (p:=⟨b,off+2,none⟩) hbl).trans (hc 2 (by decide))
 have n3:V.cell? ⟨b,off+3,none⟩=some (.int .i64 (n.getD 3 0)):=(hB.cell (p:=⟨b,off+3,none⟩) hbl).trans (hc 3 (by decide))
 have n4:V.cell? ⟨b,off+4,none⟩=some (.int .i64 (n.getD 4 0)):=(hB.cell (p:=⟨b,off+4,none⟩) hbl).trans (hc 4 (by decide))
 have hb1:b≠w.heap.size+1:=by omega
 have HB:Hid (∀ q x0 x1 x2 x3,Below w.heap.size w (((((V.drewN q).setCell ⟨w.heap.size+1,0,none⟩ x0).setCell ⟨w.heap.size+1,1,none⟩ x1).setCell ⟨w.heap.size+1,2,none⟩ x2).setCell ⟨w.heap.size+1,3,none⟩ x3)):=fun q x0 x1 x2 x3=>((((below_drewN1 hB q).setCell (p:=⟨w.heap.size+1,0,none⟩) (by show w.heap.size≤w.heap.size+1;omega) _).setCell (p:=⟨w.heap.size+1,1,none⟩) (by show w.heap.size≤w.heap.size+1;omega) _).setCell (p:=⟨w.heap.size+1,2,none⟩) (by show w.heap.size≤w.heap.size+1;omega) _).setCell (p:=⟨w.heap.size+1,3,none⟩) (by show w.heap.size≤w.heap.size+1;omega) _
 clear hc hr hn hB
 generalize n.getD 0 0=y0 at *
 generalize n.getD 1 0=y1 at *
 generalize n.getD 2 0=y2 at *
 generalize n.getD 3 0=y3 at *
 generalize n.getD 4 0=y4 at *
 go_enter Tryz.func62,Tryz.ntmps62
 go_wp2_with fail
 go_region
 go_wp2_with fail
 refine bodyPost_ret (v:=.tuple #[.agg #[.int .i64 y0,.int .i64 y1,.int .i64 y2,.int .i64 y3],.int .i64 y4]) (by simp [results,Tryz.results62,go_sem,k0,k1,k2,k3]) rfl ⟨rfl,?_⟩
 exact (HB.out 0 _ _ _ _).drew
theorem local_tells (f s n d r:Int) (u:World):Calls Tryz.prog 63 #[.agg #[.int .i64 f,.int .i64 s,.int .i64 n,.int .i64 d],.int .i64 r] u fun e w'=>∃ x,e=.returned (.tuple #[.int .i64 x,errV (localQ f s n d r)])∧(localQ f s n d r=0→x=s+(r - f)*n / d∧intR x)∧Below u.heap.size u w':=by
 by_cases h1:rightB f s n d=false
 ·have e:localQ f s n d r=1:=by unfold localQ;rw [if_pos h1]
  rw [e]
  exact (local_arg f s n d r u h1).mono fun ev w' h=>⟨0,h.1,fun q=>(by cases q),h.2⟩
 ·have h1':rightB f s n d=true:=by simpa using h1
  by_cases h2:r<f∨1099511627776<r∨1099511627776<s+(r - f)*n / d
  ·have e:localQ f s n d r=2:=by unfold localQ;rw [if_neg h1,if_pos h2]
   rw [e]
   by_cases h3:r<f
   ·exact (local_early f s n d r u h1' h3).mono fun ev w' h=>⟨0,h.1,fun q=>(by cases q),h.2⟩
   ·by_cases h4:1099511627776<r
    ·exact (local_late f s n d r u h1' h4).mono fun ev w' h=>⟨0,h.1,fun q=>(by cases q),h.2⟩
    ·exact (local_high f s n d r u h1' (by omega) (by omega) (by rcases h2 with q | q | q;exact absurd q h3;exact absurd q h4;exact q)).mono fun ev w' h=>⟨0,h.1,fun q=>(by cases q),h.2⟩
  ·have e:localQ f s n d r=0:=by unfold localQ;rw [if_neg h1,if_neg h2]
   rw [e]
   simp only [not_or] at h2
   obtain ⟨q1,q2,q3⟩:=h2
   refine (local_ok f s n d r u h1' (by omega) (by omega) (by omega)).mono fun ev w' h=>⟨_,h.1,fun _=>⟨rfl,?_⟩,h.2⟩
   obtain ⟨a1,a2,a3,a4,a5,a6,a7,a8,a9,a10⟩:=right_of h1'
   have:=quo_bounds (x:=r - f) (n:=n) (d:=d) (M:=1099511627776) (by omega) (by omega) a5 a7 a9
   exact ⟨by omega,by omega⟩
theorem real_tells (f s n d l:Int) (u:World):Calls Tryz.prog 64 #[.agg #[.int .i64 f,.int .i64 s,.int .i64 n,.int .i64 d],.int .i64 l] u fun e w'=>∃ x,e=.returned (.tuple #[.int .i64 x,errV (realQ f s n d l)])∧(realQ f s n d l=0→x=realX f s n d l∧intR x)∧Below u.heap.size u w':=by
 by_cases h1:rightB f s n d=false
 ·have e:realQ f s n d l=1:=by unfold realQ;rw [if_pos h1]
  rw [e]
  exact (real_arg f s n d l u h1).mono fun ev w' h=>⟨0,h.1,fun q=>(by cases q),h.2⟩
 ·have h1':rightB f s n d=true:=by simpa using h1
  obtain ⟨a1,a2,a3,a4,a5,a6,a7,a8,a9,a10⟩:=right_of h1'
  by_cases h2:l < -1099511627776∨1099511627776<l∨1099511627776<realX f s n d l
  ·have e:realQ f s n d l=2:=by unfold realQ;rw [if_neg h1,if_pos h2]
   rw [e]
   by_cases h3:l < -1099511627776
   ·exact (real_low f s n d l u h1' h3).mono fun ev w' h=>⟨0,h.1,fun q=>(by cases q),h.2⟩
   ·by_cases h4:1099511627776<l
    ·exact (real_tall f s n d l u h1' h4).mono fun ev w' h=>⟨0,h.1,fun q=>(by cases q),h.2⟩
    ·have h5:1099511627776<realX f s n d l:=by rcases h2 with q | q | q;exact absurd q h3;exact absurd q h4;exact q
     by_cases h6:l≤s
     ·unfold realX at h5;rw [if_pos h6] at h5;omega
     ·unfold realX at h5;rw [if_neg h6] at h5
      exact (real_late f s n d l u h1' (by omega) (by omega) h5).mono fun ev w' h=>⟨0,h.1,fun q=>(by cases q),h.2⟩
  ·have e:realQ f s n d l=0:=by unfold realQ;rw [if_neg h1,if_neg h2]
   rw [e]
   simp only [not_or] at h2
   obtain ⟨q1,q2,q3⟩:=h2
   by_cases h6:l≤s
   ·have e2:realX f s n d l=f:=by unfold realX;rw [if_pos h6]
    rw [e2]
    exact (real_first f s n d l u h1' (by omega) h6).mono fun ev w' h=>⟨f,h.1,fun _=>⟨rfl,by omega,by omega⟩,h.2⟩
   ·have e2:realX f s n d l=f+((l - s)*d+n - 1) / n:=by unfold realX;rw [if_neg h6]
    rw [e2] at q3 ⊢
    refine (real_ok f s n d l u h1' (by omega) (by omega) (by omega)).mono fun ev w' h=>⟨_,h.1,fun _=>⟨rfl,?_⟩,h.2⟩
    have:=up_bounds (x:=l - s) (n:=n) (d:=d) (M:=2199023255552) (by omega) (by omega) a5 a7 a10
    exact ⟨by omega,by omega⟩
theorem local_does {w:World} {base S:Nat} {M O:List Nat} {st:DkS} {A:SesA} {N:Nat} (h:Ses w base S M O st A N) (hD:DeskW w.heap.size w) (n:List Int) (hn:n.length=5) (a:Option Addr) (cap:Nat) (tx:ByteArray) (hr:IntRow w a n) :
  Calls Tryz.prog 29 #[.pointer (some ⟨S,0,none⟩),.agg #[.slice a n.length cap,.string tx]] w (DoesP base S M O st N .local_ n tx w):=by
 rw [hn]
 generalize hV:w.alloc (.cells #[.slice a 5 cap,.string tx] 71)=V
 have hB:Below w.heap.size w V:=hV▸(Below.refl _ w).alloc (Nat.le_refl _) _
 have x0:V.cell? ⟨w.heap.size,0,none⟩=some (.slice a 5 cap):=by rw [← hV];simp [go_sem]
 have x1:V.cell? ⟨w.heap.size,1,none⟩=some (.string tx):=by rw [← hV];simp [go_sem]
 have hC:=clockOf_any n hn a cap tx V (hr.below hB)
 have HD:Hid (∀ u,Below w.heap.size w u→Desk0 u):=fun u hu=>hD u hu
 have HB:Hid (Below w.heap.size w V):=hB
 have HL:Hid (∀ u:World,Calls Tryz.prog 63 #[.agg #[.int .i64 (n.getD 0 0),.int .i64 (n.getD 1 0),.int .i64 (n.getD 2 0),.int .i64 (n.getD 3 0)],.int .i64 (n.getD 4 0)] u fun e w'=>∃ x,e=.returned (.tuple #[.int .i64 x,errV (localQ (n.getD 0 0) (n.getD 1 0) (n.getD 2 0) (n.getD 3 0) (n.getD 4 0))])∧(localQ (n.getD 0 0) (n.getD 1 0) (n.getD 2 0) (n.getD 3 0) (n.getD 4 0)=0→x=n.getD 1 0+(n.getD 4 0 - n.getD 0 0)*n.getD 2 0 / n.getD 3 0∧intR x)∧Below u.heap.size u w'):=fun u=>local_tells _ _ _ _ _ u
 have HE:Hid (∀ w' e,Below V.heap.size V w'→e=(numRes (localQ (n.getD 0 0) (n.getD 1 0) (n.getD 2 0) (n.getD 3 0) (n.getD 4 0)) (n.getD 1 0+(n.getD 4 0 - n.getD 0 0)*n.getD 2 0 / n.getD 3 0)).ending→DoesP base S M O st N .local_ n tx w e w'):=fun w' e q1 q2=>asks_end h hB q1 (k:=.local_) (n:=n) (tx:=tx) ⟨rfl,rfl⟩ q2
 clear h hD hr hB hn
 generalize n.getD 1 0+(n.getD 4 0 - n.getD 0 0)*n.getD 2 0 / n.getD 3 0=vl at *
 generalize localQ (n.getD 0 0) (n.getD 1 0) (n.getD 2 0) (n.getD 3 0) (n.getD 4 0)=me at *
 generalize n.getD 0 0=y0 at *
 generalize n.getD 1 0=y1 at *
 generalize n.getD 2 0=y2 at *
 generalize n.getD 3 0=y3 at *
 generalize n.getD 4 0=y4 at *
 go_enter Tryz.func29,Tryz.ntmps29
 go_wp2_with fail
 refine hC.mono ?_
 rintro ev u1 ⟨rfl,b1⟩
 go_wp2_with fail
 refine (HL.out _).mono ?_
 rintro ev u2 ⟨x,rfl,hx,hu2⟩
 have b2:Below V.heap.size V u2:=(b1.alloc b1.size _).trans (hu2.mono (by have:=b1.size;simp;omega))
 have hR:=rightInt_any x me u2 (HD.out u2 (HB.out.trans (b2.mono HB.out.size))).told
 go_wp2_with fail
 refine hR.mono ?_
 rintro ev u3 ⟨he3,hu3⟩
 have b3:Below V.heap.size V u3:=b2.trans (hu3.mono b2.size)
 by_cases hme:me=0
 ·rw [if_pos hme] at he3
  subst he3
  obtain ⟨rfl,hir⟩:=hx hme
  have hI:=itoa_any x hir u3 (HD.out u3 (HB.out.trans (b3.mono HB.out.size)))
  go_wp2_with fail
  refine hI.mono ?_
  rintro ev u4 ⟨rfl,hu4⟩
  go_wp2_with fail
  go_ret
  exact HE.out u4 _ (b3.trans (hu4.mono b3.size)) (by rw [numRes,if_pos hme];rfl)
 ·rw [if_neg hme] at he3
  subst he3
  exact ⟨rfl,HE.out u3 _ b3 (by rw [numRes,if_neg hme];rfl)⟩
theorem real_does {w:World} {base S:Nat} {M O:List Nat} {st:DkS} {A:SesA} {N:Nat} (h:Ses w base S M O st A N) (hD:DeskW w.heap.size w) (n:List Int) (hn:n.length=5) (a:Option Addr) (cap:Nat) (tx:ByteArray) (hr:IntRow w a n) :
  Calls Tryz.prog 30 #[.pointer (some ⟨S,0,none⟩),.agg #[.slice a n.length cap,.string tx]] w (DoesP base S M O st N .real_ n tx w):=by
 rw [hn]
 generalize hV:w.alloc (.cells #[.slice a 5 cap,.string tx] 71)=V
 have hB:Below w.heap.size w V:=hV▸(Below.refl _ w).alloc (Nat.le_refl _) _
 have x0:V.cell? ⟨w.heap.size,0,none⟩=some (.slice a 5 cap):=by rw [← hV];simp [go_sem]
 have x1:V.cell? ⟨w.heap.size,1,none⟩=some (.string tx):=by rw [← hV];simp [go_sem]
 have hC:=clockOf_any n hn a cap tx V (hr.below hB)
 have HD:Hid (∀ u,Below w.heap.size w u→Desk0 u):=fun u hu=>hD u hu
 have HB:Hid (Below w.heap.size w V):=hB
 have HL:Hid (∀ u:World,Calls Tryz.prog 64 #[.agg #[.int .i64 (n.getD 0 0),.int .i64 (n.getD 1 0),.int .i64 (n.getD 2 0),.int .i64 (n.getD 3 0)],.int .i64 (n.getD 4 0)] u fun e w'=>∃ x,e=.returned (.tuple #[.int .i64 x,errV (realQ (n.getD 0 0) (n.getD 1 0) (n.getD 2 0) (n.getD 3 0) (n.getD 4 0))])∧(realQ (n.getD 0 0) (n.getD 1 0) (n.getD 2 0) (n.getD 3 0) (n.getD 4 0)=0→x=realX (n.getD 0 0) (n.getD 1 0) (n.getD 2 0) (n.getD 3 0) (n.getD 4 0)∧intR x)∧Below u.heap.size u w'):=fun u=>real_tells _ _ _ _ _ u
 have HE:Hid (∀ w' e,Below V.heap.size V w'→e=(numRes (realQ (n.getD 0 0) (n.getD 1 0) (n.getD 2 0) (n.getD 3 0) (n.getD 4 0)) (realX (n.getD 0 0) (n.getD 1 0) (n.getD 2 0) (n.getD 3 0) (n.getD 4 0))).ending→DoesP base S M O st N .real_ n tx w e w'):=fun w' e q1 q2=>asks_end h hB q1 (k:=.real_) (n:=n) (tx:=tx) ⟨rfl,rfl⟩ q2
 clear h hD hr hB hn
 generalize realX (n.getD 0 0) (n.getD 1 0) (n.getD 2 0) (n.getD 3 0) (n.getD 4 0)=vl at *
 generalize realQ (n.getD 0 0) (n.getD 1 0) (n.getD 2 0) (n.getD 3 0) (n.getD 4 0)=me at *
 generalize n.getD 0 0=y0 at *
 generalize n.getD 1 0=y1 at *
 generalize n.getD 2 0=y2 at *
 generalize n.getD 3 0=y3 at *
 generalize n.getD 4 0=y4 at *
 go_enter Tryz.func30,Tryz.ntmps30
 go_wp2_with fail
 refine hC.mono ?_
 rintro ev u1 ⟨rfl,b1⟩
 go_wp2_with fail
 refine (HL.out _).mono ?_
 rintro ev u2 ⟨x,rfl,hx,hu2⟩
 have b2:Below V.heap.size V u2:=(b1.alloc b1.size _).trans (hu2.mono (by have:=b1.size;simp;omega))
 have hR:=rightInt_any x me u2 (HD.out u2 (HB.out.trans (b2.mono HB.out.size))).told
 go_wp2_with fail
 refine hR.mono ?_
 rintro ev u3 ⟨he3,hu3⟩
 have b3:Below V.heap.size V u3:=b2.trans (hu3.mono b2.size)
 by_cases hme:me=0
 ·rw [if_pos hme] at he3
  subst he3
  obtain ⟨rfl,hir⟩:=hx hme
  have hI:=itoa_any x hir u3 (HD.out u3 (HB.out.trans (b3.mono HB.out.size)))
  go_wp2_with fail
  refine hI.mono ?_
  rintro ev u4 ⟨rfl,hu4⟩
  go_wp2_with fail
  go_ret
  exact HE.out u4 _ (b3.trans (hu4.mono b3.size)) (by rw [numRes,if_pos hme];rfl)
 ·rw [if_neg hme] at he3
  subst he3
  exact ⟨rfl,HE.out u3 _ b3 (by rw [numRes,if_neg hme];rfl)⟩
end
section
theorem itoaB_size {x:Int} (h:intR x):(itoaB x).size≤21:=by
 have:=Lib.itoa_length_le x h.1 h.2
 show (Lib.itoa x).toArray.size≤21
 simpa using this
section
variable {w:World} {base S:Nat} {M O:List Nat} {st:DkS} {A:SesA} {N:Nat}
theorem spread_does (h:Ses w base S M O st A N) (hD:DeskW w.heap.size w) {fa:Int} {cs:List Int} {c:ClS} {rd:Int} {T:Nat} (hcl:st.clu=some (fa,cs,c,rd,T)) (n:List Int) (v:Value) (tx:ByteArray) :
  Calls Tryz.prog 26 #[.pointer (some ⟨S,0,none⟩),.agg #[v,.string tx]] w (DoesP base S M O st N .spread_ n tx w):=by
 generalize hV:w.alloc (.cells #[v,.string tx] 71)=V
 have hB:Below w.heap.size w V:=hV▸(Below.refl _ w).alloc (Nat.le_refl _) _
 have hs:=h.below hB
 have c0:V.cell? ⟨S,10,none⟩=some (.pointer (some ⟨A.C,0,none⟩)):=by
  have:V.cell? ⟨S,10,none⟩=some (.pointer (st.clu.map fun _=>⟨A.C,0,none⟩)):=cell_blk hs.blk (i:=10) rfl
  rw [hcl] at this
  exact this
 obtain ⟨hcu,hTN⟩:=hs.r.clu fa cs c rd T hcl
 have HB:Hid (Below w.heap.size w V):=hB
 have HD:Hid (∀ u,Below w.heap.size w u→Desk0 u):=fun u hu=>hD u hu
 have hC:=cluOps.spread hcu
 have hok:=(cluOps.ok hcu).1
 have HI:Hid (intR (spreadL (rightOf fa cs))):=by
  have h1:=hok.near
  have h2:=hok.plan.bounds.s1
  have h3:=spreadL_pos (rightOf fa cs)
  exact ⟨by omega,by omega⟩
 have HE:Hid (∀ w' e,Below V.heap.size V w'→e=(Res.ok (itoaB (spreadL (rightOf fa cs)))).ending→DoesP base S M O st N .spread_ n tx w e w'):=fun w' e q1 q2=>asks_end h hB q1 (k:=.spread_) (n:=n) (tx:=tx) ⟨fa,cs,c,rd,T,hcl,rfl,rfl⟩ q2
 clear h hD hB hs hcu hok hTN
 generalize spreadL (rightOf fa cs)=sp at *
 go_enter Tryz.func26,Tryz.ntmps26
 go_wp2_with fail
 refine hC.mono ?_
 rintro ev u1 ⟨rfl,b1⟩
 have hI:=itoa_any sp HI.out u1 (HD.out u1 (HB.out.trans (b1.mono HB.out.size)))
 go_wp2_with fail
 refine hI.mono ?_
 rintro ev u2 ⟨rfl,hu2⟩
 go_wp2_with fail
 go_ret
 exact HE.out u2 _ (b1.trans (hu2.mono b1.size)) rfl
theorem members_bad (h:Ses w base S M O st A N) (hD:DeskW w.heap.size w) {fa:Int} {cs:List Int} {c:ClS} {rd:Int} {T:Nat} (hcl:st.clu=some (fa,cs,c,rd,T)) (x:Int) (a:Option Addr) (cap:Nat) (tx:ByteArray) (hr:IntRow w a [x]) (hx:¬ (0≤x∧x<st.plan.nodes)) :
  Calls Tryz.prog 27 #[.pointer (some ⟨S,0,none⟩),.agg #[.slice a 1 cap,.string tx]] w (DoesP base S M O st N .members_ [x] tx w):=by
 obtain ⟨b,off,rfl,hbl,hc⟩:=hr (by simp)
 generalize hV:w.alloc (.cells #[.slice (some ⟨b,off,none⟩) 1 cap,.string tx] 71)=V
 have hB:Below w.heap.size w V:=hV▸(Below.refl _ w).alloc (Nat.le_refl _) _
 have hs:=h.below hB
 have c0:V.cell? ⟨S,10,none⟩=some (.pointer (some ⟨A.C,0,none⟩)):=by
  have:V.cell? ⟨S,10,none⟩=some (.pointer (st.clu.map fun _=>⟨A.C,0,none⟩)):=cell_blk hs.blk (i:=10) rfl
  rw [hcl] at this
  exact this
 obtain ⟨hcu,hTN⟩:=hs.r.clu fa cs c rd T hcl
 have HB:Hid (Below w.heap.size w V):=hB
 have HD:Hid (∀ u,Below w.heap.size w u→Desk0 u):=fun u hu=>hD u hu
 have x0:V.cell? ⟨w.heap.size,0,none⟩=some (.slice (some ⟨b,off,none⟩) 1 cap):=by rw [← hV];simp [go_sem]
 have n0:V.cell? ⟨b,off,none⟩=some (.int .i64 x):=(hB.cell (p:=⟨b,off,none⟩) hbl).trans (by have:=hc 0 (by simp);simpa using this)
 have hbV:b<V.heap.size:=Nat.lt_of_lt_of_le hbl hB.size
 have hwV:w.heap.size<V.heap.size:=by rw [← hV];simp
 have hSV:=hs.r.hi S hs.r.s
 have hok:=(cluOps.ok hcu).1
 have hC:Calls Tryz.prog 59 #[.pointer (some ⟨A.C,0,none⟩),.int .i64 x] (V.drewN 1) fun e w'=>e=.returned (.tuple #[.int .i64 0,.bool false,errV 2])∧Below (V.drewN 1).heap.size (V.drewN 1) w':=cluOps2.members_bad x (cluOps.keep hcu (Same.of_below (bdN V 1) (cluOps.lt hcu))) hx
 have HE:Hid (∀ w' e,Below V.heap.size V w'→e=(Res.err 2).ending→DoesP base S M O st N .members_ [x] tx w e w'):=fun w' e q1 q2=>asks_end h hB q1 (k:=.members_) (n:=[x]) (tx:=tx) ⟨fa,cs,c,rd,T,hcl,rfl,.inr ⟨hx,rfl⟩⟩ q2
 clear h hD hB hs hcu hok hTN hc hr
 go_enter Tryz.func27,Tryz.ntmps27
 go_wp2_with fail
 refine wp_region_held_drew (S:=fun v=>v.cell? ⟨w.heap.size,0,none⟩=some (.slice (some ⟨b,off,none⟩) 1 cap)∧v.cell? ⟨b,off,none⟩=some (.int .i64 x)∧v.cell? ⟨S,10,none⟩=some (.pointer (some ⟨A.C,0,none⟩))) (by kernel_rfl) ⟨x0,n0,c0⟩ (fun hHeld=>?_)
 refine tk 0 hHeld ?_
 refine tk 1 hHeld ?_
 refine tk 2 hHeld ?_
 refine tk 3 hHeld ?_
 refine tk 4 hHeld ?_
 refine tk 5 hHeld ?_
 refine tk 6 hHeld ?_
 refine tk 7 hHeld ?_
 refine rdy 8 fun K hK=>?_
 go_simp
 refine hC.mono ?_
 rintro ev u1 ⟨rfl,hu1⟩
 have b1:Below V.heap.size V u1:=undrewN hu1
 refine kp hK (fun hHeld=>?_) ⟨(b1.cell (p:=⟨w.heap.size,0,none⟩) hwV).trans x0,(b1.cell (p:=⟨b,off,none⟩) hbV).trans n0,(b1.cell (p:=⟨S,10,none⟩) hSV).trans c0⟩
 clear hK K
 refine tk 9 hHeld ?_
 refine tk 10 hHeld ?_
 refine tk 11 hHeld ?_
 refine tk 12 hHeld ?_
 refine tk 13 hHeld ?_
 refine tk 14 hHeld ?_
 refine tk 15 hHeld ?_
 refine dn ?_
 go_wp2_with fail
 have hAn:=askNone_some u1 (HD.out u1 (HB.out.trans (b1.mono HB.out.size))).told (errV_is u1 2) (by decide)
 refine hAn.mono ?_
 rintro ev u2 ⟨rfl,hu2⟩
 exact ⟨rfl,HE.out u2 _ (b1.trans (hu2.mono b1.size)) rfl⟩
theorem members_ok_true (h:Ses w base S M O st A N) (hD:DeskW w.heap.size w) {fa:Int} {cs:List Int} {c:ClS} {rd:Int} {T:Nat} (hcl:st.clu=some (fa,cs,c,rd,T)) (x:Int) (a:Option Addr) (cap:Nat) (tx:ByteArray) (hr:IntRow w a [x]) (j:Nat) (hj:x=j) (hjn:j<st.plan.n) (hfz:(c.nodes j).fz=true) :
  Calls Tryz.prog 27 #[.pointer (some ⟨S,0,none⟩),.agg #[.slice a 1 cap,.string tx]] w (DoesP base S M O st N .members_ [x] tx w):=by
 obtain ⟨b,off,rfl,hbl,hc⟩:=hr (by simp)
 generalize hV:w.alloc (.cells #[.slice (some ⟨b,off,none⟩) 1 cap,.string tx] 71)=V
 have hB:Below w.heap.size w V:=hV▸(Below.refl _ w).alloc (Nat.le_refl _) _
 have hs:=h.below hB
 have c0:V.cell? ⟨S,10,none⟩=some (.pointer (some ⟨A.C,0,none⟩)):=by
  have:V.cell? ⟨S,10,none⟩=some (.pointer (st.clu.map fun _=>⟨A.C,0,none⟩)):=cell_blk hs.blk (i:=10) rfl
  rw [hcl] at this
  exact this
 obtain ⟨hcu,hTN⟩:=hs.r.clu fa cs c rd T hcl
 have HB:Hid (Below w.heap.size w V):=hB
 have HD:Hid (∀ u,Below w.heap.size w u→Desk0 u):=fun u hu=>hD u hu
 have x0:V.cell? ⟨w.heap.size,0,none⟩=some (.slice (some ⟨b,off,none⟩) 1 cap):=by rw [← hV];simp [go_sem]
 have n0:V.cell? ⟨b,off,none⟩=some (.int .i64 x):=(hB.cell (p:=⟨b,off,none⟩) hbl).trans (by have:=hc 0 (by simp);simpa using this)
 have hbV:b<V.heap.size:=Nat.lt_of_lt_of_le hbl hB.size
 have hwV:w.heap.size<V.heap.size:=by rw [← hV];simp
 have hSV:=hs.r.hi S hs.r.s
 have hok:=(cluOps.ok hcu).1
 have hC:Calls Tryz.prog 59 #[.pointer (some ⟨A.C,0,none⟩),.int .i64 x] (V.drewN 1) fun e w'=>e=.returned (.tuple #[.int .i64 (bitsV (c.nodes j).t st.plan.n),.bool (c.nodes j).fz,.nilIface])∧Below (V.drewN 1).heap.size (V.drewN 1) w':=by rw [hj];exact cluOps2.members j (cluOps.keep hcu (Same.of_below (bdN V 1) (cluOps.lt hcu))) hjn
 rw [hfz] at hC
 have HE:Hid (∀ w' e,Below V.heap.size V w'→e=(Res.ok (itoaB (bitsV (c.nodes j).t st.plan.n) ++ ⟨#[32,102,114,111,122,101,110]⟩)).ending→DoesP base S M O st N .members_ [x] tx w e w'):=fun w' e q1 q2=>asks_end h hB q1 (k:=.members_) (n:=[x]) (tx:=tx) ⟨fa,cs,c,rd,T,hcl,rfl,.inl ⟨j,hj,hjn,by rw [hfz];rfl⟩⟩ q2
 have HI:Hid (intR (bitsV (c.nodes j).t st.plan.n)):=by
  have h1:=bitsV_in (c.nodes j).t st.plan.n
  have h2:=hok.plan.bounds.n2
  have h3:st.plan.n≤16:=by show st.plan.nodes.toNat≤16;omega
  have h4:(2:Int) ^ st.plan.n≤2 ^ 16:=by exact_mod_cast Nat.pow_le_pow_right (by decide:0<2) h3
  have h5:(2:Int) ^ 16=65536:=by decide
  exact ⟨by omega,by omega⟩
 generalize bitsV (c.nodes j).t st.plan.n=bv at *
 clear hj hjn hfz hcl
 clear h hD hB hs hcu hok hTN hc hr
 go_enter Tryz.func27,Tryz.ntmps27
 go_wp2_with fail
 refine wp_region_held_drew (S:=fun v=>v.cell? ⟨w.heap.size,0,none⟩=some (.slice (some ⟨b,off,none⟩) 1 cap)∧v.cell? ⟨b,off,none⟩=some (.int .i64 x)∧v.cell? ⟨S,10,none⟩=some (.pointer (some ⟨A.C,0,none⟩))) (by kernel_rfl) ⟨x0,n0,c0⟩ (fun hHeld=>?_)
 refine tk 0 hHeld ?_
 refine tk 1 hHeld ?_
 refine tk 2 hHeld ?_
 refine tk 3 hHeld ?_
 refine tk 4 hHeld ?_
 refine tk 5 hHeld ?_
 refine tk 6 hHeld ?_
 refine tk 7 hHeld ?_
 refine rdy 8 fun K hK=>?_
 go_simp
 refine hC.mono ?_
 rintro ev u1 ⟨rfl,hu1⟩
 have b1:Below V.heap.size V u1:=undrewN hu1
 refine kp hK (fun hHeld=>?_) ⟨(b1.cell (p:=⟨w.heap.size,0,none⟩) hwV).trans x0,(b1.cell (p:=⟨b,off,none⟩) hbV).trans n0,(b1.cell (p:=⟨S,10,none⟩) hSV).trans c0⟩
 clear hK K
 refine tk 9 hHeld ?_
 refine tk 10 hHeld ?_
 refine tk 11 hHeld ?_
 refine tk 12 hHeld ?_
 refine tk 13 hHeld ?_
 refine tk 14 hHeld ?_
 refine tk 15 hHeld ?_
 refine dn ?_
 go_wp2_with fail
 refine (askNone_no u1).mono ?_
 rintro ev u2 ⟨rfl,hu2⟩
 have b2:Below V.heap.size V u2:=b1.trans (hu2.mono b1.size)
 have hI:=itoa_any bv HI.out u2 (HD.out u2 (HB.out.trans (b2.mono HB.out.size)))
 go_wp2_with fail
 refine hI.mono ?_
 rintro ev u3 ⟨rfl,hu3⟩
 have hz:=itoaB_size HI.out
 have hz2:decide (9223372036854775807<(itoaB bv).size+7)=false:=decide_eq_false (by omega)
 go_wp2_with fail
 go_ret
 exact HE.out u3 _ (b2.trans (hu3.mono b2.size)) rfl
theorem members_ok_false (h:Ses w base S M O st A N) (hD:DeskW w.heap.size w) {fa:Int} {cs:List Int} {c:ClS} {rd:Int} {T:Nat} (hcl:st.clu=some (fa,cs,c,rd,T)) (x:Int) (a:Option Addr) (cap:Nat) (tx:ByteArray) (hr:IntRow w a [x]) (j:Nat) (hj:x=j) (hjn:j<st.plan.n) (hfz:(c.nodes j).fz=false) :
  Calls Tryz.prog 27 #[.pointer (some ⟨S,0,none⟩),.agg #[.slice a 1 cap,.string tx]] w (DoesP base S M O st N .members_ [x] tx w):=by
 obtain ⟨b,off,rfl,hbl,hc⟩:=hr (by simp)
 generalize hV:w.alloc (.cells #[.slice (some ⟨b,off,none⟩) 1 cap,.string tx] 71)=V
 have hB:Below w.heap.size w V:=hV▸(Below.refl _ w).alloc (Nat.le_refl _) _
 have hs:=h.below hB
 have c0:V.cell? ⟨S,10,none⟩=some (.pointer (some ⟨A.C,0,none⟩)):=by
  have:V.cell? ⟨S,10,none⟩=some (.pointer (st.clu.map fun _=>⟨A.C,0,none⟩)):=cell_blk hs.blk (i:=10) rfl
  rw [hcl] at this
  exact this
 obtain ⟨hcu,hTN⟩:=hs.r.clu fa cs c rd T hcl
 have HB:Hid (Below w.heap.size w V):=hB
 have HD:Hid (∀ u,Below w.heap.size w u→Desk0 u):=fun u hu=>hD u hu
 have x0:V.cell? ⟨w.heap.size,0,none⟩=some (.slice (some ⟨b,off,none⟩) 1 cap):=by rw [← hV];simp [go_sem]
 have n0:V.cell? ⟨b,off,none⟩=some (.int .i64 x):=(hB.cell (p:=⟨b,off,none⟩) hbl).trans (by have:=hc 0 (by simp);simpa using this)
 have hbV:b<V.heap.size:=Nat.lt_of_lt_of_le hbl hB.size
 have hwV:w.heap.size<V.heap.size:=by rw [← hV];simp
 have hSV:=hs.r.hi S hs.r.s
 have hok:=(cluOps.ok hcu).1
 have hC:Calls Tryz.prog 59 #[.pointer (some ⟨A.C,0,none⟩),.int .i64 x] (V.drewN 1) fun e w'=>e=.returned (.tuple #[.int .i64 (bitsV (c.nodes j).t st.plan.n),.bool (c.nodes j).fz,.nilIface])∧Below (V.drewN 1).heap.size (V.drewN 1) w':=by rw [hj];exact cluOps2.members j (cluOps.keep hcu (Same.of_below (bdN V 1) (cluOps.lt hcu))) hjn
 rw [hfz] at hC
 have HE:Hid (∀ w' e,Below V.heap.size V w'→e=(Res.ok (itoaB (bitsV (c.nodes j).t st.plan.n))).ending→DoesP base S M O st N .members_ [x] tx w e w'):=fun w' e q1 q2=>asks_end h hB q1 (k:=.members_) (n:=[x]) (tx:=tx) ⟨fa,cs,c,rd,T,hcl,rfl,.inl ⟨j,hj,hjn,by rw [hfz];rfl⟩⟩ q2
 have HI:Hid (intR (bitsV (c.nodes j).t st.plan.n)):=by
  have h1:=bitsV_in (c.nodes j).t st.plan.n
  have h2:=hok.plan.bounds.n2
  have h3:st.plan.n≤16:=by show st.plan.nodes.toNat≤16;omega
  have h4:(2:Int) ^ st.plan.n≤2 ^ 16:=by exact_mod_cast Nat.pow_le_pow_right (by decide:0<2) h3
  have h5:(2:Int) ^ 16=65536:=by decide
  exact ⟨by omega,by omega⟩
 generalize bitsV (c.nodes j).t st.plan.n=bv at *
 clear hj hjn hfz hcl
 clear h hD hB hs hcu hok hTN hc hr
 go_enter Tryz.func27,Tryz.ntmps27
 go_wp2_with fail
 refine wp_region_held_drew (S:=fun v=>v.cell? ⟨w.heap.size,0,none⟩=some (.slice (some ⟨b,off,none⟩) 1 cap)∧v.cell? ⟨b,off,none⟩=some (.int .i64 x)∧v.cell? ⟨S,10,none⟩=some (.pointer (some ⟨A.C,0,none⟩))) (by kernel_rfl) ⟨x0,n0,c0⟩ (fun hHeld=>?_)
 refine tk 0 hHeld ?_
 refine tk 1 hHeld ?_
 refine tk 2 hHeld ?_
 refine tk 3 hHeld ?_
 refine tk 4 hHeld ?_
 refine tk 5 hHeld ?_
 refine tk 6 hHeld ?_
 refine tk 7 hHeld ?_
 refine rdy 8 fun K hK=>?_
 go_simp
 refine hC.mono ?_
 rintro ev u1 ⟨rfl,hu1⟩
 have b1:Below V.heap.size V u1:=undrewN hu1
 refine kp hK (fun hHeld=>?_) ⟨(b1.cell (p:=⟨w.heap.size,0,none⟩) hwV).trans x0,(b1.cell (p:=⟨b,off,none⟩) hbV).trans n0,(b1.cell (p:=⟨S,10,none⟩) hSV).trans c0⟩
 clear hK K
 refine tk 9 hHeld ?_
 refine tk 10 hHeld ?_
 refine tk 11 hHeld ?_
 refine tk 12 hHeld ?_
 refine tk 13 hHeld ?_
 refine tk 14 hHeld ?_
 refine tk 15 hHeld ?_
 refine dn ?_
 go_wp2_with fail
 refine (askNone_no u1).mono ?_
 rintro ev u2 ⟨rfl,hu2⟩
 have b2:Below V.heap.size V u2:=b1.trans (hu2.mono b1.size)
 have hI:=itoa_any bv HI.out u2 (HD.out u2 (HB.out.trans (b2.mono HB.out.size)))
 go_wp2_with fail
 refine hI.mono ?_
 rintro ev u3 ⟨rfl,hu3⟩
 have hz:=itoaB_size HI.out
 have hz2:decide (9223372036854775807<(itoaB bv).size+7)=false:=decide_eq_false (by omega)
 go_wp2_with fail
 go_ret
 exact HE.out u3 _ (b2.trans (hu3.mono b2.size)) rfl
end
end
end Go.Proofs.YthccoinonjoleaaGreatDoor
