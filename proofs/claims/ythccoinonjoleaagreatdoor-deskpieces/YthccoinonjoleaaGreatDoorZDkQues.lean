import Derived.Test.YthccoinonjoleaaGreatDoorZDkAdd
namespace Go.Proofs.YthccoinonjoleaaGreatDoor
open Go.RowKit
set_option maxRecDepth 100000
set_option maxHeartbeats 16000000
section
theorem itoa_any (x:Int) (hx:intR x) (w:World) (hw:Desk0 w):Calls Tryz.prog 12 #[.int .i64 x] w fun e w'=>e=.returned (.string (itoaB x))∧Below w.heap.size w w' :=
 (Tryz.strconv_Itoa x hx.1 hx.2 w hw.tab).mono fun _ _ ⟨h1,k,os,h2⟩=>⟨h1,h2▸below_grow w k os⟩
theorem errV_is (w:World) (k:Int):ErrIs w (errV k) k (-1):=by
 unfold errV
 by_cases h:k=0
 ·rw [if_pos h];exact .inl ⟨rfl,h,rfl⟩
 ·rw [if_neg h];exact .inr (.inl ⟨rfl,h,rfl⟩)
theorem rightInt_any (x k:Int) (w:World) (hg:Told w):Calls Tryz.prog 60 #[.int .i64 x,errV k] w fun e w'=>e=(if k=0 then .returned (.int .i64 x) else thrown k)∧Below w.heap.size w w':=by
 by_cases h:k=0
 ·subst h
  rw [if_pos rfl];exact rightInt_yes _ w
 ·rw [if_neg h];exact rightInt_no _ w hg (errV_is w k) h
theorem IntRow.rest {w:World} {b off:Nat} {x:Int} {l:List Int} (h:IntRow w (some ⟨b,off,none⟩) (x::l)):IntRow w (some ⟨b,off+1,none⟩) l:=fun h0=>by
 obtain ⟨b',off',e,hl,hc⟩:=h (by simp)
 injection e with e
 injection e with e1 e2
 subst e1 e2
 refine ⟨b,off+1,rfl,hl,fun j hj=>?_⟩
 have:=hc (j+1) (by simp;omega)
 rw [show off+1+j=off+(j+1) by omega]
 simpa using this
section
variable {w:World} {base S:Nat} {M O:List Nat} {st:DkS} {A:SesA} {N:Nat}
theorem asks_end (h:Ses w base S M O st A N) {V w':World} (hV:Below w.heap.size w V) (hw:Below V.heap.size V w') {k:Kd} {n:List Int} {tx:ByteArray} {r:Res} (hd:DoesIs k st n tx st r) {e:Ending} (he:e=r.ending):DoesP base S M O st N k n tx w e w' :=
 ⟨st,r,M,O,A,hd,he,(Foot.of_below hV).trans (Foot.of_below hw),((h.below hV).below hw).later (Nat.le_succ N)⟩
theorem midpoint_does (h:Ses w base S M O st A N) (hD:DeskW w.heap.size w) (x:Int) (l:List Int) (hl:l.length≤19999) (a:Option Addr) (cap:Nat) (hcap:l.length+1≤cap) (tx:ByteArray) (hr:IntRow w a (x::l)) :
  Calls Tryz.prog 28 #[.pointer (some ⟨S,0,none⟩),.agg #[.slice a (l.length+1) cap,.string tx]] w (DoesP base S M O st N .midpoint_ (x::l) tx w):=by
 obtain ⟨b,off,rfl,hbl,hc⟩:=hr (by simp)
 generalize hV:w.alloc (.cells #[.slice (some ⟨b,off,none⟩) (l.length+1) cap,.string tx] 71)=V
 have hB:Below w.heap.size w V:=hV▸(Below.refl _ w).alloc (Nat.le_refl _) _
 have x0:V.cell? ⟨w.heap.size,0,none⟩=some (.slice (some ⟨b,off,none⟩) (l.length+1) cap):=by rw [← hV];simp [go_sem]
 have n0:V.cell? ⟨b,off,none⟩=some (.int .i64 x):=(hB.cell (p:=⟨b,off,none⟩) hbl).trans (by have:=hc 0 (by simp);simpa using this)
 have hbV:b<V.heap.size:=Nat.lt_of_lt_of_le hbl hB.size
 have hwV:w.heap.size<V.heap.size:=by rw [← hV];simp
 have hrV:IntRow V (some ⟨b,off+1,none⟩) l:=(hr.below hB).rest
 have hM:=fun a' c' (q:IntRow V a' l)=>mid_any a' c' l x (V.drewN 1) q (by omega)
 have HD:Hid (∀ u,Below w.heap.size w u→Desk0 u):=fun u hu=>hD u hu
 have HB:Hid (Below w.heap.size w V):=hB
 have HE:Hid (∀ w' e,Below V.heap.size V w'→e=(numRes (midErr l x) (midVal l x)).ending→DoesP base S M O st N .midpoint_ (x::l) tx w e w'):=fun w' e q1 q2=>asks_end h hB q1 (k:=.midpoint_) (n:=x::l) (tx:=tx) (r:=numRes (midErr l x) (midVal l x)) ⟨rfl,rfl⟩ q2
 have HI:Hid (intR (midVal l x)):=by have:=midVal_in l x;exact ⟨by omega,by omega⟩
 have HR:Hid (∀ u q,Below w.heap.size w u→Calls Tryz.prog 60 #[.int .i64 (midVal l x),errV (midErr l x)] (u.drewN q) fun e w'=>e=(if midErr l x=0 then .returned (.int .i64 (midVal l x)) else thrown (midErr l x))∧Below u.heap.size u w'):=fun u q hu=>(rightInt_any _ _ (u.drewN q) (hD u hu).told).mono fun _ _ q=>⟨q.1,undrewN q.2⟩
 clear h hD hc hr hB
 generalize midVal l x=mv at *
 generalize midErr l x=me at *
 by_cases hc1:cap=1
 ·subst hc1
  obtain rfl:l = []:=List.eq_nil_of_length_eq_zero (by omega)
  simp only [List.length_nil,Nat.zero_add] at hV x0 hM ⊢
  go_enter Tryz.func28,Tryz.ntmps28
  go_wp2_with fail
  refine wp_region_held_drew (S:=fun v=>v.cell? ⟨w.heap.size,0,none⟩=some (.slice (some ⟨b,off,none⟩) 1 1)∧v.cell? ⟨b,off,none⟩=some (.int .i64 x)) (by kernel_rfl) ⟨x0,n0⟩ (fun hHeld=>?_)
  refine tk 0 hHeld ?_
  refine tk 1 hHeld ?_
  refine tk 2 hHeld ?_
  refine tk 3 hHeld ?_
  refine tk 4 hHeld ?_
  refine tk 5 hHeld ?_
  refine tk 6 hHeld ?_
  refine rdy 7 fun K hK=>?_
  go_simp
  refine (hM _ _ (fun h=>absurd h (Nat.lt_irrefl _))).mono ?_
  rintro ev u1 ⟨rfl,hu1⟩
  have b1:Below V.heap.size V u1:=undrewN hu1
  have y0:=(b1.cell (p:=⟨w.heap.size,0,none⟩) hwV).trans x0
  have y1:=(b1.cell (p:=⟨b,off,none⟩) hbV).trans n0
  have HB1:Hid (Below w.heap.size w u1):=HB.out.trans (b1.mono HB.out.size)
  refine kp hK (fun hHeld=>?_) ⟨y0,y1⟩
  clear hK K
  refine tk 8 hHeld ?_
  refine tk 9 hHeld ?_
  refine rdy 10 fun K hK=>?_
  go_simp
  refine (HR.out u1 0 HB1.out).mono ?_
  rintro ev u2 ⟨he2,hu2⟩
  have b2:Below V.heap.size V u2:=b1.trans (hu2.mono b1.size)
  by_cases hme:me=0
  ·rw [if_pos hme] at he2
   subst he2
   have z0:=(b2.cell (p:=⟨w.heap.size,0,none⟩) hwV).trans x0
   have z1:=(b2.cell (p:=⟨b,off,none⟩) hbV).trans n0
   have hI:=itoa_any mv HI.out u2 (HD.out u2 (HB.out.trans (b2.mono HB.out.size)))
   refine kp hK (fun hHeld=>?_) ⟨z0,z1⟩
   clear hK K
   refine rdy 11 fun K hK=>?_
   go_simp
   refine hI.mono ?_
   rintro ev u3 ⟨rfl,hu3⟩
   have b3:Below V.heap.size V u3:=b2.trans (hu3.mono b2.size)
   have w0:=(b3.cell (p:=⟨w.heap.size,0,none⟩) hwV).trans x0
   have w1:=(b3.cell (p:=⟨b,off,none⟩) hbV).trans n0
   refine kp hK (fun hHeld=>?_) ⟨w0,w1⟩
   clear hK K
   refine rdy 12 fun K hK=>?_
   go_simp
   refine kp hK (fun hHeld=>?_) ⟨w0,w1⟩
   clear hK K
   refine dn ?_
   go_wp2_with fail
   go_ret
   exact HE.out u3 _ b3 (by rw [numRes,if_pos hme];rfl)
  ·rw [if_neg hme] at he2
   subst he2
   exact ⟨rfl,HE.out u2 _ b2 (by rw [numRes,if_neg hme];rfl)⟩
 ·have hc2:cap≠1:=hc1
  have h1:(1:Int)≤(l.length:Int)+1:=by omega
  have h2:(0:Int)<(l.length:Int)+1:=by omega
  go_enter Tryz.func28,Tryz.ntmps28
  go_wp2_with fail
  refine wp_region_held_drew (S:=fun v=>v.cell? ⟨w.heap.size,0,none⟩=some (.slice (some ⟨b,off,none⟩) (l.length+1) cap)∧v.cell? ⟨b,off,none⟩=some (.int .i64 x)) (by kernel_rfl) ⟨x0,n0⟩ (fun hHeld=>?_)
  refine tk 0 hHeld ?_
  refine tk 1 hHeld ?_
  refine tk 2 hHeld ?_
  refine tk 3 hHeld ?_
  refine tk 4 hHeld ?_
  refine tk 5 hHeld ?_
  refine tk 6 hHeld ?_
  refine rdy 7 fun K hK=>?_
  go_simp
  refine (hM _ _ hrV).mono ?_
  rintro ev u1 ⟨rfl,hu1⟩
  have b1:Below V.heap.size V u1:=undrewN hu1
  have y0:=(b1.cell (p:=⟨w.heap.size,0,none⟩) hwV).trans x0
  have y1:=(b1.cell (p:=⟨b,off,none⟩) hbV).trans n0
  have HB1:Hid (Below w.heap.size w u1):=HB.out.trans (b1.mono HB.out.size)
  refine kp hK (fun hHeld=>?_) ⟨y0,y1⟩
  clear hK K
  refine tk 8 hHeld ?_
  refine tk 9 hHeld ?_
  refine rdy 10 fun K hK=>?_
  go_simp
  refine (HR.out u1 0 HB1.out).mono ?_
  rintro ev u2 ⟨he2,hu2⟩
  have b2:Below V.heap.size V u2:=b1.trans (hu2.mono b1.size)
  by_cases hme:me=0
  ·rw [if_pos hme] at he2
   subst he2
   have z0:=(b2.cell (p:=⟨w.heap.size,0,none⟩) hwV).trans x0
   have z1:=(b2.cell (p:=⟨b,off,none⟩) hbV).trans n0
   have hI:=itoa_any mv HI.out u2 (HD.out u2 (HB.out.trans (b2.mono HB.out.size)))
   refine kp hK (fun hHeld=>?_) ⟨z0,z1⟩
   clear hK K
   refine rdy 11 fun K hK=>?_
   go_simp
   refine hI.mono ?_
   rintro ev u3 ⟨rfl,hu3⟩
   have b3:Below V.heap.size V u3:=b2.trans (hu3.mono b2.size)
   have w0:=(b3.cell (p:=⟨w.heap.size,0,none⟩) hwV).trans x0
   have w1:=(b3.cell (p:=⟨b,off,none⟩) hbV).trans n0
   refine kp hK (fun hHeld=>?_) ⟨w0,w1⟩
   clear hK K
   refine rdy 12 fun K hK=>?_
   go_simp
   refine kp hK (fun hHeld=>?_) ⟨w0,w1⟩
   clear hK K
   refine dn ?_
   go_wp2_with fail
   go_ret
   exact HE.out u3 _ b3 (by rw [numRes,if_pos hme];rfl)
  ·rw [if_neg hme] at he2
   subst he2
   exact ⟨rfl,HE.out u2 _ b2 (by rw [numRes,if_neg hme];rfl)⟩
end
end
end Go.Proofs.YthccoinonjoleaaGreatDoor
