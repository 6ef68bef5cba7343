/- The program's cluster keeps the contracts that stage 9's laws want (10.1 to 10.3). -/
import Derived.Test.YtdmokcnoljlogaaGreatDoorWordsJ
import Derived.Test.YtdmokcnoljlogaaGreatDoorPCluC2
import Derived.Test.YtdmokcnoljlogaaGreatDoorPCluP
import Derived.Test.YtdmokcnoljlogaaGreatDoorWordsC
import Derived.Test.YtdmokcnoljlogaaGreatDoorWordsK
namespace Go.Proofs.YtdmokcnoljlogaaGreatDoor
open Go.RowKit

theorem checkIs_some (nodes faulty skew jitter drift round frame : Int) (ns nl nw : Nat) (nd fr td lf lt lb lq : Nat → Int) (hit : Nat → Bool) (pw : Int) (wp wf wt : Nat → Int) : ∃ E I, CheckIs nodes faulty skew jitter drift round frame ns nl nw nd fr td lf lt lb lq hit pw wp wf wt E I := by
  by_cases h : headErr nodes faulty skew jitter drift round frame ns nl nw = 0
  · obtain ⟨e1, i1, g1⟩ := FirstBad.any (slotErr nd fr td nodes skew round) ns
    obtain ⟨e2, i2, g2⟩ := FirstBad.any (linkErr lf lt lb lq hit nodes pw) nl
    obtain ⟨e3, i3, g3⟩ := FirstBad.any (winErr wp wf wt frame) nw
    by_cases z1 : e1 = 0
    · by_cases z2 : e2 = 0
      · by_cases z3 : e3 = 0
        · exact ⟨0, -1, .inr ⟨h, e1, i1, e2, i2, e3, i3, g1, g2, g3, fun q => absurd z1 q, fun _ q => absurd z2 q, fun _ _ q => absurd z3 q, fun _ _ _ => ⟨rfl, rfl⟩⟩⟩
        · exact ⟨e3, 2000 + i3, .inr ⟨h, e1, i1, e2, i2, e3, i3, g1, g2, g3, fun q => absurd z1 q, fun _ q => absurd z2 q, fun _ _ _ => ⟨rfl, rfl⟩, fun _ _ q => absurd q z3⟩⟩
      · exact ⟨e2, 1000 + i2, .inr ⟨h, e1, i1, e2, i2, e3, i3, g1, g2, g3, fun q => absurd z1 q, fun _ _ => ⟨rfl, rfl⟩, fun _ q => absurd q z2, fun _ q => absurd q z2⟩⟩
    · exact ⟨e1, i1, .inr ⟨h, e1, i1, e2, i2, e3, i3, g1, g2, g3, fun _ => ⟨rfl, rfl⟩, fun q => absurd q z1, fun q => absurd q z1, fun q => absurd q z1⟩⟩
  · exact ⟨_, -1, .inl ⟨h, rfl, rfl⟩⟩

theorem cchk (p : PlanN) (a : PlanAt) (w : World) (h : p.In a w) : ∃ E I, p.Is E I ∧ Calls Tryz.prog 16 #[p.val a] w fun e w' => ∃ V, e = .returned V ∧ ErrIs w' V E I ∧ Below w.heap.size w w' := by
  obtain ⟨E, I, hC⟩ := checkIs_some p.nodes p.faulty p.skew p.jitter p.drift p.round p.frame p.ns p.nl p.nw p.nd p.fr p.td p.lf p.lt p.lb p.lq (fun j => bitI (p.lt j) (p.lf j).toNat) (2 ^ p.nodes.toNat) p.wp p.wf p.wt
  exact ⟨E, I, hC, check_any p.nodes p.faulty p.skew p.jitter p.drift p.round p.frame a.sa a.la a.wa p.ns a.sc p.nl a.lc p.nw a.wc p.nd p.fr p.td p.lf p.lt p.lb p.lq _ _ p.wp p.wf p.wt E I w h.slots h.links h.wins rfl (fun j h0 h1 => (bit_and (p.lt j) (by omega)).symm) hC⟩

/-- The program's cluster: behind T calls. -/
def Clu (w : World) (O : List Nat) (C : Nat) (p : PlanN) (fa : Int) (cs : List Int) (s : ClS) (rd : Int) (T : Nat) : Prop :=
  (∃ m, Cl w O C p fa cs s rd (2600 * T + 1) m) ∧ CluOk p fa cs ∧ 0 ≤ rd ∧ rd ≤ T

theorem clu_nn {p : PlanN} {fa : Int} {cs : List Int} (h : CluOk p fa cs) : p.nodes = (p.n : Int) := by
  have := h.plan.bounds.n1
  show p.nodes = (p.nodes.toNat : Int)
  omega

theorem cluOps : CluOps Clu where
  chk := cchk
  ok := fun h => h.2
  lt := fun h => by obtain ⟨⟨m, h⟩, _⟩ := h; exact h.lt
  keep := fun h k => by obtain ⟨⟨m, h⟩, q⟩ := h; exact ⟨⟨m, h.keep k⟩, q⟩
  new := fun p a fa ca cap cs w h1 h2 _ h4 h5 => (cnew_any cchk p a fa ca cap cs w h1 h2 h4 h5).mono fun e w' ⟨hB, K, I, hN, h⟩ => by
    refine ⟨hB, K, I, hN, ?_⟩
    rcases h with h | ⟨rfl, O, C, m, he, hC, hO⟩
    · exact .inl h
    · exact .inr ⟨rfl, O, C, he, ⟨⟨m, hC⟩, hN.ok, Int.le_refl _, Int.le_refl _⟩, hO⟩
  play := fun {w O C p fa cs s rd T} r a h hT hr hm => by
    obtain ⟨⟨m, h⟩, hok, h0, h1⟩ := h
    refine (cplay_any h hok h0 (by omega) (by omega) (by omega) r a hr hm).mono fun e w' ⟨O', hf, hh⟩ => ⟨O', hf, ?_⟩
    rcases hh with ⟨q, he, hC⟩ | ⟨q, he, m', hC⟩
    · exact .inl ⟨q, he, ⟨⟨m, hC⟩, hok, h0, h1⟩⟩
    · exact .inr ⟨q, he, ⟨⟨m', hC.more (by omega)⟩, hok.next r q, by omega, by omega⟩⟩
  put_bad := fun k d h hk => by obtain ⟨⟨m, h⟩, _⟩ := h; exact cput_bad h k d hk
  put := fun {w O C p fa cs s rd T} k d h hT hk => by
    obtain ⟨⟨m, h⟩, hok, h0, h1⟩ := h
    refine (cput_any h k d hk (by omega)).mono fun e w' ⟨he, O', hf, hC⟩ => ⟨he, O', hf, ⟨⟨m, hC.more (by omega)⟩, hok, h0, by omega⟩⟩
  recv_bad := fun j k h hb => by obtain ⟨⟨m, h⟩, hok, _⟩ := h; exact crecv_bad h (clu_nn hok) j k hb
  recv := fun j k h hj hk hb => by
    obtain ⟨⟨m, h⟩, hok, h0, h1⟩ := h
    refine (crecv_any h j k hj (clu_nn hok) hk hb).mono fun e w' ⟨he, O', hf, hC⟩ => ⟨he, O', hf, ⟨⟨m, hC⟩, hok, h0, h1⟩⟩
  spread := fun {w O C p fa cs s rd T} h => by
    obtain ⟨⟨m, h⟩, hok, _⟩ := h
    have hn16 := hok.plan.bounds.n2
    have hb := h.base
    have hl := hok.len
    exact cspread_any C fa (some ⟨m.cb, 0, none⟩) m.ccap cs w hb.c10 hb.c11 (fun _ => ⟨m.cb, 0, rfl, hb.lx _ hb.ckX, fun j hj => by rw [Nat.zero_add]; exact hb.ck j hj⟩) (by rw [hl]; unfold PlanN.n; omega) hok.inn
  rounds := fun h => by
    obtain ⟨⟨m, h⟩, _⟩ := h
    exact (crounds_any _ _ _ h.base.c12).mono fun e w' ⟨h1, h2⟩ => ⟨h1, by rw [h2]; exact Below.refl _ _⟩
end Go.Proofs.YtdmokcnoljlogaaGreatDoor
