/- The program's Hears, whatever comes. -/
import Derived.Test.YtdmokcnoljlogaaGreatDoorProgNode2
namespace Go.Proofs.YtdmokcnoljlogaaGreatDoor
open Go.RowKit

theorem pHears_all {w : World} {P : Nat} {id : Int} {n : Nat} {t : Nat → Bool} {g b : Int} {fz : Bool} (h : ProgNode w P id n (bitsV t n) g b fz) (frm what : Int) (hn : n ≤ 16) (hg0 : 0 ≤ g) (hg : g ≤ 4611686018427387904) (hb0 : 0 ≤ b) (hb : b ≤ 4611686018427387904) :
    Calls Tryz.prog 47 #[.pointer (some ⟨P, 0, none⟩), .int .i64 frm, .int .i64 what] w fun e w' => e = .returned (.tuple #[]) ∧ ProgNode w' P id n (bitsV (heT id n fz frm what t) n) (heG id n fz frm what g) (heB id n fz frm what b) fz ∧ Turns P P w w' := by
  cases q : hearsB id n fz frm what
  · refine (pHears_not h frm what q).mono ?_
    rintro e w' ⟨rfl, rfl⟩
    unfold heG heB
    rw [heT_not t q, q, if_neg (fun y => by cases y.1), if_neg (fun y => by cases y.1)]
    exact ⟨rfl, h, Turns.refl _ _ _⟩
  · obtain ⟨hf, k, rfl, h1, h2, h3, h4⟩ := hears_parts q
    refine (pHears_acts h k what hn hf h1 h2 h3 h4 hg0 hg hb0 hb).mono ?_
    rintro e w' ⟨rfl, a, c⟩
    unfold heG heB
    rw [heT_acts t q, q]
    simp only [true_and]
    rw [hf]
    exact ⟨a, c⟩
end Go.Proofs.YtdmokcnoljlogaaGreatDoor
