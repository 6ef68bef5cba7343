/- Plain words on ports: what they answer, and what becomes of them (8.1, 8.2). -/
import Derived.Test.YtklknbkofmobcabDoorSdrWords
namespace Go.Proofs.YtklknbkofmobcabDoor

/-- What Write answers (at: the last message's time, below 0: there is none). -/
def writeK (at_ t : Int) (d : ByteArray) : Int := if 40 < d.size then 4 else if ¬ (0 ≤ t ∧ t ≤ 1099511627776) then 2 else if t < at_ then 10 else 0
def wrAt (K t at_ : Int) : Int := if K = 0 then t else at_
def wrDat (K : Int) (d dat : ByteArray) : ByteArray := if K = 0 then d else dat
/-- What Read answers. -/
def readK (at_ t : Int) : Int := if at_ < 0 then 8 else if t < at_ then 10 else 0
def rdDat (K : Int) (dat : ByteArray) : ByteArray := if K = 0 then dat else ByteArray.empty
def rdNew (K t at_ keep : Int) : Bool := decide (K = 0) && decide (t < at_ + keep)
/-- What becomes of what was lost; what Receive answers. -/
def lostK (K lost : Int) : Int := if K = 12 then lost + 1 else lost
def recvK (all : List ByteArray) : Int := if all = [] then 8 else 0
def recvD (all : List ByteArray) : ByteArray := all.headD ByteArray.empty

theorem wrAt_in {at_ t : Int} {d : ByteArray} (h : -1 ≤ at_ ∧ at_ ≤ 1099511627776) : -1 ≤ wrAt (writeK at_ t d) t at_ ∧ wrAt (writeK at_ t d) t at_ ≤ 1099511627776 := by
  unfold wrAt
  split
  · next e =>
    unfold writeK at e
    by_cases h1 : 40 < d.size
    · rw [if_pos h1] at e; cases e
    · rw [if_neg h1] at e
      by_cases h2 : 0 ≤ t ∧ t ≤ 1099511627776
      · omega
      · rw [if_pos h2] at e; cases e
  · exact h
end Go.Proofs.YtklknbkofmobcabDoor
