/- Plain words on senders: what Put and Send answer, and what becomes of a sender (7.1). -/
import Derived.Test.YtklknbkofmobcabDoorTakeWords
namespace Go.Proofs.YtklknbkofmobcabDoor

def emptyS : Value := .string ByteArray.empty
/-- Whether none goes. -/
def noneB (n went : Nat) (t last bag : Int) : Bool := decide (went = n) || (decide (0 < went) && decide (t < last + bag))

/-- What Put answers. -/
def putK (many : Nat) (queue : Int) (d : ByteArray) : Int := if 40 < d.size then 4 else if queue ≤ (many : Int) then 12 else 0
/-- What Send answers. -/
def sendK (many went : Nat) (t now last bag : Int) : Int := if ¬ (0 ≤ t ∧ t ≤ 1099511627776) then 2 else if t < now then 10 else if noneB many went t last bag = true then 8 else 0

/-- What becomes of a sender, and what goes. -/
def putAll (K : Int) (all : List ByteArray) (d : ByteArray) : List ByteArray := if K = 0 then all ++ [d] else all
def sendSeq (K : Int) (went : Nat) : Int := if K = 0 then ordN went else 0
def sendDat (K : Int) (all : List ByteArray) (went : Nat) : ByteArray := if K = 0 then all.getD went ByteArray.empty else ByteArray.empty
def sendWent (K : Int) (went : Nat) : Nat := if K = 0 then went + 1 else went
def sendLast (K t last : Int) : Int := if K = 0 then t else last
def sendNow (K t now : Int) : Int := if K = 0 ∨ K = 8 then t else now
end Go.Proofs.YtklknbkofmobcabDoor
