/- What two spans have in common (plain). -/
import GoSem.Claim
namespace Go.Proofs.Ytlpojkehbhkdiaa

/-- Whether two spans have something in common, and what. -/
def comB (p q r s : Int) : Bool := decide (max p r < min q s)
def comF (p q r s : Int) : Int := if comB p q r s = true then max p r else 0
def comT (p q r s : Int) : Int := if comB p q r s = true then min q s else 0
end Go.Proofs.Ytlpojkehbhkdiaa
