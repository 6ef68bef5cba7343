/- An error of package api by its number, or none. -/
import Derived.Test.YtlpojkehbhkdiaaProg
namespace Go.Proofs.Ytlpojkehbhkdiaa

def errV (k : Int) : Value := if k = 0 then .nilIface else .iface 59 (.int .i64 k)
theorem errV_0 : errV 0 = .nilIface := rfl
theorem errV_1 : errV 1 = .iface 59 (.int .i64 1) := rfl
theorem errV_2 : errV 2 = .iface 59 (.int .i64 2) := rfl
theorem errV_7 : errV 7 = .iface 59 (.int .i64 7) := rfl
end Go.Proofs.Ytlpojkehbhkdiaa
