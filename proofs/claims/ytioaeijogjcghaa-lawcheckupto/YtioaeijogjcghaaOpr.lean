/- Package scan: how many truth values a node takes. -/
import Derived.Test.YtioaeijogjcghaaBva
set_option linter.unusedVariables false
set_option linter.unusedSimpArgs false
set_option linter.unnecessarySimpa false
set_option maxRecDepth 20000
namespace Go.Proofs.Ytioaeijogjcghaa
open Go.RowKit

def opsN (op : Int) : Int := if op = 12 then 1 else if op = 10 ∨ op = 11 then 2 else 0
set_option maxHeartbeats 1000000 in
theorem operands_any (op : Int) (w : World) : Calls Try.prog 57 #[.int .i64 op] w fun e w' => e = .returned (.int .i64 (opsN op)) ∧ w' = w := by
  go_enter Try.func57, Try.ntmps57
  unfold opsN
  by_cases h12 : op = 12
  · subst h12
    go_wp2_with fail
    go_ret
    exact ⟨rfl, rfl⟩
  · have e12 : (op == 12) = false := by simp [h12]
    by_cases h10 : op = 10
    · subst h10
      go_wp2_with fail
      go_ret
      exact ⟨rfl, rfl⟩
    · have e10 : (op == 10) = false := by simp [h10]
      by_cases h11 : op = 11
      · subst h11
        go_wp2_with fail
        go_ret
        exact ⟨rfl, rfl⟩
      · have e11 : (op == 11) = false := by simp [h11]
        go_wp2_with fail
        go_ret
        simp [h12, h10, h11]
end Go.Proofs.Ytioaeijogjcghaa
