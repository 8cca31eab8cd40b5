/- l01In: between two numbers. -/
import Derived.Test.YtepfinenocpneaaGreatRows
import Derived.WalkKit
import Derived.WalkSpells
set_option maxHeartbeats 16000000
namespace Go.Proofs.YtepfinenocpneaaGreat
open Value (int)
open IntKind (i64)
set_option maxRecDepth 100000
set_option linter.unusedVariables false
open Go.RowKit
theorem JK (x a b : Int) (w : World) :
  Calls Tryz.prog 84 #[int i64 x, int i64 a, int i64 b] w fun e w' => e = .returned (.bool (decide (a ≤ x) && decide (x ≤ b))) ∧ w' = w := by
 by_cases h1 : a ≤ x
 ·by_cases h2 : x ≤ b
  ·go_enter Tryz.func84, Tryz.ntmps84
   go_wp2
   go_ret
   simp [h1, h2]
  ·go_enter Tryz.func84, Tryz.ntmps84
   go_wp2
   go_ret
   have h3 : ¬ x ≤ b := by omega
   simp [h3]
 ·go_enter Tryz.func84, Tryz.ntmps84
  go_wp2
  go_ret
  have h3 : ¬ a ≤ x := by omega
  simp [h3]
end Go.Proofs.YtepfinenocpneaaGreat
