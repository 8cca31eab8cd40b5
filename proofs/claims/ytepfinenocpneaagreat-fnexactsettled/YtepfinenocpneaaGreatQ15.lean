/- What the two readers of a short text do. -/
import Derived.Test.YtepfinenocpneaaGreatQ3
import Derived.Test.YtepfinenocpneaaGreatQ5
import Derived.Test.YtepfinenocpneaaGreatQ14
set_option maxHeartbeats 16000000
namespace Go.Proofs.YtepfinenocpneaaGreat
open Value (int)
open IntKind (i64)
set_option maxRecDepth 100000
set_option linter.unusedVariables false
open Go.RowKit
theorem ZM (s : ByteArray) (w : World) (h : s.size ≤ 281474976710656) :
  Calls Tryz.prog 94 #[.string s] w fun e w' => e = .returned (.string s) ∧ Below w.heap.size w w' := by
 go_enter Tryz.func94, Tryz.ntmps94
 go_wp2_with (go_at_call 134; refine (Tryz.stringslite_Clone s _ h).mono ?_; rintro e w1 ⟨rfl, hb1⟩)
 go_ret
 exact ⟨rfl, hb1⟩
end Go.Proofs.YtepfinenocpneaaGreat
