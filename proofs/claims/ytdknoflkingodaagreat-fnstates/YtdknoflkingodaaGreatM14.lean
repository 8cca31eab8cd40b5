/- What the two readers of a short text do. -/
import Derived.Test.YtdknoflkingodaaGreatM3
import Derived.Test.YtdknoflkingodaaGreatM5
import Derived.Test.YtdknoflkingodaaGreatM13
namespace Go.Proofs.YtdknoflkingodaaGreat
set_option maxRecDepth 100000
set_option linter.unusedVariables false
open Go.RowKit
set_option maxHeartbeats 400000 in
theorem clone_calls (s : ByteArray) (w : World) (h : s.size ≤ 281474976710656) :
  Calls Tryz.prog 121 #[.string s] w fun e w' => e = .returned (.string s) ∧ Below w.heap.size w w' := by
 go_enter Tryz.func121, Tryz.ntmps121
 go_wp2_with (go_at_call 174; refine (Tryz.stringslite_Clone s _ h).mono ?_; rintro e w1 ⟨rfl, hb1⟩)
 go_ret
 exact ⟨rfl, hb1⟩
end Go.Proofs.YtdknoflkingodaaGreat
