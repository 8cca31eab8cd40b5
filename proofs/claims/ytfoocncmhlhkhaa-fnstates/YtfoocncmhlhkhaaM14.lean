/- What the two readers of a short text do. -/
import Derived.Test.YtfoocncmhlhkhaaM3
import Derived.Test.YtfoocncmhlhkhaaM5
import Derived.Test.YtfoocncmhlhkhaaM13
namespace Go.Proofs.Ytfoocncmhlhkhaa
set_option maxRecDepth 100000
set_option linter.unusedVariables false
open Go.RowKit
set_option maxHeartbeats 400000 in
theorem clone_calls (s : ByteArray) (w : World) (h : s.size ≤ 281474976710656) :
  Calls Try.prog 52 #[.string s] w fun e w' => e = .returned (.string s) ∧ Below w.heap.size w w' := by
 go_enter Try.func52, Try.ntmps52
 go_wp2_with (go_at_call 68; refine (Try.stringslite_Clone s _ h).mono ?_; rintro e w1 ⟨rfl, hb1⟩)
 go_ret
 exact ⟨rfl, hb1⟩
end Go.Proofs.Ytfoocncmhlhkhaa
