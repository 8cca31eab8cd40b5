/- Plain facts on the bytes of a number, with nothing of the pr. -/
import Derived.Lib.UnsafeStr
import Derived.WalkKit
set_option maxHeartbeats 16000000
namespace Go.Proofs.YtepfinenocpneaaGreat
open Value (int)
open IntKind (i64)
set_option maxRecDepth 100000
set_option linter.unusedVariables false
theorem Ja {p : Prop} (h : p) : Go.RowKit.Hid p := h
theorem Jw (B j : Nat) : (⟨B, 0, none⟩ : Addr).add j = ⟨B, j, none⟩ := by unfold Addr.add; split <;> simp_all
end Go.Proofs.YtepfinenocpneaaGreat
