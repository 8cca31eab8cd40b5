/- Plain facts on the bytes of a number, with nothing of the program in them. -/
import Derived.Lib.UnsafeStr
import Derived.WalkKit
namespace Go.Proofs.Ytfoocncmhlhkhaa
set_option maxRecDepth 100000
set_option linter.unusedVariables false
theorem hidI {p : Prop} (h : p) : Go.RowKit.Hid p := h
theorem addr_add (B j : Nat) : (⟨B, 0, none⟩ : Addr).add j = ⟨B, j, none⟩ := by unfold Addr.add; split <;> simp_all
end Go.Proofs.Ytfoocncmhlhkhaa
