/- The laws on acts whose answers are plain values: for every argument they come out true and write into no memory that was there. -/
import Derived.Test.YtahdgagipmpcgaaALaw2
namespace Go.Proofs.Ytahdgagipmpcgaa
set_option maxRecDepth 100000
set_option linter.unusedVariables false
open Go.RowKit

theorem leftOf_yes {L n : Int} (h : n ≤ L) : leftOf L n = L - n := by unfold leftOf; rw [if_pos h]
theorem leftOf_no {L n : Int} (h : ¬ n ≤ L) : leftOf L n = -1 := by unfold leftOf; rw [if_neg h]
theorem Ac.sz_nonneg (A : Ac) : 0 ≤ A.sz := by unfold Ac.sz; omega
theorem Ac.len_le {A : Ac} {L : Int} (h : A.sz ≤ L) (hL : L ≤ 1048576) : A.l.length ≤ 1048576 ∧ A.o.size ≤ 1048576 ∧ A.y.size ≤ 1048576 := by unfold Ac.sz at h; omega

end Go.Proofs.Ytahdgagipmpcgaa
