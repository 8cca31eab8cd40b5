/- A right act. -/
import Derived.Test.YtajihpcihlbjgaaAOk1
import Derived.Test.YtajihpcihlbjgaaARow
namespace Go.Proofs.Ytajihpcihlbjgaa
set_option maxRecDepth 100000
set_option linter.unusedVariables false
open Go.RowKit

/-- A right act. -/
def AOk (A : Ac) : Prop := DOk A.r A.s ∧ KOk A.l ∧ A.l.getD A.r.toNat 0 = A.s - 1 ∧ (1 ≤ A.t ∧ A.t ≤ 10000) ∧ PlainOk A.k A.o A.y A.v ∧ RefOk A.l A.k A.x A.z
instance (A : Ac) : Decidable (AOk A) := by unfold AOk; infer_instance
theorem wpAnyH_list {P : Program} {md : Region.Mode} {ops : Array Oper} {Q : Exit → Act → World → Prop} {S : World → Prop} {fuel : Nat} {l l' : Array Bool} {a : Act} {w : World} (h : l = l') (H : wpAnyH P md ops Q S fuel l' a w) : wpAnyH P md ops Q S fuel l a w := h ▸ H

end Go.Proofs.Ytajihpcihlbjgaa
