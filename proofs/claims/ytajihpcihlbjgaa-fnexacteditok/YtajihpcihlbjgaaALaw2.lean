/- An act is like itself, as the laws' helper tells it; the laws on names, on acts that are the same, and on the later of two. -/
import Derived.Test.YtajihpcihlbjgaaALaw
import Derived.Test.YtajihpcihlbjgaaASam2
namespace Go.Proofs.Ytajihpcihlbjgaa
set_option maxRecDepth 100000
set_option linter.unusedVariables false
open Go.RowKit

/-- An act that was handed in. -/
def ArgAct (w : World) (A : Ac) (v : Value) : Prop := ArgInts w v A.l ∧ A.o.size ≤ maxLen ∧ A.y.size ≤ maxLen
theorem ArgAct.split {w : World} {A : Ac} {v : Value} (h : ArgAct w A v) : ∃ aa ca, v = .slice aa A.l.length ca := by
  obtain ⟨⟨-, aa, ca, rfl, -⟩, -, -⟩ := h; exact ⟨aa, ca, rfl⟩
end Go.Proofs.Ytajihpcihlbjgaa
