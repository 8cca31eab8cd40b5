/- An act is like itself, as the laws' helper tells it; the laws on names, on acts that are the same, and on the later of two. -/
import Derived.Test.YtahdgagipmpcgaaALaw
import Derived.Test.YtahdgagipmpcgaaASam2
namespace Go.Proofs.Ytahdgagipmpcgaa
set_option maxRecDepth 100000
set_option linter.unusedVariables false
open Go.RowKit

set_option maxHeartbeats 1000000 in
theorem eqDot_calls (r s : Int) (w : World) :
    Calls Try.prog 27 #[.agg #[.int .i64 r, .int .i64 s], .agg #[.int .i64 r, .int .i64 s]] w fun e w' => e = .returned (.bool true) ∧ Below w.heap.size w w' := by
  have h1 : (r != r) = false := by simp
  have h2 : (s != s) = false := by simp
  have hb : ∀ o1 o2, Below w.heap.size w ((w.alloc o1).alloc o2) := fun o1 o2 => ((Below.refl _ _).alloc (Nat.le_refl _) _).alloc (by simp) _
  go_enter Try.func27, Try.ntmps27
  go_wp2
  go_ret
  exact ⟨rfl, hb _ _⟩

/-- An act that was handed in. -/
def ArgAct (w : World) (A : Ac) (v : Value) : Prop := ArgInts w v A.l ∧ A.o.size ≤ maxLen ∧ A.y.size ≤ maxLen
theorem ArgAct.split {w : World} {A : Ac} {v : Value} (h : ArgAct w A v) : ∃ aa ca, v = .slice aa A.l.length ca := by
  obtain ⟨⟨-, aa, ca, rfl, -⟩, -, -⟩ := h; exact ⟨aa, ca, rfl⟩
end Go.Proofs.Ytahdgagipmpcgaa
