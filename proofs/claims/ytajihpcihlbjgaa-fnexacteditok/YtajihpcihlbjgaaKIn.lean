/- Whether one knowledge is within another, and whether a dot is known, as the program tells it. -/
import Derived.Test.YtajihpcihlbjgaaKBoth
namespace Go.Proofs.Ytajihpcihlbjgaa
set_option maxRecDepth 100000
set_option linter.unusedVariables false
open Go.RowKit

theorem mx_eq (a d : Int) : decide (mx a d = d) = decide (a ≤ d) := by
  unfold mx; by_cases h : a < d
  · rw [if_pos h]; simp; omega
  · rw [if_neg h]; rw [decide_eq_decide]; omega

/-- The cells of two arrays. -/
def SixC (w : World) (g k : Nat) (a b c d e f : Int) : Prop := w.cell? ⟨g, 0, none⟩ = some (.int .i64 a) ∧ w.cell? ⟨g, 1, none⟩ = some (.int .i64 b) ∧ w.cell? ⟨g, 2, none⟩ = some (.int .i64 c) ∧ w.cell? ⟨k, 0, none⟩ = some (.int .i64 d) ∧ w.cell? ⟨k, 1, none⟩ = some (.int .i64 e) ∧ w.cell? ⟨k, 2, none⟩ = some (.int .i64 f)
theorem Two.six {w w1 : World} {a b c d e f : Int} (h : Two w w1 a b c d e f) : SixC w1 w.heap.size (w.heap.size + 1) a b c d e f :=
  ⟨h.1.c0, h.1.c1, h.1.c2, h.2.1.c0, h.2.1.c1, h.2.1.c2⟩

theorem kin_ok {l m : List Int} {a b c d e f : Int} (h1 : KOk l) (h2 : KOk m) (e1 : l = [a, b, c]) (e2 : m = [d, e, f]) : kin l m = (decide (a ≤ d) && decide (b ≤ e) && decide (c ≤ f)) := by
  unfold kin
  rw [decide_eq_true h1, decide_eq_true h2]
  subst e1 e2
  simp [Bool.and_assoc]

end Go.Proofs.Ytajihpcihlbjgaa
