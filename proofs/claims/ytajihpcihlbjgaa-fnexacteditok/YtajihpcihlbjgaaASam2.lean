/- Whether two acts are the same, as both tell it. -/
import Derived.Test.YtajihpcihlbjgaaASame
namespace Go.Proofs.Ytajihpcihlbjgaa
set_option maxRecDepth 100000
set_option linter.unusedVariables false
open Go.RowKit

theorem eqDot_true {a b c d : Int} (h1 : a = c) (h2 : b = d) (wx : World) : (Op.equalIn 10000 40 (.agg #[.int .i64 a, .int .i64 b]) (.agg #[.int .i64 c, .int .i64 d])).run Try.prog wx = .ok true wx := by rw [eq_dot_run]; simp [h1, h2]
theorem eqDot_false {a b c d : Int} (h : ¬ (a = c ∧ b = d)) (wx : World) : (Op.equalIn 10000 40 (.agg #[.int .i64 a, .int .i64 b]) (.agg #[.int .i64 c, .int .i64 d])).run Try.prog wx = .ok false wx := by
  rw [eq_dot_run]
  have : (decide (a = c) && decide (b = d)) = false := by
    by_cases h1 : a = c <;> by_cases h2 : b = d <;> simp [h1, h2]
    exact h ⟨h1, h2⟩
  rw [this]
theorem beq_str (a b : ByteArray) (h : a = b) : (a.toList == b.toList) = true := by simp [h]
theorem beq_str_no (a b : ByteArray) (h : ¬ a = b) : (a.toList == b.toList) = false := by
  rw [ByteArray.toList_eq, ByteArray.toList_eq]
  simp only [beq_eq_false_iff_ne, ne_eq]
  intro h'
  exact h (ByteArray.ext (Array.ext' h'))
theorem Ac.ext' {A B : Ac} (h1 : A.r = B.r) (h2 : A.s = B.s) (h3 : A.t = B.t) (h4 : A.l = B.l) (h5 : A.k = B.k) (h6 : A.o = B.o) (h7 : A.y = B.y) (h8 : A.v = B.v) (h9 : A.x = B.x) (h10 : A.z = B.z) : A = B := by
  cases A; cases B; simp_all


end Go.Proofs.Ytajihpcihlbjgaa
