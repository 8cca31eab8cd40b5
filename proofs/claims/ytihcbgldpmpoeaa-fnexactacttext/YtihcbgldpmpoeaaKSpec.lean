/- What the specification makes of two knowledges. -/
import Derived.Test.YtihcbgldpmpoeaaKDots
namespace Go.Proofs.Ytihcbgldpmpoeaa
set_option maxRecDepth 100000
open Go.RowKit

theorem ints_at3 {w : World} {v : Value} {a b c : Int} (h : IntsAt w v [a, b, c]) : ∃ g k : Nat, v = .slice (some ⟨g, 0, none⟩) 3 k ∧ g < w.heap.size ∧ ∀ j, j < 3 → w.cell? ⟨g, j, none⟩ = some (.int .i64 (at3 a b c j)) := by
  obtain ⟨aa, k, rfl, hg⟩ := h
  obtain ⟨g, rfl, h1, h2⟩ := hg (by simp)
  refine ⟨g, k, rfl, h1, fun j hj => ?_⟩
  have := h2 j hj
  match j, hj with
  | 0, _ => exact this
  | 1, _ => exact this
  | 2, _ => exact this

end Go.Proofs.Ytihcbgldpmpoeaa
