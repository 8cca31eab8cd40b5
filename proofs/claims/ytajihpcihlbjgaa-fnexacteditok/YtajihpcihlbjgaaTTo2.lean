/- States that are handed in are copied. -/
import Derived.Test.YtajihpcihlbjgaaTTo
namespace Go.Proofs.Ytajihpcihlbjgaa
set_option maxRecDepth 100000
set_option linter.unusedVariables false
open Go.RowKit


/-- Tallys that were handed in. -/
def ArgTallys (w : World) (v : Value) (l : List Ta) : Prop := l.length ≤ maxLen ∧ TaAt w v l ∧ ∀ a ∈ l, a.o.size ≤ maxLen
theorem ArgTallys.below {w w' : World} {v : Value} {l : List Ta} (h : ArgTallys w v l) (hb : Below w.heap.size w w') : ArgTallys w' v l := ⟨h.1, h.2.1.below hb, h.2.2⟩
theorem copyTally_set (l : List Ta) (j : Nat) (h : j < l.length) : (l.take j ++ List.replicate (l.length - j) zTa).set j l[j] = l.take (j + 1) ++ List.replicate (l.length - (j + 1)) zTa := by
  have e : l.length - j = (l.length - (j + 1)) + 1 := by omega
  have hlen : (l.take j).length = j := by rw [List.length_take]; omega
  rw [e, List.replicate_succ, List.set_append_right _ _ (by omega), hlen, Nat.sub_self, List.set_cons_zero, List.take_succ_eq_append_getElem h, List.append_assoc]
  rfl
theorem copyTally_at (l : List Ta) (j : Nat) (h : j < l.length) (h2 : j < (l.take j ++ List.replicate (l.length - j) zTa).length) : (l.take j ++ List.replicate (l.length - j) zTa)[j] = zTa := by
  have hlen : (l.take j).length = j := by rw [List.length_take]; omega
  rw [List.getElem_append_right (by omega)]
  simp
/-- Lives that were handed in. -/
def ArgLives (w : World) (v : Value) (l : List Li) : Prop := l.length ≤ maxLen ∧ LiAt w v l ∧ ∀ a ∈ l, a.o.size ≤ maxLen ∧ a.y.size ≤ maxLen
theorem ArgLives.below {w w' : World} {v : Value} {l : List Li} (h : ArgLives w v l) (hb : Below w.heap.size w w') : ArgLives w' v l := ⟨h.1, h.2.1.below hb, h.2.2⟩
theorem copyLive_set (l : List Li) (j : Nat) (h : j < l.length) : (l.take j ++ List.replicate (l.length - j) zLi).set j l[j] = l.take (j + 1) ++ List.replicate (l.length - (j + 1)) zLi := by
  have e : l.length - j = (l.length - (j + 1)) + 1 := by omega
  have hlen : (l.take j).length = j := by rw [List.length_take]; omega
  rw [e, List.replicate_succ, List.set_append_right _ _ (by omega), hlen, Nat.sub_self, List.set_cons_zero, List.take_succ_eq_append_getElem h, List.append_assoc]
  rfl
theorem copyLive_at (l : List Li) (j : Nat) (h : j < l.length) (h2 : j < (l.take j ++ List.replicate (l.length - j) zLi).length) : (l.take j ++ List.replicate (l.length - j) zLi)[j] = zLi := by
  have hlen : (l.take j).length = j := by rw [List.length_take]; omega
  rw [List.getElem_append_right (by omega)]
  simp
/-- Cells that were handed in. -/
def ArgCells (w : World) (v : Value) (l : List Ce) : Prop := l.length ≤ maxLen ∧ CeAt w v l ∧ ∀ a ∈ l, a.o.size ≤ maxLen
theorem ArgCells.below {w w' : World} {v : Value} {l : List Ce} (h : ArgCells w v l) (hb : Below w.heap.size w w') : ArgCells w' v l := ⟨h.1, h.2.1.below hb, h.2.2⟩
theorem copyCell_set (l : List Ce) (j : Nat) (h : j < l.length) : (l.take j ++ List.replicate (l.length - j) zCe).set j l[j] = l.take (j + 1) ++ List.replicate (l.length - (j + 1)) zCe := by
  have e : l.length - j = (l.length - (j + 1)) + 1 := by omega
  have hlen : (l.take j).length = j := by rw [List.length_take]; omega
  rw [e, List.replicate_succ, List.set_append_right _ _ (by omega), hlen, Nat.sub_self, List.set_cons_zero, List.take_succ_eq_append_getElem h, List.append_assoc]
  rfl
theorem copyCell_at (l : List Ce) (j : Nat) (h : j < l.length) (h2 : j < (l.take j ++ List.replicate (l.length - j) zCe).length) : (l.take j ++ List.replicate (l.length - j) zCe)[j] = zCe := by
  have hlen : (l.take j).length = j := by rw [List.length_take]; omega
  rw [List.getElem_append_right (by omega)]
  simp
end Go.Proofs.Ytajihpcihlbjgaa
