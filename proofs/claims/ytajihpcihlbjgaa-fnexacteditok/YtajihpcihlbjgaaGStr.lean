/- What the laws' own helpers on lists of texts do: they hold two lists against each other, write marks into one, and look whether they stand. -/
import Derived.Test.YtajihpcihlbjgaaTMark
import Derived.Deep.RegionHeld3
import Derived.Deep.QuietTactic
import Derived.BigQuiet
import Derived.WalkMore
import Derived.Deep.LoopGhost
namespace Go.Proofs.Ytajihpcihlbjgaa
set_option maxRecDepth 100000
set_option linter.unusedVariables false
open Go.RowKit

/-- The cells of texts. -/
def strC (l : List (List UInt8)) : List Value := l.map fun x => Value.string ⟨x.toArray⟩
theorem strC_len (l : List (List UInt8)) : (strC l).length = l.length := by simp [strC]
theorem strC_at (l : List (List UInt8)) (j : Nat) (h : j < l.length) : (strC l)[j]? = some (Value.string ⟨(l[j]).toArray⟩) := by simp [strC, h]

/-- The shape of an owned slice, and where its cells lie. -/
def OwnAt (w : World) (B n : Nat) (aa : Option Addr) (xs : List Value) : Prop :=
  0 < n → ∃ g, aa = some ⟨g, 0, none⟩ ∧ B ≤ g ∧ g < w.heap.size ∧ (∀ j u, xs[j]? = some u → w.cell? ⟨g, j, none⟩ = some u)
theorem own_shape {w : World} {B n : Nat} {e : TypeId} {v : Value} {xs : List Value} (h : w.ownsRow B e 1 v n xs) : ∃ (aa : Option Addr) (ca : Nat), v = .slice aa n ca ∧ OwnAt w B n aa xs := by
  rcases h.2 with ⟨rfl, rfl⟩ | ⟨g, cap, cur, rfl, hb, hg, -, -, -, -⟩
  · exact ⟨none, 0, rfl, fun h => absurd h (by omega)⟩
  · refine ⟨_, _, rfl, fun _ => ⟨g, rfl, hb, (Array.getElem?_eq_some_iff.1 hg).1, fun j u hu => ?_⟩⟩
    have := h.cells (g := g) rfl j u hu
    rwa [addr_add] at this

/-- The marks from k on. -/
def markL (k n : Nat) : List (List UInt8) := (List.range n).map fun i => mkT (k + i)
theorem markL_len (k n : Nat) : (markL k n).length = n := by simp [markL]
theorem markL_at (k n j : Nat) (h : j < (markL k n).length) : (markL k n)[j] = mkT (k + j) := by simp [markL]
theorem markL_succ (k n : Nat) : markL k (n + 1) = markL k n ++ [mkT (k + n)] := by simp [markL, List.range_succ]

theorem marks_set (k j : Nat) (l : List (List UInt8)) (h : j < l.length) : (strC (markL k j ++ l.drop j)).set j (Value.string ⟨(mkT (k + j)).toArray⟩) = strC (markL k (j + 1) ++ l.drop (j + 1)) := by
  have e : markL k j ++ l.drop j = markL k j ++ l[j] :: l.drop (j + 1) := by rw [List.drop_eq_getElem_cons h]
  rw [e, markL_succ]
  unfold strC
  have hlen : (List.map (fun x : List UInt8 => Value.string ⟨x.toArray⟩) (markL k j)).length = j := by simp [markL_len]
  rw [List.map_append, List.map_cons, List.set_append_right _ _ (by rw [hlen]; exact Nat.le_refl _), hlen, Nat.sub_self, List.set_cons_zero, List.map_append, List.map_append, List.append_assoc]
  rfl

end Go.Proofs.Ytajihpcihlbjgaa
