/- How much there is in a state. -/
import Derived.Test.YtajihpcihlbjgaaTTo2
namespace Go.Proofs.Ytajihpcihlbjgaa
set_option maxRecDepth 100000
set_option linter.unusedVariables false
open Go.RowKit

theorem sum_take_succ {α : Type} (f : α → Nat) (l : List α) (j : Nat) (h : j < l.length) : ((l.take (j + 1)).map f).sum = ((l.take j).map f).sum + f l[j] := by
  rw [List.take_succ_eq_append_getElem h, List.map_append, List.sum_append]; simp
theorem sum_take_le {α : Type} (f : α → Nat) (l : List α) (j : Nat) : ((l.take j).map f).sum ≤ (l.map f).sum := by
  have := List.take_append_drop j l
  calc ((l.take j).map f).sum ≤ ((l.take j).map f).sum + ((l.drop j).map f).sum := Nat.le_add_right _ _
    _ = (l.map f).sum := by rw [← List.sum_append, ← List.map_append, this]

def Ta.sz (a : Ta) : Nat := a.o.size
def taSz (l : List Ta) : Nat := (l.map Ta.sz).sum
def Li.sz (a : Li) : Nat := a.o.size + a.y.size
def liSz (l : List Li) : Nat := (l.map Li.sz).sum
def Ce.sz (a : Ce) : Nat := a.o.size
def ceSz (l : List Ce) : Nat := (l.map Ce.sz).sum
/-- A state that was handed in. -/
def ArgState (w : World) (S : Sta) (v0 v1 v2 v3 : Value) : Prop := ArgInts w v0 S.l ∧ ArgTallys w v1 S.T ∧ ArgLives w v2 S.L ∧ ArgCells w v3 S.C
theorem ArgState.below {w w' : World} {S : Sta} {v0 v1 v2 v3 : Value} (h : ArgState w S v0 v1 v2 v3) (hb : Below w.heap.size w w') : ArgState w' S v0 v1 v2 v3 := ⟨h.1.below hb, h.2.1.below hb, h.2.2.1.below hb, h.2.2.2.below hb⟩
def Sta.sz (S : Sta) : Int := (S.l.length : Int) + ((S.T.length : Int) + taSz S.T) + ((S.L.length : Int) + liSz S.L) + ((S.C.length : Int) + ceSz S.C)
theorem leftOf_two (L a b : Int) (ha : 0 ≤ a) (hb : 0 ≤ b) (h : a ≤ L) : leftOf (leftOf L a) b = leftOf L (a + b) := by
  unfold leftOf
  rw [if_pos h]
  by_cases h2 : b ≤ L - a
  · rw [if_pos h2, if_pos (by omega)]; omega
  · rw [if_neg h2, if_neg (by omega)]
end Go.Proofs.Ytajihpcihlbjgaa
