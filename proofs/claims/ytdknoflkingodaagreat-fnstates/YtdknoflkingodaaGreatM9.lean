/- What the laws' own helpers on lists of numbers do; a list that is handed in. A row of one's own, and between which places it lies: so that two rows are told apart. A dot that was handed in. -/
import Derived.Below
import Derived.Carry
import Derived.ChangeSlices
import Derived.ChangeVars
import Derived.OpenShut
import Derived.ProofKit
import Derived.Test.YtdknoflkingodaaGreatM3
import Derived.Test.YtdknoflkingodaaGreatM5
import Derived.Test.YtdknoflkingodaaGreatM6
import Derived.Test.YtdknoflkingodaaGreatM7
import Derived.Test.YtdknoflkingodaaGreatM8
namespace Go.Proofs.YtdknoflkingodaaGreat
set_option maxRecDepth 100000
set_option linter.unusedVariables false
open Go.ChangeShapes Go.WideShapes Go.RowKit
theorem grownBy_below {w w' : World} (h : Below w.heap.size w w') (row : Option Nat) : w.grownBy w' row := ⟨h.os, h.tape, h.output, h.size, fun k hk _ => h.block k hk⟩
theorem own_below {w w' : World} {B : Nat} {e : TypeId} {size n : Nat} {v : Value} {xs : List Value} (h : w.ownsRow B e size v n xs) (hb : Below w.heap.size w w') : w'.ownsRow B e size v n xs :=
 h.kept (grownBy_below hb none) (by cases v.ownBlock with
  | none => exact .inl rfl
  | some g => exact .inr (by simp))
end Go.Proofs.YtdknoflkingodaaGreat
namespace Go.Proofs.YtdknoflkingodaaGreat
set_option maxRecDepth 100000
set_option linter.unusedVariables false
open Go.RowKit
/-- A row that lies from lo on, and below hi. -/
def Rw (wr : World) (lo hi : Nat) (e : TypeId) (sz : Nat) (u : Value) (n : Nat) (xs : List Value) : Prop := wr.ownsRow lo e sz u n xs ∧ ∀ k, u.ownBlock = some k → k < hi
theorem Rw.new {w : World} {lo : Nat} {e : TypeId} {sz n : Nat} {u : Value} {xs : List Value} (h : w.ownsRow lo e sz u n xs) : Rw w lo w.heap.size e sz u n xs := ⟨h, fun k hk => (h.lt k hk).2⟩
theorem Rw.ints {w : World} {lo hi : Nat} {u : Value} {l : List Int} (h : Rw w lo hi 3 1 u l.length (intV l)) : IntsAt w u l := IntsAt.own h.1 rfl
end Go.Proofs.YtdknoflkingodaaGreat
