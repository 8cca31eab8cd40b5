/- A row of one's own, and between which places it lies: so that two rows are told apart. A dot that was handed in. -/
import Derived.Test.YtajihpcihlbjgaaKInts
namespace Go.Proofs.Ytajihpcihlbjgaa
set_option maxRecDepth 100000
set_option linter.unusedVariables false
open Go.RowKit

/-- A row that lies from lo on, and below hi. -/
def Rw (wr : World) (lo hi : Nat) (e : TypeId) (sz : Nat) (u : Value) (n : Nat) (xs : List Value) : Prop := wr.ownsRow lo e sz u n xs ∧ ∀ k, u.ownBlock = some k → k < hi
theorem Rw.new {w : World} {lo : Nat} {e : TypeId} {sz n : Nat} {u : Value} {xs : List Value} (h : w.ownsRow lo e sz u n xs) : Rw w lo w.heap.size e sz u n xs := ⟨h, fun k hk => (h.lt k hk).2⟩
theorem Rw.below {w w' : World} {lo hi : Nat} {e : TypeId} {sz n : Nat} {u : Value} {xs : List Value} (h : Rw w lo hi e sz u n xs) (hb : Below w.heap.size w w') : Rw w' lo hi e sz u n xs := ⟨own_below h.1 hb, h.2⟩
theorem Rw.other {w w' : World} {lo hi lo' hi' : Nat} {e e' : TypeId} {sz sz' n n' : Nat} {u u' : Value} {xs xs' : List Value} (h : Rw w lo hi e sz u n xs) (k : Rw w lo' hi' e' sz' u' n' xs') (hd : hi ≤ lo' ∨ hi' ≤ lo) (hg : w.grownBy w' u'.ownBlock) : Rw w' lo hi e sz u n xs := by
  refine ⟨h.1.kept hg ?_, h.2⟩
  cases hv : u.ownBlock with
  | none => exact .inl rfl
  | some g =>
    refine .inr fun e' => ?_
    have h1 := (h.1.lt g hv).1
    have h2 := h.2 g hv
    have h3 := (k.1.lt g e'.symm).1
    have h4 := k.2 g e'.symm
    omega
theorem Rw.ints {w : World} {lo hi : Nat} {u : Value} {l : List Int} (h : Rw w lo hi 3 1 u l.length (intV l)) : IntsAt w u l := IntsAt.own h.1 rfl
theorem Rw.base {w : World} {lo hi : Nat} {e : TypeId} {sz n : Nat} {u : Value} {xs : List Value} (h : Rw w lo hi e sz u n xs) {B : Nat} (hB : B ≤ lo) : ∀ k, u.ownBlock = some k → B ≤ k := fun k hk => Nat.le_trans hB (h.1.lt k hk).1

end Go.Proofs.Ytajihpcihlbjgaa
