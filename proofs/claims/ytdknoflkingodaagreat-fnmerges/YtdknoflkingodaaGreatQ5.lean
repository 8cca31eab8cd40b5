/- Plain facts on the bytes of a number, with nothing of the pr. -/
import Derived.Lib.UnsafeStr
import Derived.WalkKit
set_option maxHeartbeats 16000000
namespace Go.Proofs.YtdknoflkingodaaGreat
open Value (int)
open IntKind (i64)
set_option maxRecDepth 100000
set_option linter.unusedVariables false
theorem Jce (w : World) (x : Value) (e : TypeId) : ∀ j u, [x][j]? = some u → (w.alloc (.cells #[x] e)).cell? (Addr.add ⟨w.heap.size, 0, none⟩ j) = some u := by
 intro j u hj
 match j, hj with
 | 0, hj => simp at hj; subst hj; simp [Addr.add]
theorem Ja {p : Prop} (h : p) : Go.RowKit.Hid p := h
theorem KF (B j : Nat) : (⟨B, 0, none⟩ : Addr).add j = ⟨B, j, none⟩ := by unfold Addr.add; split <;> simp_all
def Ji7 : Nat → List UInt8 → Nat → Nat → Nat → Bool → Option (Nat × Nat)
 | 0, _, _, _, _, _ => none
 | _ + 1, [], _, _, _, _ => none
 | k + 1, b :: r, n, sc, i, first =>
  if b.toNat < 128 then (if 1000000000 < n + b.toNat % 128 * sc ∨ (b.toNat = 0 ∧ first = false) then none else some (n + b.toNat % 128 * sc, i + 1))
  else Ji7 k r (n + b.toNat % 128 * sc) (sc * 128) (i + 1) false
def rv (l : List UInt8) (a : Int) : Option (Nat × Nat) := if 0 ≤ a ∧ a ≤ l.length then Ji7 5 (l.drop a.toNat) 0 1 a.toNat true else none
end Go.Proofs.YtdknoflkingodaaGreat
