/- Plain facts on the bytes of a number, with nothing of the program in them. -/
import Derived.WalkKit
import Derived.Lib.UnsafeStr
namespace Go.Proofs.Ytajihpcihlbjgaa
set_option maxRecDepth 100000
set_option linter.unusedVariables false

/-- The bytes of a number, the low seven bits first. -/
def varB (n : Nat) : List UInt8 := if n < 128 then [UInt8.ofNat n] else UInt8.ofNat (n % 128 + 128) :: varB (n / 128)
termination_by n
decreasing_by omega

theorem varB_small {n : Nat} (h : n < 128) : varB n = [UInt8.ofNat n] := by rw [varB, if_pos h]
theorem varB_big {n : Nat} (h : ¬ n < 128) : varB n = UInt8.ofNat (n % 128 + 128) :: varB (n / 128) := by rw [varB, if_neg h]
theorem varB_len (n : Nat) : 0 < (varB n).length := by
  rw [varB]; split <;> simp

theorem bc_one (m : Nat) (h : m < 256) : Lib.byteCells [UInt8.ofNat m] = [Value.int .u8 (m : Int)] := by
  simp [Lib.byteCells, Nat.mod_eq_of_lt h]
theorem bc_app (a b : List UInt8) : Lib.byteCells (a ++ b) = Lib.byteCells a ++ Lib.byteCells b := by simp [Lib.byteCells]
theorem bc_len (a : List UInt8) : (Lib.byteCells a).length = a.length := by simp [Lib.byteCells]
/-- One byte more is owned. -/
theorem own_snoc {w : World} {B : Nat} {v : Value} {d : List UInt8} {x : Nat} (hx : x < 256) {c : Int} (hc : c = x) (h : w.ownsRow B 5 1 v (d.length + 1) (Lib.byteCells d ++ [Value.int .u8 c])) :
    w.ownsRow B 5 1 v (d ++ [UInt8.ofNat x]).length (Lib.byteCells (d ++ [UInt8.ofNat x])) := by
  subst hc
  rw [bc_app, bc_one x hx, List.length_append]
  exact h
theorem one_new (w : World) (x : Value) (e : TypeId) : ∀ j u, [x][j]? = some u → (w.alloc (.cells #[x] e)).cell? (Addr.add ⟨w.heap.size, 0, none⟩ j) = some u := by
  intro j u hj
  match j, hj with
  | 0, hj => simp at hj; subst hj; simp [Addr.add]

theorem hidI {p : Prop} (h : p) : Go.RowKit.Hid p := h
theorem addr_add (B j : Nat) : (⟨B, 0, none⟩ : Addr).add j = ⟨B, j, none⟩ := by unfold Addr.add; split <;> simp_all

end Go.Proofs.Ytajihpcihlbjgaa
