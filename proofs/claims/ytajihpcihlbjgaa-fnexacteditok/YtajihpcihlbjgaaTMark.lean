/- The marks that the laws write into texts. -/
import Derived.Test.YtajihpcihlbjgaaTSt
import Derived.Laws.IdiomStrings
import Derived.OwnWalk
import Derived.WalkSmall
namespace Go.Proofs.Ytajihpcihlbjgaa
set_option maxRecDepth 100000
set_option linter.unusedVariables false
open Go.RowKit

/-- The figures of a number, ahead of others. -/
def decGo (n : Nat) (acc : List UInt8) : List UInt8 := if n = 0 then acc else decGo (n / 10) (UInt8.ofNat (48 + n % 10) :: acc)
termination_by n
decreasing_by omega

theorem decGo_zero (acc : List UInt8) : decGo 0 acc = acc := by rw [decGo, if_pos rfl]
theorem decGo_step {n : Nat} (h : n ≠ 0) (acc : List UInt8) : decGo n acc = decGo (n / 10) (UInt8.ofNat (48 + n % 10) :: acc) := by rw [decGo, if_neg h]
theorem ba_app2 (a b : List UInt8) : (⟨a.toArray⟩ ++ ⟨b.toArray⟩ : ByteArray) = ⟨(a ++ b).toArray⟩ := by
  apply ByteArray.ext
  simp

theorem byte_str2 (x : Nat) (hx : x < 256) (w : World) :
    (convert 29 9 (.slice (some ⟨w.heap.size, 0, none⟩) 1 1)).run Try.prog (w.alloc (.cells #[Value.int .u8 (x : Int)] 5)) = .ok (.string ⟨[UInt8.ofNat x].toArray⟩) (w.alloc (.cells #[Value.int .u8 (x : Int)] 5)) := by
  refine run_convert_bytes_back (P := Try.prog) (w.alloc (.cells #[Value.int .u8 (x : Int)] 5)) 29 9 5 ⟨w.heap.size, 0, none⟩ 1 [UInt8.ofNat x] Try.underlying29 Try.underlying5 Try.underlying9 ?_
  intro j hj
  match j, hj with
  | 0, _ => simp [Addr.add, Nat.mod_eq_of_lt hx]

/-- The mark of a number. -/
def mkT (k : Nat) : List UInt8 := 109 :: decGo k []

end Go.Proofs.Ytajihpcihlbjgaa
