/- Marks are written into the parts of a state. -/
import Derived.Test.YtahdgagipmpcgaaTMark
import Derived.Test.YtahdgagipmpcgaaTFun3
namespace Go.Proofs.Ytahdgagipmpcgaa
set_option maxRecDepth 100000
set_option linter.unusedVariables false
open Go.RowKit

theorem grow_set (w : World) (b i : Nat) (x : Value) : w.grownBy (w.setCell ⟨b, i, none⟩ x) (some b) := ⟨rfl, rfl, rfl, by simp [World.setCell], fun k _ hk => Below.heap_setCell w _ x k (fun e => hk (by rw [e]))⟩
def mkS (x : Int) : ByteArray := ⟨(mkT x.toNat).toArray⟩
theorem markS (x : Int) (h0 : 1 ≤ x) (h1 : x ≤ 1099511627776) (w : World) : Calls Try.prog 78 #[.int .i64 x] w fun e w' => e = .returned (.string (mkS x)) ∧ Below w.heap.size w w' := mark_int x h0 (by omega) w

end Go.Proofs.Ytahdgagipmpcgaa
