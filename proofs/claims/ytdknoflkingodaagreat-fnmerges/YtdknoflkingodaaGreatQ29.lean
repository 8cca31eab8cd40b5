/- A right act, as both tell it. -/
import Derived.Test.YtdknoflkingodaaGreatQ28
set_option maxHeartbeats 16000000
namespace Go.Proofs.YtdknoflkingodaaGreat
open Value (int)
open IntKind (i64)
set_option maxRecDepth 100000
set_option linter.unusedVariables false
open Go.RowKit
theorem J8 (A : Ac) (u : Value) (w : World) (h : A.l.length ≤ 1048576 ∧ A.o.size ≤ 1048576 ∧ A.y.size ≤ 1048576) (hu : IntsAt w u A.l) :
  Calls Tryz.prog 140 #[A.val u] w fun e w' => e = .returned (.bool (decide (AOk A))) ∧ Below w.heap.size w w' := by
 obtain ⟨r, s, t, k, v, x, z, o, y, l⟩ := A
 by_cases hdk : DOk r s ∧ KOk l
 case neg => exact Jgc _ _ _ _ _ _ _ _ _ _ u w h.1 hu hdk
 exact JgY _ _ _ _ _ _ _ _ _ _ u w h.1 h.2.1 h.2.2 hu hdk.1 hdk.2
end Go.Proofs.YtdknoflkingodaaGreat
