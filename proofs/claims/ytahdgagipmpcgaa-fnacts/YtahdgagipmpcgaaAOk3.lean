/- A right act, as both tell it. -/
import Derived.Test.YtahdgagipmpcgaaAOkS1
import Derived.Test.YtahdgagipmpcgaaAOkS2
import Derived.Test.YtahdgagipmpcgaaAOkI1
namespace Go.Proofs.Ytahdgagipmpcgaa
set_option maxRecDepth 100000
set_option linter.unusedVariables false
open Go.RowKit

theorem specActOk_calls (A : Ac) (u : Value) (w : World) (h : A.l.length ≤ 1048576 ∧ A.o.size ≤ 1048576 ∧ A.y.size ≤ 1048576) (hu : IntsAt w u A.l) :
    Calls Try.prog 54 #[A.val u] w fun e w' => e = .returned (.bool (decide (AOk A))) ∧ Below w.heap.size w w' := by
  obtain ⟨r, s, t, k, v, x, z, o, y, l⟩ := A
  by_cases hd : DOk r s
  case neg => exact sAct_a _ _ _ _ _ _ _ _ _ _ u w h.1 h.2.1 h.2.2 hu hd
  by_cases hk : KOk l
  case neg => exact sAct_b _ _ _ _ _ _ _ _ _ _ u w h.1 h.2.1 h.2.2 hu hd hk
  by_cases hx : l.getD r.toNat 0 = s - 1
  case neg => exact sAct_c _ _ _ _ _ _ _ _ _ _ u w h.1 h.2.1 h.2.2 hu hd hk hx
  by_cases ht : 1 ≤ t ∧ t ≤ 10000
  case neg => exact sAct_d _ _ _ _ _ _ _ _ _ _ u w h.1 h.2.1 h.2.2 hu hd hk hx ht
  by_cases hp : PlainOk k o y v
  case neg => exact sAct_e _ _ _ _ _ _ _ _ _ _ u w h.1 h.2.1 h.2.2 hu hd hk hx ht hp
  exact sAct_f _ _ _ _ _ _ _ _ _ _ u w h.1 h.2.1 h.2.2 hu hd hk hx ht hp

theorem actOk_calls (A : Ac) (u : Value) (w : World) (h : A.l.length ≤ 1048576 ∧ A.o.size ≤ 1048576 ∧ A.y.size ≤ 1048576) (hu : IntsAt w u A.l) :
    Calls Try.prog 55 #[A.val u] w fun e w' => e = .returned (.bool (decide (AOk A))) ∧ Below w.heap.size w w' := by
  obtain ⟨r, s, t, k, v, x, z, o, y, l⟩ := A
  by_cases hd : DOk r s
  case neg => exact iAct_a _ _ _ _ _ _ _ _ _ _ u w h.1 h.2.1 h.2.2 hu hd
  by_cases hk : KOk l
  case neg => exact iAct_b _ _ _ _ _ _ _ _ _ _ u w h.1 h.2.1 h.2.2 hu hd hk
  by_cases hx : l.getD r.toNat 0 = s - 1
  case neg => exact iAct_c _ _ _ _ _ _ _ _ _ _ u w h.1 h.2.1 h.2.2 hu hd hk hx
  exact iAct_f _ _ _ _ _ _ _ _ _ _ u w h.1 h.2.1 h.2.2 hu hd hk hx


end Go.Proofs.Ytahdgagipmpcgaa
