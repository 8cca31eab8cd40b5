/- The laws on the sum of a tally and on the place of a cell. -/
import Derived.Test.YtahdgagipmpcgaaTFun5
import Derived.Test.YtahdgagipmpcgaaALaw3
namespace Go.Proofs.Ytahdgagipmpcgaa
set_option maxRecDepth 100000
set_option linter.unusedVariables false
open Go.RowKit

theorem Sta.lens {S : Sta} {L : Int} (h : S.sz ≤ L) (hL : L ≤ 1048576) : S.l.length ≤ 1048576 ∧ S.T.length ≤ 1048576 ∧ S.L.length ≤ 1048576 ∧ S.C.length ≤ 1048576 := by
  unfold Sta.sz at h
  omega
theorem Sta.sz_nonneg (S : Sta) : 0 ≤ S.sz := by unfold Sta.sz; omega
theorem toState_at (S : Sta) (v0 v1 v2 v3 : Value) (w : World) (hn : S.l.length ≤ 1048576 ∧ S.T.length ≤ 1048576 ∧ S.L.length ≤ 1048576 ∧ S.C.length ≤ 1048576) (hA : ArgState w S v0 v1 v2 v3) :
    Calls Try.prog 11 #[.agg #[v0, v1, v2, v3]] w fun e w' => ∃ a0 c0 a1 c1 a2 c2 a3 c3, e = .returned (.agg #[.slice a0 S.l.length c0, .slice a1 S.T.length c1, .slice a2 S.L.length c2, .slice a3 S.C.length c3]) ∧ StAt w' S (.slice a0 S.l.length c0) (.slice a1 S.T.length c1) (.slice a2 S.L.length c2) (.slice a3 S.C.length c3) ∧ Below w.heap.size w w' := by
  refine (toState_calls S v0 v1 v2 v3 w hn hA).mono ?_
  rintro e w' ⟨u0, u1, u2, u3, rfl, ho, hb⟩
  have h := ho.at
  obtain ⟨a0, c0, a1, c1, a2, c2, a3, c3, rfl, rfl, rfl, rfl⟩ := h.shape
  exact ⟨a0, c0, a1, c1, a2, c2, a3, c3, rfl, h, hb⟩

end Go.Proofs.Ytahdgagipmpcgaa
