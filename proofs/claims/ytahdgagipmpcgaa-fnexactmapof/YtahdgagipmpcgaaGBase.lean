/- What the laws on what is read begin with. -/
import Derived.Test.YtahdgagipmpcgaaTLaw1
import Derived.Test.YtahdgagipmpcgaaTMark6
namespace Go.Proofs.Ytahdgagipmpcgaa
set_option maxRecDepth 100000
set_option linter.unusedVariables false
open Go.RowKit

theorem sz_mem (a : Li) (l : List Li) (h : a ∈ l) : a.o.size + a.y.size ≤ liSz l := by
  induction l with
  | nil => cases h
  | cons b l ih =>
    have e : liSz (b :: l) = b.sz + liSz l := by simp [liSz]
    rw [e]
    rcases List.mem_cons.1 h with rfl | h
    · unfold Li.sz; omega
    · have := ih h; omega
theorem OwnSt.below {w w' : World} {lo hi : Nat} {S : Sta} {u0 u1 u2 u3 : Value} (h : OwnSt w lo hi S u0 u1 u2 u3) (hb : Below w.heap.size w w') : OwnSt w' lo hi S u0 u1 u2 u3 := by
  obtain ⟨m1, m2, m3, o1, o2, o3, o4, r0, r1, r2, r3⟩ := h
  exact ⟨m1, m2, m3, o1, o2, o3, o4, r0.below hb, r1.below hb, r2.below hb, r3.below hb⟩
theorem toState_own (S : Sta) (v0 v1 v2 v3 : Value) (w : World) (hn : S.l.length ≤ 1048576 ∧ S.T.length ≤ 1048576 ∧ S.L.length ≤ 1048576 ∧ S.C.length ≤ 1048576) (hA : ArgState w S v0 v1 v2 v3) :
    Calls Try.prog 11 #[.agg #[v0, v1, v2, v3]] w fun e w' => ∃ b0 d0 b1 d1 b2 d2 b3 d3, e = .returned (.agg #[.slice b0 S.l.length d0, .slice b1 S.T.length d1, .slice b2 S.L.length d2, .slice b3 S.C.length d3]) ∧ OwnSt w' w.heap.size w'.heap.size S (.slice b0 S.l.length d0) (.slice b1 S.T.length d1) (.slice b2 S.L.length d2) (.slice b3 S.C.length d3) ∧ Below w.heap.size w w' := by
  refine (toState_calls S v0 v1 v2 v3 w hn hA).mono ?_
  rintro e w' ⟨u0, u1, u2, u3, rfl, ho, hb⟩
  obtain ⟨a0, c0, a1, c1, a2, c2, a3, c3, rfl, rfl, rfl, rfl⟩ := ho.at.shape
  exact ⟨a0, c0, a1, c1, a2, c2, a3, c3, rfl, ho, hb⟩

end Go.Proofs.Ytahdgagipmpcgaa
