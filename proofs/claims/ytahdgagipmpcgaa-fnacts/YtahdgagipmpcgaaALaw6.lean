/- The law on reading an act. -/
import Derived.Test.YtahdgagipmpcgaaARead6
import Derived.Test.YtahdgagipmpcgaaALawA
namespace Go.Proofs.Ytahdgagipmpcgaa
set_option maxRecDepth 100000
set_option linter.unusedVariables false
open Go.RowKit

theorem specReadAct_calls (s : ByteArray) (hs : s.size ≤ 1048576) (a : Int) (w : World) :
    Calls Try.prog 50 #[.string s, .int .i64 a] w fun e w' => ∃ aa ca, e = .returned (.tuple #[(rdR s a).1.val (.slice aa (rdR s a).1.l.length ca), .int .i64 (rdR s a).2.1, .bool (rdR s a).2.2]) ∧ IntsAt w' (.slice aa (rdR s a).1.l.length ca) (rdR s a).1.l ∧ Below w.heap.size w w' := by
  by_cases h : a < 0 ∨ (s.size : Int) < a
  · have e : rdR s a = (zAc, 0, false) := rdR_none (rdE_out h)
    refine (specReadAct_out s hs a w h).mono ?_
    rintro r w' ⟨rfl, hb⟩
    exact ⟨none, 0, by rw [e]; rfl, by rw [e]; exact ⟨none, 0, rfl, fun h => by simp [zAc] at h⟩, hb⟩
  · exact specReadAct_in s hs a w (by omega) (by omega)
theorem rdR_len (s : ByteArray) (a : Int) : (rdR s a).1.l.length ≤ 3 := by
  unfold rdR
  split
  · simp [zAc]
  · split
    · rw [rdA_len]; omega
    · simp [zAc]

end Go.Proofs.Ytahdgagipmpcgaa
