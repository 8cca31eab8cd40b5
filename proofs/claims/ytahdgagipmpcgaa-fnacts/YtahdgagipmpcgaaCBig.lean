/- The bytes that a drawn law is handed: how many there are, that they stay, and whether there are too many. -/
import Derived.Test.YtahdgagipmpcgaaCDraw
namespace Go.Proofs.Ytahdgagipmpcgaa
set_option maxRecDepth 100000
set_option linter.unusedVariables false
open Go.RowKit

/-- How many bytes a slice has. -/
theorem CodeIs.form {w : World} {B : Nat} {v : Value} {n : Nat} (h : CodeIs w B v n) : ∃ a cap, v = .slice a n cap := by
  rcases h with ⟨rfl, a, cap, rfl⟩ | ⟨b, off, cap, rfl, -⟩
  · exact ⟨a, cap, rfl⟩
  · exact ⟨_, cap, rfl⟩
theorem CodeIs.below {w w' : World} {B : Nat} {v : Value} {n : Nat} (h : CodeIs w B v n) (hb : Below B w w') : CodeIs w' B v n := by
  rcases h with h | ⟨b, off, cap, rfl, hbb, hx⟩
  · exact .inl h
  · refine .inr ⟨b, off, cap, rfl, hbb, fun j hj => ?_⟩
    obtain ⟨y, hy1, hy2⟩ := hx j hj
    exact ⟨y, hy1, (hb.cell (p := ⟨b, off + j, none⟩) hbb).trans hy2⟩

theorem big_calls (a : Option Addr) (n cap : Nat) (w : World) :
    Calls Try.prog 28 #[.slice a n cap] w fun e w' => e = .returned (.bool (decide ((1048576 : Int) < n))) ∧ w' = w := by
  by_cases h : (1048576 : Int) < n
  · go_enter Try.func28, Try.ntmps28
    go_wp2
    go_ret
    exact ⟨by simp; omega, rfl⟩
  · go_enter Try.func28, Try.ntmps28
    go_wp2
    go_ret
    exact ⟨by simp; omega, rfl⟩

end Go.Proofs.Ytahdgagipmpcgaa
