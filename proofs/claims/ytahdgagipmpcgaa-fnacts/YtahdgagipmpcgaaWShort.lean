/- What the two writers of a short text do. -/
import Derived.Test.YtahdgagipmpcgaaWVar
namespace Go.Proofs.Ytahdgagipmpcgaa
set_option maxRecDepth 100000
set_option linter.unusedVariables false
open Go.RowKit

theorem implVar_int (x : Int) (h0 : 0 ≤ x) (h1 : x ≤ 1000000000) (w : World) :
    Calls Try.prog 161 #[.int .i64 x] w fun e w' => e = .returned (.tuple #[.string ⟨(varB x.toNat).toArray⟩, .bool true]) ∧ Below w.heap.size w w' := by
  obtain ⟨N, rfl⟩ := Int.eq_ofNat_of_zero_le h0
  exact implVar_calls N (by omega) w

theorem varB_len_le (n : Nat) : (varB n).length ≤ n + 1 := by
  induction n using Nat.strongRecOn with
  | _ n ih =>
    by_cases h : n < 128
    · rw [varB_small h]; simp
    · rw [varB_big h]; have := ih (n / 128) (by omega); simp only [List.length_cons]; omega

/-- What a short text is in bytes. -/
def shortB (s : ByteArray) : ByteArray := ⟨(varB s.size).toArray⟩ ++ s

theorem implShort_no (s : ByteArray) (hs : s.size ≤ maxLen) (h : 20000 < s.size) (w : World) :
    Calls Try.prog 163 #[.string s] w fun e w' => e = .returned (.tuple #[.string ByteArray.empty, .bool false]) ∧ w' = w := by
  unfold maxLen at hs
  go_enter Try.func163, Try.ntmps163
  go_wp2
  go_ret2
  exact ⟨rfl, rfl⟩

set_option maxHeartbeats 400000 in
theorem implShort_yes (s : ByteArray) (h : s.size ≤ 20000) (w : World) :
    Calls Try.prog 163 #[.string s] w fun e w' => e = .returned (.tuple #[.string (shortB s), .bool true]) ∧ Below w.heap.size w w' := by
  have hl := varB_len_le s.size
  obtain ⟨L, hL⟩ : ∃ L : ByteArray, L = ⟨(varB s.size).toArray⟩ := ⟨_, rfl⟩
  have hLs : L.size + s.size ≤ 9223372036854775807 := by rw [hL]; show (varB s.size).toArray.size + _ ≤ _; simp; omega
  have HL : Hid (L = ⟨(varB s.size).toArray⟩) := hL
  clear hL
  have hc : ∀ wx, Calls Try.prog 161 #[.int .i64 (s.size : Int)] wx fun e w' => e = .returned (.tuple #[.string L, .bool true]) ∧ Below wx.heap.size wx w' := by
    intro wx; rw [HL.out]; exact implVar_calls s.size (by omega) wx
  have hadd := fun wx => run_string_add_sum (P := Try.prog) wx L s hLs
  have HC := hc
  clear hc
  go_enter Try.func163, Try.ntmps163
  go_wp2_with (go_at_call 161; refine (HC _).mono ?_; rintro e w1 ⟨rfl, hb1⟩)
  go_ret2
  exact ⟨by rw [HL.out]; rfl, hb1⟩
end Go.Proofs.Ytahdgagipmpcgaa
