/- What the two readers of a short text do. -/
import Derived.Test.YtahdgagipmpcgaaRVar
import Derived.Test.YtahdgagipmpcgaaShelf
namespace Go.Proofs.Ytahdgagipmpcgaa
set_option maxRecDepth 100000
set_option linter.unusedVariables false
open Go.RowKit

set_option maxHeartbeats 400000 in
theorem clone_calls (s : ByteArray) (w : World) (h : s.size ≤ 281474976710656) :
    Calls Try.prog 140 #[.string s] w fun e w' => e = .returned (.string s) ∧ Below w.heap.size w w' := by
  go_enter Try.func140, Try.ntmps140
  go_wp2_with (go_at_call 180; refine (Try.stringslite_Clone s _ h).mono ?_; rintro e w1 ⟨rfl, hb1⟩)
  go_ret
  exact ⟨rfl, hb1⟩

set_option maxHeartbeats 400000 in
theorem specRShort_no (s : ByteArray) (a : Int) (hs : s.size ≤ 1048576) (h : rv s.data.toList a = none) (w : World) :
    Calls Try.prog 210 #[.string s, .int .i64 a] w fun e w' => e = .returned (.tuple #[.string ByteArray.empty, .int .i64 0, .bool false]) ∧ Below w.heap.size w w' := by
  have HR : Hid (rv s.data.toList a = none) := h
  clear h
  go_enter Try.func210, Try.ntmps210
  go_wp2_with (go_at_call 209; refine (specRead_none hs HR.out _).mono ?_; rintro e w1 ⟨rfl, hb1⟩)
  go_ret3
  exact ⟨rfl, hb1⟩

set_option maxHeartbeats 400000 in
theorem implRShort_no (s : ByteArray) (a : Int) (hs : s.size ≤ 1048576) (h : rv s.data.toList a = none) (w : World) :
    Calls Try.prog 165 #[.string s, .int .i64 a] w fun e w' => e = .returned (.tuple #[.string ByteArray.empty, .int .i64 0, .bool false]) ∧ Below w.heap.size w w' := by
  have HR : Hid (rv s.data.toList a = none) := h
  clear h
  go_enter Try.func165, Try.ntmps165
  go_wp2_with (go_at_call 164; refine (implRead_none hs HR.out _).mono ?_; rintro e w1 ⟨rfl, rfl⟩)
  go_ret3
  exact ⟨rfl, Below.refl _ _⟩

set_option maxHeartbeats 1000000 in
theorem specRShort_far (s : ByteArray) (a : Int) (n j : Nat) (hs : s.size ≤ 1048576) (h : rv s.data.toList a = some (n, j)) (hn : n ≤ 1000000000) (hj : j ≤ s.size) (hf : 20000 < n ∨ s.size < j + n) (w : World) :
    Calls Try.prog 210 #[.string s, .int .i64 a] w fun e w' => e = .returned (.tuple #[.string ByteArray.empty, .int .i64 0, .bool false]) ∧ Below w.heap.size w w' := by
  have HR : Hid (rv s.data.toList a = some (n, j)) := h
  clear h
  by_cases h2 : (20000 : Int) < n
  · clear hf
    go_enter Try.func210, Try.ntmps210
    go_wp2_with (go_at_call 209; refine (specRead_some hs HR.out _).mono ?_; rintro e w1 ⟨rfl, hb1⟩)
    go_ret3
    exact ⟨rfl, hb1⟩
  · have h3 : (s.size : Int) - j < n := by omega
    clear hf
    go_enter Try.func210, Try.ntmps210
    go_wp2_with (go_at_call 209; refine (specRead_some hs HR.out _).mono ?_; rintro e w1 ⟨rfl, hb1⟩)
    go_ret3
    exact ⟨rfl, hb1⟩

set_option maxHeartbeats 1000000 in
theorem implRShort_far (s : ByteArray) (a : Int) (n j : Nat) (hs : s.size ≤ 1048576) (h : rv s.data.toList a = some (n, j)) (hn : n ≤ 1000000000) (hj : j ≤ s.size) (hf : 20000 < n ∨ s.size < j + n) (w : World) :
    Calls Try.prog 165 #[.string s, .int .i64 a] w fun e w' => e = .returned (.tuple #[.string ByteArray.empty, .int .i64 0, .bool false]) ∧ Below w.heap.size w w' := by
  have HR : Hid (rv s.data.toList a = some (n, j)) := h
  clear h
  by_cases h2 : (20000 : Int) < n
  · clear hf
    go_enter Try.func165, Try.ntmps165
    go_wp2_with (go_at_call 164; refine (implRead_some hs HR.out _).mono ?_; rintro e w1 ⟨rfl, rfl⟩)
    go_ret3
    exact ⟨rfl, Below.refl _ _⟩
  · have h3 : (s.size : Int) - j < n := by omega
    clear hf
    go_enter Try.func165, Try.ntmps165
    go_wp2_with (go_at_call 164; refine (implRead_some hs HR.out _).mono ?_; rintro e w1 ⟨rfl, rfl⟩)
    go_ret3
    exact ⟨rfl, Below.refl _ _⟩

set_option maxHeartbeats 1000000 in
theorem specRShort_yes (s : ByteArray) (a : Int) (n j : Nat) (hs : s.size ≤ 1048576) (h : rv s.data.toList a = some (n, j)) (h2 : n ≤ 20000) (h3 : j + n ≤ s.size) (w : World) :
    Calls Try.prog 210 #[.string s, .int .i64 a] w fun e w' => e = .returned (.tuple #[.string (s.extract j (j + n)), .int .i64 ((j : Int) + n), .bool true]) ∧ Below w.heap.size w w' := by
  have HR : Hid (rv s.data.toList a = some (n, j)) := h
  clear h
  have h4 : ¬ ((s.size : Int) - j < n) := by omega
  have h5 : (j : Int) + n ≤ s.size := by omega
  go_enter Try.func210, Try.ntmps210
  go_wp2_with (go_at_call 209; refine (specRead_some hs HR.out _).mono ?_; rintro e w1 ⟨rfl, hb1⟩)
  go_ret3
  exact ⟨rfl, hb1⟩

set_option maxHeartbeats 1000000 in
theorem implRShort_yes (s : ByteArray) (a : Int) (n j : Nat) (hs : s.size ≤ 1048576) (h : rv s.data.toList a = some (n, j)) (h2 : n ≤ 20000) (h3 : j + n ≤ s.size) (w : World) :
    Calls Try.prog 165 #[.string s, .int .i64 a] w fun e w' => e = .returned (.tuple #[.string (s.extract j (j + n)), .int .i64 ((j : Int) + n), .bool true]) ∧ Below w.heap.size w w' := by
  have HR : Hid (rv s.data.toList a = some (n, j)) := h
  clear h
  have h4 : ¬ ((s.size : Int) - j < n) := by omega
  have h5 : (j : Int) + n ≤ s.size := by omega
  go_enter Try.func165, Try.ntmps165
  go_wp2_with (first | (go_at_call 164; refine (implRead_some hs HR.out _).mono ?_; rintro e w1 ⟨rfl, rfl⟩) | (go_at_call 140; refine (clone_calls _ _ (by simp; omega)).mono ?_; rintro e w2 ⟨rfl, hb2⟩))
  go_ret3
  exact ⟨rfl, hb2⟩
end Go.Proofs.Ytahdgagipmpcgaa
