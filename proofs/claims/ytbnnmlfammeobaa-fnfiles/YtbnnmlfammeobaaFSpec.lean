/- What the specification's functions on a file do, and that both answer alike. -/
import Derived.Test.YtbnnmlfammeobaaFImpl
namespace Go.Proofs.Ytbnnmlfammeobaa
open Go.RowKit

set_option maxHeartbeats 800000 in
theorem specSynced_not (s : ByteArray) (n : Int) (w : World) (hm : s.size ≤ 4194304) (hno : decide (FOk s n) = false) :
    Calls Try.prog 21 #[.agg #[.string s, .int .i64 n]] w fun e w' => e = .returned (.agg #[.string s, .int .i64 n]) ∧ Below w.heap.size w w' := by
  have H0 := held_new w s n
  go_enter Try.func21, Try.ntmps21
  go_wp2_with (go_at_call 22; refine (specOk s n _ hm).mono ?_; rintro e w1 ⟨rfl, hb1⟩; have H1 := H0.next hb1 H0.size; obtain ⟨c0, c1, d0, d1, f0, f1⟩ := H1.cells)
  exact bodyPost_ret (ret_file rfl rfl (H1.file s n)) rfl ⟨rfl, H1.done _ _⟩

set_option maxHeartbeats 800000 in
theorem specSynced_ok (s : ByteArray) (n : Int) (w : World) (hm : s.size ≤ 4194304) (hyes : decide (FOk s n) = true) :
    Calls Try.prog 21 #[.agg #[.string s, .int .i64 n]] w fun e w' => e = .returned (.agg #[.string s, .int .i64 s.size]) ∧ Below w.heap.size w w' := by
  have H0 := held_new w s n
  go_enter Try.func21, Try.ntmps21
  go_wp2_with (go_at_call 22; refine (specOk s n _ hm).mono ?_; rintro e w1 ⟨rfl, hb1⟩; have H1 := H0.next hb1 H0.size; obtain ⟨c0, c1, d0, d1, f0, f1⟩ := H1.cells)
  exact bodyPost_ret (ret_file rfl rfl (H1.file _ _)) rfl ⟨rfl, H1.done _ _⟩

set_option maxHeartbeats 800000 in
theorem specCrashed_not (s : ByteArray) (n keep : Int) (w : World) (hm : s.size ≤ 4194304) (hno : decide (FOk s n) = false) :
    Calls Try.prog 20 #[.agg #[.string s, .int .i64 n], .int .i64 keep] w fun e w' => e = .returned (.agg #[.string s, .int .i64 n]) ∧ Below w.heap.size w w' := by
  have H0 := held_new w s n
  go_enter Try.func20, Try.ntmps20
  go_wp2_with (go_at_call 22; refine (specOk s n _ hm).mono ?_; rintro e w1 ⟨rfl, hb1⟩; have H1 := H0.next hb1 H0.size; obtain ⟨c0, c1, d0, d1, f0, f1⟩ := H1.cells)
  exact bodyPost_ret (ret_file rfl rfl (H1.file s n)) rfl ⟨rfl, H1.done _ _⟩

set_option maxHeartbeats 1600000 in
theorem specCrashed_ok (s : ByteArray) (k : Nat) (keep : Int) (w : World) (hm : s.size ≤ 20000) (hk : k ≤ s.size) :
    Calls Try.prog 20 #[.agg #[.string s, .int .i64 (k : Int)], .int .i64 keep] w fun e w' => e = .returned (.agg #[.string (s.extract 0 (k + kept keep (s.size - k))), .int .i64 ((k + kept keep (s.size - k) : Nat) : Int)]) ∧ Below w.heap.size w w' := by
  have hyes : decide (FOk s k) = true := decide_eq_true ⟨hm, by omega, by omega⟩
  have H0 := held_new w s k
  obtain ⟨x, hx⟩ : ∃ x, x = k + kept keep (s.size - k) := ⟨_, rfl⟩
  rw [← hx]
  have hxl : x ≤ s.size := by rw [hx]; unfold kept; omega
  have hsl : ∀ wx, (Instr.slice 9 (.string s) none (some (.int .i64 (x : Int))) none).run Try.prog wx = .ok (.string (s.extract 0 x)) wx := by
    intro wx
    rw [run_slice_string_h wx 9 s Try.underlying9 .i64 (x : Int) (by omega) (by omega), Int.toNat_natCast]
  unfold kept at hx
  by_cases h1 : (s.size : Int) - (k : Int) < keep
  · obtain rfl : x = s.size := by omega
    clear hx
    go_enter Try.func20, Try.ntmps20
    go_wp2_with (go_at_call 22; refine (specOk s k _ ?_).mono ?_; omega; rintro e w1 ⟨rfl, hb1⟩; have H1 := H0.next hb1 H0.size; obtain ⟨c0, c1, d0, d1, f0, f1⟩ := H1.cells)
    exact bodyPost_ret (ret_file rfl rfl (H1.file _ _)) rfl ⟨by simp, H1.done _ _⟩
  · by_cases h2 : 0 < keep
    · have hx2 : (x : Int) = (k : Int) + keep := by omega
      have hx3 : IntKind.i64.wrap ((k : Int) + keep) = (x : Int) := by rw [IntKind.wrap_i64]; omega
      clear hx hx2
      go_enter Try.func20, Try.ntmps20
      go_wp2_with (go_at_call 22; refine (specOk s k _ ?_).mono ?_; omega; rintro e w1 ⟨rfl, hb1⟩; have H1 := H0.next hb1 H0.size; obtain ⟨c0, c1, d0, d1, f0, f1⟩ := H1.cells)
      exact bodyPost_ret (ret_file rfl rfl (H1.file _ _)) rfl ⟨by simp, H1.done _ _⟩
    · obtain rfl : x = k := by omega
      clear hx
      go_enter Try.func20, Try.ntmps20
      go_wp2_with (go_at_call 22; refine (specOk s x _ ?_).mono ?_; omega; rintro e w1 ⟨rfl, hb1⟩; have H1 := H0.next hb1 H0.size; obtain ⟨c0, c1, d0, d1, f0, f1⟩ := H1.cells)
      exact bodyPost_ret (ret_file rfl rfl (H1.file _ _)) rfl ⟨by simp, H1.done _ _⟩

/-- What the specification's Appended holds besides: the file that would be. -/
def Held3 (w w1 : World) (s : ByteArray) (n : Int) (a : ByteArray) : Prop := Held w w1 s n ∧ FileAt w1 (w.heap.size + 2) a n
theorem held3_new (w : World) (s : ByteArray) (n : Int) (a : ByteArray) : Held3 w (((w.alloc (.cells #[.string s, .int .i64 n] 25)).alloc (.cells #[.string { data := #[] }, .int .i64 0] 25)).alloc (.cells #[.string a, .int .i64 n] 25)) s n a :=
  ⟨(held_new w s n).next ((Below.refl _ _).alloc (Nat.le_refl _) _) (held_new w s n).size, fileAt_new _ _ _ (by simp)⟩
theorem Held3.size {w w1 : World} {s a : ByteArray} {n : Int} (h : Held3 w w1 s n a) : w.heap.size + 3 ≤ w1.heap.size := h.2.lt
theorem Held3.next {w w1 w2 : World} {s a : ByteArray} {n : Int} (h : Held3 w w1 s n a) (hb : Below w1.heap.size w1 w2) : Held3 w w2 s n a :=
  ⟨h.1.next hb h.1.size, h.2.below hb h.2.lt⟩
theorem Held3.cells {w w1 : World} {s a : ByteArray} {n : Int} (h : Held3 w w1 s n a) : w1.cell? ⟨w.heap.size + 2, 0, none⟩ = some (.string a) ∧ w1.cell? ⟨w.heap.size + 2, 1, none⟩ = some (.int .i64 n) := ⟨h.2.text, h.2.synced⟩

set_option maxHeartbeats 1600000 in
theorem specAppended_not (s t : ByteArray) (n : Int) (w : World) (hm : s.size + t.size ≤ 4194304) (hno : decide (FOk s n) = false) :
    Calls Try.prog 16 #[.agg #[.string s, .int .i64 n], .string t] w fun e w' => e = .returned (.tuple #[.agg #[.string s, .int .i64 n], .bool false]) ∧ Below w.heap.size w w' := by
  have H0 := held3_new w s n (s ++ t)
  go_enter Try.func16, Try.ntmps16
  go_wp2_with (go_at_call 22; refine (specOk s n _ ?_).mono ?_; omega; rintro e w1 ⟨rfl, hb1⟩; have H1 := H0.next hb1; obtain ⟨c0, c1, d0, d1, f0, f1⟩ := H1.1.cells)
  exact bodyPost_ret (ret_file2 rfl rfl rfl (H1.1.file s n)) rfl ⟨rfl, H1.1.done _ _⟩

set_option maxHeartbeats 1600000 in
theorem specAppended_yes (s t : ByteArray) (n : Int) (w : World) (hm : s.size + t.size ≤ 4194304) (hyes : decide (FOk s n) = true) :
    Calls Try.prog 16 #[.agg #[.string s, .int .i64 n], .string t] w fun e w' => e = .returned (.tuple #[.agg #[.string (if decide (FOk (s ++ t) n) then s ++ t else s), .int .i64 n], .bool (decide (FOk (s ++ t) n))]) ∧ Below w.heap.size w w' := by
  obtain ⟨a, ha⟩ : ∃ a, a = s ++ t := ⟨_, rfl⟩
  have has : a.size ≤ 4194304 := by rw [ha]; simp; omega
  have H0 := held3_new w s n (s ++ t)
  rw [← ha]
  have HA : Hid (s ++ t = a) := ha.symm
  clear ha
  have tok : True := trivial
  cases hq : decide (FOk a n)
  · go_enter Try.func16, Try.ntmps16
    go_wp2_with (first
      | (go_at_call 22; have _t := tok; refine (specOk s n _ ?_).mono ?_; omega; clear tok; rintro e w1 ⟨rfl, hb1⟩; have H1 := H0.next hb1; rw [HA.out] at H1; obtain ⟨c0, c1, d0, d1, f0, f1⟩ := H1.1.cells; obtain ⟨g0, g1⟩ := H1.cells)
      | (go_at_call 22; refine (specOk a n _ has).mono ?_; rintro e w2 ⟨rfl, hb2⟩; have H2 := H1.next hb2; obtain ⟨c2, c3, d2, d3, f2, f3⟩ := H2.1.cells; obtain ⟨g2, g3⟩ := H2.cells))
    exact bodyPost_ret (ret_file2 rfl rfl rfl (H2.1.file _ _)) rfl ⟨by simp, H2.1.done _ _⟩
  · go_enter Try.func16, Try.ntmps16
    go_wp2_with (first
      | (go_at_call 22; have _t := tok; refine (specOk s n _ ?_).mono ?_; omega; clear tok; rintro e w1 ⟨rfl, hb1⟩; have H1 := H0.next hb1; rw [HA.out] at H1; obtain ⟨c0, c1, d0, d1, f0, f1⟩ := H1.1.cells; obtain ⟨g0, g1⟩ := H1.cells)
      | (go_at_call 22; refine (specOk a n _ has).mono ?_; rintro e w2 ⟨rfl, hb2⟩; have H2 := H1.next hb2; obtain ⟨c2, c3, d2, d3, f2, f3⟩ := H2.1.cells; obtain ⟨g2, g3⟩ := H2.cells))
    exact bodyPost_ret (ret_file2 rfl rfl rfl (H2.1.file _ _)) rfl ⟨by simp, H2.1.done _ _⟩

end Go.Proofs.Ytbnnmlfammeobaa
