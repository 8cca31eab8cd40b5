/- What the two writers of figures to the base 16 do. -/
import Derived.Test.YtjgakehacioagaaWVar
import Derived.Test.YtjgakehacioagaaHMath
import Derived.Deep.RegionHeld3
import Derived.Deep.AppendLies
namespace Go.Proofs.Ytjgakehacioagaa
open Go.RowKit

theorem figure_calls (x : Int) (h0 : 0 ≤ x) (h1 : x < 16) (w : World) :
    Calls Try.prog 27 #[.int .i64 x] w fun e w' => e = .returned (.int .u8 (figN x.toNat : Int)) ∧ w' = w := by
  by_cases h : x < 10
  · go_enter Try.func27, Try.ntmps27
    go_wp2
    go_ret
    exact ⟨by unfold figN; rw [if_pos (by omega)]; simp; omega, rfl⟩
  · go_enter Try.func27, Try.ntmps27
    go_wp2
    go_ret
    exact ⟨by unfold figN; rw [if_neg (by omega)]; simp; omega, rfl⟩

theorem specHex_no (s : ByteArray) (hs : s.size ≤ maxLen) (h : 20000 < s.size) (w : World) :
    Calls Try.prog 18 #[.string s] w fun e w' => e = .returned (.tuple #[.string ByteArray.empty, .bool false]) ∧ w' = w := by
  unfold maxLen at hs
  go_enter Try.func18, Try.ntmps18
  go_wp2
  go_ret2
  exact ⟨rfl, rfl⟩
theorem implHex_no (s : ByteArray) (hs : s.size ≤ maxLen) (h : 20000 < s.size) (w : World) :
    Calls Try.prog 19 #[.string s] w fun e w' => e = .returned (.tuple #[.string ByteArray.empty, .bool false]) ∧ w' = w := by
  unfold maxLen at hs
  go_enter Try.func19, Try.ntmps19
  go_wp2
  go_ret2
  exact ⟨rfl, rfl⟩

theorem figs_run (x : Int) (h0 : 0 ≤ x) (h1 : x < 16) (w : World) :
    (Instr.index 9 (.string { data := #[48, 49, 50, 51, 52, 53, 54, 55, 56, 57, 97, 98, 99, 100, 101, 102] }) (.int .u8 x)).run Try.prog w = .ok (.int .u8 (figN x.toNat : Int)) w := by
  have hs : figs.size = 16 := rfl
  have h := run_index_string (P := Try.prog) w 9 figs .u8 x Try.underlying9
  rw [dif_pos ⟨h0, by rw [hs]; omega⟩, figs_at x.toNat (by omega) (by rw [hs]; omega)] at h
  exact h

set_option maxHeartbeats 1000000 in
theorem specHex_yes (s : ByteArray) (hs : s.size ≤ 20000) (w : World) :
    Calls Try.prog 18 #[.string s] w fun e w' => e = .returned (.tuple #[.string ⟨(hexB s.data.toList).toArray⟩, .bool true]) ∧ Below w.heap.size w w' := by
  obtain ⟨i0, hi, hz0, hz1, hz2⟩ := info_parts infoByte
  go_enter Try.func18, Try.ntmps18
  go_wp2
  go_loopw [4, 5] (fun v z wr => ∃ k : Nat, k ≤ s.size ∧ z = .int .i64 k ∧ wr.ownsRow w.heap.size 5 1 v (hexB (s.data.toList.take k)).length (Lib.byteCells (hexB (s.data.toList.take k))) ∧ Below w.heap.size w wr ∧ v ≠ .slice none 0 0) (fun _ z _ => s.size - (intOf z).toNat)
  case atStart => exact ⟨0, Nat.zero_le _, rfl, own_empty w, (Below.refl _ _).alloc (Nat.le_refl _) _, by simp⟩
  case round =>
    obtain ⟨k, hk, rfl, hown, hbel, hnn⟩ := hrel
    have hsz := hbel.size
    have hlen := hexB_len (s.data.toList.take k)
    have hlk : (s.data.toList.take k).length = k := by simp; omega
    rw [hlk] at hlen
    by_cases hlt : k < s.size
    · have hb : (s[k].toNat : Int) < 256 := by have := s[k].toNat_lt; omega
      rw [hlen] at hown
      obtain ⟨D, hD⟩ : ∃ D, D = hexB (s.data.toList.take k) := ⟨_, rfl⟩
      rw [← hD] at hown
      have HD : Hid (D = hexB (s.data.toList.take k)) := hD
      clear hD hlen hlk
      have hk0 : (0 : Int) ≤ (k : Int) := by omega
      have hk1 : (k : Int) < (s.size : Int) := by omega
      have hw0 : IntKind.i64.wrap (s[k].toNat : Int) = (s[k].toNat : Int) := by rw [IntKind.wrap_i64]; omega
      have hq : IntKind.i64.wrap ((s[k].toNat : Int) / 16) = (s[k].toNat : Int) / 16 := by rw [IntKind.wrap_i64]; omega
      have hr : (s[k].toNat : Int).tmod 16 = (s[k].toNat : Int) % 16 := by rw [Int.tmod_eq_emod_of_nonneg (by omega)]
      go_wp2_with fail
      go_region_held3 (fun _ => True) (trivial) (first | (go_at_call 27; refine (figure_calls _ ?_ ?_ _).mono ?_; omega; omega; rintro e w1 ⟨rfl, rfl⟩) | (refine step_append_lies _ ?_ (.tmp 16) (.tmp 29) 36 ?_ w.heap.size 5 i0 (.int .u8 0) 1 1 Try.underlying36 hi hz0 hz1 hz2 ?_ ?_ u4 (2 * k) (Lib.byteCells D) ?_ ?_ ⟨wr.heap.size, 0, none⟩ 2 2 [Value.int .u8 (figN ((s[k].toNat : Int) / 16).toNat : Int), Value.int .u8 (figN ((s[k].toNat : Int) % 16).toNat : Int)] ?_ ?_ ?_ ?_ ?_ ?_ ?_ ?_ (wr.heap.size + 1) ?_ ?_; rfl; rfl; rfl; omega; rfl; (first | exact (hown.alloc _).drew | exact hown.drew.alloc _); rfl; rfl; exact two_new wr _ _ _; (intro u' hu'; simp at hu'; rcases hu' with rfl | rfl <;> rfl); omega; (unfold maxLen; omega); omega; (simp; omega); (simp); intro g cap w2 hown2 hgrow hat hglt))
      all_goals
        have hD := HD.out
        subst hD
        have R := rel_hex hlt (by congr 1) (by congr 1) hown hbel hown2 hgrow
        clear hown hown2 hgrow hat hglt hbel
        go_wp2
        go_roundw
        case rel => exact ⟨k + 1, by omega, by go_num, R.1, R.2, by simp⟩
        case measure => simp [intOf]; omega
    · have hks : k = s.size := by omega
      subst hks
      have hall : s.data.toList.take s.size = s.data.toList := List.take_of_length_le (by simp)
      rw [hall] at hown
      obtain ⟨L, hL⟩ : ∃ L, L = hexB s.data.toList := ⟨_, rfl⟩
      rw [← hL] at hown
      have HL : Hid (L = hexB s.data.toList) := hL
      clear hL hall hlen hlk
      rcases hown.2 with ⟨h0, -⟩ | ⟨g, cap, cur, rfl, -, -, -, -, -, -⟩
      · exact absurd h0 hnn
      · have hcv := run_convert_bytes_back (P := Try.prog) wr 36 9 5 ⟨g, 0, none⟩ cap L Try.underlying36 Try.underlying5 Try.underlying9 (fun j hj => hown.cells (g := g) rfl j _ (by simp [Lib.byteCells, hj]))
        clear hown hnn
        go_wp2
        go_ret2
        have hL := HL.out
        subst hL
        exact ⟨rfl, hbel⟩
set_option maxHeartbeats 1000000 in
theorem implHex_yes (s : ByteArray) (hs : s.size ≤ 20000) (w : World) :
    Calls Try.prog 19 #[.string s] w fun e w' => e = .returned (.tuple #[.string ⟨(hexB s.data.toList).toArray⟩, .bool true]) ∧ Below w.heap.size w w' := by
  obtain ⟨i0, hi, hz0, hz1, hz2⟩ := info_parts infoByte
  go_enter Try.func19, Try.ntmps19
  go_wp2_with (at_make; refine wpList_make_own _ rfl _ _ 36 rfl w.heap.size 5 i0 (.int .u8 0) 1 Try.underlying36 hi hz0 hz1 _ _ _ (2 * s.size) rfl rfl (by omega) (by rw [hz2]; omega) (by unfold maxLen; omega) (Nat.le_refl _) ?_)
  intro w1 hown1 hgrow1
  have hbel1 : Below w.heap.size w w1 := (Below.refl _ _).grown hgrow1 (Nat.le_refl _) (fun k hk => by cases hk)
  clear hgrow1
  go_wp2
  go_loopw [4, 5] (fun v z wr => ∃ k : Nat, k ≤ s.size ∧ z = .int .i64 k ∧ wr.ownsRow w.heap.size 5 1 v (hexB (s.data.toList.take k)).length (Lib.byteCells (hexB (s.data.toList.take k))) ∧ Below w.heap.size w wr ∧ v ≠ .slice none 0 0) (fun _ z _ => s.size - (intOf z).toNat)
  case atStart => exact ⟨0, Nat.zero_le _, rfl, hown1, hbel1, by simp⟩
  case round =>
    obtain ⟨k, hk, rfl, hown, hbel, hnn⟩ := hrel
    have hsz := hbel.size
    have hlen := hexB_len (s.data.toList.take k)
    have hlk : (s.data.toList.take k).length = k := by simp; omega
    rw [hlk] at hlen
    by_cases hlt : k < s.size
    · have hb : (s[k].toNat : Int) < 256 := by have := s[k].toNat_lt; omega
      rw [hlen] at hown
      obtain ⟨D, hD⟩ : ∃ D, D = hexB (s.data.toList.take k) := ⟨_, rfl⟩
      rw [← hD] at hown
      have HD : Hid (D = hexB (s.data.toList.take k)) := hD
      clear hD hlen hlk
      have hk0 : (0 : Int) ≤ (k : Int) := by omega
      have hk1 : (k : Int) < (s.size : Int) := by omega
      have hq : IntKind.u8.wrap ((s[k].toNat : Int) / 16) = (s[k].toNat : Int) / 16 := by rw [IntKind.wrap_u8]; omega
      have hr : (s[k].toNat : Int).tmod 16 = (s[k].toNat : Int) % 16 := by rw [Int.tmod_eq_emod_of_nonneg (by omega)]
      have hi1 := fun wx => figs_run ((s[k].toNat : Int) / 16) (by omega) (by omega) wx
      have hi2 := fun wx => figs_run ((s[k].toNat : Int) % 16) (by omega) (by omega) wx
      go_wp2_with fail
      go_region_held3 (fun _ => True) (trivial) ((refine step_append_lies _ ?_ (.tmp 19) (.tmp 30) 36 ?_ w.heap.size 5 i0 (.int .u8 0) 1 1 Try.underlying36 hi hz0 hz1 hz2 ?_ ?_ u4 (2 * k) (Lib.byteCells D) ?_ ?_ ⟨wr.heap.size, 0, none⟩ 2 2 [Value.int .u8 (figN ((s[k].toNat : Int) / 16).toNat : Int), Value.int .u8 (figN ((s[k].toNat : Int) % 16).toNat : Int)] ?_ ?_ ?_ ?_ ?_ ?_ ?_ ?_ (wr.heap.size + 1) ?_ ?_; rfl; rfl; rfl; omega; rfl; (first | exact (hown.alloc _).drew | exact hown.drew.alloc _); rfl; rfl; exact two_new wr _ _ _; (intro u' hu'; simp at hu'; rcases hu' with rfl | rfl <;> rfl); omega; (unfold maxLen; omega); omega; (simp; omega); (simp); intro g cap w2 hown2 hgrow hat hglt))
      all_goals
        have hD := HD.out
        subst hD
        have R := rel_hex hlt (by congr 1) (by congr 1) hown hbel hown2 hgrow
        clear hown hown2 hgrow hat hglt hbel
        go_wp2
        go_roundw
        case rel => exact ⟨k + 1, by omega, by go_num, R.1, R.2, by simp⟩
        case measure => simp [intOf]; omega
    · have hks : k = s.size := by omega
      subst hks
      have hall : s.data.toList.take s.size = s.data.toList := List.take_of_length_le (by simp)
      rw [hall] at hown
      obtain ⟨L, hL⟩ : ∃ L, L = hexB s.data.toList := ⟨_, rfl⟩
      rw [← hL] at hown
      have HL : Hid (L = hexB s.data.toList) := hL
      clear hL hall hlen hlk
      rcases hown.2 with ⟨h0, -⟩ | ⟨g, cap, cur, rfl, -, -, -, -, -, -⟩
      · exact absurd h0 hnn
      · have hcv := run_convert_bytes_back (P := Try.prog) wr 36 9 5 ⟨g, 0, none⟩ cap L Try.underlying36 Try.underlying5 Try.underlying9 (fun j hj => hown.cells (g := g) rfl j _ (by simp [Lib.byteCells, hj]))
        clear hown hnn
        go_wp2
        go_ret2
        have hL := HL.out
        subst hL
        exact ⟨rfl, hbel⟩
end Go.Proofs.Ytjgakehacioagaa
