/- What the two that sum a text do. -/
import Derived.Test.YtdiinhiihgpkkaaDoorRows
import Derived.Test.YtdiinhiihgpkkaaDoorSMath
import Derived.Test.YtdiinhiihgpkkaaDoorWMath
import Derived.Lib.LaidTab
import Derived.Laws.IdiomStrings
import Derived.WalkKit
import Derived.BigCall
import Derived.WalkSpells
namespace Go.Proofs.YtdiinhiihgpkkaaDoor
open Go.RowKit

def nbit : Nat → Nat → Nat
  | 0, s => s
  | k + 1, s => sumBit (nbit k s)
theorem nbit_lt {k s : Nat} (h : s < 4294967296) : nbit k s < 4294967296 := by
  induction k with
  | zero => exact h
  | succ k ih => exact sumBit_lt ih
theorem nbit_eight (s b : Nat) : nbit 8 (s ^^^ b) = sumByte s b := rfl
theorem take_more {s : ByteArray} {S k : Nat} (hk : k < s.size) : sumMore S (s.data.toList.take (k + 1)) = sumByte (sumMore S (s.data.toList.take k)) (s[k]).toNat := by
  have h : s.data.toList.take (k + 1) = s.data.toList.take k ++ [s[k]] := by
    rw [List.take_add_one]
    have : s.data.toList[k]? = some s[k] := by simp [ByteArray.getElem_eq_getElem_data]
    rw [this]; rfl
  rw [h, sumMore_app]; rfl

set_option maxHeartbeats 1000000 in
theorem specMore (S : Nat) (hS : S < 4294967296) (s : ByteArray) (hs : s.size ≤ maxLen) (w : World) :
    Calls Tryd.prog 15 #[.int .u32 S, .string s] w fun e w' => e = .returned (.int .u32 (sumMore S s.data.toList : Nat)) ∧ w' = w := by
  unfold maxLen at hs
  have HS : Hid (S < 4294967296) := hS
  clear hS
  go_enter Tryd.func15, Tryd.ntmps15
  go_wp2
  go_loop [0, 5] (fun x z => ∃ k : Nat, k ≤ s.size ∧ z = .int .i64 k ∧ x = .int .u32 (sumMore S (s.data.toList.take k) : Nat)) (fun _ z => s.size - (intOf z).toNat)
  case atStart => exact ⟨0, Nat.zero_le _, rfl, rfl⟩
  case round =>
    obtain ⟨k, hk, rfl, rfl⟩ := hrel
    by_cases hlt : k < s.size
    · have hkk : (k : Int) < s.size := by omega
      have HB : Hid (sumMore S (s.data.toList.take (k + 1)) = sumByte (sumMore S (s.data.toList.take k)) (s[k]).toNat) := take_more hlt
      have hM := sumMore_lt (l := s.data.toList.take k) HS.out
      obtain ⟨M, hMe⟩ : ∃ M, M = sumMore S (s.data.toList.take k) := ⟨_, rfl⟩
      have HM : Hid (M = sumMore S (s.data.toList.take k)) := hMe
      rw [← hMe] at hM ⊢
      clear hMe
      have hb8 := s[k].toNat_lt
      have hx := u32_xor_nat M s[k].toNat hM (by omega)
      have hX := xor_byte_lt hM (show s[k].toNat < 256 by omega)
      go_wp2
      obtain ⟨X, hXe⟩ : ∃ X, X = M ^^^ s[k].toNat := ⟨_, rfl⟩
      have HX : Hid (X = M ^^^ s[k].toNat) := hXe
      rw [← hXe] at hX ⊢
      clear hXe hx hM hb8
      go_loop [0, 6] (fun x z => ∃ j : Nat, j ≤ 8 ∧ z = .int .i64 j ∧ x = .int .u32 (nbit j X : Nat)) (fun _ z => 8 - (intOf z).toNat)
      case atStart => exact ⟨0, by omega, rfl, rfl⟩
      case round =>
        obtain ⟨j, hj, rfl, rfl⟩ := hrel
        by_cases hj8 : (j : Int) < 8
        · have hN := nbit_lt (k := j) hX
          have HN : Hid (nbit (j + 1) X = if nbit j X % 2 = 1 then nbit j X / 2 ^^^ 3558460437 else nbit j X / 2) := rfl
          obtain ⟨Y, hY⟩ : ∃ Y, Y = nbit j X := ⟨_, rfl⟩
          rw [← hY] at hN ⊢
          have HY : Hid (Y = nbit j X) := hY
          clear hY
          by_cases hodd : Y % 2 = 1
          · have ho : (((Y : Int) % 2 == 1) = true) := by simp; omega
            have hx := u32_xor_nat (Y / 2) 3558460437 (by omega) (by omega)
            have hx' : bits .xor .u32 ((Y : Int) / 2) 3558460437 = ((Y / 2 ^^^ 3558460437 : Nat) : Int) := by simpa using hx
            clear hx
            have H1 : Hid (nbit (j + 1) X = Y / 2 ^^^ 3558460437) := by show _ = _; rw [HN.out, ← HY.out, if_pos hodd]
            have hl := Nat.xor_lt_two_pow (n := 32) (show Y / 2 < 2 ^ 32 by omega) (show 3558460437 < 2 ^ 32 by omega)
            go_wp2
            go_round
            case rel => exact ⟨j + 1, by omega, by go_num, by rw [H1.out]⟩
            case measure => simp [intOf]; omega
          · have ho : (((Y : Int) % 2 == 1) = false) := by simp; omega
            have H1 : Hid (nbit (j + 1) X = Y / 2) := by show _ = _; rw [HN.out, ← HY.out, if_neg hodd]
            go_wp2
            go_round
            case rel => exact ⟨j + 1, by omega, by go_num, by rw [H1.out]; go_num⟩
            case measure => simp [intOf]; omega
        · obtain rfl : j = 8 := by omega
          have H8 : Hid (nbit 8 X = sumMore S (s.data.toList.take (k + 1))) := by show _ = _; rw [HB.out, ← HM.out, HX.out]; rfl
          go_wp2
          go_round
          case rel => exact ⟨k + 1, by omega, by go_num, by rw [H8.out]⟩
          case measure => simp [intOf]; omega
    · have hkk : ¬ ((k : Int) < s.size) := by omega
      have HE : Hid (s.data.toList.take k = s.data.toList) := by
        show _ = _; rw [List.take_of_length_le]; simpa using (by omega : s.size ≤ k)
      go_wp2
      go_ret
      exact ⟨by rw [HE.out]; rfl, rfl⟩

theorem specOf (s : ByteArray) (hs : s.size ≤ maxLen) (w : World) :
    Calls Tryd.prog 16 #[.string s] w fun e w' => e = .returned (.int .u32 (sumMore 4294967295 s.data.toList : Nat)) ∧ w' = w := by
  go_enter Tryd.func16, Tryd.ntmps16
  go_wp2_with (go_at_call 15; refine (specMore 4294967295 (by omega) s hs _).mono ?_; rintro e w1 ⟨rfl, rfl⟩)
  go_ret
  exact ⟨rfl, rfl⟩

/-- The table lies where the program's text lays it. -/
def HalfTab (w : World) : Prop := Lib.TabIs Tryd.prog w "loop.example/g00463/impl.turnsOfHalf" .u32 halfTab
theorem HalfTab.at {w : World} (h : HalfTab w) (i : Nat) (hi : i < 16) : w.cell? ⟨0, i, none⟩ = some (.int .u32 (halfTab.getD i 0)) := Lib.TabIs.cell (show Lib.TabIs Tryd.prog w "loop.example/g00463/impl.turnsOfHalf" .u32 halfTab from h) (by kernel_rfl) i hi

/-- What four bits make, as the walk meets it. -/
theorem half_step {w : World} (HT : ∀ i, i < 16 → w.cell? ⟨0, i, none⟩ = some (.int .u32 (halfTab.getD i 0))) {X : Nat} (hX : X < 4294967296) :
    ∃ T : Nat, w.cell? ⟨0, X % 16, none⟩ = some (.int .u32 T) ∧ bits .xor .u32 ((X : Int) / 16) (T : Int) = ((sumHalf X : Nat) : Int) := by
  have ht := tab_lt (X % 16) (by omega)
  refine ⟨(halfTab.getD (X % 16) 0).toNat, ?_, ?_⟩
  · rw [HT _ (by omega), Int.toNat_of_nonneg ht.1]
  · have := u32_xor_nat (X / 16) (halfTab.getD (X % 16) 0).toNat (by omega) (by omega)
    rw [sumHalf_tab]
    simpa using this

set_option maxHeartbeats 1000000 in
theorem implMore (S : Nat) (hS : S < 4294967296) (s : ByteArray) (hs : s.size ≤ maxLen) (w : World) (ht : HalfTab w) :
    Calls Tryd.prog 25 #[.int .u32 S, .string s] w fun e w' => e = .returned (.int .u32 (sumMore S s.data.toList : Nat)) ∧ w' = w := by
  unfold maxLen at hs
  have HS : Hid (S < 4294967296) := hS
  have HT : Hid (∀ i, i < 16 → w.cell? ⟨0, i, none⟩ = some (.int .u32 (halfTab.getD i 0))) := ht.at
  clear hS ht
  go_enter Tryd.func25, Tryd.ntmps25
  go_wp2
  go_loop [5, 6] (fun x z => ∃ k : Nat, k ≤ s.size ∧ z = .int .i64 k ∧ x = .int .u32 (sumMore S (s.data.toList.take k) : Nat)) (fun _ z => s.size - (intOf z).toNat)
  case atStart => exact ⟨0, Nat.zero_le _, rfl, rfl⟩
  case round =>
    obtain ⟨k, hk, rfl, rfl⟩ := hrel
    by_cases hlt : k < s.size
    · have hkk : (k : Int) < s.size := by omega
      have HB : Hid (sumMore S (s.data.toList.take (k + 1)) = sumByte (sumMore S (s.data.toList.take k)) (s[k]).toNat) := take_more hlt
      have hM := sumMore_lt (l := s.data.toList.take k) HS.out
      obtain ⟨M, hMe⟩ : ∃ M, M = sumMore S (s.data.toList.take k) := ⟨_, rfl⟩
      have HM : Hid (M = sumMore S (s.data.toList.take k)) := hMe
      rw [← hMe] at hM ⊢
      clear hMe
      have hb8 := s[k].toNat_lt
      have hx := u32_xor_nat M s[k].toNat hM (by omega)
      have hX := xor_byte_lt hM (show s[k].toNat < 256 by omega)
      obtain ⟨X, hXe⟩ : ∃ X, X = M ^^^ s[k].toNat := ⟨_, rfl⟩
      have HX : Hid (X = M ^^^ s[k].toNat) := hXe
      rw [← hXe] at hX hx
      clear hXe hM
      obtain ⟨T1, hc1, hy⟩ := half_step HT.out hX
      have hY := sumHalf_lt hX
      obtain ⟨Y, hYe⟩ : ∃ Y, Y = sumHalf X := ⟨_, rfl⟩
      have HY : Hid (Y = sumHalf X) := hYe
      rw [← hYe] at hY hy
      clear hYe
      obtain ⟨T2, hc2, hz⟩ := half_step HT.out hY
      have hZ := sumHalf_lt hY
      have HZ : Hid (sumMore S (s.data.toList.take (k + 1)) = sumHalf Y) := by show _ = _; rw [HB.out, HY.out, HX.out, HM.out]; rfl
      obtain ⟨Z, hZe⟩ : ∃ Z, Z = sumHalf Y := ⟨_, rfl⟩
      rw [← hZe] at hZ hz HZ
      clear hZe HB HY HX HM
      go_wp2
      go_round
      case rel => exact ⟨k + 1, by omega, by go_num, by rw [HZ.out]⟩
      case measure => simp [intOf]; omega
    · have hkk : ¬ ((k : Int) < s.size) := by omega
      have HE : Hid (s.data.toList.take k = s.data.toList) := by
        show _ = _; rw [List.take_of_length_le]; simpa using (by omega : s.size ≤ k)
      go_wp2
      go_ret
      exact ⟨by rw [HE.out]; rfl, rfl⟩

theorem implSumMore (S : Nat) (hS : S < 4294967296) (s : ByteArray) (hs : s.size ≤ maxLen) (w : World) (ht : HalfTab w) :
    Calls Tryd.prog 13 #[.int .u32 S, .string s] w fun e w' => e = .returned (.int .u32 (sumMore S s.data.toList : Nat)) ∧ w' = w := by
  go_enter Tryd.func13, Tryd.ntmps13
  go_wp2_with (go_at_call 25; refine (implMore S hS s hs _ ht).mono ?_; rintro e w1 ⟨rfl, rfl⟩)
  go_ret
  exact ⟨rfl, rfl⟩

theorem implOf (s : ByteArray) (hs : s.size ≤ maxLen) (w : World) (ht : HalfTab w) :
    Calls Tryd.prog 14 #[.string s] w fun e w' => e = .returned (.int .u32 (sumMore 4294967295 s.data.toList : Nat)) ∧ w' = w := by
  go_enter Tryd.func14, Tryd.ntmps14
  go_wp2_with (go_at_call 13; refine (implSumMore 4294967295 (by omega) s hs _ ht).mono ?_; rintro e w1 ⟨rfl, rfl⟩)
  go_ret
  exact ⟨rfl, rfl⟩
end Go.Proofs.YtdiinhiihgpkkaaDoor
