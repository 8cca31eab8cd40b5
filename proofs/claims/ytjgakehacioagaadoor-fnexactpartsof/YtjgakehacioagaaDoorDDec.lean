/- What the specification's writer of figures to the base 10 does to a number that is not below 0. -/
import Derived.Test.YtjgakehacioagaaDoorRows
import Derived.Test.YtjgakehacioagaaDoorDMath
import Derived.Laws.IdiomStrings
import Derived.OwnWalk
import Derived.WalkKit
import Derived.BigCall
import Derived.WalkSpells
import Derived.WalkSmall
namespace Go.Proofs.YtjgakehacioagaaDoor
open Go.RowKit

set_option maxRecDepth 100000 in
theorem figure10 (x : Nat) (h : x < 10) (w : World) :
    Calls Tryd.prog 12 #[.int .i64 (x : Int)] w fun e w' => e = .returned (.int .u8 ((48 + x : Nat) : Int)) ∧ w' = w := by
  have h1 : (x : Int) < 10 := by omega
  go_enter Tryd.func12, Tryd.ntmps12
  go_wp2
  go_ret
  exact ⟨by simp, rfl⟩

theorem decNought (w : World) : Calls Tryd.prog 5 #[.int .i64 0] w fun e w' => e = .returned (.string ⟨(decB 0).toArray⟩) ∧ w' = w := by
  go_enter Tryd.func5, Tryd.ntmps5
  go_wp2
  go_ret
  exact ⟨rfl, rfl⟩

theorem ba_app (a b : List UInt8) : (⟨a.toArray⟩ ++ ⟨b.toArray⟩ : ByteArray) = ⟨(a ++ b).toArray⟩ := by
  apply ByteArray.ext
  simp

theorem byte_string (x : Nat) (hx : x < 256) (w : World) :
    (convert 31 9 (.slice (some ⟨w.heap.size, 0, none⟩) 1 1)).run Tryd.prog (w.alloc (.cells #[Value.int .u8 (x : Int)] 5)) = .ok (.string ⟨[UInt8.ofNat x].toArray⟩) (w.alloc (.cells #[Value.int .u8 (x : Int)] 5)) := by
  refine run_convert_bytes_back (P := Tryd.prog) (w.alloc (.cells #[Value.int .u8 (x : Int)] 5)) 31 9 5 ⟨w.heap.size, 0, none⟩ 1 [UInt8.ofNat x] Tryd.underlying31 Tryd.underlying5 Tryd.underlying9 ?_
  intro j hj
  match j, hj with
  | 0, _ => simp [Addr.add, Nat.mod_eq_of_lt hx]

set_option maxHeartbeats 1000000 in
theorem decPlus (N : Nat) (h0 : N ≠ 0) (hN : N ≤ 9223372036854775807) (w : World) :
    Calls Tryd.prog 5 #[.int .i64 N] w fun e w' => e = .returned (.string ⟨(decGo N []).toArray⟩) ∧ Below w.heap.size w w' := by
  have hz : ((N : Int) == 0) = false := by simp; omega
  have hp : ¬ ((N : Int) < 0) := by omega
  have HN0 : Hid (N ≠ 0) := h0
  clear h0
  go_enter Tryd.func5, Tryd.ntmps5
  go_wp2
  go_loopw [0, 4] (fun x v wr => ∃ (m : Nat) (acc : List UInt8), x = .int .i64 m ∧ v = .string ⟨acc.toArray⟩ ∧ m ≤ N ∧ decGo m acc = decGo N [] ∧ 9 * acc.length + m ≤ N + 8 ∧ (m ≠ 0 → 9 * acc.length + m ≤ N) ∧ Below w.heap.size w wr) (fun x _ _ => (intOf x).toNat)
  case atStart => exact ⟨N, [], rfl, rfl, Nat.le_refl _, rfl, by simp, by simp, Below.refl _ _⟩
  case round =>
    obtain ⟨m, acc, rfl, rfl, hm, hd, hl1, hl2, hbel⟩ := hrel
    have hsz := hbel.size
    by_cases hm0 : m = 0
    · have HD : Hid (acc = decGo N []) := by show _ = _; rw [← hd, hm0, decGo_zero]
      have hmz : ((m : Int) != 0) = false := by simp [hm0]
      clear hd hl2 hm0
      go_wp2
      go_ret
      exact ⟨by rw [← HD.out]; rfl, hbel⟩
    · have HD : Hid (decGo (m / 10) (UInt8.ofNat (48 + m % 10) :: acc) = decGo N []) := by show _ = _; rw [← hd, decGo_step hm0]
      have hmz : ((m : Int) != 0) = true := by simp [hm0]
      have hl3 := hl2 hm0
      have hcast : ((m % 10 : Nat) : Int) = (m : Int) % 10 := by omega
      obtain ⟨X, hX⟩ : ∃ X, X = 48 + m % 10 := ⟨_, rfl⟩
      have hf : ∀ wx, Calls Tryd.prog 12 #[.int .i64 ((m : Int) % 10)] wx fun e w' => e = .returned (.int .u8 (X : Int)) ∧ w' = wx := fun wx => by
        rw [← hcast, hX]; exact figure10 (m % 10) (by omega) wx
      have hXb : X < 256 := by omega
      rw [← hX] at HD
      obtain ⟨b, hb⟩ : ∃ b, b = UInt8.ofNat X := ⟨_, rfl⟩
      rw [← hb] at HD
      have hcv : ∀ wx : World, (convert 31 9 (.slice (some ⟨wx.heap.size, 0, none⟩) 1 1)).run Tryd.prog (wx.alloc (.cells #[Value.int .u8 (X : Int)] 5)) = .ok (.string ⟨[b].toArray⟩) (wx.alloc (.cells #[Value.int .u8 (X : Int)] 5)) := fun wx => by rw [hb]; exact byte_string X hXb wx
      have hadd : ∀ wx : World, (Op.stringOp .add ⟨[b].toArray⟩ ⟨acc.toArray⟩).run Tryd.prog wx = .ok (.string ⟨(b :: acc).toArray⟩) wx := fun wx => by
        rw [run_string_add_sum (P := Tryd.prog) wx _ _ (by show [b].toArray.size + acc.toArray.size ≤ _; simp; omega), ba_app]; rfl
      clear hd hl2 hcast hX hb
      obtain ⟨S, hS⟩ : ∃ S : ByteArray, S = ⟨(b :: acc).toArray⟩ := ⟨_, rfl⟩
      obtain ⟨T, hT⟩ : ∃ T : ByteArray, T = ⟨[b].toArray⟩ := ⟨_, rfl⟩
      obtain ⟨A, hA⟩ : ∃ A : ByteArray, A = ⟨acc.toArray⟩ := ⟨_, rfl⟩
      rw [← hS, ← hT, ← hA] at hadd
      rw [← hT] at hcv
      rw [← hA]
      have HS : Hid (S = ⟨(b :: acc).toArray⟩) := hS
      clear hS hT hA
      go_wp2_with (go_at_call 12; refine (hf _).mono ?_; rintro e w1 ⟨rfl, rfl⟩)
      go_roundw
      case rel => exact ⟨m / 10, b :: acc, by go_num, by rw [HS.out], by omega, HD.out, by simp only [List.length_cons]; omega, by simp only [List.length_cons]; omega, hbel.alloc hsz _⟩
      case measure => simp [intOf]; omega

set_option maxHeartbeats 1000000 in
theorem decMinus (N : Nat) (h0 : N ≠ 0) (hN : N ≤ 9223372036854775808) (w : World) :
    Calls Tryd.prog 5 #[.int .i64 (-(N : Int))] w fun e w' => e = .returned (.string ⟨(45 :: decGo N []).toArray⟩) ∧ Below w.heap.size w w' := by
  have hz : ((-(N : Int)) == 0) = false := by simp; omega
  have hp : (-(N : Int)) < 0 := by omega
  have HN0 : Hid (N ≠ 0) := h0
  clear h0
  go_enter Tryd.func5, Tryd.ntmps5
  go_wp2
  go_loopw [0, 4] (fun x v wr => ∃ (m : Nat) (acc : List UInt8), x = .int .i64 (-(m : Int)) ∧ v = .string ⟨acc.toArray⟩ ∧ m ≤ N ∧ decGo m acc = decGo N [] ∧ 9 * acc.length + m ≤ N + 8 ∧ (m ≠ 0 → 9 * acc.length + m ≤ N) ∧ Below w.heap.size w wr) (fun x _ _ => (-(intOf x)).toNat)
  case atStart => exact ⟨N, [], rfl, rfl, Nat.le_refl _, rfl, by simp, by simp, Below.refl _ _⟩
  case round =>
    obtain ⟨m, acc, rfl, rfl, hm, hd, hl1, hl2, hbel⟩ := hrel
    have hsz := hbel.size
    by_cases hm0 : m = 0
    · have HD : Hid (acc = decGo N []) := by show _ = _; rw [← hd, hm0, decGo_zero]
      have hmz : ((-(m : Int)) != 0) = false := by simp [hm0]
      have hadd : ∀ wx : World, (Op.stringOp .add ⟨#[45]⟩ ⟨acc.toArray⟩).run Tryd.prog wx = .ok (.string ⟨(45 :: acc).toArray⟩) wx := fun wx => by
        rw [run_string_add_sum (P := Tryd.prog) wx _ _ (by show 1 + acc.toArray.size ≤ _; simp; omega)]
        have := ba_app [45] acc
        simp only [List.singleton_append] at this
        rw [← this]
      obtain ⟨S, hS⟩ : ∃ S : ByteArray, S = ⟨(45 :: acc).toArray⟩ := ⟨_, rfl⟩
      obtain ⟨A, hA⟩ : ∃ A : ByteArray, A = ⟨acc.toArray⟩ := ⟨_, rfl⟩
      rw [← hS, ← hA] at hadd
      rw [← hA]
      have HS : Hid (S = ⟨(45 :: acc).toArray⟩) := hS
      clear hd hl2 hm0 hS hA
      go_wp2
      go_ret
      exact ⟨by rw [← HD.out]; show Ending.returned (.string S) = _; rw [HS.out], hbel⟩
    · have HD : Hid (decGo (m / 10) (UInt8.ofNat (48 + m % 10) :: acc) = decGo N []) := by show _ = _; rw [← hd, decGo_step hm0]
      have hmz : ((-(m : Int)) != 0) = true := by simp [hm0]
      have hl3 := hl2 hm0
      clear hd hl2
      obtain ⟨X, hX⟩ : ∃ X, X = 48 + m % 10 := ⟨_, rfl⟩
      have hf : ∀ (z : Int) wx, z = ((m % 10 : Nat) : Int) → Calls Tryd.prog 12 #[.int .i64 z] wx fun e w' => e = .returned (.int .u8 (X : Int)) ∧ w' = wx := fun z wx hzz => by
        rw [hzz, hX]; exact figure10 (m % 10) (by omega) wx
      have HF : Hid (∀ (z : Int) wx, z = ((m % 10 : Nat) : Int) → Calls Tryd.prog 12 #[.int .i64 z] wx fun e w' => e = .returned (.int .u8 (X : Int)) ∧ w' = wx) := hf
      have hXb : X < 256 := by omega
      rw [← hX] at HD
      obtain ⟨b, hb⟩ : ∃ b, b = UInt8.ofNat X := ⟨_, rfl⟩
      rw [← hb] at HD
      have hcv : ∀ wx : World, (convert 31 9 (.slice (some ⟨wx.heap.size, 0, none⟩) 1 1)).run Tryd.prog (wx.alloc (.cells #[Value.int .u8 (X : Int)] 5)) = .ok (.string ⟨[b].toArray⟩) (wx.alloc (.cells #[Value.int .u8 (X : Int)] 5)) := fun wx => by rw [hb]; exact byte_string X hXb wx
      have hadd : ∀ wx : World, (Op.stringOp .add ⟨[b].toArray⟩ ⟨acc.toArray⟩).run Tryd.prog wx = .ok (.string ⟨(b :: acc).toArray⟩) wx := fun wx => by
        rw [run_string_add_sum (P := Tryd.prog) wx _ _ (by show [b].toArray.size + acc.toArray.size ≤ _; simp; omega), ba_app]; rfl
      clear hX hb hf
      obtain ⟨S, hS⟩ : ∃ S : ByteArray, S = ⟨(b :: acc).toArray⟩ := ⟨_, rfl⟩
      obtain ⟨U, hU⟩ : ∃ U : ByteArray, U = ⟨[b].toArray⟩ := ⟨_, rfl⟩
      obtain ⟨A, hA⟩ : ∃ A : ByteArray, A = ⟨acc.toArray⟩ := ⟨_, rfl⟩
      rw [← hS, ← hU, ← hA] at hadd
      rw [← hU] at hcv
      rw [← hA]
      have HS : Hid (S = ⟨(b :: acc).toArray⟩) := hS
      clear hS hU hA
      by_cases hpos : (0 : Int) < (m : Int) % 10
      all_goals
        go_wp2_with (go_at_call 12; refine (HF.out _ _ (by omega)).mono ?_; rintro e w1 ⟨rfl, rfl⟩)
        go_roundw
        case rel => exact ⟨m / 10, b :: acc, by go_num, by rw [HS.out], by omega, HD.out, by simp only [List.length_cons]; omega, by simp only [List.length_cons]; omega, hbel.alloc hsz _⟩
        case measure => simp [intOf]; omega

theorem dec_calls (x : Int) (h0 : 0 ≤ x) (h1 : x ≤ 1000000000) (w : World) :
    Calls Tryd.prog 5 #[.int .i64 x] w fun e w' => e = .returned (.string ⟨(decB x.toNat).toArray⟩) ∧ Below w.heap.size w w' := by
  obtain ⟨N, rfl⟩ := Int.eq_ofNat_of_zero_le h0
  by_cases hN : N = 0
  · subst hN
    refine (decNought w).mono ?_
    rintro e w' ⟨he, rfl⟩
    exact ⟨he, Below.refl _ _⟩
  · refine (decPlus N hN (by omega) w).mono ?_
    rintro e w' ⟨he, hb⟩
    refine ⟨?_, hb⟩
    rw [he, Int.toNat_natCast, decB, if_neg hN]
end Go.Proofs.YtjgakehacioagaaDoor
