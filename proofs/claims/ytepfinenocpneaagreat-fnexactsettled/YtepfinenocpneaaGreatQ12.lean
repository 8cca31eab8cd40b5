/- The marks that the laws write into texts. -/
import Derived.Laws.IdiomStrings
import Derived.OwnWalk
import Derived.WalkSmall
import Derived.Test.YtepfinenocpneaaGreatQ11
set_option maxHeartbeats 16000000
namespace Go.Proofs.YtepfinenocpneaaGreat
open Value (int)
open IntKind (i64)
set_option maxRecDepth 100000
set_option linter.unusedVariables false
open Go.RowKit
def Kb (n : Nat) (acc : List UInt8) : List UInt8 := if n = 0 then acc else Kb (n / 10) (UInt8.ofNat (48 + n % 10) :: acc)
termination_by n
decreasing_by omega
theorem Jba (acc : List UInt8) : Kb 0 acc = acc := by rw [Kb, if_pos rfl]
theorem JaZ {n : Nat} (h : n ≠ 0) (acc : List UInt8) : Kb n acc = Kb (n / 10) (UInt8.ofNat (48 + n % 10) :: acc) := by rw [Kb, if_neg h]
theorem JbI (a b : List UInt8) : (⟨a.toArray⟩ ++ ⟨b.toArray⟩ : ByteArray) = ⟨(a ++ b).toArray⟩ := by
 apply ByteArray.ext
 simp
theorem Jcq (x : Nat) (hx : x < 256) (w : World) :
  (convert 39 9 (.slice (some ⟨w.heap.size, 0, none⟩) 1 1)).run Tryz.prog (w.alloc (.cells #[Value.int .u8 (x : Int)] 5)) = .ok (.string ⟨[UInt8.ofNat x].toArray⟩) (w.alloc (.cells #[Value.int .u8 (x : Int)] 5)) := by
 refine run_convert_bytes_back (P := Tryz.prog) (w.alloc (.cells #[Value.int .u8 (x : Int)] 5)) 39 9 5 ⟨w.heap.size, 0, none⟩ 1 [UInt8.ofNat x] Tryz.underlying39 Tryz.underlying5 Tryz.underlying9 ?_
 intro j hj
 match j, hj with
 | 0, _ => simp [Addr.add, Nat.mod_eq_of_lt hx]
def mkT (k : Nat) : List UInt8 := 109 :: Kb k []
theorem Ja5 (N : Nat) (h0 : N ≠ 0) (hN : N ≤ 9223372036854775807) (w : World) :
  Calls Tryz.prog 33 #[int i64 N] w fun e w' => e = .returned (.string ⟨(mkT N).toArray⟩) ∧ Below w.heap.size w w' := by
 have hp : ¬ ((N : Int) ≤ 0) := by omega
 have HN0 : Hid (N ≠ 0) := h0
 clear h0
 go_enter Tryz.func33, Tryz.ntmps33
 go_wp2
 go_loopw [0, 3] (fun x v wr => ∃ (m : Nat) (acc : List UInt8), x = int i64 m ∧ v = .string ⟨acc.toArray⟩ ∧ m ≤ N ∧ Kb m acc = Kb N [] ∧ 9 * acc.length + m ≤ N + 8 ∧ (m ≠ 0 → 9 * acc.length + m ≤ N) ∧ Below w.heap.size w wr) (fun x _ _ => (intOf x).toNat)
 case atStart => exact ⟨N, [], rfl, rfl, Nat.le_refl _, rfl, by simp, by simp, Below.refl _ _⟩
 case round =>
  obtain ⟨m, acc, rfl, rfl, hm, hd, hl1, hl2, hbel⟩ := hrel
  have hsz := hbel.size
  by_cases hm0 : m = 0
  ·have HD : Hid (acc = Kb N []) := by show _ = _; rw [← hd, hm0, Jba]
   have hmz : ¬ ((0 : Int) < m) := by omega
   have hadd : ∀ wx : World, (Op.stringOp .add ⟨#[109]⟩ ⟨acc.toArray⟩).run Tryz.prog wx = .ok (.string ⟨(109 :: acc).toArray⟩) wx := fun wx => by
    rw [run_string_add_sum (P := Tryz.prog) wx _ _ (by show 1 + acc.toArray.size ≤ _; simp; omega)]
    have := JbI [109] acc
    simp only [List.singleton_append] at this
    rw [← this]
   obtain ⟨S, hS⟩ : ∃ S : ByteArray, S = ⟨(109 :: acc).toArray⟩ := ⟨_, rfl⟩
   obtain ⟨A, hA⟩ : ∃ A : ByteArray, A = ⟨acc.toArray⟩ := ⟨_, rfl⟩
   rw [← hS, ← hA] at hadd
   rw [← hA]
   have HS : Hid (S = ⟨(109 :: acc).toArray⟩) := hS
   clear hd hl2 hm0 hS hA
   go_wp2
   go_ret
   exact ⟨by unfold mkT; rw [← HD.out]; show Ending.returned (.string S) = _; rw [HS.out], hbel⟩
  ·have HD : Hid (Kb (m / 10) (UInt8.ofNat (48 + m % 10) :: acc) = Kb N []) := by show _ = _; rw [← hd, JaZ hm0]
   have hmz : (0 : Int) < m := by omega
   have hl3 := hl2 hm0
   have hcv : ∀ wx : World, (convert 39 9 (.slice (some ⟨wx.heap.size, 0, none⟩) 1 1)).run Tryz.prog (wx.alloc (.cells #[Value.int .u8 (48 + (m : Int) % 10)] 5)) = .ok (.string ⟨[UInt8.ofNat (48 + m % 10)].toArray⟩) (wx.alloc (.cells #[Value.int .u8 (48 + (m : Int) % 10)] 5)) := fun wx => by
    have := Jcq (48 + m % 10) (by omega) wx
    have e : ((48 + m % 10 : Nat) : Int) = 48 + (m : Int) % 10 := by omega
    rw [e] at this; exact this
   have hadd : ∀ wx : World, (Op.stringOp .add ⟨[UInt8.ofNat (48 + m % 10)].toArray⟩ ⟨acc.toArray⟩).run Tryz.prog wx = .ok (.string ⟨(UInt8.ofNat (48 + m % 10) :: acc).toArray⟩) wx := fun wx => by
    rw [run_string_add_sum (P := Tryz.prog) wx _ _ (by show [UInt8.ofNat (48 + m % 10)].toArray.size + acc.toArray.size ≤ _; simp; omega), JbI]; rfl
   clear hd hl2
   obtain ⟨b, hb⟩ : ∃ b, b = UInt8.ofNat (48 + m % 10) := ⟨_, rfl⟩
   rw [← hb] at HD hadd hcv
   obtain ⟨S, hS⟩ : ∃ S : ByteArray, S = ⟨(b :: acc).toArray⟩ := ⟨_, rfl⟩
   obtain ⟨U, hU⟩ : ∃ U : ByteArray, U = ⟨[b].toArray⟩ := ⟨_, rfl⟩
   obtain ⟨A, hA⟩ : ∃ A : ByteArray, A = ⟨acc.toArray⟩ := ⟨_, rfl⟩
   rw [← hS, ← hU, ← hA] at hadd
   rw [← hU] at hcv
   rw [← hA]
   have HS : Hid (S = ⟨(b :: acc).toArray⟩) := hS
   clear hS hU hA hb
   go_wp2
   go_roundw
   case rel => exact ⟨m / 10, b :: acc, by go_num, by rw [HS.out], by omega, HD.out, by simp only [List.length_cons]; omega, by simp only [List.length_cons]; omega, hbel.alloc hsz _⟩
   case measure => simp [intOf]; omega
theorem JdK (x : Int) (h0 : 1 ≤ x) (h1 : x ≤ 9223372036854775807) (w : World) :
  Calls Tryz.prog 33 #[int i64 x] w fun e w' => e = .returned (.string ⟨(mkT x.toNat).toArray⟩) ∧ Below w.heap.size w w' := by
 obtain ⟨N, rfl⟩ := Int.eq_ofNat_of_zero_le (show 0 ≤ x by omega)
 exact Ja5 N (by omega) (by omega) w
end Go.Proofs.YtepfinenocpneaaGreat
