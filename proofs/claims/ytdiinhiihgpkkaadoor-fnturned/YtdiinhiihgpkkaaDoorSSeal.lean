/- What the four that seal and unseal a text do. -/
import Derived.Test.YtdiinhiihgpkkaaDoorSLaid
import Derived.OwnWalk
namespace Go.Proofs.YtdiinhiihgpkkaaDoor
open Go.RowKit

theorem ba_app (a b : List UInt8) : (⟨a.toArray⟩ ++ ⟨b.toArray⟩ : ByteArray) = ⟨(a ++ b).toArray⟩ := by
  apply ByteArray.ext
  simp

theorem four_string (S : Nat) (hS : S < 4294967296) (w : World) :
    (convert 22 9 (.slice (some ⟨w.heap.size, 0, none⟩) 4 4)).run Tryd.prog (w.alloc (.cells #[Value.int .u8 ((S : Int) / 16777216), Value.int .u8 ((S : Int) / 65536 % 256), Value.int .u8 ((S : Int) / 256 % 256), Value.int .u8 ((S : Int) % 256)] 5)) = .ok (.string ⟨(four S).toArray⟩) (w.alloc (.cells #[Value.int .u8 ((S : Int) / 16777216), Value.int .u8 ((S : Int) / 65536 % 256), Value.int .u8 ((S : Int) / 256 % 256), Value.int .u8 ((S : Int) % 256)] 5)) := by
  refine run_convert_bytes_back (P := Tryd.prog) _ 22 9 5 ⟨w.heap.size, 0, none⟩ 4 (four S) Tryd.underlying22 Tryd.underlying5 Tryd.underlying9 ?_
  intro j hj
  rw [four_len] at hj
  match j, hj with
  | 0, _ => simp [Addr.add, four]; omega
  | 1, _ => simp [Addr.add, four]
  | 2, _ => simp [Addr.add, four]
  | 3, _ => simp [Addr.add, four]

set_option maxHeartbeats 400000 in
theorem specFour (S : Nat) (hS : S < 4294967296) (w : World) :
    Calls Tryd.prog 26 #[.int .u32 S] w fun e w' => e = .returned (.string ⟨(four S).toArray⟩) ∧ Below w.heap.size w w' := by
  have hcv := four_string S hS w
  go_enter Tryd.func26, Tryd.ntmps26
  go_wp2
  go_ret
  exact ⟨rfl, (Below.refl _ _).alloc (Nat.le_refl _) _⟩

set_option maxHeartbeats 400000 in
theorem implFour (S : Nat) (hS : S < 4294967296) (w : World) :
    Calls Tryd.prog 23 #[.int .u32 S] w fun e w' => e = .returned (.string ⟨(four S).toArray⟩) ∧ Below w.heap.size w w' := by
  have hcv := four_string S hS w
  go_enter Tryd.func23, Tryd.ntmps23
  go_wp2
  go_ret
  exact ⟨rfl, (Below.refl _ _).alloc (Nat.le_refl _) _⟩

def sumOf (l : List UInt8) : Nat := sumMore 4294967295 l
theorem sumOf_lt (l : List UInt8) : sumOf l < 4294967296 := sumMore_lt (by omega)
def sealB (s : ByteArray) : ByteArray := s ++ ⟨(four (sumOf s.data.toList)).toArray⟩

set_option maxHeartbeats 400000 in
theorem specSealed (s : ByteArray) (hs : s.size ≤ 20000) (w : World) :
    Calls Tryd.prog 17 #[.string s] w fun e w' => e = .returned (.tuple #[.string (sealB s), .bool true]) ∧ Below w.heap.size w w' := by
  have h1 := specOf s (by unfold maxLen; omega) w
  have hlt := sumOf_lt s.data.toList
  have hadd := fun wx => run_string_add_sum (P := Tryd.prog) wx s ⟨(four (sumOf s.data.toList)).toArray⟩ (by show s.size + 4 ≤ _; omega)
  obtain ⟨N, hN⟩ : ∃ N, N = sumOf s.data.toList := ⟨_, rfl⟩
  have HN : Hid (N = sumOf s.data.toList) := hN
  change Calls Tryd.prog 16 #[.string s] w fun e w' => e = .returned (.int .u32 (sumOf s.data.toList : Nat)) ∧ w' = w at h1
  rw [← hN] at h1 hlt hadd
  clear hN
  go_enter Tryd.func17, Tryd.ntmps17
  go_wp2_with (first | (go_at_call 16; refine h1.mono ?_; rintro e w1 ⟨rfl, rfl⟩) | (go_at_call 26; refine (specFour N hlt _).mono ?_; rintro e w2 ⟨rfl, hb⟩))
  go_ret2
  exact ⟨by unfold sealB; rw [← HN.out]; rfl, hb⟩

theorem specSealed_no (s : ByteArray) (hs : 20000 < s.size) (hm : s.size ≤ maxLen) (w : World) :
    Calls Tryd.prog 17 #[.string s] w fun e w' => e = .returned (.tuple #[.string ByteArray.empty, .bool false]) ∧ w' = w := by
  unfold maxLen at hm
  go_enter Tryd.func17, Tryd.ntmps17
  go_wp2
  go_ret2
  exact ⟨rfl, rfl⟩

set_option maxHeartbeats 400000 in
theorem implSealed (s : ByteArray) (hs : s.size ≤ 20000) (w : World) (ht : HalfTab w) :
    Calls Tryd.prog 11 #[.string s] w fun e w' => e = .returned (.tuple #[.string (sealB s), .bool true]) ∧ Below w.heap.size w w' := by
  have h1 := implOf s (by unfold maxLen; omega) w ht
  have hlt := sumOf_lt s.data.toList
  have hadd := fun wx => run_string_add_sum (P := Tryd.prog) wx s ⟨(four (sumOf s.data.toList)).toArray⟩ (by show s.size + 4 ≤ _; omega)
  obtain ⟨N, hN⟩ : ∃ N, N = sumOf s.data.toList := ⟨_, rfl⟩
  have HN : Hid (N = sumOf s.data.toList) := hN
  change Calls Tryd.prog 14 #[.string s] w fun e w' => e = .returned (.int .u32 (sumOf s.data.toList : Nat)) ∧ w' = w at h1
  rw [← hN] at h1 hlt hadd
  clear hN ht
  go_enter Tryd.func11, Tryd.ntmps11
  go_wp2_with (first | (go_at_call 14; refine h1.mono ?_; rintro e w1 ⟨rfl, rfl⟩) | (go_at_call 23; refine (implFour N hlt _).mono ?_; rintro e w2 ⟨rfl, hb⟩))
  go_ret2
  exact ⟨by unfold sealB; rw [← HN.out]; rfl, hb⟩

theorem implSealed_no (s : ByteArray) (hs : 20000 < s.size) (hm : s.size ≤ maxLen) (w : World) :
    Calls Tryd.prog 11 #[.string s] w fun e w' => e = .returned (.tuple #[.string ByteArray.empty, .bool false]) ∧ w' = w := by
  unfold maxLen at hm
  go_enter Tryd.func11, Tryd.ntmps11
  go_wp2
  go_ret2
  exact ⟨rfl, rfl⟩

set_option maxHeartbeats 400000 in
theorem fnExactSealed_walk (a0 : ByteArray) (w0 : a0.size ≤ maxLen) (w : World) (ht : HalfTab w) :
    Calls Tryd.prog 6 #[.string a0] w fun e w' => e = .returned (.bool true) ∧ Below w.heap.size w w' := by
  by_cases hbig : (1048576 : Int) < a0.size
  · unfold maxLen at w0
    go_enter Tryd.func6, Tryd.ntmps6
    go_wp2
    go_ret
    exact ⟨rfl, Below.refl _ _⟩
  by_cases hs : a0.size ≤ 20000
  · have h1 := specSealed a0 hs w
    have h2 : Hid (∀ wx, Below w.heap.size w wx → Calls Tryd.prog 11 #[.string a0] wx fun e w' => e = .returned (.tuple #[.string (sealB a0), .bool true]) ∧ Below wx.heap.size wx w') := fun wx hb => implSealed a0 hs wx (ht.below hb)
    obtain ⟨L, hL⟩ : ∃ L, L = sealB a0 := ⟨_, rfl⟩
    rw [← hL] at h1 h2
    clear hL ht w0
    go_enter Tryd.func6, Tryd.ntmps6
    go_wp2_with (first | (go_at_call 17; refine h1.mono ?_; rintro e wa ⟨rfl, hba⟩) | (go_at_call 11; refine (h2.out _ hba).mono ?_; rintro e wb ⟨rfl, hbb⟩))
    go_ret
    exact ⟨rfl, hba.trans (hbb.mono hba.size)⟩
  · have h1 := specSealed_no a0 (by omega) w0 w
    have h2 := implSealed_no a0 (by omega) w0 w
    clear ht w0
    go_enter Tryd.func6, Tryd.ntmps6
    go_wp2_with (first | (go_at_call 17; refine h1.mono ?_; rintro e wa ⟨rfl, rfl⟩) | (go_at_call 11; refine h2.mono ?_; rintro e wb ⟨rfl, rfl⟩))
    go_ret
    exact ⟨rfl, Below.refl _ _⟩
end Go.Proofs.YtdiinhiihgpkkaaDoor
