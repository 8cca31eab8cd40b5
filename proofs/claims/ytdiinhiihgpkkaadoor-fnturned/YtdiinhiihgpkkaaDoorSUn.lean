/- What the two that unseal a text do. -/
import Derived.Test.YtdiinhiihgpkkaaDoorSSeal
import Derived.Test.YtdiinhiihgpkkaaDoorShelf
import Derived.Deep.RegionWith
import Derived.Deep.QuietTactic
import Derived.BigQuiet
import Derived.Deep.RegionHeld3
import Derived.WalkSmall
namespace Go.Proofs.YtdiinhiihgpkkaaDoor
open Go.RowKit

set_option maxHeartbeats 400000 in
theorem clone_calls (s : ByteArray) (w : World) (h : s.size ≤ 281474976710656) :
    Calls Tryd.prog 24 #[.string s] w fun e w' => e = .returned (.string s) ∧ Below w.heap.size w w' := by
  go_enter Tryd.func24, Tryd.ntmps24
  go_wp2_with (go_at_call 27; refine (Tryd.stringslite_Clone s _ h).mono ?_; rintro e w1 ⟨rfl, hb1⟩)
  go_ret
  exact ⟨rfl, hb1⟩

def headB (s : ByteArray) : ByteArray := s.extract 0 (s.size - 4)
def tailB (s : ByteArray) : ByteArray := s.extract (s.size - 4) s.size

/-- What stands ahead of the sum, and the sum, as the walk reads them. -/
theorem head_run (s : ByteArray) (h4 : 4 ≤ s.size) (wx : World) : (Instr.slice 9 (.string s) none (some (.int .i64 ((s.size : Int) - 4))) none).run Tryd.prog wx = .ok (.string (headB s)) wx := by
  rw [run_slice_string_h wx 9 s Tryd.underlying9 .i64 ((s.size : Int) - 4) (by omega) (by omega), show ((s.size : Int) - 4).toNat = s.size - 4 by omega]; rfl
theorem tail_run (s : ByteArray) (h4 : 4 ≤ s.size) (wx : World) : (Instr.slice 9 (.string s) (some (.int .i64 ((s.size : Int) - 4))) none none).run Tryd.prog wx = .ok (.string (tailB s)) wx := by
  rw [run_slice_string_l wx 9 s Tryd.underlying9 .i64 ((s.size : Int) - 4) (by omega) (by omega), show ((s.size : Int) - 4).toNat = s.size - 4 by omega]; rfl
theorem head_size (s : ByteArray) : (headB s).size = s.size - 4 := by unfold headB; rw [ByteArray.size_extract]; omega
theorem tail_size (s : ByteArray) (h : 4 ≤ s.size) : (tailB s).size = 4 := by unfold tailB; rw [ByteArray.size_extract]; omega

theorem specUn_short (s : ByteArray) (h : s.size < 4 ∨ 20004 < s.size) (hm : s.size ≤ maxLen) (w : World) :
    Calls Tryd.prog 18 #[.string s] w fun e w' => e = .returned (.tuple #[.string ByteArray.empty, .bool false]) ∧ Below w.heap.size w w' := by
  unfold maxLen at hm
  rcases h with h | h
  · have h1 : (s.size : Int) - 4 < 0 := by omega
    go_enter Tryd.func18, Tryd.ntmps18
    go_wp2_with fail
    go_quiet (fail)
    go_wp2
    go_ret2
    exact ⟨rfl, below_drewN (Below.refl _ _) _⟩
  · have h1 : ¬ ((s.size : Int) - 4 < 0) := by omega
    have h2 : (20000 : Int) < (s.size : Int) - 4 := by omega
    have h5 : decide ((s.size : Int) - 4 < 0) = false := by simp; omega
    go_enter Tryd.func18, Tryd.ntmps18
    go_wp2_with fail
    go_quiet (fail)
    go_wp2
    go_ret2
    exact ⟨rfl, below_drewN (Below.refl _ _) _⟩

theorem implUn_short (s : ByteArray) (h : s.size < 4 ∨ 20004 < s.size) (hm : s.size ≤ maxLen) (w : World) :
    Calls Tryd.prog 12 #[.string s] w fun e w' => e = .returned (.tuple #[.string ByteArray.empty, .bool false]) ∧ w' = w := by
  unfold maxLen at hm
  rcases h with h | h
  · have h1 : (s.size : Int) - 4 < 0 := by omega
    go_enter Tryd.func12, Tryd.ntmps12
    go_wp2
    go_ret2
    exact ⟨rfl, rfl⟩
  · have h1 : ¬ ((s.size : Int) - 4 < 0) := by omega
    have h2 : (20000 : Int) < (s.size : Int) - 4 := by omega
    go_enter Tryd.func12, Tryd.ntmps12
    go_wp2
    go_ret2
    exact ⟨rfl, rfl⟩

def unRes (s : ByteArray) : Value := if tailB s = ⟨(four (sumOf (headB s).data.toList)).toArray⟩ then .tuple #[.string (headB s), .bool true] else .tuple #[.string ByteArray.empty, .bool false]

set_option maxHeartbeats 400000 in
theorem implUn (s : ByteArray) (h4 : 4 ≤ s.size) (h2 : s.size ≤ 20004) (w : World) (ht : HalfTab w) :
    Calls Tryd.prog 12 #[.string s] w fun e w' => e = .returned (unRes s) ∧ Below w.heap.size w w' := by
  have h1 : ¬ ((s.size : Int) - 4 < 0) := by omega
  have h3 : ¬ ((20000 : Int) < (s.size : Int) - 4) := by omega
  have hhead := fun wx => head_run s h4 wx
  have htail := fun wx => tail_run s h4 wx
  have hhs := head_size s
  have hlt := sumOf_lt (headB s).data.toList
  have HC : Hid (∀ wx, Below w.heap.size w wx → Calls Tryd.prog 14 #[.string (headB s)] wx fun e w' => e = .returned (.int .u32 (sumOf (headB s).data.toList : Nat)) ∧ w' = wx) :=
    fun wx hb => implOf (headB s) (by unfold maxLen; omega) wx (ht.below hb)
  have HU : Hid (unRes s = if tailB s = ⟨(four (sumOf (headB s).data.toList)).toArray⟩ then .tuple #[.string (headB s), .bool true] else .tuple #[.string ByteArray.empty, .bool false]) := rfl
  obtain ⟨N, hN⟩ : ∃ N, N = sumOf (headB s).data.toList := ⟨_, rfl⟩
  rw [← hN] at HC hlt HU
  clear hN ht
  obtain ⟨A, hA⟩ : ∃ A, A = headB s := ⟨_, rfl⟩
  obtain ⟨B, hB⟩ : ∃ B, B = tailB s := ⟨_, rfl⟩
  obtain ⟨R, hR⟩ : ∃ R, R = unRes s := ⟨_, rfl⟩
  rw [← hA] at HC HU hhs hhead
  rw [← hB] at HU htail
  rw [← hR] at HU ⊢
  clear hA hB hR
  go_enter Tryd.func12, Tryd.ntmps12
  go_wp2_with fail
  go_region_held3 (fun _ => True) (trivial) (first | (go_at_call 14; refine (HC.out _ ?_).mono ?_; exact (Below.refl _ _).drew; rintro e w1 ⟨rfl, rfl⟩) | (go_at_call 23; refine (implFour N hlt _).mono ?_; rintro e w2 ⟨rfl, hb⟩))
  have hbel : Below w.heap.size w w2 := (Below.refl _ _).drew.trans hb
  clear hb
  by_cases hq : B = ⟨(four N).toArray⟩
  · have hq2 : (!B.toList == four N) = false := by rw [hq]; simp [ByteArray.toList_eq]
    have HR : Hid (R = .tuple #[.string A, .bool true]) := by show _ = _; rw [HU.out, if_pos hq]
    clear hq
    rw [hq2]
    go_wp2_with (go_at_call 24; refine (clone_calls A _ (by omega)).mono ?_; rintro e w3 ⟨rfl, hb3⟩)
    go_ret2
    exact ⟨by rw [HR.out]; rfl, hbel.trans (hb3.mono hbel.size)⟩
  · have hq2 : (!B.toList == four N) = true := by
      simp only [Bool.not_eq_true', beq_eq_false_iff_ne, ne_eq]
      intro h
      apply hq
      rw [ByteArray.toList_eq] at h
      apply ByteArray.ext
      rw [← h]
    have HR : Hid (R = .tuple #[.string ByteArray.empty, .bool false]) := by show _ = _; rw [HU.out, if_neg hq]
    clear hq
    rw [hq2]
    go_wp2
    go_ret2
    exact ⟨by rw [HR.out]; rfl, hbel⟩

set_option maxHeartbeats 1000000 in
theorem specUn (s : ByteArray) (h4 : 4 ≤ s.size) (h2 : s.size ≤ 20004) (w : World) :
    Calls Tryd.prog 18 #[.string s] w fun e w' => e = .returned (unRes s) ∧ Below w.heap.size w w' := by
  have h1 : ¬ ((s.size : Int) - 4 < 0) := by omega
  have h3 : ¬ ((20000 : Int) < (s.size : Int) - 4) := by omega
  have h5 : decide ((s.size : Int) - 4 < 0) = false := by simp; omega
  have h6 : decide ((20000 : Int) < (s.size : Int) - 4) = false := by simp; omega
  have hhead := fun wx => head_run s h4 wx
  have htail := fun wx => tail_run s h4 wx
  have hhs := head_size s
  have hlt := sumOf_lt (headB s).data.toList
  have HC : Hid (∀ wx, Calls Tryd.prog 16 #[.string (headB s)] wx fun e w' => e = .returned (.int .u32 (sumOf (headB s).data.toList : Nat)) ∧ w' = wx) :=
    fun wx => specOf (headB s) (by unfold maxLen; omega) wx
  have HU : Hid (unRes s = if tailB s = ⟨(four (sumOf (headB s).data.toList)).toArray⟩ then .tuple #[.string (headB s), .bool true] else .tuple #[.string ByteArray.empty, .bool false]) := rfl
  obtain ⟨N, hN⟩ : ∃ N, N = sumOf (headB s).data.toList := ⟨_, rfl⟩
  rw [← hN] at HC hlt HU
  clear hN
  obtain ⟨A, hA⟩ : ∃ A, A = headB s := ⟨_, rfl⟩
  obtain ⟨B, hB⟩ : ∃ B, B = tailB s := ⟨_, rfl⟩
  obtain ⟨R, hR⟩ : ∃ R, R = unRes s := ⟨_, rfl⟩
  rw [← hA] at HC HU hhs hhead
  rw [← hB] at HU htail
  rw [← hR] at HU ⊢
  clear hA hB hR
  go_enter Tryd.func18, Tryd.ntmps18
  go_wp2_with fail
  go_region_held3 (fun _ => True) (trivial) (first | (go_at_call 16; refine (HC.out _).mono ?_; rintro e w1 ⟨rfl, rfl⟩) | (go_at_call 26; refine (specFour N hlt _).mono ?_; rintro e w2 ⟨rfl, hb⟩))
  have hbel : Below w.heap.size w w2 := (Below.refl _ _).drew.trans hb
  clear hb
  by_cases hq : B = ⟨(four N).toArray⟩
  · have hq2 : (!B.toList == four N) = false := by rw [hq]; simp [ByteArray.toList_eq]
    have HR : Hid (R = .tuple #[.string A, .bool true]) := by show _ = _; rw [HU.out, if_pos hq]
    clear hq
    rw [hq2]
    go_wp2
    go_ret2
    exact ⟨by rw [HR.out]; rfl, hbel⟩
  · have hq2 : (!B.toList == four N) = true := by
      simp only [Bool.not_eq_true', beq_eq_false_iff_ne, ne_eq]
      intro h
      apply hq
      rw [ByteArray.toList_eq] at h
      apply ByteArray.ext
      rw [← h]
    have HR : Hid (R = .tuple #[.string ByteArray.empty, .bool false]) := by show _ = _; rw [HU.out, if_neg hq]
    clear hq
    rw [hq2]
    go_wp2
    go_ret2
    exact ⟨by rw [HR.out]; rfl, hbel⟩

/-- What is unsealed, whatever the text. -/
def unAll (s : ByteArray) : ByteArray × Bool := if 4 ≤ s.size ∧ s.size ≤ 20004 ∧ tailB s = ⟨(four (sumOf (headB s).data.toList)).toArray⟩ then (headB s, true) else (ByteArray.empty, false)

theorem unRes_all (s : ByteArray) (h4 : 4 ≤ s.size) (h2 : s.size ≤ 20004) : unRes s = .tuple #[.string (unAll s).1, .bool (unAll s).2] := by
  unfold unRes unAll
  by_cases h : tailB s = ⟨(four (sumOf (headB s).data.toList)).toArray⟩
  · rw [if_pos h, if_pos ⟨h4, h2, h⟩]
  · rw [if_neg h, if_neg (fun x => h x.2.2)]

theorem specUnAll (s : ByteArray) (hm : s.size ≤ maxLen) (w : World) :
    Calls Tryd.prog 18 #[.string s] w fun e w' => e = .returned (.tuple #[.string (unAll s).1, .bool (unAll s).2]) ∧ Below w.heap.size w w' := by
  by_cases h : 4 ≤ s.size ∧ s.size ≤ 20004
  · rw [← unRes_all s h.1 h.2]; exact specUn s h.1 h.2 w
  · have e : unAll s = (ByteArray.empty, false) := by unfold unAll; rw [if_neg (fun x => h ⟨x.1, x.2.1⟩)]
    rw [e]; exact specUn_short s (by omega) hm w

theorem implUnAll (s : ByteArray) (hm : s.size ≤ maxLen) (w : World) (ht : HalfTab w) :
    Calls Tryd.prog 12 #[.string s] w fun e w' => e = .returned (.tuple #[.string (unAll s).1, .bool (unAll s).2]) ∧ Below w.heap.size w w' := by
  by_cases h : 4 ≤ s.size ∧ s.size ≤ 20004
  · rw [← unRes_all s h.1 h.2]; exact implUn s h.1 h.2 w ht
  · have e : unAll s = (ByteArray.empty, false) := by unfold unAll; rw [if_neg (fun x => h ⟨x.1, x.2.1⟩)]
    rw [e]
    refine (implUn_short s (by omega) hm w).mono ?_
    rintro e w' ⟨rfl, rfl⟩
    exact ⟨rfl, Below.refl _ _⟩

set_option maxHeartbeats 400000 in
theorem fnExactUnsealed_walk (a0 : ByteArray) (w0 : a0.size ≤ maxLen) (w : World) (ht : HalfTab w) :
    Calls Tryd.prog 7 #[.string a0] w fun e w' => e = .returned (.bool true) ∧ Below w.heap.size w w' := by
  by_cases hbig : (1048576 : Int) < a0.size
  · unfold maxLen at w0
    go_enter Tryd.func7, Tryd.ntmps7
    go_wp2
    go_ret
    exact ⟨rfl, Below.refl _ _⟩
  · have h1 := specUnAll a0 w0 w
    have h2 : Hid (∀ wx, Below w.heap.size w wx → Calls Tryd.prog 12 #[.string a0] wx fun e w' => e = .returned (.tuple #[.string (unAll a0).1, .bool (unAll a0).2]) ∧ Below wx.heap.size wx w') := fun wx hb => implUnAll a0 w0 wx (ht.below hb)
    obtain ⟨L, hL⟩ : ∃ L, L = (unAll a0).1 := ⟨_, rfl⟩
    obtain ⟨ok, hok⟩ : ∃ ok, ok = (unAll a0).2 := ⟨_, rfl⟩
    rw [← hL, ← hok] at h1 h2
    clear hL hok ht w0
    go_enter Tryd.func7, Tryd.ntmps7
    go_wp2_with (first | (go_at_call 18; refine h1.mono ?_; rintro e wa ⟨rfl, hba⟩) | (go_at_call 12; refine (h2.out _ hba).mono ?_; rintro e wb ⟨rfl, hbb⟩))
    go_ret
    exact ⟨rfl, hba.trans (hbb.mono hba.size)⟩
end Go.Proofs.YtdiinhiihgpkkaaDoor
