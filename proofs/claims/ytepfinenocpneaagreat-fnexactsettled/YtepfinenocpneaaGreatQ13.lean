/- Which fields each kind of act takes, as both tell it. -/
import Derived.Test.YtepfinenocpneaaGreatQ1
import Derived.Test.YtepfinenocpneaaGreatQ11
set_option maxHeartbeats 16000000
namespace Go.Proofs.YtepfinenocpneaaGreat
open Value (int)
open IntKind (i64)
set_option maxRecDepth 100000
set_option linter.unusedVariables false
open Go.RowKit
def Zf (k : Int) (y : ByteArray) : Prop := if 2 ≤ k ∧ k ≤ 5 then NOk y else y.toList.isEmpty = true
instance (k : Int) (y : ByteArray) : Decidable (Zf k y) := by unfold Zf; infer_instance
def Zk (k v : Int) : Prop := if k = 1 ∨ k = 4 ∨ k = 6 then 0 ≤ v ∧ v ≤ 999999 else v = 0
instance (k v : Int) : Decidable (Zk k v) := by unfold Zk; infer_instance
def JP (l : List Int) (k x z : Int) : Prop := if k = 7 then Jf l x z = true else if k = 6 then (x = 0 ∧ z = 0) ∨ Jf l x z = true else x = 0 ∧ z = 0
instance (l : List Int) (k x z : Int) : Decidable (JP l k x z) := by unfold JP; infer_instance
def JL (k : Int) (o y : ByteArray) (v : Int) : Prop := (1 ≤ k ∧ k ≤ 7) ∧ NOk o ∧ Zf k y ∧ Zk k v
instance (k : Int) (o y : ByteArray) (v : Int) : Decidable (JL k o y v) := by unfold JL; infer_instance
theorem YZ (k : Int) (w : World) : Calls Tryz.prog 88 #[int i64 k] w fun e w' => e = .returned (.bool (decide (2 ≤ k) && decide (k ≤ 5))) ∧ w' = w := by
 go_enter Tryz.func88, Tryz.ntmps88
 go_wp2_with (go_at_call 84; refine (JK _ _ _ _).mono ?_; rintro e w1 ⟨rfl, rfl⟩)
 go_ret
 exact ⟨rfl, rfl⟩
theorem YH (k : Int) (w : World) : Calls Tryz.prog 90 #[int i64 k] w fun e w' => e = .returned (.bool (decide (k = 1 ∨ k = 4 ∨ k = 6))) ∧ w' = w := by
 by_cases h1 : k = 1
 ·subst h1
  go_enter Tryz.func90, Tryz.ntmps90
  go_wp2
  go_ret
  exact ⟨rfl, rfl⟩
 by_cases h4 : k = 4
 ·subst h4
  go_enter Tryz.func90, Tryz.ntmps90
  go_wp2
  go_ret
  exact ⟨rfl, rfl⟩
 by_cases h6 : k = 6
 ·subst h6
  go_enter Tryz.func90, Tryz.ntmps90
  go_wp2
  go_ret
  exact ⟨rfl, rfl⟩
 ·have e : decide (k = 1 ∨ k = 4 ∨ k = 6) = false := by simp [h1, h4, h6]
  rw [e]
  have HE : Hid ((k == 1 || k == 4 || k == 6) = false) := by show _ = _; simp [h1, h4, h6]
  go_enter Tryz.func90, Tryz.ntmps90
  go_wp2
  go_ret
  exact ⟨by show Ending.returned (.bool (k == 1 || k == 4 || k == 6)) = _; rw [HE.out], rfl⟩
theorem JaK (k : Int) (w : World) : Calls Tryz.prog 114 #[int i64 k] w fun e w' => e = .returned (.bool (decide (1 ≤ k ∧ k ≤ 7))) ∧ w' = w := by
 by_cases h1 : 1 ≤ k
 ·have e : decide (1 ≤ k ∧ k ≤ 7) = decide (k ≤ 7) := by simp [h1]
  rw [e]
  go_enter Tryz.func114, Tryz.ntmps114
  go_wp2
  go_ret
  exact ⟨rfl, rfl⟩
 ·have e : decide (1 ≤ k ∧ k ≤ 7) = false := by simp; omega
  rw [e]
  go_enter Tryz.func114, Tryz.ntmps114
  go_wp2
  go_ret
  exact ⟨rfl, rfl⟩
theorem UW (k : Int) (y : ByteArray) (hy : y.size ≤ maxLen) (w : World) : Calls Tryz.prog 115 #[int i64 k, .string y] w fun e w' => e = .returned (.bool (decide (Zf k y))) ∧ w' = w := by
 obtain ⟨b, hb⟩ : ∃ b, b = decide (NOk y) := ⟨_, rfl⟩
 have HN : Hid (∀ wx, Calls Tryz.prog 113 #[.string y] wx fun e w' => e = .returned (.bool b) ∧ w' = wx) := fun wx => by rw [hb]; exact ZT y hy wx
 have HB : Hid (b = decide (NOk y)) := hb
 clear hb hy
 by_cases h2 : k = 2
 ·subst h2
  have e : decide (Zf 2 y) = decide (NOk y) := by unfold Zf; simp
  rw [e, ← HB.out]
  clear HB e
  go_enter Tryz.func115, Tryz.ntmps115
  go_wp2_with (go_at_call 113; refine (HN.out _).mono ?_; rintro e w1 ⟨rfl, rfl⟩)
  go_ret
  exact ⟨rfl, rfl⟩
 by_cases h3 : k = 3
 ·subst h3
  have e : decide (Zf 3 y) = decide (NOk y) := by unfold Zf; simp
  rw [e, ← HB.out]
  clear HB e
  go_enter Tryz.func115, Tryz.ntmps115
  go_wp2_with (go_at_call 113; refine (HN.out _).mono ?_; rintro e w1 ⟨rfl, rfl⟩)
  go_ret
  exact ⟨rfl, rfl⟩
 by_cases h4 : k = 4
 ·subst h4
  have e : decide (Zf 4 y) = decide (NOk y) := by unfold Zf; simp
  rw [e, ← HB.out]
  clear HB e
  go_enter Tryz.func115, Tryz.ntmps115
  go_wp2_with (go_at_call 113; refine (HN.out _).mono ?_; rintro e w1 ⟨rfl, rfl⟩)
  go_ret
  exact ⟨rfl, rfl⟩
 by_cases h5 : k = 5
 ·subst h5
  have e : decide (Zf 5 y) = decide (NOk y) := by unfold Zf; simp
  rw [e, ← HB.out]
  clear HB e
  go_enter Tryz.func115, Tryz.ntmps115
  go_wp2_with (go_at_call 113; refine (HN.out _).mono ?_; rintro e w1 ⟨rfl, rfl⟩)
  go_ret
  exact ⟨rfl, rfl⟩
 have e : decide (Zf k y) = y.toList.isEmpty := by rw [Bool.eq_iff_iff, decide_eq_true_iff]; unfold Zf; rw [if_neg (by omega)]
 rw [e]
 clear HB HN e
 go_enter Tryz.func115, Tryz.ntmps115
 go_wp2
 go_ret
 exact ⟨rfl, rfl⟩
theorem Jar (v : Int) (w : World) : Calls Tryz.prog 137 #[int i64 v] w fun e w' => e = .returned (.bool (decide (0 ≤ v ∧ v ≤ 999999))) ∧ w' = w := by
 by_cases h0 : 0 ≤ v
 ·have e : decide (0 ≤ v ∧ v ≤ 999999) = decide (v ≤ 999999) := by simp [h0]
  rw [e]
  clear e
  go_enter Tryz.func137, Tryz.ntmps137
  go_wp2
  go_ret
  exact ⟨rfl, rfl⟩
 ·have e : decide (0 ≤ v ∧ v ≤ 999999) = false := by simp [h0]
  rw [e]
  clear e
  go_enter Tryz.func137, Tryz.ntmps137
  go_wp2
  go_ret
  exact ⟨rfl, rfl⟩
theorem YQ (t : Int) (w : World) : Calls Tryz.prog 112 #[int i64 t] w fun e w' => e = .returned (.bool (decide (1 ≤ t ∧ t ≤ 10000))) ∧ w' = w := by
 by_cases h0 : 1 ≤ t
 ·have e : decide (1 ≤ t ∧ t ≤ 10000) = decide (t ≤ 10000) := by simp [h0]
  rw [e]
  clear e
  go_enter Tryz.func112, Tryz.ntmps112
  go_wp2
  go_ret
  exact ⟨rfl, rfl⟩
 ·have e : decide (1 ≤ t ∧ t ≤ 10000) = false := by simp [h0]
  rw [e]
  clear e
  go_enter Tryz.func112, Tryz.ntmps112
  go_wp2
  go_ret
  exact ⟨rfl, rfl⟩
theorem UQ (k v : Int) (w : World) : Calls Tryz.prog 116 #[int i64 k, int i64 v] w fun e w' => e = .returned (.bool (decide (Zk k v))) ∧ w' = w := by
 have HV : Hid (∀ wx, Calls Tryz.prog 137 #[int i64 v] wx fun e w' => e = .returned (.bool (decide (0 ≤ v ∧ v ≤ 999999))) ∧ w' = wx) := fun wx => Jar v wx
 by_cases h1 : k = 1
 ·subst h1
  have e : decide (Zk 1 v) = decide (0 ≤ v ∧ v ≤ 999999) := by unfold Zk; simp
  rw [e]
  clear e
  generalize decide (0 ≤ v ∧ v ≤ 999999) = q at *
  go_enter Tryz.func116, Tryz.ntmps116
  go_wp2_with (go_at_call 137; refine (HV.out _).mono ?_; rintro e w1 ⟨rfl, rfl⟩)
  go_ret
  exact ⟨rfl, rfl⟩
 by_cases h4 : k = 4
 ·subst h4
  have e : decide (Zk 4 v) = decide (0 ≤ v ∧ v ≤ 999999) := by unfold Zk; simp
  rw [e]
  clear e
  generalize decide (0 ≤ v ∧ v ≤ 999999) = q at *
  go_enter Tryz.func116, Tryz.ntmps116
  go_wp2_with (go_at_call 137; refine (HV.out _).mono ?_; rintro e w1 ⟨rfl, rfl⟩)
  go_ret
  exact ⟨rfl, rfl⟩
 by_cases h6 : k = 6
 ·subst h6
  have e : decide (Zk 6 v) = decide (0 ≤ v ∧ v ≤ 999999) := by unfold Zk; simp
  rw [e]
  clear e
  generalize decide (0 ≤ v ∧ v ≤ 999999) = q at *
  go_enter Tryz.func116, Tryz.ntmps116
  go_wp2_with (go_at_call 137; refine (HV.out _).mono ?_; rintro e w1 ⟨rfl, rfl⟩)
  go_ret
  exact ⟨rfl, rfl⟩
 have e : decide (Zk k v) = (v == 0) := by
  rw [Bool.eq_iff_iff, decide_eq_true_iff]
  unfold Zk
  rw [if_neg (by omega)]
  simp
 rw [e]
 clear e HV
 go_enter Tryz.func116, Tryz.ntmps116
 go_wp2
 go_ret
 exact ⟨rfl, rfl⟩
theorem JZ (a b : Int) (wx : World) : (Op.equalIn 10000 42 (.agg #[int i64 a, int i64 b]) (.agg #[int i64 0, int i64 0])).run Tryz.prog wx = .ok (decide (a = 0 ∧ b = 0)) wx := by
 rw [UU]
 have : (decide (a = 0) && decide (b = 0)) = decide (a = 0 ∧ b = 0) := by by_cases h1 : a = 0 <;> by_cases h2 : b = 0 <;> simp [h1, h2]
 rw [this]
theorem UG (l : List Int) (u : Value) (k x z : Int) (w : World) (hu : IntsAt w u l) : Calls Tryz.prog 117 #[int i64 k, .agg #[int i64 x, int i64 z], u] w fun e w' => e = .returned (.bool (decide (JP l k x z))) ∧ Below w.heap.size w w' := by
 obtain ⟨n, hn⟩ : ∃ n, n = decide (x = 0 ∧ z = 0) := ⟨_, rfl⟩
 have heq : ∀ wx, (Op.equalIn 10000 42 (.agg #[int i64 x, int i64 z]) (.agg #[int i64 0, int i64 0])).run Tryz.prog wx = .ok n wx := fun wx => by rw [hn]; exact JZ x z wx
 have hgd := Zl
 obtain ⟨b, hb⟩ : ∃ b, b = Jf l x z := ⟨_, rfl⟩
 have HK : Hid (∀ wx, IntsAt wx u l → Calls Tryz.prog 69 #[u, .agg #[int i64 x, int i64 z]] wx fun e w' => e = .returned (.bool b) ∧ Below wx.heap.size wx w') := fun wx h => by rw [hb]; exact Ki l u x z wx h
 obtain ⟨W, hW⟩ : ∃ W, W = w.alloc (.cells #[int i64 x, int i64 z] 42) := ⟨_, rfl⟩
 have HW : Hid (w.alloc (.cells #[int i64 x, int i64 z] 42) = W) := hW.symm
 have HI : Hid (IntsAt W u l) := by rw [hW]; exact hu.alloc _
 have HBW : Hid (Below w.heap.size w W) := by rw [hW]; exact (Below.refl _ _).alloc (Nat.le_refl _) _
 obtain ⟨q, hq⟩ : ∃ q, q = decide (JP l k x z) := ⟨_, rfl⟩
 rw [← hq]
 clear hW hu
 by_cases h7 : k = 7
 ·subst h7
  have HQ : Hid (b = q) := by show _ = _; rw [hq, hb]; unfold JP; simp
  clear hq hb hn
  go_enter Tryz.func117, Tryz.ntmps117
  go_wp2_with fail
  rw [HW.out]
  refine (HK.out _ HI.out).mono ?_
  rintro e w1 ⟨rfl, hb1⟩
  have HF : Hid (Below w.heap.size w w1) := HBW.out.trans (hb1.mono HBW.out.size)
  clear hb1
  go_wp2
  go_ret
  exact ⟨by rw [← HQ.out]; rfl, HF.out⟩
 by_cases h6 : k = 6
 ·subst h6
  cases n
  ·have HQ : Hid (b = q) := by show _ = _; rw [hq, hb]; unfold JP; have := of_decide_eq_false hn.symm; simp [this]
   clear hq hb hn
   go_enter Tryz.func117, Tryz.ntmps117
   go_wp2_with fail
   rw [HW.out]
   refine (HK.out _ HI.out).mono ?_
   rintro e w1 ⟨rfl, hb1⟩
   have HF : Hid (Below w.heap.size w w1) := HBW.out.trans (hb1.mono HBW.out.size)
   clear hb1
   go_wp2
   go_ret
   exact ⟨by rw [← HQ.out]; rfl, HF.out⟩
  ·have HQ : Hid (true = q) := by show _ = _; rw [hq]; unfold JP; have := of_decide_eq_true hn.symm; simp [this]
   clear hq hb hn
   go_enter Tryz.func117, Tryz.ntmps117
   go_wp2
   rw [HW.out]
   go_ret
   exact ⟨by rw [← HQ.out]; rfl, HBW.out⟩
 ·have HQ : Hid (n = q) := by show _ = _; rw [hq, hn]; unfold JP; simp [h6, h7]
  clear hq hb hn
  go_enter Tryz.func117, Tryz.ntmps117
  go_wp2
  rw [HW.out]
  go_ret
  exact ⟨by rw [← HQ.out]; rfl, HBW.out⟩
theorem Uo (k : Int) (o y : ByteArray) (v : Int) (ho : o.size ≤ maxLen) (hy : y.size ≤ maxLen) (w : World) :
  Calls Tryz.prog 101 #[int i64 k, .string o, .string y, int i64 v] w fun e w' => e = .returned (.bool (decide (JL k o y v))) ∧ w' = w := by
 obtain ⟨bo, hbo⟩ : ∃ b, b = decide (NOk o) := ⟨_, rfl⟩
 obtain ⟨by', hby⟩ : ∃ b, b = decide (NOk y) := ⟨_, rfl⟩
 obtain ⟨bi, hbi⟩ : ∃ b, b = (decide (1 ≤ k) && decide (k ≤ 7)) := ⟨_, rfl⟩
 obtain ⟨bk, hbk⟩ : ∃ b, b = (decide (2 ≤ k) && decide (k ≤ 5)) := ⟨_, rfl⟩
 obtain ⟨bv, hbv⟩ : ∃ b, b = decide (k = 1 ∨ k = 4 ∨ k = 6) := ⟨_, rfl⟩
 obtain ⟨bj, hbj⟩ : ∃ b, b = (decide (0 ≤ v) && decide (v ≤ 999999)) := ⟨_, rfl⟩
 obtain ⟨be, hbe⟩ : ∃ b, b = y.toList.isEmpty := ⟨_, rfl⟩
 have HNO : Hid (∀ wx, Calls Tryz.prog 108 #[.string o] wx fun e w' => e = .returned (.bool bo) ∧ w' = wx) := fun wx => by rw [hbo]; exact JO o ho wx
 have HNY : Hid (∀ wx, Calls Tryz.prog 108 #[.string y] wx fun e w' => e = .returned (.bool by') ∧ w' = wx) := fun wx => by rw [hby]; exact JO y hy wx
 have HI : Hid (∀ wx, Calls Tryz.prog 84 #[int i64 k, int i64 1, int i64 7] wx fun e w' => e = .returned (.bool bi) ∧ w' = wx) := fun wx => by rw [hbi]; exact JK k 1 7 wx
 have HJ : Hid (∀ wx, Calls Tryz.prog 84 #[int i64 v, int i64 0, int i64 999999] wx fun e w' => e = .returned (.bool bj) ∧ w' = wx) := fun wx => by rw [hbj]; exact JK v 0 999999 wx
 have HK : Hid (∀ wx, Calls Tryz.prog 88 #[int i64 k] wx fun e w' => e = .returned (.bool bk) ∧ w' = wx) := fun wx => by rw [hbk]; exact YZ k wx
 have HV : Hid (∀ wx, Calls Tryz.prog 90 #[int i64 k] wx fun e w' => e = .returned (.bool bv) ∧ w' = wx) := fun wx => by rw [hbv]; exact YH k wx
 obtain ⟨q, hq⟩ : ∃ q, q = decide (JL k o y v) := ⟨_, rfl⟩
 rw [← hq]
 have HQ : Hid (q = (bi && bo && (if bk then by' else be) && (decide (v = 0) || bv && bj))) := by
  show _ = _
  have e1 : decide (Zf k y) = (if bk then by' else be) := by
   rw [hby, hbk, hbe, Bool.eq_iff_iff, decide_eq_true_iff]
   unfold Zf
   by_cases c : 2 ≤ k ∧ k ≤ 5
   ·simp [c.1, c.2]
   ·have : (decide (2 ≤ k) && decide (k ≤ 5)) = false := by simp; omega
    rw [if_neg c, this]
    simp
  have e2 : decide (Zk k v) = (decide (v = 0) || bv && bj) := by
   rw [hbv, hbj, Bool.eq_iff_iff, decide_eq_true_iff]
   unfold Zk
   by_cases c : k = 1 ∨ k = 4 ∨ k = 6
   ·rw [if_pos c]; simp [c]; omega
   ·rw [if_neg c]; simp [c]
  have e3 : decide (1 ≤ k ∧ k ≤ 7) = bi := by rw [hbi]; simp [Bool.decide_and]
  rw [hq, ← e1, ← e2, ← e3, hbo]
  rw [Bool.eq_iff_iff, decide_eq_true_iff]
  unfold JL
  simp only [Bool.and_eq_true, decide_eq_true_iff, and_assoc]
 clear hq hbi hbo hby hbk hbv hbj ho hy
 cases bi
 case false =>
  clear hbe
  have HA : Hid (false = q) := by show _ = _; rw [HQ.out]; simp
  clear HQ
  go_enter Tryz.func101, Tryz.ntmps101
  go_wp2_with (first
   | (go_at_call 84; refine (HI.out _).mono ?_; clear HI; rintro e w1 ⟨rfl, rfl⟩)
   | (go_at_call 84; refine (HJ.out _).mono ?_; rintro e w1 ⟨rfl, rfl⟩)
   | (go_at_call 108; refine (HNO.out _).mono ?_; clear HNO; rintro e w1 ⟨rfl, rfl⟩)
   | (go_at_call 108; refine (HNY.out _).mono ?_; rintro e w1 ⟨rfl, rfl⟩)
   | (go_at_call 88; refine (HK.out _).mono ?_; rintro e w1 ⟨rfl, rfl⟩)
   | (go_at_call 90; refine (HV.out _).mono ?_; rintro e w1 ⟨rfl, rfl⟩))
  go_ret
  exact ⟨by rw [← HA.out]; rfl, rfl⟩
 case true =>
  cases bo
  case false =>
   clear hbe
   have HA : Hid (false = q) := by show _ = _; rw [HQ.out]; simp
   clear HQ
   go_enter Tryz.func101, Tryz.ntmps101
   go_wp2_with (first
    | (go_at_call 84; refine (HI.out _).mono ?_; clear HI; rintro e w1 ⟨rfl, rfl⟩)
    | (go_at_call 84; refine (HJ.out _).mono ?_; rintro e w1 ⟨rfl, rfl⟩)
    | (go_at_call 108; refine (HNO.out _).mono ?_; clear HNO; rintro e w1 ⟨rfl, rfl⟩)
    | (go_at_call 108; refine (HNY.out _).mono ?_; rintro e w1 ⟨rfl, rfl⟩)
    | (go_at_call 88; refine (HK.out _).mono ?_; rintro e w1 ⟨rfl, rfl⟩)
    | (go_at_call 90; refine (HV.out _).mono ?_; rintro e w1 ⟨rfl, rfl⟩))
   go_ret
   exact ⟨by rw [← HA.out]; rfl, rfl⟩
  case true =>
   cases bk
   case false =>
    cases be
    case false =>
     have hye := hbe.symm
     clear hbe
     have HA : Hid (false = q) := by show _ = _; rw [HQ.out]; simp
     clear HQ
     go_enter Tryz.func101, Tryz.ntmps101
     go_wp2_with (first
      | (go_at_call 84; refine (HI.out _).mono ?_; clear HI; rintro e w1 ⟨rfl, rfl⟩)
      | (go_at_call 84; refine (HJ.out _).mono ?_; rintro e w1 ⟨rfl, rfl⟩)
      | (go_at_call 108; refine (HNO.out _).mono ?_; clear HNO; rintro e w1 ⟨rfl, rfl⟩)
      | (go_at_call 108; refine (HNY.out _).mono ?_; rintro e w1 ⟨rfl, rfl⟩)
      | (go_at_call 88; refine (HK.out _).mono ?_; rintro e w1 ⟨rfl, rfl⟩)
      | (go_at_call 90; refine (HV.out _).mono ?_; rintro e w1 ⟨rfl, rfl⟩))
     go_ret
     exact ⟨by rw [← HA.out]; rfl, rfl⟩
    case true =>
     have hye := hbe.symm
     clear hbe
     by_cases h0 : v = 0
     case pos =>
      subst h0
      have HA : Hid (true = q) := by show _ = _; rw [HQ.out]; simp
      clear HQ
      go_enter Tryz.func101, Tryz.ntmps101
      go_wp2_with (first
       | (go_at_call 84; refine (HI.out _).mono ?_; clear HI; rintro e w1 ⟨rfl, rfl⟩)
       | (go_at_call 84; refine (HJ.out _).mono ?_; rintro e w1 ⟨rfl, rfl⟩)
       | (go_at_call 108; refine (HNO.out _).mono ?_; clear HNO; rintro e w1 ⟨rfl, rfl⟩)
       | (go_at_call 108; refine (HNY.out _).mono ?_; rintro e w1 ⟨rfl, rfl⟩)
       | (go_at_call 88; refine (HK.out _).mono ?_; rintro e w1 ⟨rfl, rfl⟩)
       | (go_at_call 90; refine (HV.out _).mono ?_; rintro e w1 ⟨rfl, rfl⟩))
      go_ret
      exact ⟨by rw [← HA.out]; rfl, rfl⟩
     have hv0 : (v == 0) = false := by simp [h0]
     cases bv
     case false =>
      have HA : Hid (false = q) := by show _ = _; rw [HQ.out]; simp [h0]
      clear HQ h0
      go_enter Tryz.func101, Tryz.ntmps101
      go_wp2_with (first
       | (go_at_call 84; refine (HI.out _).mono ?_; clear HI; rintro e w1 ⟨rfl, rfl⟩)
       | (go_at_call 84; refine (HJ.out _).mono ?_; rintro e w1 ⟨rfl, rfl⟩)
       | (go_at_call 108; refine (HNO.out _).mono ?_; clear HNO; rintro e w1 ⟨rfl, rfl⟩)
       | (go_at_call 108; refine (HNY.out _).mono ?_; rintro e w1 ⟨rfl, rfl⟩)
       | (go_at_call 88; refine (HK.out _).mono ?_; rintro e w1 ⟨rfl, rfl⟩)
       | (go_at_call 90; refine (HV.out _).mono ?_; rintro e w1 ⟨rfl, rfl⟩))
      go_ret
      exact ⟨by rw [← HA.out]; rfl, rfl⟩
     case true =>
      have HA : Hid (bj = q) := by show _ = _; rw [HQ.out]; simp [h0]
      clear HQ h0
      go_enter Tryz.func101, Tryz.ntmps101
      go_wp2_with (first
       | (go_at_call 84; refine (HI.out _).mono ?_; clear HI; rintro e w1 ⟨rfl, rfl⟩)
       | (go_at_call 84; refine (HJ.out _).mono ?_; rintro e w1 ⟨rfl, rfl⟩)
       | (go_at_call 108; refine (HNO.out _).mono ?_; clear HNO; rintro e w1 ⟨rfl, rfl⟩)
       | (go_at_call 108; refine (HNY.out _).mono ?_; rintro e w1 ⟨rfl, rfl⟩)
       | (go_at_call 88; refine (HK.out _).mono ?_; rintro e w1 ⟨rfl, rfl⟩)
       | (go_at_call 90; refine (HV.out _).mono ?_; rintro e w1 ⟨rfl, rfl⟩))
      go_ret
      exact ⟨by rw [← HA.out]; rfl, rfl⟩
   case true =>
    clear hbe
    cases by'
    case false =>
     have HA : Hid (false = q) := by show _ = _; rw [HQ.out]; simp
     clear HQ
     go_enter Tryz.func101, Tryz.ntmps101
     go_wp2_with (first
      | (go_at_call 84; refine (HI.out _).mono ?_; clear HI; rintro e w1 ⟨rfl, rfl⟩)
      | (go_at_call 84; refine (HJ.out _).mono ?_; rintro e w1 ⟨rfl, rfl⟩)
      | (go_at_call 108; refine (HNO.out _).mono ?_; clear HNO; rintro e w1 ⟨rfl, rfl⟩)
      | (go_at_call 108; refine (HNY.out _).mono ?_; rintro e w1 ⟨rfl, rfl⟩)
      | (go_at_call 88; refine (HK.out _).mono ?_; rintro e w1 ⟨rfl, rfl⟩)
      | (go_at_call 90; refine (HV.out _).mono ?_; rintro e w1 ⟨rfl, rfl⟩))
     go_ret
     exact ⟨by rw [← HA.out]; rfl, rfl⟩
    case true =>
     by_cases h0 : v = 0
     case pos =>
      subst h0
      have HA : Hid (true = q) := by show _ = _; rw [HQ.out]; simp
      clear HQ
      go_enter Tryz.func101, Tryz.ntmps101
      go_wp2_with (first
       | (go_at_call 84; refine (HI.out _).mono ?_; clear HI; rintro e w1 ⟨rfl, rfl⟩)
       | (go_at_call 84; refine (HJ.out _).mono ?_; rintro e w1 ⟨rfl, rfl⟩)
       | (go_at_call 108; refine (HNO.out _).mono ?_; clear HNO; rintro e w1 ⟨rfl, rfl⟩)
       | (go_at_call 108; refine (HNY.out _).mono ?_; rintro e w1 ⟨rfl, rfl⟩)
       | (go_at_call 88; refine (HK.out _).mono ?_; rintro e w1 ⟨rfl, rfl⟩)
       | (go_at_call 90; refine (HV.out _).mono ?_; rintro e w1 ⟨rfl, rfl⟩))
      go_ret
      exact ⟨by rw [← HA.out]; rfl, rfl⟩
     have hv0 : (v == 0) = false := by simp [h0]
     cases bv
     case false =>
      have HA : Hid (false = q) := by show _ = _; rw [HQ.out]; simp [h0]
      clear HQ h0
      go_enter Tryz.func101, Tryz.ntmps101
      go_wp2_with (first
       | (go_at_call 84; refine (HI.out _).mono ?_; clear HI; rintro e w1 ⟨rfl, rfl⟩)
       | (go_at_call 84; refine (HJ.out _).mono ?_; rintro e w1 ⟨rfl, rfl⟩)
       | (go_at_call 108; refine (HNO.out _).mono ?_; clear HNO; rintro e w1 ⟨rfl, rfl⟩)
       | (go_at_call 108; refine (HNY.out _).mono ?_; rintro e w1 ⟨rfl, rfl⟩)
       | (go_at_call 88; refine (HK.out _).mono ?_; rintro e w1 ⟨rfl, rfl⟩)
       | (go_at_call 90; refine (HV.out _).mono ?_; rintro e w1 ⟨rfl, rfl⟩))
      go_ret
      exact ⟨by rw [← HA.out]; rfl, rfl⟩
     case true =>
      have HA : Hid (bj = q) := by show _ = _; rw [HQ.out]; simp [h0]
      clear HQ h0
      go_enter Tryz.func101, Tryz.ntmps101
      go_wp2_with (first
       | (go_at_call 84; refine (HI.out _).mono ?_; clear HI; rintro e w1 ⟨rfl, rfl⟩)
       | (go_at_call 84; refine (HJ.out _).mono ?_; rintro e w1 ⟨rfl, rfl⟩)
       | (go_at_call 108; refine (HNO.out _).mono ?_; clear HNO; rintro e w1 ⟨rfl, rfl⟩)
       | (go_at_call 108; refine (HNY.out _).mono ?_; rintro e w1 ⟨rfl, rfl⟩)
       | (go_at_call 88; refine (HK.out _).mono ?_; rintro e w1 ⟨rfl, rfl⟩)
       | (go_at_call 90; refine (HV.out _).mono ?_; rintro e w1 ⟨rfl, rfl⟩))
      go_ret
      exact ⟨by rw [← HA.out]; rfl, rfl⟩
theorem Zm (S : Sta) (u0 u1 u2 u3 : Value) (r s : Int) (w : World) (hn : S.C.length ≤ 1048576) (h : StAt w S u0 u1 u2 u3) :
  Calls Tryz.prog 62 #[.agg #[u0, u1, u2, u3], .agg #[int i64 r, int i64 s]] w fun e w' => e = .returned (int i64 (cellAt S.C r s 0)) ∧ Below w.heap.size w w' := by
 obtain ⟨a0, c0, a1, c1, a2, c2, a3, c3, rfl, rfl, rfl, rfl⟩ := h.shape
 obtain ⟨W, hW⟩ : ∃ W, W = (w.alloc (.cells #[.slice a0 S.l.length c0, .slice a1 S.T.length c1, .slice a2 S.L.length c2, .slice a3 S.C.length c3] 29)).alloc (.cells #[int i64 r, int i64 s] 42) := ⟨_, rfl⟩
 have HP : Hid (∀ wx, Below W.heap.size W wx → Row wx w.heap.size #[.slice a0 S.l.length c0, .slice a1 S.T.length c1, .slice a2 S.L.length c2, .slice a3 S.C.length c3] 29) := fun wx h => by
  have h0 : Row W w.heap.size #[.slice a0 S.l.length c0, .slice a1 S.T.length c1, .slice a2 S.L.length c2, .slice a3 S.C.length c3] 29 := by rw [hW]; exact (Jb w _ _ rfl).alloc _
  exact h0.next h
 have HQ : Hid (∀ wx, Below W.heap.size W wx → Row wx (w.heap.size + 1) #[int i64 r, int i64 s] 42) := fun wx h => by
  have h0 : Row W (w.heap.size + 1) #[int i64 r, int i64 s] 42 := by rw [hW]; exact Jb _ _ _ (by simp)
  exact h0.next h
 have HB : Hid (Below w.heap.size w W) := by rw [hW]; exact ((Below.refl _ _).alloc (Nat.le_refl _) _).alloc (by simp) _
 have HS : Hid (StAt W S (.slice a0 S.l.length c0) (.slice a1 S.T.length c1) (.slice a2 S.L.length c2) (.slice a3 S.C.length c3)) := by rw [hW]; exact (h.alloc _).alloc _
 have HW : Hid ((w.alloc (.cells #[.slice a0 S.l.length c0, .slice a1 S.T.length c1, .slice a2 S.L.length c2, .slice a3 S.C.length c3] 29)).alloc (.cells #[int i64 r, int i64 s] 42) = W) := hW.symm
 clear hW h
 obtain ⟨l, hl⟩ : ∃ l, l = S.C := ⟨_, rfl⟩
 have HGA : Hid (CeG W a3 l) := by
  obtain ⟨x, y, hq, hg⟩ := HS.out.2.2.2
  simp only [Value.slice.injEq] at hq
  rw [hl, hq.1]; exact hg
 obtain ⟨R, hR⟩ : ∃ R, R = cellAt S.C r s 0 := ⟨_, rfl⟩
 rw [← hR]
 rw [← hl] at hR hn
 have HR : Hid (R = cellAt (l.drop 0) r s (0 : Nat)) := hR
 obtain ⟨n, hnl⟩ : ∃ n, n = l.length := ⟨_, rfl⟩
 have HL : Hid (n = l.length) := hnl
 rw [← hl, ← hnl] at HP HW
 rw [← hl, ← hnl]
 rw [← hnl] at hn
 clear HS hR hnl hl
 go_enter Tryz.func62, Tryz.ntmps62
 go_wp2
 rw [HW.out]
 clear HW
 go_loopw [5] (fun z wr => ∃ k : Nat, k ≤ n ∧ z = int i64 k ∧ R = cellAt (l.drop k) r s k ∧ Below W.heap.size W wr) (fun z _ => n - (intOf z).toNat)
 case atStart => exact ⟨0, Nat.zero_le _, rfl, HR.out, Below.refl _ _⟩
 case round =>
  clear HR
  obtain ⟨k, hk, rfl, hr, hbel⟩ := hrel
  have HBE : Hid (Below W.heap.size W wr) := hbel
  have d1 := (HP.out wr hbel).cell 3 rfl
  have e0 := (HQ.out wr hbel).cell 0 rfl
  have e1 := (HQ.out wr hbel).cell 1 rfl
  have hsz := hbel.size
  by_cases hlt : k < n
  ·have hkl : k < l.length := by rw [← HL.out]; exact hlt
   obtain ⟨g, f, rfl, hg, hcc⟩ := HGA.out (by omega)
   have hk1 : (k : Int) < n := by omega
   have hk0 : (0 : Int) ≤ k := by omega
   have q := (hcc k hkl).below hbel hg
   rw [JaD l r s k hkl] at hr
   generalize l[k] = x at *
   unfold ceC at q
   obtain ⟨q0, q1, q2, q3, q4, q5, q6, q7⟩ := q
   clear hcc hbel hkl q0 q3 q4 q5 q6 q7
   have heq : ∀ wx, (Op.equalIn 10000 42 (.agg #[int i64 x.r, int i64 x.s]) (.agg #[int i64 r, int i64 s])).run Tryz.prog wx = .ok (decide (x.r = r ∧ x.s = s)) wx := fun wx => by
    rw [UU]; by_cases h1 : x.r = r <;> by_cases h2 : x.s = s <;> simp [h1, h2]
   have hgd := Zl
   by_cases h1 : x.r = r ∧ x.s = s
   ·rw [decide_eq_true h1] at heq
    have HE : Hid (R = k) := by show _ = _; rw [hr, if_pos h1]
    clear hr h1
    go_wp2
    go_quiet (fail)
    have hbq := Ji HBE.out nq
    generalize wr.drewN nq = wq at *
    go_wp2
    go_ret
    exact ⟨by rw [HE.out]; rfl, HB.out.trans (hbq.mono HB.out.size)⟩
   ·rw [decide_eq_false h1] at heq
    have HE : Hid (R = cellAt (l.drop (k + 1)) r s (k + 1 : Nat)) := by show _ = _; rw [hr, if_neg h1]
    clear hr h1
    go_wp2
    go_quiet (fail)
    have hbq := Ji HBE.out nq
    clear d1 e0 e1 q1 q2 HBE
    generalize wr.drewN nq = wq at *
    go_wp2
    go_roundw
    case rel => exact ⟨k + 1, by omega, by go_num, HE.out, hbq⟩
    case measure => simp [intOf]; omega
  ·have hk1 : ¬ ((k : Int) < n) := by omega
   have HE : Hid (R = -1) := by
    have hkn : k = l.length := by have := HL.out; omega
    rw [hkn, List.drop_length] at hr
    exact hr
   clear hr hbel
   go_wp2
   go_ret
   exact ⟨by rw [HE.out]; rfl, HB.out.trans (HBE.out.mono HB.out.size)⟩
def AOk (A : Ac) : Prop := DOk A.r A.s ∧ KOk A.l ∧ A.l.getD A.r.toNat 0 = A.s - 1 ∧ (1 ≤ A.t ∧ A.t ≤ 10000) ∧ JL A.k A.o A.y A.v ∧ JP A.l A.k A.x A.z
instance (A : Ac) : Decidable (AOk A) := by unfold AOk; infer_instance
theorem Jez {P : Program} {md : Region.Mode} {ops : Array Oper} {Q : Exit → Act → World → Prop} {S : World → Prop} {fuel : Nat} {l l' : Array Bool} {a : Act} {w : World} (h : l = l') (H : wpAnyH P md ops Q S fuel l' a w) : wpAnyH P md ops Q S fuel l a w := h ▸ H
abbrev JgY : Oper := oq 3 (.fieldAddr 44 (.tmp 1) 0) 0 "l05_act.go:29" #[] none
abbrev Jg8 : Oper := oq 4 (.load 42 (.tmp 3)) 42 "l05_act.go:29" #[eD 0] none
abbrev Jfu : Oper := oq 5 (.call ⟨.value (.func 58), #[.tmp 4], #[42]⟩) 4 "l05_act.go:29" #[eD 1] none
abbrev JfM : Oper := oq 6 (.unOp .not 4 (.tmp 5)) 4 "l05_act.go:29" #[eD 2] none
abbrev Jgi : Oper := oq 7 (.move (.tmp 6)) 4 "l05_act.go:29" #[eD 3, eC 2] none
abbrev JeN : Oper := oq 8 (.fieldAddr 44 (.tmp 1) 2) 0 "l05_act.go:29" #[eG 4] (some (4, false))
abbrev Jgb : Oper := oq 9 (.load 24 (.tmp 8)) 24 "l05_act.go:29" #[eD 5, eG 4] (some (4, false))
abbrev Jfz : Oper := oq 10 (.call ⟨.value (.func 57), #[.tmp 9], #[24]⟩) 4 "l05_act.go:29" #[eD 6, eC 4, eG 4] (some (4, false))
abbrev Jgd : Oper := oq 11 (.unOp .not 4 (.tmp 10)) 4 "l05_act.go:29" #[eD 7, eG 4] (some (4, false))
abbrev JfY : Oper := oq 12 (.pick (.tmp 7) (.const (.bool true)) (.tmp 11)) 4 "l05_act.go:29" #[eD 4, eD 8] none
abbrev JcZ : Oper := oq 13 (.move (.tmp 12)) 4 "l05_act.go:29" #[eD 9, eC 7] none
abbrev JcI : Oper := oq 14 (.fieldAddr 44 (.tmp 1) 2) 0 "l05_act.go:29" #[eG 10] (some (10, false))
abbrev JdS : Oper := oq 15 (.load 24 (.tmp 14)) 24 "l05_act.go:29" #[eD 11, eG 10] (some (10, false))
abbrev Jdh : Oper := oq 16 (.fieldAddr 44 (.tmp 1) 0) 0 "l05_act.go:29" #[eG 10] (some (10, false))
abbrev Jdl : Oper := oq 17 (.fieldAddr 42 (.tmp 16) 0) 0 "l05_act.go:29" #[eD 13, eG 10] (some (10, false))
abbrev Jdn : Oper := oq 18 (.load 3 (.tmp 17)) 3 "l05_act.go:29" #[eD 14, eG 10] (some (10, false))
abbrev JdH : Oper := oq 19 (.indexAddr 24 (.tmp 15) (.tmp 18)) 0 "l05_act.go:29" #[eD 12, eD 15, eG 10] (some (10, false))
abbrev Jdp : Oper := oq 20 (.load 3 (.tmp 19)) 3 "l05_act.go:29" #[eD 16, eG 10] (some (10, false))
abbrev JcY : Oper := oq 21 (.fieldAddr 44 (.tmp 1) 0) 0 "l05_act.go:29" #[eG 10] (some (10, false))
abbrev Jda : Oper := oq 22 (.fieldAddr 42 (.tmp 21) 1) 0 "l05_act.go:29" #[eD 18, eG 10] (some (10, false))
abbrev JcS : Oper := oq 23 (.load 3 (.tmp 22)) 3 "l05_act.go:29" #[eD 19, eG 10] (some (10, false))
abbrev Jdq : Oper := oq 24 (.binOp .sub 3 (.tmp 23) (.const (int i64 1)) 3) 3 "l05_act.go:29" #[eD 20, eG 10] (some (10, false))
abbrev Jbq : Oper := oq 25 (.binOp .neq 3 (.tmp 20) (.tmp 24) 3) 4 "l05_act.go:29" #[eD 17, eD 21, eG 10] (some (10, false))
abbrev Jbm : Oper := oq 26 (.pick (.tmp 13) (.const (.bool true)) (.tmp 25)) 4 "l05_act.go:29" #[eD 10, eD 22] none
abbrev Jbo : Oper := oq 27 (.move (.tmp 26)) 4 "l05_act.go:29" #[eD 23, eC 10] none
abbrev JbK : Oper := oq 28 (.fieldAddr 44 (.tmp 1) 1) 0 "l05_act.go:29" #[eG 24] (some (24, false))
abbrev JbB : Oper := oq 29 (.load 3 (.tmp 28)) 3 "l05_act.go:29" #[eD 25, eG 24] (some (24, false))
abbrev Jay : Oper := oq 30 (.call ⟨.value (.func 84), #[.tmp 29, .const (int i64 1), .const (int i64 10000)], #[3, 3, 3]⟩) 4 "l05_act.go:29" #[eD 26, eC 24, eG 24] (some (24, false))
abbrev JaJ : Oper := oq 31 (.unOp .not 4 (.tmp 30)) 4 "l05_act.go:29" #[eD 27, eG 24] (some (24, false))
abbrev JaI : Oper := oq 32 (.pick (.tmp 27) (.const (.bool true)) (.tmp 31)) 4 "l05_act.go:29" #[eD 24, eD 28] none
abbrev JaL : Oper := oq 33 (.move (.tmp 32)) 4 "l05_act.go:29" #[eD 29, eC 27] none
abbrev Jal : Oper := oq 34 (.fieldAddr 44 (.tmp 1) 3) 0 "l05_act.go:29" #[eG 30] (some (30, false))
abbrev Jav : Oper := oq 35 (.load 3 (.tmp 34)) 3 "l05_act.go:29" #[eD 31, eG 30] (some (30, false))
abbrev Jaq : Oper := oq 36 (.fieldAddr 44 (.tmp 1) 4) 0 "l05_act.go:29" #[eG 30] (some (30, false))
abbrev Jac : Oper := oq 37 (.load 9 (.tmp 36)) 9 "l05_act.go:29" #[eD 33, eG 30] (some (30, false))
abbrev Jan : Oper := oq 38 (.fieldAddr 44 (.tmp 1) 5) 0 "l05_act.go:29" #[eG 30] (some (30, false))
abbrev JaB : Oper := oq 39 (.load 9 (.tmp 38)) 9 "l05_act.go:29" #[eD 35, eG 30] (some (30, false))
abbrev Jax : Oper := oq 40 (.fieldAddr 44 (.tmp 1) 6) 0 "l05_act.go:29" #[eG 30] (some (30, false))
abbrev Y4 : Oper := oq 41 (.load 3 (.tmp 40)) 3 "l05_act.go:29" #[eD 37, eG 30] (some (30, false))
abbrev V5 : Oper := oq 42 (.call ⟨.value (.func 101), #[.tmp 35, .tmp 37, .tmp 39, .tmp 41], #[3, 9, 9, 3]⟩) 4 "l05_act.go:29" #[eD 32, eD 34, eD 36, eD 38, eC 30, eG 30] (some (30, false))
abbrev V8 : Oper := oq 43 (.unOp .not 4 (.tmp 42)) 4 "l05_act.go:29" #[eD 39, eG 30] (some (30, false))
abbrev Yv : Oper := oq 44 (.pick (.tmp 33) (.const (.bool true)) (.tmp 43)) 4 "l05_act.go:29" #[eD 30, eD 40] none
theorem Jfv (r s t k v x z : Int) (o y : ByteArray) (l : List Int) (u : Value) (w : World) (hlc : l.length ≤ 1048576) (hu : IntsAt w u l) (hdk : ¬ (DOk r s ∧ KOk l)) :
  Calls Tryz.prog 51 #[.agg #[int i64 r, int i64 s, int i64 t, u, int i64 k, .string o, .string y, int i64 v, int i64 x, int i64 z]] w fun e w' => e = .returned (.bool (decide (AOk ⟨r, s, t, k, v, x, z, o, y, l⟩))) ∧ Below w.heap.size w w' := by
 have hq : decide (AOk ⟨r, s, t, k, v, x, z, o, y, l⟩) = false := decide_eq_false (fun h => hdk ⟨h.1, h.2.1⟩)
 rw [hq]
 clear hq
 obtain ⟨aa, ca, rfl, hug⟩ := id hu
 obtain ⟨W, hW⟩ : ∃ W, W = w.alloc (.cells #[int i64 r, int i64 s, int i64 t, .slice aa l.length ca, int i64 k, .string o, .string y, int i64 v, int i64 x, int i64 z] 44) := ⟨_, rfl⟩
 have hR : Row W w.heap.size #[int i64 r, int i64 s, int i64 t, .slice aa l.length ca, int i64 k, .string o, .string y, int i64 v, int i64 x, int i64 z] 44 := by rw [hW]; exact Jb _ _ _ rfl
 have hI : IntsAt W (.slice aa l.length ca) l := by rw [hW]; exact hu.alloc _
 have HBW : Hid (Below w.heap.size w W) := by rw [hW]; exact (Below.refl _ _).alloc (Nat.le_refl _) _
 have HW : Hid (w.alloc (.cells #[int i64 r, int i64 s, int i64 t, .slice aa l.length ca, int i64 k, .string o, .string y, int i64 v, int i64 x, int i64 z] 44) = W) := hW.symm
 have HC : Hid (∀ wx, Below W.heap.size W wx → Row wx w.heap.size #[int i64 r, int i64 s, int i64 t, .slice aa l.length ca, int i64 k, .string o, .string y, int i64 v, int i64 x, int i64 z] 44) := fun wx h => hR.next h
 have HI : Hid (∀ wx, Below W.heap.size W wx → IntsAt wx (.slice aa l.length ca) l) := fun wx h => hI.below h
 have HF : Hid (∀ wx, Below W.heap.size W wx → Below w.heap.size w wx) := fun wx h => HBW.out.trans (h.mono HBW.out.size)
 have HDC : Hid (∀ wx, Calls Tryz.prog 58 #[.agg #[int i64 r, int i64 s]] wx fun e w' => e = .returned (.bool (decide (DOk r s))) ∧ Below wx.heap.size wx w') := fun wx => JU r s wx
 have HKC : Hid (∀ wx, Below W.heap.size W wx → Calls Tryz.prog 57 #[.slice aa l.length ca] wx fun e w' => e = .returned (.bool (decide (KOk l))) ∧ Below wx.heap.size wx w') := fun wx h => (JG l _ wx hlc (HI.out wx h)).mono (by rintro e w' ⟨rfl, rfl⟩; exact ⟨rfl, Below.refl _ _⟩)
 have hBc : Below W.heap.size W W := Below.refl _ _
 clear hW hu hR
 have HS : Hid (∀ wx, Below W.heap.size W wx → wx.cell? ⟨w.heap.size, 0, none⟩ = some (int i64 r) ∧ wx.cell? ⟨w.heap.size, 1, none⟩ = some (int i64 s) ∧ wx.cell? ⟨w.heap.size, 2, none⟩ = some (int i64 t) ∧ wx.cell? ⟨w.heap.size, 3, none⟩ = some (.slice aa l.length ca) ∧ wx.cell? ⟨w.heap.size, 4, none⟩ = some (int i64 k) ∧ wx.cell? ⟨w.heap.size, 5, none⟩ = some (.string o) ∧ wx.cell? ⟨w.heap.size, 6, none⟩ = some (.string y) ∧ wx.cell? ⟨w.heap.size, 7, none⟩ = some (int i64 v) ∧ wx.cell? ⟨w.heap.size, 8, none⟩ = some (int i64 x) ∧ wx.cell? ⟨w.heap.size, 9, none⟩ = some (int i64 z)) := fun wx h => Row.ten (HC.out wx h)
 clear hI hug
 go_enter Tryz.func51, Tryz.ntmps51
 go_wp2
 rw [HW.out]
 try simp only [List.append_eq, List.cons_append, List.nil_append]
 clear HW
 replace hBc := hBc.drew
 have hs := Ja (HS.out _ hBc)
 refine wph HS hBc 42 ?_
 refine tQ 0 JgY ?_; refine tQ 1 Jg8 ?_
 by_cases hd : DOk r s
 case neg =>
  rw [decide_eq_false hd] at HDC
  clear hd hdk
  refine rd 2 Jfu (fun K hK => ?_)
  go_simp
  refine (HDC.out _).mono ?_
  rintro e wn ⟨rfl, hbn⟩
  replace hBc := nx hBc hbn
  clear hbn
  try go_wp2_with fail
  replace hs := Ja (HS.out _ hBc)
  refine hK.out _ _ hs.out (fun hx => ?_)
  clear hx hK K
  try simp only [s1, s2, s3]
  refine tQ 3 JfM ?_; refine tQ 4 Jgi ?_; refine sQ 5 JeN ?_; refine sQ 6 Jgb ?_; refine cQ 7 Jfz ?_; refine sQ 8 Jgd ?_; refine tQ 9 JfY ?_; refine tQ 10 JcZ ?_; refine sQ 11 JcI ?_; refine sQ 12 JdS ?_; refine sQ 13 Jdh ?_; refine sQ 14 Jdl ?_; refine sQ 15 Jdn ?_; refine sQ 16 JdH ?_; refine sQ 17 Jdp ?_; refine sQ 18 JcY ?_; refine sQ 19 Jda ?_; refine sQ 20 JcS ?_; refine sQ 21 Jdq ?_; refine sQ 22 Jbq ?_; refine tQ 23 Jbm ?_; refine tQ 24 Jbo ?_; refine sQ 25 JbK ?_; refine sQ 26 JbB ?_; refine cQ 27 Jay ?_; refine sQ 28 JaJ ?_; refine tQ 29 JaI ?_; refine tQ 30 JaL ?_; refine sQ 31 Jal ?_; refine sQ 32 Jav ?_; refine sQ 33 Jaq ?_; refine sQ 34 Jac ?_; refine sQ 35 Jan ?_; refine sQ 36 JaB ?_; refine sQ 37 Jax ?_; refine sQ 38 Y4 ?_; refine cQ 39 V5 ?_; refine sQ 40 V8 ?_; refine tQ 41 Yv ?_
  refine wpd ?_
  clear hs HS
  go_wp2
  go_ret
  exact ⟨rfl, HF.out _ hBc⟩
 have hk : ¬ KOk l := fun h => hdk ⟨hd, h⟩
 rw [decide_eq_true hd] at HDC
 rw [decide_eq_false hk] at HKC
 clear hd hdk hk
 refine rd 2 Jfu (fun K hK => ?_)
 go_simp
 refine (HDC.out _).mono ?_
 rintro e wn ⟨rfl, hbn⟩
 replace hBc := nx hBc hbn
 clear hbn
 try go_wp2_with fail
 replace hs := Ja (HS.out _ hBc)
 refine hK.out _ _ hs.out (fun hx => ?_)
 clear hx hK K
 try simp only [s1, s2, s3]
 refine tQ 3 JfM ?_; refine tQ 4 Jgi ?_; refine tQ 5 JeN ?_; refine tQ 6 Jgb ?_
 refine rd 7 Jfz (fun K hK => ?_)
 go_simp
 refine (HKC.out _ hBc).mono ?_
 rintro e wn ⟨rfl, hbn⟩
 replace hBc := nx hBc hbn
 clear hbn
 try go_wp2_with fail
 replace hs := Ja (HS.out _ hBc)
 refine hK.out _ _ hs.out (fun hx => ?_)
 clear hx hK K
 try simp only [s1, s2, s3]
 refine tQ 8 Jgd ?_; refine tQ 9 JfY ?_; refine tQ 10 JcZ ?_; refine sQ 11 JcI ?_; refine sQ 12 JdS ?_; refine sQ 13 Jdh ?_; refine sQ 14 Jdl ?_; refine sQ 15 Jdn ?_; refine sQ 16 JdH ?_; refine sQ 17 Jdp ?_; refine sQ 18 JcY ?_; refine sQ 19 Jda ?_; refine sQ 20 JcS ?_; refine sQ 21 Jdq ?_; refine sQ 22 Jbq ?_; refine tQ 23 Jbm ?_; refine tQ 24 Jbo ?_; refine sQ 25 JbK ?_; refine sQ 26 JbB ?_; refine cQ 27 Jay ?_; refine sQ 28 JaJ ?_; refine tQ 29 JaI ?_; refine tQ 30 JaL ?_; refine sQ 31 Jal ?_; refine sQ 32 Jav ?_; refine sQ 33 Jaq ?_; refine sQ 34 Jac ?_; refine sQ 35 Jan ?_; refine sQ 36 JaB ?_; refine sQ 37 Jax ?_; refine sQ 38 Y4 ?_; refine cQ 39 V5 ?_; refine sQ 40 V8 ?_; refine tQ 41 Yv ?_
 refine wpd ?_
 clear hs HS
 go_wp2
 go_ret
 exact ⟨rfl, HF.out _ hBc⟩
theorem JeF (r s t k v x z : Int) (o y : ByteArray) (l : List Int) (u : Value) (w : World) (hlc : l.length ≤ 1048576) (ho : o.size ≤ 1048576) (hy : y.size ≤ 1048576) (hu : IntsAt w u l) (hd : DOk r s) (hk : KOk l) :
  Calls Tryz.prog 51 #[.agg #[int i64 r, int i64 s, int i64 t, u, int i64 k, .string o, .string y, int i64 v, int i64 x, int i64 z]] w fun e w' => e = .returned (.bool (decide (AOk ⟨r, s, t, k, v, x, z, o, y, l⟩))) ∧ Below w.heap.size w w' := by
 obtain ⟨q, hq⟩ : ∃ q, q = decide (AOk ⟨r, s, t, k, v, x, z, o, y, l⟩) := ⟨_, rfl⟩
 rw [← hq]
 have HNO : Hid (¬ (DOk r s ∧ KOk l ∧ l.getD r.toNat 0 = s - 1 ∧ (1 ≤ t ∧ t ≤ 10000) ∧ JL k o y v ∧ JP l k x z) → q = false) := fun h => by rw [hq]; exact decide_eq_false h
 have HQ : Hid (q = decide (DOk r s ∧ KOk l ∧ l.getD r.toNat 0 = s - 1 ∧ (1 ≤ t ∧ t ≤ 10000) ∧ JL k o y v ∧ JP l k x z)) := hq
 clear hq
 have mo : o.size ≤ maxLen := by unfold maxLen; omega
 have my : y.size ≤ maxLen := by unfold maxLen; omega
 obtain ⟨aa, ca, rfl, hug⟩ := id hu
 obtain ⟨W, hW⟩ : ∃ W, W = w.alloc (.cells #[int i64 r, int i64 s, int i64 t, .slice aa l.length ca, int i64 k, .string o, .string y, int i64 v, int i64 x, int i64 z] 44) := ⟨_, rfl⟩
 have hR : Row W w.heap.size #[int i64 r, int i64 s, int i64 t, .slice aa l.length ca, int i64 k, .string o, .string y, int i64 v, int i64 x, int i64 z] 44 := by rw [hW]; exact Jb _ _ _ rfl
 have hI : IntsAt W (.slice aa l.length ca) l := by rw [hW]; exact hu.alloc _
 have HBW : Hid (Below w.heap.size w W) := by rw [hW]; exact (Below.refl _ _).alloc (Nat.le_refl _) _
 have HW : Hid (w.alloc (.cells #[int i64 r, int i64 s, int i64 t, .slice aa l.length ca, int i64 k, .string o, .string y, int i64 v, int i64 x, int i64 z] 44) = W) := hW.symm
 have HC : Hid (∀ wx, Below W.heap.size W wx → Row wx w.heap.size #[int i64 r, int i64 s, int i64 t, .slice aa l.length ca, int i64 k, .string o, .string y, int i64 v, int i64 x, int i64 z] 44) := fun wx h => hR.next h
 have HI : Hid (∀ wx, Below W.heap.size W wx → IntsAt wx (.slice aa l.length ca) l) := fun wx h => hI.below h
 have HF : Hid (∀ wx, Below W.heap.size W wx → Below w.heap.size w wx) := fun wx h => HBW.out.trans (h.mono HBW.out.size)
 have HDC : Hid (∀ wx, Calls Tryz.prog 58 #[.agg #[int i64 r, int i64 s]] wx fun e w' => e = .returned (.bool (decide (DOk r s))) ∧ Below wx.heap.size wx w') := fun wx => JU r s wx
 have HKC : Hid (∀ wx, Below W.heap.size W wx → Calls Tryz.prog 57 #[.slice aa l.length ca] wx fun e w' => e = .returned (.bool (decide (KOk l))) ∧ Below wx.heap.size wx w') := fun wx h => (JG l _ wx hlc (HI.out wx h)).mono (by rintro e w' ⟨rfl, rfl⟩; exact ⟨rfl, Below.refl _ _⟩)
 have hBc : Below W.heap.size W W := Below.refl _ _
 clear hW hu hR
 have HTC : Hid (∀ wx, Calls Tryz.prog 84 #[int i64 t, int i64 1, int i64 10000] wx fun e w' => e = .returned (.bool (decide (1 ≤ t) && decide (t ≤ 10000))) ∧ Below wx.heap.size wx w') := fun wx => (JK t 1 10000 wx).mono (by rintro e w' ⟨rfl, rfl⟩; exact ⟨rfl, Below.refl _ _⟩)
 have HPC : Hid (∀ wx, Calls Tryz.prog 101 #[int i64 k, .string o, .string y, int i64 v] wx fun e w' => e = .returned (.bool (decide (JL k o y v))) ∧ Below wx.heap.size wx w') := fun wx => (Uo k o y v mo my wx).mono (by rintro e w' ⟨rfl, rfl⟩; exact ⟨rfl, Below.refl _ _⟩)
 rw [decide_eq_true hd] at HDC
 rw [decide_eq_true hk] at HKC
 have hkl := hk.1
 obtain ⟨rn, hrn⟩ : ∃ rn : Nat, r = rn := Int.eq_ofNat_of_zero_le hd.1
 subst hrn
 have hr3 : rn < 3 := by have := hd.2.1; omega
 obtain ⟨aa', ca', he, hg⟩ := hI
 obtain ⟨rfl, -, rfl⟩ : aa = aa' ∧ True ∧ ca = ca' := by simpa using he
 obtain ⟨g, rfl, hg1, hgc⟩ := hg (by omega)
 obtain ⟨xr, hxr⟩ : ∃ xr, xr = l.getD rn 0 := ⟨_, rfl⟩
 have hrl : rn < l.length := by omega
 have hx1 : xr = l[rn] := by rw [hxr]; simp [List.getD, hrl]
 have HG : Hid (∀ wx, Below W.heap.size W wx → wx.cell? ⟨g, rn, none⟩ = some (int i64 xr)) := fun wx h => (h.cell (p := ⟨g, rn, none⟩) hg1).trans (by rw [hx1]; exact hgc rn hrl)
 have HX : Hid (xr = l.getD rn 0) := hxr
 have hs1 : 1 ≤ s := hd.2.2.1
 have hs2 : s ≤ 1000 := hd.2.2.2
 have hwr : IntKind.i64.wrap (s - 1) = s - 1 := by rw [IntKind.wrap_i64] <;> omega
 have hr0 : (0 : Int) ≤ rn := by omega
 have hr2 : (rn : Int) < l.length := by omega
 have HD : Hid (DOk (rn : Int) s) := hd
 have HK : Hid (KOk l) := hk
 have HKN : Hid (∀ wx, Below W.heap.size W wx → Calls Tryz.prog 20 #[.slice (some ⟨g, 0, none⟩) l.length ca, .agg #[int i64 x, int i64 z]] wx fun e w' => e = .returned (.bool (Jf l x z)) ∧ Below wx.heap.size wx w') := fun wx h => Zc l _ x z wx hlc (HI.out wx h)
 have HS : Hid (∀ wx, Below W.heap.size W wx → wx.cell? ⟨w.heap.size, 0, none⟩ = some (int i64 (rn : Int)) ∧ wx.cell? ⟨w.heap.size, 1, none⟩ = some (int i64 s) ∧ wx.cell? ⟨w.heap.size, 2, none⟩ = some (int i64 t) ∧ wx.cell? ⟨w.heap.size, 3, none⟩ = some (.slice (some ⟨g, 0, none⟩) l.length ca) ∧ wx.cell? ⟨w.heap.size, 4, none⟩ = some (int i64 k) ∧ wx.cell? ⟨w.heap.size, 5, none⟩ = some (.string o) ∧ wx.cell? ⟨w.heap.size, 6, none⟩ = some (.string y) ∧ wx.cell? ⟨w.heap.size, 7, none⟩ = some (int i64 v) ∧ wx.cell? ⟨w.heap.size, 8, none⟩ = some (int i64 x) ∧ wx.cell? ⟨w.heap.size, 9, none⟩ = some (int i64 z) ∧ wx.cell? ⟨g, rn, none⟩ = some (int i64 xr)) := fun wx h => by obtain ⟨a0, a1, a2, a3, a4, a5, a6, a7, a8, a9⟩ := Row.ten (HC.out wx h); exact ⟨a0, a1, a2, a3, a4, a5, a6, a7, a8, a9, HG.out wx h⟩
 clear hg hgc hxr hx1 hd hk hug he hkl hr3 hrl HG ho hy
 go_enter Tryz.func51, Tryz.ntmps51
 go_wp2
 rw [HW.out]
 try simp only [List.append_eq, List.cons_append, List.nil_append]
 clear HW
 replace hBc := hBc.drew
 have hs := Ja (HS.out _ hBc)
 refine wph HS hBc 42 ?_
 refine tQ 0 JgY ?_; refine tQ 1 Jg8 ?_
 refine rd 2 Jfu (fun K hK => ?_)
 go_simp
 refine (HDC.out _).mono ?_
 rintro e wn ⟨rfl, hbn⟩
 replace hBc := nx hBc hbn
 clear hbn
 try go_wp2_with fail
 replace hs := Ja (HS.out _ hBc)
 refine hK.out _ _ hs.out (fun hx => ?_)
 clear hx hK K
 try simp only [s1, s2, s3]
 refine tQ 3 JfM ?_; refine tQ 4 Jgi ?_; refine tQ 5 JeN ?_; refine tQ 6 Jgb ?_
 refine rd 7 Jfz (fun K hK => ?_)
 go_simp
 refine (HKC.out _ hBc).mono ?_
 rintro e wn ⟨rfl, hbn⟩
 replace hBc := nx hBc hbn
 clear hbn
 try go_wp2_with fail
 replace hs := Ja (HS.out _ hBc)
 refine hK.out _ _ hs.out (fun hx => ?_)
 clear hx hK K
 try simp only [s1, s2, s3]
 clear HDC HKC
 refine tQ 8 Jgd ?_; refine tQ 9 JfY ?_; refine tQ 10 JcZ ?_; refine tQ 11 JcI ?_; refine tQ 12 JdS ?_; refine tQ 13 Jdh ?_; refine tQ 14 Jdl ?_; refine tQ 15 Jdn ?_; refine tQ 16 JdH ?_; refine tQ 17 Jdp ?_; refine tQ 18 JcY ?_; refine tQ 19 Jda ?_; refine tQ 20 JcS ?_; refine tQ 21 Jdq ?_
 by_cases hxe : l.getD rn 0 = s - 1
 case neg =>
  have hxb : (xr != s - 1) = true := by simp; exact fun h => hxe (by rw [← h, HX.out])
  have HE := Ja (HNO.out (fun h => hxe h.2.2.1))
  clear HQ HNO hxe HTC HPC HKN
  refine tQ 22 Jbq ?_; refine tQ 23 Jbm ?_; refine tQ 24 Jbo ?_; refine sQ 25 JbK ?_; refine sQ 26 JbB ?_; refine cQ 27 Jay ?_; refine sQ 28 JaJ ?_; refine tQ 29 JaI ?_; refine tQ 30 JaL ?_; refine sQ 31 Jal ?_; refine sQ 32 Jav ?_; refine sQ 33 Jaq ?_; refine sQ 34 Jac ?_; refine sQ 35 Jan ?_; refine sQ 36 JaB ?_; refine sQ 37 Jax ?_; refine sQ 38 Y4 ?_; refine cQ 39 V5 ?_; refine sQ 40 V8 ?_; refine tQ 41 Yv ?_
  refine wpd ?_
  clear hs HS
  go_wp2
  go_ret
  exact ⟨by rw [HE.out]; rfl, HF.out _ hBc⟩
 have hxb : (xr != s - 1) = false := by simp; rw [HX.out]; exact hxe
 have HXE := Ja hxe
 clear hxe
 refine tQ 22 Jbq ?_; refine tQ 23 Jbm ?_; refine tQ 24 Jbo ?_; refine tQ 25 JbK ?_; refine tQ 26 JbB ?_
 by_cases ht : 1 ≤ t ∧ t ≤ 10000
 case neg =>
  have htb : (decide (1 ≤ t) && decide (t ≤ 10000)) = false := by simp; omega
  rw [htb] at HTC
  have HE := Ja (HNO.out (fun h => ht h.2.2.2.1))
  clear HQ HNO ht htb HPC HKN
  refine rd 27 Jay (fun K hK => ?_)
  go_simp
  refine (HTC.out _).mono ?_
  rintro e wn ⟨rfl, hbn⟩
  replace hBc := nx hBc hbn
  clear hbn
  try go_wp2_with fail
  replace hs := Ja (HS.out _ hBc)
  refine hK.out _ _ hs.out (fun hx => ?_)
  clear hx hK K
  try simp only [s1, s2, s3]
  refine tQ 28 JaJ ?_; refine tQ 29 JaI ?_; refine tQ 30 JaL ?_; refine sQ 31 Jal ?_; refine sQ 32 Jav ?_; refine sQ 33 Jaq ?_; refine sQ 34 Jac ?_; refine sQ 35 Jan ?_; refine sQ 36 JaB ?_; refine sQ 37 Jax ?_; refine sQ 38 Y4 ?_; refine cQ 39 V5 ?_; refine sQ 40 V8 ?_; refine tQ 41 Yv ?_
  refine wpd ?_
  clear hs HS
  go_wp2
  go_ret
  exact ⟨by rw [HE.out]; rfl, HF.out _ hBc⟩
 have htb : (decide (1 ≤ t) && decide (t ≤ 10000)) = true := by simp; omega
 rw [htb] at HTC
 have HT := Ja ht
 clear ht htb
 refine rd 27 Jay (fun K hK => ?_)
 go_simp
 refine (HTC.out _).mono ?_
 rintro e wn ⟨rfl, hbn⟩
 replace hBc := nx hBc hbn
 clear hbn
 try go_wp2_with fail
 replace hs := Ja (HS.out _ hBc)
 refine hK.out _ _ hs.out (fun hx => ?_)
 clear hx hK K
 try simp only [s1, s2, s3]
 clear HTC
 refine tQ 28 JaJ ?_; refine tQ 29 JaI ?_; refine tQ 30 JaL ?_; refine tQ 31 Jal ?_; refine tQ 32 Jav ?_; refine tQ 33 Jaq ?_; refine tQ 34 Jac ?_; refine tQ 35 Jan ?_; refine tQ 36 JaB ?_; refine tQ 37 Jax ?_; refine tQ 38 Y4 ?_
 by_cases hp : JL k o y v
 case neg =>
  rw [decide_eq_false hp] at HPC
  have HE := Ja (HNO.out (fun h => hp h.2.2.2.2.1))
  clear HQ HNO hp HKN
  refine rd 39 V5 (fun K hK => ?_)
  go_simp
  refine (HPC.out _).mono ?_
  rintro e wn ⟨rfl, hbn⟩
  replace hBc := nx hBc hbn
  clear hbn
  try go_wp2_with fail
  replace hs := Ja (HS.out _ hBc)
  refine hK.out _ _ hs.out (fun hx => ?_)
  clear hx hK K
  try simp only [s1, s2, s3]
  refine tQ 40 V8 ?_; refine tQ 41 Yv ?_
  refine wpd ?_
  clear hs HS
  go_wp2
  go_ret
  exact ⟨by rw [HE.out]; rfl, HF.out _ hBc⟩
 rw [decide_eq_true hp] at HPC
 have HR : Hid (q = decide (JP l k x z)) := by show _ = _; rw [HQ.out]; exact decide_eq_decide.2 ⟨fun h => h.2.2.2.2.2, fun h => ⟨HD.out, HK.out, HXE.out, HT.out, hp, h⟩⟩
 clear HQ HNO hp
 refine rd 39 V5 (fun K hK => ?_)
 go_simp
 refine (HPC.out _).mono ?_
 rintro e wn ⟨rfl, hbn⟩
 replace hBc := nx hBc hbn
 clear hbn
 try go_wp2_with fail
 replace hs := Ja (HS.out _ hBc)
 refine hK.out _ _ hs.out (fun hx => ?_)
 clear hx hK K
 try simp only [s1, s2, s3]
 clear HPC
 refine tQ 40 V8 ?_; refine tQ 41 Yv ?_
 refine wpd ?_
 clear hs HS
 have heq := fun wx => JZ x z wx
 have hgd := Zl
 obtain ⟨c0, c1, c2, c3, c4, c5, c6, c7, c8, c9⟩ := Row.ten (HC.out _ hBc)
 by_cases h7 : k = 7
 ·subst h7
  have HQ : Hid (q = Jf l x z) := by show _ = _; rw [HR.out]; unfold JP; simp
  go_wp2_with fail
  refine (HKN.out _ hBc).mono ?_
  rintro e wn ⟨rfl, hbn⟩
  replace hBc := nx hBc hbn
  clear hbn
  go_wp2
  go_ret
  exact ⟨by rw [HQ.out]; rfl, HF.out _ hBc⟩
 by_cases h6 : k = 6
 ·subst h6
  by_cases hz : x = 0 ∧ z = 0
  ·have HQ : Hid (q = true) := by show _ = _; rw [HR.out]; unfold JP; simp [hz]
   rw [decide_eq_true hz] at heq
   clear hz
   go_wp2
   go_ret
   exact ⟨by rw [HQ.out]; rfl, HF.out _ hBc⟩
  ·have HQ : Hid (q = Jf l x z) := by show _ = _; rw [HR.out]; unfold JP; simp [hz]
   rw [decide_eq_false hz] at heq
   clear hz
   go_wp2_with fail
   refine (HKN.out _ hBc).mono ?_
   rintro e wn ⟨rfl, hbn⟩
   replace hBc := nx hBc hbn
   clear hbn
   go_wp2
   go_ret
   exact ⟨by rw [HQ.out]; rfl, HF.out _ hBc⟩
 ·have HQ : Hid (q = decide (x = 0 ∧ z = 0)) := by show _ = _; rw [HR.out]; unfold JP; simp [h6, h7]
  generalize decide (x = 0 ∧ z = 0) = bz at *
  go_wp2
  go_ret
  exact ⟨by rw [HQ.out]; rfl, HF.out _ hBc⟩
end Go.Proofs.YtepfinenocpneaaGreat
