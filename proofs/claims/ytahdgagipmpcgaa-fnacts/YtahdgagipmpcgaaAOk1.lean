/- Which fields each kind of act takes, as both tell it. -/
import Derived.Test.YtahdgagipmpcgaaASam2
import Derived.Test.YtahdgagipmpcgaaKKnows
import Derived.Test.YtahdgagipmpcgaaKSpec2
namespace Go.Proofs.Ytahdgagipmpcgaa
set_option maxRecDepth 100000
set_option linter.unusedVariables false
open Go.RowKit

def KeyOk (k : Int) (y : ByteArray) : Prop := if 2 ≤ k ∧ k ≤ 5 then NOk y else y.toList.isEmpty = true
instance (k : Int) (y : ByteArray) : Decidable (KeyOk k y) := by unfold KeyOk; infer_instance
def ValOk (k v : Int) : Prop := if k = 1 ∨ k = 4 ∨ k = 6 then 0 ≤ v ∧ v ≤ 999999 else v = 0
instance (k v : Int) : Decidable (ValOk k v) := by unfold ValOk; infer_instance
def RefOk (l : List Int) (k x z : Int) : Prop := if k = 7 then knows l x z = true else if k = 6 then (x = 0 ∧ z = 0) ∨ knows l x z = true else x = 0 ∧ z = 0
instance (l : List Int) (k x z : Int) : Decidable (RefOk l k x z) := by unfold RefOk; infer_instance
def PlainOk (k : Int) (o y : ByteArray) (v : Int) : Prop := (1 ≤ k ∧ k ≤ 7) ∧ NOk o ∧ KeyOk k y ∧ ValOk k v
instance (k : Int) (o y : ByteArray) (v : Int) : Decidable (PlainOk k o y v) := by unfold PlainOk; infer_instance

theorem keyed_calls (k : Int) (w : World) : Calls Try.prog 175 #[.int .i64 k] w fun e w' => e = .returned (.bool (decide (2 ≤ k) && decide (k ≤ 5))) ∧ w' = w := by
  go_enter Try.func175, Try.ntmps175
  go_wp2_with (go_at_call 125; refine (in_calls _ _ _ _).mono ?_; rintro e w1 ⟨rfl, rfl⟩)
  go_ret
  exact ⟨rfl, rfl⟩

theorem valued_calls (k : Int) (w : World) : Calls Try.prog 176 #[.int .i64 k] w fun e w' => e = .returned (.bool (decide (k = 1 ∨ k = 4 ∨ k = 6))) ∧ w' = w := by
  by_cases h1 : k = 1
  · subst h1
    go_enter Try.func176, Try.ntmps176
    go_wp2
    go_ret
    exact ⟨rfl, rfl⟩
  by_cases h4 : k = 4
  · subst h4
    go_enter Try.func176, Try.ntmps176
    go_wp2
    go_ret
    exact ⟨rfl, rfl⟩
  by_cases h6 : k = 6
  · subst h6
    go_enter Try.func176, Try.ntmps176
    go_wp2
    go_ret
    exact ⟨rfl, rfl⟩
  · have e : decide (k = 1 ∨ k = 4 ∨ k = 6) = false := by simp [h1, h4, h6]
    rw [e]
    have HE : Hid ((k == 1 || k == 4 || k == 6) = false) := by show _ = _; simp [h1, h4, h6]
    go_enter Try.func176, Try.ntmps176
    go_wp2
    go_ret
    exact ⟨by show Ending.returned (.bool (k == 1 || k == 4 || k == 6)) = _; rw [HE.out], rfl⟩

theorem right_calls (k : Int) (w : World) : Calls Try.prog 129 #[.int .i64 k] w fun e w' => e = .returned (.bool (decide (1 ≤ k ∧ k ≤ 7))) ∧ w' = w := by
  by_cases h1 : 1 ≤ k
  · have e : decide (1 ≤ k ∧ k ≤ 7) = decide (k ≤ 7) := by simp [h1]
    rw [e]
    go_enter Try.func129, Try.ntmps129
    go_wp2
    go_ret
    exact ⟨rfl, rfl⟩
  · have e : decide (1 ≤ k ∧ k ≤ 7) = false := by simp; omega
    rw [e]
    go_enter Try.func129, Try.ntmps129
    go_wp2
    go_ret
    exact ⟨rfl, rfl⟩

theorem takesKey_calls (k : Int) (y : ByteArray) (hy : y.size ≤ maxLen) (w : World) : Calls Try.prog 130 #[.int .i64 k, .string y] w fun e w' => e = .returned (.bool (decide (KeyOk k y))) ∧ w' = w := by
  obtain ⟨b, hb⟩ : ∃ b, b = decide (NOk y) := ⟨_, rfl⟩
  have HN : Hid (∀ wx, Calls Try.prog 60 #[.string y] wx fun e w' => e = .returned (.bool b) ∧ w' = wx) := fun wx => by rw [hb]; exact implNameOk_calls y hy wx
  have HB : Hid (b = decide (NOk y)) := hb
  clear hb hy
  by_cases h2 : k = 2
  · subst h2
    have e : decide (KeyOk 2 y) = decide (NOk y) := by unfold KeyOk; simp
    rw [e, ← HB.out]
    clear HB e
    go_enter Try.func130, Try.ntmps130
    go_wp2_with (go_at_call 60; refine (HN.out _).mono ?_; rintro e w1 ⟨rfl, rfl⟩)
    go_ret
    exact ⟨rfl, rfl⟩
  by_cases h3 : k = 3
  · subst h3
    have e : decide (KeyOk 3 y) = decide (NOk y) := by unfold KeyOk; simp
    rw [e, ← HB.out]
    clear HB e
    go_enter Try.func130, Try.ntmps130
    go_wp2_with (go_at_call 60; refine (HN.out _).mono ?_; rintro e w1 ⟨rfl, rfl⟩)
    go_ret
    exact ⟨rfl, rfl⟩
  by_cases h4 : k = 4
  · subst h4
    have e : decide (KeyOk 4 y) = decide (NOk y) := by unfold KeyOk; simp
    rw [e, ← HB.out]
    clear HB e
    go_enter Try.func130, Try.ntmps130
    go_wp2_with (go_at_call 60; refine (HN.out _).mono ?_; rintro e w1 ⟨rfl, rfl⟩)
    go_ret
    exact ⟨rfl, rfl⟩
  by_cases h5 : k = 5
  · subst h5
    have e : decide (KeyOk 5 y) = decide (NOk y) := by unfold KeyOk; simp
    rw [e, ← HB.out]
    clear HB e
    go_enter Try.func130, Try.ntmps130
    go_wp2_with (go_at_call 60; refine (HN.out _).mono ?_; rintro e w1 ⟨rfl, rfl⟩)
    go_ret
    exact ⟨rfl, rfl⟩
  have e : decide (KeyOk k y) = y.toList.isEmpty := by rw [Bool.eq_iff_iff, decide_eq_true_iff]; unfold KeyOk; rw [if_neg (by omega)]
  rw [e]
  clear HB HN e
  go_enter Try.func130, Try.ntmps130
  go_wp2
  go_ret
  exact ⟨rfl, rfl⟩

theorem valOk_calls (v : Int) (w : World) : Calls Try.prog 177 #[.int .i64 v] w fun e w' => e = .returned (.bool (decide (0 ≤ v ∧ v ≤ 999999))) ∧ w' = w := by
  by_cases h0 : 0 ≤ v
  · have e : decide (0 ≤ v ∧ v ≤ 999999) = decide (v ≤ 999999) := by simp [h0]
    rw [e]
    clear e
    go_enter Try.func177, Try.ntmps177
    go_wp2
    go_ret
    exact ⟨rfl, rfl⟩
  · have e : decide (0 ≤ v ∧ v ≤ 999999) = false := by simp [h0]
    rw [e]
    clear e
    go_enter Try.func177, Try.ntmps177
    go_wp2
    go_ret
    exact ⟨rfl, rfl⟩

theorem timeOk_calls (t : Int) (w : World) : Calls Try.prog 128 #[.int .i64 t] w fun e w' => e = .returned (.bool (decide (1 ≤ t ∧ t ≤ 10000))) ∧ w' = w := by
  by_cases h0 : 1 ≤ t
  · have e : decide (1 ≤ t ∧ t ≤ 10000) = decide (t ≤ 10000) := by simp [h0]
    rw [e]
    clear e
    go_enter Try.func128, Try.ntmps128
    go_wp2
    go_ret
    exact ⟨rfl, rfl⟩
  · have e : decide (1 ≤ t ∧ t ≤ 10000) = false := by simp [h0]
    rw [e]
    clear e
    go_enter Try.func128, Try.ntmps128
    go_wp2
    go_ret
    exact ⟨rfl, rfl⟩

theorem takesVal_calls (k v : Int) (w : World) : Calls Try.prog 131 #[.int .i64 k, .int .i64 v] w fun e w' => e = .returned (.bool (decide (ValOk k v))) ∧ w' = w := by
  have HV : Hid (∀ wx, Calls Try.prog 177 #[.int .i64 v] wx fun e w' => e = .returned (.bool (decide (0 ≤ v ∧ v ≤ 999999))) ∧ w' = wx) := fun wx => valOk_calls v wx
  by_cases h1 : k = 1
  · subst h1
    have e : decide (ValOk 1 v) = decide (0 ≤ v ∧ v ≤ 999999) := by unfold ValOk; simp
    rw [e]
    clear e
    generalize decide (0 ≤ v ∧ v ≤ 999999) = q at *
    go_enter Try.func131, Try.ntmps131
    go_wp2_with (go_at_call 177; refine (HV.out _).mono ?_; rintro e w1 ⟨rfl, rfl⟩)
    go_ret
    exact ⟨rfl, rfl⟩
  by_cases h4 : k = 4
  · subst h4
    have e : decide (ValOk 4 v) = decide (0 ≤ v ∧ v ≤ 999999) := by unfold ValOk; simp
    rw [e]
    clear e
    generalize decide (0 ≤ v ∧ v ≤ 999999) = q at *
    go_enter Try.func131, Try.ntmps131
    go_wp2_with (go_at_call 177; refine (HV.out _).mono ?_; rintro e w1 ⟨rfl, rfl⟩)
    go_ret
    exact ⟨rfl, rfl⟩
  by_cases h6 : k = 6
  · subst h6
    have e : decide (ValOk 6 v) = decide (0 ≤ v ∧ v ≤ 999999) := by unfold ValOk; simp
    rw [e]
    clear e
    generalize decide (0 ≤ v ∧ v ≤ 999999) = q at *
    go_enter Try.func131, Try.ntmps131
    go_wp2_with (go_at_call 177; refine (HV.out _).mono ?_; rintro e w1 ⟨rfl, rfl⟩)
    go_ret
    exact ⟨rfl, rfl⟩
  have e : decide (ValOk k v) = (v == 0) := by
    rw [Bool.eq_iff_iff, decide_eq_true_iff]
    unfold ValOk
    rw [if_neg (by omega)]
    simp
  rw [e]
  clear e HV
  go_enter Try.func131, Try.ntmps131
  go_wp2
  go_ret
  exact ⟨rfl, rfl⟩

theorem eqDot_zero (a b : Int) (wx : World) : (Op.equalIn 10000 47 (.agg #[.int .i64 a, .int .i64 b]) (.agg #[.int .i64 0, .int .i64 0])).run Try.prog wx = .ok (decide (a = 0 ∧ b = 0)) wx := by
  rw [eq_dot_run]
  have : (decide (a = 0) && decide (b = 0)) = decide (a = 0 ∧ b = 0) := by by_cases h1 : a = 0 <;> by_cases h2 : b = 0 <;> simp [h1, h2]
  rw [this]
set_option maxHeartbeats 1000000 in
theorem takesRef_calls (l : List Int) (u : Value) (k x z : Int) (w : World) (hu : IntsAt w u l) : Calls Try.prog 132 #[.int .i64 k, .agg #[.int .i64 x, .int .i64 z], u] w fun e w' => e = .returned (.bool (decide (RefOk l k x z))) ∧ Below w.heap.size w w' := by
  obtain ⟨n, hn⟩ : ∃ n, n = decide (x = 0 ∧ z = 0) := ⟨_, rfl⟩
  have heq : ∀ wx, (Op.equalIn 10000 47 (.agg #[.int .i64 x, .int .i64 z]) (.agg #[.int .i64 0, .int .i64 0])).run Try.prog wx = .ok n wx := fun wx => by rw [hn]; exact eqDot_zero x z wx
  have hgd := dot_guard
  obtain ⟨b, hb⟩ : ∃ b, b = knows l x z := ⟨_, rfl⟩
  have HK : Hid (∀ wx, IntsAt wx u l → Calls Try.prog 178 #[u, .agg #[.int .i64 x, .int .i64 z]] wx fun e w' => e = .returned (.bool b) ∧ Below wx.heap.size wx w') := fun wx h => by rw [hb]; exact knows_calls l u x z wx h
  obtain ⟨W, hW⟩ : ∃ W, W = w.alloc (.cells #[.int .i64 x, .int .i64 z] 47) := ⟨_, rfl⟩
  have HW : Hid (w.alloc (.cells #[.int .i64 x, .int .i64 z] 47) = W) := hW.symm
  have HI : Hid (IntsAt W u l) := by rw [hW]; exact hu.alloc _
  have HBW : Hid (Below w.heap.size w W) := by rw [hW]; exact (Below.refl _ _).alloc (Nat.le_refl _) _
  obtain ⟨q, hq⟩ : ∃ q, q = decide (RefOk l k x z) := ⟨_, rfl⟩
  rw [← hq]
  clear hW hu
  by_cases h7 : k = 7
  · subst h7
    have HQ : Hid (b = q) := by show _ = _; rw [hq, hb]; unfold RefOk; simp
    clear hq hb hn
    go_enter Try.func132, Try.ntmps132
    go_wp2_with fail
    rw [HW.out]
    refine (HK.out _ HI.out).mono ?_
    rintro e w1 ⟨rfl, hb1⟩
    have HF : Hid (Below w.heap.size w w1) := HBW.out.trans (hb1.mono HBW.out.size)
    clear hb1
    go_wp2
    go_ret
    exact ⟨by rw [← HQ.out]; rfl, HF.out⟩
  by_cases h6 : k = 6
  · subst h6
    cases n
    · have HQ : Hid (b = q) := by show _ = _; rw [hq, hb]; unfold RefOk; have := of_decide_eq_false hn.symm; simp [this]
      clear hq hb hn
      go_enter Try.func132, Try.ntmps132
      go_wp2_with fail
      rw [HW.out]
      refine (HK.out _ HI.out).mono ?_
      rintro e w1 ⟨rfl, hb1⟩
      have HF : Hid (Below w.heap.size w w1) := HBW.out.trans (hb1.mono HBW.out.size)
      clear hb1
      go_wp2
      go_ret
      exact ⟨by rw [← HQ.out]; rfl, HF.out⟩
    · have HQ : Hid (true = q) := by show _ = _; rw [hq]; unfold RefOk; have := of_decide_eq_true hn.symm; simp [this]
      clear hq hb hn
      go_enter Try.func132, Try.ntmps132
      go_wp2
      rw [HW.out]
      go_ret
      exact ⟨by rw [← HQ.out]; rfl, HBW.out⟩
  · have HQ : Hid (n = q) := by show _ = _; rw [hq, hn]; unfold RefOk; simp [h6, h7]
    clear hq hb hn
    go_enter Try.func132, Try.ntmps132
    go_wp2
    rw [HW.out]
    go_ret
    exact ⟨by rw [← HQ.out]; rfl, HBW.out⟩

theorem str_empty {y : ByteArray} (h : y.toList.isEmpty = true) : y = ByteArray.empty := by
  rw [ByteArray.toList_eq] at h
  have : y.data.toList = [] := by simpa using h
  exact ByteArray.ext (Array.ext' (by simpa using this))
set_option maxHeartbeats 16000000 in
theorem specPlain_calls (k : Int) (o y : ByteArray) (v : Int) (ho : o.size ≤ maxLen) (hy : y.size ≤ maxLen) (w : World) :
    Calls Try.prog 126 #[.int .i64 k, .string o, .string y, .int .i64 v] w fun e w' => e = .returned (.bool (decide (PlainOk k o y v))) ∧ w' = w := by
  obtain ⟨bo, hbo⟩ : ∃ b, b = decide (NOk o) := ⟨_, rfl⟩
  obtain ⟨by', hby⟩ : ∃ b, b = decide (NOk y) := ⟨_, rfl⟩
  obtain ⟨bi, hbi⟩ : ∃ b, b = (decide (1 ≤ k) && decide (k ≤ 7)) := ⟨_, rfl⟩
  obtain ⟨bk, hbk⟩ : ∃ b, b = (decide (2 ≤ k) && decide (k ≤ 5)) := ⟨_, rfl⟩
  obtain ⟨bv, hbv⟩ : ∃ b, b = decide (k = 1 ∨ k = 4 ∨ k = 6) := ⟨_, rfl⟩
  obtain ⟨bj, hbj⟩ : ∃ b, b = (decide (0 ≤ v) && decide (v ≤ 999999)) := ⟨_, rfl⟩
  obtain ⟨be, hbe⟩ : ∃ b, b = y.toList.isEmpty := ⟨_, rfl⟩
  have HNO : Hid (∀ wx, Calls Try.prog 61 #[.string o] wx fun e w' => e = .returned (.bool bo) ∧ w' = wx) := fun wx => by rw [hbo]; exact specNameOk_calls o ho wx
  have HNY : Hid (∀ wx, Calls Try.prog 61 #[.string y] wx fun e w' => e = .returned (.bool by') ∧ w' = wx) := fun wx => by rw [hby]; exact specNameOk_calls y hy wx
  have HI : Hid (∀ wx, Calls Try.prog 125 #[.int .i64 k, .int .i64 1, .int .i64 7] wx fun e w' => e = .returned (.bool bi) ∧ w' = wx) := fun wx => by rw [hbi]; exact in_calls k 1 7 wx
  have HJ : Hid (∀ wx, Calls Try.prog 125 #[.int .i64 v, .int .i64 0, .int .i64 999999] wx fun e w' => e = .returned (.bool bj) ∧ w' = wx) := fun wx => by rw [hbj]; exact in_calls v 0 999999 wx
  have HK : Hid (∀ wx, Calls Try.prog 175 #[.int .i64 k] wx fun e w' => e = .returned (.bool bk) ∧ w' = wx) := fun wx => by rw [hbk]; exact keyed_calls k wx
  have HV : Hid (∀ wx, Calls Try.prog 176 #[.int .i64 k] wx fun e w' => e = .returned (.bool bv) ∧ w' = wx) := fun wx => by rw [hbv]; exact valued_calls k wx
  obtain ⟨q, hq⟩ : ∃ q, q = decide (PlainOk k o y v) := ⟨_, rfl⟩
  rw [← hq]
  have HQ : Hid (q = (bi && bo && (if bk then by' else be) && (decide (v = 0) || bv && bj))) := by
    show _ = _
    have e1 : decide (KeyOk k y) = (if bk then by' else be) := by
      rw [hby, hbk, hbe, Bool.eq_iff_iff, decide_eq_true_iff]
      unfold KeyOk
      by_cases c : 2 ≤ k ∧ k ≤ 5
      · simp [c.1, c.2]
      · have : (decide (2 ≤ k) && decide (k ≤ 5)) = false := by simp; omega
        rw [if_neg c, this]
        simp
    have e2 : decide (ValOk k v) = (decide (v = 0) || bv && bj) := by
      rw [hbv, hbj, Bool.eq_iff_iff, decide_eq_true_iff]
      unfold ValOk
      by_cases c : k = 1 ∨ k = 4 ∨ k = 6
      · rw [if_pos c]; simp [c]; omega
      · rw [if_neg c]; simp [c]
    have e3 : decide (1 ≤ k ∧ k ≤ 7) = bi := by rw [hbi]; simp [Bool.decide_and]
    rw [hq, ← e1, ← e2, ← e3, hbo]
    rw [Bool.eq_iff_iff, decide_eq_true_iff]
    unfold PlainOk
    simp only [Bool.and_eq_true, decide_eq_true_iff, and_assoc]
  clear hq hbi hbo hby hbk hbv hbj ho hy
  cases bi
  case false =>
    clear hbe
    have HA : Hid (false = q) := by show _ = _; rw [HQ.out]; simp
    clear HQ
    go_enter Try.func126, Try.ntmps126
    go_wp2_with (first
      | (go_at_call 125; refine (HI.out _).mono ?_; clear HI; rintro e w1 ⟨rfl, rfl⟩)
      | (go_at_call 125; refine (HJ.out _).mono ?_; rintro e w1 ⟨rfl, rfl⟩)
      | (go_at_call 61; refine (HNO.out _).mono ?_; clear HNO; rintro e w1 ⟨rfl, rfl⟩)
      | (go_at_call 61; refine (HNY.out _).mono ?_; rintro e w1 ⟨rfl, rfl⟩)
      | (go_at_call 175; refine (HK.out _).mono ?_; rintro e w1 ⟨rfl, rfl⟩)
      | (go_at_call 176; refine (HV.out _).mono ?_; rintro e w1 ⟨rfl, rfl⟩))
    go_ret
    exact ⟨by rw [← HA.out]; rfl, rfl⟩
  case true =>
    cases bo
    case false =>
      clear hbe
      have HA : Hid (false = q) := by show _ = _; rw [HQ.out]; simp
      clear HQ
      go_enter Try.func126, Try.ntmps126
      go_wp2_with (first
        | (go_at_call 125; refine (HI.out _).mono ?_; clear HI; rintro e w1 ⟨rfl, rfl⟩)
        | (go_at_call 125; refine (HJ.out _).mono ?_; rintro e w1 ⟨rfl, rfl⟩)
        | (go_at_call 61; refine (HNO.out _).mono ?_; clear HNO; rintro e w1 ⟨rfl, rfl⟩)
        | (go_at_call 61; refine (HNY.out _).mono ?_; rintro e w1 ⟨rfl, rfl⟩)
        | (go_at_call 175; refine (HK.out _).mono ?_; rintro e w1 ⟨rfl, rfl⟩)
        | (go_at_call 176; refine (HV.out _).mono ?_; rintro e w1 ⟨rfl, rfl⟩))
      go_ret
      exact ⟨by rw [← HA.out]; rfl, rfl⟩
    case true =>
      cases bk
      case false =>
        cases be
        case false =>
          have hye := hbe.symm
          clear hbe
          have HA : Hid (false = q) := by show _ = _; rw [HQ.out]; simp
          clear HQ
          go_enter Try.func126, Try.ntmps126
          go_wp2_with (first
            | (go_at_call 125; refine (HI.out _).mono ?_; clear HI; rintro e w1 ⟨rfl, rfl⟩)
            | (go_at_call 125; refine (HJ.out _).mono ?_; rintro e w1 ⟨rfl, rfl⟩)
            | (go_at_call 61; refine (HNO.out _).mono ?_; clear HNO; rintro e w1 ⟨rfl, rfl⟩)
            | (go_at_call 61; refine (HNY.out _).mono ?_; rintro e w1 ⟨rfl, rfl⟩)
            | (go_at_call 175; refine (HK.out _).mono ?_; rintro e w1 ⟨rfl, rfl⟩)
            | (go_at_call 176; refine (HV.out _).mono ?_; rintro e w1 ⟨rfl, rfl⟩))
          go_ret
          exact ⟨by rw [← HA.out]; rfl, rfl⟩
        case true =>
          have hye := hbe.symm
          clear hbe
          by_cases h0 : v = 0
          case pos =>
            subst h0
            have HA : Hid (true = q) := by show _ = _; rw [HQ.out]; simp
            clear HQ
            go_enter Try.func126, Try.ntmps126
            go_wp2_with (first
              | (go_at_call 125; refine (HI.out _).mono ?_; clear HI; rintro e w1 ⟨rfl, rfl⟩)
              | (go_at_call 125; refine (HJ.out _).mono ?_; rintro e w1 ⟨rfl, rfl⟩)
              | (go_at_call 61; refine (HNO.out _).mono ?_; clear HNO; rintro e w1 ⟨rfl, rfl⟩)
              | (go_at_call 61; refine (HNY.out _).mono ?_; rintro e w1 ⟨rfl, rfl⟩)
              | (go_at_call 175; refine (HK.out _).mono ?_; rintro e w1 ⟨rfl, rfl⟩)
              | (go_at_call 176; refine (HV.out _).mono ?_; rintro e w1 ⟨rfl, rfl⟩))
            go_ret
            exact ⟨by rw [← HA.out]; rfl, rfl⟩
          have hv0 : (v == 0) = false := by simp [h0]
          cases bv
          case false =>
            have HA : Hid (false = q) := by show _ = _; rw [HQ.out]; simp [h0]
            clear HQ h0
            go_enter Try.func126, Try.ntmps126
            go_wp2_with (first
              | (go_at_call 125; refine (HI.out _).mono ?_; clear HI; rintro e w1 ⟨rfl, rfl⟩)
              | (go_at_call 125; refine (HJ.out _).mono ?_; rintro e w1 ⟨rfl, rfl⟩)
              | (go_at_call 61; refine (HNO.out _).mono ?_; clear HNO; rintro e w1 ⟨rfl, rfl⟩)
              | (go_at_call 61; refine (HNY.out _).mono ?_; rintro e w1 ⟨rfl, rfl⟩)
              | (go_at_call 175; refine (HK.out _).mono ?_; rintro e w1 ⟨rfl, rfl⟩)
              | (go_at_call 176; refine (HV.out _).mono ?_; rintro e w1 ⟨rfl, rfl⟩))
            go_ret
            exact ⟨by rw [← HA.out]; rfl, rfl⟩
          case true =>
            have HA : Hid (bj = q) := by show _ = _; rw [HQ.out]; simp [h0]
            clear HQ h0
            go_enter Try.func126, Try.ntmps126
            go_wp2_with (first
              | (go_at_call 125; refine (HI.out _).mono ?_; clear HI; rintro e w1 ⟨rfl, rfl⟩)
              | (go_at_call 125; refine (HJ.out _).mono ?_; rintro e w1 ⟨rfl, rfl⟩)
              | (go_at_call 61; refine (HNO.out _).mono ?_; clear HNO; rintro e w1 ⟨rfl, rfl⟩)
              | (go_at_call 61; refine (HNY.out _).mono ?_; rintro e w1 ⟨rfl, rfl⟩)
              | (go_at_call 175; refine (HK.out _).mono ?_; rintro e w1 ⟨rfl, rfl⟩)
              | (go_at_call 176; refine (HV.out _).mono ?_; rintro e w1 ⟨rfl, rfl⟩))
            go_ret
            exact ⟨by rw [← HA.out]; rfl, rfl⟩
      case true =>
        clear hbe
        cases by'
        case false =>
          have HA : Hid (false = q) := by show _ = _; rw [HQ.out]; simp
          clear HQ
          go_enter Try.func126, Try.ntmps126
          go_wp2_with (first
            | (go_at_call 125; refine (HI.out _).mono ?_; clear HI; rintro e w1 ⟨rfl, rfl⟩)
            | (go_at_call 125; refine (HJ.out _).mono ?_; rintro e w1 ⟨rfl, rfl⟩)
            | (go_at_call 61; refine (HNO.out _).mono ?_; clear HNO; rintro e w1 ⟨rfl, rfl⟩)
            | (go_at_call 61; refine (HNY.out _).mono ?_; rintro e w1 ⟨rfl, rfl⟩)
            | (go_at_call 175; refine (HK.out _).mono ?_; rintro e w1 ⟨rfl, rfl⟩)
            | (go_at_call 176; refine (HV.out _).mono ?_; rintro e w1 ⟨rfl, rfl⟩))
          go_ret
          exact ⟨by rw [← HA.out]; rfl, rfl⟩
        case true =>
          by_cases h0 : v = 0
          case pos =>
            subst h0
            have HA : Hid (true = q) := by show _ = _; rw [HQ.out]; simp
            clear HQ
            go_enter Try.func126, Try.ntmps126
            go_wp2_with (first
              | (go_at_call 125; refine (HI.out _).mono ?_; clear HI; rintro e w1 ⟨rfl, rfl⟩)
              | (go_at_call 125; refine (HJ.out _).mono ?_; rintro e w1 ⟨rfl, rfl⟩)
              | (go_at_call 61; refine (HNO.out _).mono ?_; clear HNO; rintro e w1 ⟨rfl, rfl⟩)
              | (go_at_call 61; refine (HNY.out _).mono ?_; rintro e w1 ⟨rfl, rfl⟩)
              | (go_at_call 175; refine (HK.out _).mono ?_; rintro e w1 ⟨rfl, rfl⟩)
              | (go_at_call 176; refine (HV.out _).mono ?_; rintro e w1 ⟨rfl, rfl⟩))
            go_ret
            exact ⟨by rw [← HA.out]; rfl, rfl⟩
          have hv0 : (v == 0) = false := by simp [h0]
          cases bv
          case false =>
            have HA : Hid (false = q) := by show _ = _; rw [HQ.out]; simp [h0]
            clear HQ h0
            go_enter Try.func126, Try.ntmps126
            go_wp2_with (first
              | (go_at_call 125; refine (HI.out _).mono ?_; clear HI; rintro e w1 ⟨rfl, rfl⟩)
              | (go_at_call 125; refine (HJ.out _).mono ?_; rintro e w1 ⟨rfl, rfl⟩)
              | (go_at_call 61; refine (HNO.out _).mono ?_; clear HNO; rintro e w1 ⟨rfl, rfl⟩)
              | (go_at_call 61; refine (HNY.out _).mono ?_; rintro e w1 ⟨rfl, rfl⟩)
              | (go_at_call 175; refine (HK.out _).mono ?_; rintro e w1 ⟨rfl, rfl⟩)
              | (go_at_call 176; refine (HV.out _).mono ?_; rintro e w1 ⟨rfl, rfl⟩))
            go_ret
            exact ⟨by rw [← HA.out]; rfl, rfl⟩
          case true =>
            have HA : Hid (bj = q) := by show _ = _; rw [HQ.out]; simp [h0]
            clear HQ h0
            go_enter Try.func126, Try.ntmps126
            go_wp2_with (first
              | (go_at_call 125; refine (HI.out _).mono ?_; clear HI; rintro e w1 ⟨rfl, rfl⟩)
              | (go_at_call 125; refine (HJ.out _).mono ?_; rintro e w1 ⟨rfl, rfl⟩)
              | (go_at_call 61; refine (HNO.out _).mono ?_; clear HNO; rintro e w1 ⟨rfl, rfl⟩)
              | (go_at_call 61; refine (HNY.out _).mono ?_; rintro e w1 ⟨rfl, rfl⟩)
              | (go_at_call 175; refine (HK.out _).mono ?_; rintro e w1 ⟨rfl, rfl⟩)
              | (go_at_call 176; refine (HV.out _).mono ?_; rintro e w1 ⟨rfl, rfl⟩))
            go_ret
            exact ⟨by rw [← HA.out]; rfl, rfl⟩

end Go.Proofs.Ytahdgagipmpcgaa
