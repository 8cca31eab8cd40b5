/- Which fields each kind of act takes, as both tell it. -/
import Derived.Test.YtajihpcihlbjgaaASam2
import Derived.Test.YtajihpcihlbjgaaKKnows
import Derived.Test.YtajihpcihlbjgaaKSpec2
namespace Go.Proofs.Ytajihpcihlbjgaa
set_option maxRecDepth 100000
set_option linter.unusedVariables false
open Go.RowKit

def KeyOk (k : Int) (y : ByteArray) : Prop := if 2 ≤ k ∧ k ≤ 5 then NOk y else y.toList.isEmpty = true
instance (k : Int) (y : ByteArray) : Decidable (KeyOk k y) := by unfold KeyOk; infer_instance
def ValOk (k v : Int) : Prop := if k = 1 ∨ k = 4 ∨ k = 6 then 0 ≤ v ∧ v ≤ 999999 else v = 0
instance (k v : Int) : Decidable (ValOk k v) := by unfold ValOk; infer_instance
def RefOk (l : List Int) (k x z : Int) : Prop := if k = 7 then knows l x z = true else if k = 6 then (x = 0 ∧ z = 0) ∨ knows l x z = true else x = 0 ∧ z = 0
instance (l : List Int) (k x z : Int) : Decidable (RefOk l k x z) := by unfold RefOk; infer_instance
def PlainOk (k : Int) (o y : ByteArray) (v : Int) : Prop := (1 ≤ k ∧ k ≤ 7) ∧ NOk o ∧ KeyOk k y ∧ ValOk k v
instance (k : Int) (o y : ByteArray) (v : Int) : Decidable (PlainOk k o y v) := by unfold PlainOk; infer_instance

theorem keyed_calls (k : Int) (w : World) : Calls Try.prog 63 #[.int .i64 k] w fun e w' => e = .returned (.bool (decide (2 ≤ k) && decide (k ≤ 5))) ∧ w' = w := by
  go_enter Try.func63, Try.ntmps63
  go_wp2_with (go_at_call 61; refine (in_calls _ _ _ _).mono ?_; rintro e w1 ⟨rfl, rfl⟩)
  go_ret
  exact ⟨rfl, rfl⟩

theorem valued_calls (k : Int) (w : World) : Calls Try.prog 64 #[.int .i64 k] w fun e w' => e = .returned (.bool (decide (k = 1 ∨ k = 4 ∨ k = 6))) ∧ w' = w := by
  by_cases h1 : k = 1
  · subst h1
    go_enter Try.func64, Try.ntmps64
    go_wp2
    go_ret
    exact ⟨rfl, rfl⟩
  by_cases h4 : k = 4
  · subst h4
    go_enter Try.func64, Try.ntmps64
    go_wp2
    go_ret
    exact ⟨rfl, rfl⟩
  by_cases h6 : k = 6
  · subst h6
    go_enter Try.func64, Try.ntmps64
    go_wp2
    go_ret
    exact ⟨rfl, rfl⟩
  · have e : decide (k = 1 ∨ k = 4 ∨ k = 6) = false := by simp [h1, h4, h6]
    rw [e]
    have HE : Hid ((k == 1 || k == 4 || k == 6) = false) := by show _ = _; simp [h1, h4, h6]
    go_enter Try.func64, Try.ntmps64
    go_wp2
    go_ret
    exact ⟨by show Ending.returned (.bool (k == 1 || k == 4 || k == 6)) = _; rw [HE.out], rfl⟩

theorem right_calls (k : Int) (w : World) : Calls Try.prog 28 #[.int .i64 k] w fun e w' => e = .returned (.bool (decide (1 ≤ k ∧ k ≤ 7))) ∧ w' = w := by
  by_cases h1 : 1 ≤ k
  · have e : decide (1 ≤ k ∧ k ≤ 7) = decide (k ≤ 7) := by simp [h1]
    rw [e]
    go_enter Try.func28, Try.ntmps28
    go_wp2
    go_ret
    exact ⟨rfl, rfl⟩
  · have e : decide (1 ≤ k ∧ k ≤ 7) = false := by simp; omega
    rw [e]
    go_enter Try.func28, Try.ntmps28
    go_wp2
    go_ret
    exact ⟨rfl, rfl⟩

theorem takesKey_calls (k : Int) (y : ByteArray) (hy : y.size ≤ maxLen) (w : World) : Calls Try.prog 30 #[.int .i64 k, .string y] w fun e w' => e = .returned (.bool (decide (KeyOk k y))) ∧ w' = w := by
  obtain ⟨b, hb⟩ : ∃ b, b = decide (NOk y) := ⟨_, rfl⟩
  have HN : Hid (∀ wx, Calls Try.prog 29 #[.string y] wx fun e w' => e = .returned (.bool b) ∧ w' = wx) := fun wx => by rw [hb]; exact implNameOk_calls y hy wx
  have HB : Hid (b = decide (NOk y)) := hb
  clear hb hy
  by_cases h2 : k = 2
  · subst h2
    have e : decide (KeyOk 2 y) = decide (NOk y) := by unfold KeyOk; simp
    rw [e, ← HB.out]
    clear HB e
    go_enter Try.func30, Try.ntmps30
    go_wp2_with (go_at_call 29; refine (HN.out _).mono ?_; rintro e w1 ⟨rfl, rfl⟩)
    go_ret
    exact ⟨rfl, rfl⟩
  by_cases h3 : k = 3
  · subst h3
    have e : decide (KeyOk 3 y) = decide (NOk y) := by unfold KeyOk; simp
    rw [e, ← HB.out]
    clear HB e
    go_enter Try.func30, Try.ntmps30
    go_wp2_with (go_at_call 29; refine (HN.out _).mono ?_; rintro e w1 ⟨rfl, rfl⟩)
    go_ret
    exact ⟨rfl, rfl⟩
  by_cases h4 : k = 4
  · subst h4
    have e : decide (KeyOk 4 y) = decide (NOk y) := by unfold KeyOk; simp
    rw [e, ← HB.out]
    clear HB e
    go_enter Try.func30, Try.ntmps30
    go_wp2_with (go_at_call 29; refine (HN.out _).mono ?_; rintro e w1 ⟨rfl, rfl⟩)
    go_ret
    exact ⟨rfl, rfl⟩
  by_cases h5 : k = 5
  · subst h5
    have e : decide (KeyOk 5 y) = decide (NOk y) := by unfold KeyOk; simp
    rw [e, ← HB.out]
    clear HB e
    go_enter Try.func30, Try.ntmps30
    go_wp2_with (go_at_call 29; refine (HN.out _).mono ?_; rintro e w1 ⟨rfl, rfl⟩)
    go_ret
    exact ⟨rfl, rfl⟩
  have e : decide (KeyOk k y) = y.toList.isEmpty := by rw [Bool.eq_iff_iff, decide_eq_true_iff]; unfold KeyOk; rw [if_neg (by omega)]
  rw [e]
  clear HB HN e
  go_enter Try.func30, Try.ntmps30
  go_wp2
  go_ret
  exact ⟨rfl, rfl⟩

theorem valOk_calls (v : Int) (w : World) : Calls Try.prog 65 #[.int .i64 v] w fun e w' => e = .returned (.bool (decide (0 ≤ v ∧ v ≤ 999999))) ∧ w' = w := by
  by_cases h0 : 0 ≤ v
  · have e : decide (0 ≤ v ∧ v ≤ 999999) = decide (v ≤ 999999) := by simp [h0]
    rw [e]
    clear e
    go_enter Try.func65, Try.ntmps65
    go_wp2
    go_ret
    exact ⟨rfl, rfl⟩
  · have e : decide (0 ≤ v ∧ v ≤ 999999) = false := by simp [h0]
    rw [e]
    clear e
    go_enter Try.func65, Try.ntmps65
    go_wp2
    go_ret
    exact ⟨rfl, rfl⟩

theorem timeOk_calls (t : Int) (w : World) : Calls Try.prog 122 #[.int .i64 t] w fun e w' => e = .returned (.bool (decide (1 ≤ t ∧ t ≤ 10000))) ∧ w' = w := by
  by_cases h0 : 1 ≤ t
  · have e : decide (1 ≤ t ∧ t ≤ 10000) = decide (t ≤ 10000) := by simp [h0]
    rw [e]
    clear e
    go_enter Try.func122, Try.ntmps122
    go_wp2
    go_ret
    exact ⟨rfl, rfl⟩
  · have e : decide (1 ≤ t ∧ t ≤ 10000) = false := by simp [h0]
    rw [e]
    clear e
    go_enter Try.func122, Try.ntmps122
    go_wp2
    go_ret
    exact ⟨rfl, rfl⟩

theorem takesVal_calls (k v : Int) (w : World) : Calls Try.prog 31 #[.int .i64 k, .int .i64 v] w fun e w' => e = .returned (.bool (decide (ValOk k v))) ∧ w' = w := by
  have HV : Hid (∀ wx, Calls Try.prog 65 #[.int .i64 v] wx fun e w' => e = .returned (.bool (decide (0 ≤ v ∧ v ≤ 999999))) ∧ w' = wx) := fun wx => valOk_calls v wx
  by_cases h1 : k = 1
  · subst h1
    have e : decide (ValOk 1 v) = decide (0 ≤ v ∧ v ≤ 999999) := by unfold ValOk; simp
    rw [e]
    clear e
    generalize decide (0 ≤ v ∧ v ≤ 999999) = q at *
    go_enter Try.func31, Try.ntmps31
    go_wp2_with (go_at_call 65; refine (HV.out _).mono ?_; rintro e w1 ⟨rfl, rfl⟩)
    go_ret
    exact ⟨rfl, rfl⟩
  by_cases h4 : k = 4
  · subst h4
    have e : decide (ValOk 4 v) = decide (0 ≤ v ∧ v ≤ 999999) := by unfold ValOk; simp
    rw [e]
    clear e
    generalize decide (0 ≤ v ∧ v ≤ 999999) = q at *
    go_enter Try.func31, Try.ntmps31
    go_wp2_with (go_at_call 65; refine (HV.out _).mono ?_; rintro e w1 ⟨rfl, rfl⟩)
    go_ret
    exact ⟨rfl, rfl⟩
  by_cases h6 : k = 6
  · subst h6
    have e : decide (ValOk 6 v) = decide (0 ≤ v ∧ v ≤ 999999) := by unfold ValOk; simp
    rw [e]
    clear e
    generalize decide (0 ≤ v ∧ v ≤ 999999) = q at *
    go_enter Try.func31, Try.ntmps31
    go_wp2_with (go_at_call 65; refine (HV.out _).mono ?_; rintro e w1 ⟨rfl, rfl⟩)
    go_ret
    exact ⟨rfl, rfl⟩
  have e : decide (ValOk k v) = (v == 0) := by
    rw [Bool.eq_iff_iff, decide_eq_true_iff]
    unfold ValOk
    rw [if_neg (by omega)]
    simp
  rw [e]
  clear e HV
  go_enter Try.func31, Try.ntmps31
  go_wp2
  go_ret
  exact ⟨rfl, rfl⟩

theorem eqDot_zero (a b : Int) (wx : World) : (Op.equalIn 10000 40 (.agg #[.int .i64 a, .int .i64 b]) (.agg #[.int .i64 0, .int .i64 0])).run Try.prog wx = .ok (decide (a = 0 ∧ b = 0)) wx := by
  rw [eq_dot_run]
  have : (decide (a = 0) && decide (b = 0)) = decide (a = 0 ∧ b = 0) := by by_cases h1 : a = 0 <;> by_cases h2 : b = 0 <;> simp [h1, h2]
  rw [this]
theorem str_empty {y : ByteArray} (h : y.toList.isEmpty = true) : y = ByteArray.empty := by
  rw [ByteArray.toList_eq] at h
  have : y.data.toList = [] := by simpa using h
  exact ByteArray.ext (Array.ext' (by simpa using this))
set_option maxHeartbeats 16000000 in
theorem specPlain_calls (k : Int) (o y : ByteArray) (v : Int) (ho : o.size ≤ maxLen) (hy : y.size ≤ maxLen) (w : World) :
    Calls Try.prog 27 #[.int .i64 k, .string o, .string y, .int .i64 v] w fun e w' => e = .returned (.bool (decide (PlainOk k o y v))) ∧ w' = w := by
  obtain ⟨bo, hbo⟩ : ∃ b, b = decide (NOk o) := ⟨_, rfl⟩
  obtain ⟨by', hby⟩ : ∃ b, b = decide (NOk y) := ⟨_, rfl⟩
  obtain ⟨bi, hbi⟩ : ∃ b, b = (decide (1 ≤ k) && decide (k ≤ 7)) := ⟨_, rfl⟩
  obtain ⟨bk, hbk⟩ : ∃ b, b = (decide (2 ≤ k) && decide (k ≤ 5)) := ⟨_, rfl⟩
  obtain ⟨bv, hbv⟩ : ∃ b, b = decide (k = 1 ∨ k = 4 ∨ k = 6) := ⟨_, rfl⟩
  obtain ⟨bj, hbj⟩ : ∃ b, b = (decide (0 ≤ v) && decide (v ≤ 999999)) := ⟨_, rfl⟩
  obtain ⟨be, hbe⟩ : ∃ b, b = y.toList.isEmpty := ⟨_, rfl⟩
  have HNO : Hid (∀ wx, Calls Try.prog 62 #[.string o] wx fun e w' => e = .returned (.bool bo) ∧ w' = wx) := fun wx => by rw [hbo]; exact specNameOk_calls o ho wx
  have HNY : Hid (∀ wx, Calls Try.prog 62 #[.string y] wx fun e w' => e = .returned (.bool by') ∧ w' = wx) := fun wx => by rw [hby]; exact specNameOk_calls y hy wx
  have HI : Hid (∀ wx, Calls Try.prog 61 #[.int .i64 k, .int .i64 1, .int .i64 7] wx fun e w' => e = .returned (.bool bi) ∧ w' = wx) := fun wx => by rw [hbi]; exact in_calls k 1 7 wx
  have HJ : Hid (∀ wx, Calls Try.prog 61 #[.int .i64 v, .int .i64 0, .int .i64 999999] wx fun e w' => e = .returned (.bool bj) ∧ w' = wx) := fun wx => by rw [hbj]; exact in_calls v 0 999999 wx
  have HK : Hid (∀ wx, Calls Try.prog 63 #[.int .i64 k] wx fun e w' => e = .returned (.bool bk) ∧ w' = wx) := fun wx => by rw [hbk]; exact keyed_calls k wx
  have HV : Hid (∀ wx, Calls Try.prog 64 #[.int .i64 k] wx fun e w' => e = .returned (.bool bv) ∧ w' = wx) := fun wx => by rw [hbv]; exact valued_calls k wx
  obtain ⟨q, hq⟩ : ∃ q, q = decide (PlainOk k o y v) := ⟨_, rfl⟩
  rw [← hq]
  have HQ : Hid (q = (bi && bo && (if bk then by' else be) && (decide (v = 0) || bv && bj))) := by
    show _ = _
    have e1 : decide (KeyOk k y) = (if bk then by' else be) := by
      rw [hby, hbk, hbe, Bool.eq_iff_iff, decide_eq_true_iff]
      unfold KeyOk
      by_cases c : 2 ≤ k ∧ k ≤ 5
      · simp [c.1, c.2]
      · have : (decide (2 ≤ k) && decide (k ≤ 5)) = false := by simp; omega
        rw [if_neg c, this]
        simp
    have e2 : decide (ValOk k v) = (decide (v = 0) || bv && bj) := by
      rw [hbv, hbj, Bool.eq_iff_iff, decide_eq_true_iff]
      unfold ValOk
      by_cases c : k = 1 ∨ k = 4 ∨ k = 6
      · rw [if_pos c]; simp [c]; omega
      · rw [if_neg c]; simp [c]
    have e3 : decide (1 ≤ k ∧ k ≤ 7) = bi := by rw [hbi]; simp [Bool.decide_and]
    rw [hq, ← e1, ← e2, ← e3, hbo]
    rw [Bool.eq_iff_iff, decide_eq_true_iff]
    unfold PlainOk
    simp only [Bool.and_eq_true, decide_eq_true_iff, and_assoc]
  clear hq hbi hbo hby hbk hbv hbj ho hy
  cases bi
  case false =>
    clear hbe
    have HA : Hid (false = q) := by show _ = _; rw [HQ.out]; simp
    clear HQ
    go_enter Try.func27, Try.ntmps27
    go_wp2_with (first
      | (go_at_call 61; refine (HI.out _).mono ?_; clear HI; rintro e w1 ⟨rfl, rfl⟩)
      | (go_at_call 61; refine (HJ.out _).mono ?_; rintro e w1 ⟨rfl, rfl⟩)
      | (go_at_call 62; refine (HNO.out _).mono ?_; clear HNO; rintro e w1 ⟨rfl, rfl⟩)
      | (go_at_call 62; refine (HNY.out _).mono ?_; rintro e w1 ⟨rfl, rfl⟩)
      | (go_at_call 63; refine (HK.out _).mono ?_; rintro e w1 ⟨rfl, rfl⟩)
      | (go_at_call 64; refine (HV.out _).mono ?_; rintro e w1 ⟨rfl, rfl⟩))
    go_ret
    exact ⟨by rw [← HA.out]; rfl, rfl⟩
  case true =>
    cases bo
    case false =>
      clear hbe
      have HA : Hid (false = q) := by show _ = _; rw [HQ.out]; simp
      clear HQ
      go_enter Try.func27, Try.ntmps27
      go_wp2_with (first
        | (go_at_call 61; refine (HI.out _).mono ?_; clear HI; rintro e w1 ⟨rfl, rfl⟩)
        | (go_at_call 61; refine (HJ.out _).mono ?_; rintro e w1 ⟨rfl, rfl⟩)
        | (go_at_call 62; refine (HNO.out _).mono ?_; clear HNO; rintro e w1 ⟨rfl, rfl⟩)
        | (go_at_call 62; refine (HNY.out _).mono ?_; rintro e w1 ⟨rfl, rfl⟩)
        | (go_at_call 63; refine (HK.out _).mono ?_; rintro e w1 ⟨rfl, rfl⟩)
        | (go_at_call 64; refine (HV.out _).mono ?_; rintro e w1 ⟨rfl, rfl⟩))
      go_ret
      exact ⟨by rw [← HA.out]; rfl, rfl⟩
    case true =>
      cases bk
      case false =>
        cases be
        case false =>
          have hye := hbe.symm
          clear hbe
          have HA : Hid (false = q) := by show _ = _; rw [HQ.out]; simp
          clear HQ
          go_enter Try.func27, Try.ntmps27
          go_wp2_with (first
            | (go_at_call 61; refine (HI.out _).mono ?_; clear HI; rintro e w1 ⟨rfl, rfl⟩)
            | (go_at_call 61; refine (HJ.out _).mono ?_; rintro e w1 ⟨rfl, rfl⟩)
            | (go_at_call 62; refine (HNO.out _).mono ?_; clear HNO; rintro e w1 ⟨rfl, rfl⟩)
            | (go_at_call 62; refine (HNY.out _).mono ?_; rintro e w1 ⟨rfl, rfl⟩)
            | (go_at_call 63; refine (HK.out _).mono ?_; rintro e w1 ⟨rfl, rfl⟩)
            | (go_at_call 64; refine (HV.out _).mono ?_; rintro e w1 ⟨rfl, rfl⟩))
          go_ret
          exact ⟨by rw [← HA.out]; rfl, rfl⟩
        case true =>
          have hye := hbe.symm
          clear hbe
          by_cases h0 : v = 0
          case pos =>
            subst h0
            have HA : Hid (true = q) := by show _ = _; rw [HQ.out]; simp
            clear HQ
            go_enter Try.func27, Try.ntmps27
            go_wp2_with (first
              | (go_at_call 61; refine (HI.out _).mono ?_; clear HI; rintro e w1 ⟨rfl, rfl⟩)
              | (go_at_call 61; refine (HJ.out _).mono ?_; rintro e w1 ⟨rfl, rfl⟩)
              | (go_at_call 62; refine (HNO.out _).mono ?_; clear HNO; rintro e w1 ⟨rfl, rfl⟩)
              | (go_at_call 62; refine (HNY.out _).mono ?_; rintro e w1 ⟨rfl, rfl⟩)
              | (go_at_call 63; refine (HK.out _).mono ?_; rintro e w1 ⟨rfl, rfl⟩)
              | (go_at_call 64; refine (HV.out _).mono ?_; rintro e w1 ⟨rfl, rfl⟩))
            go_ret
            exact ⟨by rw [← HA.out]; rfl, rfl⟩
          have hv0 : (v == 0) = false := by simp [h0]
          cases bv
          case false =>
            have HA : Hid (false = q) := by show _ = _; rw [HQ.out]; simp [h0]
            clear HQ h0
            go_enter Try.func27, Try.ntmps27
            go_wp2_with (first
              | (go_at_call 61; refine (HI.out _).mono ?_; clear HI; rintro e w1 ⟨rfl, rfl⟩)
              | (go_at_call 61; refine (HJ.out _).mono ?_; rintro e w1 ⟨rfl, rfl⟩)
              | (go_at_call 62; refine (HNO.out _).mono ?_; clear HNO; rintro e w1 ⟨rfl, rfl⟩)
              | (go_at_call 62; refine (HNY.out _).mono ?_; rintro e w1 ⟨rfl, rfl⟩)
              | (go_at_call 63; refine (HK.out _).mono ?_; rintro e w1 ⟨rfl, rfl⟩)
              | (go_at_call 64; refine (HV.out _).mono ?_; rintro e w1 ⟨rfl, rfl⟩))
            go_ret
            exact ⟨by rw [← HA.out]; rfl, rfl⟩
          case true =>
            have HA : Hid (bj = q) := by show _ = _; rw [HQ.out]; simp [h0]
            clear HQ h0
            go_enter Try.func27, Try.ntmps27
            go_wp2_with (first
              | (go_at_call 61; refine (HI.out _).mono ?_; clear HI; rintro e w1 ⟨rfl, rfl⟩)
              | (go_at_call 61; refine (HJ.out _).mono ?_; rintro e w1 ⟨rfl, rfl⟩)
              | (go_at_call 62; refine (HNO.out _).mono ?_; clear HNO; rintro e w1 ⟨rfl, rfl⟩)
              | (go_at_call 62; refine (HNY.out _).mono ?_; rintro e w1 ⟨rfl, rfl⟩)
              | (go_at_call 63; refine (HK.out _).mono ?_; rintro e w1 ⟨rfl, rfl⟩)
              | (go_at_call 64; refine (HV.out _).mono ?_; rintro e w1 ⟨rfl, rfl⟩))
            go_ret
            exact ⟨by rw [← HA.out]; rfl, rfl⟩
      case true =>
        clear hbe
        cases by'
        case false =>
          have HA : Hid (false = q) := by show _ = _; rw [HQ.out]; simp
          clear HQ
          go_enter Try.func27, Try.ntmps27
          go_wp2_with (first
            | (go_at_call 61; refine (HI.out _).mono ?_; clear HI; rintro e w1 ⟨rfl, rfl⟩)
            | (go_at_call 61; refine (HJ.out _).mono ?_; rintro e w1 ⟨rfl, rfl⟩)
            | (go_at_call 62; refine (HNO.out _).mono ?_; clear HNO; rintro e w1 ⟨rfl, rfl⟩)
            | (go_at_call 62; refine (HNY.out _).mono ?_; rintro e w1 ⟨rfl, rfl⟩)
            | (go_at_call 63; refine (HK.out _).mono ?_; rintro e w1 ⟨rfl, rfl⟩)
            | (go_at_call 64; refine (HV.out _).mono ?_; rintro e w1 ⟨rfl, rfl⟩))
          go_ret
          exact ⟨by rw [← HA.out]; rfl, rfl⟩
        case true =>
          by_cases h0 : v = 0
          case pos =>
            subst h0
            have HA : Hid (true = q) := by show _ = _; rw [HQ.out]; simp
            clear HQ
            go_enter Try.func27, Try.ntmps27
            go_wp2_with (first
              | (go_at_call 61; refine (HI.out _).mono ?_; clear HI; rintro e w1 ⟨rfl, rfl⟩)
              | (go_at_call 61; refine (HJ.out _).mono ?_; rintro e w1 ⟨rfl, rfl⟩)
              | (go_at_call 62; refine (HNO.out _).mono ?_; clear HNO; rintro e w1 ⟨rfl, rfl⟩)
              | (go_at_call 62; refine (HNY.out _).mono ?_; rintro e w1 ⟨rfl, rfl⟩)
              | (go_at_call 63; refine (HK.out _).mono ?_; rintro e w1 ⟨rfl, rfl⟩)
              | (go_at_call 64; refine (HV.out _).mono ?_; rintro e w1 ⟨rfl, rfl⟩))
            go_ret
            exact ⟨by rw [← HA.out]; rfl, rfl⟩
          have hv0 : (v == 0) = false := by simp [h0]
          cases bv
          case false =>
            have HA : Hid (false = q) := by show _ = _; rw [HQ.out]; simp [h0]
            clear HQ h0
            go_enter Try.func27, Try.ntmps27
            go_wp2_with (first
              | (go_at_call 61; refine (HI.out _).mono ?_; clear HI; rintro e w1 ⟨rfl, rfl⟩)
              | (go_at_call 61; refine (HJ.out _).mono ?_; rintro e w1 ⟨rfl, rfl⟩)
              | (go_at_call 62; refine (HNO.out _).mono ?_; clear HNO; rintro e w1 ⟨rfl, rfl⟩)
              | (go_at_call 62; refine (HNY.out _).mono ?_; rintro e w1 ⟨rfl, rfl⟩)
              | (go_at_call 63; refine (HK.out _).mono ?_; rintro e w1 ⟨rfl, rfl⟩)
              | (go_at_call 64; refine (HV.out _).mono ?_; rintro e w1 ⟨rfl, rfl⟩))
            go_ret
            exact ⟨by rw [← HA.out]; rfl, rfl⟩
          case true =>
            have HA : Hid (bj = q) := by show _ = _; rw [HQ.out]; simp [h0]
            clear HQ h0
            go_enter Try.func27, Try.ntmps27
            go_wp2_with (first
              | (go_at_call 61; refine (HI.out _).mono ?_; clear HI; rintro e w1 ⟨rfl, rfl⟩)
              | (go_at_call 61; refine (HJ.out _).mono ?_; rintro e w1 ⟨rfl, rfl⟩)
              | (go_at_call 62; refine (HNO.out _).mono ?_; clear HNO; rintro e w1 ⟨rfl, rfl⟩)
              | (go_at_call 62; refine (HNY.out _).mono ?_; rintro e w1 ⟨rfl, rfl⟩)
              | (go_at_call 63; refine (HK.out _).mono ?_; rintro e w1 ⟨rfl, rfl⟩)
              | (go_at_call 64; refine (HV.out _).mono ?_; rintro e w1 ⟨rfl, rfl⟩))
            go_ret
            exact ⟨by rw [← HA.out]; rfl, rfl⟩

end Go.Proofs.Ytajihpcihlbjgaa
