/- Right edits, as the program tells them; the law on them. -/
import Derived.Test.YtajihpcihlbjgaaNEdit
import Derived.Test.YtajihpcihlbjgaaALaw2
import Derived.Lib.SmallJoins
namespace Go.Proofs.Ytajihpcihlbjgaa
set_option maxRecDepth 100000
set_option linter.unusedVariables false
open Go.ChangeShapes Go.WideShapes Go.RowKit

def PlcOk (k p : Int) : Prop := if k = 6 ∨ k = 7 then 0 ≤ p else p = 0
instance (k p : Int) : Decidable (PlcOk k p) := by unfold PlcOk; infer_instance
theorem eok_iff (k : Int) (o y : ByteArray) (v p : Int) : EOk k o y v p ↔ (1 ≤ k ∧ k ≤ 7) ∧ NOk o ∧ KeyOk k y ∧ ValOk k v ∧ PlcOk k p := by
  unfold EOk PlainOk PlcOk
  by_cases h : k = 6 ∨ k = 7
  · rw [if_pos h]
    exact ⟨fun ⟨⟨a, b, c, d⟩, e, _⟩ => ⟨a, b, c, d, e⟩, fun ⟨a, b, c, d, e⟩ => ⟨⟨a, b, c, d⟩, e, h.elim .inl (fun h => .inr (.inl h))⟩⟩
  · rw [if_neg h]
    exact ⟨fun ⟨⟨a, b, c, d⟩, e, f⟩ => ⟨a, b, c, d, by omega⟩, fun ⟨a, b, c, d, e⟩ => ⟨⟨a, b, c, d⟩, by omega, by omega⟩⟩
theorem takesPlace_calls (k p : Int) (w : World) : Calls Try.prog 32 #[.int .i64 k, .int .i64 p] w fun e w' => e = .returned (.bool (decide (PlcOk k p))) ∧ w' = w := by
  by_cases h6 : k = 6
  · subst h6
    have e : decide (PlcOk 6 p) = decide (0 ≤ p) := by unfold PlcOk; simp
    rw [e]
    clear e
    go_enter Try.func32, Try.ntmps32
    go_wp2
    go_ret
    exact ⟨rfl, rfl⟩
  by_cases h7 : k = 7
  · subst h7
    have e : decide (PlcOk 7 p) = decide (0 ≤ p) := by unfold PlcOk; simp
    rw [e]
    clear e
    go_enter Try.func32, Try.ntmps32
    go_wp2
    go_ret
    exact ⟨rfl, rfl⟩
  have e : decide (PlcOk k p) = (p == 0) := by
    rw [Bool.eq_iff_iff, decide_eq_true_iff]
    unfold PlcOk
    rw [if_neg (by omega)]
    simp
  rw [e]
  clear e
  go_enter Try.func32, Try.ntmps32
  go_wp2
  go_ret
  exact ⟨rfl, rfl⟩

set_option maxHeartbeats 4000000 in
theorem implEditOk_calls (k : Int) (o y : ByteArray) (v p : Int) (w : World) (ho : o.size ≤ 1048576) (hy : y.size ≤ 1048576) :
    Calls Try.prog 8 #[.agg #[.int .i64 k, .string o, .string y, .int .i64 v, .int .i64 p]] w fun e w' => Tells e (EOk k o y v p) ∧ Below w.heap.size w w' := by
  obtain ⟨W, hW⟩ : ∃ W, W = w.alloc (.cells #[.int .i64 k, .string o, .string y, .int .i64 v, .int .i64 p] 26) := ⟨_, rfl⟩
  have hR : Row W w.heap.size #[.int .i64 k, .string o, .string y, .int .i64 v, .int .i64 p] 26 := by rw [hW]; exact row_new w _ _ rfl
  have HB : Hid (Below w.heap.size w W) := by rw [hW]; exact (Below.refl _ _).alloc (Nat.le_refl _) _
  have HW : Hid (w.alloc (.cells #[.int .i64 k, .string o, .string y, .int .i64 v, .int .i64 p] 26) = W) := hW.symm
  have HRC : Hid (∀ wx, Calls Try.prog 28 #[.int .i64 k] wx fun e w' => e = .returned (.bool (decide (1 ≤ k ∧ k ≤ 7))) ∧ w' = wx) := fun wx => right_calls k wx
  have HNC : Hid (∀ wx, Calls Try.prog 29 #[.string o] wx fun e w' => e = .returned (.bool (decide (NOk o))) ∧ w' = wx) := fun wx => implNameOk_calls o (by unfold maxLen; omega) wx
  have HYC : Hid (∀ wx, Calls Try.prog 30 #[.int .i64 k, .string y] wx fun e w' => e = .returned (.bool (decide (KeyOk k y))) ∧ w' = wx) := fun wx => takesKey_calls k y (by unfold maxLen; omega) wx
  have HVC : Hid (∀ wx, Calls Try.prog 31 #[.int .i64 k, .int .i64 v] wx fun e w' => e = .returned (.bool (decide (ValOk k v))) ∧ w' = wx) := fun wx => takesVal_calls k v wx
  have HPC : Hid (∀ wx, Calls Try.prog 32 #[.int .i64 k, .int .i64 p] wx fun e w' => e = .returned (.bool (decide (PlcOk k p))) ∧ w' = wx) := fun wx => takesPlace_calls k p wx
  have d0 := hR.cell 0 rfl
  have d1 := hR.cell 1 rfl
  have d2 := hR.cell 2 rfl
  have d3 := hR.cell 3 rfl
  have d4 := hR.cell 4 rfl
  rw [hW] at d0 d1 d2 d3 d4
  have HE : Hid (EOk k o y v p ↔ (1 ≤ k ∧ k ≤ 7) ∧ NOk o ∧ KeyOk k y ∧ ValOk k v ∧ PlcOk k p) := eok_iff k o y v p
  clear hW hR ho hy
  by_cases q0 : 1 ≤ k ∧ k ≤ 7
  case neg =>
    rw [decide_eq_false q0] at HRC
    have HN : Hid (¬ EOk k o y v p) := fun h0 => by have h := HE.out.1 h0; exact q0 h.1
    clear q0
    go_enter Try.func8, Try.ntmps8
    go_wp2_with (first
      | (go_at_call 28; refine (HRC.out _).mono ?_; rintro e w1 ⟨rfl, rfl⟩)
      | (go_at_call 29; refine (HNC.out _).mono ?_; rintro e w1 ⟨rfl, rfl⟩)
      | (go_at_call 30; refine (HYC.out _).mono ?_; rintro e w1 ⟨rfl, rfl⟩)
      | (go_at_call 31; refine (HVC.out _).mono ?_; rintro e w1 ⟨rfl, rfl⟩)
      | (go_at_call 32; refine (HPC.out _).mono ?_; rintro e w1 ⟨rfl, rfl⟩))
    rw [HW.out]
    go_ret
    exact ⟨Tells.no HN.out, HB.out⟩
  rw [decide_eq_true q0] at HRC
  by_cases q1 : NOk o
  case neg =>
    rw [decide_eq_false q1] at HNC
    have HN : Hid (¬ EOk k o y v p) := fun h0 => by have h := HE.out.1 h0; exact q1 h.2.1
    clear q0 q1
    go_enter Try.func8, Try.ntmps8
    go_wp2_with (first
      | (go_at_call 28; refine (HRC.out _).mono ?_; rintro e w1 ⟨rfl, rfl⟩)
      | (go_at_call 29; refine (HNC.out _).mono ?_; rintro e w1 ⟨rfl, rfl⟩)
      | (go_at_call 30; refine (HYC.out _).mono ?_; rintro e w1 ⟨rfl, rfl⟩)
      | (go_at_call 31; refine (HVC.out _).mono ?_; rintro e w1 ⟨rfl, rfl⟩)
      | (go_at_call 32; refine (HPC.out _).mono ?_; rintro e w1 ⟨rfl, rfl⟩))
    rw [HW.out]
    go_ret
    exact ⟨Tells.no HN.out, HB.out⟩
  rw [decide_eq_true q1] at HNC
  by_cases q2 : KeyOk k y
  case neg =>
    rw [decide_eq_false q2] at HYC
    have HN : Hid (¬ EOk k o y v p) := fun h0 => by have h := HE.out.1 h0; exact q2 h.2.2.1
    clear q0 q1 q2
    go_enter Try.func8, Try.ntmps8
    go_wp2_with (first
      | (go_at_call 28; refine (HRC.out _).mono ?_; rintro e w1 ⟨rfl, rfl⟩)
      | (go_at_call 29; refine (HNC.out _).mono ?_; rintro e w1 ⟨rfl, rfl⟩)
      | (go_at_call 30; refine (HYC.out _).mono ?_; rintro e w1 ⟨rfl, rfl⟩)
      | (go_at_call 31; refine (HVC.out _).mono ?_; rintro e w1 ⟨rfl, rfl⟩)
      | (go_at_call 32; refine (HPC.out _).mono ?_; rintro e w1 ⟨rfl, rfl⟩))
    rw [HW.out]
    go_ret
    exact ⟨Tells.no HN.out, HB.out⟩
  rw [decide_eq_true q2] at HYC
  by_cases q3 : ValOk k v
  case neg =>
    rw [decide_eq_false q3] at HVC
    have HN : Hid (¬ EOk k o y v p) := fun h0 => by have h := HE.out.1 h0; exact q3 h.2.2.2.1
    clear q0 q1 q2 q3
    go_enter Try.func8, Try.ntmps8
    go_wp2_with (first
      | (go_at_call 28; refine (HRC.out _).mono ?_; rintro e w1 ⟨rfl, rfl⟩)
      | (go_at_call 29; refine (HNC.out _).mono ?_; rintro e w1 ⟨rfl, rfl⟩)
      | (go_at_call 30; refine (HYC.out _).mono ?_; rintro e w1 ⟨rfl, rfl⟩)
      | (go_at_call 31; refine (HVC.out _).mono ?_; rintro e w1 ⟨rfl, rfl⟩)
      | (go_at_call 32; refine (HPC.out _).mono ?_; rintro e w1 ⟨rfl, rfl⟩))
    rw [HW.out]
    go_ret
    exact ⟨Tells.no HN.out, HB.out⟩
  rw [decide_eq_true q3] at HVC
  by_cases q4 : PlcOk k p
  case neg =>
    rw [decide_eq_false q4] at HPC
    have HN : Hid (¬ EOk k o y v p) := fun h0 => by have h := HE.out.1 h0; exact q4 h.2.2.2.2
    clear q0 q1 q2 q3 q4
    go_enter Try.func8, Try.ntmps8
    go_wp2_with (first
      | (go_at_call 28; refine (HRC.out _).mono ?_; rintro e w1 ⟨rfl, rfl⟩)
      | (go_at_call 29; refine (HNC.out _).mono ?_; rintro e w1 ⟨rfl, rfl⟩)
      | (go_at_call 30; refine (HYC.out _).mono ?_; rintro e w1 ⟨rfl, rfl⟩)
      | (go_at_call 31; refine (HVC.out _).mono ?_; rintro e w1 ⟨rfl, rfl⟩)
      | (go_at_call 32; refine (HPC.out _).mono ?_; rintro e w1 ⟨rfl, rfl⟩))
    rw [HW.out]
    go_ret
    exact ⟨Tells.no HN.out, HB.out⟩
  rw [decide_eq_true q4] at HPC
  have HN : Hid (EOk k o y v p) := HE.out.2 ⟨q0, q1, q2, q3, q4⟩
  clear q0 q1 q2 q3 q4
  go_enter Try.func8, Try.ntmps8
  go_wp2_with (first
      | (go_at_call 28; refine (HRC.out _).mono ?_; rintro e w1 ⟨rfl, rfl⟩)
      | (go_at_call 29; refine (HNC.out _).mono ?_; rintro e w1 ⟨rfl, rfl⟩)
      | (go_at_call 30; refine (HYC.out _).mono ?_; rintro e w1 ⟨rfl, rfl⟩)
      | (go_at_call 31; refine (HVC.out _).mono ?_; rintro e w1 ⟨rfl, rfl⟩)
      | (go_at_call 32; refine (HPC.out _).mono ?_; rintro e w1 ⟨rfl, rfl⟩))
  rw [HW.out]
  go_ret
  exact ⟨Tells.yes HN.out, HB.out⟩

theorem toEdit_calls (k : Int) (o y : ByteArray) (v p : Int) (w : World) :
    Calls Try.prog 7 #[.agg #[.int .i64 k, .string o, .string y, .int .i64 v, .int .i64 p]] w fun e w' => e = .returned (.agg #[.int .i64 k, .string o, .string y, .int .i64 v, .int .i64 p]) ∧ Below w.heap.size w w' := by
  go_enter Try.func7, Try.ntmps7
  go_wp2
  exact bodyPost_ret (ret_edit rfl rfl rfl ((row_new _ _ _ (by simp)).alloc _)) rfl ⟨rfl, (((Below.refl _ _).alloc (Nat.le_refl _) _).alloc (by simp) _).alloc (by simp; omega) _⟩

theorem szEdit_o (k : Int) (o y : ByteArray) (v p : Int) (w : World) (ho : o.size ≤ maxLen) (hy : y.size ≤ maxLen) (h : (1048576 : Int) < o.size) :
    Calls Try.prog 5 #[.agg #[.int .i64 k, .string o, .string y, .int .i64 v, .int .i64 p], .int .i64 1048576] w fun e w' => e = .returned (.int .i64 (-1)) ∧ Below w.heap.size w w' := by
  unfold maxLen at ho hy
  have h1 : (1048576 : Int) - o.size < 0 := by omega
  go_enter Try.func5, Try.ntmps5
  go_wp2
  go_ret
  exact ⟨rfl, (Below.refl _ _).alloc (Nat.le_refl _) _⟩
theorem szEdit_y (k : Int) (o y : ByteArray) (v p : Int) (w : World) (ho : o.size ≤ maxLen) (hy : y.size ≤ maxLen) (h : ¬ (1048576 : Int) < o.size) (h2 : (1048576 : Int) < o.size + y.size) :
    Calls Try.prog 5 #[.agg #[.int .i64 k, .string o, .string y, .int .i64 v, .int .i64 p], .int .i64 1048576] w fun e w' => e = .returned (.int .i64 (-1)) ∧ Below w.heap.size w w' := by
  unfold maxLen at ho hy
  have h1 : ¬ ((1048576 : Int) - o.size < 0) := by omega
  have h3 : (1048576 : Int) - o.size - y.size < 0 := by omega
  have w2 : IntKind.i64.wrap ((1048576 : Int) - o.size - y.size) = (1048576 : Int) - o.size - y.size := by rw [IntKind.wrap_i64] <;> omega
  go_enter Try.func5, Try.ntmps5
  go_wp2
  go_ret
  exact ⟨rfl, (Below.refl _ _).alloc (Nat.le_refl _) _⟩
theorem szEdit_ok (k : Int) (o y : ByteArray) (v p : Int) (w : World) (ho : o.size ≤ maxLen) (hy : y.size ≤ maxLen) (h : ¬ (1048576 : Int) < o.size + y.size) :
    Calls Try.prog 5 #[.agg #[.int .i64 k, .string o, .string y, .int .i64 v, .int .i64 p], .int .i64 1048576] w fun e w' => e = .returned (.int .i64 (1048576 - o.size - y.size)) ∧ Below w.heap.size w w' := by
  unfold maxLen at ho hy
  have h1 : ¬ ((1048576 : Int) - o.size < 0) := by omega
  have h3 : ¬ ((1048576 : Int) - o.size - y.size < 0) := by omega
  have w2 : IntKind.i64.wrap ((1048576 : Int) - o.size - y.size) = (1048576 : Int) - o.size - y.size := by rw [IntKind.wrap_i64] <;> omega
  go_enter Try.func5, Try.ntmps5
  go_wp2
  go_ret
  exact ⟨rfl, (Below.refl _ _).alloc (Nat.le_refl _) _⟩

set_option maxHeartbeats 4000000 in
theorem fnExactEditOk_walk (k : Int) (o y : ByteArray) (v p : Int) (w : World) (ho : o.size ≤ maxLen) (hy : y.size ≤ maxLen) :
    Calls Try.prog 3 #[.agg #[.int .i64 k, .string o, .string y, .int .i64 v, .int .i64 p]] w fun e w' => e = .returned (.bool true) ∧ Below w.heap.size w w' := by
  obtain ⟨W, hW⟩ : ∃ W, W = w.alloc (.cells #[.int .i64 k, .string o, .string y, .int .i64 v, .int .i64 p] 23) := ⟨_, rfl⟩
  have hR : Row W w.heap.size #[.int .i64 k, .string o, .string y, .int .i64 v, .int .i64 p] 23 := by rw [hW]; exact row_new w _ _ rfl
  have hB : Below w.heap.size w W := by rw [hW]; exact (Below.refl _ _).alloc (Nat.le_refl _) _
  have HW : Hid (w.alloc (.cells #[.int .i64 k, .string o, .string y, .int .i64 v, .int .i64 p] 23) = W) := hW.symm
  have HB : Hid (∀ wx, Below W.heap.size W wx → Below w.heap.size w wx) := fun wx h => hB.trans (h.mono hB.size)
  have HR : Hid (∀ wx, Below W.heap.size W wx → Row wx w.heap.size #[.int .i64 k, .string o, .string y, .int .i64 v, .int .i64 p] 23) := fun wx h => hR.next h
  clear hW hR hB
  by_cases hbo : (1048576 : Int) < o.size
  · have HZ : Hid (∀ wx, Calls Try.prog 5 #[.agg #[.int .i64 k, .string o, .string y, .int .i64 v, .int .i64 p], .int .i64 1048576] wx fun e w' => e = .returned (.int .i64 (-1)) ∧ Below wx.heap.size wx w') := fun wx => szEdit_o k o y v p wx ho hy hbo
    clear hbo ho hy
    go_enter Try.func3, Try.ntmps3
    go_wp2_with (go_at_call 5; refine (HZ.out _).mono ?_; rintro e w1 ⟨rfl, hb1⟩)
    go_ret
    exact ⟨rfl, HB.out _ (by rw [← HW.out]; exact hb1)⟩
  by_cases hby : (1048576 : Int) < o.size + y.size
  · have HZ : Hid (∀ wx, Calls Try.prog 5 #[.agg #[.int .i64 k, .string o, .string y, .int .i64 v, .int .i64 p], .int .i64 1048576] wx fun e w' => e = .returned (.int .i64 (-1)) ∧ Below wx.heap.size wx w') := fun wx => szEdit_y k o y v p wx ho hy hbo hby
    clear hbo hby ho hy
    go_enter Try.func3, Try.ntmps3
    go_wp2_with (go_at_call 5; refine (HZ.out _).mono ?_; rintro e w1 ⟨rfl, hb1⟩)
    go_ret
    exact ⟨rfl, HB.out _ (by rw [← HW.out]; exact hb1)⟩
  have hj : ¬ ((1048576 : Int) - o.size - y.size < 0) := by omega
  have HZ : Hid (∀ wx, Calls Try.prog 5 #[.agg #[.int .i64 k, .string o, .string y, .int .i64 v, .int .i64 p], .int .i64 1048576] wx fun e w' => e = .returned (.int .i64 (1048576 - o.size - y.size)) ∧ Below wx.heap.size wx w') := fun wx => szEdit_ok k o y v p wx ho hy hby
  have HT : Hid (∀ wx, Calls Try.prog 7 #[.agg #[.int .i64 k, .string o, .string y, .int .i64 v, .int .i64 p]] wx fun e w' => e = .returned (.agg #[.int .i64 k, .string o, .string y, .int .i64 v, .int .i64 p]) ∧ Below wx.heap.size wx w') := fun wx => toEdit_calls k o y v p wx
  obtain ⟨q, hq⟩ : ∃ q : Bool, q = true ↔ EOk k o y v p := by
    by_cases h : EOk k o y v p
    · exact ⟨true, fun _ => h, fun _ => rfl⟩
    · exact ⟨false, fun h => (by cases h), fun h2 => absurd h2 h⟩
  have HS : Hid (∀ wx, Calls Try.prog 6 #[.agg #[.int .i64 k, .string o, .string y, .int .i64 v, .int .i64 p]] wx fun e w' => e = .returned (.bool q) ∧ Below wx.heap.size wx w') := fun wx => (specEditOk_calls k o y v p wx (by omega) (by omega)).mono (by rintro e w' ⟨⟨q', rfl, h⟩, hb⟩; exact ⟨by rw [Bool.eq_iff_iff.2 (h.trans hq.symm)], hb⟩)
  have HI : Hid (∀ wx, Calls Try.prog 8 #[.agg #[.int .i64 k, .string o, .string y, .int .i64 v, .int .i64 p]] wx fun e w' => e = .returned (.bool q) ∧ Below wx.heap.size wx w') := fun wx => (implEditOk_calls k o y v p wx (by omega) (by omega)).mono (by rintro e w' ⟨⟨q', rfl, h⟩, hb⟩; exact ⟨by rw [Bool.eq_iff_iff.2 (h.trans hq.symm)], hb⟩)
  have hqq : (q != q) = false := by simp
  clear hq hbo hby ho hy
  go_enter Try.func3, Try.ntmps3
  go_wp2_with fail
  rw [HW.out]
  refine (HZ.out _).mono ?_
  rintro e w1 ⟨rfl, hb1⟩
  obtain ⟨d0, d1, d2, d3, d4⟩ := Row.fiveC (HR.out _ hb1)
  go_wp2_with fail
  refine (HT.out _).mono ?_
  rintro e w2 ⟨rfl, hb2⟩
  have hb2 := hb1.trans (hb2.mono hb1.size)
  go_wp2_with fail
  refine (HS.out _).mono ?_
  rintro e w3 ⟨rfl, hb3⟩
  have hb3 := hb2.trans (hb3.mono hb2.size)
  clear d0 d1 d2 d3 d4
  obtain ⟨d0, d1, d2, d3, d4⟩ := Row.fiveC (HR.out _ hb3)
  go_wp2_with fail
  refine (HT.out _).mono ?_
  rintro e w4 ⟨rfl, hb4⟩
  have hb4 := hb3.trans (hb4.mono hb3.size)
  go_wp2_with fail
  refine (HI.out _).mono ?_
  rintro e w5 ⟨rfl, hb5⟩
  have hb5 := hb4.trans (hb5.mono hb4.size)
  go_wp2
  go_ret
  exact ⟨rfl, HB.out _ hb5⟩

theorem array5 {α : Type} {cs : Array α} (h : cs.size = 5) : ∃ c0 c1 c2 c3 c4, cs = #[c0, c1, c2, c3, c4] := by
  obtain ⟨l⟩ := cs
  match l, h with
  | [c0, c1, c2, c3, c4], _ => exact ⟨c0, c1, c2, c3, c4, rfl⟩
theorem cellsIntE : Try.prog.cellsOf 3 = 1 := by kernel_rfl
theorem cellsStrE : Try.prog.cellsOf 9 = 1 := by kernel_rfl
theorem cellsEditL : Try.prog.cellsOf 23 = 5 := by kernel_rfl
theorem edit_of {H : Type} {enc : TypeId × Value → H} {W : World} {base : Nat} {u : Value} {d : DataW H} {p : List MemPlace} (hv : Value.okWide Try.prog W .any base 23 u) (h : DataW.Trod enc Try.prog W 0 (fun _ => true) true 23 u d p) :
    ∃ (k : Int) (o y : ByteArray) (v q : Int), u = .agg #[.int .i64 k, .string o, .string y, .int .i64 v, .int .i64 q] ∧ o.size ≤ maxLen ∧ y.size ≤ maxLen := by
  obtain ⟨cs, rfl, hsz⟩ := okWide_struct Try.underlying23 hv
  obtain ⟨c0, c1, c2, c3, c4, rfl⟩ := array5 (hsz.trans cellsEditL)
  obtain ⟨fuel, hf⟩ := h
  obtain ⟨xs, n, -, -, -, hlen, hfs⟩ := DataW.trod_struct Try.underlying23 hf
  have h0 := hfs 0 _ rfl
  have h1 := hfs 1 _ rfl
  have h2 := hfs 2 _ rfl
  have h3 := hfs 3 _ rfl
  have h4 := hfs 4 _ rfl
  rw [List.getElem?_eq_getElem (by rw [hlen]; simp)] at h0 h1 h2 h3 h4
  simp [cellsIntE, cellsStrE, Value.cells] at h0 h1 h2 h3 h4
  obtain ⟨k, e0, -⟩ := DataW.trod_int Try.underlying3 h0
  obtain ⟨o, e1, -, m1⟩ := DataW.trod_string Try.underlying9 h1
  obtain ⟨y, e2, -, m2⟩ := DataW.trod_string Try.underlying9 h2
  obtain ⟨v, e3, -⟩ := DataW.trod_int Try.underlying3 h3
  obtain ⟨q, e4, -⟩ := DataW.trod_int Try.underlying3 h4
  simp only [List.cons.injEq, and_true] at e0 e1 e2 e3 e4
  subst e0 e1 e2 e3 e4
  exact ⟨k, o, y, v, q, rfl, m1, m2⟩
end Go.Proofs.Ytajihpcihlbjgaa
