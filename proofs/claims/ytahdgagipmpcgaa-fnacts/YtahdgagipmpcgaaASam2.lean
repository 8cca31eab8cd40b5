/- Whether two acts are the same, as both tell it. -/
import Derived.Test.YtahdgagipmpcgaaASame
namespace Go.Proofs.Ytahdgagipmpcgaa
set_option maxRecDepth 100000
set_option linter.unusedVariables false
open Go.RowKit

theorem eqDot_true {a b c d : Int} (h1 : a = c) (h2 : b = d) (wx : World) : (Op.equalIn 10000 47 (.agg #[.int .i64 a, .int .i64 b]) (.agg #[.int .i64 c, .int .i64 d])).run Try.prog wx = .ok true wx := by rw [eq_dot_run]; simp [h1, h2]
theorem eqDot_false {a b c d : Int} (h : ¬ (a = c ∧ b = d)) (wx : World) : (Op.equalIn 10000 47 (.agg #[.int .i64 a, .int .i64 b]) (.agg #[.int .i64 c, .int .i64 d])).run Try.prog wx = .ok false wx := by
  rw [eq_dot_run]
  have : (decide (a = c) && decide (b = d)) = false := by
    by_cases h1 : a = c <;> by_cases h2 : b = d <;> simp [h1, h2]
    exact h ⟨h1, h2⟩
  rw [this]
theorem beq_str (a b : ByteArray) (h : a = b) : (a.toList == b.toList) = true := by simp [h]
theorem beq_str_no (a b : ByteArray) (h : ¬ a = b) : (a.toList == b.toList) = false := by
  rw [ByteArray.toList_eq, ByteArray.toList_eq]
  simp only [beq_eq_false_iff_ne, ne_eq]
  intro h'
  exact h (ByteArray.ext (Array.ext' h'))
theorem Ac.ext' {A B : Ac} (h1 : A.r = B.r) (h2 : A.s = B.s) (h3 : A.t = B.t) (h4 : A.l = B.l) (h5 : A.k = B.k) (h6 : A.o = B.o) (h7 : A.y = B.y) (h8 : A.v = B.v) (h9 : A.x = B.x) (h10 : A.z = B.z) : A = B := by
  cases A; cases B; simp_all


set_option maxHeartbeats 4000000 in
theorem sameAct_calls (A B : Ac) (u v : Value) (w : World) (hA : A.l.length ≤ 1048576) (hB : B.l.length ≤ 1048576) (ha : IntsAt w u A.l) (hb : IntsAt w v B.l) :
    Calls Try.prog 57 #[A.val u, B.val v] w fun e w' => e = .returned (.bool (decide (A = B))) ∧ Below w.heap.size w w' := by
  obtain ⟨q, hq⟩ : ∃ q, q = decide (A = B) := ⟨_, rfl⟩
  rw [← hq]
  have HQ : Hid (q = decide (A = B)) := hq
  clear hq
  have hgd := dot_guard
  obtain ⟨W, hW⟩ : ∃ W, W = (w.alloc (.cells (A.cs u) 75)).alloc (.cells (B.cs v) 75) := ⟨_, rfl⟩
  have HA : Hid (IntsAt W u A.l) := by rw [hW]; exact (ha.alloc _).alloc _
  have HB : Hid (IntsAt W v B.l) := by rw [hW]; exact (hb.alloc _).alloc _
  have HPA : Hid (ActAt W w.heap.size A u) := by rw [hW]; exact (actAt_new w A u rfl).alloc _
  have HPB : Hid (ActAt W (w.heap.size + 1) B v) := by rw [hW]; exact actAt_new _ B v (by simp)
  have HBW : Hid (Below w.heap.size w W) := by rw [hW]; exact ((Below.refl _ _).alloc (Nat.le_refl _) _).alloc (by simp) _
  have HW : Hid ((w.alloc (.cells (A.cs u) 75)).alloc (.cells (B.cs v) 75) = W) := hW.symm
  unfold Ac.cs at HW
  unfold Ac.val
  clear ha hb hW
  by_cases hd : A.r = B.r ∧ A.s = B.s
  case neg =>
    obtain rfl : q = false := by rw [HQ.out]; exact decide_eq_false (fun h => hd (by subst h; simp))
    have fd := fun wx => eqDot_false hd wx
    clear HQ hA hB hd
    go_enter Try.func57, Try.ntmps57
    go_wp2
    rw [HW.out]
    go_ret
    exact ⟨rfl, HBW.out⟩
  by_cases ht : A.t = B.t
  case neg =>
    obtain rfl : q = false := by rw [HQ.out]; exact decide_eq_false (fun h => ht (by subst h; simp))
    have fd := fun wx => eqDot_true hd.1 hd.2 wx
    have ft := ht
    clear HQ hA hB hd
    go_enter Try.func57, Try.ntmps57
    go_wp2
    rw [HW.out]
    go_ret
    exact ⟨rfl, HBW.out⟩
  by_cases hl : A.l = B.l
  case neg =>
    obtain rfl : q = false := by rw [HQ.out]; exact decide_eq_false (fun h => hl (by subst h; simp))
    have fd := fun wx => eqDot_true hd.1 hd.2 wx
    have ft : (A.t == B.t) = true := by simp [ht]
    have HE : Hid (∀ wx, IntsAt wx u A.l → IntsAt wx v B.l → Calls Try.prog 100 #[u, v] wx fun e w' => e = .returned (.bool false) ∧ Below wx.heap.size wx w') := fun wx h1 h2 => by have := equal_calls hA hB wx h1 h2; rwa [decide_eq_false hl] at this
    clear HQ hA hB hd ht hl
    go_enter Try.func57, Try.ntmps57
    go_wp2_with fail
    rw [HW.out]
    refine (HE.out _ HA.out HB.out).mono ?_
    rintro e w1 ⟨rfl, hb1⟩
    obtain ⟨a0, a1, a2, a3, a4, a5, a6, a7, a8, a9⟩ := (HPA.out.below hb1 HPA.out.lt).all
    obtain ⟨b0, b1, b2, b3, b4, b5, b6, b7, b8, b9⟩ := (HPB.out.below hb1 HPB.out.lt).all
    have HF : Hid (Below w.heap.size w w1) := HBW.out.trans (hb1.mono HBW.out.size)
    clear hb1
    go_wp2
    go_ret
    exact ⟨rfl, HF.out⟩
  by_cases hk : A.k = B.k
  case neg =>
    obtain rfl : q = false := by rw [HQ.out]; exact decide_eq_false (fun h => hk (by subst h; simp))
    have fd := fun wx => eqDot_true hd.1 hd.2 wx
    have ft : (A.t == B.t) = true := by simp [ht]
    have fk := hk
    have HE : Hid (∀ wx, IntsAt wx u A.l → IntsAt wx v B.l → Calls Try.prog 100 #[u, v] wx fun e w' => e = .returned (.bool true) ∧ Below wx.heap.size wx w') := fun wx h1 h2 => by have := equal_calls hA hB wx h1 h2; rwa [decide_eq_true hl] at this
    clear HQ hA hB hd ht hl
    go_enter Try.func57, Try.ntmps57
    go_wp2_with fail
    rw [HW.out]
    refine (HE.out _ HA.out HB.out).mono ?_
    rintro e w1 ⟨rfl, hb1⟩
    obtain ⟨a0, a1, a2, a3, a4, a5, a6, a7, a8, a9⟩ := (HPA.out.below hb1 HPA.out.lt).all
    obtain ⟨b0, b1, b2, b3, b4, b5, b6, b7, b8, b9⟩ := (HPB.out.below hb1 HPB.out.lt).all
    have HF : Hid (Below w.heap.size w w1) := HBW.out.trans (hb1.mono HBW.out.size)
    clear hb1
    go_wp2
    go_ret
    exact ⟨rfl, HF.out⟩
  by_cases ho : A.o = B.o
  case neg =>
    obtain rfl : q = false := by rw [HQ.out]; exact decide_eq_false (fun h => ho (by subst h; simp))
    have fd := fun wx => eqDot_true hd.1 hd.2 wx
    have ft : (A.t == B.t) = true := by simp [ht]
    have fk : (A.k == B.k) = true := by simp [hk]
    have fo := beq_str_no A.o B.o ho
    have HE : Hid (∀ wx, IntsAt wx u A.l → IntsAt wx v B.l → Calls Try.prog 100 #[u, v] wx fun e w' => e = .returned (.bool true) ∧ Below wx.heap.size wx w') := fun wx h1 h2 => by have := equal_calls hA hB wx h1 h2; rwa [decide_eq_true hl] at this
    clear HQ hA hB hd ht hl hk ho
    go_enter Try.func57, Try.ntmps57
    go_wp2_with fail
    rw [HW.out]
    refine (HE.out _ HA.out HB.out).mono ?_
    rintro e w1 ⟨rfl, hb1⟩
    obtain ⟨a0, a1, a2, a3, a4, a5, a6, a7, a8, a9⟩ := (HPA.out.below hb1 HPA.out.lt).all
    obtain ⟨b0, b1, b2, b3, b4, b5, b6, b7, b8, b9⟩ := (HPB.out.below hb1 HPB.out.lt).all
    have HF : Hid (Below w.heap.size w w1) := HBW.out.trans (hb1.mono HBW.out.size)
    clear hb1
    go_wp2
    go_ret
    exact ⟨rfl, HF.out⟩
  by_cases hy : A.y = B.y
  case neg =>
    obtain rfl : q = false := by rw [HQ.out]; exact decide_eq_false (fun h => hy (by subst h; simp))
    have fd := fun wx => eqDot_true hd.1 hd.2 wx
    have ft : (A.t == B.t) = true := by simp [ht]
    have fk : (A.k == B.k) = true := by simp [hk]
    have fo := beq_str A.o B.o ho
    have fy := beq_str_no A.y B.y hy
    have HE : Hid (∀ wx, IntsAt wx u A.l → IntsAt wx v B.l → Calls Try.prog 100 #[u, v] wx fun e w' => e = .returned (.bool true) ∧ Below wx.heap.size wx w') := fun wx h1 h2 => by have := equal_calls hA hB wx h1 h2; rwa [decide_eq_true hl] at this
    clear HQ hA hB hd ht hl hk ho hy
    go_enter Try.func57, Try.ntmps57
    go_wp2_with fail
    rw [HW.out]
    refine (HE.out _ HA.out HB.out).mono ?_
    rintro e w1 ⟨rfl, hb1⟩
    obtain ⟨a0, a1, a2, a3, a4, a5, a6, a7, a8, a9⟩ := (HPA.out.below hb1 HPA.out.lt).all
    obtain ⟨b0, b1, b2, b3, b4, b5, b6, b7, b8, b9⟩ := (HPB.out.below hb1 HPB.out.lt).all
    have HF : Hid (Below w.heap.size w w1) := HBW.out.trans (hb1.mono HBW.out.size)
    clear hb1
    go_wp2
    go_ret
    exact ⟨rfl, HF.out⟩
  by_cases hv : A.v = B.v
  case neg =>
    obtain rfl : q = false := by rw [HQ.out]; exact decide_eq_false (fun h => hv (by subst h; simp))
    have fd := fun wx => eqDot_true hd.1 hd.2 wx
    have ft : (A.t == B.t) = true := by simp [ht]
    have fk : (A.k == B.k) = true := by simp [hk]
    have fo := beq_str A.o B.o ho
    have fy := beq_str A.y B.y hy
    have fv := hv
    have HE : Hid (∀ wx, IntsAt wx u A.l → IntsAt wx v B.l → Calls Try.prog 100 #[u, v] wx fun e w' => e = .returned (.bool true) ∧ Below wx.heap.size wx w') := fun wx h1 h2 => by have := equal_calls hA hB wx h1 h2; rwa [decide_eq_true hl] at this
    clear HQ hA hB hd ht hl hk ho hy
    go_enter Try.func57, Try.ntmps57
    go_wp2_with fail
    rw [HW.out]
    refine (HE.out _ HA.out HB.out).mono ?_
    rintro e w1 ⟨rfl, hb1⟩
    obtain ⟨a0, a1, a2, a3, a4, a5, a6, a7, a8, a9⟩ := (HPA.out.below hb1 HPA.out.lt).all
    obtain ⟨b0, b1, b2, b3, b4, b5, b6, b7, b8, b9⟩ := (HPB.out.below hb1 HPB.out.lt).all
    have HF : Hid (Below w.heap.size w w1) := HBW.out.trans (hb1.mono HBW.out.size)
    clear hb1
    go_wp2
    go_ret
    exact ⟨rfl, HF.out⟩
  by_cases he : A.x = B.x ∧ A.z = B.z
  case neg =>
    obtain rfl : q = false := by rw [HQ.out]; exact decide_eq_false (fun h => he (by subst h; simp))
    have fd := fun wx => eqDot_true hd.1 hd.2 wx
    have ft : (A.t == B.t) = true := by simp [ht]
    have fk : (A.k == B.k) = true := by simp [hk]
    have fo := beq_str A.o B.o ho
    have fy := beq_str A.y B.y hy
    have fv : (A.v == B.v) = true := by simp [hv]
    have fe := fun wx => eqDot_false he wx
    have HE : Hid (∀ wx, IntsAt wx u A.l → IntsAt wx v B.l → Calls Try.prog 100 #[u, v] wx fun e w' => e = .returned (.bool true) ∧ Below wx.heap.size wx w') := fun wx h1 h2 => by have := equal_calls hA hB wx h1 h2; rwa [decide_eq_true hl] at this
    clear HQ hA hB hd ht hl hk ho hy hv he
    go_enter Try.func57, Try.ntmps57
    go_wp2_with fail
    rw [HW.out]
    refine (HE.out _ HA.out HB.out).mono ?_
    rintro e w1 ⟨rfl, hb1⟩
    obtain ⟨a0, a1, a2, a3, a4, a5, a6, a7, a8, a9⟩ := (HPA.out.below hb1 HPA.out.lt).all
    obtain ⟨b0, b1, b2, b3, b4, b5, b6, b7, b8, b9⟩ := (HPB.out.below hb1 HPB.out.lt).all
    have HF : Hid (Below w.heap.size w w1) := HBW.out.trans (hb1.mono HBW.out.size)
    clear hb1
    go_wp2
    go_ret
    exact ⟨rfl, HF.out⟩
  obtain rfl : q = true := by rw [HQ.out]; exact decide_eq_true (Ac.ext' hd.1 hd.2 ht hl hk ho hy hv he.1 he.2)
  have fd := fun wx => eqDot_true hd.1 hd.2 wx
  have ft : (A.t == B.t) = true := by simp [ht]
  have fk : (A.k == B.k) = true := by simp [hk]
  have fo := beq_str A.o B.o ho
  have fy := beq_str A.y B.y hy
  have fv : (A.v == B.v) = true := by simp [hv]
  have fe := fun wx => eqDot_true he.1 he.2 wx
  have HE : Hid (∀ wx, IntsAt wx u A.l → IntsAt wx v B.l → Calls Try.prog 100 #[u, v] wx fun e w' => e = .returned (.bool true) ∧ Below wx.heap.size wx w') := fun wx h1 h2 => by have := equal_calls hA hB wx h1 h2; rwa [decide_eq_true hl] at this
  clear HQ hA hB hd ht hl hk ho hy hv he
  go_enter Try.func57, Try.ntmps57
  go_wp2_with fail
  rw [HW.out]
  refine (HE.out _ HA.out HB.out).mono ?_
  rintro e w1 ⟨rfl, hb1⟩
  obtain ⟨a0, a1, a2, a3, a4, a5, a6, a7, a8, a9⟩ := (HPA.out.below hb1 HPA.out.lt).all
  obtain ⟨b0, b1, b2, b3, b4, b5, b6, b7, b8, b9⟩ := (HPB.out.below hb1 HPB.out.lt).all
  have HF : Hid (Below w.heap.size w w1) := HBW.out.trans (hb1.mono HBW.out.size)
  clear hb1
  go_wp2
  go_ret
  exact ⟨rfl, HF.out⟩

set_option maxHeartbeats 4000000 in
theorem specSameAct_calls (A B : Ac) (u v : Value) (w : World) (hA : A.l.length ≤ 1048576) (hB : B.l.length ≤ 1048576) (ha : IntsAt w u A.l) (hb : IntsAt w v B.l) :
    Calls Try.prog 56 #[A.val u, B.val v] w fun e w' => e = .returned (.bool (decide (A = B))) ∧ Below w.heap.size w w' := by
  obtain ⟨q, hq⟩ : ∃ q, q = decide (A = B) := ⟨_, rfl⟩
  rw [← hq]
  have HQ : Hid (q = decide (A = B)) := hq
  clear hq
  have hgd := dot_guard
  obtain ⟨W, hW⟩ : ∃ W, W = (w.alloc (.cells (A.cs u) 75)).alloc (.cells (B.cs v) 75) := ⟨_, rfl⟩
  have HA : Hid (IntsAt W u A.l) := by rw [hW]; exact (ha.alloc _).alloc _
  have HB : Hid (IntsAt W v B.l) := by rw [hW]; exact (hb.alloc _).alloc _
  have HPA : Hid (ActAt W w.heap.size A u) := by rw [hW]; exact (actAt_new w A u rfl).alloc _
  have HPB : Hid (ActAt W (w.heap.size + 1) B v) := by rw [hW]; exact actAt_new _ B v (by simp)
  have HBW : Hid (Below w.heap.size w W) := by rw [hW]; exact ((Below.refl _ _).alloc (Nat.le_refl _) _).alloc (by simp) _
  have HW : Hid ((w.alloc (.cells (A.cs u) 75)).alloc (.cells (B.cs v) 75) = W) := hW.symm
  unfold Ac.cs at HW
  unfold Ac.val
  clear ha hb hW
  by_cases hd : A.r = B.r ∧ A.s = B.s
  case neg =>
    obtain rfl : q = false := by rw [HQ.out]; exact decide_eq_false (fun h => hd (by subst h; simp))
    have fd := fun wx => eqDot_false hd wx
    clear HQ hA hB hd
    go_enter Try.func56, Try.ntmps56
    go_wp2
    rw [HW.out]
    go_ret
    exact ⟨rfl, HBW.out⟩
  by_cases ht : A.t = B.t
  case neg =>
    obtain rfl : q = false := by rw [HQ.out]; exact decide_eq_false (fun h => ht (by subst h; simp))
    have fd := fun wx => eqDot_true hd.1 hd.2 wx
    have ft := ht
    clear HQ hA hB hd
    go_enter Try.func56, Try.ntmps56
    go_wp2
    rw [HW.out]
    go_ret
    exact ⟨rfl, HBW.out⟩
  by_cases hl : A.l = B.l
  case neg =>
    obtain rfl : q = false := by rw [HQ.out]; exact decide_eq_false (fun h => hl (by subst h; simp))
    have fd := fun wx => eqDot_true hd.1 hd.2 wx
    have ft : (A.t == B.t) = true := by simp [ht]
    have HE : Hid (∀ wx, IntsAt wx u A.l → IntsAt wx v B.l → Calls Try.prog 104 #[u, v] wx fun e w' => e = .returned (.bool false) ∧ Below wx.heap.size wx w') := fun wx h1 h2 => by have := sameS_calls hA hB wx h1 h2; rwa [decide_eq_false hl] at this
    clear HQ hA hB hd ht hl
    go_enter Try.func56, Try.ntmps56
    go_wp2_with fail
    rw [HW.out]
    refine (HE.out _ HA.out HB.out).mono ?_
    rintro e w1 ⟨rfl, hb1⟩
    obtain ⟨a0, a1, a2, a3, a4, a5, a6, a7, a8, a9⟩ := (HPA.out.below hb1 HPA.out.lt).all
    obtain ⟨b0, b1, b2, b3, b4, b5, b6, b7, b8, b9⟩ := (HPB.out.below hb1 HPB.out.lt).all
    have HF : Hid (Below w.heap.size w w1) := HBW.out.trans (hb1.mono HBW.out.size)
    clear hb1
    go_wp2
    go_ret
    exact ⟨rfl, HF.out⟩
  by_cases hk : A.k = B.k
  case neg =>
    obtain rfl : q = false := by rw [HQ.out]; exact decide_eq_false (fun h => hk (by subst h; simp))
    have fd := fun wx => eqDot_true hd.1 hd.2 wx
    have ft : (A.t == B.t) = true := by simp [ht]
    have fk := hk
    have HE : Hid (∀ wx, IntsAt wx u A.l → IntsAt wx v B.l → Calls Try.prog 104 #[u, v] wx fun e w' => e = .returned (.bool true) ∧ Below wx.heap.size wx w') := fun wx h1 h2 => by have := sameS_calls hA hB wx h1 h2; rwa [decide_eq_true hl] at this
    clear HQ hA hB hd ht hl
    go_enter Try.func56, Try.ntmps56
    go_wp2_with fail
    rw [HW.out]
    refine (HE.out _ HA.out HB.out).mono ?_
    rintro e w1 ⟨rfl, hb1⟩
    obtain ⟨a0, a1, a2, a3, a4, a5, a6, a7, a8, a9⟩ := (HPA.out.below hb1 HPA.out.lt).all
    obtain ⟨b0, b1, b2, b3, b4, b5, b6, b7, b8, b9⟩ := (HPB.out.below hb1 HPB.out.lt).all
    have HF : Hid (Below w.heap.size w w1) := HBW.out.trans (hb1.mono HBW.out.size)
    clear hb1
    go_wp2
    go_ret
    exact ⟨rfl, HF.out⟩
  by_cases ho : A.o = B.o
  case neg =>
    obtain rfl : q = false := by rw [HQ.out]; exact decide_eq_false (fun h => ho (by subst h; simp))
    have fd := fun wx => eqDot_true hd.1 hd.2 wx
    have ft : (A.t == B.t) = true := by simp [ht]
    have fk : (A.k == B.k) = true := by simp [hk]
    have fo := beq_str_no A.o B.o ho
    have HE : Hid (∀ wx, IntsAt wx u A.l → IntsAt wx v B.l → Calls Try.prog 104 #[u, v] wx fun e w' => e = .returned (.bool true) ∧ Below wx.heap.size wx w') := fun wx h1 h2 => by have := sameS_calls hA hB wx h1 h2; rwa [decide_eq_true hl] at this
    clear HQ hA hB hd ht hl hk ho
    go_enter Try.func56, Try.ntmps56
    go_wp2_with fail
    rw [HW.out]
    refine (HE.out _ HA.out HB.out).mono ?_
    rintro e w1 ⟨rfl, hb1⟩
    obtain ⟨a0, a1, a2, a3, a4, a5, a6, a7, a8, a9⟩ := (HPA.out.below hb1 HPA.out.lt).all
    obtain ⟨b0, b1, b2, b3, b4, b5, b6, b7, b8, b9⟩ := (HPB.out.below hb1 HPB.out.lt).all
    have HF : Hid (Below w.heap.size w w1) := HBW.out.trans (hb1.mono HBW.out.size)
    clear hb1
    go_wp2
    go_ret
    exact ⟨rfl, HF.out⟩
  by_cases hy : A.y = B.y
  case neg =>
    obtain rfl : q = false := by rw [HQ.out]; exact decide_eq_false (fun h => hy (by subst h; simp))
    have fd := fun wx => eqDot_true hd.1 hd.2 wx
    have ft : (A.t == B.t) = true := by simp [ht]
    have fk : (A.k == B.k) = true := by simp [hk]
    have fo := beq_str A.o B.o ho
    have fy := beq_str_no A.y B.y hy
    have HE : Hid (∀ wx, IntsAt wx u A.l → IntsAt wx v B.l → Calls Try.prog 104 #[u, v] wx fun e w' => e = .returned (.bool true) ∧ Below wx.heap.size wx w') := fun wx h1 h2 => by have := sameS_calls hA hB wx h1 h2; rwa [decide_eq_true hl] at this
    clear HQ hA hB hd ht hl hk ho hy
    go_enter Try.func56, Try.ntmps56
    go_wp2_with fail
    rw [HW.out]
    refine (HE.out _ HA.out HB.out).mono ?_
    rintro e w1 ⟨rfl, hb1⟩
    obtain ⟨a0, a1, a2, a3, a4, a5, a6, a7, a8, a9⟩ := (HPA.out.below hb1 HPA.out.lt).all
    obtain ⟨b0, b1, b2, b3, b4, b5, b6, b7, b8, b9⟩ := (HPB.out.below hb1 HPB.out.lt).all
    have HF : Hid (Below w.heap.size w w1) := HBW.out.trans (hb1.mono HBW.out.size)
    clear hb1
    go_wp2
    go_ret
    exact ⟨rfl, HF.out⟩
  by_cases hv : A.v = B.v
  case neg =>
    obtain rfl : q = false := by rw [HQ.out]; exact decide_eq_false (fun h => hv (by subst h; simp))
    have fd := fun wx => eqDot_true hd.1 hd.2 wx
    have ft : (A.t == B.t) = true := by simp [ht]
    have fk : (A.k == B.k) = true := by simp [hk]
    have fo := beq_str A.o B.o ho
    have fy := beq_str A.y B.y hy
    have fv := hv
    have HE : Hid (∀ wx, IntsAt wx u A.l → IntsAt wx v B.l → Calls Try.prog 104 #[u, v] wx fun e w' => e = .returned (.bool true) ∧ Below wx.heap.size wx w') := fun wx h1 h2 => by have := sameS_calls hA hB wx h1 h2; rwa [decide_eq_true hl] at this
    clear HQ hA hB hd ht hl hk ho hy
    go_enter Try.func56, Try.ntmps56
    go_wp2_with fail
    rw [HW.out]
    refine (HE.out _ HA.out HB.out).mono ?_
    rintro e w1 ⟨rfl, hb1⟩
    obtain ⟨a0, a1, a2, a3, a4, a5, a6, a7, a8, a9⟩ := (HPA.out.below hb1 HPA.out.lt).all
    obtain ⟨b0, b1, b2, b3, b4, b5, b6, b7, b8, b9⟩ := (HPB.out.below hb1 HPB.out.lt).all
    have HF : Hid (Below w.heap.size w w1) := HBW.out.trans (hb1.mono HBW.out.size)
    clear hb1
    go_wp2
    go_ret
    exact ⟨rfl, HF.out⟩
  by_cases he : A.x = B.x ∧ A.z = B.z
  case neg =>
    obtain rfl : q = false := by rw [HQ.out]; exact decide_eq_false (fun h => he (by subst h; simp))
    have fd := fun wx => eqDot_true hd.1 hd.2 wx
    have ft : (A.t == B.t) = true := by simp [ht]
    have fk : (A.k == B.k) = true := by simp [hk]
    have fo := beq_str A.o B.o ho
    have fy := beq_str A.y B.y hy
    have fv : (A.v == B.v) = true := by simp [hv]
    have fe := fun wx => eqDot_false he wx
    have HE : Hid (∀ wx, IntsAt wx u A.l → IntsAt wx v B.l → Calls Try.prog 104 #[u, v] wx fun e w' => e = .returned (.bool true) ∧ Below wx.heap.size wx w') := fun wx h1 h2 => by have := sameS_calls hA hB wx h1 h2; rwa [decide_eq_true hl] at this
    clear HQ hA hB hd ht hl hk ho hy hv he
    go_enter Try.func56, Try.ntmps56
    go_wp2_with fail
    rw [HW.out]
    refine (HE.out _ HA.out HB.out).mono ?_
    rintro e w1 ⟨rfl, hb1⟩
    obtain ⟨a0, a1, a2, a3, a4, a5, a6, a7, a8, a9⟩ := (HPA.out.below hb1 HPA.out.lt).all
    obtain ⟨b0, b1, b2, b3, b4, b5, b6, b7, b8, b9⟩ := (HPB.out.below hb1 HPB.out.lt).all
    have HF : Hid (Below w.heap.size w w1) := HBW.out.trans (hb1.mono HBW.out.size)
    clear hb1
    go_wp2
    go_ret
    exact ⟨rfl, HF.out⟩
  obtain rfl : q = true := by rw [HQ.out]; exact decide_eq_true (Ac.ext' hd.1 hd.2 ht hl hk ho hy hv he.1 he.2)
  have fd := fun wx => eqDot_true hd.1 hd.2 wx
  have ft : (A.t == B.t) = true := by simp [ht]
  have fk : (A.k == B.k) = true := by simp [hk]
  have fo := beq_str A.o B.o ho
  have fy := beq_str A.y B.y hy
  have fv : (A.v == B.v) = true := by simp [hv]
  have fe := fun wx => eqDot_true he.1 he.2 wx
  have HE : Hid (∀ wx, IntsAt wx u A.l → IntsAt wx v B.l → Calls Try.prog 104 #[u, v] wx fun e w' => e = .returned (.bool true) ∧ Below wx.heap.size wx w') := fun wx h1 h2 => by have := sameS_calls hA hB wx h1 h2; rwa [decide_eq_true hl] at this
  clear HQ hA hB hd ht hl hk ho hy hv he
  go_enter Try.func56, Try.ntmps56
  go_wp2_with fail
  rw [HW.out]
  refine (HE.out _ HA.out HB.out).mono ?_
  rintro e w1 ⟨rfl, hb1⟩
  obtain ⟨a0, a1, a2, a3, a4, a5, a6, a7, a8, a9⟩ := (HPA.out.below hb1 HPA.out.lt).all
  obtain ⟨b0, b1, b2, b3, b4, b5, b6, b7, b8, b9⟩ := (HPB.out.below hb1 HPB.out.lt).all
  have HF : Hid (Below w.heap.size w w1) := HBW.out.trans (hb1.mono HBW.out.size)
  clear hb1
  go_wp2
  go_ret
  exact ⟨rfl, HF.out⟩

end Go.Proofs.Ytahdgagipmpcgaa
