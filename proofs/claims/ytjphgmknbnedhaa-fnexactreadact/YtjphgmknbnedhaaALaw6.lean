/- The law on reading an act. -/
import Derived.Test.YtjphgmknbnedhaaARead6
import Derived.Test.YtjphgmknbnedhaaALaw3
namespace Go.Proofs.Ytjphgmknbnedhaa
set_option maxRecDepth 100000
set_option linter.unusedVariables false
open Go.RowKit

theorem specReadAct_calls (s : ByteArray) (hs : s.size ≤ 1048576) (a : Int) (w : World) :
    Calls Try.prog 42 #[.string s, .int .i64 a] w fun e w' => ∃ aa ca, e = .returned (.tuple #[(rdR s a).1.val (.slice aa (rdR s a).1.l.length ca), .int .i64 (rdR s a).2.1, .bool (rdR s a).2.2]) ∧ IntsAt w' (.slice aa (rdR s a).1.l.length ca) (rdR s a).1.l ∧ Below w.heap.size w w' := by
  by_cases h : a < 0 ∨ (s.size : Int) < a
  · have e : rdR s a = (zAc, 0, false) := rdR_none (rdE_out h)
    refine (specReadAct_out s hs a w h).mono ?_
    rintro r w' ⟨rfl, hb⟩
    exact ⟨none, 0, by rw [e]; rfl, by rw [e]; exact ⟨none, 0, rfl, fun h => by simp [zAc] at h⟩, hb⟩
  · exact specReadAct_in s hs a w (by omega) (by omega)
theorem rdR_len (s : ByteArray) (a : Int) : (rdR s a).1.l.length ≤ 3 := by
  unfold rdR
  split
  · simp [zAc]
  · split
    · rw [rdA_len]; omega
    · simp [zAc]

set_option maxHeartbeats 1000000 in
theorem markAct_calls (A : Ac) (u : Value) (B : Nat) (w : World) (hn : A.l.length ≤ 1048576) (ho : w.ownsRow B 3 1 u A.l.length (intV A.l)) :
    Calls Try.prog 45 #[A.val u, .int .i64 1] w fun e w' => e = .returned (.int .i64 (1 + (A.l.length : Int))) ∧ w'.ownsRow B 3 1 u A.l.length (intV (mkI 1 A.l.length)) ∧ w.grownBy w' u.ownBlock := by
  obtain ⟨W, hW⟩ : ∃ W, W = w.alloc (.cells (A.cs u) 72) := ⟨_, rfl⟩
  have HOW : Hid (W.ownsRow B 3 1 u A.l.length (intV A.l)) := by rw [hW]; exact ho.alloc _
  have HG : Hid (w.grownBy W u.ownBlock) := by rw [hW]; exact grown_alloc w _ _
  have HW : Hid (w.alloc (.cells (A.cs u) 72) = W) := hW.symm
  unfold Ac.cs at HW
  unfold Ac.val
  clear ho hW
  go_enter Try.func45, Try.ntmps45
  go_wp2_with fail
  rw [HW.out]
  refine (markInts_one hn W HOW.out).mono ?_
  rintro e w1 ⟨rfl, ho1, hg1⟩
  have HF : Hid (w1.ownsRow B 3 1 u A.l.length (intV (mkI 1 A.l.length)) ∧ w.grownBy w1 u.ownBlock) := ⟨ho1, grownBy_trans HG.out hg1⟩
  clear ho1 hg1 HW HOW HG
  go_wp2
  go_ret
  exact ⟨rfl, HF.out⟩

set_option maxHeartbeats 1000000 in
theorem heldAct_calls (A : Ac) (u : Value) (n : Nat) (w : World) (hn : n ≤ 1048576) (ho : IntsAt w u (mkI 1 n)) :
    Calls Try.prog 46 #[A.val u, .int .i64 1] w fun e w' => e = .returned (.int .i64 (1 + (n : Int))) ∧ Below w.heap.size w w' := by
  obtain ⟨W, hW⟩ : ∃ W, W = w.alloc (.cells (A.cs u) 72) := ⟨_, rfl⟩
  have HOW : Hid (IntsAt W u (mkI 1 n)) := by rw [hW]; exact ho.alloc _
  have HG : Hid (Below w.heap.size w W) := by rw [hW]; exact (Below.refl _ _).alloc (Nat.le_refl _) _
  have HW : Hid (w.alloc (.cells (A.cs u) 72) = W) := hW.symm
  unfold Ac.cs at HW
  unfold Ac.val
  have hne : ¬ ((1 : Int) + n < 0) := by omega
  clear ho hW
  go_enter Try.func46, Try.ntmps46
  go_wp2_with fail
  rw [HW.out]
  refine (heldInts_one hn W HOW.out).mono ?_
  rintro e w1 ⟨rfl, hb1⟩
  have HF : Hid (Below w.heap.size w w1) := HG.out.trans (hb1.mono HG.out.size)
  clear hb1 HW HOW HG
  go_wp2
  go_ret
  exact ⟨rfl, HF.out⟩

set_option maxHeartbeats 8000000 in
theorem fnExactReadAct_walk (s : ByteArray) (a : Int) (w : World) (hw : s.size ≤ maxLen) :
    Calls Try.prog 10 #[.string s, .int .i64 a] w fun e w' => e = .returned (.bool true) ∧ Below w.heap.size w w' := by
  unfold maxLen at hw
  by_cases hs : (1048576 : Int) < s.size
  · go_enter Try.func10, Try.ntmps10
    go_wp2
    go_ret
    exact ⟨rfl, Below.refl _ _⟩
  have HS : Hid (∀ wx, Calls Try.prog 42 #[.string s, .int .i64 a] wx fun e w' => ∃ aa ca, e = .returned (.tuple #[(rdR s a).1.val (.slice aa (rdR s a).1.l.length ca), .int .i64 (rdR s a).2.1, .bool (rdR s a).2.2]) ∧ IntsAt w' (.slice aa (rdR s a).1.l.length ca) (rdR s a).1.l ∧ Below wx.heap.size wx w') := fun wx => specReadAct_calls s (by omega) a wx
  have HI : Hid (∀ wx, Calls Try.prog 43 #[.string s, .int .i64 a] wx fun e w' => ∃ aa ca, e = .returned (.tuple #[(rdR s a).1.val (.slice aa (rdR s a).1.l.length ca), .int .i64 (rdR s a).2.1, .bool (rdR s a).2.2]) ∧ w'.ownsRow wx.heap.size 3 1 (.slice aa (rdR s a).1.l.length ca) (rdR s a).1.l.length (intV (rdR s a).1.l) ∧ Below wx.heap.size wx w') := fun wx => readAct_calls s (by omega) a wx
  have hn3 := rdR_len s a
  generalize (rdR s a).1 = A at *
  generalize (rdR s a).2.1 = J at *
  generalize (rdR s a).2.2 = K at *
  have hn : A.l.length ≤ 1048576 := by omega
  have hJ : (J != J) = false := by simp
  have hK : (K != K) = false := by simp
  have hne : ¬ ((1 : Int) + A.l.length < 0) := by omega
  have hnn : (((1 : Int) + A.l.length) != (1 + A.l.length)) = false := by simp
  have HEQ : Hid (∀ wx u v, IntsAt wx u A.l → IntsAt wx v A.l → Calls Try.prog 44 #[.agg #[.int .i64 A.r, .int .i64 A.s, .int .i64 A.t, u, .int .i64 A.k, .string A.o, .string A.y, .int .i64 A.v, .int .i64 A.x, .int .i64 A.z], .agg #[.int .i64 A.r, .int .i64 A.s, .int .i64 A.t, v, .int .i64 A.k, .string A.o, .string A.y, .int .i64 A.v, .int .i64 A.x, .int .i64 A.z]] wx fun e w' => e = .returned (.bool true) ∧ Below wx.heap.size wx w') := fun wx u v h1 h2 => eqAct_calls A u v wx hn h1 h2
  have HMK : Hid (∀ wx u B, wx.ownsRow B 3 1 u A.l.length (intV A.l) → Calls Try.prog 45 #[.agg #[.int .i64 A.r, .int .i64 A.s, .int .i64 A.t, u, .int .i64 A.k, .string A.o, .string A.y, .int .i64 A.v, .int .i64 A.x, .int .i64 A.z], .int .i64 1] wx fun e w' => e = .returned (.int .i64 (1 + (A.l.length : Int))) ∧ w'.ownsRow B 3 1 u A.l.length (intV (mkI 1 A.l.length)) ∧ wx.grownBy w' u.ownBlock) := fun wx u B h => markAct_calls A u B wx hn h
  have HHE : Hid (∀ wx u, IntsAt wx u (mkI 1 A.l.length) → Calls Try.prog 46 #[.agg #[.int .i64 A.r, .int .i64 A.s, .int .i64 A.t, u, .int .i64 A.k, .string A.o, .string A.y, .int .i64 A.v, .int .i64 A.x, .int .i64 A.z], .int .i64 1] wx fun e w' => e = .returned (.int .i64 (1 + (A.l.length : Int))) ∧ Below wx.heap.size wx w') := fun wx u h => heldAct_calls A u _ wx hn h
  clear hn hw hn3
  unfold Ac.val at HS HI
  go_enter Try.func10, Try.ntmps10
  go_wp2_with fail
  refine (HS.out _).mono ?_
  rintro e w1 ⟨aa, ca, rfl, hi, hb⟩
  have HB0 : Hid (Below w.heap.size w w1) := hb
  have HI5 : Hid (IntsAt w1 (.slice aa A.l.length ca) A.l) := hi
  obtain ⟨X1, hX1⟩ : ∃ X1, X1 = w1.alloc (.cells (A.cs (.slice aa A.l.length ca)) 72) := ⟨_, rfl⟩
  have R5 : Hid (Row X1 w1.heap.size (A.cs (.slice aa A.l.length ca)) 72) := by rw [hX1]; exact row_new _ _ _ rfl
  have HB : Hid (Below w1.heap.size w1 X1) := by rw [hX1]; exact (Below.refl _ _).alloc (Nat.le_refl _) _
  have hsz1 : X1.heap.size = w1.heap.size + 1 := by rw [hX1]; simp
  have HX : Hid (w1.alloc (.cells (A.cs (.slice aa A.l.length ca)) 72) = X1) := hX1.symm
  unfold Ac.cs at HX
  clear hX1 hb hi HS
  go_wp2_with fail
  rw [HX.out]
  clear HX
  refine (HI.out _).mono ?_
  rintro e w2 ⟨ga, gc, rfl, ho, hb⟩
  obtain ⟨X2, hX2⟩ : ∃ X2, X2 = w2.alloc (.cells (A.cs (.slice ga A.l.length gc)) 72) := ⟨_, rfl⟩
  have HOW : Hid (X2.ownsRow X1.heap.size 3 1 (.slice ga A.l.length gc) A.l.length (intV A.l)) := by rw [hX2]; exact ho.alloc _
  have hlo : ∀ k, (Value.slice ga A.l.length gc).ownBlock = some k → X1.heap.size ≤ k ∧ k < w2.heap.size := fun k hk => ho.lt k hk
  have HLO : Hid (∀ k, (Value.slice ga A.l.length gc).ownBlock = some k → X1.heap.size ≤ k ∧ k < w2.heap.size) := hlo
  have R8 : Hid (Row X2 w2.heap.size (A.cs (.slice ga A.l.length gc)) 72) := by rw [hX2]; exact row_new _ _ _ rfl
  have R5' : Hid (Row X2 w1.heap.size (A.cs (.slice aa A.l.length ca)) 72) := by rw [hX2]; exact (R5.out.next hb).alloc _
  have HB' : Hid (Below w1.heap.size w1 X2) := by rw [hX2]; exact (HB.out.trans (hb.mono HB.out.size)).alloc (by have := hb.size; omega) _
  have hsz2 : X1.heap.size ≤ w2.heap.size := hb.size
  have HX : Hid (w2.alloc (.cells (A.cs (.slice ga A.l.length gc)) 72) = X2) := hX2.symm
  unfold Ac.cs at HX
  clear hX2 hb ho R5 HB hlo
  obtain ⟨a0, a1, a2, a3, a4, a5, a6, a7, a8, a9⟩ := Row.ten R5'.out
  obtain ⟨b0, b1, b2, b3, b4, b5, b6, b7, b8, b9⟩ := Row.ten R8.out
  rw [← HX.out] at a0 a1 a2 a3 a4 a5 a6 a7 a8 a9 b0 b1 b2 b3 b4 b5 b6 b7 b8 b9
  go_wp2_with fail
  rw [HX.out]
  clear a0 a1 a2 a3 a4 a5 a6 a7 a8 a9 b0 b1 b2 b3 b4 b5 b6 b7 b8 b9 HX
  refine (HEQ.out _ _ _ (IntsAt.own HOW.out rfl) (HI5.out.below HB'.out)).mono ?_
  rintro e w3 ⟨rfl, hb⟩
  have R8a : Hid (Row w3 w2.heap.size (A.cs (.slice ga A.l.length gc)) 72) := R8.out.next hb
  have R5a : Hid (Row w3 w1.heap.size (A.cs (.slice aa A.l.length ca)) 72) := R5'.out.next hb
  have HOWa : Hid (w3.ownsRow X1.heap.size 3 1 (.slice ga A.l.length gc) A.l.length (intV A.l)) := own_below HOW.out hb
  have HBa : Hid (Below w1.heap.size w1 w3) := HB'.out.trans (hb.mono HB'.out.size)
  clear hb R8 R5' HOW HB'
  obtain ⟨b0, b1, b2, b3, b4, b5, b6, b7, b8, b9⟩ := Row.ten R8a.out
  go_wp2_with fail
  refine (HMK.out _ _ _ HOWa.out).mono ?_
  rintro e w4 ⟨rfl, ho, hg⟩
  have R8b : Hid (Row w4 w2.heap.size (A.cs (.slice ga A.l.length gc)) 72) := R8a.out.grown hg (fun e => by have := HLO.out _ e; omega)
  have R5b : Hid (Row w4 w1.heap.size (A.cs (.slice aa A.l.length ca)) 72) := R5a.out.grown hg (fun e => by have := HLO.out _ e; omega)
  have HOWb : Hid (w4.ownsRow X1.heap.size 3 1 (.slice ga A.l.length gc) A.l.length (intV (mkI 1 A.l.length))) := ho
  have HBb : Hid (Below w1.heap.size w1 w4) := HBa.out.grown hg HBa.out.size (fun k hk => by have := HLO.out _ hk; omega)
  clear hg ho R8a R5a HOWa HBa b0 b1 b2 b3 b4 b5 b6 b7 b8 b9
  obtain ⟨b0, b1, b2, b3, b4, b5, b6, b7, b8, b9⟩ := Row.ten R8b.out
  go_wp2_with fail
  refine (HHE.out _ _ (IntsAt.own HOWb.out (mkI_len _ _))).mono ?_
  rintro e w5 ⟨rfl, hb⟩
  have R8c : Hid (Row w5 w2.heap.size (A.cs (.slice ga A.l.length gc)) 72) := R8b.out.next hb
  have R5c : Hid (Row w5 w1.heap.size (A.cs (.slice aa A.l.length ca)) 72) := R5b.out.next hb
  have HOWc : Hid (w5.ownsRow X1.heap.size 3 1 (.slice ga A.l.length gc) A.l.length (intV (mkI 1 A.l.length))) := own_below HOWb.out hb
  have HBc : Hid (Below w1.heap.size w1 w5) := HBb.out.trans (hb.mono HBb.out.size)
  clear hb R8b R5b HOWb HBb b0 b1 b2 b3 b4 b5 b6 b7 b8 b9
  go_wp2_with fail
  refine (HI.out _).mono ?_
  rintro e w6 ⟨ha, hc, rfl, ho, hb⟩
  obtain ⟨X6, hX6⟩ : ∃ X6, X6 = w6.alloc (.cells (A.cs (.slice ha A.l.length hc)) 72) := ⟨_, rfl⟩
  have HOWh : Hid (X6.ownsRow w5.heap.size 3 1 (.slice ha A.l.length hc) A.l.length (intV A.l)) := by rw [hX6]; exact ho.alloc _
  have R13 : Hid (Row X6 w6.heap.size (A.cs (.slice ha A.l.length hc)) 72) := by rw [hX6]; exact row_new _ _ _ rfl
  have R8d : Hid (Row X6 w2.heap.size (A.cs (.slice ga A.l.length gc)) 72) := by rw [hX6]; exact (R8c.out.next hb).alloc _
  have R5d : Hid (Row X6 w1.heap.size (A.cs (.slice aa A.l.length ca)) 72) := by rw [hX6]; exact (R5c.out.next hb).alloc _
  have HOWd : Hid (X6.ownsRow X1.heap.size 3 1 (.slice ga A.l.length gc) A.l.length (intV (mkI 1 A.l.length))) := by rw [hX6]; exact (own_below HOWc.out hb).alloc _
  have HBd : Hid (Below w1.heap.size w1 X6) := by rw [hX6]; exact (HBc.out.trans (hb.mono HBc.out.size)).alloc (by have := hb.size; have := HBc.out.size; omega) _
  have HX : Hid (w6.alloc (.cells (A.cs (.slice ha A.l.length hc)) 72) = X6) := hX6.symm
  unfold Ac.cs at HX
  clear hX6 hb ho R8c R5c HOWc HBc
  obtain ⟨a0, a1, a2, a3, a4, a5, a6, a7, a8, a9⟩ := Row.ten R5d.out
  obtain ⟨b0, b1, b2, b3, b4, b5, b6, b7, b8, b9⟩ := Row.ten R13.out
  rw [← HX.out] at a0 a1 a2 a3 a4 a5 a6 a7 a8 a9 b0 b1 b2 b3 b4 b5 b6 b7 b8 b9
  go_wp2_with fail
  rw [HX.out]
  clear a0 a1 a2 a3 a4 a5 a6 a7 a8 a9 b0 b1 b2 b3 b4 b5 b6 b7 b8 b9 HX
  refine (HEQ.out _ _ _ (IntsAt.own HOWh.out rfl) (HI5.out.below HBd.out)).mono ?_
  rintro e w7 ⟨rfl, hb⟩
  have R8e : Hid (Row w7 w2.heap.size (A.cs (.slice ga A.l.length gc)) 72) := R8d.out.next hb
  have HOWe : Hid (w7.ownsRow X1.heap.size 3 1 (.slice ga A.l.length gc) A.l.length (intV (mkI 1 A.l.length))) := own_below HOWd.out hb
  have HBe : Hid (Below w1.heap.size w1 w7) := HBd.out.trans (hb.mono HBd.out.size)
  clear hb R8d R5d HOWd HBd R13 HOWh
  obtain ⟨b0, b1, b2, b3, b4, b5, b6, b7, b8, b9⟩ := Row.ten R8e.out
  go_wp2_with fail
  refine (HHE.out _ _ (IntsAt.own HOWe.out (mkI_len _ _))).mono ?_
  rintro e w8 ⟨rfl, hb⟩
  have HF : Hid (Below w.heap.size w w8) := HB0.out.trans ((HBe.out.trans (hb.mono HBe.out.size)).mono HB0.out.size)
  clear hb R8e HOWe HBe b0 b1 b2 b3 b4 b5 b6 b7 b8 b9
  go_wp2
  go_ret
  exact ⟨rfl, HF.out⟩
end Go.Proofs.Ytjphgmknbnedhaa
