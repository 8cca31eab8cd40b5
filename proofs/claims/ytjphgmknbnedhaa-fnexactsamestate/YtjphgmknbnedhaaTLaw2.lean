/- The law on states that are the same. -/
import Derived.Test.YtjphgmknbnedhaaTLaw1
namespace Go.Proofs.Ytjphgmknbnedhaa
set_option maxRecDepth 100000
set_option linter.unusedVariables false
open Go.RowKit


set_option maxHeartbeats 8000000 in
theorem fnExactSameState_walk (S : Sta) (v0 v1 v2 v3 : Value) (Z : Sta) (z0 z1 z2 z3 : Value) (w : World) (hA : ArgState w S v0 v1 v2 v3) (hC : ArgState w Z z0 z1 z2 z3) :
    Calls Try.prog 6 #[.agg #[v0, v1, v2, v3], .agg #[z0, z1, z2, z3]] w fun e w' => e = .returned (.bool true) ∧ Below w.heap.size w w' := by
  obtain ⟨W, hW⟩ : ∃ W, W = (w.alloc (.cells #[v0, v1, v2, v3] 59)).alloc (.cells #[z0, z1, z2, z3] 59) := ⟨_, rfl⟩
  have hB0 : Below w.heap.size w W := by rw [hW]; exact ((Below.refl _ _).alloc (Nat.le_refl _) _).alloc (by simp) _
  have HRA : Hid (Row W w.heap.size #[v0, v1, v2, v3] 59) := by rw [hW]; exact (row_new w _ _ rfl).alloc _
  have HRB : Hid (Row W (w.heap.size + 1) #[z0, z1, z2, z3] 59) := by rw [hW]; exact row_new _ _ _ (by simp)
  have HW : Hid ((w.alloc (.cells #[v0, v1, v2, v3] 59)).alloc (.cells #[z0, z1, z2, z3] 59) = W) := hW.symm
  have HA : Hid (ArgState w S v0 v1 v2 v3) := hA
  have HC : Hid (ArgState w Z z0 z1 z2 z3) := hC
  have HZA : Hid (∀ wx, Below w.heap.size w wx → Calls Try.prog 36 #[.agg #[v0, v1, v2, v3], .int .i64 1048576] wx fun e w' => e = .returned (.int .i64 (leftOf 1048576 S.sz)) ∧ Below wx.heap.size wx w') := fun wx h => szState_calls S v0 v1 v2 v3 1048576 wx wx (by omega) (by omega) (HA.out.below h)
  clear hW hA hC
  have HDS : Hid (∀ wx, Below W.heap.size W wx → (wx.cell? ⟨w.heap.size, 0, none⟩ = some (v0) ∧ wx.cell? ⟨w.heap.size, 1, none⟩ = some (v1) ∧ wx.cell? ⟨w.heap.size, 2, none⟩ = some (v2) ∧ wx.cell? ⟨w.heap.size, 3, none⟩ = some (v3)) ∧ (wx.cell? ⟨w.heap.size + 1, 0, none⟩ = some (z0) ∧ wx.cell? ⟨w.heap.size + 1, 1, none⟩ = some (z1) ∧ wx.cell? ⟨w.heap.size + 1, 2, none⟩ = some (z2) ∧ wx.cell? ⟨w.heap.size + 1, 3, none⟩ = some (z3))) := fun wx h => ⟨Row.four (HRA.out.next h), Row.four (HRB.out.next h)⟩
  have HF : Hid (∀ wx, Below W.heap.size W wx → Below w.heap.size w wx) := fun wx h => hB0.trans (h.mono hB0.size)
  by_cases k1 : S.sz ≤ 1048576
  case neg =>
    rw [leftOf_no k1] at HZA
    clear k1
    go_enter Try.func6, Try.ntmps6
    go_wp2_with fail
    rw [HW.out]
    refine (HZA.out _ hB0).mono ?_
    rintro e w1 ⟨rfl, hb⟩
    have HFF : Hid (Below w.heap.size w w1) := HF.out _ hb
    clear hb
    go_wp2
    go_ret
    exact ⟨rfl, HFF.out⟩
  rw [leftOf_yes k1] at HZA
  have nA := S.sz_nonneg
  have q1 : ¬ ((1048576 : Int) - S.sz < 0) := by omega
  have HZB : Hid (∀ wx, Below w.heap.size w wx → Calls Try.prog 36 #[.agg #[z0, z1, z2, z3], .int .i64 (1048576 - S.sz)] wx fun e w' => e = .returned (.int .i64 (leftOf (1048576 - S.sz) Z.sz)) ∧ Below wx.heap.size wx w') := fun wx h => szState_calls Z z0 z1 z2 z3 (1048576 - S.sz) wx wx (by omega) (by omega) (HC.out.below h)
  by_cases k2 : Z.sz ≤ 1048576 - S.sz
  case neg =>
    rw [leftOf_no k2] at HZB
    clear k1 k2
    go_enter Try.func6, Try.ntmps6
    go_wp2_with fail
    rw [HW.out]
    refine (HZA.out _ hB0).mono ?_
    rintro e w1 ⟨rfl, hb⟩
    obtain ⟨⟨p0, p1, p2, p3⟩, ⟨e0, e1, e2, e3⟩⟩ := HDS.out _ hb
    go_wp2_with fail
    refine (HZB.out _ (HF.out _ hb)).mono ?_
    rintro e w2 ⟨rfl, hb2⟩
    have HFF : Hid (Below w.heap.size w w2) := HF.out _ (hb.trans (hb2.mono hb.size))
    clear hb hb2 p0 p1 p2 p3 e0 e1 e2 e3
    go_wp2
    go_ret
    exact ⟨rfl, HFF.out⟩
  rw [leftOf_yes k2] at HZB
  have nZ := Z.sz_nonneg
  have q2 : ¬ ((1048576 : Int) - S.sz - Z.sz < 0) := by omega
  have hlS := Sta.lens k1 (Int.le_refl _)
  have hlZ := Sta.lens k2 (by omega)
  have HTA : Hid (∀ wx, Below w.heap.size w wx → Calls Try.prog 37 #[.agg #[v0, v1, v2, v3]] wx fun e w' => ∃ a0 c0 a1 c1 a2 c2 a3 c3, e = .returned (.agg #[.slice a0 S.l.length c0, .slice a1 S.T.length c1, .slice a2 S.L.length c2, .slice a3 S.C.length c3]) ∧ StAt w' S (.slice a0 S.l.length c0) (.slice a1 S.T.length c1) (.slice a2 S.L.length c2) (.slice a3 S.C.length c3) ∧ Below wx.heap.size wx w') := fun wx h => toState_at S v0 v1 v2 v3 wx hlS (HA.out.below h)
  have HTB : Hid (∀ wx, Below w.heap.size w wx → Calls Try.prog 37 #[.agg #[z0, z1, z2, z3]] wx fun e w' => ∃ a0 c0 a1 c1 a2 c2 a3 c3, e = .returned (.agg #[.slice a0 Z.l.length c0, .slice a1 Z.T.length c1, .slice a2 Z.L.length c2, .slice a3 Z.C.length c3]) ∧ StAt w' Z (.slice a0 Z.l.length c0) (.slice a1 Z.T.length c1) (.slice a2 Z.L.length c2) (.slice a3 Z.C.length c3) ∧ Below wx.heap.size wx w') := fun wx h => toState_at Z z0 z1 z2 z3 wx hlZ (HC.out.below h)
  have HEA : Hid (∀ wx u0 u1 u2 u3 t0 t1 t2 t3, StAt wx S u0 u1 u2 u3 → StAt wx S t0 t1 t2 t3 → Calls Try.prog 33 #[.agg #[u0, u1, u2, u3], .agg #[t0, t1, t2, t3]] wx fun e w' => e = .returned (.bool true) ∧ Below wx.heap.size wx w') := fun wx u0 u1 u2 u3 t0 t1 t2 t3 h1 h2 => eqState_calls S u0 u1 u2 u3 t0 t1 t2 t3 wx hlS h1 h2
  have HEB : Hid (∀ wx u0 u1 u2 u3 t0 t1 t2 t3, StAt wx Z u0 u1 u2 u3 → StAt wx Z t0 t1 t2 t3 → Calls Try.prog 33 #[.agg #[u0, u1, u2, u3], .agg #[t0, t1, t2, t3]] wx fun e w' => e = .returned (.bool true) ∧ Below wx.heap.size wx w') := fun wx u0 u1 u2 u3 t0 t1 t2 t3 h1 h2 => eqState_calls Z u0 u1 u2 u3 t0 t1 t2 t3 wx hlZ h1 h2
  obtain ⟨R, hR⟩ : ∃ R, R = decide (S = Z) := ⟨_, rfl⟩
  have HS : Hid (∀ wx u0 u1 u2 u3 t0 t1 t2 t3, StAt wx S u0 u1 u2 u3 → StAt wx Z t0 t1 t2 t3 → Calls Try.prog 26 #[.agg #[u0, u1, u2, u3], .agg #[t0, t1, t2, t3]] wx fun e w' => e = .returned (.bool R) ∧ Below wx.heap.size wx w') := fun wx u0 u1 u2 u3 t0 t1 t2 t3 h1 h2 => by rw [hR]; exact specSameState_calls S Z u0 u1 u2 u3 t0 t1 t2 t3 wx hlS hlZ h1 h2
  have HI : Hid (∀ wx u0 u1 u2 u3 t0 t1 t2 t3, StAt wx S u0 u1 u2 u3 → StAt wx Z t0 t1 t2 t3 → Calls Try.prog 25 #[.agg #[u0, u1, u2, u3], .agg #[t0, t1, t2, t3]] wx fun e w' => e = .returned (.bool R) ∧ Below wx.heap.size wx w') := fun wx u0 u1 u2 u3 t0 t1 t2 t3 h1 h2 => by rw [hR]; exact sameState_calls S Z u0 u1 u2 u3 t0 t1 t2 t3 wx hlS hlZ h1 h2
  have hne : (R != R) = false := by simp
  clear k1 k2 nA nZ hlS hlZ hR
  go_enter Try.func6, Try.ntmps6
  go_wp2_with fail
  rw [HW.out]
  refine (HZA.out _ hB0).mono ?_
  rintro e w1 ⟨rfl, hW1⟩
  obtain ⟨⟨p0, p1, p2, p3⟩, ⟨e0, e1, e2, e3⟩⟩ := HDS.out _ hW1
  clear HW HRA HRB HZA hB0
  go_wp2_with fail
  refine (HZB.out _ (HF.out _ hW1)).mono ?_
  rintro e w2 ⟨rfl, hb⟩
  have hW2 : Below W.heap.size W w2 := hW1.trans (hb.mono hW1.size)
  clear hb hW1 p0 p1 p2 p3 e0 e1 e2 e3 HZB
  obtain ⟨⟨p0, p1, p2, p3⟩, ⟨e0, e1, e2, e3⟩⟩ := HDS.out _ hW2
  have hWd : Below W.heap.size W w2.drew := hW2.drew
  have SS := HDS.out _ hWd
  have tok : True := trivial
  go_wp2
  go_region_held3 (fun w' => (w'.cell? ⟨w.heap.size, 0, none⟩ = some (v0) ∧ w'.cell? ⟨w.heap.size, 1, none⟩ = some (v1) ∧ w'.cell? ⟨w.heap.size, 2, none⟩ = some (v2) ∧ w'.cell? ⟨w.heap.size, 3, none⟩ = some (v3)) ∧ (w'.cell? ⟨w.heap.size + 1, 0, none⟩ = some (z0) ∧ w'.cell? ⟨w.heap.size + 1, 1, none⟩ = some (z1) ∧ w'.cell? ⟨w.heap.size + 1, 2, none⟩ = some (z2) ∧ w'.cell? ⟨w.heap.size + 1, 3, none⟩ = some (z3))) (first | exact SS | exact SS3 | exact SS4 | exact SS5 | go_keep) (first
    | (go_at_call 37; have _t := tok; refine (HTA.out _ (HF.out _ hWd)).mono ?_; clear tok _t; rintro e w3 ⟨a0, c0, a1, c1, a2, c2, a3, c3, rfl, kA, hb⟩; have hW3 : Below W.heap.size W w3 := hWd.trans (hb.mono hWd.size); have SS3 := HDS.out _ hW3; clear hb)
    | (go_at_call 37; refine (HTB.out _ (HF.out _ hW3)).mono ?_; rintro e w4 ⟨b0, d0, b1, d1, b2, d2, b3, d3, rfl, kB, hb⟩; have hW4 : Below W.heap.size W w4 := hW3.trans (hb.mono hW3.size); have kA' := kA.below hb; have SS4 := HDS.out _ hW4; clear hb)
    | (go_at_call 26; refine (HS.out _ _ _ _ _ _ _ _ _ kA' kB).mono ?_; rintro e w5 ⟨rfl, hb⟩; have hW5 : Below W.heap.size W w5 := hW4.trans (hb.mono hW4.size); have SS5 := HDS.out _ hW5; clear hb))
  clear p0 p1 p2 p3 e0 e1 e2 e3 SS SS3 SS4 SS5 hWd hW2 hW3 hW4 kA kB kA' HS
  obtain ⟨⟨p0, p1, p2, p3⟩, ⟨e0, e1, e2, e3⟩⟩ := HDS.out _ hW5
  go_wp2_with fail
  refine (HTA.out _ (HF.out _ hW5)).mono ?_
  rintro e w6 ⟨a0, c0, a1, c1, a2, c2, a3, c3, rfl, kA, hb⟩
  have hW6 : Below W.heap.size W w6 := hW5.trans (hb.mono hW5.size)
  clear hb hW5 p0 p1 p2 p3 e0 e1 e2 e3
  obtain ⟨X, hX⟩ : ∃ X, X = w6.alloc (.cells #[.slice a0 S.l.length c0, .slice a1 S.T.length c1, .slice a2 S.L.length c2, .slice a3 S.C.length c3] 29) := ⟨_, rfl⟩
  have hmX : Below w6.heap.size w6 X := by rw [hX]; exact (Below.refl _ _).alloc (Nat.le_refl _) _
  have hrX : Row X w6.heap.size #[.slice a0 S.l.length c0, .slice a1 S.T.length c1, .slice a2 S.L.length c2, .slice a3 S.C.length c3] 29 := by rw [hX]; exact row_new _ _ _ rfl
  have kX : StAt X S (.slice a0 S.l.length c0) (.slice a1 S.T.length c1) (.slice a2 S.L.length c2) (.slice a3 S.C.length c3) := kA.below hmX
  have HXA : Hid (∀ wx, Below X.heap.size X wx → (wx.cell? ⟨w6.heap.size, 0, none⟩ = some (.slice a0 S.l.length c0) ∧ wx.cell? ⟨w6.heap.size, 1, none⟩ = some (.slice a1 S.T.length c1) ∧ wx.cell? ⟨w6.heap.size, 2, none⟩ = some (.slice a2 S.L.length c2) ∧ wx.cell? ⟨w6.heap.size, 3, none⟩ = some (.slice a3 S.C.length c3)) ∧ StAt wx S (.slice a0 S.l.length c0) (.slice a1 S.T.length c1) (.slice a2 S.L.length c2) (.slice a3 S.C.length c3)) := fun wx h => ⟨Row.four (hrX.next h), kX.below h⟩
  have hWX : Below W.heap.size W X := hW6.trans (hmX.mono hW6.size)
  have HX : Hid (w6.alloc (.cells #[.slice a0 S.l.length c0, .slice a1 S.T.length c1, .slice a2 S.L.length c2, .slice a3 S.C.length c3] 29) = X) := hX.symm
  clear hX hmX kA kX hrX hW6
  obtain ⟨⟨p0, p1, p2, p3⟩, ⟨e0, e1, e2, e3⟩⟩ := HDS.out _ hWX
  rw [← HX.out] at e0 e1 e2 e3
  go_wp2_with fail
  rw [HX.out]
  refine (HTB.out _ (HF.out _ hWX)).mono ?_
  rintro e w7 ⟨b0, d0, b1, d1, b2, d2, b3, d3, rfl, kB, hb⟩
  have hW7 : Below W.heap.size W w7 := hWX.trans (hb.mono hWX.size)
  have hX7 : Below X.heap.size X w7 := hb
  clear hb hWX p0 p1 p2 p3 e0 e1 e2 e3 HX
  obtain ⟨Y, hY⟩ : ∃ Y, Y = w7.alloc (.cells #[.slice b0 Z.l.length d0, .slice b1 Z.T.length d1, .slice b2 Z.L.length d2, .slice b3 Z.C.length d3] 29) := ⟨_, rfl⟩
  have hmY : Below w7.heap.size w7 Y := by rw [hY]; exact (Below.refl _ _).alloc (Nat.le_refl _) _
  have hrY : Row Y w7.heap.size #[.slice b0 Z.l.length d0, .slice b1 Z.T.length d1, .slice b2 Z.L.length d2, .slice b3 Z.C.length d3] 29 := by rw [hY]; exact row_new _ _ _ rfl
  have kY : StAt Y Z (.slice b0 Z.l.length d0) (.slice b1 Z.T.length d1) (.slice b2 Z.L.length d2) (.slice b3 Z.C.length d3) := kB.below hmY
  have HYA : Hid (∀ wx, Below Y.heap.size Y wx → (wx.cell? ⟨w7.heap.size, 0, none⟩ = some (.slice b0 Z.l.length d0) ∧ wx.cell? ⟨w7.heap.size, 1, none⟩ = some (.slice b1 Z.T.length d1) ∧ wx.cell? ⟨w7.heap.size, 2, none⟩ = some (.slice b2 Z.L.length d2) ∧ wx.cell? ⟨w7.heap.size, 3, none⟩ = some (.slice b3 Z.C.length d3)) ∧ StAt wx Z (.slice b0 Z.l.length d0) (.slice b1 Z.T.length d1) (.slice b2 Z.L.length d2) (.slice b3 Z.C.length d3)) := fun wx h => ⟨Row.four (hrY.next h), kY.below h⟩
  have hWY : Below W.heap.size W Y := hW7.trans (hmY.mono hW7.size)
  have hXY : Below X.heap.size X Y := hX7.trans (hmY.mono hX7.size)
  have hYY : Below Y.heap.size Y Y := Below.refl _ _
  have HY : Hid (w7.alloc (.cells #[.slice b0 Z.l.length d0, .slice b1 Z.T.length d1, .slice b2 Z.L.length d2, .slice b3 Z.C.length d3] 29) = Y) := hY.symm
  clear hY hmY kB kY hrY hW7 hX7
  obtain ⟨x0, x1, x2, x3⟩ := (HXA.out _ hXY).1
  obtain ⟨y0, y1, y2, y3⟩ := (HYA.out _ hYY).1
  rw [← HY.out] at x0 x1 x2 x3 y0 y1 y2 y3
  go_wp2_with fail
  rw [HY.out]
  clear x0 x1 x2 x3 y0 y1 y2 y3 HY
  refine (HI.out _ _ _ _ _ _ _ _ _ (HXA.out _ hXY).2 (HYA.out _ hYY).2).mono ?_
  rintro e w8 ⟨rfl, hb⟩
  have hW8 : Below W.heap.size W w8 := hWY.trans (hb.mono hWY.size)
  have hX8 : Below X.heap.size X w8 := hXY.trans (hb.mono hXY.size)
  have hY8 : Below Y.heap.size Y w8 := hYY.trans (hb.mono hYY.size)
  clear hb hWY hXY hYY HI
  have hVd : Below W.heap.size W w8.drew := hW8.drew
  have hQd : Below X.heap.size X w8.drew := hX8.drew
  obtain ⟨p0, p1, p2, p3⟩ := (HDS.out _ hW8).1
  obtain ⟨⟨x0, x1, x2, x3⟩, -⟩ := HXA.out _ hX8
  have SS := And.intro (HXA.out _ hQd).1 (HDS.out _ hVd).1
  go_wp2
  go_region_held3 (fun w' => (w'.cell? ⟨w6.heap.size, 0, none⟩ = some (.slice a0 S.l.length c0) ∧ w'.cell? ⟨w6.heap.size, 1, none⟩ = some (.slice a1 S.T.length c1) ∧ w'.cell? ⟨w6.heap.size, 2, none⟩ = some (.slice a2 S.L.length c2) ∧ w'.cell? ⟨w6.heap.size, 3, none⟩ = some (.slice a3 S.C.length c3)) ∧ (w'.cell? ⟨w.heap.size, 0, none⟩ = some (v0) ∧ w'.cell? ⟨w.heap.size, 1, none⟩ = some (v1) ∧ w'.cell? ⟨w.heap.size, 2, none⟩ = some (v2) ∧ w'.cell? ⟨w.heap.size, 3, none⟩ = some (v3))) (first | exact SS | exact SS3 | exact SS4 | go_keep) (first
    | (go_at_call 37; refine (HTA.out _ (HF.out _ hVd)).mono ?_; rintro e n0 ⟨y0, t0, y1, t1, y2, t2, y3, t3, rfl, kT, hb3⟩; have hV3 : Below W.heap.size W n0 := hVd.trans (hb3.mono hVd.size); have hQ3 : Below X.heap.size X n0 := hQd.trans (hb3.mono hQd.size); have SS3 := And.intro (HXA.out _ hQ3).1 (HDS.out _ hV3).1)
    | (go_at_call 33; refine (HEA.out _ _ _ _ _ _ _ _ _ (HXA.out _ hQ3).2 kT).mono ?_; rintro e o0 ⟨rfl, hb4⟩; have hV4 : Below W.heap.size W o0 := hV3.trans (hb4.mono hV3.size); have hQ4 : Below X.heap.size X o0 := hQ3.trans (hb4.mono hQ3.size); have SS4 := And.intro (HXA.out _ hQ4).1 (HDS.out _ hV4).1))
  have hW9 : Below W.heap.size W o0 := hV4
  have hY9 : Below Y.heap.size Y o0 := (hY8.drew.trans (hb3.mono hY8.size)).trans (hb4.mono (Nat.le_trans hY8.size hb3.size))
  clear p0 p1 p2 p3 x0 x1 x2 x3 SS SS3 SS4 hVd hQd hV3 hQ3 hV4 hQ4 kT hb3 hb4 hW8 hX8 hY8
  have hVd : Below W.heap.size W o0.drew := hW9.drew
  have hQd : Below Y.heap.size Y o0.drew := hY9.drew
  obtain ⟨p0, p1, p2, p3⟩ := (HDS.out _ hW9).2
  obtain ⟨⟨x0, x1, x2, x3⟩, -⟩ := HYA.out _ hY9
  have SS := And.intro (HYA.out _ hQd).1 (HDS.out _ hVd).2
  go_wp2
  go_region_held3 (fun w' => (w'.cell? ⟨w7.heap.size, 0, none⟩ = some (.slice b0 Z.l.length d0) ∧ w'.cell? ⟨w7.heap.size, 1, none⟩ = some (.slice b1 Z.T.length d1) ∧ w'.cell? ⟨w7.heap.size, 2, none⟩ = some (.slice b2 Z.L.length d2) ∧ w'.cell? ⟨w7.heap.size, 3, none⟩ = some (.slice b3 Z.C.length d3)) ∧ (w'.cell? ⟨w.heap.size + 1, 0, none⟩ = some (z0) ∧ w'.cell? ⟨w.heap.size + 1, 1, none⟩ = some (z1) ∧ w'.cell? ⟨w.heap.size + 1, 2, none⟩ = some (z2) ∧ w'.cell? ⟨w.heap.size + 1, 3, none⟩ = some (z3))) (first | exact SS | exact SS3 | exact SS4 | go_keep) (first
    | (go_at_call 37; refine (HTB.out _ (HF.out _ hVd)).mono ?_; rintro e n1 ⟨y0, t0, y1, t1, y2, t2, y3, t3, rfl, kT, hb3⟩; have hV3 : Below W.heap.size W n1 := hVd.trans (hb3.mono hVd.size); have hQ3 : Below Y.heap.size Y n1 := hQd.trans (hb3.mono hQd.size); have SS3 := And.intro (HYA.out _ hQ3).1 (HDS.out _ hV3).2)
    | (go_at_call 33; refine (HEB.out _ _ _ _ _ _ _ _ _ (HYA.out _ hQ3).2 kT).mono ?_; rintro e o1 ⟨rfl, hb4⟩; have hV4 : Below W.heap.size W o1 := hV3.trans (hb4.mono hV3.size); have hQ4 : Below Y.heap.size Y o1 := hQ3.trans (hb4.mono hQ3.size); have SS4 := And.intro (HYA.out _ hQ4).1 (HDS.out _ hV4).2))
  have HFF : Hid (Below w.heap.size w o1) := HF.out _ hV4
  clear p0 p1 p2 p3 x0 x1 x2 x3 SS SS3 SS4 hVd hQd hV3 hQ3 hV4 hQ4 kT hb3 hb4 hW9 hY9
  go_wp2
  go_ret
  exact ⟨rfl, HFF.out⟩

end Go.Proofs.Ytjphgmknbnedhaa
