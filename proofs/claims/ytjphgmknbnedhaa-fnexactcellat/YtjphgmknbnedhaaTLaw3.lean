/- The law on the place of a cell. -/
import Derived.Test.YtjphgmknbnedhaaTLaw1
namespace Go.Proofs.Ytjphgmknbnedhaa
set_option maxRecDepth 100000
set_option linter.unusedVariables false
open Go.RowKit


set_option maxHeartbeats 8000000 in
theorem fnExactCellAt_walk (S : Sta) (v0 v1 v2 v3 : Value) (r s : Int) (w : World) (hA : ArgState w S v0 v1 v2 v3)  :
    Calls Try.prog 9 #[.agg #[v0, v1, v2, v3], .agg #[.int .i64 r, .int .i64 s]] w fun e w' => e = .returned (.bool true) ∧ Below w.heap.size w w' := by
  obtain ⟨W, hW⟩ : ∃ W, W = (w.alloc (.cells #[v0, v1, v2, v3] 59)).alloc (.cells #[.int .i64 r, .int .i64 s] 68) := ⟨_, rfl⟩
  have hB0 : Below w.heap.size w W := by rw [hW]; exact ((Below.refl _ _).alloc (Nat.le_refl _) _).alloc (by simp) _
  have HRA : Hid (Row W w.heap.size #[v0, v1, v2, v3] 59) := by rw [hW]; exact (row_new w _ _ rfl).alloc _
  have HRB : Hid (Row W (w.heap.size + 1) #[.int .i64 r, .int .i64 s] 68) := by rw [hW]; exact row_new _ _ _ (by simp)
  have HW : Hid ((w.alloc (.cells #[v0, v1, v2, v3] 59)).alloc (.cells #[.int .i64 r, .int .i64 s] 68) = W) := hW.symm
  have HA : Hid (ArgState w S v0 v1 v2 v3) := hA
  have HZ : Hid (∀ wx, Below w.heap.size w wx → Calls Try.prog 36 #[.agg #[v0, v1, v2, v3], .int .i64 1048576] wx fun e w' => e = .returned (.int .i64 (leftOf 1048576 S.sz)) ∧ Below wx.heap.size wx w') := fun wx h => szState_calls S v0 v1 v2 v3 1048576 wx wx (by omega) (by omega) (HA.out.below h)
  clear hW hA

  by_cases k1 : S.sz ≤ 1048576
  case neg =>
    rw [leftOf_no k1] at HZ
    clear k1
    go_enter Try.func9, Try.ntmps9
    go_wp2_with fail
    rw [HW.out]
    refine (HZ.out _ hB0).mono ?_
    rintro e w1 ⟨rfl, hb⟩
    have HF : Hid (Below w.heap.size w w1) := hB0.trans (hb.mono hB0.size)
    clear hb
    go_wp2
    go_ret
    exact ⟨rfl, HF.out⟩
  rw [leftOf_yes k1] at HZ
  have hlen := Sta.lens k1 (Int.le_refl _)
  have nA := S.sz_nonneg
  have q1 : ¬ ((1048576 : Int) - S.sz < 0) := by omega
  have HTA : Hid (∀ wx, Below w.heap.size w wx → Calls Try.prog 37 #[.agg #[v0, v1, v2, v3]] wx fun e w' => ∃ a0 c0 a1 c1 a2 c2 a3 c3, e = .returned (.agg #[.slice a0 S.l.length c0, .slice a1 S.T.length c1, .slice a2 S.L.length c2, .slice a3 S.C.length c3]) ∧ StAt w' S (.slice a0 S.l.length c0) (.slice a1 S.T.length c1) (.slice a2 S.L.length c2) (.slice a3 S.C.length c3) ∧ Below wx.heap.size wx w') := fun wx h => toState_at S v0 v1 v2 v3 wx hlen (HA.out.below h)
  have HEA : Hid (∀ wx u0 u1 u2 u3 t0 t1 t2 t3, StAt wx S u0 u1 u2 u3 → StAt wx S t0 t1 t2 t3 → Calls Try.prog 33 #[.agg #[u0, u1, u2, u3], .agg #[t0, t1, t2, t3]] wx fun e w' => e = .returned (.bool true) ∧ Below wx.heap.size wx w') := fun wx u0 u1 u2 u3 t0 t1 t2 t3 h1 h2 => eqState_calls S u0 u1 u2 u3 t0 t1 t2 t3 wx hlen h1 h2
  obtain ⟨R, hR⟩ : ∃ R, R = cellAt S.C r s 0 := ⟨_, rfl⟩
  have HS : Hid (∀ wx u0 u1 u2 u3, StAt wx S u0 u1 u2 u3 → Calls Try.prog 30 #[.agg #[u0, u1, u2, u3], .agg #[.int .i64 r, .int .i64 s]] wx fun e w' => e = .returned (.int .i64 R) ∧ Below wx.heap.size wx w') := fun wx u0 u1 u2 u3 h => by rw [hR]; exact specCellAt_calls S u0 u1 u2 u3 r s wx hlen.2.2.2 h
  have HI : Hid (∀ wx u0 u1 u2 u3, StAt wx S u0 u1 u2 u3 → Calls Try.prog 16 #[.agg #[u0, u1, u2, u3], .agg #[.int .i64 r, .int .i64 s]] wx fun e w' => e = .returned (.int .i64 R) ∧ Below wx.heap.size wx w') := fun wx u0 u1 u2 u3 h => by rw [hR]; exact cellAt_calls S u0 u1 u2 u3 r s wx hlen.2.2.2 h
  clear hR
  have hne : (R != R) = false := by simp
  clear k1 nA hlen
  go_enter Try.func9, Try.ntmps9
  go_wp2_with fail
  rw [HW.out]
  refine (HZ.out _ hB0).mono ?_
  rintro e w1 ⟨rfl, hb⟩
  have hW1 : Below W.heap.size W w1 := hb
  have HDA : Hid (∀ wx, Below W.heap.size W wx → wx.cell? ⟨w.heap.size, 0, none⟩ = some (v0) ∧ wx.cell? ⟨w.heap.size, 1, none⟩ = some (v1) ∧ wx.cell? ⟨w.heap.size, 2, none⟩ = some (v2) ∧ wx.cell? ⟨w.heap.size, 3, none⟩ = some (v3)) := fun wx h => Row.four (HRA.out.next h)
  have HDB : Hid (∀ wx, Below W.heap.size W wx → wx.cell? ⟨w.heap.size + 1, 0, none⟩ = some (.int .i64 r) ∧ wx.cell? ⟨w.heap.size + 1, 1, none⟩ = some (.int .i64 s)) := fun wx h => ⟨(HRB.out.next h).cell 0 rfl, (HRB.out.next h).cell 1 rfl⟩
  have HF : Hid (∀ wx, Below W.heap.size W wx → Below w.heap.size w wx) := fun wx h => hB0.trans (h.mono hB0.size)
  clear HW hb HZ HRA hB0 HRB
  obtain ⟨p0, p1, p2, p3⟩ := HDA.out _ hW1
  obtain ⟨e0, e1⟩ := HDB.out _ hW1
  have hWd : Below W.heap.size W w1.drew := hW1.drew
  have HDS : Hid (∀ wx, Below W.heap.size W wx → (wx.cell? ⟨w.heap.size, 0, none⟩ = some (v0) ∧ wx.cell? ⟨w.heap.size, 1, none⟩ = some (v1) ∧ wx.cell? ⟨w.heap.size, 2, none⟩ = some (v2) ∧ wx.cell? ⟨w.heap.size, 3, none⟩ = some (v3)) ∧ wx.cell? ⟨w.heap.size + 1, 0, none⟩ = some (.int .i64 r) ∧ wx.cell? ⟨w.heap.size + 1, 1, none⟩ = some (.int .i64 s)) := fun wx h => ⟨HDA.out _ h, HDB.out _ h⟩
  have SS := HDS.out _ hWd
  go_wp2
  go_region_held3 (fun w' => (w'.cell? ⟨w.heap.size, 0, none⟩ = some (v0) ∧ w'.cell? ⟨w.heap.size, 1, none⟩ = some (v1) ∧ w'.cell? ⟨w.heap.size, 2, none⟩ = some (v2) ∧ w'.cell? ⟨w.heap.size, 3, none⟩ = some (v3)) ∧ w'.cell? ⟨w.heap.size + 1, 0, none⟩ = some (.int .i64 r) ∧ w'.cell? ⟨w.heap.size + 1, 1, none⟩ = some (.int .i64 s)) (first | exact SS | exact SS2 | exact SS3 | exact SS4 | go_keep) (first
    | (go_at_call 37; refine (HTA.out _ (HF.out _ hWd)).mono ?_; rintro e w2 ⟨a0, c0, a1, c1, a2, c2, a3, c3, rfl, kA, hb⟩; have hW2 : Below W.heap.size W w2 := hWd.trans (hb.mono hWd.size); have SS2 := HDS.out _ hW2; clear hb)
    | (go_at_call 41; refine (toDot_calls _ _ _).mono ?_; rintro e w3 ⟨rfl, hb⟩; unfold dot; have hW3 : Below W.heap.size W w3 := hW2.trans (hb.mono hW2.size); have kB := kA.below hb; have SS3 := HDS.out _ hW3; clear hb)
    | (go_at_call 30; refine (HS.out _ _ _ _ _ kB).mono ?_; rintro e w4 ⟨rfl, hb⟩; have hW4 : Below W.heap.size W w4 := hW3.trans (hb.mono hW3.size); have SS4 := HDS.out _ hW4; clear hb))
  clear p0 p1 p2 p3 e0 e1 SS SS2 SS3 SS4 hWd hW2 hW3 hW1 kA kB HS
  obtain ⟨p0, p1, p2, p3⟩ := HDA.out _ hW4
  obtain ⟨e0, e1⟩ := HDB.out _ hW4
  go_wp2_with fail
  refine (HTA.out _ (HF.out _ hW4)).mono ?_
  rintro e w5 ⟨b0, d0, b1, d1, b2, d2, b3, d3, rfl, kB, hb⟩
  have hW5 : Below W.heap.size W w5 := hW4.trans (hb.mono hW4.size)
  clear hb hW4 p0 p1 p2 p3 e0 e1
  obtain ⟨X, hX⟩ : ∃ X, X = w5.alloc (.cells #[.slice b0 S.l.length d0, .slice b1 S.T.length d1, .slice b2 S.L.length d2, .slice b3 S.C.length d3] 29) := ⟨_, rfl⟩
  have hmX : Below w5.heap.size w5 X := by rw [hX]; exact (Below.refl _ _).alloc (Nat.le_refl _) _
  have hrX : Row X w5.heap.size #[.slice b0 S.l.length d0, .slice b1 S.T.length d1, .slice b2 S.L.length d2, .slice b3 S.C.length d3] 29 := by rw [hX]; exact row_new _ _ _ rfl
  have kX : StAt X S (.slice b0 S.l.length d0) (.slice b1 S.T.length d1) (.slice b2 S.L.length d2) (.slice b3 S.C.length d3) := kB.below hmX
  have HXA : Hid (∀ wx, Below X.heap.size X wx → (wx.cell? ⟨w5.heap.size, 0, none⟩ = some (.slice b0 S.l.length d0) ∧ wx.cell? ⟨w5.heap.size, 1, none⟩ = some (.slice b1 S.T.length d1) ∧ wx.cell? ⟨w5.heap.size, 2, none⟩ = some (.slice b2 S.L.length d2) ∧ wx.cell? ⟨w5.heap.size, 3, none⟩ = some (.slice b3 S.C.length d3)) ∧ StAt wx S (.slice b0 S.l.length d0) (.slice b1 S.T.length d1) (.slice b2 S.L.length d2) (.slice b3 S.C.length d3)) := fun wx h => ⟨Row.four (hrX.next h), kX.below h⟩
  have hWX : Below W.heap.size W X := hW5.trans (hmX.mono hW5.size)
  have hXX : Below X.heap.size X X := Below.refl _ _
  have HX : Hid (w5.alloc (.cells #[.slice b0 S.l.length d0, .slice b1 S.T.length d1, .slice b2 S.L.length d2, .slice b3 S.C.length d3] 29) = X) := hX.symm
  clear hX hmX kB kX hrX hW5
  have hWd : Below W.heap.size W X.drew := hWX.drew
  have hXd : Below X.heap.size X X.drew := hXX.drew
  have HDX : Hid (∀ wx, Below W.heap.size W wx → Below X.heap.size X wx → (wx.cell? ⟨w5.heap.size, 0, none⟩ = some (.slice b0 S.l.length d0) ∧ wx.cell? ⟨w5.heap.size, 1, none⟩ = some (.slice b1 S.T.length d1) ∧ wx.cell? ⟨w5.heap.size, 2, none⟩ = some (.slice b2 S.L.length d2) ∧ wx.cell? ⟨w5.heap.size, 3, none⟩ = some (.slice b3 S.C.length d3)) ∧ wx.cell? ⟨w.heap.size + 1, 0, none⟩ = some (.int .i64 r) ∧ wx.cell? ⟨w.heap.size + 1, 1, none⟩ = some (.int .i64 s)) := fun wx h h' => ⟨(HXA.out _ h').1, HDB.out _ h⟩
  have SS := HDX.out _ hWd hXd
  obtain ⟨x0, x1, x2, x3⟩ := (HXA.out _ hXX).1
  obtain ⟨e0, e1⟩ := HDB.out _ hWX
  rw [← HX.out] at x0 x1 x2 x3 e0 e1
  clear HDS
  go_wp2
  rw [HX.out]
  rw [HX.out] at x0 x1 x2 x3 e0 e1
  go_region_held3 (fun w' => (w'.cell? ⟨w5.heap.size, 0, none⟩ = some (.slice b0 S.l.length d0) ∧ w'.cell? ⟨w5.heap.size, 1, none⟩ = some (.slice b1 S.T.length d1) ∧ w'.cell? ⟨w5.heap.size, 2, none⟩ = some (.slice b2 S.L.length d2) ∧ w'.cell? ⟨w5.heap.size, 3, none⟩ = some (.slice b3 S.C.length d3)) ∧ w'.cell? ⟨w.heap.size + 1, 0, none⟩ = some (.int .i64 r) ∧ w'.cell? ⟨w.heap.size + 1, 1, none⟩ = some (.int .i64 s)) (first | exact SS | exact SS2 | exact SS3 | go_keep) (first
    | (go_at_call 41; refine (toDot_calls _ _ _).mono ?_; rintro e w6 ⟨rfl, hb⟩; unfold dot; have hW6 : Below W.heap.size W w6 := hWd.trans (hb.mono hWd.size); have hX6 : Below X.heap.size X w6 := hXd.trans (hb.mono hXd.size); have SS2 := HDX.out _ hW6 hX6; clear hb)
    | (go_at_call 16; refine (HI.out _ _ _ _ _ (HXA.out _ hX6).2).mono ?_; rintro e c1' ⟨rfl, hb⟩; have hVc : Below W.heap.size W c1' := hW6.trans (hb.mono hW6.size); have hXc : Below X.heap.size X c1' := hX6.trans (hb.mono hX6.size); have SS3 := HDX.out _ hVc hXc; clear hb))
  clear x0 x1 x2 x3 e0 e1 SS SS2 SS3 hWd hXd hW6 hX6 hWX hXX HX HDX
  have hVd : Below W.heap.size W c1'.drew := hVc.drew
  have hXd : Below X.heap.size X c1'.drew := hXc.drew
  obtain ⟨p0, p1, p2, p3⟩ := HDA.out _ hVc
  obtain ⟨⟨x0, x1, x2, x3⟩, -⟩ := HXA.out _ hXc
  have SS := And.intro (HXA.out _ hXd).1 (HDA.out _ hVd)
  clear HI
  go_wp2
  go_region_held3 (fun w' => (w'.cell? ⟨w5.heap.size, 0, none⟩ = some (.slice b0 S.l.length d0) ∧ w'.cell? ⟨w5.heap.size, 1, none⟩ = some (.slice b1 S.T.length d1) ∧ w'.cell? ⟨w5.heap.size, 2, none⟩ = some (.slice b2 S.L.length d2) ∧ w'.cell? ⟨w5.heap.size, 3, none⟩ = some (.slice b3 S.C.length d3)) ∧ (w'.cell? ⟨w.heap.size, 0, none⟩ = some (v0) ∧ w'.cell? ⟨w.heap.size, 1, none⟩ = some (v1) ∧ w'.cell? ⟨w.heap.size, 2, none⟩ = some (v2) ∧ w'.cell? ⟨w.heap.size, 3, none⟩ = some (v3))) (first | exact SS | exact SS3 | exact SS4 | go_keep) (first
    | (go_at_call 37; refine (HTA.out _ (HF.out _ hVd)).mono ?_; rintro e n0 ⟨y0, z0, y1, z1, y2, z2, y3, z3, rfl, kY, hb3⟩; have hV3 : Below W.heap.size W n0 := hVd.trans (hb3.mono hVd.size); have hX3 : Below X.heap.size X n0 := hXd.trans (hb3.mono hXd.size); have SS3 := And.intro (HXA.out _ hX3).1 (HDA.out _ hV3))
    | (go_at_call 33; refine (HEA.out _ _ _ _ _ _ _ _ _ (HXA.out _ hX3).2 kY).mono ?_; rintro e o0 ⟨rfl, hb4⟩; have hV4 : Below W.heap.size W o0 := hV3.trans (hb4.mono hV3.size); have hX4 : Below X.heap.size X o0 := hX3.trans (hb4.mono hX3.size); have SS4 := And.intro (HXA.out _ hX4).1 (HDA.out _ hV4)))
  have HFF : Hid (Below w.heap.size w o0) := HF.out _ hV4
  clear p0 p1 p2 p3 x0 x1 x2 x3 SS SS3 SS4 hVd hXd hV3 hX3 hV4 hX4 kY hb3 hb4 hVc hXc
  go_wp2
  go_ret
  exact ⟨rfl, HFF.out⟩

end Go.Proofs.Ytjphgmknbnedhaa
