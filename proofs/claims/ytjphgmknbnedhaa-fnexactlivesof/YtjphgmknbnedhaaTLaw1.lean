/- The laws on the sum of a tally and on the place of a cell. -/
import Derived.Test.YtjphgmknbnedhaaTFun5
import Derived.Test.YtjphgmknbnedhaaALaw3
namespace Go.Proofs.Ytjphgmknbnedhaa
set_option maxRecDepth 100000
set_option linter.unusedVariables false
open Go.RowKit

theorem Sta.lens {S : Sta} {L : Int} (h : S.sz ≤ L) (hL : L ≤ 1048576) : S.l.length ≤ 1048576 ∧ S.T.length ≤ 1048576 ∧ S.L.length ≤ 1048576 ∧ S.C.length ≤ 1048576 := by
  unfold Sta.sz at h
  omega
theorem Sta.sz_nonneg (S : Sta) : 0 ≤ S.sz := by unfold Sta.sz; omega
theorem toState_at (S : Sta) (v0 v1 v2 v3 : Value) (w : World) (hn : S.l.length ≤ 1048576 ∧ S.T.length ≤ 1048576 ∧ S.L.length ≤ 1048576 ∧ S.C.length ≤ 1048576) (hA : ArgState w S v0 v1 v2 v3) :
    Calls Try.prog 37 #[.agg #[v0, v1, v2, v3]] w fun e w' => ∃ a0 c0 a1 c1 a2 c2 a3 c3, e = .returned (.agg #[.slice a0 S.l.length c0, .slice a1 S.T.length c1, .slice a2 S.L.length c2, .slice a3 S.C.length c3]) ∧ StAt w' S (.slice a0 S.l.length c0) (.slice a1 S.T.length c1) (.slice a2 S.L.length c2) (.slice a3 S.C.length c3) ∧ Below w.heap.size w w' := by
  refine (toState_calls S v0 v1 v2 v3 w hn hA).mono ?_
  rintro e w' ⟨u0, u1, u2, u3, rfl, ho, hb⟩
  have h := ho.at
  obtain ⟨a0, c0, a1, c1, a2, c2, a3, c3, rfl, rfl, rfl, rfl⟩ := h.shape
  exact ⟨a0, c0, a1, c1, a2, c2, a3, c3, rfl, h, hb⟩

set_option maxHeartbeats 8000000 in
theorem fnExactTallyAt_walk (S : Sta) (v0 v1 v2 v3 : Value) (o : ByteArray) (r : Int) (w : World) (hA : ArgState w S v0 v1 v2 v3) (ho : o.size ≤ maxLen) :
    Calls Try.prog 7 #[.agg #[v0, v1, v2, v3], .string o, .int .i64 r] w fun e w' => e = .returned (.bool true) ∧ Below w.heap.size w w' := by
  obtain ⟨W, hW⟩ : ∃ W, W = w.alloc (.cells #[v0, v1, v2, v3] 59) := ⟨_, rfl⟩
  have hB0 : Below w.heap.size w W := by rw [hW]; exact (Below.refl _ _).alloc (Nat.le_refl _) _
  have HRA : Hid (Row W w.heap.size #[v0, v1, v2, v3] 59) := by rw [hW]; exact row_new w _ _ rfl
  have HW : Hid (w.alloc (.cells #[v0, v1, v2, v3] 59) = W) := hW.symm
  have HA : Hid (ArgState w S v0 v1 v2 v3) := hA
  have HZ : Hid (∀ wx, Below w.heap.size w wx → Calls Try.prog 36 #[.agg #[v0, v1, v2, v3], .int .i64 1048576] wx fun e w' => e = .returned (.int .i64 (leftOf 1048576 S.sz)) ∧ Below wx.heap.size wx w') := fun wx h => szState_calls S v0 v1 v2 v3 1048576 wx wx (by omega) (by omega) (HA.out.below h)
  clear hW hA
  unfold maxLen at ho
  by_cases hs : (1048576 : Int) < o.size
  · go_enter Try.func7, Try.ntmps7
    go_wp2
    rw [HW.out]
    go_ret
    exact ⟨rfl, hB0⟩
  by_cases k1 : S.sz ≤ 1048576
  case neg =>
    rw [leftOf_no k1] at HZ
    clear k1
    go_enter Try.func7, Try.ntmps7
    go_wp2_with fail
    rw [HW.out]
    refine (HZ.out _ hB0).mono ?_
    rintro e w1 ⟨rfl, hb⟩
    have HF : Hid (Below w.heap.size w w1) := hB0.trans (hb.mono hB0.size)
    clear hb
    go_wp2
    go_ret
    exact ⟨rfl, HF.out⟩
  rw [leftOf_yes k1] at HZ
  have hlen := Sta.lens k1 (Int.le_refl _)
  have nA := S.sz_nonneg
  have q1 : ¬ ((1048576 : Int) - S.sz < 0) := by omega
  have HTA : Hid (∀ wx, Below w.heap.size w wx → Calls Try.prog 37 #[.agg #[v0, v1, v2, v3]] wx fun e w' => ∃ a0 c0 a1 c1 a2 c2 a3 c3, e = .returned (.agg #[.slice a0 S.l.length c0, .slice a1 S.T.length c1, .slice a2 S.L.length c2, .slice a3 S.C.length c3]) ∧ StAt w' S (.slice a0 S.l.length c0) (.slice a1 S.T.length c1) (.slice a2 S.L.length c2) (.slice a3 S.C.length c3) ∧ Below wx.heap.size wx w') := fun wx h => toState_at S v0 v1 v2 v3 wx hlen (HA.out.below h)
  have HEA : Hid (∀ wx u0 u1 u2 u3 t0 t1 t2 t3, StAt wx S u0 u1 u2 u3 → StAt wx S t0 t1 t2 t3 → Calls Try.prog 33 #[.agg #[u0, u1, u2, u3], .agg #[t0, t1, t2, t3]] wx fun e w' => e = .returned (.bool true) ∧ Below wx.heap.size wx w') := fun wx u0 u1 u2 u3 t0 t1 t2 t3 h1 h2 => eqState_calls S u0 u1 u2 u3 t0 t1 t2 t3 wx hlen h1 h2
  obtain ⟨R, hR⟩ : ∃ R, R = tallyAt S.T o r := ⟨_, rfl⟩
  have HS : Hid (∀ wx u0 u1 u2 u3, StAt wx S u0 u1 u2 u3 → Calls Try.prog 28 #[.agg #[u0, u1, u2, u3], .string o, .int .i64 r] wx fun e w' => e = .returned (.int .i64 R) ∧ Below wx.heap.size wx w') := fun wx u0 u1 u2 u3 h => by rw [hR]; exact specTallyAt_calls S u0 u1 u2 u3 o r wx hlen.2.1 h
  have HI : Hid (∀ wx u0 u1 u2 u3, StAt wx S u0 u1 u2 u3 → Calls Try.prog 17 #[.agg #[u0, u1, u2, u3], .string o, .int .i64 r] wx fun e w' => e = .returned (.int .i64 R) ∧ Below wx.heap.size wx w') := fun wx u0 u1 u2 u3 h => by rw [hR]; exact tallyAt_calls S u0 u1 u2 u3 o r wx hlen.2.1 h
  clear hR
  have hne : (R != R) = false := by simp
  clear k1 nA hlen
  go_enter Try.func7, Try.ntmps7
  go_wp2_with fail
  rw [HW.out]
  refine (HZ.out _ hB0).mono ?_
  rintro e w1 ⟨rfl, hb⟩
  have hW1 : Below W.heap.size W w1 := hb
  have HDA : Hid (∀ wx, Below W.heap.size W wx → wx.cell? ⟨w.heap.size, 0, none⟩ = some (v0) ∧ wx.cell? ⟨w.heap.size, 1, none⟩ = some (v1) ∧ wx.cell? ⟨w.heap.size, 2, none⟩ = some (v2) ∧ wx.cell? ⟨w.heap.size, 3, none⟩ = some (v3)) := fun wx h => Row.four (HRA.out.next h)
  have HF : Hid (∀ wx, Below W.heap.size W wx → Below w.heap.size w wx) := fun wx h => hB0.trans (h.mono hB0.size)
  clear HW hb HZ HRA hB0
  obtain ⟨p0, p1, p2, p3⟩ := HDA.out _ hW1
  go_wp2_with fail
  refine (HTA.out _ (HF.out _ hW1)).mono ?_
  rintro e w2 ⟨a0, c0, a1, c1, a2, c2, a3, c3, rfl, kA, hb⟩
  have hW2 : Below W.heap.size W w2 := hW1.trans (hb.mono hW1.size)
  clear hb hW1 p0 p1 p2 p3
  go_wp2_with fail
  refine (HS.out _ _ _ _ _ kA).mono ?_
  rintro e w4 ⟨rfl, hb⟩
  have hW4 : Below W.heap.size W w4 := hW2.trans (hb.mono hW2.size)
  clear hb hW2 kA
  obtain ⟨p0, p1, p2, p3⟩ := HDA.out _ hW4
  go_wp2_with fail
  refine (HTA.out _ (HF.out _ hW4)).mono ?_
  rintro e w5 ⟨b0, d0, b1, d1, b2, d2, b3, d3, rfl, kB, hb⟩
  have hW5 : Below W.heap.size W w5 := hW4.trans (hb.mono hW4.size)
  clear hb hW4 p0 p1 p2 p3
  obtain ⟨X, hX⟩ : ∃ X, X = w5.alloc (.cells #[.slice b0 S.l.length d0, .slice b1 S.T.length d1, .slice b2 S.L.length d2, .slice b3 S.C.length d3] 29) := ⟨_, rfl⟩
  have hmX : Below w5.heap.size w5 X := by rw [hX]; exact (Below.refl _ _).alloc (Nat.le_refl _) _
  have hrX : Row X w5.heap.size #[.slice b0 S.l.length d0, .slice b1 S.T.length d1, .slice b2 S.L.length d2, .slice b3 S.C.length d3] 29 := by rw [hX]; exact row_new _ _ _ rfl
  have kX : StAt X S (.slice b0 S.l.length d0) (.slice b1 S.T.length d1) (.slice b2 S.L.length d2) (.slice b3 S.C.length d3) := kB.below hmX
  have HXA : Hid (∀ wx, Below X.heap.size X wx → (wx.cell? ⟨w5.heap.size, 0, none⟩ = some (.slice b0 S.l.length d0) ∧ wx.cell? ⟨w5.heap.size, 1, none⟩ = some (.slice b1 S.T.length d1) ∧ wx.cell? ⟨w5.heap.size, 2, none⟩ = some (.slice b2 S.L.length d2) ∧ wx.cell? ⟨w5.heap.size, 3, none⟩ = some (.slice b3 S.C.length d3)) ∧ StAt wx S (.slice b0 S.l.length d0) (.slice b1 S.T.length d1) (.slice b2 S.L.length d2) (.slice b3 S.C.length d3)) := fun wx h => ⟨Row.four (hrX.next h), kX.below h⟩
  have hWX : Below W.heap.size W X := hW5.trans (hmX.mono hW5.size)
  have hXX : Below X.heap.size X X := Below.refl _ _
  have HX : Hid (w5.alloc (.cells #[.slice b0 S.l.length d0, .slice b1 S.T.length d1, .slice b2 S.L.length d2, .slice b3 S.C.length d3] 29) = X) := hX.symm
  clear hX hmX kB kX hrX hW5
  obtain ⟨x0, x1, x2, x3⟩ := (HXA.out _ hXX).1
  rw [← HX.out] at x0 x1 x2 x3
  go_wp2_with fail
  rw [HX.out]
  clear x0 x1 x2 x3
  refine (HI.out _ _ _ _ _ (HXA.out _ hXX).2).mono ?_
  rintro e c1' ⟨rfl, hb⟩
  have hVc : Below W.heap.size W c1' := hWX.trans (hb.mono hWX.size)
  have hXc : Below X.heap.size X c1' := hXX.trans (hb.mono hXX.size)
  clear hb hWX hXX HX
  have hVd : Below W.heap.size W c1'.drew := hVc.drew
  have hXd : Below X.heap.size X c1'.drew := hXc.drew
  obtain ⟨p0, p1, p2, p3⟩ := HDA.out _ hVc
  obtain ⟨⟨x0, x1, x2, x3⟩, -⟩ := HXA.out _ hXc
  have SS := And.intro (HXA.out _ hXd).1 (HDA.out _ hVd)
  clear HI
  go_wp2
  go_region_held3 (fun w' => (w'.cell? ⟨w5.heap.size, 0, none⟩ = some (.slice b0 S.l.length d0) ∧ w'.cell? ⟨w5.heap.size, 1, none⟩ = some (.slice b1 S.T.length d1) ∧ w'.cell? ⟨w5.heap.size, 2, none⟩ = some (.slice b2 S.L.length d2) ∧ w'.cell? ⟨w5.heap.size, 3, none⟩ = some (.slice b3 S.C.length d3)) ∧ (w'.cell? ⟨w.heap.size, 0, none⟩ = some (v0) ∧ w'.cell? ⟨w.heap.size, 1, none⟩ = some (v1) ∧ w'.cell? ⟨w.heap.size, 2, none⟩ = some (v2) ∧ w'.cell? ⟨w.heap.size, 3, none⟩ = some (v3))) (first | exact SS | exact SS3 | exact SS4 | go_keep) (first
    | (go_at_call 37; refine (HTA.out _ (HF.out _ hVd)).mono ?_; rintro e n0 ⟨y0, z0, y1, z1, y2, z2, y3, z3, rfl, kY, hb3⟩; have hV3 : Below W.heap.size W n0 := hVd.trans (hb3.mono hVd.size); have hX3 : Below X.heap.size X n0 := hXd.trans (hb3.mono hXd.size); have SS3 := And.intro (HXA.out _ hX3).1 (HDA.out _ hV3))
    | (go_at_call 33; refine (HEA.out _ _ _ _ _ _ _ _ _ (HXA.out _ hX3).2 kY).mono ?_; rintro e o0 ⟨rfl, hb4⟩; have hV4 : Below W.heap.size W o0 := hV3.trans (hb4.mono hV3.size); have hX4 : Below X.heap.size X o0 := hX3.trans (hb4.mono hX3.size); have SS4 := And.intro (HXA.out _ hX4).1 (HDA.out _ hV4)))
  have HFF : Hid (Below w.heap.size w o0) := HF.out _ hV4
  clear p0 p1 p2 p3 x0 x1 x2 x3 SS SS3 SS4 hVd hXd hV3 hX3 hV4 hX4 kY hb3 hb4 hVc hXc
  go_wp2
  go_ret
  exact ⟨rfl, HFF.out⟩

end Go.Proofs.Ytjphgmknbnedhaa
