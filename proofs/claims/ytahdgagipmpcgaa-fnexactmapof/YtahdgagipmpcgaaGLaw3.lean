/- The law on the values of a key. -/
import Derived.Test.YtahdgagipmpcgaaGBase
import Derived.Test.YtahdgagipmpcgaaGVals
namespace Go.Proofs.Ytahdgagipmpcgaa
set_option maxRecDepth 100000
set_option linter.unusedVariables false
open Go.RowKit

set_option maxHeartbeats 16000000 in
theorem fnExactMapOf_walk (S : Sta) (v0 v1 v2 v3 : Value) (o y : ByteArray) (w : World) (hA : ArgState w S v0 v1 v2 v3) (ho : o.size ≤ maxLen) (hy : y.size ≤ maxLen) :
    Calls Try.prog 4 #[.agg #[v0, v1, v2, v3], .string o, .string y] w fun e w' => e = .returned (.bool true) ∧ Below w.heap.size w w' := by
  obtain ⟨W, hW⟩ : ∃ W, W = w.alloc (.cells #[v0, v1, v2, v3] 27) := ⟨_, rfl⟩
  have hB0 : Below w.heap.size w W := by rw [hW]; exact (Below.refl _ _).alloc (Nat.le_refl _) _
  have HRA : Hid (Row W w.heap.size #[v0, v1, v2, v3] 27) := by rw [hW]; exact row_new w _ _ rfl
  have HW : Hid (w.alloc (.cells #[v0, v1, v2, v3] 27) = W) := hW.symm
  have HA : Hid (ArgState w S v0 v1 v2 v3) := hA
  have HZ : Hid (∀ wx, Below w.heap.size w wx → Calls Try.prog 9 #[.agg #[v0, v1, v2, v3], .int .i64 1048576] wx fun e w' => e = .returned (.int .i64 (leftOf 1048576 S.sz)) ∧ Below wx.heap.size wx w') := fun wx h => szState_calls S v0 v1 v2 v3 1048576 wx wx (by omega) (by omega) (HA.out.below h)
  clear hW hA
  unfold maxLen at ho hy
  by_cases hs : (1048576 : Int) < o.size
  · go_enter Try.func4, Try.ntmps4
    go_wp2
    rw [HW.out]
    go_ret
    exact ⟨rfl, hB0⟩
  by_cases ht : (1048576 : Int) < y.size
  · go_enter Try.func4, Try.ntmps4
    go_wp2
    rw [HW.out]
    go_ret
    exact ⟨rfl, hB0⟩
  by_cases k1 : S.sz ≤ 1048576
  case neg =>
    rw [leftOf_no k1] at HZ
    clear k1
    go_enter Try.func4, Try.ntmps4
    go_wp2_with fail
    rw [HW.out]
    refine (HZ.out _ hB0).mono ?_
    rintro e w1 ⟨rfl, hb⟩
    have HF : Hid (Below w.heap.size w w1) := hB0.trans (hb.mono hB0.size)
    clear hb
    go_wp2
    go_ret
    exact ⟨rfl, HF.out⟩
  rw [leftOf_yes k1] at HZ
  have hlen := Sta.lens k1 (Int.le_refl _)
  have nA := S.sz_nonneg
  have q1 : ¬ ((1048576 : Int) - S.sz < 0) := by omega
  have hst : ∀ a ∈ S.L, a.o.size ≤ 1048576 ∧ a.y.size ≤ 1048576 := fun a ha => by
    have h1 := sz_mem a S.L ha
    unfold Sta.sz at k1
    omega
  have HTA : Hid (∀ wx, Below w.heap.size w wx → Calls Try.prog 11 #[.agg #[v0, v1, v2, v3]] wx fun e w' => ∃ b0 d0 b1 d1 b2 d2 b3 d3, e = .returned (.agg #[.slice b0 S.l.length d0, .slice b1 S.T.length d1, .slice b2 S.L.length d2, .slice b3 S.C.length d3]) ∧ OwnSt w' wx.heap.size w'.heap.size S (.slice b0 S.l.length d0) (.slice b1 S.T.length d1) (.slice b2 S.L.length d2) (.slice b3 S.C.length d3) ∧ Below wx.heap.size wx w') := fun wx h => toState_own S v0 v1 v2 v3 wx hlen (HA.out.below h)
  have HEA : Hid (∀ wx u0 u1 u2 u3 t0 t1 t2 t3, StAt wx S u0 u1 u2 u3 → StAt wx S t0 t1 t2 t3 → Calls Try.prog 14 #[.agg #[u0, u1, u2, u3], .agg #[t0, t1, t2, t3]] wx fun e w' => e = .returned (.bool true) ∧ Below wx.heap.size wx w') := fun wx u0 u1 u2 u3 t0 t1 t2 t3 h1 h2 => eqState_calls S u0 u1 u2 u3 t0 t1 t2 t3 wx hlen h1 h2
  obtain ⟨R, hR⟩ : ∃ R, R = valsL S.L o y := ⟨_, rfl⟩
  have hRn : R.length ≤ 1048576 := by
    have : R.length ≤ S.L.length := by rw [hR]; exact valsL_len _ _ _
    omega
  have HS : Hid (∀ wx u0 u1 u2 u3, StAt wx S u0 u1 u2 u3 → Calls Try.prog 18 #[.agg #[u0, u1, u2, u3], .string o, .string y] wx fun e w' => ∃ u, e = .returned u ∧ Rw w' wx.heap.size w'.heap.size 3 1 u R.length (intV R) ∧ Below wx.heap.size wx w') := fun wx u0 u1 u2 u3 h => (specMapOf_calls S u0 u1 u2 u3 o y wx hlen.2.2.1 h).mono (by rintro e w' ⟨u, rfl, h1, h2⟩; rw [hR]; exact ⟨u, rfl, Rw.new h1, h2⟩)
  have HI : Hid (∀ wx u0 u1 u2 u3, StAt wx S u0 u1 u2 u3 → Calls Try.prog 19 #[.agg #[u0, u1, u2, u3], .string o, .string y] wx fun e w' => ∃ u, e = .returned u ∧ Rw w' wx.heap.size w'.heap.size 3 1 u R.length (intV R) ∧ Below wx.heap.size wx w') := fun wx u0 u1 u2 u3 h => (mapOf_calls S u0 u1 u2 u3 o y wx hlen.2.2.1 hst h).mono (by rintro e w' ⟨u, rfl, h1, h2⟩; rw [hR]; exact ⟨u, rfl, Rw.new h1, h2⟩)
  have HEL : Hid (∀ wx va vb, IntsAt wx va R → IntsAt wx vb R → Calls Try.prog 20 #[va, vb] wx fun e w' => e = .returned (.bool true) ∧ Below wx.heap.size wx w') := fun wx va vb h1 h2 => eqInts_calls hRn wx h1 h2
  have HMS : Hid (∀ wx lo hi u0 u1 u2 u3, hi ≤ wx.heap.size → OwnSt wx lo hi S u0 u1 u2 u3 → Calls Try.prog 15 #[.agg #[u0, u1, u2, u3], .int .i64 1] wx fun e w' => e = .returned (.int .i64 (1 + (S.l.length : Int) + 3 * (S.T.length : Int) + 6 * (S.L.length : Int) + 8 * (S.C.length : Int))) ∧ Within lo hi wx w') := fun wx lo hi u0 u1 u2 u3 h1 h2 => (markState_calls S lo hi u0 u1 u2 u3 wx hlen h1 h2).mono (by rintro e w' ⟨rfl, -, h⟩; exact ⟨rfl, h⟩)
  have HML : Hid (∀ wx v lo, wx.ownsRow lo 3 1 v R.length (intV R) → Calls Try.prog 21 #[v, .int .i64 1] wx fun e w' => e = .returned (.int .i64 (1 + (R.length : Int))) ∧ w'.ownsRow lo 3 1 v R.length (intV (mkI 1 R.length)) ∧ wx.grownBy w' v.ownBlock) := fun wx v lo h => markInts_one hRn wx h
  have HHL : Hid (∀ wx v, IntsAt wx v (mkI 1 R.length) → Calls Try.prog 22 #[v, .int .i64 1] wx fun e w' => e = .returned (.int .i64 (1 + (R.length : Int))) ∧ Below wx.heap.size wx w') := fun wx v h => heldInts_one hRn wx h
  obtain ⟨K, hK⟩ : ∃ K : Int, K = 1 + (S.l.length : Int) + 3 * (S.T.length : Int) + 6 * (S.L.length : Int) + 8 * (S.C.length : Int) := ⟨_, rfl⟩
  rw [← hK] at HMS
  have hK0 : ¬ (K < 0) := by omega
  have hM0 : ¬ ((1 : Int) + (R.length : Int) < 0) := by omega
  have hMM : (((1 : Int) + (R.length : Int)) != (1 + (R.length : Int))) = false := by simp
  have HF : Hid (∀ wx, Below W.heap.size W wx → Below w.heap.size w wx) := fun wx h => hB0.trans (h.mono hB0.size)
  have HPV : Hid (∀ wx, Below W.heap.size W wx → wx.cell? ⟨w.heap.size, 0, none⟩ = some (v0) ∧ wx.cell? ⟨w.heap.size, 1, none⟩ = some (v1) ∧ wx.cell? ⟨w.heap.size, 2, none⟩ = some (v2) ∧ wx.cell? ⟨w.heap.size, 3, none⟩ = some (v3)) := fun wx h => Row.four (HRA.out.next h)
  clear hK hst hR hRn k1 nA hlen
  go_enter Try.func4, Try.ntmps4
  go_wp2_with fail
  rw [HW.out]
  refine (HZ.out _ hB0).mono ?_
  rintro e w1 ⟨rfl, hb⟩
  have hW1 : Below W.heap.size W w1 := hb
  clear HW hb HZ HRA hB0 hs ht ho hy
  obtain ⟨p0, p1, p2, p3⟩ := HPV.out _ hW1
  go_wp2_with fail
  refine (HTA.out _ (HF.out _ hW1)).mono ?_
  rintro e w2 ⟨a0, c0, a1, c1, a2, c2, a3, c3, rfl, kA, hb⟩
  have hW2 : Below W.heap.size W w2 := hW1.trans (hb.mono hW1.size)
  have kS := hidI kA.at
  clear hb hW1 p0 p1 p2 p3 kA
  go_wp2_with fail
  refine (HS.out _ _ _ _ _ kS.out).mono ?_
  rintro e w3 ⟨u, rfl, hu, hb⟩
  have hW3 : Below W.heap.size W w3 := hW2.trans (hb.mono hW2.size)
  have U3 := hidI hu
  have hs23 := hb.size
  have hsW3 := hW3.size
  clear hb hW2 kS hu HS
  obtain ⟨p0, p1, p2, p3⟩ := HPV.out _ hW3
  go_wp2_with fail
  refine (HTA.out _ (HF.out _ hW3)).mono ?_
  rintro e w4 ⟨b0, d0, b1, d1, b2, d2, b3, d3, rfl, kB, hb⟩
  obtain ⟨X, hX⟩ : ∃ X, X = w4.alloc (.cells #[.slice b0 S.l.length d0, .slice b1 S.T.length d1, .slice b2 S.L.length d2, .slice b3 S.C.length d3] 35) := ⟨_, rfl⟩
  have hmX : Below w4.heap.size w4 X := by rw [hX]; exact (Below.refl _ _).alloc (Nat.le_refl _) _
  have XX := hidI (show Row X w4.heap.size #[.slice b0 S.l.length d0, .slice b1 S.T.length d1, .slice b2 S.L.length d2, .slice b3 S.C.length d3] 35 by rw [hX]; exact row_new _ _ _ rfl)
  have OX := hidI (kB.below hmX)
  have U4 := hidI ((U3.out.below hb).below hmX)
  have hW4 : Below W.heap.size W w4 := hW3.trans (hb.mono hW3.size)
  have hWX : Below W.heap.size W X := hW4.trans (hmX.mono hW4.size)
  have hs34 := hb.size
  have hs4X : X.heap.size = w4.heap.size + 1 := by rw [hX]; simp
  have HX : Hid (w4.alloc (.cells #[.slice b0 S.l.length d0, .slice b1 S.T.length d1, .slice b2 S.L.length d2, .slice b3 S.C.length d3] 35) = X) := hX.symm
  clear hX hmX kB hW3 hW4 hb p0 p1 p2 p3 U3
  obtain ⟨x0, x1, x2, x3⟩ := Row.four XX.out
  rw [← HX.out] at x0 x1 x2 x3
  go_wp2_with fail
  rw [HX.out]
  clear HX x0 x1 x2 x3
  refine (HI.out _ _ _ _ _ OX.out.at).mono ?_
  rintro e w5 ⟨v, rfl, hv, hb⟩
  have G5 := hidI hv
  have U5 := hidI (U4.out.below hb)
  have O5 := hidI (OX.out.below hb)
  have X5 := hidI (XX.out.next hb)
  have hW5 : Below W.heap.size W w5 := hWX.trans (hb.mono hWX.size)
  have hsX5 := hb.size
  clear hb hv hWX U4 OX XX
  go_wp2_with fail
  refine (HEL.out _ _ _ (IntsAt.own G5.out.1 rfl) (IntsAt.own U5.out.1 rfl)).mono ?_
  rintro e w6 ⟨rfl, hb⟩
  have G6 := hidI (G5.out.below hb)
  have U6 := hidI (U5.out.below hb)
  have O6 := hidI (O5.out.below hb)
  have X6 := hidI (X5.out.next hb)
  have hW6 : Below W.heap.size W w6 := hW5.trans (hb.mono hW5.size)
  have hs56 := hb.size
  clear hb hW5 G5 U5 O5 X5
  have hVd : Below W.heap.size W w6.drew := hW6.drew
  obtain ⟨p0, p1, p2, p3⟩ := HPV.out _ hW6
  obtain ⟨x0, x1, x2, x3⟩ := Row.four X6.out
  have hdd : Below w6.heap.size w6 w6.drew := (Below.refl _ _).drew
  have HXC : Hid (∀ wx, Below w6.heap.size w6 wx → wx.cell? ⟨w4.heap.size, 0, none⟩ = some (.slice b0 S.l.length d0) ∧ wx.cell? ⟨w4.heap.size, 1, none⟩ = some (.slice b1 S.T.length d1) ∧ wx.cell? ⟨w4.heap.size, 2, none⟩ = some (.slice b2 S.L.length d2) ∧ wx.cell? ⟨w4.heap.size, 3, none⟩ = some (.slice b3 S.C.length d3)) := fun wx h => Row.four (X6.out.next h)
  have SS := And.intro (HXC.out _ hdd) (HPV.out _ hVd)
  go_wp2
  go_region_held3 (fun w' => (w'.cell? ⟨w4.heap.size, 0, none⟩ = some (.slice b0 S.l.length d0) ∧ w'.cell? ⟨w4.heap.size, 1, none⟩ = some (.slice b1 S.T.length d1) ∧ w'.cell? ⟨w4.heap.size, 2, none⟩ = some (.slice b2 S.L.length d2) ∧ w'.cell? ⟨w4.heap.size, 3, none⟩ = some (.slice b3 S.C.length d3)) ∧ (w'.cell? ⟨w.heap.size, 0, none⟩ = some (v0) ∧ w'.cell? ⟨w.heap.size, 1, none⟩ = some (v1) ∧ w'.cell? ⟨w.heap.size, 2, none⟩ = some (v2) ∧ w'.cell? ⟨w.heap.size, 3, none⟩ = some (v3))) (first | exact SS | exact SS3 | exact SS4 | go_keep) (first
    | (go_at_call 11; refine (HTA.out _ (HF.out _ hVd)).mono ?_; rintro e n0 ⟨y0, z0, y1, z1, y2, z2, y3, z3, rfl, kY, hb3⟩; have hV3 : Below W.heap.size W n0 := hVd.trans (hb3.mono hVd.size); have hX3 : Below w6.heap.size w6 n0 := hdd.trans (hb3.mono hdd.size); have SS3 := And.intro (HXC.out _ hX3) (HPV.out _ hV3))
    | (go_at_call 14; refine (HEA.out _ _ _ _ _ _ _ _ _ (O6.out.below hX3).at kY.at).mono ?_; rintro e w7 ⟨rfl, hb4⟩; have hV4 : Below W.heap.size W w7 := hV3.trans (hb4.mono hV3.size); have hX4 : Below w6.heap.size w6 w7 := hX3.trans (hb4.mono hX3.size); have SS4 := And.intro (HXC.out _ hX4) (HPV.out _ hV4)))
  have G7 := hidI (G6.out.below hX4)
  have U7 := hidI (U6.out.below hX4)
  have O7 := hidI (O6.out.below hX4)
  have X7 := hidI (X6.out.next hX4)
  have hW7 : Below W.heap.size W w7 := hV4
  have hs67 := hX4.size
  clear p0 p1 p2 p3 x0 x1 x2 x3 SS SS3 SS4 hVd hdd hV3 hX3 hV4 hX4 kY hb3 hb4 hW6 G6 U6 O6 X6 HXC HEA
  obtain ⟨x0, x1, x2, x3⟩ := Row.four X7.out
  go_wp2_with fail
  refine (HMS.out _ _ _ _ _ _ _ (by omega) O7.out).mono ?_
  rintro e w8 ⟨rfl, hw⟩
  have G8 := hidI (G7.out.within hw (.inr (by omega)))
  have U8 := hidI (U7.out.within hw (.inl (Nat.le_refl _)))
  have hW8 : Below W.heap.size W w8 := Below.within hW7 hw (by omega) hW7.size
  clear hw hW7 G7 U7 O7 X7 x0 x1 x2 x3 HMS
  go_wp2_with fail
  refine (HEL.out _ _ _ (IntsAt.own G8.out.1 rfl) (IntsAt.own U8.out.1 rfl)).mono ?_
  rintro e w9 ⟨rfl, hb⟩
  have G9 := hidI (G8.out.below hb)
  have U9 := hidI (U8.out.below hb)
  have hW9 : Below W.heap.size W w9 := hW8.trans (hb.mono hW8.size)
  clear hb hW8 G8 U8
  go_wp2_with fail
  refine (HML.out _ _ _ G9.out.1).mono ?_
  rintro e wa ⟨rfl, ho, hg⟩
  have GA : Hid (Rw wa X.heap.size w5.heap.size 3 1 v R.length (intV (mkI 1 R.length))) := ⟨ho, G9.out.2⟩
  have UA := hidI (U9.out.other G9.out (.inl (by omega)) hg)
  have hWa : Below W.heap.size W wa := hW9.grown hg hW9.size (fun k hk => by have := (G9.out.1.lt k hk).1; omega)
  clear ho hg hW9 G9 U9 HML
  go_wp2_with fail
  refine (HHL.out _ _ (IntsAt.own GA.out.1 (mkI_len _ _))).mono ?_
  rintro e wb ⟨rfl, hb⟩
  have GB := hidI (GA.out.below hb)
  have UB := hidI (UA.out.below hb)
  have hWb : Below W.heap.size W wb := hWa.trans (hb.mono hWa.size)
  clear hb hWa GA UA
  obtain ⟨p0, p1, p2, p3⟩ := HPV.out _ hWb
  go_wp2_with fail
  refine (HTA.out _ (HF.out _ hWb)).mono ?_
  rintro e wc ⟨e0, f0, e1, f1, e2, f2, e3, f3, rfl, kC, hb⟩
  have kS := hidI kC.at
  have GC := hidI (GB.out.below hb)
  have UC := hidI (UB.out.below hb)
  have hWc : Below W.heap.size W wc := hWb.trans (hb.mono hWb.size)
  clear hb hWb GB UB p0 p1 p2 p3 kC
  go_wp2_with fail
  refine (HI.out _ _ _ _ _ kS.out).mono ?_
  rintro e wd ⟨h, rfl, hh, hb⟩
  have HD := hidI hh
  have GD := hidI (GC.out.below hb)
  have UD := hidI (UC.out.below hb)
  have hWd : Below W.heap.size W wd := hWc.trans (hb.mono hWc.size)
  clear hb hWc GC UC kS hh HI
  go_wp2_with fail
  refine (HEL.out _ _ _ (IntsAt.own HD.out.1 rfl) (IntsAt.own UD.out.1 rfl)).mono ?_
  rintro e we ⟨rfl, hb⟩
  have GE := hidI (GD.out.below hb)
  have hWe : Below W.heap.size W we := hWd.trans (hb.mono hWd.size)
  clear hb hWd GD UD HD
  go_wp2_with fail
  refine (HHL.out _ _ (IntsAt.own GE.out.1 (mkI_len _ _))).mono ?_
  rintro e wf ⟨rfl, hb⟩
  have HFF : Hid (Below w.heap.size w wf) := HF.out _ (hWe.trans (hb.mono hWe.size))
  clear hb hWe GE
  go_wp2
  go_ret
  exact ⟨rfl, HFF.out⟩

end Go.Proofs.Ytahdgagipmpcgaa
