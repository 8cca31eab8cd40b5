/- The law on the dots that one knows and the other one does not: for every argument it comes out true and writes into no memory that was there. -/
import Derived.Test.YtpojipiagnbgjaaKLaw
import Derived.Test.YtpojipiagnbgjaaKSpec3
import Derived.Test.YtpojipiagnbgjaaKDotL
namespace Go.Proofs.Ytpojipiagnbgjaa
open Go.RowKit

theorem dots_len (l m : List Int) : (dots l m).length ≤ 4000 := by
  unfold dots; split
  · rename_i h
    obtain ⟨a, b, c, rfl, -⟩ := h.1.split
    obtain ⟨d, e, f, rfl, -⟩ := h.2.split
    refine Nat.le_trans (dotsTo_len _ _ ?_ 3) (by omega)
    have h1 := h.1.2
    have h2 := h.2.2
    have ha := h1 a (by simp)
    have hb := h1 b (by simp)
    have hc := h1 c (by simp)
    have hd := h2 d (by simp)
    have he := h2 e (by simp)
    have hf := h2 f (by simp)
    intro i
    match i with
    | 0 => show d - a ≤ 1000; omega
    | 1 => show e - b ≤ 1000; omega
    | 2 => show f - c ≤ 1000; omega
    | _ + 3 => simp
  · simp

set_option maxHeartbeats 3000000 in
set_option maxRecDepth 100000 in
theorem fnExactDotsIn_walk (va : Value) (la : List Int) (vb : Value) (lb : List Int) (w : World) (ha : ArgInts w va la) (hb : ArgInts w vb lb) :
    Calls Try.prog 11 #[va, vb] w fun e w' => e = .returned (.bool true) ∧ Below w.heap.size w w' := by
  have HA : Hid (ArgInts w va la) := ha
  have HAB : Hid (ArgInts w vb lb) := hb
  have ma := ha.1
  have mb := hb.1
  unfold maxLen at ma mb
  obtain ⟨-, aa, ca, rfl, -⟩ := ha
  obtain ⟨-, ab, cb, rfl, -⟩ := hb
  by_cases h1 : (1048576 : Int) < la.length
  · go_enter Try.func11, Try.ntmps11
    go_wp2
    go_ret
    exact ⟨rfl, Below.refl _ _⟩
  by_cases h2 : (1048576 : Int) < lb.length
  · go_enter Try.func11, Try.ntmps11
    go_wp2
    go_ret
    exact ⟨rfl, Below.refl _ _⟩
  have na : la.length ≤ 1048576 := by omega
  have nb : lb.length ≤ 1048576 := by omega
  have HTA : Hid (∀ wx, Below w.heap.size w wx → Calls Try.prog 34 #[.slice aa la.length ca] wx fun e w' => ∃ u, e = .returned u ∧ w'.ownsRow wx.heap.size 3 1 u la.length (intV la) ∧ Below wx.heap.size wx w') := fun wx h => toInts_calls na wx (HA.out.below h)
  have HTB : Hid (∀ wx, Below w.heap.size w wx → Calls Try.prog 34 #[.slice ab lb.length cb] wx fun e w' => ∃ u, e = .returned u ∧ w'.ownsRow wx.heap.size 3 1 u lb.length (intV lb) ∧ Below wx.heap.size wx w') := fun wx h => toInts_calls nb wx (HAB.out.below h)
  obtain ⟨K, hK⟩ : ∃ K, K = dots la lb := ⟨_, rfl⟩
  have HS : Hid (∀ wx u v, IntsAt wx u la → IntsAt wx v lb → Calls Try.prog 33 #[u, v] wx fun r w' => ∃ x, r = .returned x ∧ w'.ownsRow wx.heap.size 32 2 x K.length (dotV K) ∧ Below wx.heap.size wx w') := fun wx u v h h' => by rw [hK]; exact specDotsIn_calls la lb u v wx na nb h h'
  have HI : Hid (∀ wx u v, IntsAt wx u la → IntsAt wx v lb → Calls Try.prog 16 #[u, v] wx fun r w' => ∃ x, r = .returned x ∧ w'.ownsRow wx.heap.size 32 2 x K.length (dotV K) ∧ Below wx.heap.size wx w') := fun wx u v h h' => by rw [hK]; exact dotsIn_calls la lb u v wx h h'
  have nk : K.length ≤ 4000 := by rw [hK]; exact dots_len la lb
  clear hK
  have hB := Below.refl w.heap.size w
  have q1 : ¬ ((1 : Int) + la.length + lb.length < 0) := by omega
  have q2 : ¬ ((1 : Int) + 2 * K.length < 0) := by omega
  go_enter Try.func11, Try.ntmps11
  go_wp2_with fail
  refine (HTA.out _ hB).mono ?_
  rintro e w1 ⟨u1, rfl, ho1, hb1⟩
  replace hB := hB.trans (hb1.mono hB.size)
  have hs1 := hb1.size
  clear hb1
  have h_u1 := Rw.new ho1
  clear ho1
  go_wp2_with fail
  refine (HTB.out _ hB).mono ?_
  rintro e w2 ⟨u2, rfl, ho2, hb2⟩
  replace h_u1 := h_u1.below hb2
  replace hB := hB.trans (hb2.mono hB.size)
  have hs2 := hb2.size
  clear hb2
  have h_u2 := Rw.new ho2
  clear ho2
  go_wp2_with fail
  refine (HS.out _ _ _ h_u1.ints h_u2.ints).mono ?_
  rintro e w3 ⟨vw, rfl, ho3, hb3⟩
  replace h_u1 := h_u1.below hb3
  replace h_u2 := h_u2.below hb3
  replace hB := hB.trans (hb3.mono hB.size)
  have hs3 := hb3.size
  clear hb3
  have h_vw := Rw.new ho3
  clear ho3
  clear h_u1
  clear h_u2
  go_wp2_with fail
  refine (HTA.out _ hB).mono ?_
  rintro e w4 ⟨x0, rfl, ho4, hb4⟩
  replace h_vw := h_vw.below hb4
  replace hB := hB.trans (hb4.mono hB.size)
  have hs4 := hb4.size
  clear hb4
  have h_x0 := Rw.new ho4
  clear ho4
  go_wp2_with fail
  refine (HTB.out _ hB).mono ?_
  rintro e w5 ⟨x1, rfl, ho5, hb5⟩
  replace h_vw := h_vw.below hb5
  replace h_x0 := h_x0.below hb5
  replace hB := hB.trans (hb5.mono hB.size)
  have hs5 := hb5.size
  clear hb5
  have h_x1 := Rw.new ho5
  clear ho5
  go_wp2_with fail
  refine (HI.out _ _ _ h_x0.ints h_x1.ints).mono ?_
  rintro e w6 ⟨vg, rfl, ho6, hb6⟩
  replace h_vw := h_vw.below hb6
  replace h_x0 := h_x0.below hb6
  replace h_x1 := h_x1.below hb6
  replace hB := hB.trans (hb6.mono hB.size)
  have hs6 := hb6.size
  clear hb6
  have h_vg := Rw.new ho6
  clear ho6
  go_wp2_with fail
  refine (eqDots_calls (by omega) _ h_vg.dots h_vw.dots).mono ?_
  rintro e w7 ⟨rfl, hb7⟩
  replace h_vw := h_vw.below hb7
  replace h_x0 := h_x0.below hb7
  replace h_x1 := h_x1.below hb7
  replace h_vg := h_vg.below hb7
  replace hB := hB.trans (hb7.mono hB.size)
  have hs7 := hb7.size
  clear hb7
  go_wp2_with fail
  refine (HTA.out _ hB).mono ?_
  rintro e w8 ⟨t0, rfl, ho8, hb8⟩
  replace h_vw := h_vw.below hb8
  replace h_x0 := h_x0.below hb8
  replace h_x1 := h_x1.below hb8
  replace h_vg := h_vg.below hb8
  replace hB := hB.trans (hb8.mono hB.size)
  have hs8 := hb8.size
  clear hb8
  have h_t0 := Rw.new ho8
  clear ho8
  go_wp2_with fail
  refine (eqInts_calls (by omega) _ h_x0.ints h_t0.ints).mono ?_
  rintro e w9 ⟨rfl, hb9⟩
  replace h_vw := h_vw.below hb9
  replace h_x0 := h_x0.below hb9
  replace h_x1 := h_x1.below hb9
  replace h_vg := h_vg.below hb9
  replace h_t0 := h_t0.below hb9
  replace hB := hB.trans (hb9.mono hB.size)
  have hs9 := hb9.size
  clear hb9
  clear h_t0
  go_wp2_with fail
  refine (HTB.out _ hB).mono ?_
  rintro e w10 ⟨t1, rfl, ho10, hb10⟩
  replace h_vw := h_vw.below hb10
  replace h_x0 := h_x0.below hb10
  replace h_x1 := h_x1.below hb10
  replace h_vg := h_vg.below hb10
  replace hB := hB.trans (hb10.mono hB.size)
  have hs10 := hb10.size
  clear hb10
  have h_t1 := Rw.new ho10
  clear ho10
  go_wp2_with fail
  refine (eqInts_calls (by omega) _ h_x1.ints h_t1.ints).mono ?_
  rintro e w11 ⟨rfl, hb11⟩
  replace h_vw := h_vw.below hb11
  replace h_x0 := h_x0.below hb11
  replace h_x1 := h_x1.below hb11
  replace h_vg := h_vg.below hb11
  replace h_t1 := h_t1.below hb11
  replace hB := hB.trans (hb11.mono hB.size)
  have hs11 := hb11.size
  clear hb11
  clear h_t1
  go_wp2_with fail
  refine (markInts_one (by omega) _ h_x0.1).mono ?_
  rintro e w12 ⟨rfl, ho12, hg12⟩
  replace h_vw := h_vw.other h_x0 (by omega) hg12
  replace h_x1 := h_x1.other h_x0 (by omega) hg12
  replace h_vg := h_vg.other h_x0 (by omega) hg12
  replace hB := hB.grown hg12 hB.size (h_x0.base (by omega))
  replace h_x0 : Rw _ _ _ _ _ _ _ _ := ⟨ho12, h_x0.2⟩
  have hs12 := hg12.size
  clear ho12 hg12
  go_wp2_with fail
  refine (markInts_at (by omega) (by omega) (by omega) _ h_x1.1).mono ?_
  rintro e w13 ⟨rfl, ho13, hg13⟩
  replace h_vw := h_vw.other h_x1 (by omega) hg13
  replace h_x0 := h_x0.other h_x1 (by omega) hg13
  replace h_vg := h_vg.other h_x1 (by omega) hg13
  replace hB := hB.grown hg13 hB.size (h_x1.base (by omega))
  replace h_x1 : Rw _ _ _ _ _ _ _ _ := ⟨ho13, h_x1.2⟩
  have hs13 := hg13.size
  clear ho13 hg13
  clear h_x0
  clear h_x1
  go_wp2_with fail
  refine (eqDots_calls (by omega) _ h_vg.dots h_vw.dots).mono ?_
  rintro e w14 ⟨rfl, hb14⟩
  replace h_vw := h_vw.below hb14
  replace h_vg := h_vg.below hb14
  replace hB := hB.trans (hb14.mono hB.size)
  have hs14 := hb14.size
  clear hb14
  go_wp2_with fail
  refine (markDots_one (by omega) _ h_vg.1).mono ?_
  rintro e w15 ⟨rfl, ho15, hg15⟩
  replace h_vw := h_vw.other h_vg (by omega) hg15
  replace hB := hB.grown hg15 hB.size (h_vg.base (by omega))
  replace h_vg : Rw _ _ _ _ _ _ _ _ := ⟨ho15, h_vg.2⟩
  have hs15 := hg15.size
  clear ho15 hg15
  go_wp2_with fail
  refine (heldDots_one (by omega) _ (DotsAt.own h_vg.1 (mkD_len 1 K.length))).mono ?_
  rintro e w16 ⟨rfl, hb16⟩
  replace h_vw := h_vw.below hb16
  replace h_vg := h_vg.below hb16
  replace hB := hB.trans (hb16.mono hB.size)
  have hs16 := hb16.size
  clear hb16
  go_wp2_with fail
  refine (HTA.out _ hB).mono ?_
  rintro e w17 ⟨y0, rfl, ho17, hb17⟩
  replace h_vw := h_vw.below hb17
  replace h_vg := h_vg.below hb17
  replace hB := hB.trans (hb17.mono hB.size)
  have hs17 := hb17.size
  clear hb17
  have h_y0 := Rw.new ho17
  clear ho17
  go_wp2_with fail
  refine (HTB.out _ hB).mono ?_
  rintro e w18 ⟨y1, rfl, ho18, hb18⟩
  replace h_vw := h_vw.below hb18
  replace h_vg := h_vg.below hb18
  replace h_y0 := h_y0.below hb18
  replace hB := hB.trans (hb18.mono hB.size)
  have hs18 := hb18.size
  clear hb18
  have h_y1 := Rw.new ho18
  clear ho18
  go_wp2_with fail
  refine (HI.out _ _ _ h_y0.ints h_y1.ints).mono ?_
  rintro e w19 ⟨vh, rfl, ho19, hb19⟩
  replace h_vw := h_vw.below hb19
  replace h_vg := h_vg.below hb19
  replace h_y0 := h_y0.below hb19
  replace h_y1 := h_y1.below hb19
  replace hB := hB.trans (hb19.mono hB.size)
  have hs19 := hb19.size
  clear hb19
  have h_vh := Rw.new ho19
  clear ho19
  clear h_y0
  clear h_y1
  go_wp2_with fail
  refine (eqDots_calls (by omega) _ h_vh.dots h_vw.dots).mono ?_
  rintro e w20 ⟨rfl, hb20⟩
  replace h_vw := h_vw.below hb20
  replace h_vg := h_vg.below hb20
  replace h_vh := h_vh.below hb20
  replace hB := hB.trans (hb20.mono hB.size)
  have hs20 := hb20.size
  clear hb20
  go_wp2_with fail
  refine (heldDots_one (by omega) _ (DotsAt.own h_vg.1 (mkD_len 1 K.length))).mono ?_
  rintro e w21 ⟨rfl, hb21⟩
  replace h_vw := h_vw.below hb21
  replace h_vg := h_vg.below hb21
  replace h_vh := h_vh.below hb21
  replace hB := hB.trans (hb21.mono hB.size)
  have hs21 := hb21.size
  clear hb21
  go_wp2_with fail
  go_ret
  exact ⟨rfl, hB⟩

end Go.Proofs.Ytpojipiagnbgjaa
