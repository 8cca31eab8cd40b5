/- The law on knowledges, walked: for every slice of bytes it comes out true and writes into no memory that was there. -/
import Derived.Test.YtpojipiagnbgjaaKDraw2
import Derived.Test.YtpojipiagnbgjaaKMath
import Derived.Test.YtpojipiagnbgjaaKSpec2
import Derived.Test.YtpojipiagnbgjaaKSpec3
import Derived.Test.YtpojipiagnbgjaaKDotL
import Derived.Test.YtpojipiagnbgjaaKLaw3
namespace Go.Proofs.Ytpojipiagnbgjaa
open Go.RowKit

theorem wpAnyH_list {P : Program} {md : Region.Mode} {ops : Array Oper} {Q : Exit → Act → World → Prop} {S : World → Prop} {fuel : Nat} {l l' : Array Bool} {a : Act} {w : World} (h : l = l') (H : wpAnyH P md ops Q S fuel l' a w) : wpAnyH P md ops Q S fuel l a w := h ▸ H

set_option maxHeartbeats 20000000 in
set_option maxRecDepth 100000 in
theorem fnKnows_walk (v : Value) (n : Nat) (hm : n ≤ maxLen) (w : World) (hc : CodeIs w w.heap.size v n) :
    Calls Try.prog 3 #[v] w fun e w' => e = .returned (.bool true) ∧ Below w.heap.size w w' := by
  obtain ⟨av, cv, rfl⟩ := hc.form
  have hbig := big_calls av n cv w
  unfold maxLen at hm
  cases hq : decide ((1048576 : Int) < n)
  · rw [hq] at hbig
    have hn : n ≤ 1048576 := by have := of_decide_eq_false hq; omega
    have HC : Hid (CodeIs w w.heap.size (.slice av n cv) n) := hc
    have HCW : Hid (∀ wx, Below w.heap.size w wx → CodeIs wx w.heap.size (.slice av n cv) n) := fun wx h => HC.out.below h
    clear hq hc hm
    go_enter Try.func3, Try.ntmps3
    go_wp2_with fail
    refine hbig.mono ?_
    rintro e w1 ⟨rfl, rfl⟩
    clear hbig
    go_wp2_with fail
    refine (drawKnow_calls w1.heap.size _ n hn w1 (Nat.le_refl _) HC.out).mono ?_
    rintro e w2 ⟨va, la, vb, lb, hka, hkb, rfl, ka, kb, hb2⟩
    obtain ⟨fm, fn, k1, k2, k3, k4, k5, k6⟩ := max_facts hka hkb
    have hkin := kin_dots hka hkb
    have heach := dots_each hka hkb
    obtain ⟨M, hM⟩ : ∃ M, M = kmax la lb := ⟨_, rfl⟩
    obtain ⟨L, hL⟩ : ∃ L, L = kmin la lb := ⟨_, rfl⟩
    obtain ⟨D, hD⟩ : ∃ D, D = dots la M := ⟨_, rfl⟩
    have HM : Hid (M = kmax la lb) := hM
    have HL : Hid (L = kmin la lb) := hL
    have HD : Hid (D = dots la M) := hD
    rw [← hM] at fm k1 k2 k5 heach
    rw [← hL] at fn k3 k4
    rw [← hD] at heach
    have HF : Hid (KOk la ∧ KOk lb ∧ KOk M ∧ KOk L) := ⟨hka, hkb, fm, fn⟩
    have HK : Hid (kin la M = true ∧ kin lb M = true ∧ kin L la = true ∧ kin L lb = true ∧ kmax lb la = M ∧ kin [0, 0, 0] la = true) := ⟨k1, k2, k3, k4, k5, k6⟩
    have HKI : Hid (kin la lb = decide ((dots lb la).length = 0)) := hkin
    have HE : Hid (∀ p ∈ D, knows la p.1 p.2 = false ∧ knows lb p.1 p.2 = true ∧ decide (DOk p.1 p.2) = true) := heach
    have KA : Hid (IntsAt w2 va la) := ka
    have KB : Hid (IntsAt w2 vb lb) := kb
    have HCMax : Hid (∀ wx u v, IntsAt wx u la → IntsAt wx v lb → Calls Try.prog 14 #[u, v] wx fun r w' => ∃ x, r = .returned x ∧ IntsAt w' x M ∧ Below wx.heap.size wx w') := fun wx u v h h' => by
      refine (knowMax_calls la lb u v wx h h').mono ?_
      rintro e w' ⟨x, rfl, ho, hb⟩
      exact ⟨x, rfl, by rw [hM]; exact IntsAt.own ho rfl, hb⟩
    have HCMin : Hid (∀ wx u v, IntsAt wx u la → IntsAt wx v lb → Calls Try.prog 15 #[u, v] wx fun r w' => ∃ x, r = .returned x ∧ IntsAt w' x L ∧ Below wx.heap.size wx w') := fun wx u v h h' => by
      refine (knowMin_calls la lb u v wx h h').mono ?_
      rintro e w' ⟨x, rfl, ho, hb⟩
      exact ⟨x, rfl, by rw [hL]; exact IntsAt.own ho rfl, hb⟩
    have HCDots : Hid (∀ wx u v, IntsAt wx u la → IntsAt wx v M → Calls Try.prog 16 #[u, v] wx fun r w' => ∃ x, r = .returned x ∧ DotsAt w' x D ∧ Below wx.heap.size wx w') := fun wx u v h h' => by
      refine (dotsIn_calls la M u v wx h h').mono ?_
      rintro e w' ⟨x, rfl, ho, hb⟩
      exact ⟨x, rfl, by rw [hD]; exact DotsAt.own ho rfl, hb⟩
    clear ka kb hka hkb fm fn k1 k2 k3 k4 k5 k6 hkin heach hM hL hD
    go_wp2_with fail
    refine (HCMax.out _ _ _ KA.out KB.out).mono ?_
    rintro e w3 ⟨vm, rfl, km, hb3⟩
    have hB3 := hb2.trans (hb3.mono hb2.size)
    replace KA : Hid (IntsAt w3 va la) := KA.out.below hb3
    replace KB : Hid (IntsAt w3 vb lb) := KB.out.below hb3
    have KM : Hid (IntsAt w3 vm M) := km
    clear hb2 hb3 km
    go_wp2_with fail
    refine (HCMin.out _ _ _ KA.out KB.out).mono ?_
    rintro e w4 ⟨vn, rfl, kn, hb4⟩
    have hB4 := hB3.trans (hb4.mono hB3.size)
    replace KA : Hid (IntsAt w4 va la) := KA.out.below hb4
    replace KB : Hid (IntsAt w4 vb lb) := KB.out.below hb4
    replace KM : Hid (IntsAt w4 vm M) := KM.out.below hb4
    have KN : Hid (IntsAt w4 vn L) := kn
    clear hB3 hb4 kn
    go_wp2_with fail
    refine (HCDots.out _ _ _ KA.out KM.out).mono ?_
    rintro e w5 ⟨vd, rfl, kd, hb5⟩
    have hB5 := hB4.trans (hb5.mono hB4.size)
    replace KA : Hid (IntsAt w5 va la) := KA.out.below hb5
    replace KB : Hid (IntsAt w5 vb lb) := KB.out.below hb5
    replace KM : Hid (IntsAt w5 vm M) := KM.out.below hb5
    replace KN : Hid (IntsAt w5 vn L) := KN.out.below hb5
    have KD : Hid (DotsAt w5 vd D) := kd
    clear hB4 hb5 kd HCDots HCMin
    -- the slices' forms
    obtain ⟨a0, a1, a2, b0, b1, b2, ea, eb, ba0, ba1, ba2, bb0, bb1, bb2, em, -⟩ := max_parts HF.out.1 HF.out.2.1
    have hkm := HF.out.2.2.1
    rw [HM.out, em] at hkm
    have KA3 : Hid (IntsAt w5 va [a0, a1, a2]) := by have := KA.out; rw [ea] at this; exact this
    have KM3 : Hid (IntsAt w5 vm [mx a0 b0, mx a1 b1, mx a2 b2]) := by have := KM.out; rw [HM.out, em] at this; exact this
    have HDT : Hid (D.length = (dotsTo (at3 a0 a1 a2) (at3 (mx a0 b0) (mx a1 b1) (mx a2 b2)) 3).length) := by
      show _ = _
      rw [HD.out, HM.out, em, ea, dots_three (by rw [← ea]; exact HF.out.1) hkm]
      simp [dotsTo, List.range, List.range.loop, at3]
    have HPQ : Hid (∀ i, i < 3 → 0 ≤ at3 a0 a1 a2 i ∧ at3 a0 a1 a2 i ≤ at3 (mx a0 b0) (mx a1 b1) (mx a2 b2) i ∧ at3 (mx a0 b0) (mx a1 b1) (mx a2 b2) i ≤ 1000) := by
      intro i hi
      have m1 := mx_le a0 b0
      have m2 := mx_le a1 b1
      have m3 := mx_le a2 b2
      have h3 : i = 0 ∨ i = 1 ∨ i = 2 := by omega
      rcases h3 with rfl | rfl | rfl <;> (simp only [at3]; omega)
    obtain ⟨g1, c1, eva, hg1, hc1⟩ := ints_at3 KA3.out
    obtain ⟨g2, c2, evm, hg2, hc2⟩ := ints_at3 KM3.out
    have HG1 : Hid (∀ j, j < 3 → w5.cell? ⟨g1, j, none⟩ = some (.int .i64 (at3 a0 a1 a2 j))) := hc1
    have HG2 : Hid (∀ j, j < 3 → w5.cell? ⟨g2, j, none⟩ = some (.int .i64 (at3 (mx a0 b0) (mx a1 b1) (mx a2 b2) j))) := hc2
    clear hc1 hc2 ea eb ba0 ba1 ba2 bb0 bb1 bb2 em hkm KA3 KM3
    subst eva evm
    generalize at3 a0 a1 a2 = p at *
    generalize at3 (mx a0 b0) (mx a1 b1) (mx a2 b2) = q at *
    have HLEN : Hid (∀ j, j ≤ 3 → (dotsTo p q j).length ≤ 1000 * j) := by
      intro j hj
      induction j with
      | zero => simp [dotsTo]
      | succ j ih =>
        rw [dotsTo_succ, List.length_append, dotsOf, dotsN_len]
        have := HPQ.out j (by omega)
        have := ih (by omega)
        omega
    go_wp2
    go_loopw [8, 9] (fun x z wr => ∃ j : Nat, j ≤ 3 ∧ z = .int .i64 j ∧ x = .int .i64 ((dotsTo p q j).length : Int) ∧ Below w5.heap.size w5 wr) (fun _ z _ => 3 - (intOf z).toNat)
    case atStart => exact ⟨0, Nat.zero_le _, rfl, by simp [dotsTo], Below.refl _ _⟩
    case round =>
      obtain ⟨j, hj, rfl, rfl, hbel⟩ := hrel
      by_cases hlt : j < 3
      · have hj1 : (j : Int) < 3 := by omega
        have hj0 : (0 : Int) ≤ j := by omega
        have d1 : wr.cell? ⟨g1, j, none⟩ = some (.int .i64 (p j)) := (hbel.cell (p := ⟨g1, j, none⟩) hg1).trans (HG1.out j hlt)
        have d2 : wr.cell? ⟨g2, j, none⟩ = some (.int .i64 (q j)) := (hbel.cell (p := ⟨g2, j, none⟩) hg2).trans (HG2.out j hlt)
        have HX : Hid (((dotsTo p q (j + 1)).length : Int) = (dotsTo p q j).length + q j - p j) := by
          show _ = _
          rw [dotsTo_succ, List.length_append, dotsOf, dotsN_len]
          have := HPQ.out j hlt
          omega
        have hxl := HLEN.out j hj
        have hpq := HPQ.out j hlt
        generalize (dotsTo p q j).length = X at *
        generalize p j = pj at *
        generalize q j = qj at *
        have hw1 : IntKind.i64.wrap ((X : Int) + qj) = X + qj := by rw [IntKind.wrap_i64]; omega
        have hw2 : IntKind.i64.wrap ((X : Int) + qj - pj) = X + qj - pj := by rw [IntKind.wrap_i64]; omega
        clear hpq
        go_wp2
        go_quiet (fail)
        have hbq := below_drewN hbel nq
        clear d1 d2 hbel
        generalize wr.drewN nq = wq at *
        go_wp2
        go_roundw
        case rel => exact ⟨j + 1, by omega, by go_num, by rw [HX.out], hbq⟩
        case measure => simp [intOf]; omega
      · have hj1 : ¬ ((j : Int) < 3) := by omega
        obtain rfl : j = 3 := by omega
        have HDL : Hid (((dotsTo p q 3).length : Int) = D.length) := by show _ = _; rw [HDT.out]
        rw [HDL.out, show ((3 : Nat) : Int) = 3 from rfl]
        have hN3 := HLEN.out 3 (Nat.le_refl _)
        have HN : Hid (D.length ≤ 3000) := by show _ ≤ _; rw [HDT.out]; omega
        replace KA := hidI (KA.out.below hbel)
        replace KB := hidI (KB.out.below hbel)
        replace KM := hidI (KM.out.below hbel)
        replace KN := hidI (KN.out.below hbel)
        replace KD := hidI (KD.out.below hbel)
        have hB6 := hB5.trans (hbel.mono hB5.size)
        obtain ⟨ad, cd, rfl, gd⟩ := id KD.out
        have HGD : Hid (0 < D.length → ∃ g, ad = some ⟨g, 0, none⟩ ∧ g < wr.heap.size ∧ ∀ j (h : j < D.length), wr.cell? ⟨g, j * 2, none⟩ = some (.int .i64 (D[j].1)) ∧ wr.cell? ⟨g, j * 2 + 1, none⟩ = some (.int .i64 (D[j].2))) := gd
        obtain ⟨Dn, hDn⟩ : ∃ Dn, Dn = D.length := ⟨_, rfl⟩
        rw [← hDn] at HN KD ⊢
        have HDN : Hid (Dn = D.length) := hDn
        have hdn : Dn ≤ 3000 := HN.out
        clear hbel hB5 HG1 HG2 HDT HPQ HLEN HDL hN3 hg1 hg2 gd hDn hj hlt hj1 HN
        obtain ⟨w6, hw6⟩ : ∃ w6, w6 = wr := ⟨_, rfl⟩
        subst hw6
        have HDK : Hid (∀ wx x r s, IntsAt wx x la → Calls Try.prog 17 #[x, .agg #[.int .i64 r, .int .i64 s]] wx fun e w' => e = .returned (.bool (knows la r s)) ∧ Below wx.heap.size wx w') := fun wx x r s h => knows_calls la x r s wx h
        have HDK2 : Hid (∀ wx x r s, IntsAt wx x lb → Calls Try.prog 17 #[x, .agg #[.int .i64 r, .int .i64 s]] wx fun e w' => e = .returned (.bool (knows lb r s)) ∧ Below wx.heap.size wx w') := fun wx x r s h => knows_calls lb x r s wx h
        have HDO : Hid (∀ wx r s, Calls Try.prog 18 #[.agg #[.int .i64 r, .int .i64 s]] wx fun e w' => e = .returned (.bool (decide (DOk r s))) ∧ Below wx.heap.size wx w') := fun wx r s => dotOk_calls r s wx
        go_wp2
        generalize (Value.slice (some ⟨g1, 0, none⟩) 3 c1) = va at *
        generalize (Value.slice (some ⟨g2, 0, none⟩) 3 c2) = vm at *
        go_loopw [10] (fun z wr => ∃ k : Nat, k ≤ Dn ∧ z = .int .i64 k ∧ Below w6.heap.size w6 wr) (fun z _ => Dn - (intOf z).toNat)
        case atStart => exact ⟨0, Nat.zero_le _, rfl, Below.refl _ _⟩
        case round =>
          obtain ⟨k, hk, rfl, hbel⟩ := hrel
          by_cases hlt : k < Dn
          · have hkl : k < D.length := by rw [← HDN.out]; exact hlt
            obtain ⟨g, rfl, hg, hcc⟩ := HGD.out (by omega)
            obtain ⟨e1, e2, e3⟩ := HE.out D[k] (List.getElem_mem hkl)
            have hq1 := (hcc k hkl).1
            have hq2 := (hcc k hkl).2
            generalize D[k].1 = r at *
            generalize D[k].2 = s at *
            have HCC : Hid (∀ wx, Below w6.heap.size w6 wx → wx.cell? ⟨g, k * 2, none⟩ = some (.int .i64 r) ∧ wx.cell? ⟨g, k * 2 + 1, none⟩ = some (.int .i64 s)) := fun wx h => ⟨(h.cell (p := ⟨g, k * 2, none⟩) hg).trans hq1, (h.cell (p := ⟨g, k * 2 + 1, none⟩) hg).trans hq2⟩
            have hk1 : (k : Int) < Dn := by omega
            have hk0 : (0 : Int) ≤ k := by omega
            have HE1 : Hid (knows la r s = false ∧ knows lb r s = true ∧ decide (DOk r s) = true) := ⟨e1, e2, e3⟩
            obtain ⟨t0, t1⟩ := HCC.out wr hbel
            clear hcc hkl hq1 hq2 e1 e2 e3
            go_wp2_with fail
            refine (HDK.out _ _ _ _ (KA.out.below hbel)).mono ?_
            rw [HE1.out.1]
            rintro e w7 ⟨rfl, hb7⟩
            have hB7 := hbel.trans (hb7.mono hbel.size)
            clear t0 t1 hb7 hbel
            obtain ⟨t0, t1⟩ := HCC.out w7 hB7
            go_wp2_with fail
            refine (HDK2.out _ _ _ _ (KB.out.below hB7)).mono ?_
            rw [HE1.out.2.1]
            rintro e w8 ⟨rfl, hb8⟩
            have hB8 := hB7.trans (hb8.mono hB7.size)
            clear t0 t1 hb8 hB7
            obtain ⟨t0, t1⟩ := HCC.out w8 hB8
            go_wp2_with fail
            refine (HDO.out _ _ _).mono ?_
            rw [HE1.out.2.2]
            rintro e w9 ⟨rfl, hb9⟩
            have hB9 := hB8.trans (hb9.mono hB8.size)
            clear t0 t1 hb9 hB8
            go_wp2
            go_roundw
            case rel => exact ⟨k + 1, by omega, by go_num, hB9⟩
            case measure => simp [intOf]; omega
          · have hk1 : ¬ ((k : Int) < Dn) := by omega
            clear HDK HDK2 HDO HE HGD
            replace KA := hidI (KA.out.below hbel)
            replace KB := hidI (KB.out.below hbel)
            replace KM := hidI (KM.out.below hbel)
            replace KN := hidI (KN.out.below hbel)
            have hB7 := hB6.trans (hbel.mono hB6.size)
            clear hbel hB6 KD hk hlt
            go_wp2_with fail
            refine (drawKnowIn_calls w1.heap.size _ n hn _ hB7.size (HCW.out _ hB7)).mono ?_
            rintro e w8 ⟨vx, lx, vy, ly, hx4, hy4, rfl, kx, ky, hb8⟩
            replace KA := hidI (KA.out.below hb8)
            replace KB := hidI (KB.out.below hb8)
            replace KM := hidI (KM.out.below hb8)
            replace KN := hidI (KN.out.below hb8)
            have hB8 := hB7.trans (hb8.mono hB7.size)
            have KX := hidI kx
            have KY := hidI ky
            clear hb8 hB7 kx ky
            go_wp2_with fail
            refine (drawKnows_calls w1.heap.size _ n hn _ hB8.size (HCW.out _ hB8)).mono ?_
            rintro e w9 ⟨vk, lk, r1, s1, hk4, rfl, kk, hb9⟩
            unfold dot
            replace KA := hidI ((KA.out.below hb9).alloc (.cells #[.int .i64 r1, .int .i64 s1] 32))
            replace KB := hidI ((KB.out.below hb9).alloc (.cells #[.int .i64 r1, .int .i64 s1] 32))
            replace KM := hidI ((KM.out.below hb9).alloc (.cells #[.int .i64 r1, .int .i64 s1] 32))
            replace KN := hidI ((KN.out.below hb9).alloc (.cells #[.int .i64 r1, .int .i64 s1] 32))
            replace KX := hidI ((KX.out.below hb9).alloc (.cells #[.int .i64 r1, .int .i64 s1] 32))
            replace KY := hidI ((KY.out.below hb9).alloc (.cells #[.int .i64 r1, .int .i64 s1] 32))
            have KK := hidI (kk.alloc (.cells #[.int .i64 r1, .int .i64 s1] 32))
            have KD1 := hidI (dotAt_new w9 r1 s1 rfl)
            have hB9 := (hB8.trans (hb9.mono hB8.size)).alloc (Nat.le_trans hB8.size hb9.size) (.cells #[.int .i64 r1, .int .i64 s1] 32)
            clear hb9 hB8 kk
            go_wp2_with fail
            refine (drawDotOk_calls w1.heap.size _ n hn _ hB9.size (HCW.out _ hB9)).mono ?_
            rintro e w10 ⟨r2, s2, rfl, hb10⟩
            unfold dot
            replace KA := hidI ((KA.out.below hb10).alloc (.cells #[.int .i64 r2, .int .i64 s2] 32))
            replace KB := hidI ((KB.out.below hb10).alloc (.cells #[.int .i64 r2, .int .i64 s2] 32))
            replace KM := hidI ((KM.out.below hb10).alloc (.cells #[.int .i64 r2, .int .i64 s2] 32))
            replace KN := hidI ((KN.out.below hb10).alloc (.cells #[.int .i64 r2, .int .i64 s2] 32))
            replace KX := hidI ((KX.out.below hb10).alloc (.cells #[.int .i64 r2, .int .i64 s2] 32))
            replace KY := hidI ((KY.out.below hb10).alloc (.cells #[.int .i64 r2, .int .i64 s2] 32))
            replace KK := hidI ((KK.out.below hb10).alloc (.cells #[.int .i64 r2, .int .i64 s2] 32))
            replace KD1 := hidI ((KD1.out.below hb10 KD1.out.lt).alloc (.cells #[.int .i64 r2, .int .i64 s2] 32))
            have KD2 := hidI (dotAt_new w10 r2 s2 rfl)
            have hB10 := (hB9.trans (hb10.mono hB9.size)).alloc (Nat.le_trans hB9.size hb10.size) (.cells #[.int .i64 r2, .int .i64 s2] 32)
            clear hb10 hB9
            go_wp2
            generalize w10.alloc (.cells #[.int .i64 r2, .int .i64 s2] 32) = W at *
            have hxb : lx.length ≤ 1048576 := by omega
            have hyb : ly.length ≤ 1048576 := by omega
            have hkb : lk.length ≤ 1048576 := by omega
            have C1 : Hid (∀ wx, Below W.heap.size W wx → Calls Try.prog 22 #[va, vm] wx fun e w' => e = .returned (.bool true) ∧ Below wx.heap.size wx w') := fun wx h => by
              have := knowIn_calls la M va vm wx (KA.out.below h) (KM.out.below h)
              rw [HK.out.1] at this
              exact this
            have C2 : Hid (∀ wx, Below W.heap.size W wx → Calls Try.prog 22 #[vb, vm] wx fun e w' => e = .returned (.bool true) ∧ Below wx.heap.size wx w') := fun wx h => by
              have := knowIn_calls lb M vb vm wx (KB.out.below h) (KM.out.below h)
              rw [HK.out.2.1] at this
              exact this
            have C3 : Hid (∀ wx, Below W.heap.size W wx → Calls Try.prog 22 #[vn, va] wx fun e w' => e = .returned (.bool true) ∧ Below wx.heap.size wx w') := fun wx h => by
              have := knowIn_calls L la vn va wx (KN.out.below h) (KA.out.below h)
              rw [HK.out.2.2.1] at this
              exact this
            have C4 : Hid (∀ wx, Below W.heap.size W wx → Calls Try.prog 22 #[vn, vb] wx fun e w' => e = .returned (.bool true) ∧ Below wx.heap.size wx w') := fun wx h => by
              have := knowIn_calls L lb vn vb wx (KN.out.below h) (KB.out.below h)
              rw [HK.out.2.2.2.1] at this
              exact this
            have C5 : Hid (∀ wx, Below W.heap.size W wx → Calls Try.prog 14 #[vb, va] wx fun e w' => ∃ x, e = .returned x ∧ IntsAt w' x M ∧ Below wx.heap.size wx w') := fun wx h => by
              refine (knowMax_calls lb la vb va wx (KB.out.below h) (KA.out.below h)).mono ?_
              rintro e w' ⟨x, rfl, ho, hb⟩
              rw [HK.out.2.2.2.2.1] at ho
              exact ⟨x, rfl, IntsAt.own ho rfl, hb⟩
            have hM3 : M.length ≤ 1048576 := by have := HF.out.2.2.1.1; omega
            have C6 : Hid (∀ wx x, Below W.heap.size W wx → IntsAt wx x M → Calls Try.prog 23 #[x, vm] wx fun e w' => e = .returned (.bool true) ∧ Below wx.heap.size wx w') := fun wx x h k => sameInts_calls hM3 wx k (KM.out.below h)
            obtain ⟨qab, hqab⟩ : ∃ qab, qab = kin la lb := ⟨_, rfl⟩
            have C8 : Hid (∀ wx, Below W.heap.size W wx → Calls Try.prog 22 #[va, vb] wx fun e w' => e = .returned (.bool qab) ∧ Below wx.heap.size wx w') := fun wx h => by
              rw [hqab]
              exact knowIn_calls la lb va vb wx (KA.out.below h) (KB.out.below h)
            obtain ⟨N0, hN0⟩ : ∃ N0, N0 = (dots lb la).length := ⟨_, rfl⟩
            have C9 : Hid (∀ wx, Below W.heap.size W wx → Calls Try.prog 16 #[vb, va] wx fun e w' => ∃ ad' cd', e = .returned (.slice ad' N0 cd') ∧ Below wx.heap.size wx w') := fun wx h => by
              refine (dotsIn_calls lb la vb va wx (KB.out.below h) (KA.out.below h)).mono ?_
              rintro e w' ⟨x, rfl, ho, hb⟩
              obtain ⟨ad', cd', rfl, -⟩ := DotsAt.own ho rfl
              rw [← hN0]
              exact ⟨ad', cd', rfl, hb⟩
            have hz1 : decide (N0 = 0) = qab := by rw [hqab, HKI.out, hN0]
            have hz2 : ((N0 : Int) == 0) = qab := by rw [← hz1]; by_cases h : N0 = 0 <;> simp [h]
            have hz3 : decide ((N0 : Int) = 0) = qab := by rw [← hz1, decide_eq_decide]; omega
            obtain ⟨q1, hq1⟩ : ∃ q1, q1 = kin lx ly := ⟨_, rfl⟩
            have C10 : Hid (∀ wx, Below W.heap.size W wx → Calls Try.prog 22 #[vx, vy] wx fun e w' => e = .returned (.bool q1) ∧ Below wx.heap.size wx w') := fun wx h => by
              rw [hq1]
              exact knowIn_calls lx ly vx vy wx (KX.out.below h) (KY.out.below h)
            have C11 : Hid (∀ wx, Below W.heap.size W wx → Calls Try.prog 24 #[vx, vy] wx fun e w' => e = .returned (.bool q1) ∧ Below wx.heap.size wx w') := fun wx h => by
              rw [hq1]
              exact specKnowIn_calls lx ly vx vy wx hxb hyb (KX.out.below h) (KY.out.below h)
            obtain ⟨q2, hq2⟩ : ∃ q2, q2 = knows lk r1 s1 := ⟨_, rfl⟩
            have C12 : Hid (∀ wx, Below W.heap.size W wx → Calls Try.prog 17 #[vk, .agg #[.int .i64 r1, .int .i64 s1]] wx fun e w' => e = .returned (.bool q2) ∧ Below wx.heap.size wx w') := fun wx h => by
              rw [hq2]
              exact knows_calls lk vk r1 s1 wx (KK.out.below h)
            have C13 : Hid (∀ wx, Below W.heap.size W wx → Calls Try.prog 25 #[vk, .agg #[.int .i64 r1, .int .i64 s1]] wx fun e w' => e = .returned (.bool q2) ∧ Below wx.heap.size wx w') := fun wx h => by
              rw [hq2]
              exact specKnows_calls lk vk r1 s1 wx hkb (KK.out.below h)
            obtain ⟨q3, hq3⟩ : ∃ q3, q3 = decide (DOk r2 s2) := ⟨_, rfl⟩
            have C14 : Hid (∀ wx, Below W.heap.size W wx → Calls Try.prog 18 #[.agg #[.int .i64 r2, .int .i64 s2]] wx fun e w' => e = .returned (.bool q3) ∧ Below wx.heap.size wx w') := fun wx h => by
              rw [hq3]
              exact dotOk_calls r2 s2 wx
            have C15 : Hid (∀ wx, Below W.heap.size W wx → Calls Try.prog 26 #[.agg #[.int .i64 r2, .int .i64 s2]] wx fun e w' => e = .returned (.bool q3) ∧ Below wx.heap.size wx w') := fun wx h => by
              rw [hq3]
              exact specDotOk_calls r2 s2 wx
            obtain ⟨ZX, hZX⟩ : ∃ Z, Z = kmax lx ly := ⟨_, rfl⟩
            have C16 : Hid (∀ wx, Below W.heap.size W wx → Calls Try.prog 14 #[vx, vy] wx fun e w' => ∃ x, e = .returned x ∧ IntsAt w' x ZX ∧ Below wx.heap.size wx w') := fun wx h => by
              refine (knowMax_calls lx ly vx vy wx (KX.out.below h) (KY.out.below h)).mono ?_
              rintro e w' ⟨x, rfl, ho, hb⟩
              rw [← hZX] at ho
              exact ⟨x, rfl, IntsAt.own ho rfl, hb⟩
            have C17 : Hid (∀ wx, Below W.heap.size W wx → Calls Try.prog 27 #[vx, vy] wx fun e w' => ∃ x, e = .returned x ∧ IntsAt w' x ZX ∧ Below wx.heap.size wx w') := fun wx h => by
              refine (specKnowMax_calls lx ly vx vy wx hxb hyb (KX.out.below h) (KY.out.below h)).mono ?_
              rintro e w' ⟨x, rfl, ho, hb⟩
              rw [← hZX] at ho
              exact ⟨x, rfl, IntsAt.own ho rfl, hb⟩
            have lZX : ZX.length ≤ 1048576 := by rw [hZX]; exact Nat.le_trans (kmax_len lx ly) (by omega)
            have SZX : Hid (∀ wx x y, IntsAt wx x ZX → IntsAt wx y ZX → Calls Try.prog 23 #[x, y] wx fun e w' => e = .returned (.bool true) ∧ Below wx.heap.size wx w') := fun wx x y h k => sameInts_calls lZX wx h k
            obtain ⟨ZN, hZN⟩ : ∃ Z, Z = kmin lx ly := ⟨_, rfl⟩
            have C19 : Hid (∀ wx, Below W.heap.size W wx → Calls Try.prog 15 #[vx, vy] wx fun e w' => ∃ x, e = .returned x ∧ IntsAt w' x ZN ∧ Below wx.heap.size wx w') := fun wx h => by
              refine (knowMin_calls lx ly vx vy wx (KX.out.below h) (KY.out.below h)).mono ?_
              rintro e w' ⟨x, rfl, ho, hb⟩
              rw [← hZN] at ho
              exact ⟨x, rfl, IntsAt.own ho rfl, hb⟩
            have C20 : Hid (∀ wx, Below W.heap.size W wx → Calls Try.prog 28 #[vx, vy] wx fun e w' => ∃ x, e = .returned x ∧ IntsAt w' x ZN ∧ Below wx.heap.size wx w') := fun wx h => by
              refine (specKnowMin_calls lx ly vx vy wx hxb hyb (KX.out.below h) (KY.out.below h)).mono ?_
              rintro e w' ⟨x, rfl, ho, hb⟩
              rw [← hZN] at ho
              exact ⟨x, rfl, IntsAt.own ho rfl, hb⟩
            have lZN : ZN.length ≤ 1048576 := by rw [hZN]; exact Nat.le_trans (kmin_len lx ly) (by omega)
            have SZN : Hid (∀ wx x y, IntsAt wx x ZN → IntsAt wx y ZN → Calls Try.prog 23 #[x, y] wx fun e w' => e = .returned (.bool true) ∧ Below wx.heap.size wx w') := fun wx x y h k => sameInts_calls lZN wx h k
            obtain ⟨q4, hq4⟩ : ∃ q4, q4 = decide (KOk lx) := ⟨_, rfl⟩
            have C22 : Hid (∀ wx, Below W.heap.size W wx → Calls Try.prog 29 #[vx] wx fun e w' => e = .returned (.bool q4) ∧ Below wx.heap.size wx w') := fun wx h => by
              rw [hq4]
              exact (knowOk_calls lx vx wx (KX.out.below h)).mono (by rintro e w' ⟨rfl, rfl⟩; exact ⟨rfl, Below.refl _ _⟩)
            have C23 : Hid (∀ wx, Below W.heap.size W wx → Calls Try.prog 30 #[vx] wx fun e w' => e = .returned (.bool q4) ∧ Below wx.heap.size wx w') := fun wx h => by
              rw [hq4]
              exact (specKnowOk_calls lx vx wx hxb (KX.out.below h)).mono (by rintro e w' ⟨rfl, rfl⟩; exact ⟨rfl, Below.refl _ _⟩)
            have C24 : Hid (∀ wx, Below W.heap.size W wx → Calls Try.prog 31 #[] wx fun e w' => ∃ x, e = .returned x ∧ IntsAt w' x [0, 0, 0] ∧ Below wx.heap.size wx w') := fun wx h => by
              refine (knowNew_calls wx).mono ?_
              rintro e w' ⟨x, rfl, ho, hb⟩
              exact ⟨x, rfl, IntsAt.own ho rfl, hb⟩
            have C25 : Hid (∀ wx x, Below W.heap.size W wx → IntsAt wx x [0, 0, 0] → Calls Try.prog 22 #[x, va] wx fun e w' => e = .returned (.bool true) ∧ Below wx.heap.size wx w') := fun wx x h k => by
              have := knowIn_calls [0, 0, 0] la x va wx k (KA.out.below h)
              rw [HK.out.2.2.2.2.2] at this
              exact this
            obtain ⟨ZD, hZD⟩ : ∃ Z, Z = dots lx ly := ⟨_, rfl⟩
            have C26 : Hid (∀ wx, Below W.heap.size W wx → Calls Try.prog 16 #[vx, vy] wx fun e w' => ∃ x, e = .returned x ∧ DotsAt w' x ZD ∧ Below wx.heap.size wx w') := fun wx h => by
              refine (dotsIn_calls lx ly vx vy wx (KX.out.below h) (KY.out.below h)).mono ?_
              rintro e w' ⟨x, rfl, ho, hb⟩
              rw [← hZD] at ho
              exact ⟨x, rfl, DotsAt.own ho rfl, hb⟩
            have C27 : Hid (∀ wx, Below W.heap.size W wx → Calls Try.prog 33 #[vx, vy] wx fun e w' => ∃ x, e = .returned x ∧ DotsAt w' x ZD ∧ Below wx.heap.size wx w') := fun wx h => by
              refine (specDotsIn_calls lx ly vx vy wx hxb hyb (KX.out.below h) (KY.out.below h)).mono ?_
              rintro e w' ⟨x, rfl, ho, hb⟩
              rw [← hZD] at ho
              exact ⟨x, rfl, DotsAt.own ho rfl, hb⟩
            have lZD : ZD.length ≤ 1048576 := by rw [hZD]; exact Nat.le_trans (dots_len lx ly) (by omega)
            have SZD : Hid (∀ wx x y, DotsAt wx x ZD → DotsAt wx y ZD → Calls Try.prog 32 #[x, y] wx fun e w' => e = .returned (.bool true) ∧ Below wx.heap.size wx w') := fun wx x y h k => sameDots_calls lZD wx h k
            have HDC : Hid (∀ wx, Below W.heap.size W wx → wx.cell? ⟨w9.heap.size, 0, none⟩ = some (.int .i64 r1) ∧ wx.cell? ⟨w9.heap.size, 1, none⟩ = some (.int .i64 s1) ∧ wx.cell? ⟨w10.heap.size, 0, none⟩ = some (.int .i64 r2) ∧ wx.cell? ⟨w10.heap.size, 1, none⟩ = some (.int .i64 s2)) := fun wx h => ⟨(h.cell (p := ⟨w9.heap.size, 0, none⟩) KD1.out.lt).trans KD1.out.c0, (h.cell (p := ⟨w9.heap.size, 1, none⟩) KD1.out.lt).trans KD1.out.c1, (h.cell (p := ⟨w10.heap.size, 0, none⟩) KD2.out.lt).trans KD2.out.c0, (h.cell (p := ⟨w10.heap.size, 1, none⟩) KD2.out.lt).trans KD2.out.c1⟩
            have hBc : Below W.heap.size W W.drew := (Below.refl _ _).drew
            have HBW : Hid (Below w1.heap.size w1 W) := hB10
            clear HM HL HD HF HK HKI HCMax KA KB KM KN KX KY KK KD1 KD2 hB10 hqab hN0 hq1 hq2 hq3 hZX hZN hq4 hZD lZX lZN lZD hM3 hxb hyb hkb hx4 hy4 hk4 HC HCW hn hdn hk1 hz1
            simp only [List.append_eq, List.cons_append, List.nil_append]
            refine wp_region_held_drew (S := (fun w' => w'.cell? ⟨w9.heap.size, 0, none⟩ = some (.int .i64 r1) ∧ w'.cell? ⟨w9.heap.size, 1, none⟩ = some (.int .i64 s1) ∧ w'.cell? ⟨w10.heap.size, 0, none⟩ = some (.int .i64 r2) ∧ w'.cell? ⟨w10.heap.size, 1, none⟩ = some (.int .i64 s2))) (by kernel_rfl) (HDC.out _ hBc) (fun _ => ?_)
            refine wpAnyH_list (l' := #[false, false, false, false, false, false, false, false, false, false, false, false, false, false, false, false, false, false, false, false, false, false, false, false, false, false, false, false, false, false, false, false, false, false, false, false, false, false, false, false, false, false, false, false, false, false, false, false, false, false, false, false, false, false, false, false, false, false, false, false, false, false, false, false, false, false, false, false, false, false, false, false, false, false, false, false, false, false, false, false, false, false, false, false, false, false, false, false, false, false, false, false, false, false, false, false, false, false, false, false, false, false, false, false, false, false, false]) (by as_aux_lemma => kernel_rfl) ?_
            refine wpAnyH_take (i := 0) (oi := { dst := some 90, op := Op.move (Operand.tmp 3), type := 24, pos := "laws.go:249", after := #[], guard := none }) (v := ?v0) rfl (by as_aux_lemma => kernel_rfl) (by as_aux_lemma => kernel_rfl) (by as_aux_lemma => kernel_rfl) (fun _ _ _ h => h) (Or.inl ⟨by rfl, ?hy0⟩) (HDC.out _ hBc) ?_
            case hy0 =>
              intro w hSw
              try dsimp only at hSw
              go_simp <;> with_reducible rfl
            try simp only [Act.put, List.setIfInBounds_toArray, List.set_cons_zero, List.set_cons_succ]
            refine wpAnyH_take (i := 1) (oi := { dst := some 91, op := Op.move (Operand.tmp 5), type := 24, pos := "laws.go:249", after := #[], guard := none }) (v := ?v1) rfl (by as_aux_lemma => kernel_rfl) (by as_aux_lemma => kernel_rfl) (by as_aux_lemma => kernel_rfl) (fun _ _ _ h => h) (Or.inl ⟨by rfl, ?hy1⟩) (HDC.out _ hBc) ?_
            case hy1 =>
              intro w hSw
              try dsimp only at hSw
              go_simp <;> with_reducible rfl
            try simp only [Act.put, List.setIfInBounds_toArray, List.set_cons_zero, List.set_cons_succ]
            refine wpAnyH_ready (rs := [2]) (by as_aux_lemma => kernel_rfl) (by simp) ?_
            refine AllReadyH.cons (o := { dst := some 92, op := Op.call { callee := Callee.value (Operand.func 22), args := #[Operand.tmp 90, Operand.tmp 91], argTypes := #[24, 24] }, type := 4, pos := "laws.go:249", after := #[{ on := 0, ground := Ground.data }, { on := 1, ground := Ground.data }], guard := none }) rfl (fun K hK => ?_) AllReadyH.nil
            go_simp
            refine (C1.out _ hBc).mono ?_
            rintro e wn ⟨rfl, hbn⟩
            replace hBc := hBc.trans (hbn.mono hBc.size)
            clear hbn
            try go_wp2_with fail
            refine hK.out _ _ (HDC.out _ hBc) (fun _ => ?_)
            clear hK K
            try simp only [List.setIfInBounds_toArray, List.set_cons_zero, List.set_cons_succ]
            refine wpAnyH_take (i := 3) (oi := { dst := some 93, op := Op.move (Operand.tmp 92), type := 4, pos := "laws.go:249", after := #[{ on := 2, ground := Ground.data }, { on := 2, ground := Ground.chain }], guard := none }) (v := ?v3) rfl (by as_aux_lemma => kernel_rfl) (by as_aux_lemma => kernel_rfl) (by as_aux_lemma => kernel_rfl) (fun _ _ _ h => h) (Or.inl ⟨by rfl, ?hy3⟩) (HDC.out _ hBc) ?_
            case hy3 =>
              intro w hSw
              try dsimp only at hSw
              go_simp <;> with_reducible rfl
            try simp only [Act.put, List.setIfInBounds_toArray, List.set_cons_zero, List.set_cons_succ]
            refine wpAnyH_take (i := 4) (oi := { dst := some 94, op := Op.move (Operand.tmp 4), type := 24, pos := "laws.go:249", after := #[{ on := 3, ground := Ground.guard }], guard := some (3, true) }) (v := ?v4) rfl (by as_aux_lemma => kernel_rfl) (by as_aux_lemma => kernel_rfl) (by as_aux_lemma => kernel_rfl) (fun _ _ _ h => h) (Or.inl ⟨by rfl, ?hy4⟩) (HDC.out _ hBc) ?_
            case hy4 =>
              intro w hSw
              try dsimp only at hSw
              go_simp <;> with_reducible rfl
            try simp only [Act.put, List.setIfInBounds_toArray, List.set_cons_zero, List.set_cons_succ]
            refine wpAnyH_take (i := 5) (oi := { dst := some 95, op := Op.move (Operand.tmp 5), type := 24, pos := "laws.go:249", after := #[{ on := 3, ground := Ground.guard }], guard := some (3, true) }) (v := ?v5) rfl (by as_aux_lemma => kernel_rfl) (by as_aux_lemma => kernel_rfl) (by as_aux_lemma => kernel_rfl) (fun _ _ _ h => h) (Or.inl ⟨by rfl, ?hy5⟩) (HDC.out _ hBc) ?_
            case hy5 =>
              intro w hSw
              try dsimp only at hSw
              go_simp <;> with_reducible rfl
            try simp only [Act.put, List.setIfInBounds_toArray, List.set_cons_zero, List.set_cons_succ]
            refine wpAnyH_ready (rs := [6]) (by as_aux_lemma => kernel_rfl) (by simp) ?_
            refine AllReadyH.cons (o := { dst := some 96, op := Op.call { callee := Callee.value (Operand.func 22), args := #[Operand.tmp 94, Operand.tmp 95], argTypes := #[24, 24] }, type := 4, pos := "laws.go:249", after := #[{ on := 4, ground := Ground.data }, { on := 5, ground := Ground.data }, { on := 3, ground := Ground.chain }, { on := 3, ground := Ground.guard }], guard := some (3, true) }) rfl (fun K hK => ?_) AllReadyH.nil
            go_simp
            refine (C2.out _ hBc).mono ?_
            rintro e wn ⟨rfl, hbn⟩
            replace hBc := hBc.trans (hbn.mono hBc.size)
            clear hbn
            try go_wp2_with fail
            refine hK.out _ _ (HDC.out _ hBc) (fun _ => ?_)
            clear hK K
            try simp only [List.setIfInBounds_toArray, List.set_cons_zero, List.set_cons_succ]
            refine wpAnyH_take (i := 7) (oi := { dst := some 97, op := Op.pick (Operand.tmp 93) (Operand.tmp 96) (Operand.const (Value.bool false)), type := 4, pos := "laws.go:249", after := #[{ on := 3, ground := Ground.data }, { on := 6, ground := Ground.data }], guard := none }) (v := ?v7) rfl (by as_aux_lemma => kernel_rfl) (by as_aux_lemma => kernel_rfl) (by as_aux_lemma => kernel_rfl) (fun _ _ _ h => h) (Or.inl ⟨by rfl, ?hy7⟩) (HDC.out _ hBc) ?_
            case hy7 =>
              intro w hSw
              try dsimp only at hSw
              go_simp <;> with_reducible rfl
            try simp only [Act.put, List.setIfInBounds_toArray, List.set_cons_zero, List.set_cons_succ]
            refine wpAnyH_take (i := 8) (oi := { dst := some 98, op := Op.move (Operand.tmp 97), type := 4, pos := "laws.go:249", after := #[{ on := 7, ground := Ground.data }, { on := 6, ground := Ground.chain }], guard := none }) (v := ?v8) rfl (by as_aux_lemma => kernel_rfl) (by as_aux_lemma => kernel_rfl) (by as_aux_lemma => kernel_rfl) (fun _ _ _ h => h) (Or.inl ⟨by rfl, ?hy8⟩) (HDC.out _ hBc) ?_
            case hy8 =>
              intro w hSw
              try dsimp only at hSw
              go_simp <;> with_reducible rfl
            try simp only [Act.put, List.setIfInBounds_toArray, List.set_cons_zero, List.set_cons_succ]
            refine wpAnyH_take (i := 9) (oi := { dst := some 99, op := Op.move (Operand.tmp 6), type := 24, pos := "laws.go:249", after := #[{ on := 8, ground := Ground.guard }], guard := some (8, true) }) (v := ?v9) rfl (by as_aux_lemma => kernel_rfl) (by as_aux_lemma => kernel_rfl) (by as_aux_lemma => kernel_rfl) (fun _ _ _ h => h) (Or.inl ⟨by rfl, ?hy9⟩) (HDC.out _ hBc) ?_
            case hy9 =>
              intro w hSw
              try dsimp only at hSw
              go_simp <;> with_reducible rfl
            try simp only [Act.put, List.setIfInBounds_toArray, List.set_cons_zero, List.set_cons_succ]
            as_aux_lemma =>
              refine wpAnyH_take (i := 10) (oi := { dst := some 100, op := Op.move (Operand.tmp 3), type := 24, pos := "laws.go:249", after := #[{ on := 8, ground := Ground.guard }], guard := some (8, true) }) (v := ?v10) rfl (by as_aux_lemma => kernel_rfl) (by as_aux_lemma => kernel_rfl) (by as_aux_lemma => kernel_rfl) (fun _ _ _ h => h) (Or.inl ⟨by rfl, ?hy10⟩) (HDC.out _ hBc) ?_
              case hy10 =>
                intro w hSw
                try dsimp only at hSw
                go_simp <;> with_reducible rfl
              try simp only [Act.put, List.setIfInBounds_toArray, List.set_cons_zero, List.set_cons_succ]
              refine wpAnyH_ready (rs := [11]) (by as_aux_lemma => kernel_rfl) (by simp) ?_
              refine AllReadyH.cons (o := { dst := some 101, op := Op.call { callee := Callee.value (Operand.func 22), args := #[Operand.tmp 99, Operand.tmp 100], argTypes := #[24, 24] }, type := 4, pos := "laws.go:249", after := #[{ on := 9, ground := Ground.data }, { on := 10, ground := Ground.data }, { on := 8, ground := Ground.chain }, { on := 8, ground := Ground.guard }], guard := some (8, true) }) rfl (fun K hK => ?_) AllReadyH.nil
              go_simp
              refine (C3.out _ hBc).mono ?_
              rintro e wn ⟨rfl, hbn⟩
              replace hBc := hBc.trans (hbn.mono hBc.size)
              clear hbn
              try go_wp2_with fail
              refine hK.out _ _ (HDC.out _ hBc) (fun _ => ?_)
              clear hK K
              try simp only [List.setIfInBounds_toArray, List.set_cons_zero, List.set_cons_succ]
              refine wpAnyH_take (i := 12) (oi := { dst := some 102, op := Op.pick (Operand.tmp 98) (Operand.tmp 101) (Operand.const (Value.bool false)), type := 4, pos := "laws.go:249", after := #[{ on := 8, ground := Ground.data }, { on := 11, ground := Ground.data }], guard := none }) (v := ?v12) rfl (by as_aux_lemma => kernel_rfl) (by as_aux_lemma => kernel_rfl) (by as_aux_lemma => kernel_rfl) (fun _ _ _ h => h) (Or.inl ⟨by rfl, ?hy12⟩) (HDC.out _ hBc) ?_
              case hy12 =>
                intro w hSw
                try dsimp only at hSw
                go_simp <;> with_reducible rfl
              try simp only [Act.put, List.setIfInBounds_toArray, List.set_cons_zero, List.set_cons_succ]
              refine wpAnyH_take (i := 13) (oi := { dst := some 103, op := Op.move (Operand.tmp 102), type := 4, pos := "laws.go:249", after := #[{ on := 12, ground := Ground.data }, { on := 11, ground := Ground.chain }], guard := none }) (v := ?v13) rfl (by as_aux_lemma => kernel_rfl) (by as_aux_lemma => kernel_rfl) (by as_aux_lemma => kernel_rfl) (fun _ _ _ h => h) (Or.inl ⟨by rfl, ?hy13⟩) (HDC.out _ hBc) ?_
              case hy13 =>
                intro w hSw
                try dsimp only at hSw
                go_simp <;> with_reducible rfl
              try simp only [Act.put, List.setIfInBounds_toArray, List.set_cons_zero, List.set_cons_succ]
              refine wpAnyH_take (i := 14) (oi := { dst := some 104, op := Op.move (Operand.tmp 6), type := 24, pos := "laws.go:249", after := #[{ on := 13, ground := Ground.guard }], guard := some (13, true) }) (v := ?v14) rfl (by as_aux_lemma => kernel_rfl) (by as_aux_lemma => kernel_rfl) (by as_aux_lemma => kernel_rfl) (fun _ _ _ h => h) (Or.inl ⟨by rfl, ?hy14⟩) (HDC.out _ hBc) ?_
              case hy14 =>
                intro w hSw
                try dsimp only at hSw
                go_simp <;> with_reducible rfl
              try simp only [Act.put, List.setIfInBounds_toArray, List.set_cons_zero, List.set_cons_succ]
              refine wpAnyH_take (i := 15) (oi := { dst := some 105, op := Op.move (Operand.tmp 4), type := 24, pos := "laws.go:249", after := #[{ on := 13, ground := Ground.guard }], guard := some (13, true) }) (v := ?v15) rfl (by as_aux_lemma => kernel_rfl) (by as_aux_lemma => kernel_rfl) (by as_aux_lemma => kernel_rfl) (fun _ _ _ h => h) (Or.inl ⟨by rfl, ?hy15⟩) (HDC.out _ hBc) ?_
              case hy15 =>
                intro w hSw
                try dsimp only at hSw
                go_simp <;> with_reducible rfl
              try simp only [Act.put, List.setIfInBounds_toArray, List.set_cons_zero, List.set_cons_succ]
              refine wpAnyH_ready (rs := [16]) (by as_aux_lemma => kernel_rfl) (by simp) ?_
              refine AllReadyH.cons (o := { dst := some 106, op := Op.call { callee := Callee.value (Operand.func 22), args := #[Operand.tmp 104, Operand.tmp 105], argTypes := #[24, 24] }, type := 4, pos := "laws.go:249", after := #[{ on := 14, ground := Ground.data }, { on := 15, ground := Ground.data }, { on := 13, ground := Ground.chain }, { on := 13, ground := Ground.guard }], guard := some (13, true) }) rfl (fun K hK => ?_) AllReadyH.nil
              go_simp
              refine (C4.out _ hBc).mono ?_
              rintro e wn ⟨rfl, hbn⟩
              replace hBc := hBc.trans (hbn.mono hBc.size)
              clear hbn
              try go_wp2_with fail
              refine hK.out _ _ (HDC.out _ hBc) (fun _ => ?_)
              clear hK K
              try simp only [List.setIfInBounds_toArray, List.set_cons_zero, List.set_cons_succ]
              refine wpAnyH_take (i := 17) (oi := { dst := some 107, op := Op.pick (Operand.tmp 103) (Operand.tmp 106) (Operand.const (Value.bool false)), type := 4, pos := "laws.go:249", after := #[{ on := 13, ground := Ground.data }, { on := 16, ground := Ground.data }], guard := none }) (v := ?v17) rfl (by as_aux_lemma => kernel_rfl) (by as_aux_lemma => kernel_rfl) (by as_aux_lemma => kernel_rfl) (fun _ _ _ h => h) (Or.inl ⟨by rfl, ?hy17⟩) (HDC.out _ hBc) ?_
              case hy17 =>
                intro w hSw
                try dsimp only at hSw
                go_simp <;> with_reducible rfl
              try simp only [Act.put, List.setIfInBounds_toArray, List.set_cons_zero, List.set_cons_succ]
              refine wpAnyH_take (i := 18) (oi := { dst := some 108, op := Op.move (Operand.tmp 107), type := 4, pos := "laws.go:249", after := #[{ on := 17, ground := Ground.data }, { on := 16, ground := Ground.chain }], guard := none }) (v := ?v18) rfl (by as_aux_lemma => kernel_rfl) (by as_aux_lemma => kernel_rfl) (by as_aux_lemma => kernel_rfl) (fun _ _ _ h => h) (Or.inl ⟨by rfl, ?hy18⟩) (HDC.out _ hBc) ?_
              case hy18 =>
                intro w hSw
                try dsimp only at hSw
                go_simp <;> with_reducible rfl
              try simp only [Act.put, List.setIfInBounds_toArray, List.set_cons_zero, List.set_cons_succ]
              refine wpAnyH_take (i := 19) (oi := { dst := some 109, op := Op.move (Operand.tmp 4), type := 24, pos := "laws.go:249", after := #[{ on := 18, ground := Ground.guard }], guard := some (18, true) }) (v := ?v19) rfl (by as_aux_lemma => kernel_rfl) (by as_aux_lemma => kernel_rfl) (by as_aux_lemma => kernel_rfl) (fun _ _ _ h => h) (Or.inl ⟨by rfl, ?hy19⟩) (HDC.out _ hBc) ?_
              case hy19 =>
                intro w hSw
                try dsimp only at hSw
                go_simp <;> with_reducible rfl
              try simp only [Act.put, List.setIfInBounds_toArray, List.set_cons_zero, List.set_cons_succ]
              as_aux_lemma =>
                refine wpAnyH_take (i := 20) (oi := { dst := some 110, op := Op.move (Operand.tmp 3), type := 24, pos := "laws.go:249", after := #[{ on := 18, ground := Ground.guard }], guard := some (18, true) }) (v := ?v20) rfl (by as_aux_lemma => kernel_rfl) (by as_aux_lemma => kernel_rfl) (by as_aux_lemma => kernel_rfl) (fun _ _ _ h => h) (Or.inl ⟨by rfl, ?hy20⟩) (HDC.out _ hBc) ?_
                case hy20 =>
                  intro w hSw
                  try dsimp only at hSw
                  go_simp <;> with_reducible rfl
                try simp only [Act.put, List.setIfInBounds_toArray, List.set_cons_zero, List.set_cons_succ]
                refine wpAnyH_take (i := 22) (oi := { dst := some 112, op := Op.move (Operand.tmp 5), type := 24, pos := "laws.go:249", after := #[{ on := 18, ground := Ground.guard }], guard := some (18, true) }) (v := ?v22) rfl (by as_aux_lemma => kernel_rfl) (by as_aux_lemma => kernel_rfl) (by as_aux_lemma => kernel_rfl) (fun _ _ _ h => h) (Or.inl ⟨by rfl, ?hy22⟩) (HDC.out _ hBc) ?_
                case hy22 =>
                  intro w hSw
                  try dsimp only at hSw
                  go_simp <;> with_reducible rfl
                try simp only [Act.put, List.setIfInBounds_toArray, List.set_cons_zero, List.set_cons_succ]
                refine wpAnyH_ready (rs := [21]) (by as_aux_lemma => kernel_rfl) (by simp) ?_
                refine AllReadyH.cons (o := { dst := some 111, op := Op.call { callee := Callee.value (Operand.func 14), args := #[Operand.tmp 109, Operand.tmp 110], argTypes := #[24, 24] }, type := 24, pos := "laws.go:249", after := #[{ on := 19, ground := Ground.data }, { on := 20, ground := Ground.data }, { on := 18, ground := Ground.chain }, { on := 18, ground := Ground.guard }], guard := some (18, true) }) rfl (fun K hK => ?_) AllReadyH.nil
                go_simp
                refine (C5.out _ hBc).mono ?_
                rintro e wn ⟨x5, rfl, k5, hbn⟩
                replace hBc := hBc.trans (hbn.mono hBc.size)
                clear hbn
                try go_wp2_with fail
                refine hK.out _ _ (HDC.out _ hBc) (fun _ => ?_)
                clear hK K
                try simp only [List.setIfInBounds_toArray, List.set_cons_zero, List.set_cons_succ]
                refine wpAnyH_ready (rs := [23]) (by as_aux_lemma => kernel_rfl) (by simp) ?_
                refine AllReadyH.cons (o := { dst := some 113, op := Op.call { callee := Callee.value (Operand.func 23), args := #[Operand.tmp 111, Operand.tmp 112], argTypes := #[24, 24] }, type := 4, pos := "laws.go:249", after := #[{ on := 21, ground := Ground.data }, { on := 22, ground := Ground.data }, { on := 21, ground := Ground.chain }, { on := 18, ground := Ground.guard }], guard := some (18, true) }) rfl (fun K hK => ?_) AllReadyH.nil
                go_simp
                refine (C6.out _ _ hBc k5).mono ?_
                rintro e wn ⟨rfl, hbn⟩
                replace hBc := hBc.trans (hbn.mono hBc.size)
                clear hbn
                try go_wp2_with fail
                refine hK.out _ _ (HDC.out _ hBc) (fun _ => ?_)
                clear hK K
                try simp only [List.setIfInBounds_toArray, List.set_cons_zero, List.set_cons_succ]
                refine wpAnyH_take (i := 24) (oi := { dst := some 114, op := Op.pick (Operand.tmp 108) (Operand.tmp 113) (Operand.const (Value.bool false)), type := 4, pos := "laws.go:249", after := #[{ on := 18, ground := Ground.data }, { on := 23, ground := Ground.data }], guard := none }) (v := ?v24) rfl (by as_aux_lemma => kernel_rfl) (by as_aux_lemma => kernel_rfl) (by as_aux_lemma => kernel_rfl) (fun _ _ _ h => h) (Or.inl ⟨by rfl, ?hy24⟩) (HDC.out _ hBc) ?_
                case hy24 =>
                  intro w hSw
                  try dsimp only at hSw
                  go_simp <;> with_reducible rfl
                try simp only [Act.put, List.setIfInBounds_toArray, List.set_cons_zero, List.set_cons_succ]
                refine wpAnyH_take (i := 25) (oi := { dst := some 115, op := Op.move (Operand.tmp 114), type := 4, pos := "laws.go:249", after := #[{ on := 24, ground := Ground.data }, { on := 23, ground := Ground.chain }], guard := none }) (v := ?v25) rfl (by as_aux_lemma => kernel_rfl) (by as_aux_lemma => kernel_rfl) (by as_aux_lemma => kernel_rfl) (fun _ _ _ h => h) (Or.inl ⟨by rfl, ?hy25⟩) (HDC.out _ hBc) ?_
                case hy25 =>
                  intro w hSw
                  try dsimp only at hSw
                  go_simp <;> with_reducible rfl
                try simp only [Act.put, List.setIfInBounds_toArray, List.set_cons_zero, List.set_cons_succ]
                refine wpAnyH_take (i := 26) (oi := { dst := some 116, op := Op.move (Operand.tmp 7), type := 28, pos := "laws.go:249", after := #[{ on := 25, ground := Ground.guard }], guard := some (25, true) }) (v := ?v26) rfl (by as_aux_lemma => kernel_rfl) (by as_aux_lemma => kernel_rfl) (by as_aux_lemma => kernel_rfl) (fun _ _ _ h => h) (Or.inl ⟨by rfl, ?hy26⟩) (HDC.out _ hBc) ?_
                case hy26 =>
                  intro w hSw
                  try dsimp only at hSw
                  go_simp <;> with_reducible rfl
                try simp only [Act.put, List.setIfInBounds_toArray, List.set_cons_zero, List.set_cons_succ]
                refine wpAnyH_take (i := 27) (oi := { dst := some 117, op := Op.call { callee := Callee.builtin Builtin.len, args := #[Operand.tmp 116], argTypes := #[28] }, type := 3, pos := "laws.go:249", after := #[{ on := 26, ground := Ground.data }, { on := 25, ground := Ground.guard }], guard := some (25, true) }) (v := ?v27) rfl (by as_aux_lemma => kernel_rfl) (by as_aux_lemma => kernel_rfl) (by as_aux_lemma => kernel_rfl) (fun _ _ _ h => h) (Or.inl ⟨by rfl, ?hy27⟩) (HDC.out _ hBc) ?_
                case hy27 =>
                  intro w hSw
                  try dsimp only at hSw
                  go_simp <;> with_reducible rfl
                try simp only [Act.put, List.setIfInBounds_toArray, List.set_cons_zero, List.set_cons_succ]
                refine wpAnyH_take (i := 28) (oi := { dst := some 118, op := Op.move (Operand.tmp 8), type := 3, pos := "laws.go:249", after := #[{ on := 25, ground := Ground.guard }], guard := some (25, true) }) (v := ?v28) rfl (by as_aux_lemma => kernel_rfl) (by as_aux_lemma => kernel_rfl) (by as_aux_lemma => kernel_rfl) (fun _ _ _ h => h) (Or.inl ⟨by rfl, ?hy28⟩) (HDC.out _ hBc) ?_
                case hy28 =>
                  intro w hSw
                  try dsimp only at hSw
                  go_simp <;> with_reducible rfl
                try simp only [Act.put, List.setIfInBounds_toArray, List.set_cons_zero, List.set_cons_succ]
                refine wpAnyH_take (i := 29) (oi := { dst := some 119, op := Op.binOp BinOp.eql 3 (Operand.tmp 117) (Operand.tmp 118) 3, type := 4, pos := "laws.go:249", after := #[{ on := 27, ground := Ground.data }, { on := 28, ground := Ground.data }, { on := 25, ground := Ground.guard }], guard := some (25, true) }) (v := ?v29) rfl (by as_aux_lemma => kernel_rfl) (by as_aux_lemma => kernel_rfl) (by as_aux_lemma => kernel_rfl) (fun _ _ _ h => h) (Or.inl ⟨by rfl, ?hy29⟩) (HDC.out _ hBc) ?_
                case hy29 =>
                  intro w hSw
                  try dsimp only at hSw
                  go_simp <;> with_reducible rfl
                try simp only [Act.put, List.setIfInBounds_toArray, List.set_cons_zero, List.set_cons_succ]
                as_aux_lemma =>
                  refine wpAnyH_take (i := 30) (oi := { dst := some 120, op := Op.pick (Operand.tmp 115) (Operand.tmp 119) (Operand.const (Value.bool false)), type := 4, pos := "laws.go:249", after := #[{ on := 25, ground := Ground.data }, { on := 29, ground := Ground.data }], guard := none }) (v := ?v30) rfl (by as_aux_lemma => kernel_rfl) (by as_aux_lemma => kernel_rfl) (by as_aux_lemma => kernel_rfl) (fun _ _ _ h => h) (Or.inl ⟨by rfl, ?hy30⟩) (HDC.out _ hBc) ?_
                  case hy30 =>
                    intro w hSw
                    try dsimp only at hSw
                    go_simp <;> with_reducible rfl
                  try simp only [Act.put, List.setIfInBounds_toArray, List.set_cons_zero, List.set_cons_succ]
                  refine wpAnyH_take (i := 31) (oi := { dst := some 121, op := Op.move (Operand.tmp 120), type := 4, pos := "laws.go:249", after := #[{ on := 30, ground := Ground.data }, { on := 25, ground := Ground.chain }], guard := none }) (v := ?v31) rfl (by as_aux_lemma => kernel_rfl) (by as_aux_lemma => kernel_rfl) (by as_aux_lemma => kernel_rfl) (fun _ _ _ h => h) (Or.inl ⟨by rfl, ?hy31⟩) (HDC.out _ hBc) ?_
                  case hy31 =>
                    intro w hSw
                    try dsimp only at hSw
                    go_simp <;> with_reducible rfl
                  try simp only [Act.put, List.setIfInBounds_toArray, List.set_cons_zero, List.set_cons_succ]
                  refine wpAnyH_take (i := 32) (oi := { dst := some 122, op := Op.move (Operand.tmp 3), type := 24, pos := "laws.go:249", after := #[{ on := 31, ground := Ground.guard }], guard := some (31, true) }) (v := ?v32) rfl (by as_aux_lemma => kernel_rfl) (by as_aux_lemma => kernel_rfl) (by as_aux_lemma => kernel_rfl) (fun _ _ _ h => h) (Or.inl ⟨by rfl, ?hy32⟩) (HDC.out _ hBc) ?_
                  case hy32 =>
                    intro w hSw
                    try dsimp only at hSw
                    go_simp <;> with_reducible rfl
                  try simp only [Act.put, List.setIfInBounds_toArray, List.set_cons_zero, List.set_cons_succ]
                  refine wpAnyH_take (i := 33) (oi := { dst := some 123, op := Op.move (Operand.tmp 4), type := 24, pos := "laws.go:249", after := #[{ on := 31, ground := Ground.guard }], guard := some (31, true) }) (v := ?v33) rfl (by as_aux_lemma => kernel_rfl) (by as_aux_lemma => kernel_rfl) (by as_aux_lemma => kernel_rfl) (fun _ _ _ h => h) (Or.inl ⟨by rfl, ?hy33⟩) (HDC.out _ hBc) ?_
                  case hy33 =>
                    intro w hSw
                    try dsimp only at hSw
                    go_simp <;> with_reducible rfl
                  try simp only [Act.put, List.setIfInBounds_toArray, List.set_cons_zero, List.set_cons_succ]
                  refine wpAnyH_take (i := 35) (oi := { dst := some 125, op := Op.move (Operand.tmp 4), type := 24, pos := "laws.go:249", after := #[{ on := 31, ground := Ground.guard }], guard := some (31, true) }) (v := ?v35) rfl (by as_aux_lemma => kernel_rfl) (by as_aux_lemma => kernel_rfl) (by as_aux_lemma => kernel_rfl) (fun _ _ _ h => h) (Or.inl ⟨by rfl, ?hy35⟩) (HDC.out _ hBc) ?_
                  case hy35 =>
                    intro w hSw
                    try dsimp only at hSw
                    go_simp <;> with_reducible rfl
                  try simp only [Act.put, List.setIfInBounds_toArray, List.set_cons_zero, List.set_cons_succ]
                  refine wpAnyH_take (i := 36) (oi := { dst := some 126, op := Op.move (Operand.tmp 3), type := 24, pos := "laws.go:249", after := #[{ on := 31, ground := Ground.guard }], guard := some (31, true) }) (v := ?v36) rfl (by as_aux_lemma => kernel_rfl) (by as_aux_lemma => kernel_rfl) (by as_aux_lemma => kernel_rfl) (fun _ _ _ h => h) (Or.inl ⟨by rfl, ?hy36⟩) (HDC.out _ hBc) ?_
                  case hy36 =>
                    intro w hSw
                    try dsimp only at hSw
                    go_simp <;> with_reducible rfl
                  try simp only [Act.put, List.setIfInBounds_toArray, List.set_cons_zero, List.set_cons_succ]
                  refine wpAnyH_ready (rs := [34]) (by as_aux_lemma => kernel_rfl) (by simp) ?_
                  refine AllReadyH.cons (o := { dst := some 124, op := Op.call { callee := Callee.value (Operand.func 22), args := #[Operand.tmp 122, Operand.tmp 123], argTypes := #[24, 24] }, type := 4, pos := "laws.go:249", after := #[{ on := 32, ground := Ground.data }, { on := 33, ground := Ground.data }, { on := 31, ground := Ground.chain }, { on := 31, ground := Ground.guard }], guard := some (31, true) }) rfl (fun K hK => ?_) AllReadyH.nil
                  go_simp
                  refine (C8.out _ hBc).mono ?_
                  rintro e wn ⟨rfl, hbn⟩
                  replace hBc := hBc.trans (hbn.mono hBc.size)
                  clear hbn
                  try go_wp2_with fail
                  refine hK.out _ _ (HDC.out _ hBc) (fun _ => ?_)
                  clear hK K
                  try simp only [List.setIfInBounds_toArray, List.set_cons_zero, List.set_cons_succ]
                  refine wpAnyH_ready (rs := [37]) (by as_aux_lemma => kernel_rfl) (by simp) ?_
                  refine AllReadyH.cons (o := { dst := some 127, op := Op.call { callee := Callee.value (Operand.func 16), args := #[Operand.tmp 125, Operand.tmp 126], argTypes := #[24, 24] }, type := 28, pos := "laws.go:249", after := #[{ on := 35, ground := Ground.data }, { on := 36, ground := Ground.data }, { on := 34, ground := Ground.chain }, { on := 31, ground := Ground.guard }], guard := some (31, true) }) rfl (fun K hK => ?_) AllReadyH.nil
                  go_simp
                  refine (C9.out _ hBc).mono ?_
                  rintro e wn ⟨ad9, cd9, rfl, hbn⟩
                  replace hBc := hBc.trans (hbn.mono hBc.size)
                  clear hbn
                  try go_wp2_with fail
                  refine hK.out _ _ (HDC.out _ hBc) (fun _ => ?_)
                  clear hK K
                  try simp only [List.setIfInBounds_toArray, List.set_cons_zero, List.set_cons_succ]
                  refine wpAnyH_take (i := 38) (oi := { dst := some 128, op := Op.call { callee := Callee.builtin Builtin.len, args := #[Operand.tmp 127], argTypes := #[28] }, type := 3, pos := "laws.go:249", after := #[{ on := 37, ground := Ground.data }, { on := 31, ground := Ground.guard }], guard := some (31, true) }) (v := ?v38) rfl (by as_aux_lemma => kernel_rfl) (by as_aux_lemma => kernel_rfl) (by as_aux_lemma => kernel_rfl) (fun _ _ _ h => h) (Or.inl ⟨by rfl, ?hy38⟩) (HDC.out _ hBc) ?_
                  case hy38 =>
                    intro w hSw
                    try dsimp only at hSw
                    go_simp <;> with_reducible rfl
                  try simp only [Act.put, List.setIfInBounds_toArray, List.set_cons_zero, List.set_cons_succ]
                  refine wpAnyH_take (i := 39) (oi := { dst := some 129, op := Op.binOp BinOp.eql 3 (Operand.tmp 128) (Operand.const (Value.int IntKind.i64 0)) 3, type := 4, pos := "laws.go:249", after := #[{ on := 38, ground := Ground.data }, { on := 31, ground := Ground.guard }], guard := some (31, true) }) (v := ?v39) rfl (by as_aux_lemma => kernel_rfl) (by as_aux_lemma => kernel_rfl) (by as_aux_lemma => kernel_rfl) (fun _ _ _ h => h) (Or.inl ⟨by rfl, ?hy39⟩) (HDC.out _ hBc) ?_
                  case hy39 =>
                    intro w hSw
                    try dsimp only at hSw
                    go_simp <;> with_reducible rfl
                  try simp only [Act.put, List.setIfInBounds_toArray, List.set_cons_zero, List.set_cons_succ]
                  as_aux_lemma =>
                    refine wpAnyH_take (i := 40) (oi := { dst := some 130, op := Op.binOp BinOp.eql 4 (Operand.tmp 124) (Operand.tmp 129) 4, type := 4, pos := "laws.go:249", after := #[{ on := 34, ground := Ground.data }, { on := 39, ground := Ground.data }, { on := 31, ground := Ground.guard }], guard := some (31, true) }) (v := ?v40) rfl (by as_aux_lemma => kernel_rfl) (by as_aux_lemma => kernel_rfl) (by as_aux_lemma => kernel_rfl) (fun _ _ _ h => h) (Or.inl ⟨by rfl, ?hy40⟩) (HDC.out _ hBc) ?_
                    case hy40 =>
                      intro w hSw
                      try dsimp only at hSw
                      go_simp <;> with_reducible rfl
                    try simp only [Act.put, List.setIfInBounds_toArray, List.set_cons_zero, List.set_cons_succ]
                    refine wpAnyH_take (i := 41) (oi := { dst := some 131, op := Op.pick (Operand.tmp 121) (Operand.tmp 130) (Operand.const (Value.bool false)), type := 4, pos := "laws.go:249", after := #[{ on := 31, ground := Ground.data }, { on := 40, ground := Ground.data }], guard := none }) (v := ?v41) rfl (by as_aux_lemma => kernel_rfl) (by as_aux_lemma => kernel_rfl) (by as_aux_lemma => kernel_rfl) (fun _ _ _ h => h) (Or.inl ⟨by rfl, ?hy41⟩) (HDC.out _ hBc) ?_
                    case hy41 =>
                      intro w hSw
                      try dsimp only at hSw
                      go_simp <;> with_reducible rfl
                    try simp only [Act.put, List.setIfInBounds_toArray, List.set_cons_zero, List.set_cons_succ]
                    refine wpAnyH_take (i := 42) (oi := { dst := some 132, op := Op.move (Operand.tmp 131), type := 4, pos := "laws.go:249", after := #[{ on := 41, ground := Ground.data }, { on := 37, ground := Ground.chain }], guard := none }) (v := ?v42) rfl (by as_aux_lemma => kernel_rfl) (by as_aux_lemma => kernel_rfl) (by as_aux_lemma => kernel_rfl) (fun _ _ _ h => h) (Or.inl ⟨by rfl, ?hy42⟩) (HDC.out _ hBc) ?_
                    case hy42 =>
                      intro w hSw
                      try dsimp only at hSw
                      go_simp <;> with_reducible rfl
                    try simp only [Act.put, List.setIfInBounds_toArray, List.set_cons_zero, List.set_cons_succ]
                    refine wpAnyH_take (i := 43) (oi := { dst := some 133, op := Op.move (Operand.tmp 11), type := 24, pos := "laws.go:249", after := #[{ on := 42, ground := Ground.guard }], guard := some (42, true) }) (v := ?v43) rfl (by as_aux_lemma => kernel_rfl) (by as_aux_lemma => kernel_rfl) (by as_aux_lemma => kernel_rfl) (fun _ _ _ h => h) (Or.inl ⟨by rfl, ?hy43⟩) (HDC.out _ hBc) ?_
                    case hy43 =>
                      intro w hSw
                      try dsimp only at hSw
                      go_simp <;> with_reducible rfl
                    try simp only [Act.put, List.setIfInBounds_toArray, List.set_cons_zero, List.set_cons_succ]
                    refine wpAnyH_take (i := 44) (oi := { dst := some 134, op := Op.move (Operand.tmp 12), type := 24, pos := "laws.go:249", after := #[{ on := 42, ground := Ground.guard }], guard := some (42, true) }) (v := ?v44) rfl (by as_aux_lemma => kernel_rfl) (by as_aux_lemma => kernel_rfl) (by as_aux_lemma => kernel_rfl) (fun _ _ _ h => h) (Or.inl ⟨by rfl, ?hy44⟩) (HDC.out _ hBc) ?_
                    case hy44 =>
                      intro w hSw
                      try dsimp only at hSw
                      go_simp <;> with_reducible rfl
                    try simp only [Act.put, List.setIfInBounds_toArray, List.set_cons_zero, List.set_cons_succ]
                    refine wpAnyH_take (i := 46) (oi := { dst := some 136, op := Op.move (Operand.tmp 11), type := 24, pos := "laws.go:249", after := #[{ on := 42, ground := Ground.guard }], guard := some (42, true) }) (v := ?v46) rfl (by as_aux_lemma => kernel_rfl) (by as_aux_lemma => kernel_rfl) (by as_aux_lemma => kernel_rfl) (fun _ _ _ h => h) (Or.inl ⟨by rfl, ?hy46⟩) (HDC.out _ hBc) ?_
                    case hy46 =>
                      intro w hSw
                      try dsimp only at hSw
                      go_simp <;> with_reducible rfl
                    try simp only [Act.put, List.setIfInBounds_toArray, List.set_cons_zero, List.set_cons_succ]
                    refine wpAnyH_take (i := 47) (oi := { dst := some 137, op := Op.move (Operand.tmp 12), type := 24, pos := "laws.go:249", after := #[{ on := 42, ground := Ground.guard }], guard := some (42, true) }) (v := ?v47) rfl (by as_aux_lemma => kernel_rfl) (by as_aux_lemma => kernel_rfl) (by as_aux_lemma => kernel_rfl) (fun _ _ _ h => h) (Or.inl ⟨by rfl, ?hy47⟩) (HDC.out _ hBc) ?_
                    case hy47 =>
                      intro w hSw
                      try dsimp only at hSw
                      go_simp <;> with_reducible rfl
                    try simp only [Act.put, List.setIfInBounds_toArray, List.set_cons_zero, List.set_cons_succ]
                    refine wpAnyH_ready (rs := [45]) (by as_aux_lemma => kernel_rfl) (by simp) ?_
                    refine AllReadyH.cons (o := { dst := some 135, op := Op.call { callee := Callee.value (Operand.func 22), args := #[Operand.tmp 133, Operand.tmp 134], argTypes := #[24, 24] }, type := 4, pos := "laws.go:249", after := #[{ on := 43, ground := Ground.data }, { on := 44, ground := Ground.data }, { on := 42, ground := Ground.chain }, { on := 42, ground := Ground.guard }], guard := some (42, true) }) rfl (fun K hK => ?_) AllReadyH.nil
                    go_simp
                    refine (C10.out _ hBc).mono ?_
                    rintro e wn ⟨rfl, hbn⟩
                    replace hBc := hBc.trans (hbn.mono hBc.size)
                    clear hbn
                    try go_wp2_with fail
                    refine hK.out _ _ (HDC.out _ hBc) (fun _ => ?_)
                    clear hK K
                    try simp only [List.setIfInBounds_toArray, List.set_cons_zero, List.set_cons_succ]
                    refine wpAnyH_ready (rs := [48]) (by as_aux_lemma => kernel_rfl) (by simp) ?_
                    refine AllReadyH.cons (o := { dst := some 138, op := Op.call { callee := Callee.value (Operand.func 24), args := #[Operand.tmp 136, Operand.tmp 137], argTypes := #[24, 24] }, type := 4, pos := "laws.go:249", after := #[{ on := 46, ground := Ground.data }, { on := 47, ground := Ground.data }, { on := 45, ground := Ground.chain }, { on := 42, ground := Ground.guard }], guard := some (42, true) }) rfl (fun K hK => ?_) AllReadyH.nil
                    go_simp
                    refine (C11.out _ hBc).mono ?_
                    rintro e wn ⟨rfl, hbn⟩
                    replace hBc := hBc.trans (hbn.mono hBc.size)
                    clear hbn
                    try go_wp2_with fail
                    refine hK.out _ _ (HDC.out _ hBc) (fun _ => ?_)
                    clear hK K
                    try simp only [List.setIfInBounds_toArray, List.set_cons_zero, List.set_cons_succ]
                    refine wpAnyH_take (i := 49) (oi := { dst := some 139, op := Op.binOp BinOp.eql 4 (Operand.tmp 135) (Operand.tmp 138) 4, type := 4, pos := "laws.go:249", after := #[{ on := 45, ground := Ground.data }, { on := 48, ground := Ground.data }, { on := 42, ground := Ground.guard }], guard := some (42, true) }) (v := ?v49) rfl (by as_aux_lemma => kernel_rfl) (by as_aux_lemma => kernel_rfl) (by as_aux_lemma => kernel_rfl) (fun _ _ _ h => h) (Or.inl ⟨by rfl, ?hy49⟩) (HDC.out _ hBc) ?_
                    case hy49 =>
                      intro w hSw
                      try dsimp only at hSw
                      go_simp <;> with_reducible rfl
                    try simp only [Act.put, List.setIfInBounds_toArray, List.set_cons_zero, List.set_cons_succ]
                    as_aux_lemma =>
                      refine wpAnyH_take (i := 50) (oi := { dst := some 140, op := Op.pick (Operand.tmp 132) (Operand.tmp 139) (Operand.const (Value.bool false)), type := 4, pos := "laws.go:249", after := #[{ on := 42, ground := Ground.data }, { on := 49, ground := Ground.data }], guard := none }) (v := ?v50) rfl (by as_aux_lemma => kernel_rfl) (by as_aux_lemma => kernel_rfl) (by as_aux_lemma => kernel_rfl) (fun _ _ _ h => h) (Or.inl ⟨by rfl, ?hy50⟩) (HDC.out _ hBc) ?_
                      case hy50 =>
                        intro w hSw
                        try dsimp only at hSw
                        go_simp <;> with_reducible rfl
                      try simp only [Act.put, List.setIfInBounds_toArray, List.set_cons_zero, List.set_cons_succ]
                      refine wpAnyH_take (i := 51) (oi := { dst := some 141, op := Op.move (Operand.tmp 140), type := 4, pos := "laws.go:249", after := #[{ on := 50, ground := Ground.data }, { on := 48, ground := Ground.chain }], guard := none }) (v := ?v51) rfl (by as_aux_lemma => kernel_rfl) (by as_aux_lemma => kernel_rfl) (by as_aux_lemma => kernel_rfl) (fun _ _ _ h => h) (Or.inl ⟨by rfl, ?hy51⟩) (HDC.out _ hBc) ?_
                      case hy51 =>
                        intro w hSw
                        try dsimp only at hSw
                        go_simp <;> with_reducible rfl
                      try simp only [Act.put, List.setIfInBounds_toArray, List.set_cons_zero, List.set_cons_succ]
                      refine wpAnyH_take (i := 52) (oi := { dst := some 142, op := Op.move (Operand.tmp 13), type := 24, pos := "laws.go:249", after := #[{ on := 51, ground := Ground.guard }], guard := some (51, true) }) (v := ?v52) rfl (by as_aux_lemma => kernel_rfl) (by as_aux_lemma => kernel_rfl) (by as_aux_lemma => kernel_rfl) (fun _ _ _ h => h) (Or.inl ⟨by rfl, ?hy52⟩) (HDC.out _ hBc) ?_
                      case hy52 =>
                        intro w hSw
                        try dsimp only at hSw
                        go_simp <;> with_reducible rfl
                      try simp only [Act.put, List.setIfInBounds_toArray, List.set_cons_zero, List.set_cons_succ]
                      refine wpAnyH_take (i := 53) (oi := { dst := some 143, op := Op.load 32 (Operand.tmp 14), type := 32, pos := "laws.go:249", after := #[{ on := 51, ground := Ground.guard }], guard := some (51, true) }) (v := ?v53) rfl (by as_aux_lemma => kernel_rfl) (by as_aux_lemma => kernel_rfl) (by as_aux_lemma => kernel_rfl) (fun _ _ _ h => h) (Or.inl ⟨by rfl, ?hy53⟩) (HDC.out _ hBc) ?_
                      case hy53 =>
                        intro w hSw
                        try dsimp only at hSw
                        go_simp <;> with_reducible rfl
                      try simp only [Act.put, List.setIfInBounds_toArray, List.set_cons_zero, List.set_cons_succ]
                      refine wpAnyH_take (i := 55) (oi := { dst := some 145, op := Op.move (Operand.tmp 13), type := 24, pos := "laws.go:249", after := #[{ on := 51, ground := Ground.guard }], guard := some (51, true) }) (v := ?v55) rfl (by as_aux_lemma => kernel_rfl) (by as_aux_lemma => kernel_rfl) (by as_aux_lemma => kernel_rfl) (fun _ _ _ h => h) (Or.inl ⟨by rfl, ?hy55⟩) (HDC.out _ hBc) ?_
                      case hy55 =>
                        intro w hSw
                        try dsimp only at hSw
                        go_simp <;> with_reducible rfl
                      try simp only [Act.put, List.setIfInBounds_toArray, List.set_cons_zero, List.set_cons_succ]
                      refine wpAnyH_take (i := 56) (oi := { dst := some 146, op := Op.load 32 (Operand.tmp 14), type := 32, pos := "laws.go:249", after := #[{ on := 51, ground := Ground.guard }], guard := some (51, true) }) (v := ?v56) rfl (by as_aux_lemma => kernel_rfl) (by as_aux_lemma => kernel_rfl) (by as_aux_lemma => kernel_rfl) (fun _ _ _ h => h) (Or.inl ⟨by rfl, ?hy56⟩) (HDC.out _ hBc) ?_
                      case hy56 =>
                        intro w hSw
                        try dsimp only at hSw
                        go_simp <;> with_reducible rfl
                      try simp only [Act.put, List.setIfInBounds_toArray, List.set_cons_zero, List.set_cons_succ]
                      refine wpAnyH_ready (rs := [54]) (by as_aux_lemma => kernel_rfl) (by simp) ?_
                      refine AllReadyH.cons (o := { dst := some 144, op := Op.call { callee := Callee.value (Operand.func 17), args := #[Operand.tmp 142, Operand.tmp 143], argTypes := #[24, 32] }, type := 4, pos := "laws.go:249", after := #[{ on := 52, ground := Ground.data }, { on := 53, ground := Ground.data }, { on := 51, ground := Ground.chain }, { on := 51, ground := Ground.guard }], guard := some (51, true) }) rfl (fun K hK => ?_) AllReadyH.nil
                      go_simp
                      refine (C12.out _ hBc).mono ?_
                      rintro e wn ⟨rfl, hbn⟩
                      replace hBc := hBc.trans (hbn.mono hBc.size)
                      clear hbn
                      try go_wp2_with fail
                      refine hK.out _ _ (HDC.out _ hBc) (fun _ => ?_)
                      clear hK K
                      try simp only [List.setIfInBounds_toArray, List.set_cons_zero, List.set_cons_succ]
                      refine wpAnyH_ready (rs := [57]) (by as_aux_lemma => kernel_rfl) (by simp) ?_
                      refine AllReadyH.cons (o := { dst := some 147, op := Op.call { callee := Callee.value (Operand.func 25), args := #[Operand.tmp 145, Operand.tmp 146], argTypes := #[24, 32] }, type := 4, pos := "laws.go:249", after := #[{ on := 55, ground := Ground.data }, { on := 56, ground := Ground.data }, { on := 54, ground := Ground.chain }, { on := 51, ground := Ground.guard }], guard := some (51, true) }) rfl (fun K hK => ?_) AllReadyH.nil
                      go_simp
                      refine (C13.out _ hBc).mono ?_
                      rintro e wn ⟨rfl, hbn⟩
                      replace hBc := hBc.trans (hbn.mono hBc.size)
                      clear hbn
                      try go_wp2_with fail
                      refine hK.out _ _ (HDC.out _ hBc) (fun _ => ?_)
                      clear hK K
                      try simp only [List.setIfInBounds_toArray, List.set_cons_zero, List.set_cons_succ]
                      refine wpAnyH_take (i := 58) (oi := { dst := some 148, op := Op.binOp BinOp.eql 4 (Operand.tmp 144) (Operand.tmp 147) 4, type := 4, pos := "laws.go:249", after := #[{ on := 54, ground := Ground.data }, { on := 57, ground := Ground.data }, { on := 51, ground := Ground.guard }], guard := some (51, true) }) (v := ?v58) rfl (by as_aux_lemma => kernel_rfl) (by as_aux_lemma => kernel_rfl) (by as_aux_lemma => kernel_rfl) (fun _ _ _ h => h) (Or.inl ⟨by rfl, ?hy58⟩) (HDC.out _ hBc) ?_
                      case hy58 =>
                        intro w hSw
                        try dsimp only at hSw
                        go_simp <;> with_reducible rfl
                      try simp only [Act.put, List.setIfInBounds_toArray, List.set_cons_zero, List.set_cons_succ]
                      refine wpAnyH_take (i := 59) (oi := { dst := some 149, op := Op.pick (Operand.tmp 141) (Operand.tmp 148) (Operand.const (Value.bool false)), type := 4, pos := "laws.go:249", after := #[{ on := 51, ground := Ground.data }, { on := 58, ground := Ground.data }], guard := none }) (v := ?v59) rfl (by as_aux_lemma => kernel_rfl) (by as_aux_lemma => kernel_rfl) (by as_aux_lemma => kernel_rfl) (fun _ _ _ h => h) (Or.inl ⟨by rfl, ?hy59⟩) (HDC.out _ hBc) ?_
                      case hy59 =>
                        intro w hSw
                        try dsimp only at hSw
                        go_simp <;> with_reducible rfl
                      try simp only [Act.put, List.setIfInBounds_toArray, List.set_cons_zero, List.set_cons_succ]
                      as_aux_lemma =>
                        refine wpAnyH_take (i := 60) (oi := { dst := some 150, op := Op.move (Operand.tmp 149), type := 4, pos := "laws.go:249", after := #[{ on := 59, ground := Ground.data }, { on := 57, ground := Ground.chain }], guard := none }) (v := ?v60) rfl (by as_aux_lemma => kernel_rfl) (by as_aux_lemma => kernel_rfl) (by as_aux_lemma => kernel_rfl) (fun _ _ _ h => h) (Or.inl ⟨by rfl, ?hy60⟩) (HDC.out _ hBc) ?_
                        case hy60 =>
                          intro w hSw
                          try dsimp only at hSw
                          go_simp <;> with_reducible rfl
                        try simp only [Act.put, List.setIfInBounds_toArray, List.set_cons_zero, List.set_cons_succ]
                        refine wpAnyH_take (i := 61) (oi := { dst := some 151, op := Op.load 32 (Operand.tmp 15), type := 32, pos := "laws.go:249", after := #[{ on := 60, ground := Ground.guard }], guard := some (60, true) }) (v := ?v61) rfl (by as_aux_lemma => kernel_rfl) (by as_aux_lemma => kernel_rfl) (by as_aux_lemma => kernel_rfl) (fun _ _ _ h => h) (Or.inl ⟨by rfl, ?hy61⟩) (HDC.out _ hBc) ?_
                        case hy61 =>
                          intro w hSw
                          try dsimp only at hSw
                          go_simp <;> with_reducible rfl
                        try simp only [Act.put, List.setIfInBounds_toArray, List.set_cons_zero, List.set_cons_succ]
                        refine wpAnyH_take (i := 63) (oi := { dst := some 153, op := Op.load 32 (Operand.tmp 15), type := 32, pos := "laws.go:249", after := #[{ on := 60, ground := Ground.guard }], guard := some (60, true) }) (v := ?v63) rfl (by as_aux_lemma => kernel_rfl) (by as_aux_lemma => kernel_rfl) (by as_aux_lemma => kernel_rfl) (fun _ _ _ h => h) (Or.inl ⟨by rfl, ?hy63⟩) (HDC.out _ hBc) ?_
                        case hy63 =>
                          intro w hSw
                          try dsimp only at hSw
                          go_simp <;> with_reducible rfl
                        try simp only [Act.put, List.setIfInBounds_toArray, List.set_cons_zero, List.set_cons_succ]
                        refine wpAnyH_ready (rs := [62]) (by as_aux_lemma => kernel_rfl) (by simp) ?_
                        refine AllReadyH.cons (o := { dst := some 152, op := Op.call { callee := Callee.value (Operand.func 18), args := #[Operand.tmp 151], argTypes := #[32] }, type := 4, pos := "laws.go:249", after := #[{ on := 61, ground := Ground.data }, { on := 60, ground := Ground.chain }, { on := 60, ground := Ground.guard }], guard := some (60, true) }) rfl (fun K hK => ?_) AllReadyH.nil
                        go_simp
                        refine (C14.out _ hBc).mono ?_
                        rintro e wn ⟨rfl, hbn⟩
                        replace hBc := hBc.trans (hbn.mono hBc.size)
                        clear hbn
                        try go_wp2_with fail
                        refine hK.out _ _ (HDC.out _ hBc) (fun _ => ?_)
                        clear hK K
                        try simp only [List.setIfInBounds_toArray, List.set_cons_zero, List.set_cons_succ]
                        refine wpAnyH_ready (rs := [64]) (by as_aux_lemma => kernel_rfl) (by simp) ?_
                        refine AllReadyH.cons (o := { dst := some 154, op := Op.call { callee := Callee.value (Operand.func 26), args := #[Operand.tmp 153], argTypes := #[32] }, type := 4, pos := "laws.go:249", after := #[{ on := 63, ground := Ground.data }, { on := 62, ground := Ground.chain }, { on := 60, ground := Ground.guard }], guard := some (60, true) }) rfl (fun K hK => ?_) AllReadyH.nil
                        go_simp
                        refine (C15.out _ hBc).mono ?_
                        rintro e wn ⟨rfl, hbn⟩
                        replace hBc := hBc.trans (hbn.mono hBc.size)
                        clear hbn
                        try go_wp2_with fail
                        refine hK.out _ _ (HDC.out _ hBc) (fun _ => ?_)
                        clear hK K
                        try simp only [List.setIfInBounds_toArray, List.set_cons_zero, List.set_cons_succ]
                        refine wpAnyH_take (i := 65) (oi := { dst := some 155, op := Op.binOp BinOp.eql 4 (Operand.tmp 152) (Operand.tmp 154) 4, type := 4, pos := "laws.go:249", after := #[{ on := 62, ground := Ground.data }, { on := 64, ground := Ground.data }, { on := 60, ground := Ground.guard }], guard := some (60, true) }) (v := ?v65) rfl (by as_aux_lemma => kernel_rfl) (by as_aux_lemma => kernel_rfl) (by as_aux_lemma => kernel_rfl) (fun _ _ _ h => h) (Or.inl ⟨by rfl, ?hy65⟩) (HDC.out _ hBc) ?_
                        case hy65 =>
                          intro w hSw
                          try dsimp only at hSw
                          go_simp <;> with_reducible rfl
                        try simp only [Act.put, List.setIfInBounds_toArray, List.set_cons_zero, List.set_cons_succ]
                        refine wpAnyH_take (i := 66) (oi := { dst := some 156, op := Op.pick (Operand.tmp 150) (Operand.tmp 155) (Operand.const (Value.bool false)), type := 4, pos := "laws.go:249", after := #[{ on := 60, ground := Ground.data }, { on := 65, ground := Ground.data }], guard := none }) (v := ?v66) rfl (by as_aux_lemma => kernel_rfl) (by as_aux_lemma => kernel_rfl) (by as_aux_lemma => kernel_rfl) (fun _ _ _ h => h) (Or.inl ⟨by rfl, ?hy66⟩) (HDC.out _ hBc) ?_
                        case hy66 =>
                          intro w hSw
                          try dsimp only at hSw
                          go_simp <;> with_reducible rfl
                        try simp only [Act.put, List.setIfInBounds_toArray, List.set_cons_zero, List.set_cons_succ]
                        refine wpAnyH_take (i := 67) (oi := { dst := some 157, op := Op.move (Operand.tmp 156), type := 4, pos := "laws.go:249", after := #[{ on := 66, ground := Ground.data }, { on := 64, ground := Ground.chain }], guard := none }) (v := ?v67) rfl (by as_aux_lemma => kernel_rfl) (by as_aux_lemma => kernel_rfl) (by as_aux_lemma => kernel_rfl) (fun _ _ _ h => h) (Or.inl ⟨by rfl, ?hy67⟩) (HDC.out _ hBc) ?_
                        case hy67 =>
                          intro w hSw
                          try dsimp only at hSw
                          go_simp <;> with_reducible rfl
                        try simp only [Act.put, List.setIfInBounds_toArray, List.set_cons_zero, List.set_cons_succ]
                        refine wpAnyH_take (i := 68) (oi := { dst := some 158, op := Op.move (Operand.tmp 11), type := 24, pos := "laws.go:249", after := #[{ on := 67, ground := Ground.guard }], guard := some (67, true) }) (v := ?v68) rfl (by as_aux_lemma => kernel_rfl) (by as_aux_lemma => kernel_rfl) (by as_aux_lemma => kernel_rfl) (fun _ _ _ h => h) (Or.inl ⟨by rfl, ?hy68⟩) (HDC.out _ hBc) ?_
                        case hy68 =>
                          intro w hSw
                          try dsimp only at hSw
                          go_simp <;> with_reducible rfl
                        try simp only [Act.put, List.setIfInBounds_toArray, List.set_cons_zero, List.set_cons_succ]
                        refine wpAnyH_take (i := 69) (oi := { dst := some 159, op := Op.move (Operand.tmp 12), type := 24, pos := "laws.go:249", after := #[{ on := 67, ground := Ground.guard }], guard := some (67, true) }) (v := ?v69) rfl (by as_aux_lemma => kernel_rfl) (by as_aux_lemma => kernel_rfl) (by as_aux_lemma => kernel_rfl) (fun _ _ _ h => h) (Or.inl ⟨by rfl, ?hy69⟩) (HDC.out _ hBc) ?_
                        case hy69 =>
                          intro w hSw
                          try dsimp only at hSw
                          go_simp <;> with_reducible rfl
                        try simp only [Act.put, List.setIfInBounds_toArray, List.set_cons_zero, List.set_cons_succ]
                        as_aux_lemma =>
                          refine wpAnyH_take (i := 71) (oi := { dst := some 161, op := Op.move (Operand.tmp 11), type := 24, pos := "laws.go:249", after := #[{ on := 67, ground := Ground.guard }], guard := some (67, true) }) (v := ?v71) rfl (by as_aux_lemma => kernel_rfl) (by as_aux_lemma => kernel_rfl) (by as_aux_lemma => kernel_rfl) (fun _ _ _ h => h) (Or.inl ⟨by rfl, ?hy71⟩) (HDC.out _ hBc) ?_
                          case hy71 =>
                            intro w hSw
                            try dsimp only at hSw
                            go_simp <;> with_reducible rfl
                          try simp only [Act.put, List.setIfInBounds_toArray, List.set_cons_zero, List.set_cons_succ]
                          refine wpAnyH_take (i := 72) (oi := { dst := some 162, op := Op.move (Operand.tmp 12), type := 24, pos := "laws.go:249", after := #[{ on := 67, ground := Ground.guard }], guard := some (67, true) }) (v := ?v72) rfl (by as_aux_lemma => kernel_rfl) (by as_aux_lemma => kernel_rfl) (by as_aux_lemma => kernel_rfl) (fun _ _ _ h => h) (Or.inl ⟨by rfl, ?hy72⟩) (HDC.out _ hBc) ?_
                          case hy72 =>
                            intro w hSw
                            try dsimp only at hSw
                            go_simp <;> with_reducible rfl
                          try simp only [Act.put, List.setIfInBounds_toArray, List.set_cons_zero, List.set_cons_succ]
                          refine wpAnyH_ready (rs := [70]) (by as_aux_lemma => kernel_rfl) (by simp) ?_
                          refine AllReadyH.cons (o := { dst := some 160, op := Op.call { callee := Callee.value (Operand.func 14), args := #[Operand.tmp 158, Operand.tmp 159], argTypes := #[24, 24] }, type := 24, pos := "laws.go:249", after := #[{ on := 68, ground := Ground.data }, { on := 69, ground := Ground.data }, { on := 67, ground := Ground.chain }, { on := 67, ground := Ground.guard }], guard := some (67, true) }) rfl (fun K hK => ?_) AllReadyH.nil
                          go_simp
                          refine (C16.out _ hBc).mono ?_
                          rintro e wn ⟨x16, rfl, k16, hbn⟩
                          replace hBc := hBc.trans (hbn.mono hBc.size)
                          clear hbn
                          try go_wp2_with fail
                          refine hK.out _ _ (HDC.out _ hBc) (fun _ => ?_)
                          clear hK K
                          try simp only [List.setIfInBounds_toArray, List.set_cons_zero, List.set_cons_succ]
                          refine wpAnyH_ready (rs := [73]) (by as_aux_lemma => kernel_rfl) (by simp) ?_
                          refine AllReadyH.cons (o := { dst := some 163, op := Op.call { callee := Callee.value (Operand.func 27), args := #[Operand.tmp 161, Operand.tmp 162], argTypes := #[24, 24] }, type := 24, pos := "laws.go:249", after := #[{ on := 71, ground := Ground.data }, { on := 72, ground := Ground.data }, { on := 70, ground := Ground.chain }, { on := 67, ground := Ground.guard }], guard := some (67, true) }) rfl (fun K hK => ?_) AllReadyH.nil
                          go_simp
                          refine (C17.out _ hBc).mono ?_
                          rintro e wn ⟨x17, rfl, k17, hbn⟩
                          replace k16 := k16.below hbn
                          replace hBc := hBc.trans (hbn.mono hBc.size)
                          clear hbn
                          try go_wp2_with fail
                          refine hK.out _ _ (HDC.out _ hBc) (fun _ => ?_)
                          clear hK K
                          try simp only [List.setIfInBounds_toArray, List.set_cons_zero, List.set_cons_succ]
                          refine wpAnyH_ready (rs := [74]) (by as_aux_lemma => kernel_rfl) (by simp) ?_
                          refine AllReadyH.cons (o := { dst := some 164, op := Op.call { callee := Callee.value (Operand.func 23), args := #[Operand.tmp 160, Operand.tmp 163], argTypes := #[24, 24] }, type := 4, pos := "laws.go:249", after := #[{ on := 70, ground := Ground.data }, { on := 73, ground := Ground.data }, { on := 73, ground := Ground.chain }, { on := 67, ground := Ground.guard }], guard := some (67, true) }) rfl (fun K hK => ?_) AllReadyH.nil
                          go_simp
                          refine (SZX.out _ _ _ k16 k17).mono ?_
                          rintro e wn ⟨rfl, hbn⟩
                          replace hBc := hBc.trans (hbn.mono hBc.size)
                          clear hbn
                          try go_wp2_with fail
                          refine hK.out _ _ (HDC.out _ hBc) (fun _ => ?_)
                          clear hK K
                          try simp only [List.setIfInBounds_toArray, List.set_cons_zero, List.set_cons_succ]
                          refine wpAnyH_take (i := 75) (oi := { dst := some 165, op := Op.pick (Operand.tmp 157) (Operand.tmp 164) (Operand.const (Value.bool false)), type := 4, pos := "laws.go:249", after := #[{ on := 67, ground := Ground.data }, { on := 74, ground := Ground.data }], guard := none }) (v := ?v75) rfl (by as_aux_lemma => kernel_rfl) (by as_aux_lemma => kernel_rfl) (by as_aux_lemma => kernel_rfl) (fun _ _ _ h => h) (Or.inl ⟨by rfl, ?hy75⟩) (HDC.out _ hBc) ?_
                          case hy75 =>
                            intro w hSw
                            try dsimp only at hSw
                            go_simp <;> with_reducible rfl
                          try simp only [Act.put, List.setIfInBounds_toArray, List.set_cons_zero, List.set_cons_succ]
                          refine wpAnyH_take (i := 76) (oi := { dst := some 166, op := Op.move (Operand.tmp 165), type := 4, pos := "laws.go:249", after := #[{ on := 75, ground := Ground.data }, { on := 74, ground := Ground.chain }], guard := none }) (v := ?v76) rfl (by as_aux_lemma => kernel_rfl) (by as_aux_lemma => kernel_rfl) (by as_aux_lemma => kernel_rfl) (fun _ _ _ h => h) (Or.inl ⟨by rfl, ?hy76⟩) (HDC.out _ hBc) ?_
                          case hy76 =>
                            intro w hSw
                            try dsimp only at hSw
                            go_simp <;> with_reducible rfl
                          try simp only [Act.put, List.setIfInBounds_toArray, List.set_cons_zero, List.set_cons_succ]
                          refine wpAnyH_take (i := 77) (oi := { dst := some 167, op := Op.move (Operand.tmp 11), type := 24, pos := "laws.go:249", after := #[{ on := 76, ground := Ground.guard }], guard := some (76, true) }) (v := ?v77) rfl (by as_aux_lemma => kernel_rfl) (by as_aux_lemma => kernel_rfl) (by as_aux_lemma => kernel_rfl) (fun _ _ _ h => h) (Or.inl ⟨by rfl, ?hy77⟩) (HDC.out _ hBc) ?_
                          case hy77 =>
                            intro w hSw
                            try dsimp only at hSw
                            go_simp <;> with_reducible rfl
                          try simp only [Act.put, List.setIfInBounds_toArray, List.set_cons_zero, List.set_cons_succ]
                          refine wpAnyH_take (i := 78) (oi := { dst := some 168, op := Op.move (Operand.tmp 12), type := 24, pos := "laws.go:249", after := #[{ on := 76, ground := Ground.guard }], guard := some (76, true) }) (v := ?v78) rfl (by as_aux_lemma => kernel_rfl) (by as_aux_lemma => kernel_rfl) (by as_aux_lemma => kernel_rfl) (fun _ _ _ h => h) (Or.inl ⟨by rfl, ?hy78⟩) (HDC.out _ hBc) ?_
                          case hy78 =>
                            intro w hSw
                            try dsimp only at hSw
                            go_simp <;> with_reducible rfl
                          try simp only [Act.put, List.setIfInBounds_toArray, List.set_cons_zero, List.set_cons_succ]
                          refine wpAnyH_take (i := 80) (oi := { dst := some 170, op := Op.move (Operand.tmp 11), type := 24, pos := "laws.go:249", after := #[{ on := 76, ground := Ground.guard }], guard := some (76, true) }) (v := ?v80) rfl (by as_aux_lemma => kernel_rfl) (by as_aux_lemma => kernel_rfl) (by as_aux_lemma => kernel_rfl) (fun _ _ _ h => h) (Or.inl ⟨by rfl, ?hy80⟩) (HDC.out _ hBc) ?_
                          case hy80 =>
                            intro w hSw
                            try dsimp only at hSw
                            go_simp <;> with_reducible rfl
                          try simp only [Act.put, List.setIfInBounds_toArray, List.set_cons_zero, List.set_cons_succ]
                          as_aux_lemma =>
                            refine wpAnyH_take (i := 81) (oi := { dst := some 171, op := Op.move (Operand.tmp 12), type := 24, pos := "laws.go:249", after := #[{ on := 76, ground := Ground.guard }], guard := some (76, true) }) (v := ?v81) rfl (by as_aux_lemma => kernel_rfl) (by as_aux_lemma => kernel_rfl) (by as_aux_lemma => kernel_rfl) (fun _ _ _ h => h) (Or.inl ⟨by rfl, ?hy81⟩) (HDC.out _ hBc) ?_
                            case hy81 =>
                              intro w hSw
                              try dsimp only at hSw
                              go_simp <;> with_reducible rfl
                            try simp only [Act.put, List.setIfInBounds_toArray, List.set_cons_zero, List.set_cons_succ]
                            refine wpAnyH_ready (rs := [79]) (by as_aux_lemma => kernel_rfl) (by simp) ?_
                            refine AllReadyH.cons (o := { dst := some 169, op := Op.call { callee := Callee.value (Operand.func 15), args := #[Operand.tmp 167, Operand.tmp 168], argTypes := #[24, 24] }, type := 24, pos := "laws.go:249", after := #[{ on := 77, ground := Ground.data }, { on := 78, ground := Ground.data }, { on := 76, ground := Ground.chain }, { on := 76, ground := Ground.guard }], guard := some (76, true) }) rfl (fun K hK => ?_) AllReadyH.nil
                            go_simp
                            refine (C19.out _ hBc).mono ?_
                            rintro e wn ⟨x19, rfl, k19, hbn⟩
                            replace hBc := hBc.trans (hbn.mono hBc.size)
                            clear hbn
                            try go_wp2_with fail
                            refine hK.out _ _ (HDC.out _ hBc) (fun _ => ?_)
                            clear hK K
                            try simp only [List.setIfInBounds_toArray, List.set_cons_zero, List.set_cons_succ]
                            refine wpAnyH_ready (rs := [82]) (by as_aux_lemma => kernel_rfl) (by simp) ?_
                            refine AllReadyH.cons (o := { dst := some 172, op := Op.call { callee := Callee.value (Operand.func 28), args := #[Operand.tmp 170, Operand.tmp 171], argTypes := #[24, 24] }, type := 24, pos := "laws.go:249", after := #[{ on := 80, ground := Ground.data }, { on := 81, ground := Ground.data }, { on := 79, ground := Ground.chain }, { on := 76, ground := Ground.guard }], guard := some (76, true) }) rfl (fun K hK => ?_) AllReadyH.nil
                            go_simp
                            refine (C20.out _ hBc).mono ?_
                            rintro e wn ⟨x20, rfl, k20, hbn⟩
                            replace k19 := k19.below hbn
                            replace hBc := hBc.trans (hbn.mono hBc.size)
                            clear hbn
                            try go_wp2_with fail
                            refine hK.out _ _ (HDC.out _ hBc) (fun _ => ?_)
                            clear hK K
                            try simp only [List.setIfInBounds_toArray, List.set_cons_zero, List.set_cons_succ]
                            refine wpAnyH_ready (rs := [83]) (by as_aux_lemma => kernel_rfl) (by simp) ?_
                            refine AllReadyH.cons (o := { dst := some 173, op := Op.call { callee := Callee.value (Operand.func 23), args := #[Operand.tmp 169, Operand.tmp 172], argTypes := #[24, 24] }, type := 4, pos := "laws.go:249", after := #[{ on := 79, ground := Ground.data }, { on := 82, ground := Ground.data }, { on := 82, ground := Ground.chain }, { on := 76, ground := Ground.guard }], guard := some (76, true) }) rfl (fun K hK => ?_) AllReadyH.nil
                            go_simp
                            refine (SZN.out _ _ _ k19 k20).mono ?_
                            rintro e wn ⟨rfl, hbn⟩
                            replace hBc := hBc.trans (hbn.mono hBc.size)
                            clear hbn
                            try go_wp2_with fail
                            refine hK.out _ _ (HDC.out _ hBc) (fun _ => ?_)
                            clear hK K
                            try simp only [List.setIfInBounds_toArray, List.set_cons_zero, List.set_cons_succ]
                            refine wpAnyH_take (i := 84) (oi := { dst := some 174, op := Op.pick (Operand.tmp 166) (Operand.tmp 173) (Operand.const (Value.bool false)), type := 4, pos := "laws.go:249", after := #[{ on := 76, ground := Ground.data }, { on := 83, ground := Ground.data }], guard := none }) (v := ?v84) rfl (by as_aux_lemma => kernel_rfl) (by as_aux_lemma => kernel_rfl) (by as_aux_lemma => kernel_rfl) (fun _ _ _ h => h) (Or.inl ⟨by rfl, ?hy84⟩) (HDC.out _ hBc) ?_
                            case hy84 =>
                              intro w hSw
                              try dsimp only at hSw
                              go_simp <;> with_reducible rfl
                            try simp only [Act.put, List.setIfInBounds_toArray, List.set_cons_zero, List.set_cons_succ]
                            refine wpAnyH_take (i := 85) (oi := { dst := some 175, op := Op.move (Operand.tmp 174), type := 4, pos := "laws.go:249", after := #[{ on := 84, ground := Ground.data }, { on := 83, ground := Ground.chain }], guard := none }) (v := ?v85) rfl (by as_aux_lemma => kernel_rfl) (by as_aux_lemma => kernel_rfl) (by as_aux_lemma => kernel_rfl) (fun _ _ _ h => h) (Or.inl ⟨by rfl, ?hy85⟩) (HDC.out _ hBc) ?_
                            case hy85 =>
                              intro w hSw
                              try dsimp only at hSw
                              go_simp <;> with_reducible rfl
                            try simp only [Act.put, List.setIfInBounds_toArray, List.set_cons_zero, List.set_cons_succ]
                            refine wpAnyH_take (i := 86) (oi := { dst := some 176, op := Op.move (Operand.tmp 11), type := 24, pos := "laws.go:249", after := #[{ on := 85, ground := Ground.guard }], guard := some (85, true) }) (v := ?v86) rfl (by as_aux_lemma => kernel_rfl) (by as_aux_lemma => kernel_rfl) (by as_aux_lemma => kernel_rfl) (fun _ _ _ h => h) (Or.inl ⟨by rfl, ?hy86⟩) (HDC.out _ hBc) ?_
                            case hy86 =>
                              intro w hSw
                              try dsimp only at hSw
                              go_simp <;> with_reducible rfl
                            try simp only [Act.put, List.setIfInBounds_toArray, List.set_cons_zero, List.set_cons_succ]
                            refine wpAnyH_take (i := 88) (oi := { dst := some 178, op := Op.move (Operand.tmp 11), type := 24, pos := "laws.go:249", after := #[{ on := 85, ground := Ground.guard }], guard := some (85, true) }) (v := ?v88) rfl (by as_aux_lemma => kernel_rfl) (by as_aux_lemma => kernel_rfl) (by as_aux_lemma => kernel_rfl) (fun _ _ _ h => h) (Or.inl ⟨by rfl, ?hy88⟩) (HDC.out _ hBc) ?_
                            case hy88 =>
                              intro w hSw
                              try dsimp only at hSw
                              go_simp <;> with_reducible rfl
                            try simp only [Act.put, List.setIfInBounds_toArray, List.set_cons_zero, List.set_cons_succ]
                            refine wpAnyH_ready (rs := [87]) (by as_aux_lemma => kernel_rfl) (by simp) ?_
                            refine AllReadyH.cons (o := { dst := some 177, op := Op.call { callee := Callee.value (Operand.func 29), args := #[Operand.tmp 176], argTypes := #[24] }, type := 4, pos := "laws.go:249", after := #[{ on := 86, ground := Ground.data }, { on := 85, ground := Ground.chain }, { on := 85, ground := Ground.guard }], guard := some (85, true) }) rfl (fun K hK => ?_) AllReadyH.nil
                            go_simp
                            refine (C22.out _ hBc).mono ?_
                            rintro e wn ⟨rfl, hbn⟩
                            replace hBc := hBc.trans (hbn.mono hBc.size)
                            clear hbn
                            try go_wp2_with fail
                            refine hK.out _ _ (HDC.out _ hBc) (fun _ => ?_)
                            clear hK K
                            try simp only [List.setIfInBounds_toArray, List.set_cons_zero, List.set_cons_succ]
                            refine wpAnyH_ready (rs := [89]) (by as_aux_lemma => kernel_rfl) (by simp) ?_
                            refine AllReadyH.cons (o := { dst := some 179, op := Op.call { callee := Callee.value (Operand.func 30), args := #[Operand.tmp 178], argTypes := #[24] }, type := 4, pos := "laws.go:249", after := #[{ on := 88, ground := Ground.data }, { on := 87, ground := Ground.chain }, { on := 85, ground := Ground.guard }], guard := some (85, true) }) rfl (fun K hK => ?_) AllReadyH.nil
                            go_simp
                            refine (C23.out _ hBc).mono ?_
                            rintro e wn ⟨rfl, hbn⟩
                            replace hBc := hBc.trans (hbn.mono hBc.size)
                            clear hbn
                            try go_wp2_with fail
                            refine hK.out _ _ (HDC.out _ hBc) (fun _ => ?_)
                            clear hK K
                            try simp only [List.setIfInBounds_toArray, List.set_cons_zero, List.set_cons_succ]
                            as_aux_lemma =>
                              refine wpAnyH_take (i := 90) (oi := { dst := some 180, op := Op.binOp BinOp.eql 4 (Operand.tmp 177) (Operand.tmp 179) 4, type := 4, pos := "laws.go:249", after := #[{ on := 87, ground := Ground.data }, { on := 89, ground := Ground.data }, { on := 85, ground := Ground.guard }], guard := some (85, true) }) (v := ?v90) rfl (by as_aux_lemma => kernel_rfl) (by as_aux_lemma => kernel_rfl) (by as_aux_lemma => kernel_rfl) (fun _ _ _ h => h) (Or.inl ⟨by rfl, ?hy90⟩) (HDC.out _ hBc) ?_
                              case hy90 =>
                                intro w hSw
                                try dsimp only at hSw
                                go_simp <;> with_reducible rfl
                              try simp only [Act.put, List.setIfInBounds_toArray, List.set_cons_zero, List.set_cons_succ]
                              refine wpAnyH_take (i := 91) (oi := { dst := some 181, op := Op.pick (Operand.tmp 175) (Operand.tmp 180) (Operand.const (Value.bool false)), type := 4, pos := "laws.go:249", after := #[{ on := 85, ground := Ground.data }, { on := 90, ground := Ground.data }], guard := none }) (v := ?v91) rfl (by as_aux_lemma => kernel_rfl) (by as_aux_lemma => kernel_rfl) (by as_aux_lemma => kernel_rfl) (fun _ _ _ h => h) (Or.inl ⟨by rfl, ?hy91⟩) (HDC.out _ hBc) ?_
                              case hy91 =>
                                intro w hSw
                                try dsimp only at hSw
                                go_simp <;> with_reducible rfl
                              try simp only [Act.put, List.setIfInBounds_toArray, List.set_cons_zero, List.set_cons_succ]
                              refine wpAnyH_take (i := 92) (oi := { dst := some 182, op := Op.move (Operand.tmp 181), type := 4, pos := "laws.go:249", after := #[{ on := 91, ground := Ground.data }, { on := 89, ground := Ground.chain }], guard := none }) (v := ?v92) rfl (by as_aux_lemma => kernel_rfl) (by as_aux_lemma => kernel_rfl) (by as_aux_lemma => kernel_rfl) (fun _ _ _ h => h) (Or.inl ⟨by rfl, ?hy92⟩) (HDC.out _ hBc) ?_
                              case hy92 =>
                                intro w hSw
                                try dsimp only at hSw
                                go_simp <;> with_reducible rfl
                              try simp only [Act.put, List.setIfInBounds_toArray, List.set_cons_zero, List.set_cons_succ]
                              refine wpAnyH_take (i := 94) (oi := { dst := some 184, op := Op.move (Operand.tmp 3), type := 24, pos := "laws.go:249", after := #[{ on := 92, ground := Ground.guard }], guard := some (92, true) }) (v := ?v94) rfl (by as_aux_lemma => kernel_rfl) (by as_aux_lemma => kernel_rfl) (by as_aux_lemma => kernel_rfl) (fun _ _ _ h => h) (Or.inl ⟨by rfl, ?hy94⟩) (HDC.out _ hBc) ?_
                              case hy94 =>
                                intro w hSw
                                try dsimp only at hSw
                                go_simp <;> with_reducible rfl
                              try simp only [Act.put, List.setIfInBounds_toArray, List.set_cons_zero, List.set_cons_succ]
                              refine wpAnyH_ready (rs := [93]) (by as_aux_lemma => kernel_rfl) (by simp) ?_
                              refine AllReadyH.cons (o := { dst := some 183, op := Op.call { callee := Callee.value (Operand.func 31), args := #[], argTypes := #[] }, type := 24, pos := "laws.go:249", after := #[{ on := 92, ground := Ground.chain }, { on := 92, ground := Ground.guard }], guard := some (92, true) }) rfl (fun K hK => ?_) AllReadyH.nil
                              go_simp
                              refine (C24.out _ hBc).mono ?_
                              rintro e wn ⟨x24, rfl, k24, hbn⟩
                              replace hBc := hBc.trans (hbn.mono hBc.size)
                              clear hbn
                              try go_wp2_with fail
                              refine hK.out _ _ (HDC.out _ hBc) (fun _ => ?_)
                              clear hK K
                              try simp only [List.setIfInBounds_toArray, List.set_cons_zero, List.set_cons_succ]
                              refine wpAnyH_ready (rs := [95]) (by as_aux_lemma => kernel_rfl) (by simp) ?_
                              refine AllReadyH.cons (o := { dst := some 185, op := Op.call { callee := Callee.value (Operand.func 22), args := #[Operand.tmp 183, Operand.tmp 184], argTypes := #[24, 24] }, type := 4, pos := "laws.go:249", after := #[{ on := 93, ground := Ground.data }, { on := 94, ground := Ground.data }, { on := 93, ground := Ground.chain }, { on := 92, ground := Ground.guard }], guard := some (92, true) }) rfl (fun K hK => ?_) AllReadyH.nil
                              go_simp
                              refine (C25.out _ _ hBc k24).mono ?_
                              rintro e wn ⟨rfl, hbn⟩
                              replace hBc := hBc.trans (hbn.mono hBc.size)
                              clear hbn
                              try go_wp2_with fail
                              refine hK.out _ _ (HDC.out _ hBc) (fun _ => ?_)
                              clear hK K
                              try simp only [List.setIfInBounds_toArray, List.set_cons_zero, List.set_cons_succ]
                              refine wpAnyH_take (i := 96) (oi := { dst := some 186, op := Op.pick (Operand.tmp 182) (Operand.tmp 185) (Operand.const (Value.bool false)), type := 4, pos := "laws.go:249", after := #[{ on := 92, ground := Ground.data }, { on := 95, ground := Ground.data }], guard := none }) (v := ?v96) rfl (by as_aux_lemma => kernel_rfl) (by as_aux_lemma => kernel_rfl) (by as_aux_lemma => kernel_rfl) (fun _ _ _ h => h) (Or.inl ⟨by rfl, ?hy96⟩) (HDC.out _ hBc) ?_
                              case hy96 =>
                                intro w hSw
                                try dsimp only at hSw
                                go_simp <;> with_reducible rfl
                              try simp only [Act.put, List.setIfInBounds_toArray, List.set_cons_zero, List.set_cons_succ]
                              refine wpAnyH_take (i := 97) (oi := { dst := some 187, op := Op.move (Operand.tmp 186), type := 4, pos := "laws.go:249", after := #[{ on := 96, ground := Ground.data }, { on := 95, ground := Ground.chain }], guard := none }) (v := ?v97) rfl (by as_aux_lemma => kernel_rfl) (by as_aux_lemma => kernel_rfl) (by as_aux_lemma => kernel_rfl) (fun _ _ _ h => h) (Or.inl ⟨by rfl, ?hy97⟩) (HDC.out _ hBc) ?_
                              case hy97 =>
                                intro w hSw
                                try dsimp only at hSw
                                go_simp <;> with_reducible rfl
                              try simp only [Act.put, List.setIfInBounds_toArray, List.set_cons_zero, List.set_cons_succ]
                              refine wpAnyH_take (i := 98) (oi := { dst := some 188, op := Op.move (Operand.tmp 11), type := 24, pos := "laws.go:249", after := #[{ on := 97, ground := Ground.guard }], guard := some (97, true) }) (v := ?v98) rfl (by as_aux_lemma => kernel_rfl) (by as_aux_lemma => kernel_rfl) (by as_aux_lemma => kernel_rfl) (fun _ _ _ h => h) (Or.inl ⟨by rfl, ?hy98⟩) (HDC.out _ hBc) ?_
                              case hy98 =>
                                intro w hSw
                                try dsimp only at hSw
                                go_simp <;> with_reducible rfl
                              try simp only [Act.put, List.setIfInBounds_toArray, List.set_cons_zero, List.set_cons_succ]
                              refine wpAnyH_take (i := 99) (oi := { dst := some 189, op := Op.move (Operand.tmp 12), type := 24, pos := "laws.go:249", after := #[{ on := 97, ground := Ground.guard }], guard := some (97, true) }) (v := ?v99) rfl (by as_aux_lemma => kernel_rfl) (by as_aux_lemma => kernel_rfl) (by as_aux_lemma => kernel_rfl) (fun _ _ _ h => h) (Or.inl ⟨by rfl, ?hy99⟩) (HDC.out _ hBc) ?_
                              case hy99 =>
                                intro w hSw
                                try dsimp only at hSw
                                go_simp <;> with_reducible rfl
                              try simp only [Act.put, List.setIfInBounds_toArray, List.set_cons_zero, List.set_cons_succ]
                              as_aux_lemma =>
                                refine wpAnyH_take (i := 101) (oi := { dst := some 191, op := Op.move (Operand.tmp 11), type := 24, pos := "laws.go:249", after := #[{ on := 97, ground := Ground.guard }], guard := some (97, true) }) (v := ?v101) rfl (by as_aux_lemma => kernel_rfl) (by as_aux_lemma => kernel_rfl) (by as_aux_lemma => kernel_rfl) (fun _ _ _ h => h) (Or.inl ⟨by rfl, ?hy101⟩) (HDC.out _ hBc) ?_
                                case hy101 =>
                                  intro w hSw
                                  try dsimp only at hSw
                                  go_simp <;> with_reducible rfl
                                try simp only [Act.put, List.setIfInBounds_toArray, List.set_cons_zero, List.set_cons_succ]
                                refine wpAnyH_take (i := 102) (oi := { dst := some 192, op := Op.move (Operand.tmp 12), type := 24, pos := "laws.go:249", after := #[{ on := 97, ground := Ground.guard }], guard := some (97, true) }) (v := ?v102) rfl (by as_aux_lemma => kernel_rfl) (by as_aux_lemma => kernel_rfl) (by as_aux_lemma => kernel_rfl) (fun _ _ _ h => h) (Or.inl ⟨by rfl, ?hy102⟩) (HDC.out _ hBc) ?_
                                case hy102 =>
                                  intro w hSw
                                  try dsimp only at hSw
                                  go_simp <;> with_reducible rfl
                                try simp only [Act.put, List.setIfInBounds_toArray, List.set_cons_zero, List.set_cons_succ]
                                refine wpAnyH_ready (rs := [100]) (by as_aux_lemma => kernel_rfl) (by simp) ?_
                                refine AllReadyH.cons (o := { dst := some 190, op := Op.call { callee := Callee.value (Operand.func 16), args := #[Operand.tmp 188, Operand.tmp 189], argTypes := #[24, 24] }, type := 28, pos := "laws.go:249", after := #[{ on := 98, ground := Ground.data }, { on := 99, ground := Ground.data }, { on := 97, ground := Ground.chain }, { on := 97, ground := Ground.guard }], guard := some (97, true) }) rfl (fun K hK => ?_) AllReadyH.nil
                                go_simp
                                refine (C26.out _ hBc).mono ?_
                                rintro e wn ⟨x26, rfl, k26, hbn⟩
                                replace hBc := hBc.trans (hbn.mono hBc.size)
                                clear hbn
                                try go_wp2_with fail
                                refine hK.out _ _ (HDC.out _ hBc) (fun _ => ?_)
                                clear hK K
                                try simp only [List.setIfInBounds_toArray, List.set_cons_zero, List.set_cons_succ]
                                refine wpAnyH_ready (rs := [103]) (by as_aux_lemma => kernel_rfl) (by simp) ?_
                                refine AllReadyH.cons (o := { dst := some 193, op := Op.call { callee := Callee.value (Operand.func 33), args := #[Operand.tmp 191, Operand.tmp 192], argTypes := #[24, 24] }, type := 28, pos := "laws.go:249", after := #[{ on := 101, ground := Ground.data }, { on := 102, ground := Ground.data }, { on := 100, ground := Ground.chain }, { on := 97, ground := Ground.guard }], guard := some (97, true) }) rfl (fun K hK => ?_) AllReadyH.nil
                                go_simp
                                refine (C27.out _ hBc).mono ?_
                                rintro e wn ⟨x27, rfl, k27, hbn⟩
                                replace k26 := k26.below hbn
                                replace hBc := hBc.trans (hbn.mono hBc.size)
                                clear hbn
                                try go_wp2_with fail
                                refine hK.out _ _ (HDC.out _ hBc) (fun _ => ?_)
                                clear hK K
                                try simp only [List.setIfInBounds_toArray, List.set_cons_zero, List.set_cons_succ]
                                refine wpAnyH_ready (rs := [104]) (by as_aux_lemma => kernel_rfl) (by simp) ?_
                                refine AllReadyH.cons (o := { dst := some 194, op := Op.call { callee := Callee.value (Operand.func 32), args := #[Operand.tmp 190, Operand.tmp 193], argTypes := #[28, 28] }, type := 4, pos := "laws.go:249", after := #[{ on := 100, ground := Ground.data }, { on := 103, ground := Ground.data }, { on := 103, ground := Ground.chain }, { on := 97, ground := Ground.guard }], guard := some (97, true) }) rfl (fun K hK => ?_) AllReadyH.nil
                                go_simp
                                refine (SZD.out _ _ _ k26 k27).mono ?_
                                rintro e wn ⟨rfl, hbn⟩
                                replace hBc := hBc.trans (hbn.mono hBc.size)
                                clear hbn
                                try go_wp2_with fail
                                refine hK.out _ _ (HDC.out _ hBc) (fun _ => ?_)
                                clear hK K
                                try simp only [List.setIfInBounds_toArray, List.set_cons_zero, List.set_cons_succ]
                                refine wpAnyH_take (i := 105) (oi := { dst := some 195, op := Op.pick (Operand.tmp 187) (Operand.tmp 194) (Operand.const (Value.bool false)), type := 4, pos := "laws.go:249", after := #[{ on := 97, ground := Ground.data }, { on := 104, ground := Ground.data }], guard := none }) (v := ?v105) rfl (by as_aux_lemma => kernel_rfl) (by as_aux_lemma => kernel_rfl) (by as_aux_lemma => kernel_rfl) (fun _ _ _ h => h) (Or.inl ⟨by rfl, ?hy105⟩) (HDC.out _ hBc) ?_
                                case hy105 =>
                                  intro w hSw
                                  try dsimp only at hSw
                                  go_simp <;> with_reducible rfl
                                try simp only [Act.put, List.setIfInBounds_toArray, List.set_cons_zero, List.set_cons_succ]
                                refine wpAnyH_take (i := 106) (oi := { dst := some 2, op := Op.assign (Operand.tmp 195), type := 4, pos := "laws.go:249", after := ([{ on := 105, ground := Ground.data }, { on := 104, ground := Ground.chain }, { on := 0, ground := Ground.phase }, { on := 1, ground := Ground.phase }, { on := 2, ground := Ground.phase }, { on := 3, ground := Ground.phase }, { on := 4, ground := Ground.phase }, { on := 5, ground := Ground.phase }, { on := 6, ground := Ground.phase }, { on := 7, ground := Ground.phase }, { on := 8, ground := Ground.phase }, { on := 9, ground := Ground.phase }, { on := 10, ground := Ground.phase }, { on := 11, ground := Ground.phase }, { on := 12, ground := Ground.phase }, { on := 13, ground := Ground.phase }, { on := 14, ground := Ground.phase }, { on := 15, ground := Ground.phase }, { on := 16, ground := Ground.phase }, { on := 17, ground := Ground.phase }, { on := 18, ground := Ground.phase }, { on := 19, ground := Ground.phase }, { on := 20, ground := Ground.phase }, { on := 21, ground := Ground.phase }, { on := 22, ground := Ground.phase }, { on := 23, ground := Ground.phase }, { on := 24, ground := Ground.phase }, { on := 25, ground := Ground.phase }, { on := 26, ground := Ground.phase }, { on := 27, ground := Ground.phase }, { on := 28, ground := Ground.phase }, { on := 29, ground := Ground.phase }, { on := 30, ground := Ground.phase }, { on := 31, ground := Ground.phase }, { on := 32, ground := Ground.phase }, { on := 33, ground := Ground.phase }, { on := 34, ground := Ground.phase }, { on := 35, ground := Ground.phase }, { on := 36, ground := Ground.phase }, { on := 37, ground := Ground.phase }, { on := 38, ground := Ground.phase }, { on := 39, ground := Ground.phase }, { on := 40, ground := Ground.phase }, { on := 41, ground := Ground.phase }, { on := 42, ground := Ground.phase }, { on := 43, ground := Ground.phase }, { on := 44, ground := Ground.phase }, { on := 45, ground := Ground.phase }, { on := 46, ground := Ground.phase }, { on := 47, ground := Ground.phase }, { on := 48, ground := Ground.phase }, { on := 49, ground := Ground.phase }, { on := 50, ground := Ground.phase }, { on := 51, ground := Ground.phase }].append [{ on := 52, ground := Ground.phase }, { on := 53, ground := Ground.phase }, { on := 54, ground := Ground.phase }, { on := 55, ground := Ground.phase }, { on := 56, ground := Ground.phase }, { on := 57, ground := Ground.phase }, { on := 58, ground := Ground.phase }, { on := 59, ground := Ground.phase }, { on := 60, ground := Ground.phase }, { on := 61, ground := Ground.phase }, { on := 62, ground := Ground.phase }, { on := 63, ground := Ground.phase }, { on := 64, ground := Ground.phase }, { on := 65, ground := Ground.phase }, { on := 66, ground := Ground.phase }, { on := 67, ground := Ground.phase }, { on := 68, ground := Ground.phase }, { on := 69, ground := Ground.phase }, { on := 70, ground := Ground.phase }, { on := 71, ground := Ground.phase }, { on := 72, ground := Ground.phase }, { on := 73, ground := Ground.phase }, { on := 74, ground := Ground.phase }, { on := 75, ground := Ground.phase }, { on := 76, ground := Ground.phase }, { on := 77, ground := Ground.phase }, { on := 78, ground := Ground.phase }, { on := 79, ground := Ground.phase }, { on := 80, ground := Ground.phase }, { on := 81, ground := Ground.phase }, { on := 82, ground := Ground.phase }, { on := 83, ground := Ground.phase }, { on := 84, ground := Ground.phase }, { on := 85, ground := Ground.phase }, { on := 86, ground := Ground.phase }, { on := 87, ground := Ground.phase }, { on := 88, ground := Ground.phase }, { on := 89, ground := Ground.phase }, { on := 90, ground := Ground.phase }, { on := 91, ground := Ground.phase }, { on := 92, ground := Ground.phase }, { on := 93, ground := Ground.phase }, { on := 94, ground := Ground.phase }, { on := 95, ground := Ground.phase }, { on := 96, ground := Ground.phase }, { on := 97, ground := Ground.phase }, { on := 98, ground := Ground.phase }, { on := 99, ground := Ground.phase }, { on := 100, ground := Ground.phase }, { on := 101, ground := Ground.phase }, { on := 102, ground := Ground.phase }, { on := 103, ground := Ground.phase }, { on := 104, ground := Ground.phase }, { on := 105, ground := Ground.phase }]).toArray, guard := none }) (v := ?v106) rfl (by as_aux_lemma => kernel_rfl) (by as_aux_lemma => kernel_rfl) (by as_aux_lemma => kernel_rfl) (fun _ _ _ h => h) (Or.inl ⟨by rfl, ?hy106⟩) (HDC.out _ hBc) ?_
                                case hy106 =>
                                  intro w hSw
                                  try dsimp only at hSw
                                  go_simp <;> with_reducible rfl
                                try simp only [Act.put, List.setIfInBounds_toArray, List.set_cons_zero, List.set_cons_succ]
                                refine wpAnyH_done (by as_aux_lemma => kernel_rfl) ?_ _
                                go_wp2
                                go_ret
                                exact ⟨rfl, HBW.out.trans (hBc.mono HBW.out.size)⟩
  · rw [hq] at hbig
    go_enter Try.func3, Try.ntmps3
    go_wp2_with (go_at_call 12; refine hbig.mono ?_; rintro e w1 ⟨rfl, rfl⟩)
    go_ret
    exact ⟨rfl, Below.refl _ _⟩

end Go.Proofs.Ytpojipiagnbgjaa
