/- What the specification makes of two knowledges. -/
import Derived.Test.YtpojipiagnbgjaaKDots
namespace Go.Proofs.Ytpojipiagnbgjaa
open Go.RowKit

theorem ints_at3 {w : World} {v : Value} {a b c : Int} (h : IntsAt w v [a, b, c]) : ∃ g k : Nat, v = .slice (some ⟨g, 0, none⟩) 3 k ∧ g < w.heap.size ∧ ∀ j, j < 3 → w.cell? ⟨g, j, none⟩ = some (.int .i64 (at3 a b c j)) := by
  obtain ⟨aa, k, rfl, hg⟩ := h
  obtain ⟨g, rfl, h1, h2⟩ := hg (by simp)
  refine ⟨g, k, rfl, h1, fun j hj => ?_⟩
  have := h2 j hj
  match j, hj with
  | 0, _ => exact this
  | 1, _ => exact this
  | 2, _ => exact this

set_option maxHeartbeats 400000 in
theorem specKnowNew_calls (w : World) : Calls Try.prog 36 #[] w fun r w' => ∃ x, r = .returned x ∧ w'.ownsRow w.heap.size 3 1 x 3 (intV [0, 0, 0]) ∧ Below w.heap.size w w' := by
  have hmk : (Instr.makeSlice 24 (.int .i64 3) (.int .i64 3)).run Try.prog w = .ok (.slice (some ⟨w.heap.size, 0, none⟩) 3 3) (w.alloc (.cells (intV (List.replicate 3 0)).toArray 3)) := make_ints w 3 (by omega)
  have HO : Hid ((w.alloc (.cells (intV (List.replicate 3 0)).toArray 3)).ownsRow w.heap.size 3 1 (.slice (some ⟨w.heap.size, 0, none⟩) 3 3) 3 (intV [0, 0, 0])) := own_block (xs := intV [0, 0, 0]) (MapKept.heap_alloc w _).1 (Nat.le_refl _) rfl (by decide)
  have HB : Hid (Below w.heap.size w (w.alloc (.cells (intV (List.replicate 3 0)).toArray 3))) := (Below.refl _ _).alloc (Nat.le_refl _) _
  generalize w.alloc (.cells (intV (List.replicate 3 0)).toArray 3) = w1 at *
  go_enter Try.func36, Try.ntmps36
  go_wp2
  go_ret
  exact ⟨_, rfl, HO.out, HB.out⟩

set_option maxHeartbeats 1600000 in
theorem specKnowMax_calls (l m : List Int) (u v : Value) (w : World) (hnl : l.length ≤ 1048576) (hnm : m.length ≤ 1048576) (hl : IntsAt w u l) (hm : IntsAt w v m) :
    Calls Try.prog 27 #[u, v] w fun r w' => ∃ x, r = .returned x ∧ w'.ownsRow w.heap.size 3 1 x (kmax l m).length (intV (kmax l m)) ∧ Below w.heap.size w w' := by
  have hl1 := hl.alloc (.cells #[] 3)
  have hm1 := hm.alloc (.cells #[] 3)
  have HC1 : Hid (Calls Try.prog 30 #[u] (w.alloc (.cells #[] 3)) fun e w' => e = .returned (.bool (decide (KOk l))) ∧ w' = w.alloc (.cells #[] 3)) := specKnowOk_calls l u _ hnl hl1
  have HC2 : Hid (Calls Try.prog 30 #[v] (w.alloc (.cells #[] 3)) fun e w' => e = .returned (.bool (decide (KOk m))) ∧ w' = w.alloc (.cells #[] 3)) := specKnowOk_calls m v _ hnm hm1
  have HO : Hid ((w.alloc (.cells #[] 3)).ownsRow w.heap.size 3 1 (.slice (some ⟨w.heap.size, 0, none⟩) 0 0) 0 []) := own_none w 3 1 rfl (Nat.le_refl _)
  have HB : Hid (Below w.heap.size w (w.alloc (.cells #[] 3))) := (Below.refl _ _).alloc (Nat.le_refl _) _
  have HL : Hid (IntsAt w u l) := hl
  have HM : Hid (IntsAt w v m) := hm
  clear hl hm hl1 hm1 hnl hnm
  cases hq1 : decide (KOk l)
  · have hk : kmax l m = [] := by
      unfold kmax; rw [if_neg]; rintro ⟨h1, h2⟩; simp [h1] at hq1
    rw [hk]
    rw [hq1] at HC1
    clear hk
    go_enter Try.func27, Try.ntmps27
    go_wp2_with (go_at_call 30; refine HC1.out.mono ?_; rintro e w1 ⟨rfl, rfl⟩)
    go_ret
    exact ⟨_, rfl, HO.out, HB.out⟩
  · rw [hq1] at HC1
    have tok : True := trivial
    cases hq2 : decide (KOk m)
    · have hk : kmax l m = [] := by
        unfold kmax; rw [if_neg]; rintro ⟨h1, h2⟩; simp [h2] at hq2
      rw [hk]
      rw [hq2] at HC2
      clear hk
      go_enter Try.func27, Try.ntmps27
      go_wp2_with (first
        | (go_at_call 30; have _t := tok; refine HC1.out.mono ?_; clear tok; rintro e w1 ⟨rfl, rfl⟩)
        | (go_at_call 30; refine HC2.out.mono ?_; rintro e w1 ⟨rfl, rfl⟩))
      go_ret
      exact ⟨_, rfl, HO.out, HB.out⟩
    · rw [hq2] at HC2
      obtain ⟨a, b, c, e1, -⟩ := (of_decide_eq_true hq1).split
      obtain ⟨d, e, f, e2, -⟩ := (of_decide_eq_true hq2).split
      have HK : Hid (kmax l m = [mx a d, mx b e, mx c f]) := by
        show _ = _
        unfold kmax
        rw [if_pos ⟨of_decide_eq_true hq1, of_decide_eq_true hq2⟩, e1, e2]
        rfl
      rw [e1] at HL
      rw [e2] at HM
      obtain ⟨g1, k1, rfl, hg1, hc1⟩ := ints_at3 HL.out
      obtain ⟨g2, k2, rfl, hg2, hc2⟩ := ints_at3 HM.out
      have HG1 : Hid (∀ j, j < 3 → w.cell? ⟨g1, j, none⟩ = some (.int .i64 (at3 a b c j))) := hc1
      have HG2 : Hid (∀ j, j < 3 → w.cell? ⟨g2, j, none⟩ = some (.int .i64 (at3 d e f j))) := hc2
      obtain ⟨i0, hi, hz0, hz1, hz2⟩ := info_parts infoInt
      clear hc1 hc2 hq1 hq2 e1 e2 HL HM
      generalize hp : at3 a b c = p at *
      generalize hq : at3 d e f = q at *
      have HE : Hid ((List.range 3).map (fun i => mx (p i) (q i)) = [mx a d, mx b e, mx c f]) := by
        show _ = _; rw [← hp, ← hq]; rfl
      clear hp hq
      rw [← HE.out] at HK
      clear HE
      go_enter Try.func27, Try.ntmps27
      go_wp2_with (first
        | (go_at_call 30; have _t := tok; refine HC1.out.mono ?_; clear tok; rintro e w1 ⟨rfl, rfl⟩)
        | (go_at_call 30; refine HC2.out.mono ?_; rintro e w1 ⟨rfl, rfl⟩))
      go_loopw [5, 6] (fun x z wr => ∃ j : Nat, j ≤ 3 ∧ z = .int .i64 j ∧ wr.ownsRow w.heap.size 3 1 x j (intV ((List.range j).map fun i => mx (p i) (q i))) ∧ Below w.heap.size w wr) (fun _ z _ => 3 - (intOf z).toNat)
      case atStart => exact ⟨0, Nat.zero_le _, rfl, HO.out, HB.out⟩
      case round =>
        clear HO HB HC1 HC2
        obtain ⟨j, hj, rfl, hown, hbel⟩ := hrel
        by_cases hlt : j < 3
        · have hj1 : (j : Int) < 3 := by omega
          have hj0 : (0 : Int) ≤ j := by omega
          have c1 : wr.cell? ⟨g1, j, none⟩ = some (.int .i64 (p j)) := (hbel.cell (p := ⟨g1, j, none⟩) hg1).trans (HG1.out j hlt)
          have c2 : wr.cell? ⟨g2, j, none⟩ = some (.int .i64 (q j)) := (hbel.cell (p := ⟨g2, j, none⟩) hg2).trans (HG2.out j hlt)
          have HS : Hid (intV ((List.range (j + 1)).map fun i => mx (p i) (q i)) = intV ((List.range j).map fun i => mx (p i) (q i)) ++ [Value.int .i64 (mx (p j) (q j))]) := by
            show _ = _
            simp [intV, List.range_succ]
          have hsz := hbel.size
          obtain ⟨x, hx⟩ : ∃ x, x = mx (p j) (q j) := ⟨_, rfl⟩
          rw [← hx] at HS
          unfold mx at hx
          generalize p j = pj at *
          generalize q j = qj at *
          by_cases hc : pj < qj
          · rw [if_pos hc] at hx
            subst hx
            go_wp2_with (at_builtin; refine wpList_append_own _ rfl _ _ 24 rfl w.heap.size 3 i0 (.int .i64 0) 1 8 Try.underlying24 hi hz0 hz1 hz2 rfl (by decide) _ _ _ rfl (hown.alloc _) ⟨wr.heap.size, 0, none⟩ 1 1 [Value.int .i64 x] rfl rfl (one_new _ _ _) (by intro u' hu'; simp at hu'; subst hu'; rfl) (by unfold maxLen; omega) (by omega) (by simp; omega) ?_)
            intro v2 w4 hown2 hgrow hne2
            have hb4 : Below w.heap.size w w4 := (hbel.alloc hsz _).grown hgrow (by simp; omega) (fun k hk => (hown.lt k hk).1)
            have HO4 : Hid (w4.ownsRow w.heap.size 3 1 v2 (j + 1) (intV ((List.range (j + 1)).map fun i => mx (p i) (q i)))) := by
              show World.ownsRow _ _ _ _ _ _ _
              rw [HS.out]; exact hown2
            clear hown hown2 hgrow hne2 HS
            go_wp2
            go_roundw
            case rel => exact ⟨j + 1, by omega, by go_num, HO4.out, hb4⟩
            case measure => simp [intOf]; omega
          · rw [if_neg hc] at hx
            subst hx
            go_wp2_with (at_builtin; refine wpList_append_own _ rfl _ _ 24 rfl w.heap.size 3 i0 (.int .i64 0) 1 8 Try.underlying24 hi hz0 hz1 hz2 rfl (by decide) _ _ _ rfl (hown.alloc _) ⟨wr.heap.size, 0, none⟩ 1 1 [Value.int .i64 x] rfl rfl (one_new _ _ _) (by intro u' hu'; simp at hu'; subst hu'; rfl) (by unfold maxLen; omega) (by omega) (by simp; omega) ?_)
            intro v2 w4 hown2 hgrow hne2
            have hb4 : Below w.heap.size w w4 := (hbel.alloc hsz _).grown hgrow (by simp; omega) (fun k hk => (hown.lt k hk).1)
            have HO4 : Hid (w4.ownsRow w.heap.size 3 1 v2 (j + 1) (intV ((List.range (j + 1)).map fun i => mx (p i) (q i)))) := by
              show World.ownsRow _ _ _ _ _ _ _
              rw [HS.out]; exact hown2
            clear hown hown2 hgrow hne2 HS
            go_wp2
            go_roundw
            case rel => exact ⟨j + 1, by omega, by go_num, HO4.out, hb4⟩
            case measure => simp [intOf]; omega
        · have hj1 : ¬ ((j : Int) < 3) := by omega
          obtain rfl : j = 3 := by omega
          go_wp2
          go_ret
          exact ⟨_, rfl, by rw [HK.out]; exact hown, hbel⟩

set_option maxHeartbeats 1600000 in
theorem specKnowMin_calls (l m : List Int) (u v : Value) (w : World) (hnl : l.length ≤ 1048576) (hnm : m.length ≤ 1048576) (hl : IntsAt w u l) (hm : IntsAt w v m) :
    Calls Try.prog 28 #[u, v] w fun r w' => ∃ x, r = .returned x ∧ w'.ownsRow w.heap.size 3 1 x (kmin l m).length (intV (kmin l m)) ∧ Below w.heap.size w w' := by
  have hl1 := hl.alloc (.cells #[] 3)
  have hm1 := hm.alloc (.cells #[] 3)
  have HC1 : Hid (Calls Try.prog 30 #[u] (w.alloc (.cells #[] 3)) fun e w' => e = .returned (.bool (decide (KOk l))) ∧ w' = w.alloc (.cells #[] 3)) := specKnowOk_calls l u _ hnl hl1
  have HC2 : Hid (Calls Try.prog 30 #[v] (w.alloc (.cells #[] 3)) fun e w' => e = .returned (.bool (decide (KOk m))) ∧ w' = w.alloc (.cells #[] 3)) := specKnowOk_calls m v _ hnm hm1
  have HO : Hid ((w.alloc (.cells #[] 3)).ownsRow w.heap.size 3 1 (.slice (some ⟨w.heap.size, 0, none⟩) 0 0) 0 []) := own_none w 3 1 rfl (Nat.le_refl _)
  have HB : Hid (Below w.heap.size w (w.alloc (.cells #[] 3))) := (Below.refl _ _).alloc (Nat.le_refl _) _
  have HL : Hid (IntsAt w u l) := hl
  have HM : Hid (IntsAt w v m) := hm
  clear hl hm hl1 hm1 hnl hnm
  cases hq1 : decide (KOk l)
  · have hk : kmin l m = [] := by
      unfold kmin; rw [if_neg]; rintro ⟨h1, h2⟩; simp [h1] at hq1
    rw [hk]
    rw [hq1] at HC1
    clear hk
    go_enter Try.func28, Try.ntmps28
    go_wp2_with (go_at_call 30; refine HC1.out.mono ?_; rintro e w1 ⟨rfl, rfl⟩)
    go_ret
    exact ⟨_, rfl, HO.out, HB.out⟩
  · rw [hq1] at HC1
    have tok : True := trivial
    cases hq2 : decide (KOk m)
    · have hk : kmin l m = [] := by
        unfold kmin; rw [if_neg]; rintro ⟨h1, h2⟩; simp [h2] at hq2
      rw [hk]
      rw [hq2] at HC2
      clear hk
      go_enter Try.func28, Try.ntmps28
      go_wp2_with (first
        | (go_at_call 30; have _t := tok; refine HC1.out.mono ?_; clear tok; rintro e w1 ⟨rfl, rfl⟩)
        | (go_at_call 30; refine HC2.out.mono ?_; rintro e w1 ⟨rfl, rfl⟩))
      go_ret
      exact ⟨_, rfl, HO.out, HB.out⟩
    · rw [hq2] at HC2
      obtain ⟨a, b, c, e1, -⟩ := (of_decide_eq_true hq1).split
      obtain ⟨d, e, f, e2, -⟩ := (of_decide_eq_true hq2).split
      have HK : Hid (kmin l m = [mn a d, mn b e, mn c f]) := by
        show _ = _
        unfold kmin
        rw [if_pos ⟨of_decide_eq_true hq1, of_decide_eq_true hq2⟩, e1, e2]
        rfl
      rw [e1] at HL
      rw [e2] at HM
      obtain ⟨g1, k1, rfl, hg1, hc1⟩ := ints_at3 HL.out
      obtain ⟨g2, k2, rfl, hg2, hc2⟩ := ints_at3 HM.out
      have HG1 : Hid (∀ j, j < 3 → w.cell? ⟨g1, j, none⟩ = some (.int .i64 (at3 a b c j))) := hc1
      have HG2 : Hid (∀ j, j < 3 → w.cell? ⟨g2, j, none⟩ = some (.int .i64 (at3 d e f j))) := hc2
      obtain ⟨i0, hi, hz0, hz1, hz2⟩ := info_parts infoInt
      clear hc1 hc2 hq1 hq2 e1 e2 HL HM
      generalize hp : at3 a b c = p at *
      generalize hq : at3 d e f = q at *
      have HE : Hid ((List.range 3).map (fun i => mn (p i) (q i)) = [mn a d, mn b e, mn c f]) := by
        show _ = _; rw [← hp, ← hq]; rfl
      clear hp hq
      rw [← HE.out] at HK
      clear HE
      go_enter Try.func28, Try.ntmps28
      go_wp2_with (first
        | (go_at_call 30; have _t := tok; refine HC1.out.mono ?_; clear tok; rintro e w1 ⟨rfl, rfl⟩)
        | (go_at_call 30; refine HC2.out.mono ?_; rintro e w1 ⟨rfl, rfl⟩))
      go_loopw [5, 6] (fun x z wr => ∃ j : Nat, j ≤ 3 ∧ z = .int .i64 j ∧ wr.ownsRow w.heap.size 3 1 x j (intV ((List.range j).map fun i => mn (p i) (q i))) ∧ Below w.heap.size w wr) (fun _ z _ => 3 - (intOf z).toNat)
      case atStart => exact ⟨0, Nat.zero_le _, rfl, HO.out, HB.out⟩
      case round =>
        clear HO HB HC1 HC2
        obtain ⟨j, hj, rfl, hown, hbel⟩ := hrel
        by_cases hlt : j < 3
        · have hj1 : (j : Int) < 3 := by omega
          have hj0 : (0 : Int) ≤ j := by omega
          have c1 : wr.cell? ⟨g1, j, none⟩ = some (.int .i64 (p j)) := (hbel.cell (p := ⟨g1, j, none⟩) hg1).trans (HG1.out j hlt)
          have c2 : wr.cell? ⟨g2, j, none⟩ = some (.int .i64 (q j)) := (hbel.cell (p := ⟨g2, j, none⟩) hg2).trans (HG2.out j hlt)
          have HS : Hid (intV ((List.range (j + 1)).map fun i => mn (p i) (q i)) = intV ((List.range j).map fun i => mn (p i) (q i)) ++ [Value.int .i64 (mn (p j) (q j))]) := by
            show _ = _
            simp [intV, List.range_succ]
          have hsz := hbel.size
          obtain ⟨x, hx⟩ : ∃ x, x = mn (p j) (q j) := ⟨_, rfl⟩
          rw [← hx] at HS
          unfold mn at hx
          generalize p j = pj at *
          generalize q j = qj at *
          by_cases hc : qj < pj
          · rw [if_pos hc] at hx
            subst hx
            go_wp2_with (at_builtin; refine wpList_append_own _ rfl _ _ 24 rfl w.heap.size 3 i0 (.int .i64 0) 1 8 Try.underlying24 hi hz0 hz1 hz2 rfl (by decide) _ _ _ rfl (hown.alloc _) ⟨wr.heap.size, 0, none⟩ 1 1 [Value.int .i64 x] rfl rfl (one_new _ _ _) (by intro u' hu'; simp at hu'; subst hu'; rfl) (by unfold maxLen; omega) (by omega) (by simp; omega) ?_)
            intro v2 w4 hown2 hgrow hne2
            have hb4 : Below w.heap.size w w4 := (hbel.alloc hsz _).grown hgrow (by simp; omega) (fun k hk => (hown.lt k hk).1)
            have HO4 : Hid (w4.ownsRow w.heap.size 3 1 v2 (j + 1) (intV ((List.range (j + 1)).map fun i => mn (p i) (q i)))) := by
              show World.ownsRow _ _ _ _ _ _ _
              rw [HS.out]; exact hown2
            clear hown hown2 hgrow hne2 HS
            go_wp2
            go_roundw
            case rel => exact ⟨j + 1, by omega, by go_num, HO4.out, hb4⟩
            case measure => simp [intOf]; omega
          · rw [if_neg hc] at hx
            subst hx
            go_wp2_with (at_builtin; refine wpList_append_own _ rfl _ _ 24 rfl w.heap.size 3 i0 (.int .i64 0) 1 8 Try.underlying24 hi hz0 hz1 hz2 rfl (by decide) _ _ _ rfl (hown.alloc _) ⟨wr.heap.size, 0, none⟩ 1 1 [Value.int .i64 x] rfl rfl (one_new _ _ _) (by intro u' hu'; simp at hu'; subst hu'; rfl) (by unfold maxLen; omega) (by omega) (by simp; omega) ?_)
            intro v2 w4 hown2 hgrow hne2
            have hb4 : Below w.heap.size w w4 := (hbel.alloc hsz _).grown hgrow (by simp; omega) (fun k hk => (hown.lt k hk).1)
            have HO4 : Hid (w4.ownsRow w.heap.size 3 1 v2 (j + 1) (intV ((List.range (j + 1)).map fun i => mn (p i) (q i)))) := by
              show World.ownsRow _ _ _ _ _ _ _
              rw [HS.out]; exact hown2
            clear hown hown2 hgrow hne2 HS
            go_wp2
            go_roundw
            case rel => exact ⟨j + 1, by omega, by go_num, HO4.out, hb4⟩
            case measure => simp [intOf]; omega
        · have hj1 : ¬ ((j : Int) < 3) := by omega
          obtain rfl : j = 3 := by omega
          go_wp2
          go_ret
          exact ⟨_, rfl, by rw [HK.out]; exact hown, hbel⟩

set_option maxHeartbeats 1600000 in
theorem specKnowIn_calls (l m : List Int) (u v : Value) (w : World) (hnl : l.length ≤ 1048576) (hnm : m.length ≤ 1048576) (hl : IntsAt w u l) (hm : IntsAt w v m) :
    Calls Try.prog 24 #[u, v] w fun r w' => r = .returned (.bool (kin l m)) ∧ Below w.heap.size w w' := by
  have HC1 : Hid (∀ wx, Below w.heap.size w wx → Calls Try.prog 30 #[u] wx fun e w' => e = .returned (.bool (decide (KOk l))) ∧ w' = wx) := fun wx hb => specKnowOk_calls l u _ hnl (hl.below hb)
  have HC2 : Hid (∀ wx, Below w.heap.size w wx → Calls Try.prog 30 #[v] wx fun e w' => e = .returned (.bool (decide (KOk m))) ∧ w' = wx) := fun wx hb => specKnowOk_calls m v _ hnm (hm.below hb)
  have HL : Hid (IntsAt w u l) := hl
  have HM : Hid (IntsAt w v m) := hm
  have hb0 := Below.refl w.heap.size w
  clear hl hm hnl hnm
  cases hq1 : decide (KOk l)
  · have hk : kin l m = false := by unfold kin; rw [hq1]; rfl
    rw [hk]
    rw [hq1] at HC1
    clear hk
    go_enter Try.func24, Try.ntmps24
    go_wp2_with (go_at_call 30; refine (HC1.out _ hb0).mono ?_; rintro e w1 ⟨rfl, rfl⟩)
    go_ret
    exact ⟨rfl, hb0⟩
  · rw [hq1] at HC1
    have tok : True := trivial
    cases hq2 : decide (KOk m)
    · have hk : kin l m = false := by unfold kin; rw [hq2, Bool.and_false]; rfl
      rw [hk]
      rw [hq2] at HC2
      clear hk
      go_enter Try.func24, Try.ntmps24
      go_wp2_with (first
        | (go_at_call 30; have _t := tok; refine (HC1.out _ hb0).mono ?_; clear tok; rintro e w1 ⟨rfl, rfl⟩)
        | (go_at_call 30; refine (HC2.out _ hb0).mono ?_; rintro e w1 ⟨rfl, rfl⟩))
      go_ret
      exact ⟨rfl, hb0⟩
    · rw [hq2] at HC2
      obtain ⟨a, b, c, e1, -⟩ := (of_decide_eq_true hq1).split
      obtain ⟨d, e, f, e2, -⟩ := (of_decide_eq_true hq2).split
      have hk := kin_ok (of_decide_eq_true hq1) (of_decide_eq_true hq2) e1 e2
      rw [e1] at HL
      rw [e2] at HM
      obtain ⟨g1, k1, rfl, hg1, hc1⟩ := ints_at3 HL.out
      obtain ⟨g2, k2, rfl, hg2, hc2⟩ := ints_at3 HM.out
      have HG1 : Hid (∀ j, j < 3 → w.cell? ⟨g1, j, none⟩ = some (.int .i64 (at3 a b c j))) := hc1
      have HG2 : Hid (∀ j, j < 3 → w.cell? ⟨g2, j, none⟩ = some (.int .i64 (at3 d e f j))) := hc2
      clear hc1 hc2 hq1 hq2 e1 e2 HL HM
      generalize kin l m = r at *
      have HY : Hid ((∀ j, j < 3 → at3 a b c j ≤ at3 d e f j) → r = true) := by
        intro h
        have h0 : a ≤ d := h 0 (by omega)
        have h1 : b ≤ e := h 1 (by omega)
        have h2 : c ≤ f := h 2 (by omega)
        rw [hk]; simp [h0, h1, h2]
      have HN : Hid (∀ j, j < 3 → ¬ at3 a b c j ≤ at3 d e f j → r = false) := by
        intro j hj h
        rw [hk]
        match j, hj with
        | 0, _ => have h' : ¬ a ≤ d := h; simp [h']
        | 1, _ => have h' : ¬ b ≤ e := h; simp [h']
        | 2, _ => have h' : ¬ c ≤ f := h; simp [h']
      clear hk
      generalize at3 a b c = p at *
      generalize at3 d e f = q at *
      go_enter Try.func24, Try.ntmps24
      go_wp2_with (first
        | (go_at_call 30; have _t := tok; refine (HC1.out _ hb0).mono ?_; clear tok; rintro e w1 ⟨rfl, rfl⟩)
        | (go_at_call 30; refine (HC2.out _ hb0).mono ?_; rintro e w1 ⟨rfl, rfl⟩))
      go_loopw [5] (fun z wr => ∃ j : Nat, j ≤ 3 ∧ z = .int .i64 j ∧ (∀ i, i < j → p i ≤ q i) ∧ Below w1.heap.size w1 wr) (fun z _ => 3 - (intOf z).toNat)
      case atStart => exact ⟨0, Nat.zero_le _, rfl, fun i h => absurd h (by omega), hb0⟩
      case round =>
        clear hb0 HC1 HC2
        obtain ⟨j, hj, rfl, hpq, hbel⟩ := hrel
        have HPQ : Hid (∀ i, i < j → p i ≤ q i) := hpq
        clear hpq
        by_cases hlt : j < 3
        · have hj1 : (j : Int) < 3 := by omega
          have hj0 : (0 : Int) ≤ j := by omega
          have c1 : wr.cell? ⟨g1, j, none⟩ = some (.int .i64 (p j)) := (hbel.cell (p := ⟨g1, j, none⟩) hg1).trans (HG1.out j hlt)
          have c2 : wr.cell? ⟨g2, j, none⟩ = some (.int .i64 (q j)) := (hbel.cell (p := ⟨g2, j, none⟩) hg2).trans (HG2.out j hlt)
          by_cases hc : p j ≤ q j
          · have hc' : ¬ (q j < p j) := by omega
            have HS : Hid (∀ i, i < j + 1 → p i ≤ q i) := by
              intro i hi
              rcases Nat.lt_or_ge i j with h | h
              · exact HPQ.out i h
              · obtain rfl : i = j := by omega
                exact hc
            clear HPQ hc
            generalize p j = pj at *
            generalize q j = qj at *
            go_wp2
            go_quiet (fail)
            have hbq := below_drewN hbel nq
            clear c1 c2 hbel
            generalize wr.drewN nq = wq at *
            go_wp2
            go_roundw
            case rel => exact ⟨j + 1, by omega, by go_num, HS.out, hbq⟩
            case measure => simp [intOf]; omega
          · have hc' : q j < p j := by omega
            have hr := HN.out j hlt (by omega)
            subst hr
            generalize p j = pj at *
            generalize q j = qj at *
            go_wp2
            go_quiet (fail)
            have hbq := below_drewN hbel nq
            clear c1 c2 hbel
            generalize wr.drewN nq = wq at *
            go_wp2
            go_ret
            exact ⟨rfl, hbq⟩
        · have hj1 : ¬ ((j : Int) < 3) := by omega
          obtain rfl : j = 3 := by omega
          have hr := HY.out HPQ.out
          subst hr
          go_wp2
          go_ret
          exact ⟨rfl, hbel⟩

end Go.Proofs.Ytpojipiagnbgjaa
