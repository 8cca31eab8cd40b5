/- What the specification makes of two knowledges. -/
import Derived.Test.YtajihpcihlbjgaaKDots
namespace Go.Proofs.Ytajihpcihlbjgaa
set_option maxRecDepth 100000
set_option linter.unusedVariables false
open Go.RowKit

theorem ints_at3 {w : World} {v : Value} {a b c : Int} (h : IntsAt w v [a, b, c]) : ∃ g k : Nat, v = .slice (some ⟨g, 0, none⟩) 3 k ∧ g < w.heap.size ∧ ∀ j, j < 3 → w.cell? ⟨g, j, none⟩ = some (.int .i64 (at3 a b c j)) := by
  obtain ⟨aa, k, rfl, hg⟩ := h
  obtain ⟨g, rfl, h1, h2⟩ := hg (by simp)
  refine ⟨g, k, rfl, h1, fun j hj => ?_⟩
  have := h2 j hj
  match j, hj with
  | 0, _ => exact this
  | 1, _ => exact this
  | 2, _ => exact this

set_option maxHeartbeats 400000 in
theorem specKnowNew_calls (w : World) : Calls Try.prog 81 #[] w fun r w' => ∃ x, r = .returned x ∧ w'.ownsRow w.heap.size 3 1 x 3 (intV [0, 0, 0]) ∧ Below w.heap.size w w' := by
  have hmk : (Instr.makeSlice 31 (.int .i64 3) (.int .i64 3)).run Try.prog w = .ok (.slice (some ⟨w.heap.size, 0, none⟩) 3 3) (w.alloc (.cells (intV (List.replicate 3 0)).toArray 3)) := make_ints w 3 (by omega)
  have HO : Hid ((w.alloc (.cells (intV (List.replicate 3 0)).toArray 3)).ownsRow w.heap.size 3 1 (.slice (some ⟨w.heap.size, 0, none⟩) 3 3) 3 (intV [0, 0, 0])) := own_block (xs := intV [0, 0, 0]) (MapKept.heap_alloc w _).1 (Nat.le_refl _) rfl (by decide)
  have HB : Hid (Below w.heap.size w (w.alloc (.cells (intV (List.replicate 3 0)).toArray 3))) := (Below.refl _ _).alloc (Nat.le_refl _) _
  generalize w.alloc (.cells (intV (List.replicate 3 0)).toArray 3) = w1 at *
  go_enter Try.func81, Try.ntmps81
  go_wp2
  go_ret
  exact ⟨_, rfl, HO.out, HB.out⟩

set_option maxHeartbeats 1600000 in
theorem specKnowIn_calls (l m : List Int) (u v : Value) (w : World) (hnl : l.length ≤ 1048576) (hnm : m.length ≤ 1048576) (hl : IntsAt w u l) (hm : IntsAt w v m) :
    Calls Try.prog 91 #[u, v] w fun r w' => r = .returned (.bool (kin l m)) ∧ Below w.heap.size w w' := by
  have HC1 : Hid (∀ wx, Below w.heap.size w wx → Calls Try.prog 55 #[u] wx fun e w' => e = .returned (.bool (decide (KOk l))) ∧ w' = wx) := fun wx hb => specKnowOk_calls l u _ hnl (hl.below hb)
  have HC2 : Hid (∀ wx, Below w.heap.size w wx → Calls Try.prog 55 #[v] wx fun e w' => e = .returned (.bool (decide (KOk m))) ∧ w' = wx) := fun wx hb => specKnowOk_calls m v _ hnm (hm.below hb)
  have HL : Hid (IntsAt w u l) := hl
  have HM : Hid (IntsAt w v m) := hm
  have hb0 := Below.refl w.heap.size w
  clear hl hm hnl hnm
  cases hq1 : decide (KOk l)
  · have hk : kin l m = false := by unfold kin; rw [hq1]; rfl
    rw [hk]
    rw [hq1] at HC1
    clear hk
    go_enter Try.func91, Try.ntmps91
    go_wp2_with (go_at_call 55; refine (HC1.out _ hb0).mono ?_; rintro e w1 ⟨rfl, rfl⟩)
    go_ret
    exact ⟨rfl, hb0⟩
  · rw [hq1] at HC1
    have tok : True := trivial
    cases hq2 : decide (KOk m)
    · have hk : kin l m = false := by unfold kin; rw [hq2, Bool.and_false]; rfl
      rw [hk]
      rw [hq2] at HC2
      clear hk
      go_enter Try.func91, Try.ntmps91
      go_wp2_with (first
        | (go_at_call 55; have _t := tok; refine (HC1.out _ hb0).mono ?_; clear tok; rintro e w1 ⟨rfl, rfl⟩)
        | (go_at_call 55; refine (HC2.out _ hb0).mono ?_; rintro e w1 ⟨rfl, rfl⟩))
      go_ret
      exact ⟨rfl, hb0⟩
    · rw [hq2] at HC2
      obtain ⟨a, b, c, e1, -⟩ := (of_decide_eq_true hq1).split
      obtain ⟨d, e, f, e2, -⟩ := (of_decide_eq_true hq2).split
      have hk := kin_ok (of_decide_eq_true hq1) (of_decide_eq_true hq2) e1 e2
      rw [e1] at HL
      rw [e2] at HM
      obtain ⟨g1, k1, rfl, hg1, hc1⟩ := ints_at3 HL.out
      obtain ⟨g2, k2, rfl, hg2, hc2⟩ := ints_at3 HM.out
      have HG1 : Hid (∀ j, j < 3 → w.cell? ⟨g1, j, none⟩ = some (.int .i64 (at3 a b c j))) := hc1
      have HG2 : Hid (∀ j, j < 3 → w.cell? ⟨g2, j, none⟩ = some (.int .i64 (at3 d e f j))) := hc2
      clear hc1 hc2 hq1 hq2 e1 e2 HL HM
      generalize kin l m = r at *
      have HY : Hid ((∀ j, j < 3 → at3 a b c j ≤ at3 d e f j) → r = true) := by
        intro h
        have h0 : a ≤ d := h 0 (by omega)
        have h1 : b ≤ e := h 1 (by omega)
        have h2 : c ≤ f := h 2 (by omega)
        rw [hk]; simp [h0, h1, h2]
      have HN : Hid (∀ j, j < 3 → ¬ at3 a b c j ≤ at3 d e f j → r = false) := by
        intro j hj h
        rw [hk]
        match j, hj with
        | 0, _ => have h' : ¬ a ≤ d := h; simp [h']
        | 1, _ => have h' : ¬ b ≤ e := h; simp [h']
        | 2, _ => have h' : ¬ c ≤ f := h; simp [h']
      clear hk
      generalize at3 a b c = p at *
      generalize at3 d e f = q at *
      go_enter Try.func91, Try.ntmps91
      go_wp2_with (first
        | (go_at_call 55; have _t := tok; refine (HC1.out _ hb0).mono ?_; clear tok; rintro e w1 ⟨rfl, rfl⟩)
        | (go_at_call 55; refine (HC2.out _ hb0).mono ?_; rintro e w1 ⟨rfl, rfl⟩))
      go_loopw [5] (fun z wr => ∃ j : Nat, j ≤ 3 ∧ z = .int .i64 j ∧ (∀ i, i < j → p i ≤ q i) ∧ Below w1.heap.size w1 wr) (fun z _ => 3 - (intOf z).toNat)
      case atStart => exact ⟨0, Nat.zero_le _, rfl, fun i h => absurd h (by omega), hb0⟩
      case round =>
        clear hb0 HC1 HC2
        obtain ⟨j, hj, rfl, hpq, hbel⟩ := hrel
        have HPQ : Hid (∀ i, i < j → p i ≤ q i) := hpq
        clear hpq
        by_cases hlt : j < 3
        · have hj1 : (j : Int) < 3 := by omega
          have hj0 : (0 : Int) ≤ j := by omega
          have c1 : wr.cell? ⟨g1, j, none⟩ = some (.int .i64 (p j)) := (hbel.cell (p := ⟨g1, j, none⟩) hg1).trans (HG1.out j hlt)
          have c2 : wr.cell? ⟨g2, j, none⟩ = some (.int .i64 (q j)) := (hbel.cell (p := ⟨g2, j, none⟩) hg2).trans (HG2.out j hlt)
          by_cases hc : p j ≤ q j
          · have hc' : ¬ (q j < p j) := by omega
            have HS : Hid (∀ i, i < j + 1 → p i ≤ q i) := by
              intro i hi
              rcases Nat.lt_or_ge i j with h | h
              · exact HPQ.out i h
              · obtain rfl : i = j := by omega
                exact hc
            clear HPQ hc
            generalize p j = pj at *
            generalize q j = qj at *
            go_wp2
            go_quiet (fail)
            have hbq := below_drewN hbel nq
            clear c1 c2 hbel
            generalize wr.drewN nq = wq at *
            go_wp2
            go_roundw
            case rel => exact ⟨j + 1, by omega, by go_num, HS.out, hbq⟩
            case measure => simp [intOf]; omega
          · have hc' : q j < p j := by omega
            have hr := HN.out j hlt (by omega)
            subst hr
            generalize p j = pj at *
            generalize q j = qj at *
            go_wp2
            go_quiet (fail)
            have hbq := below_drewN hbel nq
            clear c1 c2 hbel
            generalize wr.drewN nq = wq at *
            go_wp2
            go_ret
            exact ⟨rfl, hbq⟩
        · have hj1 : ¬ ((j : Int) < 3) := by omega
          obtain rfl : j = 3 := by omega
          have hr := HY.out HPQ.out
          subst hr
          go_wp2
          go_ret
          exact ⟨rfl, hbel⟩

end Go.Proofs.Ytajihpcihlbjgaa
