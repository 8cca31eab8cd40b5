/- Which dots the specification lists. -/
import Derived.Test.YtpojipiagnbgjaaKSpec
namespace Go.Proofs.Ytpojipiagnbgjaa
open Go.RowKit

set_option maxHeartbeats 1600000 in
theorem specDotsIn_calls (l m : List Int) (u v : Value) (w : World) (hnl : l.length ≤ 1048576) (hnm : m.length ≤ 1048576) (hl : IntsAt w u l) (hm : IntsAt w v m) :
    Calls Try.prog 33 #[u, v] w fun r w' => ∃ x, r = .returned x ∧ w'.ownsRow w.heap.size 32 2 x (dots l m).length (dotV (dots l m)) ∧ Below w.heap.size w w' := by
  have hl1 := hl.alloc (.cells #[] 32)
  have hm1 := hm.alloc (.cells #[] 32)
  have HC1 : Hid (Calls Try.prog 30 #[u] (w.alloc (.cells #[] 32)) fun e w' => e = .returned (.bool (decide (KOk l))) ∧ w' = w.alloc (.cells #[] 32)) := specKnowOk_calls l u _ hnl hl1
  have HC2 : Hid (Calls Try.prog 30 #[v] (w.alloc (.cells #[] 32)) fun e w' => e = .returned (.bool (decide (KOk m))) ∧ w' = w.alloc (.cells #[] 32)) := specKnowOk_calls m v _ hnm hm1
  have HO : Hid ((w.alloc (.cells #[] 32)).ownsRow w.heap.size 32 2 (.slice (some ⟨w.heap.size, 0, none⟩) 0 0) 0 []) := own_none w 32 2 rfl (Nat.le_refl _)
  have HB : Hid (Below w.heap.size w (w.alloc (.cells #[] 32))) := (Below.refl _ _).alloc (Nat.le_refl _) _
  have HL : Hid (IntsAt w u l) := hl
  have HM : Hid (IntsAt w v m) := hm
  clear hl hm hl1 hm1 hnl hnm
  cases hq1 : decide (KOk l)
  · have hk : dots l m = [] := by
      unfold dots; rw [if_neg]; rintro ⟨h1, h2⟩; simp [h1] at hq1
    rw [hk]
    rw [hq1] at HC1
    clear hk
    go_enter Try.func33, Try.ntmps33
    go_wp2_with (go_at_call 30; refine HC1.out.mono ?_; rintro e w1 ⟨rfl, rfl⟩)
    go_ret
    exact ⟨_, rfl, HO.out, HB.out⟩
  · rw [hq1] at HC1
    have tok : True := trivial
    cases hq2 : decide (KOk m)
    · have hk : dots l m = [] := by
        unfold dots; rw [if_neg]; rintro ⟨h1, h2⟩; simp [h2] at hq2
      rw [hk]
      rw [hq2] at HC2
      clear hk
      go_enter Try.func33, Try.ntmps33
      go_wp2_with (first
        | (go_at_call 30; have _t := tok; refine HC1.out.mono ?_; clear tok; rintro e w1 ⟨rfl, rfl⟩)
        | (go_at_call 30; refine HC2.out.mono ?_; rintro e w1 ⟨rfl, rfl⟩))
      go_ret
      exact ⟨_, rfl, HO.out, HB.out⟩
    · rw [hq2] at HC2
      obtain ⟨a, b, c, e1, ba⟩ := (of_decide_eq_true hq1).split
      obtain ⟨d, e, f, e2, bd⟩ := (of_decide_eq_true hq2).split
      have HK : Hid (dots l m = dotsTo (at3 a b c) (at3 d e f) 3) := by
        show _ = _
        unfold dots
        rw [if_pos ⟨of_decide_eq_true hq1, of_decide_eq_true hq2⟩, e1, e2]
        rfl
      rw [e1] at HL
      rw [e2] at HM
      obtain ⟨g1, k1, rfl, hg1, hc1⟩ := ints_at3 HL.out
      obtain ⟨g2, k2, rfl, hg2, hc2⟩ := ints_at3 HM.out
      have HG1 : Hid (∀ j, j < 3 → w.cell? ⟨g1, j, none⟩ = some (.int .i64 (at3 a b c j))) := hc1
      have HG2 : Hid (∀ j, j < 3 → w.cell? ⟨g2, j, none⟩ = some (.int .i64 (at3 d e f j))) := hc2
      have HQ : Hid (∀ i, 0 ≤ at3 a b c i ∧ at3 a b c i ≤ 1000 ∧ 0 ≤ at3 d e f i ∧ at3 d e f i ≤ 1000) := by
        intro i
        match i with
        | 0 => simp only [at3]; omega
        | 1 => simp only [at3]; omega
        | _ + 2 => simp only [at3]; omega
      obtain ⟨i0, hi, hz0, hz1, hz2⟩ := info_parts infoDot
      clear hc1 hc2 hq1 hq2 e1 e2 HL HM ba bd
      generalize at3 a b c = p at *
      generalize at3 d e f = q at *
      have HLEN : Hid (∀ j, (dotsTo p q j).length ≤ 1000 * j) := dotsTo_len _ _ (fun i => by have := HQ.out i; omega)
      rw [HK.out]
      clear HK
      go_enter Try.func33, Try.ntmps33
      go_wp2_with (first
        | (go_at_call 30; have _t := tok; refine HC1.out.mono ?_; clear tok; rintro e w1 ⟨rfl, rfl⟩)
        | (go_at_call 30; refine HC2.out.mono ?_; rintro e w1 ⟨rfl, rfl⟩))
      go_loopw [5, 6] (fun x z wr => ∃ j : Nat, j ≤ 3 ∧ z = .int .i64 j ∧ wr.ownsRow w.heap.size 32 2 x (dotsTo p q j).length (dotV (dotsTo p q j)) ∧ Below w.heap.size w wr) (fun _ z _ => 3 - (intOf z).toNat)
      case atStart => exact ⟨0, Nat.zero_le _, rfl, HO.out, HB.out⟩
      case round =>
        clear HO HB HC1 HC2
        obtain ⟨j, hj, rfl, hown, hbel⟩ := hrel
        by_cases hlt : j < 3
        · have hj1 : (j : Int) < 3 := by omega
          have hj0 : (0 : Int) ≤ j := by omega
          have c1 : wr.cell? ⟨g1, j, none⟩ = some (.int .i64 (p j)) := (hbel.cell (p := ⟨g1, j, none⟩) hg1).trans (HG1.out j hlt)
          have HC2 : Hid (w.cell? ⟨g2, j, none⟩ = some (.int .i64 (q j))) := HG2.out j hlt
          have hpq := HQ.out j
          have hlen := HLEN.out j
          have HDO : Hid (dotsTo p q (j + 1) = dotsTo p q j ++ dotsN (j : Int) (p j) (q j - p j).toNat) := dotsTo_succ p q j
          obtain ⟨cnt, hcnt⟩ : ∃ cnt : Nat, cnt = (q j - p j).toNat := ⟨_, rfl⟩
          rw [← hcnt] at HDO
          have HLE : Hid ((dotsTo p q j).length + cnt ≤ 4000) := by show _ ≤ _; omega
          generalize p j = pj at *
          generalize q j = qj at *
          have hw1 : IntKind.i64.wrap (pj + 1) = pj + 1 := by rw [IntKind.wrap_i64]; omega
          generalize dotsTo p q j = pre at *
          have HOW : Hid (wr.ownsRow w.heap.size 32 2 u5 (pre ++ dotsN (j : Int) pj 0).length (dotV (pre ++ dotsN (j : Int) pj 0))) := by
            have e : pre ++ dotsN (j : Int) pj 0 = pre := by simp [dotsN]
            show World.ownsRow _ _ _ _ _ _ _
            rw [e]; exact hown
          clear hown hlen
          go_wp2
          go_loopg [5, 7] cnt (fun gg x z wr => ∃ k : Nat, k + gg = cnt ∧ z = .int .i64 (pj + 1 + k) ∧ wr.ownsRow w.heap.size 32 2 x (pre ++ dotsN (j : Int) pj k).length (dotV (pre ++ dotsN (j : Int) pj k)) ∧ Below w.heap.size w wr)
          case atStart => exact ⟨0, by omega, by simp, HOW.out, hbel⟩
          case round =>
            clear HOW c1 hbel hw1
            obtain ⟨k, hk, rfl, hown, hbel⟩ := hrel
            have hl1 : (pre ++ dotsN (j : Int) pj k).length + 1 ≤ 4001 := by rw [List.length_append, dotsN_len]; have := HLE.out; omega
            have HS : Hid (pre ++ dotsN (j : Int) pj (k + 1) = (pre ++ dotsN (j : Int) pj k) ++ [((j : Int), pj + 1 + k)]) := by
              show _ = _
              rw [dotsN_succ, List.append_assoc]
            have c2 : wr.cell? ⟨g2, j, none⟩ = some (.int .i64 qj) := (hbel.cell (p := ⟨g2, j, none⟩) hg2).trans HC2.out
            obtain ⟨s, hs⟩ : ∃ s, s = pj + 1 + (k : Int) := ⟨_, rfl⟩
            have hsz := hbel.size
            by_cases hlt2 : k < cnt
            · have hle : s ≤ qj := by omega
              have hwr : IntKind.i64.wrap (s + 1) = s + 1 := by rw [IntKind.wrap_i64]; omega
              have HK : Hid (pj + 1 + ((k + 1 : Nat) : Int) = s + 1) := by show _ = _; omega
              have HGK : Hid (k + 1 + (gk - 1) = cnt ∧ gk - 1 < gk) := ⟨by omega, by omega⟩
              rw [← hs] at HS ⊢
              have HN := two_new wr (.int .i64 (j : Int)) (.int .i64 s) 32
              have HNN : Hid (∀ j' u, [Value.int .i64 (j : Int), Value.int .i64 s][j']? = some u → (wr.alloc (.cells #[.int .i64 (j : Int), .int .i64 s] 32)).cell? (Addr.add ⟨wr.heap.size, 0, none⟩ j') = some u) := HN
              generalize pre ++ dotsN (j : Int) pj k = L at *
              clear hs hk hpq hcnt HN
              go_wp2_with (at_builtin; refine wpList_append_own _ rfl _ _ 28 rfl w.heap.size 32 i0 (.agg #[.int .i64 0, .int .i64 0]) 2 16 Try.underlying28 hi hz0 hz1 hz2 rfl (by decide) _ _ _ rfl (hown.alloc _) ⟨wr.heap.size, 0, none⟩ 1 1 [Value.int .i64 (j : Int), Value.int .i64 s] rfl rfl HNN.out (by intro u' hu'; simp at hu'; rcases hu' with rfl | rfl <;> rfl) (by unfold maxLen; omega) (by omega) (by simp; omega) ?_)
              intro v2 w4 hown2 hgrow hne2
              have hb4 : Below w.heap.size w w4 := (hbel.alloc hsz _).grown hgrow (by simp; omega) (fun k hk => (hown.lt k hk).1)
              have HO4 : Hid (w4.ownsRow w.heap.size 32 2 v2 (pre ++ dotsN (j : Int) pj (k + 1)).length (dotV (pre ++ dotsN (j : Int) pj (k + 1)))) := by
                show World.ownsRow _ _ _ _ _ _ _
                rw [HS.out, dotV_app, dotV_one, List.length_append]; exact hown2
              clear hown hown2 hgrow hne2 HS HNN c2
              go_wp2
              go_roundg (gk - 1)
              case measure => exact HGK.out.2
              case rel => exact ⟨k + 1, HGK.out.1, by rw [HK.out], HO4.out, hb4⟩
            · have hle : ¬ (s ≤ qj) := by omega
              have hkc : k = cnt := by omega
              rw [← hs]
              have HO4 : Hid (wr.ownsRow w.heap.size 32 2 u5 (dotsTo p q (j + 1)).length (dotV (dotsTo p q (j + 1)))) := by
                show World.ownsRow _ _ _ _ _ _ _
                rw [HDO.out, ← hkc]; exact hown
              clear hown hs hk hpq hcnt hkc HS
              go_wp2
              go_roundw
              case rel => exact ⟨j + 1, by omega, by go_num, HO4.out, hbel⟩
              case measure => simp [intOf]; omega
        · have hj1 : ¬ ((j : Int) < 3) := by omega
          obtain rfl : j = 3 := by omega
          go_wp2
          go_ret
          exact ⟨_, rfl, hown, hbel⟩

end Go.Proofs.Ytpojipiagnbgjaa
