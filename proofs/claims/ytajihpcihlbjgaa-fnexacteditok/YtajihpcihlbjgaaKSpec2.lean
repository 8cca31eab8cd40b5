/- What the specification tells of a dot, and which dots it lists. -/
import Derived.Test.YtajihpcihlbjgaaKSpec
namespace Go.Proofs.Ytajihpcihlbjgaa
set_option maxRecDepth 100000
set_option linter.unusedVariables false
open Go.RowKit

/-- What Knows holds: the dot. -/
def Kd (w w1 : World) (r s : Int) : Prop := DotAt w1 w.heap.size r s ∧ Below w.heap.size w w1
theorem Kd.next {w w1 w2 : World} {r s : Int} (h : Kd w w1 r s) (hb : Below w1.heap.size w1 w2) : Kd w w2 r s :=
  ⟨h.1.below hb h.1.lt, h.2.trans (hb.mono h.2.size)⟩

theorem Kd.five {w w1 : World} {g : Nat} {a b c r s : Int} (h : Kd w w1 r s) (hg : g < w.heap.size) (hc : ∀ j, j < 3 → w.cell? ⟨g, j, none⟩ = some (.int .i64 (at3 a b c j))) : w1.cell? ⟨w.heap.size, 0, none⟩ = some (.int .i64 r) ∧ w1.cell? ⟨w.heap.size, 1, none⟩ = some (.int .i64 s) ∧ w1.cell? ⟨g, 0, none⟩ = some (.int .i64 a) ∧ w1.cell? ⟨g, 1, none⟩ = some (.int .i64 b) ∧ w1.cell? ⟨g, 2, none⟩ = some (.int .i64 c) :=
  ⟨h.1.c0, h.1.c1, (h.2.cell (p := ⟨g, 0, none⟩) hg).trans (hc 0 (by omega)), (h.2.cell (p := ⟨g, 1, none⟩) hg).trans (hc 1 (by omega)), (h.2.cell (p := ⟨g, 2, none⟩) hg).trans (hc 2 (by omega))⟩

set_option maxHeartbeats 3200000 in
theorem specKnows_calls (l : List Int) (v : Value) (r s : Int) (w : World) (hnl : l.length ≤ 1048576) (hl : IntsAt w v l) :
    Calls Try.prog 59 #[v, .agg #[.int .i64 r, .int .i64 s]] w fun q w' => q = .returned (.bool (knows l r s)) ∧ Below w.heap.size w w' := by
  obtain ⟨W, hW⟩ : ∃ W, W = w.alloc (.cells #[.int .i64 r, .int .i64 s] 40) := ⟨_, rfl⟩
  have hD : DotAt W w.heap.size r s := by rw [hW]; exact dotAt_new w r s rfl
  have hbW : Below w.heap.size w W := by rw [hW]; exact (Below.refl _ _).alloc (Nat.le_refl _) _
  have HC : Hid (∀ n, Calls Try.prog 55 #[v] (W.drewN n) fun e w' => e = .returned (.bool (decide (KOk l))) ∧ w' = W.drewN n) := fun n => specKnowOk_calls l v _ hnl (hl.below (below_drewN hbW n))
  have HC0 : Hid (Calls Try.prog 55 #[v] W.drew fun e w' => e = .returned (.bool (decide (KOk l))) ∧ w' = W.drew) := specKnowOk_calls l v _ hnl (hl.below hbW.drew)
  have HW : Hid (w.alloc (.cells #[.int .i64 r, .int .i64 s] 40) = W) := hW.symm
  have HDC : Hid (∀ wx, Calls Try.prog 74 #[.agg #[.int .i64 r, .int .i64 s]] wx fun e w' => e = .returned (.bool (decide (DOk r s))) ∧ Below wx.heap.size wx w') := fun wx => specDotOk_calls r s wx
  have HL : Hid (IntsAt w v l) := hl
  have HKd : Hid (Kd w W.drew r s) := ⟨hD.drew, hbW.drew⟩
  have c0 := hD.c0
  have c1 := hD.c1
  clear hW hl hnl
  cases hq : decide (KOk l)
  · have hk : knows l r s = false := by unfold knows; rw [hq]; rfl
    rw [hk]
    rw [hq] at HC
    clear hk
    go_enter Try.func59, Try.ntmps59
    go_wp2
    rw [HW.out]
    go_quiet ((go_at_call 55; exact Calls.quiet_of_same (HC.out _)))
    go_wp2
    go_ret
    exact ⟨rfl, below_drewN hbW _⟩
  · rw [hq] at HC0
    have HK : Hid (KOk l) := of_decide_eq_true (p := KOk l) hq
    cases hd : decide (DOk r s)
    · have hk : knows l r s = false := by unfold knows; rw [hq, hd]; rfl
      rw [hk]
      rw [hd] at HDC
      clear hk
      go_enter Try.func59, Try.ntmps59
      go_wp2
      rw [HW.out]
      first
        | go_region_with (first | (go_at_call 55; refine HC0.out.mono ?_; rintro e w3 ⟨rfl, rfl⟩) | (go_at_call 74; refine (HDC.out _).mono ?_; rintro e w3 ⟨rfl, hb3⟩; have hT1 := HKd.out.next hb3))
        | fail
      all_goals go_wp2
      all_goals go_ret
      all_goals exact ⟨rfl, hT1.2⟩
    · have HD0 : Hid (DOk r s) := of_decide_eq_true (p := DOk r s) hd
      rw [hd] at HDC
      obtain ⟨a, b, c, hla, -⟩ := HK.out.split
      rw [hla] at HL
      obtain ⟨g, k, rfl, hg, hgc⟩ := ints_at3 HL.out
      have HG : Hid (∀ j, j < 3 → w.cell? ⟨g, j, none⟩ = some (.int .i64 (at3 a b c j))) := hgc
      obtain ⟨kq, hkq⟩ : ∃ kq, kq = knows l r s := ⟨_, rfl⟩
      rw [← hkq]
      have HKQ : Hid (kq = knows l r s) := hkq
      have HLA : Hid (l = [a, b, c]) := hla
      have hKW : Kd w W r s := ⟨hD, hbW⟩
      have cc := hKW.five hg hgc
      obtain ⟨-, -, c2, c3, c4⟩ := cc
      have cc := hKW.five hg hgc
      clear hkq hgc hla hKW
      have hr : r = 0 ∨ r = 1 ∨ r = 2 := by have := HD0.out.1; have := HD0.out.2.1; omega
      rcases hr with rfl | rfl | rfl
      · have HKE : Hid (kq = decide (s ≤ a)) := by
          show _ = _
          rw [HKQ.out]
          unfold knows
          rw [hq, hd, HLA.out]
          rfl
        go_enter Try.func59, Try.ntmps59
        go_wp2
        rw [HW.out]
        go_region_held3 (fun w' => w'.cell? ⟨w.heap.size, 0, none⟩ = some (.int .i64 0) ∧ w'.cell? ⟨w.heap.size, 1, none⟩ = some (.int .i64 s) ∧ w'.cell? ⟨g, 0, none⟩ = some (.int .i64 a) ∧ w'.cell? ⟨g, 1, none⟩ = some (.int .i64 b) ∧ w'.cell? ⟨g, 2, none⟩ = some (.int .i64 c)) (first | exact cc | exact kk | go_keep) (first | (go_at_call 55; refine HC0.out.mono ?_; rintro e w3 ⟨rfl, rfl⟩) | (go_at_call 74; refine (HDC.out _).mono ?_; rintro e w3 ⟨rfl, hb3⟩; have hT1 := HKd.out.next hb3; have kk := hT1.five hg HG.out))
        all_goals go_wp2
        all_goals go_ret
        all_goals exact ⟨by rw [HKE.out]; rfl, hT1.2⟩
      · have HKE : Hid (kq = decide (s ≤ b)) := by
          show _ = _
          rw [HKQ.out]
          unfold knows
          rw [hq, hd, HLA.out]
          rfl
        go_enter Try.func59, Try.ntmps59
        go_wp2
        rw [HW.out]
        go_region_held3 (fun w' => w'.cell? ⟨w.heap.size, 0, none⟩ = some (.int .i64 1) ∧ w'.cell? ⟨w.heap.size, 1, none⟩ = some (.int .i64 s) ∧ w'.cell? ⟨g, 0, none⟩ = some (.int .i64 a) ∧ w'.cell? ⟨g, 1, none⟩ = some (.int .i64 b) ∧ w'.cell? ⟨g, 2, none⟩ = some (.int .i64 c)) (first | exact cc | exact kk | go_keep) (first | (go_at_call 55; refine HC0.out.mono ?_; rintro e w3 ⟨rfl, rfl⟩) | (go_at_call 74; refine (HDC.out _).mono ?_; rintro e w3 ⟨rfl, hb3⟩; have hT1 := HKd.out.next hb3; have kk := hT1.five hg HG.out))
        all_goals go_wp2
        all_goals go_ret
        all_goals exact ⟨by rw [HKE.out]; rfl, hT1.2⟩
      · have HKE : Hid (kq = decide (s ≤ c)) := by
          show _ = _
          rw [HKQ.out]
          unfold knows
          rw [hq, hd, HLA.out]
          rfl
        go_enter Try.func59, Try.ntmps59
        go_wp2
        rw [HW.out]
        go_region_held3 (fun w' => w'.cell? ⟨w.heap.size, 0, none⟩ = some (.int .i64 2) ∧ w'.cell? ⟨w.heap.size, 1, none⟩ = some (.int .i64 s) ∧ w'.cell? ⟨g, 0, none⟩ = some (.int .i64 a) ∧ w'.cell? ⟨g, 1, none⟩ = some (.int .i64 b) ∧ w'.cell? ⟨g, 2, none⟩ = some (.int .i64 c)) (first | exact cc | exact kk | go_keep) (first | (go_at_call 55; refine HC0.out.mono ?_; rintro e w3 ⟨rfl, rfl⟩) | (go_at_call 74; refine (HDC.out _).mono ?_; rintro e w3 ⟨rfl, hb3⟩; have hT1 := HKd.out.next hb3; have kk := hT1.five hg HG.out))
        all_goals go_wp2
        all_goals go_ret
        all_goals exact ⟨by rw [HKE.out]; rfl, hT1.2⟩

end Go.Proofs.Ytajihpcihlbjgaa
