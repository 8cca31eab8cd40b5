/- Whether one knowledge is within another, and whether a dot is known, as the program tells it. -/
import Derived.Test.YtpojipiagnbgjaaKBoth
namespace Go.Proofs.Ytpojipiagnbgjaa
open Go.RowKit

theorem mx_eq (a d : Int) : decide (mx a d = d) = decide (a ≤ d) := by
  unfold mx; by_cases h : a < d
  · rw [if_pos h]; simp; omega
  · rw [if_neg h]; rw [decide_eq_decide]; omega

/-- The cells of two arrays. -/
def SixC (w : World) (g k : Nat) (a b c d e f : Int) : Prop := w.cell? ⟨g, 0, none⟩ = some (.int .i64 a) ∧ w.cell? ⟨g, 1, none⟩ = some (.int .i64 b) ∧ w.cell? ⟨g, 2, none⟩ = some (.int .i64 c) ∧ w.cell? ⟨k, 0, none⟩ = some (.int .i64 d) ∧ w.cell? ⟨k, 1, none⟩ = some (.int .i64 e) ∧ w.cell? ⟨k, 2, none⟩ = some (.int .i64 f)
theorem Two.six {w w1 : World} {a b c d e f : Int} (h : Two w w1 a b c d e f) : SixC w1 w.heap.size (w.heap.size + 1) a b c d e f :=
  ⟨h.1.c0, h.1.c1, h.1.c2, h.2.1.c0, h.2.1.c1, h.2.1.c2⟩

set_option maxHeartbeats 1600000 in
theorem within_calls (a b c d e f : Int) (w : World) :
    Calls Try.prog 54 #[arr a b c, arr d e f] w fun r w' => r = .returned (.bool (decide (a ≤ d) && decide (b ≤ e) && decide (c ≤ f))) ∧ Below w.heap.size w w' := by
  obtain ⟨W, hW⟩ : ∃ W, W = (w.alloc (.cells #[.int .i64 a, .int .i64 b, .int .i64 c] 53)).alloc (.cells #[.int .i64 d, .int .i64 e, .int .i64 f] 53) := ⟨_, rfl⟩
  have hT : Two w W a b c d e f := by
    rw [hW]
    exact ⟨(arrAt_new w a b c rfl).alloc _, arrAt_new _ d e f (by simp), ((Below.refl _ _).alloc (Nat.le_refl _) _).alloc (by simp) _⟩
  have HW : Hid ((w.alloc (.cells #[.int .i64 a, .int .i64 b, .int .i64 c] 53)).alloc (.cells #[.int .i64 d, .int .i64 e, .int .i64 f] 53) = W) := hW.symm
  clear hW
  have HQ : Hid ((decide (mx a d = d) && decide (mx b e = e) && decide (mx c f = f)) = (decide (a ≤ d) && decide (b ≤ e) && decide (c ≤ f))) := by
    show _ = _
    rw [mx_eq, mx_eq, mx_eq]
  obtain ⟨q, hq⟩ : ∃ q, q = (decide (a ≤ d) && decide (b ≤ e) && decide (c ≤ f)) := ⟨_, rfl⟩
  rw [← hq] at HQ ⊢
  clear hq
  have heq := eq_arr_run (mx a d) (mx b e) (mx c f) d e f
  rw [HQ.out] at heq
  have hgd := arr_guard
  have cc := hT.six
  obtain ⟨c0, c1, c2, d0, d1, d2⟩ := hT.six
  have HT : Hid (Two w W.drew a b c d e f) := ⟨hT.1.drew, hT.2.1.drew, hT.2.2.drew⟩
  have HC : Hid (∀ wx, Calls Try.prog 46 #[.agg #[.int .i64 a, .int .i64 b, .int .i64 c], .agg #[.int .i64 d, .int .i64 e, .int .i64 f]] wx fun r w' => r = .returned (.agg #[.int .i64 (mx a d), .int .i64 (mx b e), .int .i64 (mx c f)]) ∧ Below wx.heap.size wx w') := fun wx => most_calls a b c d e f wx
  clear hT
  unfold arr
  go_enter Try.func54, Try.ntmps54
  go_wp2
  rw [HW.out]
  go_region_held3 (fun w' => w'.cell? ⟨w.heap.size, 0, none⟩ = some (.int .i64 a) ∧ w'.cell? ⟨w.heap.size, 1, none⟩ = some (.int .i64 b) ∧ w'.cell? ⟨w.heap.size, 2, none⟩ = some (.int .i64 c) ∧ w'.cell? ⟨w.heap.size + 1, 0, none⟩ = some (.int .i64 d) ∧ w'.cell? ⟨w.heap.size + 1, 1, none⟩ = some (.int .i64 e) ∧ w'.cell? ⟨w.heap.size + 1, 2, none⟩ = some (.int .i64 f)) (first | exact cc | exact kk | go_keep) (first | (go_at_call 46; refine (HC.out _).mono ?_; rintro r w1 ⟨rfl, hb1⟩; have hT1 := HT.out.next hb1; have kk := hT1.six))
  all_goals go_wp2
  all_goals go_ret
  all_goals exact ⟨rfl, hT1.2.2⟩

theorem kin_ok {l m : List Int} {a b c d e f : Int} (h1 : KOk l) (h2 : KOk m) (e1 : l = [a, b, c]) (e2 : m = [d, e, f]) : kin l m = (decide (a ≤ d) && decide (b ≤ e) && decide (c ≤ f)) := by
  unfold kin
  rw [decide_eq_true h1, decide_eq_true h2]
  subst e1 e2
  simp [Bool.and_assoc]

set_option maxHeartbeats 1600000 in
theorem knowIn_calls (l m : List Int) (u v : Value) (w : World) (hl : IntsAt w u l) (hm : IntsAt w v m) :
    Calls Try.prog 22 #[u, v] w fun r w' => r = .returned (.bool (kin l m)) ∧ Below w.heap.size w w' := by
  have HL : Hid (IntsAt w u l) := hl
  have HM : Hid (IntsAt w v m) := hm
  clear hl hm
  cases hq : (decide (KOk l) && decide (KOk m))
  · have hk : kin l m = false := by
      unfold kin; rw [hq]; rfl
    rw [hk]
    clear hk
    go_enter Try.func22, Try.ntmps22
    go_wp2_with fail
    refine (both_calls l m u v w HL.out HM.out).mono ?_
    rw [hq]
    rintro r w1 ⟨a, b, c, d, e, f, rfl, hla, hmd, hb1⟩
    unfold arr
    have HP : Hid (Pair w _ _ a b c d e f) := pair_new hb1 a b c d e f
    clear hb1
    go_wp2
    go_ret
    exact ⟨rfl, HP.out.2.2.1⟩
  · have hk1 : KOk l := by cases h : decide (KOk l) <;> simp [h] at hq; exact of_decide_eq_true h
    have hk2 : KOk m := by cases h : decide (KOk m) <;> simp [h] at hq; exact of_decide_eq_true h
    have HK1 : Hid (KOk l) := hk1
    have HK2 : Hid (KOk m) := hk2
    clear hk1 hk2
    go_enter Try.func22, Try.ntmps22
    go_wp2_with fail
    refine (both_calls l m u v w HL.out HM.out).mono ?_
    rw [hq]
    rintro r w1 ⟨a, b, c, d, e, f, rfl, hla, hmd, hb1⟩
    unfold arr
    have hP := pair_new hb1 a b c d e f
    have HP : Hid (Pair w _ _ a b c d e f) := hP
    obtain ⟨⟨c0, c1, c2⟩, d0, d1, d2⟩ := pair_cells hP
    have HKI : Hid (kin l m = (decide (a ≤ d) && decide (b ≤ e) && decide (c ≤ f))) := kin_ok HK1.out HK2.out (hla.out HK1.out) (hmd.out HK2.out)
    clear hb1 hP
    go_wp2_with fail
    refine (within_calls a b c d e f _).mono ?_
    rintro r w2 ⟨rfl, hb2⟩
    rw [← HKI.out]
    have HB2 : Hid (Below w.heap.size w w2) := HP.out.2.2.1.trans (hb2.mono HP.out.2.2.1.size)
    clear hb2
    go_wp2
    go_ret
    exact ⟨rfl, HB2.out⟩

end Go.Proofs.Ytpojipiagnbgjaa
