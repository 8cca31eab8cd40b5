/- Whether a dot is known, as the program tells it; a dot in a block of its own. -/
import Derived.Test.YtajihpcihlbjgaaKIn
namespace Go.Proofs.Ytajihpcihlbjgaa
set_option maxRecDepth 100000
set_option linter.unusedVariables false
open Go.RowKit

/-- A dot as a value, and in a block of its own. -/
def dot (r s : Int) : Value := .agg #[.int .i64 r, .int .i64 s]
def DotAt (w : World) (g : Nat) (r s : Int) : Prop := w.heap[g]? = some (.cells #[.int .i64 r, .int .i64 s] 40 (0, 0))
theorem DotAt.c0 {w : World} {g : Nat} {r s : Int} (h : DotAt w g r s) : w.cell? ⟨g, 0, none⟩ = some (.int .i64 r) := by unfold DotAt at h; simp [World.cell?, h]
theorem DotAt.c1 {w : World} {g : Nat} {r s : Int} (h : DotAt w g r s) : w.cell? ⟨g, 1, none⟩ = some (.int .i64 s) := by unfold DotAt at h; simp [World.cell?, h]
theorem DotAt.free {w : World} {g : Nat} {r s : Int} (h : DotAt w g r s) (i : Nat) : w.frozen? ⟨g, i, none⟩ = false := by unfold DotAt at h; simp [World.frozen?, h]
theorem DotAt.set0 {w : World} {g : Nat} {r s : Int} (h : DotAt w g r s) (x : Int) : DotAt (w.setCell ⟨g, 0, none⟩ (.int .i64 x)) g x s := by
  have hm : w.heap[g]? = _ := h
  unfold DotAt World.setCell
  simp [Array.getElem?_modify, hm]
theorem DotAt.set1 {w : World} {g : Nat} {r s : Int} (h : DotAt w g r s) (x : Int) : DotAt (w.setCell ⟨g, 1, none⟩ (.int .i64 x)) g r x := by
  have hm : w.heap[g]? = _ := h
  unfold DotAt World.setCell
  simp [Array.getElem?_modify, hm]
theorem DotAt.other {w : World} {g : Nat} {r s : Int} (h : DotAt w g r s) {p : Addr} (hne : g ≠ p.block) (u : Value) : DotAt (w.setCell p u) g r s := by
  unfold DotAt; rw [Below.heap_setCell w p u g hne]; exact h
theorem DotAt.lt {w : World} {g : Nat} {r s : Int} (h : DotAt w g r s) : g < w.heap.size := (Array.getElem?_eq_some_iff.1 h).1
theorem DotAt.alloc {w : World} {g : Nat} {r s : Int} (h : DotAt w g r s) (o : Obj) : DotAt (w.alloc o) g r s := (Below.heap_alloc w o g h.lt).trans h
theorem DotAt.below {w w' : World} {g B : Nat} {r s : Int} (h : DotAt w g r s) (hb : Below B w w') (hB : g < B) : DotAt w' g r s := (hb.block g hB).trans h
theorem DotAt.drew {w : World} {g : Nat} {r s : Int} (h : DotAt w g r s) : DotAt w.drew g r s := h
theorem dotAt_new (w : World) (r s : Int) {g : Nat} (hg : g = w.heap.size) : DotAt (w.alloc (.cells #[.int .i64 r, .int .i64 s] 40)) g r s := by subst hg; exact (MapKept.heap_alloc w _).1
theorem ret_dot {fn : Func} {p : Tmp} (h : fn.results = #[.cell p 40]) {tmps : Array Value} {w : World} {g : Nat} {r s : Int} (hp : tmps.getD p undef = .pointer (some ⟨g, 0, none⟩)) (hg : DotAt w g r s) :
    (results fn tmps).run Try.prog w = .ok (dot r s) w := results_cell_row h tmps w g 40 _ (0, 0) _ hp hg Try.underlying40 rfl (by kernel_rfl)

theorem below_drewN {B : Nat} {a b : World} (h : Below B a b) (n : Nat) : Below B a (b.drewN n) := ⟨h.os, h.tape, h.output, h.size, h.block⟩

/-- What Knows holds: the dot, the array behind it. -/
def Kn (w w1 : World) (g : Nat) (a b c r s : Int) : Prop := DotAt w1 w.heap.size r s ∧ ArrAt w1 g a b c ∧ Below w.heap.size w w1
theorem Kn.next {w w1 w2 : World} {g : Nat} {a b c r s : Int} (h : Kn w w1 g a b c r s) (hb : Below w1.heap.size w1 w2) : Kn w w2 g a b c r s :=
  ⟨h.1.below hb h.1.lt, h.2.1.below hb h.2.1.lt, h.2.2.trans (hb.mono h.2.2.size)⟩
theorem Kn.five {w w1 : World} {g : Nat} {a b c r s : Int} (h : Kn w w1 g a b c r s) : w1.cell? ⟨w.heap.size, 0, none⟩ = some (.int .i64 r) ∧ w1.cell? ⟨w.heap.size, 1, none⟩ = some (.int .i64 s) ∧ w1.cell? ⟨g, 0, none⟩ = some (.int .i64 a) ∧ w1.cell? ⟨g, 1, none⟩ = some (.int .i64 b) ∧ w1.cell? ⟨g, 2, none⟩ = some (.int .i64 c) :=
  ⟨h.1.c0, h.1.c1, h.2.1.c0, h.2.1.c1, h.2.1.c2⟩

set_option maxHeartbeats 1600000 in
theorem knows_calls (l : List Int) (v : Value) (r s : Int) (w : World) (hl : IntsAt w v l) :
    Calls Try.prog 121 #[v, .agg #[.int .i64 r, .int .i64 s]] w fun q w' => q = .returned (.bool (knows l r s)) ∧ Below w.heap.size w w' := by
  obtain ⟨W, hW⟩ : ∃ W, W = w.alloc (.cells #[.int .i64 r, .int .i64 s] 40) := ⟨_, rfl⟩
  have hD : DotAt W w.heap.size r s := by rw [hW]; exact dotAt_new w r s rfl
  have hbW : Below w.heap.size w W := by rw [hW]; exact (Below.refl _ _).alloc (Nat.le_refl _) _
  have HL : Hid (IntsAt W v l) := by show IntsAt _ _ _; rw [hW]; exact hl.alloc _
  have HW : Hid (w.alloc (.cells #[.int .i64 r, .int .i64 s] 40) = W) := hW.symm
  have HDC : Hid (∀ wx, Calls Try.prog 124 #[.agg #[.int .i64 r, .int .i64 s]] wx fun e w' => e = .returned (.bool (decide (DOk r s))) ∧ Below wx.heap.size wx w') := fun wx => dotOk_calls r s wx
  clear hW hl
  cases hq : decide (KOk l)
  · have hk : knows l r s = false := by unfold knows; rw [hq]; rfl
    rw [hk]
    clear hk
    go_enter Try.func121, Try.ntmps121
    go_wp2_with fail
    rw [HW.out]
    refine (knowledgeOf_calls l v W HL.out).mono ?_
    rw [hq]
    rintro e w1 ⟨a, b, c, rfl, hla, hb1⟩
    unfold arr
    have HB : Hid (Below w.heap.size w (w1.alloc (.cells #[.int .i64 a, .int .i64 b, .int .i64 c] 106))) := (hbW.trans (hb1.mono hbW.size)).alloc (Nat.le_trans hbW.size hb1.size) _
    clear hb1
    go_wp2
    go_quiet (fail)
    go_wp2
    go_ret
    exact ⟨rfl, below_drewN HB.out _⟩
  · have HK : Hid (KOk l) := of_decide_eq_true (p := KOk l) hq
    cases hd : decide (DOk r s)
    · have hk : knows l r s = false := by unfold knows; rw [hq, hd]; rfl
      rw [hk]
      rw [hd] at HDC
      clear hk
      go_enter Try.func121, Try.ntmps121
      go_wp2_with fail
      rw [HW.out]
      refine (knowledgeOf_calls l v W HL.out).mono ?_
      rw [hq]
      rintro e w1 ⟨a, b, c, rfl, hla, hb1⟩
      unfold arr
      have hKn : Kn w (w1.alloc (.cells #[.int .i64 a, .int .i64 b, .int .i64 c] 106)) w1.heap.size a b c r s :=
        ⟨(hD.below hb1 hD.lt).alloc _, arrAt_new w1 a b c rfl, (hbW.trans (hb1.mono hbW.size)).alloc (Nat.le_trans hbW.size hb1.size) _⟩
      clear hb1
      go_wp2
      generalize w1.alloc (.cells #[.int .i64 a, .int .i64 b, .int .i64 c] 106) = w2 at *
      have cc := hKn.five
      obtain ⟨c0, c1, c2, c3, c4⟩ := hKn.five
      have HT : Hid (Kn w w2.drew w1.heap.size a b c r s) := ⟨hKn.1.drew, hKn.2.1.drew, hKn.2.2.drew⟩
      clear hKn
      first
        | go_region_with (first | (go_at_call 124; refine (HDC.out _).mono ?_; rintro e w3 ⟨rfl, hb3⟩; have hT1 := HT.out.next hb3))
        | fail
      all_goals go_wp2
      all_goals go_ret
      all_goals exact ⟨rfl, hT1.2.2⟩
    · have HD0 : Hid (DOk r s) := of_decide_eq_true (p := DOk r s) hd
      rw [hd] at HDC
      obtain ⟨kq, hkq⟩ : ∃ kq, kq = knows l r s := ⟨_, rfl⟩
      rw [← hkq]
      have HKQ : Hid (kq = knows l r s) := hkq
      clear hkq
      have hr : r = 0 ∨ r = 1 ∨ r = 2 := by have := HD0.out.1; have := HD0.out.2.1; omega
      rcases hr with rfl | rfl | rfl
      · go_enter Try.func121, Try.ntmps121
        go_wp2_with fail
        rw [HW.out]
        refine (knowledgeOf_calls l v W HL.out).mono ?_
        rw [hq]
        rintro e w1 ⟨a, b, c, rfl, hla, hb1⟩
        unfold arr
        have hKn : Kn w (w1.alloc (.cells #[.int .i64 a, .int .i64 b, .int .i64 c] 106)) w1.heap.size a b c 0 s :=
          ⟨(hD.below hb1 hD.lt).alloc _, arrAt_new w1 a b c rfl, (hbW.trans (hb1.mono hbW.size)).alloc (Nat.le_trans hbW.size hb1.size) _⟩
        have HKE : Hid (kq = decide (s ≤ a)) := by
          show _ = _
          rw [HKQ.out]
          unfold knows
          rw [hq, hd, hla.out HK.out]
          rfl
        clear hb1
        go_wp2
        generalize w1.alloc (.cells #[.int .i64 a, .int .i64 b, .int .i64 c] 106) = w2 at *
        have cc := hKn.five
        obtain ⟨c0, c1, c2, c3, c4⟩ := hKn.five
        have HT : Hid (Kn w w2.drew w1.heap.size a b c 0 s) := ⟨hKn.1.drew, hKn.2.1.drew, hKn.2.2.drew⟩
        clear hKn
        go_region_held3 (fun w' => w'.cell? ⟨w.heap.size, 0, none⟩ = some (.int .i64 0) ∧ w'.cell? ⟨w.heap.size, 1, none⟩ = some (.int .i64 s) ∧ w'.cell? ⟨w1.heap.size, 0, none⟩ = some (.int .i64 a) ∧ w'.cell? ⟨w1.heap.size, 1, none⟩ = some (.int .i64 b) ∧ w'.cell? ⟨w1.heap.size, 2, none⟩ = some (.int .i64 c)) (first | exact cc | exact kk | go_keep) (first | (go_at_call 124; refine (HDC.out _).mono ?_; rintro e w3 ⟨rfl, hb3⟩; have hT1 := HT.out.next hb3; have kk := hT1.five))
        all_goals go_wp2
        all_goals go_ret
        all_goals exact ⟨by rw [HKE.out]; rfl, hT1.2.2⟩
      · go_enter Try.func121, Try.ntmps121
        go_wp2_with fail
        rw [HW.out]
        refine (knowledgeOf_calls l v W HL.out).mono ?_
        rw [hq]
        rintro e w1 ⟨a, b, c, rfl, hla, hb1⟩
        unfold arr
        have hKn : Kn w (w1.alloc (.cells #[.int .i64 a, .int .i64 b, .int .i64 c] 106)) w1.heap.size a b c 1 s :=
          ⟨(hD.below hb1 hD.lt).alloc _, arrAt_new w1 a b c rfl, (hbW.trans (hb1.mono hbW.size)).alloc (Nat.le_trans hbW.size hb1.size) _⟩
        have HKE : Hid (kq = decide (s ≤ b)) := by
          show _ = _
          rw [HKQ.out]
          unfold knows
          rw [hq, hd, hla.out HK.out]
          rfl
        clear hb1
        go_wp2
        generalize w1.alloc (.cells #[.int .i64 a, .int .i64 b, .int .i64 c] 106) = w2 at *
        have cc := hKn.five
        obtain ⟨c0, c1, c2, c3, c4⟩ := hKn.five
        have HT : Hid (Kn w w2.drew w1.heap.size a b c 1 s) := ⟨hKn.1.drew, hKn.2.1.drew, hKn.2.2.drew⟩
        clear hKn
        go_region_held3 (fun w' => w'.cell? ⟨w.heap.size, 0, none⟩ = some (.int .i64 1) ∧ w'.cell? ⟨w.heap.size, 1, none⟩ = some (.int .i64 s) ∧ w'.cell? ⟨w1.heap.size, 0, none⟩ = some (.int .i64 a) ∧ w'.cell? ⟨w1.heap.size, 1, none⟩ = some (.int .i64 b) ∧ w'.cell? ⟨w1.heap.size, 2, none⟩ = some (.int .i64 c)) (first | exact cc | exact kk | go_keep) (first | (go_at_call 124; refine (HDC.out _).mono ?_; rintro e w3 ⟨rfl, hb3⟩; have hT1 := HT.out.next hb3; have kk := hT1.five))
        all_goals go_wp2
        all_goals go_ret
        all_goals exact ⟨by rw [HKE.out]; rfl, hT1.2.2⟩
      · go_enter Try.func121, Try.ntmps121
        go_wp2_with fail
        rw [HW.out]
        refine (knowledgeOf_calls l v W HL.out).mono ?_
        rw [hq]
        rintro e w1 ⟨a, b, c, rfl, hla, hb1⟩
        unfold arr
        have hKn : Kn w (w1.alloc (.cells #[.int .i64 a, .int .i64 b, .int .i64 c] 106)) w1.heap.size a b c 2 s :=
          ⟨(hD.below hb1 hD.lt).alloc _, arrAt_new w1 a b c rfl, (hbW.trans (hb1.mono hbW.size)).alloc (Nat.le_trans hbW.size hb1.size) _⟩
        have HKE : Hid (kq = decide (s ≤ c)) := by
          show _ = _
          rw [HKQ.out]
          unfold knows
          rw [hq, hd, hla.out HK.out]
          rfl
        clear hb1
        go_wp2
        generalize w1.alloc (.cells #[.int .i64 a, .int .i64 b, .int .i64 c] 106) = w2 at *
        have cc := hKn.five
        obtain ⟨c0, c1, c2, c3, c4⟩ := hKn.five
        have HT : Hid (Kn w w2.drew w1.heap.size a b c 2 s) := ⟨hKn.1.drew, hKn.2.1.drew, hKn.2.2.drew⟩
        clear hKn
        go_region_held3 (fun w' => w'.cell? ⟨w.heap.size, 0, none⟩ = some (.int .i64 2) ∧ w'.cell? ⟨w.heap.size, 1, none⟩ = some (.int .i64 s) ∧ w'.cell? ⟨w1.heap.size, 0, none⟩ = some (.int .i64 a) ∧ w'.cell? ⟨w1.heap.size, 1, none⟩ = some (.int .i64 b) ∧ w'.cell? ⟨w1.heap.size, 2, none⟩ = some (.int .i64 c)) (first | exact cc | exact kk | go_keep) (first | (go_at_call 124; refine (HDC.out _).mono ?_; rintro e w3 ⟨rfl, hb3⟩; have hT1 := HT.out.next hb3; have kk := hT1.five))
        all_goals go_wp2
        all_goals go_ret
        all_goals exact ⟨by rw [HKE.out]; rfl, hT1.2.2⟩

end Go.Proofs.Ytajihpcihlbjgaa
