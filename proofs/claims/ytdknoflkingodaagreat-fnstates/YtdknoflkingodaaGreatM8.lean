/- Two knowledges at once; what the program makes of them. Whether one knowledge is within another, and whether a dot is known, as the program tells it. Whether a dot is known, as the program tells it; a dot in a block of its own. -/
import Derived.ChangeKeysEq
import Derived.Test.YtdknoflkingodaaGreatM3
import Derived.Test.YtdknoflkingodaaGreatM5
import Derived.Test.YtdknoflkingodaaGreatM6
import Derived.Test.YtdknoflkingodaaGreatM7
namespace Go.Proofs.YtdknoflkingodaaGreat
set_option maxRecDepth 100000
set_option linter.unusedVariables false
open Go.RowKit
theorem knowledgeOf_calls (l : List Int) (v : Value) (w : World) (h : IntsAt w v l) :
  Calls Tryz.prog 195 #[v] w fun e w' => ∃ a b c, e = .returned (.tuple #[arr a b c, .bool (decide (KOk l))]) ∧ Hid (KOk l → l = [a, b, c]) ∧ Below w.heap.size w w' := by
 cases hk : decide (KOk l)
 ·refine (knowledgeOf_no l v w h hk).mono ?_
  rintro e w' ⟨rfl, hb⟩
  exact ⟨0, 0, 0, rfl, fun h => absurd h (of_decide_eq_false hk), hb⟩
 ·obtain ⟨a, b, c, rfl, -⟩ := (of_decide_eq_true hk).split
  refine (knowledgeOf_ok a b c v w h hk).mono ?_
  rintro e w' ⟨rfl, hb⟩
  exact ⟨a, b, c, rfl, fun _ => rfl, hb⟩
/-- The greatest of each, the least of each, whether each is within. -/
def kmax (l m : List Int) : List Int := if KOk l ∧ KOk m then List.zipWith mx l m else []
def kin (l m : List Int) : Bool := decide (KOk l) && decide (KOk m) && (List.zipWith (fun x y => decide (x ≤ y)) l m).all id
def knows (l : List Int) (r s : Int) : Bool := decide (KOk l) && decide (DOk r s) && decide (s ≤ l.getD r.toNat 0)
theorem own_none (w : World) (e : TypeId) (s : Nat) {g B : Nat} (hg : g = w.heap.size) (hB : B ≤ g) : (w.alloc (.cells #[] e)).ownsRow B e s (.slice (some ⟨g, 0, none⟩) 0 0) 0 [] := by
 subst hg
 exact ⟨by simp, .inr ⟨w.heap.size, 0, #[], rfl, hB, (MapKept.heap_alloc w _).1, Nat.le_refl _, Nat.zero_le _, by simp, by simp⟩⟩
theorem own_base {w : World} {b b' : Nat} {e : TypeId} {size : Nat} {v : Value} {n : Nat} {xs : List Value} (h : w.ownsRow b e size v n xs) (hb : b' ≤ b) : w.ownsRow b' e size v n xs := by
 refine ⟨h.1, ?_⟩
 rcases h.2 with h | ⟨g, cap, cur, h1, h2, h3⟩
 ·exact .inl h
 ·exact .inr ⟨g, cap, cur, h1, Nat.le_trans hb h2, h3⟩
set_option maxHeartbeats 400000 in
theorem knowNew_calls (w : World) : Calls Tryz.prog 81 #[] w fun r w' => ∃ x, r = .returned x ∧ w'.ownsRow w.heap.size 3 1 x 3 (intV [0, 0, 0]) ∧ Below w.heap.size w w' := by
 go_enter Tryz.func81, Tryz.ntmps81
 go_wp2_with fail
 refine (list_calls 0 0 0 _).mono ?_
 rintro r w3 ⟨x, rfl, ho3, hb3⟩
 have HO : Hid (w3.ownsRow w.heap.size 3 1 x 3 (intV [0, 0, 0])) := ho3
 have HB : Hid (Below w.heap.size w w3) := hb3
 clear ho3 hb3
 go_wp2
 go_ret
 exact ⟨_, rfl, HO.out, HB.out⟩
end Go.Proofs.YtdknoflkingodaaGreat
namespace Go.Proofs.YtdknoflkingodaaGreat
set_option maxRecDepth 100000
set_option linter.unusedVariables false
open Go.RowKit
theorem kin_ok {l m : List Int} {a b c d e f : Int} (h1 : KOk l) (h2 : KOk m) (e1 : l = [a, b, c]) (e2 : m = [d, e, f]) : kin l m = (decide (a ≤ d) && decide (b ≤ e) && decide (c ≤ f)) := by
 unfold kin
 rw [decide_eq_true h1, decide_eq_true h2]
 subst e1 e2
 simp [Bool.and_assoc]
end Go.Proofs.YtdknoflkingodaaGreat
namespace Go.Proofs.YtdknoflkingodaaGreat
set_option maxRecDepth 100000
set_option linter.unusedVariables false
open Go.RowKit
/-- A dot as a value, and in a block of its own. -/
def dot (r s : Int) : Value := .agg #[.int .i64 r, .int .i64 s]
def DotAt (w : World) (g : Nat) (r s : Int) : Prop := w.heap[g]? = some (.cells #[.int .i64 r, .int .i64 s] 33 (0, 0))
theorem DotAt.c0 {w : World} {g : Nat} {r s : Int} (h : DotAt w g r s) : w.cell? ⟨g, 0, none⟩ = some (.int .i64 r) := by unfold DotAt at h; simp [World.cell?, h]
theorem DotAt.c1 {w : World} {g : Nat} {r s : Int} (h : DotAt w g r s) : w.cell? ⟨g, 1, none⟩ = some (.int .i64 s) := by unfold DotAt at h; simp [World.cell?, h]
theorem DotAt.free {w : World} {g : Nat} {r s : Int} (h : DotAt w g r s) (i : Nat) : w.frozen? ⟨g, i, none⟩ = false := by unfold DotAt at h; simp [World.frozen?, h]
theorem DotAt.set0 {w : World} {g : Nat} {r s : Int} (h : DotAt w g r s) (x : Int) : DotAt (w.setCell ⟨g, 0, none⟩ (.int .i64 x)) g x s := by
 have hm : w.heap[g]? = _ := h
 unfold DotAt World.setCell
 simp [Array.getElem?_modify, hm]
theorem DotAt.set1 {w : World} {g : Nat} {r s : Int} (h : DotAt w g r s) (x : Int) : DotAt (w.setCell ⟨g, 1, none⟩ (.int .i64 x)) g r x := by
 have hm : w.heap[g]? = _ := h
 unfold DotAt World.setCell
 simp [Array.getElem?_modify, hm]
theorem DotAt.lt {w : World} {g : Nat} {r s : Int} (h : DotAt w g r s) : g < w.heap.size := (Array.getElem?_eq_some_iff.1 h).1
theorem DotAt.alloc {w : World} {g : Nat} {r s : Int} (h : DotAt w g r s) (o : Obj) : DotAt (w.alloc o) g r s := (Below.heap_alloc w o g h.lt).trans h
theorem DotAt.below {w w' : World} {g B : Nat} {r s : Int} (h : DotAt w g r s) (hb : Below B w w') (hB : g < B) : DotAt w' g r s := (hb.block g hB).trans h
theorem DotAt.drew {w : World} {g : Nat} {r s : Int} (h : DotAt w g r s) : DotAt w.drew g r s := h
theorem dotAt_new (w : World) (r s : Int) {g : Nat} (hg : g = w.heap.size) : DotAt (w.alloc (.cells #[.int .i64 r, .int .i64 s] 33)) g r s := by subst hg; exact (MapKept.heap_alloc w _).1
theorem ret_dot {fn : Func} {p : Tmp} (h : fn.results = #[.cell p 33]) {tmps : Array Value} {w : World} {g : Nat} {r s : Int} (hp : tmps.getD p undef = .pointer (some ⟨g, 0, none⟩)) (hg : DotAt w g r s) :
  (results fn tmps).run Tryz.prog w = .ok (dot r s) w := results_cell_row h tmps w g 33 _ (0, 0) _ hp hg Tryz.underlying33 rfl (by kernel_rfl)
theorem below_drewN {B : Nat} {a b : World} (h : Below B a b) (n : Nat) : Below B a (b.drewN n) := ⟨h.os, h.tape, h.output, h.size, h.block⟩
/-- What Knows holds: the dot, the array behind it. -/
def Kn (w w1 : World) (g : Nat) (a b c r s : Int) : Prop := DotAt w1 w.heap.size r s ∧ ArrAt w1 g a b c ∧ Below w.heap.size w w1
theorem Kn.next {w w1 w2 : World} {g : Nat} {a b c r s : Int} (h : Kn w w1 g a b c r s) (hb : Below w1.heap.size w1 w2) : Kn w w2 g a b c r s :=
 ⟨h.1.below hb h.1.lt, h.2.1.below hb h.2.1.lt, h.2.2.trans (hb.mono h.2.2.size)⟩
theorem Kn.five {w w1 : World} {g : Nat} {a b c r s : Int} (h : Kn w w1 g a b c r s) : w1.cell? ⟨w.heap.size, 0, none⟩ = some (.int .i64 r) ∧ w1.cell? ⟨w.heap.size, 1, none⟩ = some (.int .i64 s) ∧ w1.cell? ⟨g, 0, none⟩ = some (.int .i64 a) ∧ w1.cell? ⟨g, 1, none⟩ = some (.int .i64 b) ∧ w1.cell? ⟨g, 2, none⟩ = some (.int .i64 c) :=
 ⟨h.1.c0, h.1.c1, h.2.1.c0, h.2.1.c1, h.2.1.c2⟩
set_option maxHeartbeats 1600000 in
theorem knows_calls (l : List Int) (v : Value) (r s : Int) (w : World) (hl : IntsAt w v l) :
  Calls Tryz.prog 145 #[v, .agg #[.int .i64 r, .int .i64 s]] w fun q w' => q = .returned (.bool (knows l r s)) ∧ Below w.heap.size w w' := by
 obtain ⟨W, hW⟩ : ∃ W, W = w.alloc (.cells #[.int .i64 r, .int .i64 s] 33) := ⟨_, rfl⟩
 have hD : DotAt W w.heap.size r s := by rw [hW]; exact dotAt_new w r s rfl
 have hbW : Below w.heap.size w W := by rw [hW]; exact (Below.refl _ _).alloc (Nat.le_refl _) _
 have HL : Hid (IntsAt W v l) := by show IntsAt _ _ _; rw [hW]; exact hl.alloc _
 have HW : Hid (w.alloc (.cells #[.int .i64 r, .int .i64 s] 33) = W) := hW.symm
 have HDC : Hid (∀ wx, Calls Tryz.prog 114 #[.agg #[.int .i64 r, .int .i64 s]] wx fun e w' => e = .returned (.bool (decide (DOk r s))) ∧ Below wx.heap.size wx w') := fun wx => dotOk_calls r s wx
 clear hW hl
 cases hq : decide (KOk l)
 ·have hk : knows l r s = false := by unfold knows; rw [hq]; rfl
  rw [hk]
  clear hk
  go_enter Tryz.func145, Tryz.ntmps145
  go_wp2_with fail
  rw [HW.out]
  refine (knowledgeOf_calls l v W HL.out).mono ?_
  rw [hq]
  rintro e w1 ⟨a, b, c, rfl, hla, hb1⟩
  unfold arr
  have HB : Hid (Below w.heap.size w (w1.alloc (.cells #[.int .i64 a, .int .i64 b, .int .i64 c] 156))) := (hbW.trans (hb1.mono hbW.size)).alloc (Nat.le_trans hbW.size hb1.size) _
  clear hb1
  go_wp2
  go_quiet (fail)
  go_wp2
  go_ret
  exact ⟨rfl, below_drewN HB.out _⟩
 ·have HK : Hid (KOk l) := of_decide_eq_true (p := KOk l) hq
  cases hd : decide (DOk r s)
  ·have hk : knows l r s = false := by unfold knows; rw [hq, hd]; rfl
   rw [hk]
   rw [hd] at HDC
   clear hk
   go_enter Tryz.func145, Tryz.ntmps145
   go_wp2_with fail
   rw [HW.out]
   refine (knowledgeOf_calls l v W HL.out).mono ?_
   rw [hq]
   rintro e w1 ⟨a, b, c, rfl, hla, hb1⟩
   unfold arr
   have hKn : Kn w (w1.alloc (.cells #[.int .i64 a, .int .i64 b, .int .i64 c] 156)) w1.heap.size a b c r s :=
    ⟨(hD.below hb1 hD.lt).alloc _, arrAt_new w1 a b c rfl, (hbW.trans (hb1.mono hbW.size)).alloc (Nat.le_trans hbW.size hb1.size) _⟩
   clear hb1
   go_wp2
   generalize w1.alloc (.cells #[.int .i64 a, .int .i64 b, .int .i64 c] 156) = w2 at *
   have cc := hKn.five
   obtain ⟨c0, c1, c2, c3, c4⟩ := hKn.five
   have HT : Hid (Kn w w2.drew w1.heap.size a b c r s) := ⟨hKn.1.drew, hKn.2.1.drew, hKn.2.2.drew⟩
   clear hKn
   first
    | go_region_with (first | (go_at_call 114; refine (HDC.out _).mono ?_; rintro e w3 ⟨rfl, hb3⟩; have hT1 := HT.out.next hb3))
    | fail
   all_goals go_wp2
   all_goals go_ret
   all_goals exact ⟨rfl, hT1.2.2⟩
  ·have HD0 : Hid (DOk r s) := of_decide_eq_true (p := DOk r s) hd
   rw [hd] at HDC
   obtain ⟨kq, hkq⟩ : ∃ kq, kq = knows l r s := ⟨_, rfl⟩
   rw [← hkq]
   have HKQ : Hid (kq = knows l r s) := hkq
   clear hkq
   have hr : r = 0 ∨ r = 1 ∨ r = 2 := by have := HD0.out.1; have := HD0.out.2.1; omega
   rcases hr with rfl | rfl | rfl
   ·go_enter Tryz.func145, Tryz.ntmps145
    go_wp2_with fail
    rw [HW.out]
    refine (knowledgeOf_calls l v W HL.out).mono ?_
    rw [hq]
    rintro e w1 ⟨a, b, c, rfl, hla, hb1⟩
    unfold arr
    have hKn : Kn w (w1.alloc (.cells #[.int .i64 a, .int .i64 b, .int .i64 c] 156)) w1.heap.size a b c 0 s :=
     ⟨(hD.below hb1 hD.lt).alloc _, arrAt_new w1 a b c rfl, (hbW.trans (hb1.mono hbW.size)).alloc (Nat.le_trans hbW.size hb1.size) _⟩
    have HKE : Hid (kq = decide (s ≤ a)) := by
     show _ = _
     rw [HKQ.out]
     unfold knows
     rw [hq, hd, hla.out HK.out]
     rfl
    clear hb1
    go_wp2
    generalize w1.alloc (.cells #[.int .i64 a, .int .i64 b, .int .i64 c] 156) = w2 at *
    have cc := hKn.five
    obtain ⟨c0, c1, c2, c3, c4⟩ := hKn.five
    have HT : Hid (Kn w w2.drew w1.heap.size a b c 0 s) := ⟨hKn.1.drew, hKn.2.1.drew, hKn.2.2.drew⟩
    clear hKn
    go_region_held3 (fun w' => w'.cell? ⟨w.heap.size, 0, none⟩ = some (.int .i64 0) ∧ w'.cell? ⟨w.heap.size, 1, none⟩ = some (.int .i64 s) ∧ w'.cell? ⟨w1.heap.size, 0, none⟩ = some (.int .i64 a) ∧ w'.cell? ⟨w1.heap.size, 1, none⟩ = some (.int .i64 b) ∧ w'.cell? ⟨w1.heap.size, 2, none⟩ = some (.int .i64 c)) (first | exact cc | exact kk | go_keep) (first | (go_at_call 114; refine (HDC.out _).mono ?_; rintro e w3 ⟨rfl, hb3⟩; have hT1 := HT.out.next hb3; have kk := hT1.five))
    all_goals go_wp2
    all_goals go_ret
    all_goals exact ⟨by rw [HKE.out]; rfl, hT1.2.2⟩
   ·go_enter Tryz.func145, Tryz.ntmps145
    go_wp2_with fail
    rw [HW.out]
    refine (knowledgeOf_calls l v W HL.out).mono ?_
    rw [hq]
    rintro e w1 ⟨a, b, c, rfl, hla, hb1⟩
    unfold arr
    have hKn : Kn w (w1.alloc (.cells #[.int .i64 a, .int .i64 b, .int .i64 c] 156)) w1.heap.size a b c 1 s :=
     ⟨(hD.below hb1 hD.lt).alloc _, arrAt_new w1 a b c rfl, (hbW.trans (hb1.mono hbW.size)).alloc (Nat.le_trans hbW.size hb1.size) _⟩
    have HKE : Hid (kq = decide (s ≤ b)) := by
     show _ = _
     rw [HKQ.out]
     unfold knows
     rw [hq, hd, hla.out HK.out]
     rfl
    clear hb1
    go_wp2
    generalize w1.alloc (.cells #[.int .i64 a, .int .i64 b, .int .i64 c] 156) = w2 at *
    have cc := hKn.five
    obtain ⟨c0, c1, c2, c3, c4⟩ := hKn.five
    have HT : Hid (Kn w w2.drew w1.heap.size a b c 1 s) := ⟨hKn.1.drew, hKn.2.1.drew, hKn.2.2.drew⟩
    clear hKn
    go_region_held3 (fun w' => w'.cell? ⟨w.heap.size, 0, none⟩ = some (.int .i64 1) ∧ w'.cell? ⟨w.heap.size, 1, none⟩ = some (.int .i64 s) ∧ w'.cell? ⟨w1.heap.size, 0, none⟩ = some (.int .i64 a) ∧ w'.cell? ⟨w1.heap.size, 1, none⟩ = some (.int .i64 b) ∧ w'.cell? ⟨w1.heap.size, 2, none⟩ = some (.int .i64 c)) (first | exact cc | exact kk | go_keep) (first | (go_at_call 114; refine (HDC.out _).mono ?_; rintro e w3 ⟨rfl, hb3⟩; have hT1 := HT.out.next hb3; have kk := hT1.five))
    all_goals go_wp2
    all_goals go_ret
    all_goals exact ⟨by rw [HKE.out]; rfl, hT1.2.2⟩
   ·go_enter Tryz.func145, Tryz.ntmps145
    go_wp2_with fail
    rw [HW.out]
    refine (knowledgeOf_calls l v W HL.out).mono ?_
    rw [hq]
    rintro e w1 ⟨a, b, c, rfl, hla, hb1⟩
    unfold arr
    have hKn : Kn w (w1.alloc (.cells #[.int .i64 a, .int .i64 b, .int .i64 c] 156)) w1.heap.size a b c 2 s :=
     ⟨(hD.below hb1 hD.lt).alloc _, arrAt_new w1 a b c rfl, (hbW.trans (hb1.mono hbW.size)).alloc (Nat.le_trans hbW.size hb1.size) _⟩
    have HKE : Hid (kq = decide (s ≤ c)) := by
     show _ = _
     rw [HKQ.out]
     unfold knows
     rw [hq, hd, hla.out HK.out]
     rfl
    clear hb1
    go_wp2
    generalize w1.alloc (.cells #[.int .i64 a, .int .i64 b, .int .i64 c] 156) = w2 at *
    have cc := hKn.five
    obtain ⟨c0, c1, c2, c3, c4⟩ := hKn.five
    have HT : Hid (Kn w w2.drew w1.heap.size a b c 2 s) := ⟨hKn.1.drew, hKn.2.1.drew, hKn.2.2.drew⟩
    clear hKn
    go_region_held3 (fun w' => w'.cell? ⟨w.heap.size, 0, none⟩ = some (.int .i64 2) ∧ w'.cell? ⟨w.heap.size, 1, none⟩ = some (.int .i64 s) ∧ w'.cell? ⟨w1.heap.size, 0, none⟩ = some (.int .i64 a) ∧ w'.cell? ⟨w1.heap.size, 1, none⟩ = some (.int .i64 b) ∧ w'.cell? ⟨w1.heap.size, 2, none⟩ = some (.int .i64 c)) (first | exact cc | exact kk | go_keep) (first | (go_at_call 114; refine (HDC.out _).mono ?_; rintro e w3 ⟨rfl, hb3⟩; have hT1 := HT.out.next hb3; have kk := hT1.five))
    all_goals go_wp2
    all_goals go_ret
    all_goals exact ⟨by rw [HKE.out]; rfl, hT1.2.2⟩
end Go.Proofs.YtdknoflkingodaaGreat
