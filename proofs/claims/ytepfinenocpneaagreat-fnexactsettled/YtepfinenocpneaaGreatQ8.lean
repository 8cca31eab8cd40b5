/- Two knowledges at once; what the program makes of them. -/
import Derived.ChangeKeysEq
import Derived.Test.YtepfinenocpneaaGreatQ7
set_option maxHeartbeats 16000000
namespace Go.Proofs.YtepfinenocpneaaGreat
open Value (int)
open IntKind (i64)
set_option maxRecDepth 100000
set_option linter.unusedVariables false
open Go.RowKit
theorem JD (l : List Int) (v : Value) (w : World) (h : IntsAt w v l) :
  Calls Tryz.prog 118 #[v] w fun e w' => ∃ a b c, e = .returned (.tuple #[arr a b c, .bool (decide (KOk l))]) ∧ Hid (KOk l → l = [a, b, c]) ∧ Below w.heap.size w w' := by
 cases hk : decide (KOk l)
 ·refine (Uu l v w h hk).mono ?_
  rintro e w' ⟨rfl, hb⟩
  exact ⟨0, 0, 0, rfl, fun h => absurd h (of_decide_eq_false hk), hb⟩
 ·obtain ⟨a, b, c, rfl, -⟩ := (of_decide_eq_true hk).split
  refine (UC a b c v w h hk).mono ?_
  rintro e w' ⟨rfl, hb⟩
  exact ⟨a, b, c, rfl, fun _ => rfl, hb⟩
def Two (w wr : World) (a b c d e f : Int) : Prop := ArrAt wr w.heap.size a b c ∧ ArrAt wr (w.heap.size + 1) d e f ∧ Below w.heap.size w wr
theorem Two.next {w w1 w2 : World} {a b c d e f : Int} (h : Two w w1 a b c d e f) (hb : Below w1.heap.size w1 w2) : Two w w2 a b c d e f :=
 ⟨h.1.below hb h.1.lt, h.2.1.below hb h.2.1.lt, h.2.2.trans (hb.mono h.2.2.size)⟩
theorem Two.both {w wr : World} {a b c d e f : Int} (h : Two w wr 0 0 0 0 0 0) : Two w ((((((wr.setCell ⟨w.heap.size, 0, none⟩ (int i64 a)).setCell ⟨w.heap.size, 1, none⟩ (int i64 b)).setCell ⟨w.heap.size, 2, none⟩ (int i64 c)).setCell ⟨w.heap.size + 1, 0, none⟩ (int i64 d)).setCell ⟨w.heap.size + 1, 1, none⟩ (int i64 e)).setCell ⟨w.heap.size + 1, 2, none⟩ (int i64 f)) a b c d e f := by
 obtain ⟨h1, h2, h3⟩ := h
 refine ⟨?_, ?_, ?_⟩
 ·exact (((((h1.set0 a).set1 b).set2 c).other (p := ⟨w.heap.size + 1, 0, none⟩) (by simp) _).other (p := ⟨w.heap.size + 1, 1, none⟩) (by simp) _).other (p := ⟨w.heap.size + 1, 2, none⟩) (by simp) _
 ·exact (((((h2.other (p := ⟨w.heap.size, 0, none⟩) (by simp) _).other (p := ⟨w.heap.size, 1, none⟩) (by simp) _).other (p := ⟨w.heap.size, 2, none⟩) (by simp) _).set0 d).set1 e).set2 f
 ·exact (((((h3.setCell (p := ⟨w.heap.size, 0, none⟩) (Nat.le_refl _) _).setCell (p := ⟨w.heap.size, 1, none⟩) (Nat.le_refl _) _).setCell (p := ⟨w.heap.size, 2, none⟩) (Nat.le_refl _) _).setCell (p := ⟨w.heap.size + 1, 0, none⟩) (Nat.le_add_right _ 1) _).setCell (p := ⟨w.heap.size + 1, 1, none⟩) (Nat.le_add_right _ 1) _).setCell (p := ⟨w.heap.size + 1, 2, none⟩) (Nat.le_add_right _ 1) _
theorem Ux (l m : List Int) (u v : Value) (w : World) (hl : IntsAt w u l) (hm : IntsAt w v m) :
  Calls Tryz.prog 119 #[u, v] w fun r w' => ∃ a b c d e f, r = .returned (.tuple #[arr a b c, arr d e f, .bool (decide (KOk l) && decide (KOk m))]) ∧ Hid (KOk l → l = [a, b, c]) ∧ Hid (KOk m → m = [d, e, f]) ∧ Below w.heap.size w w' := by
 obtain ⟨W, hW⟩ : ∃ W, W = (w.alloc Zp).alloc Zp := ⟨_, rfl⟩
 have hT : Two w W 0 0 0 0 0 0 := by
  rw [hW]
  exact ⟨(Jz w 0 0 0 rfl).alloc _, Jz _ 0 0 0 (by simp), ((Below.refl _ _).alloc (Nat.le_refl _) _).alloc (by simp) _⟩
 have hl1 : Hid (IntsAt W u l) := by show IntsAt _ _ _; rw [hW]; exact (hl.alloc _).alloc _
 have hm1 : Hid (IntsAt W v m) := by show IntsAt _ _ _; rw [hW]; exact (hm.alloc _).alloc _
 have HW : Hid ((w.alloc (.cells #[int i64 0, int i64 0, int i64 0] 139)).alloc (.cells #[int i64 0, int i64 0, int i64 0] 139) = W) := hW.symm
 clear hW hl hm
 cases hq1 : decide (KOk l) <;> cases hq2 : decide (KOk m)
 all_goals
  go_enter Tryz.func119, Tryz.ntmps119
  go_wp2_with fail
  rw [HW.out]
  refine (JD l u W hl1.out).mono ?_
  rw [hq1]
  rintro r w1 ⟨a, b, c, rfl, hla, hb1⟩
  unfold arr
  have hm2 : Hid (IntsAt (w1.alloc (.cells #[int i64 a, int i64 b, int i64 c] 139)) v m) := (hm1.out.below hb1).alloc _
  have hA2 := Jz w1 a b c rfl
  have hT2 := (hT.next hb1).next ((Below.refl _ _).alloc (Nat.le_refl _) (.cells #[int i64 a, int i64 b, int i64 c] 139))
  go_wp2_with fail
  refine (JD m v _ hm2.out).mono ?_
  rw [hq2]
  rintro r w2 ⟨d, e, f, rfl, hmd, hb2⟩
  unfold arr
  have hA3 := (hA2.below hb2 hA2.lt).alloc (.cells #[int i64 d, int i64 e, int i64 f] 139)
  have hD3 := Jz w2 d e f rfl
  have hT3 := (hT2.next hb2).next ((Below.refl _ _).alloc (Nat.le_refl _) (.cells #[int i64 d, int i64 e, int i64 f] 139))
  have HT3 : Hid (Two w _ 0 0 0 0 0 0) := hT3
  have a0 := hA3.c0
  have a1 := hA3.c1
  have a2 := hA3.c2
  have d0 := hD3.c0
  have d1 := hD3.c1
  have d2 := hD3.c2
  have o0 := hT3.1.c0
  have o1 := hT3.1.c1
  have o2 := hT3.1.c2
  have of0 := hT3.1.free 0
  have of1 := hT3.1.free 1
  have of2 := hT3.1.free 2
  have p0 := hT3.2.1.c0
  have p1 := hT3.2.1.c1
  have p2 := hT3.2.1.c2
  have pf0 := hT3.2.1.free 0
  have pf1 := hT3.2.1.free 1
  have pf2 := hT3.2.1.free 2
  have s1 := (hT.next hb1).2.1.lt
  have s2 := hA2.lt
  have s3 := hb2.size
  have n1 : (w.heap.size = w1.heap.size) = False := by simp; omega
  have n2 : (w.heap.size + 1 = w1.heap.size) = False := by simp; omega
  have n3 : (w.heap.size = w2.heap.size) = False := by simp; omega
  have n4 : (w.heap.size + 1 = w2.heap.size) = False := by simp; omega
  have n5 : (w.heap.size = w.heap.size + 1) = False := by simp
  clear hT hT2 hT3 hA2 hA3 hD3 hb1 hb2 s1 s2 s3
  go_wp2
  generalize w2.alloc (.cells #[int i64 d, int i64 e, int i64 f] 139) = w3 at *
  go_big_region
  all_goals go_wp2
  all_goals exact bodyPost_ret (JcV rfl rfl rfl rfl (HT3.out.both (a := a) (b := b) (c := c) (d := d) (e := e) (f := f)).1.drew (HT3.out.both (a := a) (b := b) (c := c) (d := d) (e := e) (f := f)).2.1.drew) rfl ⟨a, b, c, d, e, f, rfl, hla, hmd, (HT3.out.both (a := a) (b := b) (c := c) (d := d) (e := e) (f := f)).2.2.drew⟩
def kin (l m : List Int) : Bool := decide (KOk l) && decide (KOk m) && (List.zipWith (fun x y => decide (x ≤ y)) l m).all id
def Jf (l : List Int) (r s : Int) : Bool := decide (KOk l) && decide (DOk r s) && decide (s ≤ l.getD r.toNat 0)
def Jem (w wr : World) (g : Nat) (a b c d e f : Int) : Prop := ArrAt wr g a b c ∧ ArrAt wr (g + 1) d e f ∧ Below w.heap.size w wr ∧ w.heap.size ≤ g
theorem Jaf {w w1 : World} (hb : Below w.heap.size w w1) (a b c d e f : Int) : Jem w ((w1.alloc (.cells #[int i64 a, int i64 b, int i64 c] 139)).alloc (.cells #[int i64 d, int i64 e, int i64 f] 139)) w1.heap.size a b c d e f :=
 ⟨(Jz w1 a b c rfl).alloc _, Jz _ d e f (by simp), (hb.alloc hb.size _).alloc (by simp; exact Nat.le_succ_of_le hb.size) _, hb.size⟩
theorem JaY {w w1 : World} {g : Nat} {a b c d e f : Int} (h : Jem w w1 g a b c d e f) : (w1.cell? ⟨g, 0, none⟩ = some (int i64 a) ∧ w1.cell? ⟨g, 1, none⟩ = some (int i64 b) ∧ w1.cell? ⟨g, 2, none⟩ = some (int i64 c)) ∧ (w1.cell? ⟨g + 1, 0, none⟩ = some (int i64 d) ∧ w1.cell? ⟨g + 1, 1, none⟩ = some (int i64 e) ∧ w1.cell? ⟨g + 1, 2, none⟩ = some (int i64 f)) :=
 ⟨⟨h.1.c0, h.1.c1, h.1.c2⟩, ⟨h.2.1.c0, h.2.1.c1, h.2.1.c2⟩⟩
theorem J1 (w : World) (e : TypeId) (s : Nat) {g B : Nat} (hg : g = w.heap.size) (hB : B ≤ g) : (w.alloc (.cells #[] e)).ownsRow B e s (.slice (some ⟨g, 0, none⟩) 0 0) 0 [] := by
 subst hg
 exact ⟨by simp, .inr ⟨w.heap.size, 0, #[], rfl, hB, (MapKept.heap_alloc w _).1, Nat.le_refl _, Nat.zero_le _, by simp, by simp⟩⟩
theorem Jk {w : World} {b b' : Nat} {e : TypeId} {size : Nat} {v : Value} {n : Nat} {xs : List Value} (h : w.ownsRow b e size v n xs) (hb : b' ≤ b) : w.ownsRow b' e size v n xs := by
 refine ⟨h.1, ?_⟩
 rcases h.2 with h | ⟨g, cap, cur, h1, h2, h3⟩
 ·exact .inl h
 ·exact .inr ⟨g, cap, cur, h1, Nat.le_trans hb h2, h3⟩
theorem Vu (w : World) : Calls Tryz.prog 67 #[] w fun r w' => ∃ x, r = .returned x ∧ w'.ownsRow w.heap.size 3 1 x 3 (Je [0, 0, 0]) ∧ Below w.heap.size w w' := by
 go_enter Tryz.func67, Tryz.ntmps67
 go_wp2_with fail
 refine (Ja3 0 0 0 _).mono ?_
 rintro r w3 ⟨x, rfl, ho3, hb3⟩
 have HO : Hid (w3.ownsRow w.heap.size 3 1 x 3 (Je [0, 0, 0])) := ho3
 have HB : Hid (Below w.heap.size w w3) := hb3
 clear ho3 hb3
 go_wp2
 go_ret
 exact ⟨_, rfl, HO.out, HB.out⟩
theorem Jdr : ∃ i, Tryz.prog.info? 3 = some i := by
 obtain ⟨i0, hi, -⟩ := info_parts Zo
 exact ⟨i0, hi⟩
theorem JbT : Tryz.prog.eqGuardType Tryz.prog.depth 139 = false := by kernel_rfl
theorem Ja6 (a b c d e f : Int) (w : World) : (Op.equalIn 10000 139 (.agg #[int i64 a, int i64 b, int i64 c]) (.agg #[int i64 d, int i64 e, int i64 f])).run Tryz.prog w = .ok (decide (a = d) && decide (b = e) && decide (c = f)) w := by
 obtain ⟨i, hi⟩ := Jdr
 have hc : Tryz.prog.cellsOf 3 = 1 := by kernel_rfl
 rw [run_equalIn_array w 9999 _ _ Tryz.underlying139 hi, hc]
 by_cases h1 : a = d <;> by_cases h2 : b = e <;> by_cases h3 : c = f <;> simp [List.range, List.range.loop, Op.eqItems, go_sem, h1, h2, h3]
theorem JcJ (a d : Int) : decide (mx a d = d) = decide (a ≤ d) := by
 unfold mx; by_cases h : a < d
 ·rw [if_pos h]; simp; omega
 ·rw [if_neg h]; rw [decide_eq_decide]; omega
def JiQ (w : World) (g k : Nat) (a b c d e f : Int) : Prop := w.cell? ⟨g, 0, none⟩ = some (int i64 a) ∧ w.cell? ⟨g, 1, none⟩ = some (int i64 b) ∧ w.cell? ⟨g, 2, none⟩ = some (int i64 c) ∧ w.cell? ⟨k, 0, none⟩ = some (int i64 d) ∧ w.cell? ⟨k, 1, none⟩ = some (int i64 e) ∧ w.cell? ⟨k, 2, none⟩ = some (int i64 f)
theorem Two.six {w w1 : World} {a b c d e f : Int} (h : Two w w1 a b c d e f) : JiQ w1 w.heap.size (w.heap.size + 1) a b c d e f :=
 ⟨h.1.c0, h.1.c1, h.1.c2, h.2.1.c0, h.2.1.c1, h.2.1.c2⟩
theorem YF (a b c d e f : Int) (w : World) :
  Calls Tryz.prog 120 #[arr a b c, arr d e f] w fun r w' => r = .returned (.bool (decide (a ≤ d) && decide (b ≤ e) && decide (c ≤ f))) ∧ Below w.heap.size w w' := by
 obtain ⟨W, hW⟩ : ∃ W, W = (w.alloc (.cells #[int i64 a, int i64 b, int i64 c] 139)).alloc (.cells #[int i64 d, int i64 e, int i64 f] 139) := ⟨_, rfl⟩
 have hT : Two w W a b c d e f := by
  rw [hW]
  exact ⟨(Jz w a b c rfl).alloc _, Jz _ d e f (by simp), ((Below.refl _ _).alloc (Nat.le_refl _) _).alloc (by simp) _⟩
 have HW : Hid ((w.alloc (.cells #[int i64 a, int i64 b, int i64 c] 139)).alloc (.cells #[int i64 d, int i64 e, int i64 f] 139) = W) := hW.symm
 clear hW
 have HQ : Hid ((decide (mx a d = d) && decide (mx b e = e) && decide (mx c f = f)) = (decide (a ≤ d) && decide (b ≤ e) && decide (c ≤ f))) := by
  show _ = _
  rw [JcJ, JcJ, JcJ]
 obtain ⟨q, hq⟩ : ∃ q, q = (decide (a ≤ d) && decide (b ≤ e) && decide (c ≤ f)) := ⟨_, rfl⟩
 rw [← hq] at HQ ⊢
 clear hq
 have heq := Ja6 (mx a d) (mx b e) (mx c f) d e f
 rw [HQ.out] at heq
 have hgd := JbT
 have cc := hT.six
 obtain ⟨c0, c1, c2, d0, d1, d2⟩ := hT.six
 have HT : Hid (Two w W.drew a b c d e f) := ⟨hT.1.drew, hT.2.1.drew, hT.2.2.drew⟩
 have HC : Hid (∀ wx, Calls Tryz.prog 138 #[.agg #[int i64 a, int i64 b, int i64 c], .agg #[int i64 d, int i64 e, int i64 f]] wx fun r w' => r = .returned (.agg #[int i64 (mx a d), int i64 (mx b e), int i64 (mx c f)]) ∧ Below wx.heap.size wx w') := fun wx => Jbe a b c d e f wx
 clear hT
 unfold arr
 go_enter Tryz.func120, Tryz.ntmps120
 go_wp2
 rw [HW.out]
 go_region_held3 (fun w' => w'.cell? ⟨w.heap.size, 0, none⟩ = some (int i64 a) ∧ w'.cell? ⟨w.heap.size, 1, none⟩ = some (int i64 b) ∧ w'.cell? ⟨w.heap.size, 2, none⟩ = some (int i64 c) ∧ w'.cell? ⟨w.heap.size + 1, 0, none⟩ = some (int i64 d) ∧ w'.cell? ⟨w.heap.size + 1, 1, none⟩ = some (int i64 e) ∧ w'.cell? ⟨w.heap.size + 1, 2, none⟩ = some (int i64 f)) (first | exact cc | exact kk | go_keep) (first | (go_at_call 138; refine (HC.out _).mono ?_; rintro r w1 ⟨rfl, hb1⟩; have hT1 := HT.out.next hb1; have kk := hT1.six))
 all_goals go_wp2
 all_goals go_ret
 all_goals exact ⟨rfl, hT1.2.2⟩
theorem YS {l m : List Int} {a b c d e f : Int} (h1 : KOk l) (h2 : KOk m) (e1 : l = [a, b, c]) (e2 : m = [d, e, f]) : kin l m = (decide (a ≤ d) && decide (b ≤ e) && decide (c ≤ f)) := by
 unfold kin
 rw [decide_eq_true h1, decide_eq_true h2]
 subst e1 e2
 simp [Bool.and_assoc]
theorem YB (l m : List Int) (u v : Value) (w : World) (hl : IntsAt w u l) (hm : IntsAt w v m) :
  Calls Tryz.prog 70 #[u, v] w fun r w' => r = .returned (.bool (kin l m)) ∧ Below w.heap.size w w' := by
 have HL : Hid (IntsAt w u l) := hl
 have HM : Hid (IntsAt w v m) := hm
 clear hl hm
 cases hq : (decide (KOk l) && decide (KOk m))
 ·have hk : kin l m = false := by
   unfold kin; rw [hq]; rfl
  rw [hk]
  clear hk
  go_enter Tryz.func70, Tryz.ntmps70
  go_wp2_with fail
  refine (Ux l m u v w HL.out HM.out).mono ?_
  rw [hq]
  rintro r w1 ⟨a, b, c, d, e, f, rfl, hla, hmd, hb1⟩
  unfold arr
  have HP : Hid (Jem w _ _ a b c d e f) := Jaf hb1 a b c d e f
  clear hb1
  go_wp2
  go_ret
  exact ⟨rfl, HP.out.2.2.1⟩
 ·have hk1 : KOk l := by cases h : decide (KOk l) <;> simp [h] at hq; exact of_decide_eq_true h
  have hk2 : KOk m := by cases h : decide (KOk m) <;> simp [h] at hq; exact of_decide_eq_true h
  have HK1 : Hid (KOk l) := hk1
  have HK2 : Hid (KOk m) := hk2
  clear hk1 hk2
  go_enter Tryz.func70, Tryz.ntmps70
  go_wp2_with fail
  refine (Ux l m u v w HL.out HM.out).mono ?_
  rw [hq]
  rintro r w1 ⟨a, b, c, d, e, f, rfl, hla, hmd, hb1⟩
  unfold arr
  have hP := Jaf hb1 a b c d e f
  have HP : Hid (Jem w _ _ a b c d e f) := hP
  obtain ⟨⟨c0, c1, c2⟩, d0, d1, d2⟩ := JaY hP
  have HKI : Hid (kin l m = (decide (a ≤ d) && decide (b ≤ e) && decide (c ≤ f))) := YS HK1.out HK2.out (hla.out HK1.out) (hmd.out HK2.out)
  clear hb1 hP
  go_wp2_with fail
  refine (YF a b c d e f _).mono ?_
  rintro r w2 ⟨rfl, hb2⟩
  rw [← HKI.out]
  have HB2 : Hid (Below w.heap.size w w2) := HP.out.2.2.1.trans (hb2.mono HP.out.2.2.1.size)
  clear hb2
  go_wp2
  go_ret
  exact ⟨rfl, HB2.out⟩
def dot (r s : Int) : Value := .agg #[int i64 r, int i64 s]
def DotAt (w : World) (g : Nat) (r s : Int) : Prop := w.heap[g]? = some (.cells #[int i64 r, int i64 s] 42 (0, 0))
theorem DotAt.c0 {w : World} {g : Nat} {r s : Int} (h : DotAt w g r s) : w.cell? ⟨g, 0, none⟩ = some (int i64 r) := by unfold DotAt at h; simp [World.cell?, h]
theorem DotAt.c1 {w : World} {g : Nat} {r s : Int} (h : DotAt w g r s) : w.cell? ⟨g, 1, none⟩ = some (int i64 s) := by unfold DotAt at h; simp [World.cell?, h]
theorem DotAt.lt {w : World} {g : Nat} {r s : Int} (h : DotAt w g r s) : g < w.heap.size := (Array.getElem?_eq_some_iff.1 h).1
theorem DotAt.alloc {w : World} {g : Nat} {r s : Int} (h : DotAt w g r s) (o : Obj) : DotAt (w.alloc o) g r s := (Below.heap_alloc w o g h.lt).trans h
theorem DotAt.below {w w' : World} {g B : Nat} {r s : Int} (h : DotAt w g r s) (hb : Below B w w') (hB : g < B) : DotAt w' g r s := (hb.block g hB).trans h
theorem DotAt.drew {w : World} {g : Nat} {r s : Int} (h : DotAt w g r s) : DotAt w.drew g r s := h
theorem GG (w : World) (r s : Int) {g : Nat} (hg : g = w.heap.size) : DotAt (w.alloc (.cells #[int i64 r, int i64 s] 42)) g r s := by subst hg; exact (MapKept.heap_alloc w _).1
theorem Jen {fn : Func} {p : Tmp} (h : fn.results = #[.cell p 42]) {tmps : Array Value} {w : World} {g : Nat} {r s : Int} (hp : tmps.getD p undef = .pointer (some ⟨g, 0, none⟩)) (hg : DotAt w g r s) :
  (results fn tmps).run Tryz.prog w = .ok (dot r s) w := results_cell_row h tmps w g 42 _ (0, 0) _ hp hg Tryz.underlying42 rfl (by kernel_rfl)
theorem Ji {B : Nat} {a b : World} (h : Below B a b) (n : Nat) : Below B a (b.drewN n) := ⟨h.os, h.tape, h.output, h.size, h.block⟩
def Kn (w w1 : World) (g : Nat) (a b c r s : Int) : Prop := DotAt w1 w.heap.size r s ∧ ArrAt w1 g a b c ∧ Below w.heap.size w w1
theorem Kn.next {w w1 w2 : World} {g : Nat} {a b c r s : Int} (h : Kn w w1 g a b c r s) (hb : Below w1.heap.size w1 w2) : Kn w w2 g a b c r s :=
 ⟨h.1.below hb h.1.lt, h.2.1.below hb h.2.1.lt, h.2.2.trans (hb.mono h.2.2.size)⟩
theorem Kn.five {w w1 : World} {g : Nat} {a b c r s : Int} (h : Kn w w1 g a b c r s) : w1.cell? ⟨w.heap.size, 0, none⟩ = some (int i64 r) ∧ w1.cell? ⟨w.heap.size, 1, none⟩ = some (int i64 s) ∧ w1.cell? ⟨g, 0, none⟩ = some (int i64 a) ∧ w1.cell? ⟨g, 1, none⟩ = some (int i64 b) ∧ w1.cell? ⟨g, 2, none⟩ = some (int i64 c) :=
 ⟨h.1.c0, h.1.c1, h.2.1.c0, h.2.1.c1, h.2.1.c2⟩
theorem Ki (l : List Int) (v : Value) (r s : Int) (w : World) (hl : IntsAt w v l) :
  Calls Tryz.prog 69 #[v, .agg #[int i64 r, int i64 s]] w fun q w' => q = .returned (.bool (Jf l r s)) ∧ Below w.heap.size w w' := by
 obtain ⟨W, hW⟩ : ∃ W, W = w.alloc (.cells #[int i64 r, int i64 s] 42) := ⟨_, rfl⟩
 have hD : DotAt W w.heap.size r s := by rw [hW]; exact GG w r s rfl
 have hbW : Below w.heap.size w W := by rw [hW]; exact (Below.refl _ _).alloc (Nat.le_refl _) _
 have HL : Hid (IntsAt W v l) := by show IntsAt _ _ _; rw [hW]; exact hl.alloc _
 have HW : Hid (w.alloc (.cells #[int i64 r, int i64 s] 42) = W) := hW.symm
 have HDC : Hid (∀ wx, Calls Tryz.prog 111 #[.agg #[int i64 r, int i64 s]] wx fun e w' => e = .returned (.bool (decide (DOk r s))) ∧ Below wx.heap.size wx w') := fun wx => Zu r s wx
 clear hW hl
 cases hq : decide (KOk l)
 ·have hk : Jf l r s = false := by unfold Jf; rw [hq]; rfl
  rw [hk]
  clear hk
  go_enter Tryz.func69, Tryz.ntmps69
  go_wp2_with fail
  rw [HW.out]
  refine (JD l v W HL.out).mono ?_
  rw [hq]
  rintro e w1 ⟨a, b, c, rfl, hla, hb1⟩
  unfold arr
  have HB : Hid (Below w.heap.size w (w1.alloc (.cells #[int i64 a, int i64 b, int i64 c] 139))) := (hbW.trans (hb1.mono hbW.size)).alloc (Nat.le_trans hbW.size hb1.size) _
  clear hb1
  go_wp2
  go_quiet (fail)
  go_wp2
  go_ret
  exact ⟨rfl, Ji HB.out _⟩
 ·have HK : Hid (KOk l) := of_decide_eq_true (p := KOk l) hq
  cases hd : decide (DOk r s)
  ·have hk : Jf l r s = false := by unfold Jf; rw [hq, hd]; rfl
   rw [hk]
   rw [hd] at HDC
   clear hk
   go_enter Tryz.func69, Tryz.ntmps69
   go_wp2_with fail
   rw [HW.out]
   refine (JD l v W HL.out).mono ?_
   rw [hq]
   rintro e w1 ⟨a, b, c, rfl, hla, hb1⟩
   unfold arr
   have hKn : Kn w (w1.alloc (.cells #[int i64 a, int i64 b, int i64 c] 139)) w1.heap.size a b c r s :=
    ⟨(hD.below hb1 hD.lt).alloc _, Jz w1 a b c rfl, (hbW.trans (hb1.mono hbW.size)).alloc (Nat.le_trans hbW.size hb1.size) _⟩
   clear hb1
   go_wp2
   generalize w1.alloc (.cells #[int i64 a, int i64 b, int i64 c] 139) = w2 at *
   have cc := hKn.five
   obtain ⟨c0, c1, c2, c3, c4⟩ := hKn.five
   have HT : Hid (Kn w w2.drew w1.heap.size a b c r s) := ⟨hKn.1.drew, hKn.2.1.drew, hKn.2.2.drew⟩
   clear hKn
   first
    | go_region_with (first | (go_at_call 111; refine (HDC.out _).mono ?_; rintro e w3 ⟨rfl, hb3⟩; have hT1 := HT.out.next hb3))
    | fail
   all_goals go_wp2
   all_goals go_ret
   all_goals exact ⟨rfl, hT1.2.2⟩
  ·have HD0 : Hid (DOk r s) := of_decide_eq_true (p := DOk r s) hd
   rw [hd] at HDC
   obtain ⟨kq, hkq⟩ : ∃ kq, kq = Jf l r s := ⟨_, rfl⟩
   rw [← hkq]
   have HKQ : Hid (kq = Jf l r s) := hkq
   clear hkq
   have hr : r = 0 ∨ r = 1 ∨ r = 2 := by have := HD0.out.1; have := HD0.out.2.1; omega
   rcases hr with rfl | rfl | rfl
   ·go_enter Tryz.func69, Tryz.ntmps69
    go_wp2_with fail
    rw [HW.out]
    refine (JD l v W HL.out).mono ?_
    rw [hq]
    rintro e w1 ⟨a, b, c, rfl, hla, hb1⟩
    unfold arr
    have hKn : Kn w (w1.alloc (.cells #[int i64 a, int i64 b, int i64 c] 139)) w1.heap.size a b c 0 s :=
     ⟨(hD.below hb1 hD.lt).alloc _, Jz w1 a b c rfl, (hbW.trans (hb1.mono hbW.size)).alloc (Nat.le_trans hbW.size hb1.size) _⟩
    have HKE : Hid (kq = decide (s ≤ a)) := by
     show _ = _
     rw [HKQ.out]
     unfold Jf
     rw [hq, hd, hla.out HK.out]
     rfl
    clear hb1
    go_wp2
    generalize w1.alloc (.cells #[int i64 a, int i64 b, int i64 c] 139) = w2 at *
    have cc := hKn.five
    obtain ⟨c0, c1, c2, c3, c4⟩ := hKn.five
    have HT : Hid (Kn w w2.drew w1.heap.size a b c 0 s) := ⟨hKn.1.drew, hKn.2.1.drew, hKn.2.2.drew⟩
    clear hKn
    go_region_held3 (fun w' => w'.cell? ⟨w.heap.size, 0, none⟩ = some (int i64 0) ∧ w'.cell? ⟨w.heap.size, 1, none⟩ = some (int i64 s) ∧ w'.cell? ⟨w1.heap.size, 0, none⟩ = some (int i64 a) ∧ w'.cell? ⟨w1.heap.size, 1, none⟩ = some (int i64 b) ∧ w'.cell? ⟨w1.heap.size, 2, none⟩ = some (int i64 c)) (first | exact cc | exact kk | go_keep) (first | (go_at_call 111; refine (HDC.out _).mono ?_; rintro e w3 ⟨rfl, hb3⟩; have hT1 := HT.out.next hb3; have kk := hT1.five))
    all_goals go_wp2
    all_goals go_ret
    all_goals exact ⟨by rw [HKE.out]; rfl, hT1.2.2⟩
   ·go_enter Tryz.func69, Tryz.ntmps69
    go_wp2_with fail
    rw [HW.out]
    refine (JD l v W HL.out).mono ?_
    rw [hq]
    rintro e w1 ⟨a, b, c, rfl, hla, hb1⟩
    unfold arr
    have hKn : Kn w (w1.alloc (.cells #[int i64 a, int i64 b, int i64 c] 139)) w1.heap.size a b c 1 s :=
     ⟨(hD.below hb1 hD.lt).alloc _, Jz w1 a b c rfl, (hbW.trans (hb1.mono hbW.size)).alloc (Nat.le_trans hbW.size hb1.size) _⟩
    have HKE : Hid (kq = decide (s ≤ b)) := by
     show _ = _
     rw [HKQ.out]
     unfold Jf
     rw [hq, hd, hla.out HK.out]
     rfl
    clear hb1
    go_wp2
    generalize w1.alloc (.cells #[int i64 a, int i64 b, int i64 c] 139) = w2 at *
    have cc := hKn.five
    obtain ⟨c0, c1, c2, c3, c4⟩ := hKn.five
    have HT : Hid (Kn w w2.drew w1.heap.size a b c 1 s) := ⟨hKn.1.drew, hKn.2.1.drew, hKn.2.2.drew⟩
    clear hKn
    go_region_held3 (fun w' => w'.cell? ⟨w.heap.size, 0, none⟩ = some (int i64 1) ∧ w'.cell? ⟨w.heap.size, 1, none⟩ = some (int i64 s) ∧ w'.cell? ⟨w1.heap.size, 0, none⟩ = some (int i64 a) ∧ w'.cell? ⟨w1.heap.size, 1, none⟩ = some (int i64 b) ∧ w'.cell? ⟨w1.heap.size, 2, none⟩ = some (int i64 c)) (first | exact cc | exact kk | go_keep) (first | (go_at_call 111; refine (HDC.out _).mono ?_; rintro e w3 ⟨rfl, hb3⟩; have hT1 := HT.out.next hb3; have kk := hT1.five))
    all_goals go_wp2
    all_goals go_ret
    all_goals exact ⟨by rw [HKE.out]; rfl, hT1.2.2⟩
   ·go_enter Tryz.func69, Tryz.ntmps69
    go_wp2_with fail
    rw [HW.out]
    refine (JD l v W HL.out).mono ?_
    rw [hq]
    rintro e w1 ⟨a, b, c, rfl, hla, hb1⟩
    unfold arr
    have hKn : Kn w (w1.alloc (.cells #[int i64 a, int i64 b, int i64 c] 139)) w1.heap.size a b c 2 s :=
     ⟨(hD.below hb1 hD.lt).alloc _, Jz w1 a b c rfl, (hbW.trans (hb1.mono hbW.size)).alloc (Nat.le_trans hbW.size hb1.size) _⟩
    have HKE : Hid (kq = decide (s ≤ c)) := by
     show _ = _
     rw [HKQ.out]
     unfold Jf
     rw [hq, hd, hla.out HK.out]
     rfl
    clear hb1
    go_wp2
    generalize w1.alloc (.cells #[int i64 a, int i64 b, int i64 c] 139) = w2 at *
    have cc := hKn.five
    obtain ⟨c0, c1, c2, c3, c4⟩ := hKn.five
    have HT : Hid (Kn w w2.drew w1.heap.size a b c 2 s) := ⟨hKn.1.drew, hKn.2.1.drew, hKn.2.2.drew⟩
    clear hKn
    go_region_held3 (fun w' => w'.cell? ⟨w.heap.size, 0, none⟩ = some (int i64 2) ∧ w'.cell? ⟨w.heap.size, 1, none⟩ = some (int i64 s) ∧ w'.cell? ⟨w1.heap.size, 0, none⟩ = some (int i64 a) ∧ w'.cell? ⟨w1.heap.size, 1, none⟩ = some (int i64 b) ∧ w'.cell? ⟨w1.heap.size, 2, none⟩ = some (int i64 c)) (first | exact cc | exact kk | go_keep) (first | (go_at_call 111; refine (HDC.out _).mono ?_; rintro e w3 ⟨rfl, hb3⟩; have hT1 := HT.out.next hb3; have kk := hT1.five))
    all_goals go_wp2
    all_goals go_ret
    all_goals exact ⟨by rw [HKE.out]; rfl, hT1.2.2⟩
end Go.Proofs.YtepfinenocpneaaGreat
