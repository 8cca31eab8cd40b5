/- Two knowledges at once; what the program makes of them. -/
import Derived.Test.YtpojipiagnbgjaaKArr
import Derived.ChangeKeysEq
namespace Go.Proofs.Ytpojipiagnbgjaa
open Go.RowKit

theorem knowledgeOf_calls (l : List Int) (v : Value) (w : World) (h : IntsAt w v l) :
    Calls Try.prog 50 #[v] w fun e w' => ∃ a b c, e = .returned (.tuple #[arr a b c, .bool (decide (KOk l))]) ∧ Hid (KOk l → l = [a, b, c]) ∧ Below w.heap.size w w' := by
  cases hk : decide (KOk l)
  · refine (knowledgeOf_no l v w h hk).mono ?_
    rintro e w' ⟨rfl, hb⟩
    exact ⟨0, 0, 0, rfl, fun h => absurd h (of_decide_eq_false hk), hb⟩
  · obtain ⟨a, b, c, rfl, -⟩ := (of_decide_eq_true hk).split
    refine (knowledgeOf_ok a b c v w h hk).mono ?_
    rintro e w' ⟨rfl, hb⟩
    exact ⟨a, b, c, rfl, fun _ => rfl, hb⟩

/-- Two arrays that were made, in a world. -/
def Two (w wr : World) (a b c d e f : Int) : Prop := ArrAt wr w.heap.size a b c ∧ ArrAt wr (w.heap.size + 1) d e f ∧ Below w.heap.size w wr
theorem Two.next {w w1 w2 : World} {a b c d e f : Int} (h : Two w w1 a b c d e f) (hb : Below w1.heap.size w1 w2) : Two w w2 a b c d e f :=
  ⟨h.1.below hb h.1.lt, h.2.1.below hb h.2.1.lt, h.2.2.trans (hb.mono h.2.2.size)⟩
theorem Two.both {w wr : World} {a b c d e f : Int} (h : Two w wr 0 0 0 0 0 0) : Two w ((((((wr.setCell ⟨w.heap.size, 0, none⟩ (.int .i64 a)).setCell ⟨w.heap.size, 1, none⟩ (.int .i64 b)).setCell ⟨w.heap.size, 2, none⟩ (.int .i64 c)).setCell ⟨w.heap.size + 1, 0, none⟩ (.int .i64 d)).setCell ⟨w.heap.size + 1, 1, none⟩ (.int .i64 e)).setCell ⟨w.heap.size + 1, 2, none⟩ (.int .i64 f)) a b c d e f := by
  obtain ⟨h1, h2, h3⟩ := h
  refine ⟨?_, ?_, ?_⟩
  · exact (((((h1.set0 a).set1 b).set2 c).other (p := ⟨w.heap.size + 1, 0, none⟩) (by simp) _).other (p := ⟨w.heap.size + 1, 1, none⟩) (by simp) _).other (p := ⟨w.heap.size + 1, 2, none⟩) (by simp) _
  · exact (((((h2.other (p := ⟨w.heap.size, 0, none⟩) (by simp) _).other (p := ⟨w.heap.size, 1, none⟩) (by simp) _).other (p := ⟨w.heap.size, 2, none⟩) (by simp) _).set0 d).set1 e).set2 f
  · exact (((((h3.setCell (p := ⟨w.heap.size, 0, none⟩) (Nat.le_refl _) _).setCell (p := ⟨w.heap.size, 1, none⟩) (Nat.le_refl _) _).setCell (p := ⟨w.heap.size, 2, none⟩) (Nat.le_refl _) _).setCell (p := ⟨w.heap.size + 1, 0, none⟩) (Nat.le_add_right _ 1) _).setCell (p := ⟨w.heap.size + 1, 1, none⟩) (Nat.le_add_right _ 1) _).setCell (p := ⟨w.heap.size + 1, 2, none⟩) (Nat.le_add_right _ 1) _

set_option maxHeartbeats 1600000 in
theorem both_calls (l m : List Int) (u v : Value) (w : World) (hl : IntsAt w u l) (hm : IntsAt w v m) :
    Calls Try.prog 45 #[u, v] w fun r w' => ∃ a b c d e f, r = .returned (.tuple #[arr a b c, arr d e f, .bool (decide (KOk l) && decide (KOk m))]) ∧ Hid (KOk l → l = [a, b, c]) ∧ Hid (KOk m → m = [d, e, f]) ∧ Below w.heap.size w w' := by
  obtain ⟨W, hW⟩ : ∃ W, W = (w.alloc zeroArr).alloc zeroArr := ⟨_, rfl⟩
  have hT : Two w W 0 0 0 0 0 0 := by
    rw [hW]
    exact ⟨(arrAt_new w 0 0 0 rfl).alloc _, arrAt_new _ 0 0 0 (by simp), ((Below.refl _ _).alloc (Nat.le_refl _) _).alloc (by simp) _⟩
  have hl1 : Hid (IntsAt W u l) := by show IntsAt _ _ _; rw [hW]; exact (hl.alloc _).alloc _
  have hm1 : Hid (IntsAt W v m) := by show IntsAt _ _ _; rw [hW]; exact (hm.alloc _).alloc _
  have HW : Hid ((w.alloc (.cells #[.int .i64 0, .int .i64 0, .int .i64 0] 53)).alloc (.cells #[.int .i64 0, .int .i64 0, .int .i64 0] 53) = W) := hW.symm
  clear hW hl hm
  cases hq1 : decide (KOk l) <;> cases hq2 : decide (KOk m)
  all_goals
    go_enter Try.func45, Try.ntmps45
    go_wp2_with fail
    rw [HW.out]
    refine (knowledgeOf_calls l u W hl1.out).mono ?_
    rw [hq1]
    rintro r w1 ⟨a, b, c, rfl, hla, hb1⟩
    unfold arr
    have hm2 : Hid (IntsAt (w1.alloc (.cells #[.int .i64 a, .int .i64 b, .int .i64 c] 53)) v m) := (hm1.out.below hb1).alloc _
    have hA2 := arrAt_new w1 a b c rfl
    have hT2 := (hT.next hb1).next ((Below.refl _ _).alloc (Nat.le_refl _) (.cells #[.int .i64 a, .int .i64 b, .int .i64 c] 53))
    go_wp2_with fail
    refine (knowledgeOf_calls m v _ hm2.out).mono ?_
    rw [hq2]
    rintro r w2 ⟨d, e, f, rfl, hmd, hb2⟩
    unfold arr
    have hA3 := (hA2.below hb2 hA2.lt).alloc (.cells #[.int .i64 d, .int .i64 e, .int .i64 f] 53)
    have hD3 := arrAt_new w2 d e f rfl
    have hT3 := (hT2.next hb2).next ((Below.refl _ _).alloc (Nat.le_refl _) (.cells #[.int .i64 d, .int .i64 e, .int .i64 f] 53))
    have HT3 : Hid (Two w _ 0 0 0 0 0 0) := hT3
    have a0 := hA3.c0
    have a1 := hA3.c1
    have a2 := hA3.c2
    have d0 := hD3.c0
    have d1 := hD3.c1
    have d2 := hD3.c2
    have o0 := hT3.1.c0
    have o1 := hT3.1.c1
    have o2 := hT3.1.c2
    have of0 := hT3.1.free 0
    have of1 := hT3.1.free 1
    have of2 := hT3.1.free 2
    have p0 := hT3.2.1.c0
    have p1 := hT3.2.1.c1
    have p2 := hT3.2.1.c2
    have pf0 := hT3.2.1.free 0
    have pf1 := hT3.2.1.free 1
    have pf2 := hT3.2.1.free 2
    have s1 := (hT.next hb1).2.1.lt
    have s2 := hA2.lt
    have s3 := hb2.size
    have n1 : (w.heap.size = w1.heap.size) = False := by simp; omega
    have n2 : (w.heap.size + 1 = w1.heap.size) = False := by simp; omega
    have n3 : (w.heap.size = w2.heap.size) = False := by simp; omega
    have n4 : (w.heap.size + 1 = w2.heap.size) = False := by simp; omega
    have n5 : (w.heap.size = w.heap.size + 1) = False := by simp
    clear hT hT2 hT3 hA2 hA3 hD3 hb1 hb2 s1 s2 s3
    go_wp2
    generalize w2.alloc (.cells #[.int .i64 d, .int .i64 e, .int .i64 f] 53) = w3 at *
    go_big_region
    all_goals go_wp2
    all_goals exact bodyPost_ret (ret_arr3 rfl rfl rfl rfl (HT3.out.both (a := a) (b := b) (c := c) (d := d) (e := e) (f := f)).1.drew (HT3.out.both (a := a) (b := b) (c := c) (d := d) (e := e) (f := f)).2.1.drew) rfl ⟨a, b, c, d, e, f, rfl, hla, hmd, (HT3.out.both (a := a) (b := b) (c := c) (d := d) (e := e) (f := f)).2.2.drew⟩

/-- The greatest of each, the least of each, whether each is within. -/
def kmax (l m : List Int) : List Int := if KOk l ∧ KOk m then List.zipWith mx l m else []
def kmin (l m : List Int) : List Int := if KOk l ∧ KOk m then List.zipWith mn l m else []
def kin (l m : List Int) : Bool := decide (KOk l) && decide (KOk m) && (List.zipWith (fun x y => decide (x ≤ y)) l m).all id
def knows (l : List Int) (r s : Int) : Bool := decide (KOk l) && decide (DOk r s) && decide (s ≤ l.getD r.toNat 0)

/-- Two arrays that were laid one behind the other. -/
def Pair (w wr : World) (g : Nat) (a b c d e f : Int) : Prop := ArrAt wr g a b c ∧ ArrAt wr (g + 1) d e f ∧ Below w.heap.size w wr ∧ w.heap.size ≤ g
theorem pair_new {w w1 : World} (hb : Below w.heap.size w w1) (a b c d e f : Int) : Pair w ((w1.alloc (.cells #[.int .i64 a, .int .i64 b, .int .i64 c] 53)).alloc (.cells #[.int .i64 d, .int .i64 e, .int .i64 f] 53)) w1.heap.size a b c d e f :=
  ⟨(arrAt_new w1 a b c rfl).alloc _, arrAt_new _ d e f (by simp), (hb.alloc hb.size _).alloc (by simp; exact Nat.le_succ_of_le hb.size) _, hb.size⟩

theorem pair_cells {w w1 : World} {g : Nat} {a b c d e f : Int} (h : Pair w w1 g a b c d e f) : (w1.cell? ⟨g, 0, none⟩ = some (.int .i64 a) ∧ w1.cell? ⟨g, 1, none⟩ = some (.int .i64 b) ∧ w1.cell? ⟨g, 2, none⟩ = some (.int .i64 c)) ∧ (w1.cell? ⟨g + 1, 0, none⟩ = some (.int .i64 d) ∧ w1.cell? ⟨g + 1, 1, none⟩ = some (.int .i64 e) ∧ w1.cell? ⟨g + 1, 2, none⟩ = some (.int .i64 f)) :=
  ⟨⟨h.1.c0, h.1.c1, h.1.c2⟩, ⟨h.2.1.c0, h.2.1.c1, h.2.1.c2⟩⟩

theorem own_none (w : World) (e : TypeId) (s : Nat) {g B : Nat} (hg : g = w.heap.size) (hB : B ≤ g) : (w.alloc (.cells #[] e)).ownsRow B e s (.slice (some ⟨g, 0, none⟩) 0 0) 0 [] := by
  subst hg
  exact ⟨by simp, .inr ⟨w.heap.size, 0, #[], rfl, hB, (MapKept.heap_alloc w _).1, Nat.le_refl _, Nat.zero_le _, by simp, by simp⟩⟩
theorem own_base {w : World} {b b' : Nat} {e : TypeId} {size : Nat} {v : Value} {n : Nat} {xs : List Value} (h : w.ownsRow b e size v n xs) (hb : b' ≤ b) : w.ownsRow b' e size v n xs := by
  refine ⟨h.1, ?_⟩
  rcases h.2 with h | ⟨g, cap, cur, h1, h2, h3⟩
  · exact .inl h
  · exact .inr ⟨g, cap, cur, h1, Nat.le_trans hb h2, h3⟩
theorem Pair.end0 {w w1 : World} {g : Nat} {a b c d e f : Int} (h : Pair w w1 g a b c d e f) (hg : w1.heap.size = g + 2) (t : TypeId) (s : Nat) : (w1.alloc (.cells #[] t)).ownsRow w.heap.size t s (.slice (some ⟨g + 1 + 1, 0, none⟩) 0 0) 0 [] ∧ Below w.heap.size w (w1.alloc (.cells #[] t)) :=
  ⟨own_none w1 t s (by omega) (by have := h.2.2.2; omega), h.2.2.1.alloc h.2.2.1.size _⟩

set_option maxHeartbeats 1600000 in
theorem knowMax_calls (l m : List Int) (u v : Value) (w : World) (hl : IntsAt w u l) (hm : IntsAt w v m) :
    Calls Try.prog 14 #[u, v] w fun r w' => ∃ x, r = .returned x ∧ w'.ownsRow w.heap.size 3 1 x (kmax l m).length (intV (kmax l m)) ∧ Below w.heap.size w w' := by
  have HL : Hid (IntsAt w u l) := hl
  have HM : Hid (IntsAt w v m) := hm
  clear hl hm
  cases hq : (decide (KOk l) && decide (KOk m))
  · have hk : kmax l m = [] := by
      unfold kmax; rw [if_neg]; rintro ⟨h1, h2⟩; simp [h1, h2] at hq
    rw [hk]
    clear hk
    go_enter Try.func14, Try.ntmps14
    go_wp2_with fail
    refine (both_calls l m u v w HL.out HM.out).mono ?_
    rw [hq]
    rintro r w1 ⟨a, b, c, d, e, f, rfl, hla, hmd, hb1⟩
    unfold arr
    have hP := (pair_new hb1 a b c d e f).end0 (by simp) 3 1
    clear hb1
    go_wp2
    go_ret
    exact ⟨_, rfl, hP.1, hP.2⟩
  · have hk1 : KOk l := by cases h : decide (KOk l) <;> simp [h] at hq; exact of_decide_eq_true h
    have hk2 : KOk m := by cases h : decide (KOk m) <;> simp [h] at hq; exact of_decide_eq_true h
    have HK1 : Hid (KOk l) := hk1
    have HK2 : Hid (KOk m) := hk2
    clear hk1 hk2
    go_enter Try.func14, Try.ntmps14
    go_wp2_with fail
    refine (both_calls l m u v w HL.out HM.out).mono ?_
    rw [hq]
    rintro r w1 ⟨a, b, c, d, e, f, rfl, hla, hmd, hb1⟩
    unfold arr
    have hP := pair_new hb1 a b c d e f
    have HP : Hid (Pair w _ _ a b c d e f) := hP
    obtain ⟨⟨c0, c1, c2⟩, d0, d1, d2⟩ := pair_cells hP
    have HKM : Hid (kmax l m = [mx a d, mx b e, mx c f]) := by
      show _ = _
      unfold kmax
      rw [if_pos ⟨HK1.out, HK2.out⟩, hla.out HK1.out, hmd.out HK2.out]
      rfl
    clear hb1 hP
    go_wp2_with fail
    refine (most_calls a b c d e f _).mono ?_
    rintro r w2 ⟨rfl, hb2⟩
    unfold arr
    go_wp2_with fail
    refine (list_calls _ _ _ _).mono ?_
    rintro r w3 ⟨x, rfl, ho3, hb3⟩
    have HB2 : Hid (Below w.heap.size w w2) := HP.out.2.2.1.trans (hb2.mono HP.out.2.2.1.size)
    have HB3 : Hid (Below w.heap.size w w3) := HB2.out.trans (hb3.mono HB2.out.size)
    have HO3 : Hid (w3.ownsRow w.heap.size 3 1 x 3 (intV [mx a d, mx b e, mx c f])) := own_base ho3 HB2.out.size
    clear hb2 hb3 ho3
    go_wp2
    go_ret
    exact ⟨_, rfl, by rw [HKM.out]; exact HO3.out, HB3.out⟩

set_option maxHeartbeats 1600000 in
theorem knowMin_calls (l m : List Int) (u v : Value) (w : World) (hl : IntsAt w u l) (hm : IntsAt w v m) :
    Calls Try.prog 15 #[u, v] w fun r w' => ∃ x, r = .returned x ∧ w'.ownsRow w.heap.size 3 1 x (kmin l m).length (intV (kmin l m)) ∧ Below w.heap.size w w' := by
  have HL : Hid (IntsAt w u l) := hl
  have HM : Hid (IntsAt w v m) := hm
  clear hl hm
  cases hq : (decide (KOk l) && decide (KOk m))
  · have hk : kmin l m = [] := by
      unfold kmin; rw [if_neg]; rintro ⟨h1, h2⟩; simp [h1, h2] at hq
    rw [hk]
    clear hk
    go_enter Try.func15, Try.ntmps15
    go_wp2_with fail
    refine (both_calls l m u v w HL.out HM.out).mono ?_
    rw [hq]
    rintro r w1 ⟨a, b, c, d, e, f, rfl, hla, hmd, hb1⟩
    unfold arr
    have hP := (pair_new hb1 a b c d e f).end0 (by simp) 3 1
    clear hb1
    go_wp2
    go_ret
    exact ⟨_, rfl, hP.1, hP.2⟩
  · have hk1 : KOk l := by cases h : decide (KOk l) <;> simp [h] at hq; exact of_decide_eq_true h
    have hk2 : KOk m := by cases h : decide (KOk m) <;> simp [h] at hq; exact of_decide_eq_true h
    have HK1 : Hid (KOk l) := hk1
    have HK2 : Hid (KOk m) := hk2
    clear hk1 hk2
    go_enter Try.func15, Try.ntmps15
    go_wp2_with fail
    refine (both_calls l m u v w HL.out HM.out).mono ?_
    rw [hq]
    rintro r w1 ⟨a, b, c, d, e, f, rfl, hla, hmd, hb1⟩
    unfold arr
    have hP := pair_new hb1 a b c d e f
    have HP : Hid (Pair w _ _ a b c d e f) := hP
    obtain ⟨⟨c0, c1, c2⟩, d0, d1, d2⟩ := pair_cells hP
    have HKM : Hid (kmin l m = [mn a d, mn b e, mn c f]) := by
      show _ = _
      unfold kmin
      rw [if_pos ⟨HK1.out, HK2.out⟩, hla.out HK1.out, hmd.out HK2.out]
      rfl
    clear hb1 hP
    go_wp2_with fail
    refine (least_calls a b c d e f _).mono ?_
    rintro r w2 ⟨rfl, hb2⟩
    unfold arr
    go_wp2_with fail
    refine (list_calls _ _ _ _).mono ?_
    rintro r w3 ⟨x, rfl, ho3, hb3⟩
    have HB2 : Hid (Below w.heap.size w w2) := HP.out.2.2.1.trans (hb2.mono HP.out.2.2.1.size)
    have HB3 : Hid (Below w.heap.size w w3) := HB2.out.trans (hb3.mono HB2.out.size)
    have HO3 : Hid (w3.ownsRow w.heap.size 3 1 x 3 (intV [mn a d, mn b e, mn c f])) := own_base ho3 HB2.out.size
    clear hb2 hb3 ho3
    go_wp2
    go_ret
    exact ⟨_, rfl, by rw [HKM.out]; exact HO3.out, HB3.out⟩

set_option maxHeartbeats 400000 in
theorem knowNew_calls (w : World) : Calls Try.prog 31 #[] w fun r w' => ∃ x, r = .returned x ∧ w'.ownsRow w.heap.size 3 1 x 3 (intV [0, 0, 0]) ∧ Below w.heap.size w w' := by
  go_enter Try.func31, Try.ntmps31
  go_wp2_with fail
  refine (list_calls 0 0 0 _).mono ?_
  rintro r w3 ⟨x, rfl, ho3, hb3⟩
  have HO : Hid (w3.ownsRow w.heap.size 3 1 x 3 (intV [0, 0, 0])) := ho3
  have HB : Hid (Below w.heap.size w w3) := hb3
  clear ho3 hb3
  go_wp2
  go_ret
  exact ⟨_, rfl, HO.out, HB.out⟩

theorem infoInt' : ∃ i, Try.prog.info? 3 = some i := by
  obtain ⟨i0, hi, -⟩ := info_parts infoInt
  exact ⟨i0, hi⟩
theorem arr_guard : Try.prog.eqGuardType Try.prog.depth 53 = false := by kernel_rfl
theorem eq_arr_run (a b c d e f : Int) (w : World) : (Op.equalIn 10000 53 (.agg #[.int .i64 a, .int .i64 b, .int .i64 c]) (.agg #[.int .i64 d, .int .i64 e, .int .i64 f])).run Try.prog w = .ok (decide (a = d) && decide (b = e) && decide (c = f)) w := by
  obtain ⟨i, hi⟩ := infoInt'
  have hc : Try.prog.cellsOf 3 = 1 := by kernel_rfl
  rw [run_equalIn_array w 9999 _ _ Try.underlying53 hi, hc]
  by_cases h1 : a = d <;> by_cases h2 : b = e <;> by_cases h3 : c = f <;> simp [List.range, List.range.loop, Op.eqItems, go_sem, h1, h2, h3]

end Go.Proofs.Ytpojipiagnbgjaa
