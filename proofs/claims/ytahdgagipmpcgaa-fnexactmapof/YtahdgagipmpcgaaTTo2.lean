/- States that are handed in are copied. -/
import Derived.Test.YtahdgagipmpcgaaTTo
namespace Go.Proofs.Ytahdgagipmpcgaa
set_option maxRecDepth 100000
set_option linter.unusedVariables false
open Go.RowKit


set_option maxHeartbeats 2000000 in
theorem toTally_calls (a : Ta) (w : World) : Calls Try.prog 137 #[.agg #[.string a.o, .int .i64 a.r, .int .i64 a.n]] w fun e w' => e = .returned (.agg #[.string a.o, .int .i64 a.r, .int .i64 a.n]) ∧ Below w.heap.size w w' := by
  go_enter Try.func137, Try.ntmps137
  go_wp2
  exact bodyPost_ret (retTally rfl rfl rfl ((row_new _ _ _ (by simp)).alloc _)) rfl ⟨rfl, (((Below.refl _ _).alloc (Nat.le_refl _) _).alloc (by simp) _).alloc (by simp; omega) _⟩

/-- Tallys that were handed in. -/
def ArgTallys (w : World) (v : Value) (l : List Ta) : Prop := l.length ≤ maxLen ∧ TaAt w v l ∧ ∀ a ∈ l, a.o.size ≤ maxLen
theorem ArgTallys.below {w w' : World} {v : Value} {l : List Ta} (h : ArgTallys w v l) (hb : Below w.heap.size w w') : ArgTallys w' v l := ⟨h.1, h.2.1.below hb, h.2.2⟩
theorem copyTally_set (l : List Ta) (j : Nat) (h : j < l.length) : (l.take j ++ List.replicate (l.length - j) zTa).set j l[j] = l.take (j + 1) ++ List.replicate (l.length - (j + 1)) zTa := by
  have e : l.length - j = (l.length - (j + 1)) + 1 := by omega
  have hlen : (l.take j).length = j := by rw [List.length_take]; omega
  rw [e, List.replicate_succ, List.set_append_right _ _ (by omega), hlen, Nat.sub_self, List.set_cons_zero, List.take_succ_eq_append_getElem h, List.append_assoc]
  rfl
theorem copyTally_at (l : List Ta) (j : Nat) (h : j < l.length) (h2 : j < (l.take j ++ List.replicate (l.length - j) zTa).length) : (l.take j ++ List.replicate (l.length - j) zTa)[j] = zTa := by
  have hlen : (l.take j).length = j := by rw [List.length_take]; omega
  rw [List.getElem_append_right (by omega)]
  simp
set_option maxHeartbeats 2000000 in
theorem toTallyS_calls {v : Value} {l : List Ta} (hn : l.length ≤ 1048576) (w : World) (ha : ArgTallys w v l) :
    Calls Try.prog 68 #[v] w fun e w' => ∃ u, e = .returned u ∧ w'.ownsRow w.heap.size 60 3 u l.length (taV l) ∧ Below w.heap.size w w' := by
  obtain ⟨-, ⟨aa, ca, rfl, ga⟩, -⟩ := ha
  have HGA : Hid (TaG w aa l) := ga
  obtain ⟨n, hl⟩ : ∃ n, n = l.length := ⟨_, rfl⟩
  rw [← hl]
  rw [← hl] at hn
  have HL : Hid (n = l.length) := hl
  have hmk := makeTally w n hn
  have HO : Hid ((w.alloc (.cells (taV (List.replicate n zTa)).toArray 60)).ownsRow w.heap.size 60 3 (.slice (some ⟨w.heap.size, 0, none⟩) n n) n (taV (l.take 0 ++ List.replicate (l.length - 0) zTa))) := by
    have e : l.take 0 ++ List.replicate (l.length - 0) zTa = List.replicate n zTa := by simp [hl]
    show World.ownsRow _ _ _ _ _ _ _
    rw [e]
    exact own_flat (wide_ta _) (MapKept.heap_alloc w _).1 (Nat.le_refl _) (by simp) (by unfold maxLen; omega)
  have HB : Hid (Below w.heap.size w (w.alloc (.cells (taV (List.replicate n zTa)).toArray 60))) := (Below.refl _ _).alloc (Nat.le_refl _) _
  generalize w.alloc (.cells (taV (List.replicate n zTa)).toArray 60) = w1 at *
  clear ga hl
  go_enter Try.func68, Try.ntmps68
  go_wp2
  go_loopw [4] (fun z wr => ∃ j : Nat, j ≤ n ∧ z = .int .i64 j ∧ wr.ownsRow w.heap.size 60 3 (.slice (some ⟨w.heap.size, 0, none⟩) n n) n (taV (l.take j ++ List.replicate (l.length - j) zTa)) ∧ Below w.heap.size w wr) (fun z _ => n - (intOf z).toNat)
  case atStart => exact ⟨0, Nat.zero_le _, rfl, HO.out, HB.out⟩
  case round =>
    clear HO HB hmk
    obtain ⟨j, hj, rfl, hown, hbel⟩ := hrel
    have HOW : Hid (wr.ownsRow w.heap.size 60 3 (.slice (some ⟨w.heap.size, 0, none⟩) n n) n (taV (l.take j ++ List.replicate (l.length - j) zTa))) := hown
    have HBE : Hid (Below w.heap.size w wr) := hbel
    clear hown hbel
    by_cases hlt : j < n
    · have hjl : j < l.length := by rw [← HL.out]; exact hlt
      obtain ⟨g, f, rfl, hg, hcc⟩ := HGA.out (by omega)
      have hj1 : (j : Int) < n := by omega
      have hj0 : (0 : Int) ≤ j := by omega
      have c1 := (hcc j hjl).below HBE.out hg
      have HSET : Hid (taV ((l.take j ++ List.replicate (l.length - j) zTa).set j l[j]) = taV (l.take (j + 1) ++ List.replicate (l.length - (j + 1)) zTa)) := by show _ = _; rw [copyTally_set l j hjl]
      have hlj : j < (l.take j ++ List.replicate (l.length - j) zTa).length := by simp; omega
      have hat := taV_at _ j hlj
      rw [copyTally_at l j hjl] at hat
      generalize l[j] = x at *
      unfold taC at c1
      obtain ⟨c10, c11, c12⟩ := c1
      clear hcc
      go_wp2_with fail
      refine (toTally_calls x wr).mono ?_
      rintro e w1 ⟨rfl, hb⟩
      have hown1 := own_below HOW.out hb
      have hb1 := HBE.out.trans (hb.mono HBE.out.size)
      obtain ⟨h0, h1, h2⟩ := hat
      have k0 : w1.cell? ⟨w.heap.size, j * 3, none⟩ = some (.string zTa.o) := by rw [hown1.cellAt (j * 3) (by omega)]; exact h0
      have q0 := hown1.frozenAt (j * 3)
      have k1 : w1.cell? ⟨w.heap.size, j * 3 + 1, none⟩ = some (.int .i64 zTa.r) := by rw [hown1.cellAt (j * 3 + 1) (by omega)]; exact h1
      have q1 := hown1.frozenAt (j * 3 + 1)
      have k2 : w1.cell? ⟨w.heap.size, j * 3 + 2, none⟩ = some (.int .i64 zTa.n) := by rw [hown1.cellAt (j * 3 + 2) (by omega)]; exact h2
      have q2 := hown1.frozenAt (j * 3 + 2)
      have s0 := hown1.stored (j * 3) (.string x.o)
      have s1 := s0.1.stored (j * 3 + 1) (.int .i64 x.r)
      have s2 := s1.1.stored (j * 3 + 2) (.int .i64 x.n)
      have HST : Hid ((((w1.setCell ⟨w.heap.size, j * 3, none⟩ (.string x.o)).setCell ⟨w.heap.size, j * 3 + 1, none⟩ (.int .i64 x.r)).setCell ⟨w.heap.size, j * 3 + 2, none⟩ (.int .i64 x.n)).ownsRow w.heap.size 60 3 (.slice (some ⟨w.heap.size, 0, none⟩) n n) n (taV (l.take (j + 1) ++ List.replicate (l.length - (j + 1)) zTa))) := by
        have := s2.1
        rw [ta_sets _ j hlj x, HSET.out] at this
        exact this
      have HB : Hid (Below w.heap.size w (((w1.setCell ⟨w.heap.size, j * 3, none⟩ (.string x.o)).setCell ⟨w.heap.size, j * 3 + 1, none⟩ (.int .i64 x.r)).setCell ⟨w.heap.size, j * 3 + 2, none⟩ (.int .i64 x.n))) := (((hb1.setCell (p := ⟨w.heap.size, j * 3, none⟩) (Nat.le_refl _) _).setCell (p := ⟨w.heap.size, j * 3 + 1, none⟩) (Nat.le_refl _) _).setCell (p := ⟨w.heap.size, j * 3 + 2, none⟩) (Nat.le_refl _) _)
      clear s0 h0 c10 s1 h1 c11 s2 h2 c12 hown1 hb1 hb HOW HBE hjl HSET hlj
      go_wp2
      go_roundw
      case rel => exact ⟨j + 1, by omega, by go_num, HST.out, HB.out⟩
      case measure => simp [intOf]; omega
    · have hj1 : ¬ ((j : Int) < n) := by omega
      have HO : Hid (wr.ownsRow w.heap.size 60 3 (.slice (some ⟨w.heap.size, 0, none⟩) n n) n (taV l)) := by
        have hjn : j = l.length := by have := HL.out; omega
        have hown := HOW.out
        rw [hjn, List.take_of_length_le (Nat.le_refl _), Nat.sub_self] at hown
        show World.ownsRow _ _ _ _ _ _ _
        simpa using hown
      clear HOW
      go_wp2
      go_ret
      exact ⟨_, rfl, HO.out, HBE.out⟩

set_option maxHeartbeats 2000000 in
theorem toLive_calls (a : Li) (w : World) : Calls Try.prog 138 #[.agg #[.bool a.m, .string a.o, .string a.y, .int .i64 a.v, .int .i64 a.r, .int .i64 a.s]] w fun e w' => e = .returned (.agg #[.bool a.m, .string a.o, .string a.y, .int .i64 a.v, .int .i64 a.r, .int .i64 a.s]) ∧ Below w.heap.size w w' := by
  obtain ⟨W, hW⟩ : ∃ W, W = ((w.alloc (.cells #[.bool a.m, .string a.o, .string a.y, .int .i64 a.v, .int .i64 a.r, .int .i64 a.s] 161)).alloc (.cells #[.bool false, .string { data := #[] }, .string { data := #[] }, .int .i64 0, .int .i64 0, .int .i64 0] 62)).alloc (.cells #[.bool a.m, .string a.o, .string a.y, .int .i64 a.v, .int .i64 0, .int .i64 0] 62) := ⟨_, rfl⟩
  have HP : Hid (Row W w.heap.size #[.bool a.m, .string a.o, .string a.y, .int .i64 a.v, .int .i64 a.r, .int .i64 a.s] 161) := by rw [hW]; exact ((row_new w _ _ rfl).alloc _).alloc _
  have HO : Hid (Row W (w.heap.size + 1) #[.bool false, .string { data := #[] }, .string { data := #[] }, .int .i64 0, .int .i64 0, .int .i64 0] 62) := by rw [hW]; exact (row_new _ _ _ (by simp)).alloc _
  have HT : Hid (Row W (w.heap.size + 1 + 1) #[.bool a.m, .string a.o, .string a.y, .int .i64 a.v, .int .i64 0, .int .i64 0] 62) := by rw [hW]; exact row_new _ _ _ (by simp)
  have HB : Hid (Below w.heap.size w W) := by rw [hW]; exact (((Below.refl _ _).alloc (Nat.le_refl _) _).alloc (by simp) _).alloc (by simp; omega) _
  have HW : Hid (((w.alloc (.cells #[.bool a.m, .string a.o, .string a.y, .int .i64 a.v, .int .i64 a.r, .int .i64 a.s] 161)).alloc (.cells #[.bool false, .string { data := #[] }, .string { data := #[] }, .int .i64 0, .int .i64 0, .int .i64 0] 62)).alloc (.cells #[.bool a.m, .string a.o, .string a.y, .int .i64 a.v, .int .i64 0, .int .i64 0] 62) = W) := hW.symm
  clear hW
  go_enter Try.func138, Try.ntmps138
  go_wp2_with fail
  rw [HW.out]
  clear HW
  refine (toDot_calls _ _ _).mono ?_
  rintro e w1 ⟨rfl, hb⟩
  unfold dot
  replace HP : Hid (Row w1 w.heap.size #[.bool a.m, .string a.o, .string a.y, .int .i64 a.v, .int .i64 a.r, .int .i64 a.s] 161) := HP.out.next hb
  replace HO : Hid (Row w1 (w.heap.size + 1) #[.bool false, .string { data := #[] }, .string { data := #[] }, .int .i64 0, .int .i64 0, .int .i64 0] 62) := HO.out.next hb
  replace HT : Hid (Row w1 (w.heap.size + 1 + 1) #[.bool a.m, .string a.o, .string a.y, .int .i64 a.v, .int .i64 0, .int .i64 0] 62) := HT.out.next hb
  replace HB : Hid (Below w.heap.size w w1) := HB.out.trans (hb.mono HB.out.size)
  clear hb
  have p0 := HP.out.cell 0 rfl
  have t0 := HT.out.cell 0 rfl
  have f0 := HT.out.free 0
  have o0 := HO.out.cell 0 rfl
  have g0 := HO.out.free 0
  have p1 := HP.out.cell 1 rfl
  have t1 := HT.out.cell 1 rfl
  have f1 := HT.out.free 1
  have o1 := HO.out.cell 1 rfl
  have g1 := HO.out.free 1
  have p2 := HP.out.cell 2 rfl
  have t2 := HT.out.cell 2 rfl
  have f2 := HT.out.free 2
  have o2 := HO.out.cell 2 rfl
  have g2 := HO.out.free 2
  have p3 := HP.out.cell 3 rfl
  have t3 := HT.out.cell 3 rfl
  have f3 := HT.out.free 3
  have o3 := HO.out.cell 3 rfl
  have g3 := HO.out.free 3
  have p4 := HP.out.cell 4 rfl
  have t4 := HT.out.cell 4 rfl
  have f4 := HT.out.free 4
  have o4 := HO.out.cell 4 rfl
  have g4 := HO.out.free 4
  have p5 := HP.out.cell 5 rfl
  have t5 := HT.out.cell 5 rfl
  have f5 := HT.out.free 5
  have o5 := HO.out.cell 5 rfl
  have g5 := HO.out.free 5
  go_wp2
  exact bodyPost_ret (retLive rfl rfl rfl ((((((((HO.out.other (by simp) _).other (by simp) _).li0 _).li1 _).li2 _).li3 _).li4 _).li5 _)) rfl ⟨rfl, ((((((((HB.out.setCell (by simp; omega) _).setCell (by simp; omega) _).setCell (by simp) _).setCell (by simp) _).setCell (by simp) _).setCell (by simp) _).setCell (by simp) _).setCell (by simp) _)⟩

/-- Lives that were handed in. -/
def ArgLives (w : World) (v : Value) (l : List Li) : Prop := l.length ≤ maxLen ∧ LiAt w v l ∧ ∀ a ∈ l, a.o.size ≤ maxLen ∧ a.y.size ≤ maxLen
theorem ArgLives.below {w w' : World} {v : Value} {l : List Li} (h : ArgLives w v l) (hb : Below w.heap.size w w') : ArgLives w' v l := ⟨h.1, h.2.1.below hb, h.2.2⟩
theorem copyLive_set (l : List Li) (j : Nat) (h : j < l.length) : (l.take j ++ List.replicate (l.length - j) zLi).set j l[j] = l.take (j + 1) ++ List.replicate (l.length - (j + 1)) zLi := by
  have e : l.length - j = (l.length - (j + 1)) + 1 := by omega
  have hlen : (l.take j).length = j := by rw [List.length_take]; omega
  rw [e, List.replicate_succ, List.set_append_right _ _ (by omega), hlen, Nat.sub_self, List.set_cons_zero, List.take_succ_eq_append_getElem h, List.append_assoc]
  rfl
theorem copyLive_at (l : List Li) (j : Nat) (h : j < l.length) (h2 : j < (l.take j ++ List.replicate (l.length - j) zLi).length) : (l.take j ++ List.replicate (l.length - j) zLi)[j] = zLi := by
  have hlen : (l.take j).length = j := by rw [List.length_take]; omega
  rw [List.getElem_append_right (by omega)]
  simp
set_option maxHeartbeats 2000000 in
theorem toLiveS_calls {v : Value} {l : List Li} (hn : l.length ≤ 1048576) (w : World) (ha : ArgLives w v l) :
    Calls Try.prog 69 #[v] w fun e w' => ∃ u, e = .returned u ∧ w'.ownsRow w.heap.size 62 6 u l.length (liV l) ∧ Below w.heap.size w w' := by
  obtain ⟨-, ⟨aa, ca, rfl, ga⟩, -⟩ := ha
  have HGA : Hid (LiG w aa l) := ga
  obtain ⟨n, hl⟩ : ∃ n, n = l.length := ⟨_, rfl⟩
  rw [← hl]
  rw [← hl] at hn
  have HL : Hid (n = l.length) := hl
  have hmk := makeLive w n hn
  have HO : Hid ((w.alloc (.cells (liV (List.replicate n zLi)).toArray 62)).ownsRow w.heap.size 62 6 (.slice (some ⟨w.heap.size, 0, none⟩) n n) n (liV (l.take 0 ++ List.replicate (l.length - 0) zLi))) := by
    have e : l.take 0 ++ List.replicate (l.length - 0) zLi = List.replicate n zLi := by simp [hl]
    show World.ownsRow _ _ _ _ _ _ _
    rw [e]
    exact own_flat (wide_li _) (MapKept.heap_alloc w _).1 (Nat.le_refl _) (by simp) (by unfold maxLen; omega)
  have HB : Hid (Below w.heap.size w (w.alloc (.cells (liV (List.replicate n zLi)).toArray 62))) := (Below.refl _ _).alloc (Nat.le_refl _) _
  generalize w.alloc (.cells (liV (List.replicate n zLi)).toArray 62) = w1 at *
  clear ga hl
  go_enter Try.func69, Try.ntmps69
  go_wp2
  go_loopw [4] (fun z wr => ∃ j : Nat, j ≤ n ∧ z = .int .i64 j ∧ wr.ownsRow w.heap.size 62 6 (.slice (some ⟨w.heap.size, 0, none⟩) n n) n (liV (l.take j ++ List.replicate (l.length - j) zLi)) ∧ Below w.heap.size w wr) (fun z _ => n - (intOf z).toNat)
  case atStart => exact ⟨0, Nat.zero_le _, rfl, HO.out, HB.out⟩
  case round =>
    clear HO HB hmk
    obtain ⟨j, hj, rfl, hown, hbel⟩ := hrel
    have HOW : Hid (wr.ownsRow w.heap.size 62 6 (.slice (some ⟨w.heap.size, 0, none⟩) n n) n (liV (l.take j ++ List.replicate (l.length - j) zLi))) := hown
    have HBE : Hid (Below w.heap.size w wr) := hbel
    clear hown hbel
    by_cases hlt : j < n
    · have hjl : j < l.length := by rw [← HL.out]; exact hlt
      obtain ⟨g, f, rfl, hg, hcc⟩ := HGA.out (by omega)
      have hj1 : (j : Int) < n := by omega
      have hj0 : (0 : Int) ≤ j := by omega
      have c1 := (hcc j hjl).below HBE.out hg
      have HSET : Hid (liV ((l.take j ++ List.replicate (l.length - j) zLi).set j l[j]) = liV (l.take (j + 1) ++ List.replicate (l.length - (j + 1)) zLi)) := by show _ = _; rw [copyLive_set l j hjl]
      have hlj : j < (l.take j ++ List.replicate (l.length - j) zLi).length := by simp; omega
      have hat := liV_at _ j hlj
      rw [copyLive_at l j hjl] at hat
      generalize l[j] = x at *
      unfold liC at c1
      obtain ⟨c10, c11, c12, c13, c14, c15⟩ := c1
      clear hcc
      go_wp2_with fail
      refine (toLive_calls x wr).mono ?_
      rintro e w1 ⟨rfl, hb⟩
      have hown1 := own_below HOW.out hb
      have hb1 := HBE.out.trans (hb.mono HBE.out.size)
      obtain ⟨h0, h1, h2, h3, h4, h5⟩ := hat
      have k0 : w1.cell? ⟨w.heap.size, j * 6, none⟩ = some (.bool zLi.m) := by rw [hown1.cellAt (j * 6) (by omega)]; exact h0
      have q0 := hown1.frozenAt (j * 6)
      have k1 : w1.cell? ⟨w.heap.size, j * 6 + 1, none⟩ = some (.string zLi.o) := by rw [hown1.cellAt (j * 6 + 1) (by omega)]; exact h1
      have q1 := hown1.frozenAt (j * 6 + 1)
      have k2 : w1.cell? ⟨w.heap.size, j * 6 + 2, none⟩ = some (.string zLi.y) := by rw [hown1.cellAt (j * 6 + 2) (by omega)]; exact h2
      have q2 := hown1.frozenAt (j * 6 + 2)
      have k3 : w1.cell? ⟨w.heap.size, j * 6 + 3, none⟩ = some (.int .i64 zLi.v) := by rw [hown1.cellAt (j * 6 + 3) (by omega)]; exact h3
      have q3 := hown1.frozenAt (j * 6 + 3)
      have k4 : w1.cell? ⟨w.heap.size, j * 6 + 4, none⟩ = some (.int .i64 zLi.r) := by rw [hown1.cellAt (j * 6 + 4) (by omega)]; exact h4
      have q4 := hown1.frozenAt (j * 6 + 4)
      have k5 : w1.cell? ⟨w.heap.size, j * 6 + 5, none⟩ = some (.int .i64 zLi.s) := by rw [hown1.cellAt (j * 6 + 5) (by omega)]; exact h5
      have q5 := hown1.frozenAt (j * 6 + 5)
      have s0 := hown1.stored (j * 6) (.bool x.m)
      have s1 := s0.1.stored (j * 6 + 1) (.string x.o)
      have s2 := s1.1.stored (j * 6 + 2) (.string x.y)
      have s3 := s2.1.stored (j * 6 + 3) (.int .i64 x.v)
      have s4 := s3.1.stored (j * 6 + 4) (.int .i64 x.r)
      have s5 := s4.1.stored (j * 6 + 5) (.int .i64 x.s)
      have HST : Hid (((((((w1.setCell ⟨w.heap.size, j * 6, none⟩ (.bool x.m)).setCell ⟨w.heap.size, j * 6 + 1, none⟩ (.string x.o)).setCell ⟨w.heap.size, j * 6 + 2, none⟩ (.string x.y)).setCell ⟨w.heap.size, j * 6 + 3, none⟩ (.int .i64 x.v)).setCell ⟨w.heap.size, j * 6 + 4, none⟩ (.int .i64 x.r)).setCell ⟨w.heap.size, j * 6 + 5, none⟩ (.int .i64 x.s)).ownsRow w.heap.size 62 6 (.slice (some ⟨w.heap.size, 0, none⟩) n n) n (liV (l.take (j + 1) ++ List.replicate (l.length - (j + 1)) zLi))) := by
        have := s5.1
        rw [li_sets _ j hlj x, HSET.out] at this
        exact this
      have HB : Hid (Below w.heap.size w ((((((w1.setCell ⟨w.heap.size, j * 6, none⟩ (.bool x.m)).setCell ⟨w.heap.size, j * 6 + 1, none⟩ (.string x.o)).setCell ⟨w.heap.size, j * 6 + 2, none⟩ (.string x.y)).setCell ⟨w.heap.size, j * 6 + 3, none⟩ (.int .i64 x.v)).setCell ⟨w.heap.size, j * 6 + 4, none⟩ (.int .i64 x.r)).setCell ⟨w.heap.size, j * 6 + 5, none⟩ (.int .i64 x.s))) := ((((((hb1.setCell (p := ⟨w.heap.size, j * 6, none⟩) (Nat.le_refl _) _).setCell (p := ⟨w.heap.size, j * 6 + 1, none⟩) (Nat.le_refl _) _).setCell (p := ⟨w.heap.size, j * 6 + 2, none⟩) (Nat.le_refl _) _).setCell (p := ⟨w.heap.size, j * 6 + 3, none⟩) (Nat.le_refl _) _).setCell (p := ⟨w.heap.size, j * 6 + 4, none⟩) (Nat.le_refl _) _).setCell (p := ⟨w.heap.size, j * 6 + 5, none⟩) (Nat.le_refl _) _)
      clear s0 h0 c10 s1 h1 c11 s2 h2 c12 s3 h3 c13 s4 h4 c14 s5 h5 c15 hown1 hb1 hb HOW HBE hjl HSET hlj
      go_wp2
      go_roundw
      case rel => exact ⟨j + 1, by omega, by go_num, HST.out, HB.out⟩
      case measure => simp [intOf]; omega
    · have hj1 : ¬ ((j : Int) < n) := by omega
      have HO : Hid (wr.ownsRow w.heap.size 62 6 (.slice (some ⟨w.heap.size, 0, none⟩) n n) n (liV l)) := by
        have hjn : j = l.length := by have := HL.out; omega
        have hown := HOW.out
        rw [hjn, List.take_of_length_le (Nat.le_refl _), Nat.sub_self] at hown
        show World.ownsRow _ _ _ _ _ _ _
        simpa using hown
      clear HOW
      go_wp2
      go_ret
      exact ⟨_, rfl, HO.out, HBE.out⟩

set_option maxHeartbeats 2000000 in
theorem toCell_calls (a : Ce) (w : World) : Calls Try.prog 139 #[.agg #[.string a.o, .int .i64 a.r, .int .i64 a.s, .int .i64 a.t, .int .i64 a.x, .int .i64 a.z, .int .i64 a.v, .bool a.g]] w fun e w' => e = .returned (.agg #[.string a.o, .int .i64 a.r, .int .i64 a.s, .int .i64 a.t, .int .i64 a.x, .int .i64 a.z, .int .i64 a.v, .bool a.g]) ∧ Below w.heap.size w w' := by
  obtain ⟨W, hW⟩ : ∃ W, W = ((w.alloc (.cells #[.string a.o, .int .i64 a.r, .int .i64 a.s, .int .i64 a.t, .int .i64 a.x, .int .i64 a.z, .int .i64 a.v, .bool a.g] 164)).alloc (.cells #[.string { data := #[] }, .int .i64 0, .int .i64 0, .int .i64 0, .int .i64 0, .int .i64 0, .int .i64 0, .bool false] 57)).alloc (.cells #[.string a.o, .int .i64 0, .int .i64 0, .int .i64 0, .int .i64 0, .int .i64 0, .int .i64 0, .bool false] 57) := ⟨_, rfl⟩
  have HP : Hid (Row W w.heap.size #[.string a.o, .int .i64 a.r, .int .i64 a.s, .int .i64 a.t, .int .i64 a.x, .int .i64 a.z, .int .i64 a.v, .bool a.g] 164) := by rw [hW]; exact ((row_new w _ _ rfl).alloc _).alloc _
  have HO : Hid (Row W (w.heap.size + 1) #[.string { data := #[] }, .int .i64 0, .int .i64 0, .int .i64 0, .int .i64 0, .int .i64 0, .int .i64 0, .bool false] 57) := by rw [hW]; exact (row_new _ _ _ (by simp)).alloc _
  have HT : Hid (Row W (w.heap.size + 1 + 1) #[.string a.o, .int .i64 0, .int .i64 0, .int .i64 0, .int .i64 0, .int .i64 0, .int .i64 0, .bool false] 57) := by rw [hW]; exact row_new _ _ _ (by simp)
  have HB : Hid (Below w.heap.size w W) := by rw [hW]; exact (((Below.refl _ _).alloc (Nat.le_refl _) _).alloc (by simp) _).alloc (by simp; omega) _
  have HW : Hid (((w.alloc (.cells #[.string a.o, .int .i64 a.r, .int .i64 a.s, .int .i64 a.t, .int .i64 a.x, .int .i64 a.z, .int .i64 a.v, .bool a.g] 164)).alloc (.cells #[.string { data := #[] }, .int .i64 0, .int .i64 0, .int .i64 0, .int .i64 0, .int .i64 0, .int .i64 0, .bool false] 57)).alloc (.cells #[.string a.o, .int .i64 0, .int .i64 0, .int .i64 0, .int .i64 0, .int .i64 0, .int .i64 0, .bool false] 57) = W) := hW.symm
  clear hW
  go_enter Try.func139, Try.ntmps139
  go_wp2_with fail
  rw [HW.out]
  clear HW
  refine (toDot_calls _ _ _).mono ?_
  rintro e w1 ⟨rfl, hb⟩
  unfold dot
  replace HP : Hid (Row w1 w.heap.size #[.string a.o, .int .i64 a.r, .int .i64 a.s, .int .i64 a.t, .int .i64 a.x, .int .i64 a.z, .int .i64 a.v, .bool a.g] 164) := HP.out.next hb
  replace HO : Hid (Row w1 (w.heap.size + 1) #[.string { data := #[] }, .int .i64 0, .int .i64 0, .int .i64 0, .int .i64 0, .int .i64 0, .int .i64 0, .bool false] 57) := HO.out.next hb
  replace HT : Hid (Row w1 (w.heap.size + 1 + 1) #[.string a.o, .int .i64 0, .int .i64 0, .int .i64 0, .int .i64 0, .int .i64 0, .int .i64 0, .bool false] 57) := HT.out.next hb
  replace HB : Hid (Below w.heap.size w w1) := HB.out.trans (hb.mono HB.out.size)
  clear hb
  have p0 := HP.out.cell 0 rfl
  have t0 := HT.out.cell 0 rfl
  have f0 := HT.out.free 0
  have p1 := HP.out.cell 1 rfl
  have t1 := HT.out.cell 1 rfl
  have f1 := HT.out.free 1
  have p2 := HP.out.cell 2 rfl
  have t2 := HT.out.cell 2 rfl
  have f2 := HT.out.free 2
  have p3 := HP.out.cell 3 rfl
  have t3 := HT.out.cell 3 rfl
  have f3 := HT.out.free 3
  have p4 := HP.out.cell 4 rfl
  have t4 := HT.out.cell 4 rfl
  have f4 := HT.out.free 4
  have p5 := HP.out.cell 5 rfl
  have t5 := HT.out.cell 5 rfl
  have f5 := HT.out.free 5
  have p6 := HP.out.cell 6 rfl
  have t6 := HT.out.cell 6 rfl
  have f6 := HT.out.free 6
  have p7 := HP.out.cell 7 rfl
  have t7 := HT.out.cell 7 rfl
  have f7 := HT.out.free 7
  obtain ⟨X, hX⟩ : ∃ X, X = ((w1.setCell ⟨w.heap.size + 1 + 1, 1, none⟩ (.int .i64 a.r)).setCell ⟨w.heap.size + 1 + 1, 2, none⟩ (.int .i64 a.s)).setCell ⟨w.heap.size + 1 + 1, 3, none⟩ (.int .i64 a.t) := ⟨_, rfl⟩
  have HP1 : Hid (Row X w.heap.size #[.string a.o, .int .i64 a.r, .int .i64 a.s, .int .i64 a.t, .int .i64 a.x, .int .i64 a.z, .int .i64 a.v, .bool a.g] 164) := by rw [hX]; exact (((HP.out.other (by simp; omega) _).other (by simp; omega) _).other (by simp; omega) _)
  have HO1 : Hid (Row X (w.heap.size + 1) #[.string { data := #[] }, .int .i64 0, .int .i64 0, .int .i64 0, .int .i64 0, .int .i64 0, .int .i64 0, .bool false] 57) := by rw [hX]; exact (((HO.out.other (by simp) _).other (by simp) _).other (by simp) _)
  have HT1 : Hid (Row X (w.heap.size + 1 + 1) #[.string a.o, .int .i64 a.r, .int .i64 a.s, .int .i64 a.t, .int .i64 0, .int .i64 0, .int .i64 0, .bool false] 57) := by rw [hX]; exact (((HT.out.ce1 _).ce2 _).ce3 _)
  have HB1 : Hid (Below w.heap.size w X) := by rw [hX]; exact (((HB.out.setCell (by simp; omega) _).setCell (by simp; omega) _).setCell (by simp; omega) _)
  have HX : Hid (((w1.setCell ⟨w.heap.size + 1 + 1, 1, none⟩ (.int .i64 a.r)).setCell ⟨w.heap.size + 1 + 1, 2, none⟩ (.int .i64 a.s)).setCell ⟨w.heap.size + 1 + 1, 3, none⟩ (.int .i64 a.t) = X) := hX.symm
  clear hX HP HO HT HB
  go_wp2_with fail
  rw [HX.out]
  clear HX p0 t0 f0 p1 t1 f1 p2 t2 f2 p3 t3 f3 p4 t4 f4 p5 t5 f5 p6 t6 f6 p7 t7 f7
  refine (toDot_calls _ _ _).mono ?_
  rintro e w2 ⟨rfl, hb⟩
  unfold dot
  have HP : Hid (Row w2 w.heap.size #[.string a.o, .int .i64 a.r, .int .i64 a.s, .int .i64 a.t, .int .i64 a.x, .int .i64 a.z, .int .i64 a.v, .bool a.g] 164) := HP1.out.next hb
  have HO : Hid (Row w2 (w.heap.size + 1) #[.string { data := #[] }, .int .i64 0, .int .i64 0, .int .i64 0, .int .i64 0, .int .i64 0, .int .i64 0, .bool false] 57) := HO1.out.next hb
  have HT : Hid (Row w2 (w.heap.size + 1 + 1) #[.string a.o, .int .i64 a.r, .int .i64 a.s, .int .i64 a.t, .int .i64 0, .int .i64 0, .int .i64 0, .bool false] 57) := HT1.out.next hb
  have HB : Hid (Below w.heap.size w w2) := HB1.out.trans (hb.mono HB1.out.size)
  clear hb HP1 HO1 HT1 HB1
  have p0 := HP.out.cell 0 rfl
  have t0 := HT.out.cell 0 rfl
  have f0 := HT.out.free 0
  have o0 := HO.out.cell 0 rfl
  have g0 := HO.out.free 0
  have p1 := HP.out.cell 1 rfl
  have t1 := HT.out.cell 1 rfl
  have f1 := HT.out.free 1
  have o1 := HO.out.cell 1 rfl
  have g1 := HO.out.free 1
  have p2 := HP.out.cell 2 rfl
  have t2 := HT.out.cell 2 rfl
  have f2 := HT.out.free 2
  have o2 := HO.out.cell 2 rfl
  have g2 := HO.out.free 2
  have p3 := HP.out.cell 3 rfl
  have t3 := HT.out.cell 3 rfl
  have f3 := HT.out.free 3
  have o3 := HO.out.cell 3 rfl
  have g3 := HO.out.free 3
  have p4 := HP.out.cell 4 rfl
  have t4 := HT.out.cell 4 rfl
  have f4 := HT.out.free 4
  have o4 := HO.out.cell 4 rfl
  have g4 := HO.out.free 4
  have p5 := HP.out.cell 5 rfl
  have t5 := HT.out.cell 5 rfl
  have f5 := HT.out.free 5
  have o5 := HO.out.cell 5 rfl
  have g5 := HO.out.free 5
  have p6 := HP.out.cell 6 rfl
  have t6 := HT.out.cell 6 rfl
  have f6 := HT.out.free 6
  have o6 := HO.out.cell 6 rfl
  have g6 := HO.out.free 6
  have p7 := HP.out.cell 7 rfl
  have t7 := HT.out.cell 7 rfl
  have f7 := HT.out.free 7
  have o7 := HO.out.cell 7 rfl
  have g7 := HO.out.free 7
  go_wp2
  exact bodyPost_ret (retCell rfl rfl rfl ((((((((((((HO.out.other (by simp) _).other (by simp) _).other (by simp) _).other (by simp) _).ce0 _).ce1 _).ce2 _).ce3 _).ce4 _).ce5 _).ce6 _).ce7 _)) rfl ⟨rfl, ((((((((((((HB.out.setCell (by simp; omega) _).setCell (by simp; omega) _).setCell (by simp; omega) _).setCell (by simp; omega) _).setCell (by simp) _).setCell (by simp) _).setCell (by simp) _).setCell (by simp) _).setCell (by simp) _).setCell (by simp) _).setCell (by simp) _).setCell (by simp) _)⟩

/-- Cells that were handed in. -/
def ArgCells (w : World) (v : Value) (l : List Ce) : Prop := l.length ≤ maxLen ∧ CeAt w v l ∧ ∀ a ∈ l, a.o.size ≤ maxLen
theorem ArgCells.below {w w' : World} {v : Value} {l : List Ce} (h : ArgCells w v l) (hb : Below w.heap.size w w') : ArgCells w' v l := ⟨h.1, h.2.1.below hb, h.2.2⟩
theorem copyCell_set (l : List Ce) (j : Nat) (h : j < l.length) : (l.take j ++ List.replicate (l.length - j) zCe).set j l[j] = l.take (j + 1) ++ List.replicate (l.length - (j + 1)) zCe := by
  have e : l.length - j = (l.length - (j + 1)) + 1 := by omega
  have hlen : (l.take j).length = j := by rw [List.length_take]; omega
  rw [e, List.replicate_succ, List.set_append_right _ _ (by omega), hlen, Nat.sub_self, List.set_cons_zero, List.take_succ_eq_append_getElem h, List.append_assoc]
  rfl
theorem copyCell_at (l : List Ce) (j : Nat) (h : j < l.length) (h2 : j < (l.take j ++ List.replicate (l.length - j) zCe).length) : (l.take j ++ List.replicate (l.length - j) zCe)[j] = zCe := by
  have hlen : (l.take j).length = j := by rw [List.length_take]; omega
  rw [List.getElem_append_right (by omega)]
  simp
set_option maxHeartbeats 2000000 in
theorem toCellS_calls {v : Value} {l : List Ce} (hn : l.length ≤ 1048576) (w : World) (ha : ArgCells w v l) :
    Calls Try.prog 70 #[v] w fun e w' => ∃ u, e = .returned u ∧ w'.ownsRow w.heap.size 57 8 u l.length (ceV l) ∧ Below w.heap.size w w' := by
  obtain ⟨-, ⟨aa, ca, rfl, ga⟩, -⟩ := ha
  have HGA : Hid (CeG w aa l) := ga
  obtain ⟨n, hl⟩ : ∃ n, n = l.length := ⟨_, rfl⟩
  rw [← hl]
  rw [← hl] at hn
  have HL : Hid (n = l.length) := hl
  have hmk := makeCell w n hn
  have HO : Hid ((w.alloc (.cells (ceV (List.replicate n zCe)).toArray 57)).ownsRow w.heap.size 57 8 (.slice (some ⟨w.heap.size, 0, none⟩) n n) n (ceV (l.take 0 ++ List.replicate (l.length - 0) zCe))) := by
    have e : l.take 0 ++ List.replicate (l.length - 0) zCe = List.replicate n zCe := by simp [hl]
    show World.ownsRow _ _ _ _ _ _ _
    rw [e]
    exact own_flat (wide_ce _) (MapKept.heap_alloc w _).1 (Nat.le_refl _) (by simp) (by unfold maxLen; omega)
  have HB : Hid (Below w.heap.size w (w.alloc (.cells (ceV (List.replicate n zCe)).toArray 57))) := (Below.refl _ _).alloc (Nat.le_refl _) _
  generalize w.alloc (.cells (ceV (List.replicate n zCe)).toArray 57) = w1 at *
  clear ga hl
  go_enter Try.func70, Try.ntmps70
  go_wp2
  go_loopw [4] (fun z wr => ∃ j : Nat, j ≤ n ∧ z = .int .i64 j ∧ wr.ownsRow w.heap.size 57 8 (.slice (some ⟨w.heap.size, 0, none⟩) n n) n (ceV (l.take j ++ List.replicate (l.length - j) zCe)) ∧ Below w.heap.size w wr) (fun z _ => n - (intOf z).toNat)
  case atStart => exact ⟨0, Nat.zero_le _, rfl, HO.out, HB.out⟩
  case round =>
    clear HO HB hmk
    obtain ⟨j, hj, rfl, hown, hbel⟩ := hrel
    have HOW : Hid (wr.ownsRow w.heap.size 57 8 (.slice (some ⟨w.heap.size, 0, none⟩) n n) n (ceV (l.take j ++ List.replicate (l.length - j) zCe))) := hown
    have HBE : Hid (Below w.heap.size w wr) := hbel
    clear hown hbel
    by_cases hlt : j < n
    · have hjl : j < l.length := by rw [← HL.out]; exact hlt
      obtain ⟨g, f, rfl, hg, hcc⟩ := HGA.out (by omega)
      have hj1 : (j : Int) < n := by omega
      have hj0 : (0 : Int) ≤ j := by omega
      have c1 := (hcc j hjl).below HBE.out hg
      have HSET : Hid (ceV ((l.take j ++ List.replicate (l.length - j) zCe).set j l[j]) = ceV (l.take (j + 1) ++ List.replicate (l.length - (j + 1)) zCe)) := by show _ = _; rw [copyCell_set l j hjl]
      have hlj : j < (l.take j ++ List.replicate (l.length - j) zCe).length := by simp; omega
      have hat := ceV_at _ j hlj
      rw [copyCell_at l j hjl] at hat
      generalize l[j] = x at *
      unfold ceC at c1
      obtain ⟨c10, c11, c12, c13, c14, c15, c16, c17⟩ := c1
      clear hcc
      go_wp2_with fail
      refine (toCell_calls x wr).mono ?_
      rintro e w1 ⟨rfl, hb⟩
      have hown1 := own_below HOW.out hb
      have hb1 := HBE.out.trans (hb.mono HBE.out.size)
      obtain ⟨h0, h1, h2, h3, h4, h5, h6, h7⟩ := hat
      have k0 : w1.cell? ⟨w.heap.size, j * 8, none⟩ = some (.string zCe.o) := by rw [hown1.cellAt (j * 8) (by omega)]; exact h0
      have q0 := hown1.frozenAt (j * 8)
      have k1 : w1.cell? ⟨w.heap.size, j * 8 + 1, none⟩ = some (.int .i64 zCe.r) := by rw [hown1.cellAt (j * 8 + 1) (by omega)]; exact h1
      have q1 := hown1.frozenAt (j * 8 + 1)
      have k2 : w1.cell? ⟨w.heap.size, j * 8 + 2, none⟩ = some (.int .i64 zCe.s) := by rw [hown1.cellAt (j * 8 + 2) (by omega)]; exact h2
      have q2 := hown1.frozenAt (j * 8 + 2)
      have k3 : w1.cell? ⟨w.heap.size, j * 8 + 3, none⟩ = some (.int .i64 zCe.t) := by rw [hown1.cellAt (j * 8 + 3) (by omega)]; exact h3
      have q3 := hown1.frozenAt (j * 8 + 3)
      have k4 : w1.cell? ⟨w.heap.size, j * 8 + 4, none⟩ = some (.int .i64 zCe.x) := by rw [hown1.cellAt (j * 8 + 4) (by omega)]; exact h4
      have q4 := hown1.frozenAt (j * 8 + 4)
      have k5 : w1.cell? ⟨w.heap.size, j * 8 + 5, none⟩ = some (.int .i64 zCe.z) := by rw [hown1.cellAt (j * 8 + 5) (by omega)]; exact h5
      have q5 := hown1.frozenAt (j * 8 + 5)
      have k6 : w1.cell? ⟨w.heap.size, j * 8 + 6, none⟩ = some (.int .i64 zCe.v) := by rw [hown1.cellAt (j * 8 + 6) (by omega)]; exact h6
      have q6 := hown1.frozenAt (j * 8 + 6)
      have k7 : w1.cell? ⟨w.heap.size, j * 8 + 7, none⟩ = some (.bool zCe.g) := by rw [hown1.cellAt (j * 8 + 7) (by omega)]; exact h7
      have q7 := hown1.frozenAt (j * 8 + 7)
      have s0 := hown1.stored (j * 8) (.string x.o)
      have s1 := s0.1.stored (j * 8 + 1) (.int .i64 x.r)
      have s2 := s1.1.stored (j * 8 + 2) (.int .i64 x.s)
      have s3 := s2.1.stored (j * 8 + 3) (.int .i64 x.t)
      have s4 := s3.1.stored (j * 8 + 4) (.int .i64 x.x)
      have s5 := s4.1.stored (j * 8 + 5) (.int .i64 x.z)
      have s6 := s5.1.stored (j * 8 + 6) (.int .i64 x.v)
      have s7 := s6.1.stored (j * 8 + 7) (.bool x.g)
      have HST : Hid (((((((((w1.setCell ⟨w.heap.size, j * 8, none⟩ (.string x.o)).setCell ⟨w.heap.size, j * 8 + 1, none⟩ (.int .i64 x.r)).setCell ⟨w.heap.size, j * 8 + 2, none⟩ (.int .i64 x.s)).setCell ⟨w.heap.size, j * 8 + 3, none⟩ (.int .i64 x.t)).setCell ⟨w.heap.size, j * 8 + 4, none⟩ (.int .i64 x.x)).setCell ⟨w.heap.size, j * 8 + 5, none⟩ (.int .i64 x.z)).setCell ⟨w.heap.size, j * 8 + 6, none⟩ (.int .i64 x.v)).setCell ⟨w.heap.size, j * 8 + 7, none⟩ (.bool x.g)).ownsRow w.heap.size 57 8 (.slice (some ⟨w.heap.size, 0, none⟩) n n) n (ceV (l.take (j + 1) ++ List.replicate (l.length - (j + 1)) zCe))) := by
        have := s7.1
        rw [ce_sets _ j hlj x, HSET.out] at this
        exact this
      have HB : Hid (Below w.heap.size w ((((((((w1.setCell ⟨w.heap.size, j * 8, none⟩ (.string x.o)).setCell ⟨w.heap.size, j * 8 + 1, none⟩ (.int .i64 x.r)).setCell ⟨w.heap.size, j * 8 + 2, none⟩ (.int .i64 x.s)).setCell ⟨w.heap.size, j * 8 + 3, none⟩ (.int .i64 x.t)).setCell ⟨w.heap.size, j * 8 + 4, none⟩ (.int .i64 x.x)).setCell ⟨w.heap.size, j * 8 + 5, none⟩ (.int .i64 x.z)).setCell ⟨w.heap.size, j * 8 + 6, none⟩ (.int .i64 x.v)).setCell ⟨w.heap.size, j * 8 + 7, none⟩ (.bool x.g))) := ((((((((hb1.setCell (p := ⟨w.heap.size, j * 8, none⟩) (Nat.le_refl _) _).setCell (p := ⟨w.heap.size, j * 8 + 1, none⟩) (Nat.le_refl _) _).setCell (p := ⟨w.heap.size, j * 8 + 2, none⟩) (Nat.le_refl _) _).setCell (p := ⟨w.heap.size, j * 8 + 3, none⟩) (Nat.le_refl _) _).setCell (p := ⟨w.heap.size, j * 8 + 4, none⟩) (Nat.le_refl _) _).setCell (p := ⟨w.heap.size, j * 8 + 5, none⟩) (Nat.le_refl _) _).setCell (p := ⟨w.heap.size, j * 8 + 6, none⟩) (Nat.le_refl _) _).setCell (p := ⟨w.heap.size, j * 8 + 7, none⟩) (Nat.le_refl _) _)
      clear s0 h0 c10 s1 h1 c11 s2 h2 c12 s3 h3 c13 s4 h4 c14 s5 h5 c15 s6 h6 c16 s7 h7 c17 hown1 hb1 hb HOW HBE hjl HSET hlj
      go_wp2
      go_roundw
      case rel => exact ⟨j + 1, by omega, by go_num, HST.out, HB.out⟩
      case measure => simp [intOf]; omega
    · have hj1 : ¬ ((j : Int) < n) := by omega
      have HO : Hid (wr.ownsRow w.heap.size 57 8 (.slice (some ⟨w.heap.size, 0, none⟩) n n) n (ceV l)) := by
        have hjn : j = l.length := by have := HL.out; omega
        have hown := HOW.out
        rw [hjn, List.take_of_length_le (Nat.le_refl _), Nat.sub_self] at hown
        show World.ownsRow _ _ _ _ _ _ _
        simpa using hown
      clear HOW
      go_wp2
      go_ret
      exact ⟨_, rfl, HO.out, HBE.out⟩

end Go.Proofs.Ytahdgagipmpcgaa
