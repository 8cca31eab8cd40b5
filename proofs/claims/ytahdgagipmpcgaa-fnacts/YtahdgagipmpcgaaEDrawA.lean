/- What is drawn for an act: a dot within its bounds, a name. An act is copied. An act is copied, whatever it knew. -/
import Derived.Test.YtahdgagipmpcgaaKDraw
import Derived.Test.YtahdgagipmpcgaaALaw6
namespace Go.Proofs.Ytahdgagipmpcgaa
set_option maxRecDepth 100000
set_option linter.unusedVariables false
open Go.RowKit

set_option maxHeartbeats 1000000 in
theorem dotB (B p : Nat) (v : Value) (n : Nat) (hn : n ≤ 1048576) (w : World) (hB : B ≤ w.heap.size) (hc : Cur w B p v n) :
    Calls Try.prog 94 #[.pointer (some ⟨p, 0, none⟩)] w fun e w' => ∃ x y : Nat, x < 3 ∧ y < 5 ∧ e = .returned (dot (x : Int) (1 + (y : Int))) ∧ Drew w w' B p v n := by
  have hp := hc.lt
  have hpne : (some p : Option Nat) ≠ some w.heap.size := by intro e; cases e; omega
  have hc0 : Drew w (w.alloc (.cells #[.int .i64 0, .int .i64 0] 47)) B p v n := (Drew.refl hc).alloc hp hB _
  have hF0 : DotAt (w.alloc (.cells #[.int .i64 0, .int .i64 0] 47)) w.heap.size 0 0 := dotAt_new w _ _ rfl
  go_enter Try.func94, Try.ntmps94
  go_wp2_with fail
  refine (belowD 3 (by omega) (by omega) B p v n hn _ hc0.1).mono ?_
  rintro e w1 ⟨x, rfl, hx, hd1⟩
  have hF1 : DotAt w1 w.heap.size 0 0 := (hd1.2.block _ hF0.lt (fun e => hpne e.symm)).trans hF0
  have hd01 := hc0.trans hd1
  go_wp2_with fail
  refine (belowD 5 (by omega) (by omega) B p v n hn _ hd01.1).mono ?_
  rintro e w2 ⟨y, rfl, hy, hd2⟩
  have hF2 : DotAt w2 w.heap.size 0 0 := (hd2.2.block _ hF1.lt (fun e => hpne e.symm)).trans hF1
  have hd02 := hd01.trans hd2
  have c0 := hF2.c0
  have c1 := hF2.c1
  have f0 := hF2.free 0
  have f1 := hF2.free 1
  clear hF0 hF1 hc0 hd1 hd2 hd01
  go_wp2
  exact bodyPost_ret (ret_dot rfl rfl ((hF2.set0 _).set1 _)) rfl ⟨x, y, hx, hy, rfl, (hd02.set hp hB (Nat.le_refl _) 0 _).set hp hB (Nat.le_refl _) 1 _⟩

theorem nameC_new (w : World) (a b c : ByteArray) (e : TypeId) (h : a.size ≤ 8 ∧ b.size ≤ 8 ∧ c.size ≤ 8) : ∀ i, i < 3 → ∃ z : ByteArray, z.size ≤ 8 ∧ (w.alloc (.cells #[.string a, .string b, .string c] e)).cell? ⟨w.heap.size, i, none⟩ = some (.string z) := by
  intro i hi
  have hr : Row (w.alloc (.cells #[.string a, .string b, .string c] e)) w.heap.size #[.string a, .string b, .string c] e := row_new _ _ _ rfl
  match i, hi with
  | 0, _ => exact ⟨a, h.1, hr.cell 0 rfl⟩
  | 1, _ => exact ⟨b, h.2.1, hr.cell 1 rfl⟩
  | 2, _ => exact ⟨c, h.2.2, hr.cell 2 rfl⟩
set_option maxHeartbeats 1000000 in
theorem pickS (m g cap : Nat) (h0 : 0 < m) (hm : m ≤ 1000) (B p : Nat) (v : Value) (n : Nat) (hn : n ≤ 1048576) (w : World) (hc : Cur w B p v n) (hgp : g ≠ p) (hg : ∀ i, i < m → ∃ z : ByteArray, z.size ≤ 9 ∧ w.cell? ⟨g, i, none⟩ = some (.string z)) :
    Calls Try.prog 123 #[.pointer (some ⟨p, 0, none⟩), .slice (some ⟨g, 0, none⟩) m cap] w fun e w' => ∃ z : ByteArray, z.size ≤ 9 ∧ (∃ i, i < m ∧ w.cell? ⟨g, i, none⟩ = some (.string z)) ∧ e = .returned (.string z) ∧ Drew w w' B p v n := by
  go_enter Try.func123, Try.ntmps123
  go_wp2_with fail
  refine (belowD m h0 (by omega) B p v n hn _ hc).mono ?_
  rintro e w1 ⟨x, rfl, hx, hd1⟩
  obtain ⟨z, hz8, hz⟩ := hg x hx
  have c0 := hd1.2.cell (a := ⟨g, x, none⟩) hz (by simpa using hgp)
  have x0 : (0 : Int) ≤ (x : Int) := Int.natCast_nonneg _
  have x1 : (x : Int) < (m : Int) := by omega
  go_wp2
  go_ret
  exact ⟨z, hz8, ⟨x, hx, hz⟩, rfl, hd1⟩

set_option maxHeartbeats 1000000 in
theorem objD (B p : Nat) (v : Value) (n : Nat) (hn : n ≤ 1048576) (w : World) (hB : B ≤ w.heap.size) (hc : Cur w B p v n) :
    Calls Try.prog 92 #[.pointer (some ⟨p, 0, none⟩)] w fun e w' => ∃ z : ByteArray, z.size ≤ 9 ∧ e = .returned (.string z) ∧ Drew w w' B p v n := by
  have hp := hc.lt
  have hd := (Drew.refl hc).alloc hp hB (.cells #[.string { data := #[97] }, .string { data := #[98] }, .string { data := #[116, 97, 108, 108, 121] }] 9)
  have HG := hidI (nameC_new w ({ data := #[97] }) ({ data := #[98] }) ({ data := #[116, 97, 108, 108, 121] }) 9 (by decide))
  go_enter Try.func92, Try.ntmps92
  go_wp2_with fail
  refine (pickS 3 w.heap.size 3 (by omega) (by omega) B p v n hn _ hd.1 (by omega) (fun i hi => by obtain ⟨z, h1, h2⟩ := HG.out i hi; exact ⟨z, by omega, h2⟩)).mono ?_
  rintro e w1 ⟨z, hz, -, rfl, hd1⟩
  have hd2 := hd.trans hd1
  clear hd hd1 HG
  go_wp2
  go_ret
  exact ⟨z, hz, rfl, hd2⟩

set_option maxHeartbeats 1000000 in
theorem keyD (B p : Nat) (v : Value) (n : Nat) (hn : n ≤ 1048576) (w : World) (hB : B ≤ w.heap.size) (hc : Cur w B p v n) :
    Calls Try.prog 93 #[.pointer (some ⟨p, 0, none⟩)] w fun e w' => ∃ z : ByteArray, z.size ≤ 9 ∧ e = .returned (.string z) ∧ Drew w w' B p v n := by
  have hp := hc.lt
  have hd := (Drew.refl hc).alloc hp hB (.cells #[.string { data := #[120] }, .string { data := #[121] }, .string { data := #[122, 111, 111] }] 9)
  have HG := hidI (nameC_new w ({ data := #[120] }) ({ data := #[121] }) ({ data := #[122, 111, 111] }) 9 (by decide))
  go_enter Try.func93, Try.ntmps93
  go_wp2_with fail
  refine (pickS 3 w.heap.size 3 (by omega) (by omega) B p v n hn _ hd.1 (by omega) (fun i hi => by obtain ⟨z, h1, h2⟩ := HG.out i hi; exact ⟨z, by omega, h2⟩)).mono ?_
  rintro e w1 ⟨z, hz, -, rfl, hd1⟩
  have hd2 := hd.trans hd1
  clear hd hd1 HG
  go_wp2
  go_ret
  exact ⟨z, hz, rfl, hd2⟩


open Go.RowKit

set_option maxHeartbeats 4000000 in
theorem copyA (A : Ac) (g ca : Nat) (w : World) (hl : A.l.length = 3) (hu : IntsAt w (.slice (some ⟨g, 0, none⟩) 3 ca) A.l) :
    Calls Try.prog 122 #[.agg #[.int .i64 A.r, .int .i64 A.s, .int .i64 A.t, .slice (some ⟨g, 0, none⟩) 3 ca, .int .i64 A.k, .string A.o, .string A.y, .int .i64 A.v, .int .i64 A.x, .int .i64 A.z]] w fun e w' => ∃ g' ca', e = .returned (A.val (.slice (some ⟨g', 0, none⟩) 3 ca')) ∧ w'.ownsRow w.heap.size 3 1 (.slice (some ⟨g', 0, none⟩) 3 ca') 3 (intV A.l) ∧ Below w.heap.size w w' := by
  obtain ⟨i0, hi, hz0, hz1, hz2⟩ := info_parts infoInt
  obtain ⟨W, hW⟩ : ∃ W, W = (((w.alloc (.cells #[.int .i64 A.r, .int .i64 A.s, .int .i64 A.t, .slice (some ⟨g, 0, none⟩) 3 ca, .int .i64 A.k, .string A.o, .string A.y, .int .i64 A.v, .int .i64 A.x, .int .i64 A.z] 75)).alloc (.cells zAct 75)).alloc (.cells #[.int .i64 A.r, .int .i64 A.s, .int .i64 A.t, .slice (some ⟨g, 0, none⟩) 3 ca, .int .i64 A.k, .string A.o, .string A.y, .int .i64 A.v, .int .i64 A.x, .int .i64 A.z] 75)).alloc (.cells #[] 3) := ⟨_, rfl⟩
  have hbW : Below w.heap.size w W := by rw [hW]; exact ((((Below.refl _ _).alloc (Nat.le_refl _) _).alloc (by simp) _).alloc (by simp; omega) _).alloc (by simp; omega) _
  have hWs : W.heap.size = w.heap.size + 1 + 1 + 1 + 1 := by rw [hW]; simp
  have HP : Hid (Row W w.heap.size #[.int .i64 A.r, .int .i64 A.s, .int .i64 A.t, .slice (some ⟨g, 0, none⟩) 3 ca, .int .i64 A.k, .string A.o, .string A.y, .int .i64 A.v, .int .i64 A.x, .int .i64 A.z] 75) := by rw [hW]; exact (((row_new w _ _ rfl).alloc _).alloc _).alloc _
  have HO : Hid (Row W (w.heap.size + 1) zAct 75) := by rw [hW]; exact ((row_new _ _ _ (by simp)).alloc _).alloc _
  have HT : Hid (Row W (w.heap.size + 1 + 1) #[.int .i64 A.r, .int .i64 A.s, .int .i64 A.t, .slice (some ⟨g, 0, none⟩) 3 ca, .int .i64 A.k, .string A.o, .string A.y, .int .i64 A.v, .int .i64 A.x, .int .i64 A.z] 75) := by rw [hW]; exact (row_new _ _ _ (by simp)).alloc _
  have HE : Hid (W.ownsRow (w.heap.size + 1 + 1 + 1) 3 1 (.slice (some ⟨w.heap.size + 1 + 1 + 1, 0, none⟩) 0 0) 0 []) := by rw [hW]; exact own_none _ 3 1 (by simp) (Nat.le_refl _)
  have hI : IntsAt W (.slice (some ⟨g, 0, none⟩) 3 ca) A.l := hu.below hbW
  have HNN : Hid (∀ j x, (intV A.l)[j]? = some x → W.cell? (Addr.add ⟨g, 0, none⟩ j) = some x) := fun j x hj => by
    obtain ⟨aa, cc, he, hg⟩ := hI
    rw [hl] at he
    simp only [Value.slice.injEq] at he
    obtain ⟨g1, hg1, -, hcc⟩ := hg (by omega)
    rw [← he.1] at hg1
    simp only [Option.some.injEq, Addr.mk.injEq, and_true] at hg1
    have hjl : j < A.l.length := by have := (List.getElem?_eq_some_iff.1 hj).1; simpa [intV] using this
    rw [addr_add, hg1, hcc j (by omega)]
    rw [← hj]; simp [intV, hjl]
  have hlen : (intV A.l).length = 3 := by simp [intV, hl]
  have HB : Hid (Below w.heap.size w W) := hbW
  have HW : Hid ((((w.alloc (.cells #[.int .i64 A.r, .int .i64 A.s, .int .i64 A.t, .slice (some ⟨g, 0, none⟩) 3 ca, .int .i64 A.k, .string A.o, .string A.y, .int .i64 A.v, .int .i64 A.x, .int .i64 A.z] 75)).alloc (.cells zAct 75)).alloc (.cells #[.int .i64 A.r, .int .i64 A.s, .int .i64 A.t, .slice (some ⟨g, 0, none⟩) 3 ca, .int .i64 A.k, .string A.o, .string A.y, .int .i64 A.v, .int .i64 A.x, .int .i64 A.z] 75)).alloc (.cells #[] 3) = W) := hW.symm
  unfold zAct at HW
  have HNK := hidI (show ∀ u' ∈ intV A.l, ∃ z, u' = Value.int .i64 z from fun u' h => by simp [intV] at h; obtain ⟨z, -, rfl⟩ := h; exact ⟨z, rfl⟩)
  clear hW hbW hu hI
  obtain ⟨p0, p1, p2, p3, p4, p5, p6, p7, p8, p9⟩ := Row.ten HP.out
  rw [← HW.out] at p3 HE HNN
  go_enter Try.func122, Try.ntmps122
  go_wp2_with (at_builtin; refine wpList_append_own _ rfl _ _ 22 rfl (w.heap.size + 1 + 1 + 1) 3 i0 (.int .i64 0) 1 8 Try.underlying22 hi hz0 hz1 hz2 rfl (by decide) _ _ _ rfl HE.out ⟨g, 0, none⟩ 3 ca (intV A.l) rfl hlen HNN.out (by intro u' hu'; obtain ⟨z, rfl⟩ := HNK.out u' hu'; rfl) (by unfold maxLen; omega) (by omega) (by simp <;> omega) ?_)
  intro v2 w4 ho hgr hne
  rw [HW.out] at hgr
  have hb4 : Below w.heap.size w w4 := HB.out.grown hgr (by omega) (fun k hk => by simp [Value.ownBlock] at hk; omega)
  have hr4 : ∀ {gg : Nat} {cs : Array Value} {T : TypeId}, Row W gg cs T → gg < w.heap.size + 1 + 1 + 1 → Row w4 gg cs T := fun h hl => Row.grown h hgr (by simp [Value.ownBlock]; omega)
  have HO4 := hidI (hr4 HO.out (by omega))
  have HT4 := hidI (hr4 HT.out (by omega))
  replace ho : w4.ownsRow (w.heap.size + 1 + 1 + 1) 3 1 v2 3 (intV A.l) := by first | exact ho | simpa using ho
  obtain ⟨aa, ac, hv, hgg⟩ := IntsAt.own (l := A.l) ho hl
  rw [hl] at hv
  obtain ⟨g', rfl, -, -⟩ := hgg (by omega)
  subst hv
  have HOW : Hid (w4.ownsRow (w.heap.size + 1 + 1 + 1) 3 1 (.slice (some ⟨g', 0, none⟩) 3 ac) 3 (intV A.l)) := ho
  have HB4 := hidI hb4
  clear ho hgr hne hb4 hr4 HE HNN HNK HW HO HT HP HB p3
  clear hgg
  obtain ⟨t0, t1, t2, t3, t4, t5, t6, t7, t8, t9⟩ := Row.ten HT4.out
  have f3 := HT4.out.free 3
  obtain ⟨o0, o1, o2, o3, o4, o5, o6, o7, o8, o9⟩ := Row.ten HO4.out
  obtain ⟨g0, g1, g2, g3, g4, g5, g6, g7, g8, g9⟩ := HO4.out.frees
  go_wp2
  rw [store10_eq]
  have HR := HO4.out.other (p := ⟨w.heap.size + 1 + 1, 3, none⟩) (by simp) (.slice (some ⟨g', 0, none⟩) 3 ac)
  have HS := own_set (i := 3) (x := .slice (some ⟨g', 0, none⟩) 3 ac) HOW.out (show w.heap.size + 1 + 1 < w.heap.size + 1 + 1 + 1 by omega)
  have HBB := HB4.out.setCell (p := ⟨w.heap.size + 1 + 1, 3, none⟩) (by simp; omega) (.slice (some ⟨g', 0, none⟩) 3 ac)
  clear t0 o0 g0 t1 o1 g1 t2 o2 g2 t3 o3 g3 t4 o4 g4 t5 o5 g5 t6 o6 g6 t7 o7 g7 t8 o8 g8 t9 o9 g9 f3
  generalize w4.setCell ⟨w.heap.size + 1 + 1, 3, none⟩ (.slice (some ⟨g', 0, none⟩) 3 ac) = w6 at *
  have HZ : ActAt (store10 w6 (w.heap.size + 1) A (.slice (some ⟨g', 0, none⟩) 3 ac)) (w.heap.size + 1) A (.slice (some ⟨g', 0, none⟩) 3 ac) := store10_at HR A _
  have OW := own_base (own_store10 (g := w.heap.size + 1) HS (by omega) A (.slice (some ⟨g', 0, none⟩) 3 ac)) (show w.heap.size ≤ w.heap.size + 1 + 1 + 1 by omega)
  have BL := store10_below HBB (show w.heap.size ≤ w.heap.size + 1 by omega) A (.slice (some ⟨g', 0, none⟩) 3 ac)
  generalize store10 w6 (w.heap.size + 1) A (.slice (some ⟨g', 0, none⟩) 3 ac) = w9 at *
  exact bodyPost_ret (ret_act rfl rfl HZ) rfl ⟨g', ac, rfl, OW, BL⟩


open Go.RowKit

set_option maxHeartbeats 4000000 in
theorem copyB (A : Ac) (g ca : Nat) (w : World) (hm0 : 0 < A.l.length) (hm1 : A.l.length ≤ 1000) (hu : IntsAt w (.slice (some ⟨g, 0, none⟩) A.l.length ca) A.l) :
    Calls Try.prog 122 #[.agg #[.int .i64 A.r, .int .i64 A.s, .int .i64 A.t, .slice (some ⟨g, 0, none⟩) A.l.length ca, .int .i64 A.k, .string A.o, .string A.y, .int .i64 A.v, .int .i64 A.x, .int .i64 A.z]] w fun e w' => ∃ g' ca', e = .returned (A.val (.slice (some ⟨g', 0, none⟩) A.l.length ca')) ∧ w'.ownsRow w.heap.size 3 1 (.slice (some ⟨g', 0, none⟩) A.l.length ca') A.l.length (intV A.l) ∧ Below w.heap.size w w' := by
  obtain ⟨i0, hi, hz0, hz1, hz2⟩ := info_parts infoInt
  obtain ⟨W, hW⟩ : ∃ W, W = (((w.alloc (.cells #[.int .i64 A.r, .int .i64 A.s, .int .i64 A.t, .slice (some ⟨g, 0, none⟩) A.l.length ca, .int .i64 A.k, .string A.o, .string A.y, .int .i64 A.v, .int .i64 A.x, .int .i64 A.z] 75)).alloc (.cells zAct 75)).alloc (.cells #[.int .i64 A.r, .int .i64 A.s, .int .i64 A.t, .slice (some ⟨g, 0, none⟩) A.l.length ca, .int .i64 A.k, .string A.o, .string A.y, .int .i64 A.v, .int .i64 A.x, .int .i64 A.z] 75)).alloc (.cells #[] 3) := ⟨_, rfl⟩
  have hbW : Below w.heap.size w W := by rw [hW]; exact ((((Below.refl _ _).alloc (Nat.le_refl _) _).alloc (by simp) _).alloc (by simp; omega) _).alloc (by simp; omega) _
  have hWs : W.heap.size = w.heap.size + 1 + 1 + 1 + 1 := by rw [hW]; simp
  have HP : Hid (Row W w.heap.size #[.int .i64 A.r, .int .i64 A.s, .int .i64 A.t, .slice (some ⟨g, 0, none⟩) A.l.length ca, .int .i64 A.k, .string A.o, .string A.y, .int .i64 A.v, .int .i64 A.x, .int .i64 A.z] 75) := by rw [hW]; exact (((row_new w _ _ rfl).alloc _).alloc _).alloc _
  have HO : Hid (Row W (w.heap.size + 1) zAct 75) := by rw [hW]; exact ((row_new _ _ _ (by simp)).alloc _).alloc _
  have HT : Hid (Row W (w.heap.size + 1 + 1) #[.int .i64 A.r, .int .i64 A.s, .int .i64 A.t, .slice (some ⟨g, 0, none⟩) A.l.length ca, .int .i64 A.k, .string A.o, .string A.y, .int .i64 A.v, .int .i64 A.x, .int .i64 A.z] 75) := by rw [hW]; exact (row_new _ _ _ (by simp)).alloc _
  have HE : Hid (W.ownsRow (w.heap.size + 1 + 1 + 1) 3 1 (.slice (some ⟨w.heap.size + 1 + 1 + 1, 0, none⟩) 0 0) 0 []) := by rw [hW]; exact own_none _ 3 1 (by simp) (Nat.le_refl _)
  have hI : IntsAt W (.slice (some ⟨g, 0, none⟩) A.l.length ca) A.l := hu.below hbW
  have HNN : Hid (∀ j x, (intV A.l)[j]? = some x → W.cell? (Addr.add ⟨g, 0, none⟩ j) = some x) := fun j x hj => by
    obtain ⟨aa, cc, he, hg⟩ := hI
    simp only [Value.slice.injEq] at he
    obtain ⟨g1, hg1, -, hcc⟩ := hg (by omega)
    rw [← he.1] at hg1
    simp only [Option.some.injEq, Addr.mk.injEq, and_true] at hg1
    have hjl : j < A.l.length := by have := (List.getElem?_eq_some_iff.1 hj).1; simpa [intV] using this
    rw [addr_add, hg1, hcc j (by omega)]
    rw [← hj]; simp [intV, hjl]
  have hlen : (intV A.l).length = A.l.length * 1 := by simp [intV]
  have HB : Hid (Below w.heap.size w W) := hbW
  have HW : Hid ((((w.alloc (.cells #[.int .i64 A.r, .int .i64 A.s, .int .i64 A.t, .slice (some ⟨g, 0, none⟩) A.l.length ca, .int .i64 A.k, .string A.o, .string A.y, .int .i64 A.v, .int .i64 A.x, .int .i64 A.z] 75)).alloc (.cells zAct 75)).alloc (.cells #[.int .i64 A.r, .int .i64 A.s, .int .i64 A.t, .slice (some ⟨g, 0, none⟩) A.l.length ca, .int .i64 A.k, .string A.o, .string A.y, .int .i64 A.v, .int .i64 A.x, .int .i64 A.z] 75)).alloc (.cells #[] 3) = W) := hW.symm
  unfold zAct at HW
  have HNK := hidI (show ∀ u' ∈ intV A.l, ∃ z, u' = Value.int .i64 z from fun u' h => by simp [intV] at h; obtain ⟨z, -, rfl⟩ := h; exact ⟨z, rfl⟩)
  clear hW hbW hu hI
  obtain ⟨p0, p1, p2, p3, p4, p5, p6, p7, p8, p9⟩ := Row.ten HP.out
  rw [← HW.out] at p3 HE HNN
  go_enter Try.func122, Try.ntmps122
  go_wp2_with (at_builtin; refine wpList_append_own _ rfl _ _ 22 rfl (w.heap.size + 1 + 1 + 1) 3 i0 (.int .i64 0) 1 8 Try.underlying22 hi hz0 hz1 hz2 rfl (by decide) _ _ _ rfl HE.out ⟨g, 0, none⟩ A.l.length ca (intV A.l) rfl hlen HNN.out (by intro u' hu'; obtain ⟨z, rfl⟩ := HNK.out u' hu'; rfl) (by unfold maxLen; omega) (by omega) (by simp <;> omega) ?_)
  intro v2 w4 ho hgr hne
  rw [HW.out] at hgr
  have hb4 : Below w.heap.size w w4 := HB.out.grown hgr (by omega) (fun k hk => by simp [Value.ownBlock] at hk; omega)
  have hr4 : ∀ {gg : Nat} {cs : Array Value} {T : TypeId}, Row W gg cs T → gg < w.heap.size + 1 + 1 + 1 → Row w4 gg cs T := fun h hl => Row.grown h hgr (by simp [Value.ownBlock]; omega)
  have HO4 := hidI (hr4 HO.out (by omega))
  have HT4 := hidI (hr4 HT.out (by omega))
  replace ho : w4.ownsRow (w.heap.size + 1 + 1 + 1) 3 1 v2 A.l.length (intV A.l) := by first | exact ho | simpa using ho
  obtain ⟨aa, ac, hv, hgg⟩ := IntsAt.own (l := A.l) ho rfl
  obtain ⟨g', rfl, -, -⟩ := hgg (by omega)
  subst hv
  have HOW : Hid (w4.ownsRow (w.heap.size + 1 + 1 + 1) 3 1 (.slice (some ⟨g', 0, none⟩) A.l.length ac) A.l.length (intV A.l)) := ho
  have HB4 := hidI hb4
  clear ho hgr hne hb4 hr4 HE HNN HNK HW HO HT HP HB p3
  clear hgg
  obtain ⟨t0, t1, t2, t3, t4, t5, t6, t7, t8, t9⟩ := Row.ten HT4.out
  have f3 := HT4.out.free 3
  obtain ⟨o0, o1, o2, o3, o4, o5, o6, o7, o8, o9⟩ := Row.ten HO4.out
  obtain ⟨g0, g1, g2, g3, g4, g5, g6, g7, g8, g9⟩ := HO4.out.frees
  go_wp2
  rw [store10_eq]
  have HR := HO4.out.other (p := ⟨w.heap.size + 1 + 1, 3, none⟩) (by simp) (.slice (some ⟨g', 0, none⟩) A.l.length ac)
  have HS := own_set (i := 3) (x := .slice (some ⟨g', 0, none⟩) A.l.length ac) HOW.out (show w.heap.size + 1 + 1 < w.heap.size + 1 + 1 + 1 by omega)
  have HBB := HB4.out.setCell (p := ⟨w.heap.size + 1 + 1, 3, none⟩) (by simp; omega) (.slice (some ⟨g', 0, none⟩) A.l.length ac)
  clear t0 o0 g0 t1 o1 g1 t2 o2 g2 t3 o3 g3 t4 o4 g4 t5 o5 g5 t6 o6 g6 t7 o7 g7 t8 o8 g8 t9 o9 g9 f3
  generalize w4.setCell ⟨w.heap.size + 1 + 1, 3, none⟩ (.slice (some ⟨g', 0, none⟩) A.l.length ac) = w6 at *
  have HZ : ActAt (store10 w6 (w.heap.size + 1) A (.slice (some ⟨g', 0, none⟩) A.l.length ac)) (w.heap.size + 1) A (.slice (some ⟨g', 0, none⟩) A.l.length ac) := store10_at HR A _
  have OW := own_base (own_store10 (g := w.heap.size + 1) HS (by omega) A (.slice (some ⟨g', 0, none⟩) A.l.length ac)) (show w.heap.size ≤ w.heap.size + 1 + 1 + 1 by omega)
  have BL := store10_below HBB (show w.heap.size ≤ w.heap.size + 1 by omega) A (.slice (some ⟨g', 0, none⟩) A.l.length ac)
  generalize store10 w6 (w.heap.size + 1) A (.slice (some ⟨g', 0, none⟩) A.l.length ac) = w9 at *
  exact bodyPost_ret (ret_act rfl rfl HZ) rfl ⟨g', ac, rfl, OW, BL⟩


end Go.Proofs.Ytahdgagipmpcgaa
