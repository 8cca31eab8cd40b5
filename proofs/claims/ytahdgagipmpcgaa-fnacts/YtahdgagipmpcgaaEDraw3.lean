/- An act is drawn. -/
import Derived.Test.YtahdgagipmpcgaaEDrawA
namespace Go.Proofs.Ytahdgagipmpcgaa
set_option maxRecDepth 100000
set_option linter.unusedVariables false
open Go.RowKit

theorem empty9 : ByteArray.size { data := #[] } ≤ 9 := by decide
theorem own_other3 {w : World} {B n g i : Nat} {e : TypeId} {s : Nat} {gg ca : Nat} {x : Value} {xs : List Value} (h : w.ownsRow B e s (.slice (some ⟨gg, 0, none⟩) 3 ca) n xs) (hg : gg ≠ g) : (w.setCell ⟨g, i, none⟩ x).ownsRow B e s (.slice (some ⟨gg, 0, none⟩) 3 ca) n xs := by
  refine h.kept (row := some g) ⟨rfl, rfl, rfl, by simp [World.setCell], fun k hk hne => Below.heap_setCell w _ x k (fun e => hne (by rw [e]))⟩ (.inr ?_)
  simpa [Value.ownBlock] using hg
theorem store10_drew {a w : World} {B p g : Nat} {v : Value} {n : Nat} (h : Drew a w B p v n) (hp : p < a.heap.size) (hB : B ≤ a.heap.size) (hg : a.heap.size ≤ g) (A : Ac) (u : Value) : Drew a (store10 w g A u) B p v n := by
  unfold store10
  exact (((((((((h.set hp hB hg _ _).set hp hB hg _ _).set hp hB hg _ _).set hp hB hg _ _).set hp hB hg _ _).set hp hB hg _ _).set hp hB hg _ _).set hp hB hg _ _).set hp hB hg _ _).set hp hB hg _ _

set_option maxHeartbeats 8000000 in
theorem actD (B p : Nat) (v : Value) (n : Nat) (hn : n ≤ 1048576) (w : World) (hB : B ≤ w.heap.size) (hc : Cur w B p v n) :
    Calls Try.prog 160 #[.pointer (some ⟨p, 0, none⟩)] w fun e w' => ∃ (A : Ac) (g ca : Nat), A.l.length = 3 ∧ A.o.size ≤ 9 ∧ A.y.size ≤ 9 ∧ e = .returned (A.val (.slice (some ⟨g, 0, none⟩) 3 ca)) ∧ w'.ownsRow w.heap.size 3 1 (.slice (some ⟨g, 0, none⟩) 3 ca) 3 (intV A.l) ∧ Drew w w' B p v n := by
  have hp := hc.lt
  have hpne : ∀ {q : Nat}, w.heap.size ≤ q → (some p : Option Nat) ≠ some q := fun hq e => by cases e; omega
  have HPN := hidI (show ∀ (q : Nat), w.heap.size ≤ q → (some p : Option Nat) ≠ some q from fun q hq e => by cases e; omega)
  obtain ⟨W, hW⟩ : ∃ W, W = w.alloc (.cells zAct 75) := ⟨_, rfl⟩
  have HO : Hid (Row W w.heap.size zAct 75) := by rw [hW]; exact row_new w _ _ rfl
  have HD : Hid (Drew w W B p v n) := by rw [hW]; exact (Drew.refl hc).alloc hp hB _
  have hWs : w.heap.size + 1 ≤ W.heap.size := by rw [hW]; simp
  have HW : Hid (w.alloc (.cells zAct 75) = W) := hW.symm
  unfold zAct at HW
  clear hW hpne
  go_enter Try.func160, Try.ntmps160
  go_wp2_with fail
  rw [HW.out]
  clear HW
  refine (dotB B p v n hn _ (by omega) HD.out.1).mono ?_
  rintro e w1 ⟨x, y, hx, hy, rfl, hd⟩
  unfold dot
  have s1 := hd.2.size
  replace HO : Hid (Row w1 w.heap.size zAct 75) := HO.out.grown hd.2 (HPN.out _ (Nat.le_refl _))
  replace HD : Hid (Drew w w1 B p v n) := HD.out.trans hd
  clear hd
  go_wp2_with fail
  refine (belowD 9 (by omega) (by omega) B p v n hn _ HD.out.1).mono ?_
  rintro e w2 ⟨t, rfl, ht, hd⟩
  have s2 := hd.2.size
  replace HO : Hid (Row w2 w.heap.size zAct 75) := HO.out.grown hd.2 (HPN.out _ (Nat.le_refl _))
  replace HD : Hid (Drew w w2 B p v n) := HD.out.trans hd
  clear hd
  go_wp2_with fail
  refine (knowD B p v n hn _ (by omega) HD.out.1).mono ?_
  rintro e w3 ⟨u, l, hkl, rfl, ho, hd⟩
  have s3 := hd.2.size
  obtain ⟨aa, ca, hu, hgg⟩ := IntsAt.own (l := l) ho hkl.1
  rw [hkl.1] at hu
  obtain ⟨g, rfl, -, -⟩ := hgg (by have := hkl.1; omega)
  subst hu
  have hgb : w2.heap.size ≤ g := (ho.lt g rfl).1
  replace HO : Hid (Row w3 w.heap.size zAct 75) := HO.out.grown hd.2 (HPN.out _ (Nat.le_refl _))
  replace HD : Hid (Drew w w3 B p v n) := HD.out.trans hd
  have HOW : Hid (w3.ownsRow w2.heap.size 3 1 (.slice (some ⟨g, 0, none⟩) 3 ca) 3 (intV l)) := ho
  have hgl : g < w3.heap.size := (ho.lt g rfl).2
  have hl3 : l.length = 3 := hkl.1
  clear hd ho hgg hkl
  go_wp2_with fail
  refine (belowD 7 (by omega) (by omega) B p v n hn _ HD.out.1).mono ?_
  rintro e w4 ⟨k, rfl, hk, hd⟩
  have s4 := hd.2.size
  replace HO : Hid (Row w4 w.heap.size zAct 75) := HO.out.grown hd.2 (HPN.out _ (Nat.le_refl _))
  replace HD : Hid (Drew w w4 B p v n) := HD.out.trans hd
  replace HOW : Hid (w4.ownsRow w2.heap.size 3 1 (.slice (some ⟨g, 0, none⟩) 3 ca) 3 (intV l)) := own_grown HOW.out hd.2 (by omega)
  clear hd
  go_wp2_with fail
  refine (objD B p v n hn _ (by omega) HD.out.1).mono ?_
  rintro e w5 ⟨o, hob, rfl, hd⟩
  have s5 := hd.2.size
  replace HO : Hid (Row w5 w.heap.size zAct 75) := HO.out.grown hd.2 (HPN.out _ (Nat.le_refl _))
  replace HD : Hid (Drew w w5 B p v n) := HD.out.trans hd
  replace HOW : Hid (w5.ownsRow w2.heap.size 3 1 (.slice (some ⟨g, 0, none⟩) 3 ca) 3 (intV l)) := own_grown HOW.out hd.2 (by omega)
  clear hd
  have hgl5 : g < w5.heap.size := by omega
  have HO5 := HO
  have HD5 := HD
  have HOW5 := HOW
  obtain ⟨X5, hX5⟩ : ∃ X, X = w5.alloc (.cells #[.int .i64 (x : Int), .int .i64 (1 + (y : Int)), .int .i64 (1 + (t : Int)), .slice (some ⟨g, 0, none⟩) 3 ca, .int .i64 (1 + (k : Int)), .string o, .string { data := #[] }, .int .i64 0, .int .i64 0, .int .i64 0] 75) := ⟨_, rfl⟩
  have hx5s : w5.heap.size + 1 ≤ X5.heap.size := by rw [hX5]; simp
  have HT : Hid (Row X5 w5.heap.size #[.int .i64 (x : Int), .int .i64 (1 + (y : Int)), .int .i64 (1 + (t : Int)), .slice (some ⟨g, 0, none⟩) 3 ca, .int .i64 (1 + (k : Int)), .string o, .string { data := #[] }, .int .i64 0, .int .i64 0, .int .i64 0] 75) := by rw [hX5]; exact row_new _ _ _ rfl
  replace HO : Hid (Row X5 w.heap.size zAct 75) := by rw [hX5]; exact HO.out.alloc _
  replace HD : Hid (Drew w X5 B p v n) := by rw [hX5]; exact HD.out.alloc hp hB _
  replace HOW : Hid (X5.ownsRow w2.heap.size 3 1 (.slice (some ⟨g, 0, none⟩) 3 ca) 3 (intV l)) := by rw [hX5]; exact HOW.out.alloc _
  have hc0 : X5.cell? ⟨g, x, none⟩ = some (.int .i64 (l.getD x 0)) := by rw [HOW.out.cellAt x (by omega)]; simp [intV, List.getD, show x < l.length by omega]
  have hf0 := HOW.out.frozenAt x
  have x0 : (0 : Int) ≤ x := by omega
  have x1 : (x : Int) < 3 := by omega
  obtain ⟨X6, hX6⟩ : ∃ X, X = (w5.setCell ⟨g, x, none⟩ (.int .i64 (1 + (y : Int) - 1))).alloc (.cells #[.int .i64 (x : Int), .int .i64 (1 + (y : Int)), .int .i64 (1 + (t : Int)), .slice (some ⟨g, 0, none⟩) 3 ca, .int .i64 (1 + (k : Int)), .string o, .string { data := #[] }, .int .i64 0, .int .i64 0, .int .i64 0] 75) := ⟨_, rfl⟩
  have hst := (HOW5.out.stored x (.int .i64 (1 + (y : Int) - 1))).1.alloc (.cells #[.int .i64 (x : Int), .int .i64 (1 + (y : Int)), .int .i64 (1 + (t : Int)), .slice (some ⟨g, 0, none⟩) 3 ca, .int .i64 (1 + (k : Int)), .string o, .string { data := #[] }, .int .i64 0, .int .i64 0, .int .i64 0] 75)
  have hset : (intV l).set x (.int .i64 (1 + (y : Int) - 1)) = intV (l.set x (1 + (y : Int) - 1)) := by simp [intV, List.map_set]
  rw [hset, ← hX6] at hst
  obtain ⟨l2, hl2⟩ : ∃ l2, l2 = l.set x (1 + (y : Int) - 1) := ⟨_, rfl⟩
  rw [← hl2] at hst
  have hl23 : l2.length = 3 := by rw [hl2]; simp [hl3]
  have HOW6 : Hid (X6.ownsRow w2.heap.size 3 1 (.slice (some ⟨g, 0, none⟩) 3 ca) 3 (intV l2)) := hst
  have HT6 : Hid (Row X6 w5.heap.size #[.int .i64 (x : Int), .int .i64 (1 + (y : Int)), .int .i64 (1 + (t : Int)), .slice (some ⟨g, 0, none⟩) 3 ca, .int .i64 (1 + (k : Int)), .string o, .string { data := #[] }, .int .i64 0, .int .i64 0, .int .i64 0] 75) := by rw [hX6]; exact row_new _ _ _ (by simp [World.setCell])
  have HO6 : Hid (Row X6 w.heap.size zAct 75) := by rw [hX6]; exact (HO5.out.other (by simp; omega) _).alloc _
  have HD6 : Hid (Drew w X6 B p v n) := by rw [hX6]; exact (HD5.out.set hp hB (by omega) _ _).alloc hp hB _
  have hx6s : w5.heap.size + 1 ≤ X6.heap.size := by rw [hX6]; simp [World.setCell]
  have HX5 : Hid (w5.alloc (.cells #[.int .i64 (x : Int), .int .i64 (1 + (y : Int)), .int .i64 (1 + (t : Int)), .slice (some ⟨g, 0, none⟩) 3 ca, .int .i64 (1 + (k : Int)), .string o, .string { data := #[] }, .int .i64 0, .int .i64 0, .int .i64 0] 75) = X5) := hX5.symm
  have HX6 : Hid ((w5.setCell ⟨g, x, none⟩ (.int .i64 (1 + (y : Int) - 1))).alloc (.cells #[.int .i64 (x : Int), .int .i64 (1 + (y : Int)), .int .i64 (1 + (t : Int)), .slice (some ⟨g, 0, none⟩) 3 ca, .int .i64 (1 + (k : Int)), .string o, .string { data := #[] }, .int .i64 0, .int .i64 0, .int .i64 0] 75) = X6) := hX6.symm
  rw [← HX5.out] at hc0 hf0
  clear hX5 hX6 hst hset hl2 HT HO HD HOW HO5 HD5 HOW5
  go_wp2_with fail
  rw [HX6.out]
  clear HX5 HX6 hc0 hf0
  have hKK : (1 + (k : Int)) = 1 ∨ (1 + (k : Int)) = 2 ∨ (1 + (k : Int)) = 3 ∨ (1 + (k : Int)) = 4 ∨ (1 + (k : Int)) = 5 ∨ (1 + (k : Int)) = 6 ∨ (1 + (k : Int)) = 7 := by omega
  generalize 1 + (k : Int) = K at *
  generalize 1 + (y : Int) = s' at *
  generalize 1 + (t : Int) = t' at *
  generalize (x : Int) = r' at *
  rcases hKK with rfl | rfl | rfl | rfl | rfl | rfl | rfl
  · have HT_X6 := HT6
    have HO_X6 := HO6
    have HD_X6 := HD6
    have HW_X6 := HOW6
    clear HT6 HO6 HD6 HOW6
    refine (keyed_calls 1 _).mono ?_
    rintro e wq ⟨rfl, hq⟩
    replace hq := hq.symm
    subst hq
    have c4 := HT_X6.out.cell 4 rfl
    go_wp2_with fail
    clear c4
    refine (valued_calls 1 _).mono ?_
    rintro e wq ⟨rfl, hq⟩
    replace hq := hq.symm
    subst hq
    obtain ⟨V, hV⟩ : ∃ V, V = X6.alloc (.cells #[.int .i64 0, .int .i64 1, .int .i64 7, .int .i64 999999] 3) := ⟨_, rfl⟩
    have s_V : X6.heap.size + 1 ≤ V.heap.size := by rw [hV]; simp
    have hVr : Row V X6.heap.size #[.int .i64 0, .int .i64 1, .int .i64 7, .int .i64 999999] 3 := by rw [hV]; exact row_new _ _ _ rfl
    have HT_V : Hid (Row V w5.heap.size #[.int .i64 r', .int .i64 s', .int .i64 t', .slice (some ⟨g, 0, none⟩) 3 ca, .int .i64 1, .string o, .string { data := #[] }, .int .i64 0, .int .i64 0, .int .i64 0] 75) := by rw [hV]; exact HT_X6.out.alloc _
    have HO_V : Hid (Row V w.heap.size zAct 75) := by rw [hV]; exact HO_X6.out.alloc _
    have HD_V : Hid (Drew w V B p v n) := by rw [hV]; exact HD_X6.out.alloc hp hB _
    have HW_V : Hid (V.ownsRow w2.heap.size 3 1 (.slice (some ⟨g, 0, none⟩) 3 ca) 3 (intV l2)) := by rw [hV]; exact HW_X6.out.alloc _
    have HX_V : Hid (X6.alloc (.cells #[.int .i64 0, .int .i64 1, .int .i64 7, .int .i64 999999] 3) = V) := hV.symm
    clear hV HT_X6 HO_X6 HD_X6 HW_X6
    go_wp2_with fail
    rw [HX_V.out]
    clear HX_V
    refine (pickD 4 X6.heap.size 4 (by omega) (by omega) B p v n hn _ HD_V.out.1 (by omega) (fun i hi => by match i, hi with | 0, _ => exact ⟨_, hVr.cell 0 rfl⟩ | 1, _ => exact ⟨_, hVr.cell 1 rfl⟩ | 2, _ => exact ⟨_, hVr.cell 2 rfl⟩ | 3, _ => exact ⟨_, hVr.cell 3 rfl⟩)).mono ?_
    rintro e wv ⟨vz, -, rfl, hd⟩
    clear hVr
    have s_wv := hd.2.size
    have HT_wv : Hid (Row wv w5.heap.size #[.int .i64 r', .int .i64 s', .int .i64 t', .slice (some ⟨g, 0, none⟩) 3 ca, .int .i64 1, .string o, .string { data := #[] }, .int .i64 0, .int .i64 0, .int .i64 0] 75) := HT_V.out.grown hd.2 (HPN.out _ (by omega))
    have HO_wv : Hid (Row wv w.heap.size zAct 75) := HO_V.out.grown hd.2 (HPN.out _ (Nat.le_refl _))
    have HD_wv : Hid (Drew w wv B p v n) := HD_V.out.trans hd
    have HW_wv : Hid (wv.ownsRow w2.heap.size 3 1 (.slice (some ⟨g, 0, none⟩) 3 ca) 3 (intV l2)) := own_grown HW_V.out hd.2 (by omega)
    clear hd HT_V HO_V HD_V HW_V
    have c7 := HT_wv.out.cell 7 rfl
    have f7 := HT_wv.out.free 7
    obtain ⟨Y2, hY2⟩ : ∃ X, X = wv.setCell ⟨w5.heap.size, 7, none⟩ (.int .i64 vz) := ⟨_, rfl⟩
    have s_Y2 : wv.heap.size ≤ Y2.heap.size := by rw [hY2]; simp [World.setCell]
    have HT_Y2 : Hid (Row Y2 w5.heap.size #[.int .i64 r', .int .i64 s', .int .i64 t', .slice (some ⟨g, 0, none⟩) 3 ca, .int .i64 1, .string o, .string { data := #[] }, .int .i64 vz, .int .i64 0, .int .i64 0] 75) := by rw [hY2]; exact (HT_wv.out.s7 _)
    have HO_Y2 : Hid (Row Y2 w.heap.size zAct 75) := by rw [hY2]; exact (HO_wv.out.other (by simp <;> omega) _)
    have HD_Y2 : Hid (Drew w Y2 B p v n) := by rw [hY2]; exact (HD_wv.out.set hp hB (by omega) _ _)
    have HW_Y2 : Hid (Y2.ownsRow w2.heap.size 3 1 (.slice (some ⟨g, 0, none⟩) 3 ca) 3 (intV l2)) := by rw [hY2]; exact (own_other3 HW_wv.out (by omega))
    have HX_Y2 : Hid (wv.setCell ⟨w5.heap.size, 7, none⟩ (.int .i64 vz) = Y2) := hY2.symm
    clear hY2 HT_wv HO_wv HD_wv HW_wv
    obtain ⟨t0, t1, t2, t3, t4, t5, t6, t7, t8, t9⟩ := Row.ten HT_Y2.out
    obtain ⟨o0, o1, o2, o3, o4, o5, o6, o7, o8, o9⟩ := Row.ten HO_Y2.out
    obtain ⟨g0, g1, g2, g3, g4, g5, g6, g7, g8, g9⟩ := HO_Y2.out.frees
    rw [← HX_Y2.out] at t0 o0 g0 t1 o1 g1 t2 o2 g2 t3 o3 g3 t4 o4 g4 t5 o5 g5 t6 o6 g6 t7 o7 g7 t8 o8 g8 t9 o9 g9
    go_wp2
    rw [HX_Y2.out]
    rw [show _ = store10 Y2 w.heap.size ⟨r', s', t', 1, vz, 0, 0, o, { data := #[] }, l2⟩ (.slice (some ⟨g, 0, none⟩) 3 ca) from store10_eq Y2 w.heap.size ⟨r', s', t', 1, vz, 0, 0, o, { data := #[] }, l2⟩ (.slice (some ⟨g, 0, none⟩) 3 ca)]
    have HZ : ActAt (store10 Y2 w.heap.size ⟨r', s', t', 1, vz, 0, 0, o, { data := #[] }, l2⟩ (.slice (some ⟨g, 0, none⟩) 3 ca)) w.heap.size ⟨r', s', t', 1, vz, 0, 0, o, { data := #[] }, l2⟩ (.slice (some ⟨g, 0, none⟩) 3 ca) := store10_at HO_Y2.out ⟨r', s', t', 1, vz, 0, 0, o, { data := #[] }, l2⟩ _
    exact bodyPost_ret (ret_act rfl rfl HZ) rfl ⟨⟨r', s', t', 1, vz, 0, 0, o, { data := #[] }, l2⟩, g, ca, hl23, hob, empty9, rfl, own_base (own_store10 HW_Y2.out (by omega) ⟨r', s', t', 1, vz, 0, 0, o, { data := #[] }, l2⟩ _) (by omega), store10_drew HD_Y2.out hp hB (Nat.le_refl _) _ _⟩
  · have HT_X6 := HT6
    have HO_X6 := HO6
    have HD_X6 := HD6
    have HW_X6 := HOW6
    clear HT6 HO6 HD6 HOW6
    refine (keyed_calls 2 _).mono ?_
    rintro e wq ⟨rfl, hq⟩
    replace hq := hq.symm
    subst hq
    go_wp2_with fail
    refine (keyD B p v n hn _ (by omega) HD_X6.out.1).mono ?_
    rintro e wk ⟨yk, hyk, rfl, hd⟩
    have s_wk := hd.2.size
    have HT_wk : Hid (Row wk w5.heap.size #[.int .i64 r', .int .i64 s', .int .i64 t', .slice (some ⟨g, 0, none⟩) 3 ca, .int .i64 2, .string o, .string { data := #[] }, .int .i64 0, .int .i64 0, .int .i64 0] 75) := HT_X6.out.grown hd.2 (HPN.out _ (by omega))
    have HO_wk : Hid (Row wk w.heap.size zAct 75) := HO_X6.out.grown hd.2 (HPN.out _ (Nat.le_refl _))
    have HD_wk : Hid (Drew w wk B p v n) := HD_X6.out.trans hd
    have HW_wk : Hid (wk.ownsRow w2.heap.size 3 1 (.slice (some ⟨g, 0, none⟩) 3 ca) 3 (intV l2)) := own_grown HW_X6.out hd.2 (by omega)
    clear hd HT_X6 HO_X6 HD_X6 HW_X6
    have c6 := HT_wk.out.cell 6 rfl
    have f6 := HT_wk.out.free 6
    obtain ⟨Y1, hY1⟩ : ∃ X, X = wk.setCell ⟨w5.heap.size, 6, none⟩ (.string yk) := ⟨_, rfl⟩
    have s_Y1 : wk.heap.size ≤ Y1.heap.size := by rw [hY1]; simp [World.setCell]
    have HT_Y1 : Hid (Row Y1 w5.heap.size #[.int .i64 r', .int .i64 s', .int .i64 t', .slice (some ⟨g, 0, none⟩) 3 ca, .int .i64 2, .string o, .string yk, .int .i64 0, .int .i64 0, .int .i64 0] 75) := by rw [hY1]; exact (HT_wk.out.s6 _)
    have HO_Y1 : Hid (Row Y1 w.heap.size zAct 75) := by rw [hY1]; exact (HO_wk.out.other (by simp <;> omega) _)
    have HD_Y1 : Hid (Drew w Y1 B p v n) := by rw [hY1]; exact (HD_wk.out.set hp hB (by omega) _ _)
    have HW_Y1 : Hid (Y1.ownsRow w2.heap.size 3 1 (.slice (some ⟨g, 0, none⟩) 3 ca) 3 (intV l2)) := by rw [hY1]; exact (own_other3 HW_wk.out (by omega))
    have HX_Y1 : Hid (wk.setCell ⟨w5.heap.size, 6, none⟩ (.string yk) = Y1) := hY1.symm
    clear hY1 HT_wk HO_wk HD_wk HW_wk
    have c4 := HT_Y1.out.cell 4 rfl
    rw [← HX_Y1.out] at c4
    go_wp2_with fail
    rw [HX_Y1.out]
    clear HX_Y1 c6 f6 c4
    refine (valued_calls 2 _).mono ?_
    rintro e wq ⟨rfl, hq⟩
    replace hq := hq.symm
    subst hq
    obtain ⟨t0, t1, t2, t3, t4, t5, t6, t7, t8, t9⟩ := Row.ten HT_Y1.out
    obtain ⟨o0, o1, o2, o3, o4, o5, o6, o7, o8, o9⟩ := Row.ten HO_Y1.out
    obtain ⟨g0, g1, g2, g3, g4, g5, g6, g7, g8, g9⟩ := HO_Y1.out.frees
    go_wp2
    rw [show _ = store10 Y1 w.heap.size ⟨r', s', t', 2, 0, 0, 0, o, yk, l2⟩ (.slice (some ⟨g, 0, none⟩) 3 ca) from store10_eq Y1 w.heap.size ⟨r', s', t', 2, 0, 0, 0, o, yk, l2⟩ (.slice (some ⟨g, 0, none⟩) 3 ca)]
    have HZ : ActAt (store10 Y1 w.heap.size ⟨r', s', t', 2, 0, 0, 0, o, yk, l2⟩ (.slice (some ⟨g, 0, none⟩) 3 ca)) w.heap.size ⟨r', s', t', 2, 0, 0, 0, o, yk, l2⟩ (.slice (some ⟨g, 0, none⟩) 3 ca) := store10_at HO_Y1.out ⟨r', s', t', 2, 0, 0, 0, o, yk, l2⟩ _
    exact bodyPost_ret (ret_act rfl rfl HZ) rfl ⟨⟨r', s', t', 2, 0, 0, 0, o, yk, l2⟩, g, ca, hl23, hob, hyk, rfl, own_base (own_store10 HW_Y1.out (by omega) ⟨r', s', t', 2, 0, 0, 0, o, yk, l2⟩ _) (by omega), store10_drew HD_Y1.out hp hB (Nat.le_refl _) _ _⟩
  · have HT_X6 := HT6
    have HO_X6 := HO6
    have HD_X6 := HD6
    have HW_X6 := HOW6
    clear HT6 HO6 HD6 HOW6
    refine (keyed_calls 3 _).mono ?_
    rintro e wq ⟨rfl, hq⟩
    replace hq := hq.symm
    subst hq
    go_wp2_with fail
    refine (keyD B p v n hn _ (by omega) HD_X6.out.1).mono ?_
    rintro e wk ⟨yk, hyk, rfl, hd⟩
    have s_wk := hd.2.size
    have HT_wk : Hid (Row wk w5.heap.size #[.int .i64 r', .int .i64 s', .int .i64 t', .slice (some ⟨g, 0, none⟩) 3 ca, .int .i64 3, .string o, .string { data := #[] }, .int .i64 0, .int .i64 0, .int .i64 0] 75) := HT_X6.out.grown hd.2 (HPN.out _ (by omega))
    have HO_wk : Hid (Row wk w.heap.size zAct 75) := HO_X6.out.grown hd.2 (HPN.out _ (Nat.le_refl _))
    have HD_wk : Hid (Drew w wk B p v n) := HD_X6.out.trans hd
    have HW_wk : Hid (wk.ownsRow w2.heap.size 3 1 (.slice (some ⟨g, 0, none⟩) 3 ca) 3 (intV l2)) := own_grown HW_X6.out hd.2 (by omega)
    clear hd HT_X6 HO_X6 HD_X6 HW_X6
    have c6 := HT_wk.out.cell 6 rfl
    have f6 := HT_wk.out.free 6
    obtain ⟨Y1, hY1⟩ : ∃ X, X = wk.setCell ⟨w5.heap.size, 6, none⟩ (.string yk) := ⟨_, rfl⟩
    have s_Y1 : wk.heap.size ≤ Y1.heap.size := by rw [hY1]; simp [World.setCell]
    have HT_Y1 : Hid (Row Y1 w5.heap.size #[.int .i64 r', .int .i64 s', .int .i64 t', .slice (some ⟨g, 0, none⟩) 3 ca, .int .i64 3, .string o, .string yk, .int .i64 0, .int .i64 0, .int .i64 0] 75) := by rw [hY1]; exact (HT_wk.out.s6 _)
    have HO_Y1 : Hid (Row Y1 w.heap.size zAct 75) := by rw [hY1]; exact (HO_wk.out.other (by simp <;> omega) _)
    have HD_Y1 : Hid (Drew w Y1 B p v n) := by rw [hY1]; exact (HD_wk.out.set hp hB (by omega) _ _)
    have HW_Y1 : Hid (Y1.ownsRow w2.heap.size 3 1 (.slice (some ⟨g, 0, none⟩) 3 ca) 3 (intV l2)) := by rw [hY1]; exact (own_other3 HW_wk.out (by omega))
    have HX_Y1 : Hid (wk.setCell ⟨w5.heap.size, 6, none⟩ (.string yk) = Y1) := hY1.symm
    clear hY1 HT_wk HO_wk HD_wk HW_wk
    have c4 := HT_Y1.out.cell 4 rfl
    rw [← HX_Y1.out] at c4
    go_wp2_with fail
    rw [HX_Y1.out]
    clear HX_Y1 c6 f6 c4
    refine (valued_calls 3 _).mono ?_
    rintro e wq ⟨rfl, hq⟩
    replace hq := hq.symm
    subst hq
    obtain ⟨t0, t1, t2, t3, t4, t5, t6, t7, t8, t9⟩ := Row.ten HT_Y1.out
    obtain ⟨o0, o1, o2, o3, o4, o5, o6, o7, o8, o9⟩ := Row.ten HO_Y1.out
    obtain ⟨g0, g1, g2, g3, g4, g5, g6, g7, g8, g9⟩ := HO_Y1.out.frees
    go_wp2
    rw [show _ = store10 Y1 w.heap.size ⟨r', s', t', 3, 0, 0, 0, o, yk, l2⟩ (.slice (some ⟨g, 0, none⟩) 3 ca) from store10_eq Y1 w.heap.size ⟨r', s', t', 3, 0, 0, 0, o, yk, l2⟩ (.slice (some ⟨g, 0, none⟩) 3 ca)]
    have HZ : ActAt (store10 Y1 w.heap.size ⟨r', s', t', 3, 0, 0, 0, o, yk, l2⟩ (.slice (some ⟨g, 0, none⟩) 3 ca)) w.heap.size ⟨r', s', t', 3, 0, 0, 0, o, yk, l2⟩ (.slice (some ⟨g, 0, none⟩) 3 ca) := store10_at HO_Y1.out ⟨r', s', t', 3, 0, 0, 0, o, yk, l2⟩ _
    exact bodyPost_ret (ret_act rfl rfl HZ) rfl ⟨⟨r', s', t', 3, 0, 0, 0, o, yk, l2⟩, g, ca, hl23, hob, hyk, rfl, own_base (own_store10 HW_Y1.out (by omega) ⟨r', s', t', 3, 0, 0, 0, o, yk, l2⟩ _) (by omega), store10_drew HD_Y1.out hp hB (Nat.le_refl _) _ _⟩
  · have HT_X6 := HT6
    have HO_X6 := HO6
    have HD_X6 := HD6
    have HW_X6 := HOW6
    clear HT6 HO6 HD6 HOW6
    refine (keyed_calls 4 _).mono ?_
    rintro e wq ⟨rfl, hq⟩
    replace hq := hq.symm
    subst hq
    go_wp2_with fail
    refine (keyD B p v n hn _ (by omega) HD_X6.out.1).mono ?_
    rintro e wk ⟨yk, hyk, rfl, hd⟩
    have s_wk := hd.2.size
    have HT_wk : Hid (Row wk w5.heap.size #[.int .i64 r', .int .i64 s', .int .i64 t', .slice (some ⟨g, 0, none⟩) 3 ca, .int .i64 4, .string o, .string { data := #[] }, .int .i64 0, .int .i64 0, .int .i64 0] 75) := HT_X6.out.grown hd.2 (HPN.out _ (by omega))
    have HO_wk : Hid (Row wk w.heap.size zAct 75) := HO_X6.out.grown hd.2 (HPN.out _ (Nat.le_refl _))
    have HD_wk : Hid (Drew w wk B p v n) := HD_X6.out.trans hd
    have HW_wk : Hid (wk.ownsRow w2.heap.size 3 1 (.slice (some ⟨g, 0, none⟩) 3 ca) 3 (intV l2)) := own_grown HW_X6.out hd.2 (by omega)
    clear hd HT_X6 HO_X6 HD_X6 HW_X6
    have c6 := HT_wk.out.cell 6 rfl
    have f6 := HT_wk.out.free 6
    obtain ⟨Y1, hY1⟩ : ∃ X, X = wk.setCell ⟨w5.heap.size, 6, none⟩ (.string yk) := ⟨_, rfl⟩
    have s_Y1 : wk.heap.size ≤ Y1.heap.size := by rw [hY1]; simp [World.setCell]
    have HT_Y1 : Hid (Row Y1 w5.heap.size #[.int .i64 r', .int .i64 s', .int .i64 t', .slice (some ⟨g, 0, none⟩) 3 ca, .int .i64 4, .string o, .string yk, .int .i64 0, .int .i64 0, .int .i64 0] 75) := by rw [hY1]; exact (HT_wk.out.s6 _)
    have HO_Y1 : Hid (Row Y1 w.heap.size zAct 75) := by rw [hY1]; exact (HO_wk.out.other (by simp <;> omega) _)
    have HD_Y1 : Hid (Drew w Y1 B p v n) := by rw [hY1]; exact (HD_wk.out.set hp hB (by omega) _ _)
    have HW_Y1 : Hid (Y1.ownsRow w2.heap.size 3 1 (.slice (some ⟨g, 0, none⟩) 3 ca) 3 (intV l2)) := by rw [hY1]; exact (own_other3 HW_wk.out (by omega))
    have HX_Y1 : Hid (wk.setCell ⟨w5.heap.size, 6, none⟩ (.string yk) = Y1) := hY1.symm
    clear hY1 HT_wk HO_wk HD_wk HW_wk
    have c4 := HT_Y1.out.cell 4 rfl
    rw [← HX_Y1.out] at c4
    go_wp2_with fail
    rw [HX_Y1.out]
    clear HX_Y1 c6 f6 c4
    refine (valued_calls 4 _).mono ?_
    rintro e wq ⟨rfl, hq⟩
    replace hq := hq.symm
    subst hq
    obtain ⟨V, hV⟩ : ∃ V, V = Y1.alloc (.cells #[.int .i64 0, .int .i64 1, .int .i64 7, .int .i64 999999] 3) := ⟨_, rfl⟩
    have s_V : Y1.heap.size + 1 ≤ V.heap.size := by rw [hV]; simp
    have hVr : Row V Y1.heap.size #[.int .i64 0, .int .i64 1, .int .i64 7, .int .i64 999999] 3 := by rw [hV]; exact row_new _ _ _ rfl
    have HT_V : Hid (Row V w5.heap.size #[.int .i64 r', .int .i64 s', .int .i64 t', .slice (some ⟨g, 0, none⟩) 3 ca, .int .i64 4, .string o, .string yk, .int .i64 0, .int .i64 0, .int .i64 0] 75) := by rw [hV]; exact HT_Y1.out.alloc _
    have HO_V : Hid (Row V w.heap.size zAct 75) := by rw [hV]; exact HO_Y1.out.alloc _
    have HD_V : Hid (Drew w V B p v n) := by rw [hV]; exact HD_Y1.out.alloc hp hB _
    have HW_V : Hid (V.ownsRow w2.heap.size 3 1 (.slice (some ⟨g, 0, none⟩) 3 ca) 3 (intV l2)) := by rw [hV]; exact HW_Y1.out.alloc _
    have HX_V : Hid (Y1.alloc (.cells #[.int .i64 0, .int .i64 1, .int .i64 7, .int .i64 999999] 3) = V) := hV.symm
    clear hV HT_Y1 HO_Y1 HD_Y1 HW_Y1
    go_wp2_with fail
    rw [HX_V.out]
    clear HX_V
    refine (pickD 4 Y1.heap.size 4 (by omega) (by omega) B p v n hn _ HD_V.out.1 (by omega) (fun i hi => by match i, hi with | 0, _ => exact ⟨_, hVr.cell 0 rfl⟩ | 1, _ => exact ⟨_, hVr.cell 1 rfl⟩ | 2, _ => exact ⟨_, hVr.cell 2 rfl⟩ | 3, _ => exact ⟨_, hVr.cell 3 rfl⟩)).mono ?_
    rintro e wv ⟨vz, -, rfl, hd⟩
    clear hVr
    have s_wv := hd.2.size
    have HT_wv : Hid (Row wv w5.heap.size #[.int .i64 r', .int .i64 s', .int .i64 t', .slice (some ⟨g, 0, none⟩) 3 ca, .int .i64 4, .string o, .string yk, .int .i64 0, .int .i64 0, .int .i64 0] 75) := HT_V.out.grown hd.2 (HPN.out _ (by omega))
    have HO_wv : Hid (Row wv w.heap.size zAct 75) := HO_V.out.grown hd.2 (HPN.out _ (Nat.le_refl _))
    have HD_wv : Hid (Drew w wv B p v n) := HD_V.out.trans hd
    have HW_wv : Hid (wv.ownsRow w2.heap.size 3 1 (.slice (some ⟨g, 0, none⟩) 3 ca) 3 (intV l2)) := own_grown HW_V.out hd.2 (by omega)
    clear hd HT_V HO_V HD_V HW_V
    have c7 := HT_wv.out.cell 7 rfl
    have f7 := HT_wv.out.free 7
    obtain ⟨Y2, hY2⟩ : ∃ X, X = wv.setCell ⟨w5.heap.size, 7, none⟩ (.int .i64 vz) := ⟨_, rfl⟩
    have s_Y2 : wv.heap.size ≤ Y2.heap.size := by rw [hY2]; simp [World.setCell]
    have HT_Y2 : Hid (Row Y2 w5.heap.size #[.int .i64 r', .int .i64 s', .int .i64 t', .slice (some ⟨g, 0, none⟩) 3 ca, .int .i64 4, .string o, .string yk, .int .i64 vz, .int .i64 0, .int .i64 0] 75) := by rw [hY2]; exact (HT_wv.out.s7 _)
    have HO_Y2 : Hid (Row Y2 w.heap.size zAct 75) := by rw [hY2]; exact (HO_wv.out.other (by simp <;> omega) _)
    have HD_Y2 : Hid (Drew w Y2 B p v n) := by rw [hY2]; exact (HD_wv.out.set hp hB (by omega) _ _)
    have HW_Y2 : Hid (Y2.ownsRow w2.heap.size 3 1 (.slice (some ⟨g, 0, none⟩) 3 ca) 3 (intV l2)) := by rw [hY2]; exact (own_other3 HW_wv.out (by omega))
    have HX_Y2 : Hid (wv.setCell ⟨w5.heap.size, 7, none⟩ (.int .i64 vz) = Y2) := hY2.symm
    clear hY2 HT_wv HO_wv HD_wv HW_wv
    obtain ⟨t0, t1, t2, t3, t4, t5, t6, t7, t8, t9⟩ := Row.ten HT_Y2.out
    obtain ⟨o0, o1, o2, o3, o4, o5, o6, o7, o8, o9⟩ := Row.ten HO_Y2.out
    obtain ⟨g0, g1, g2, g3, g4, g5, g6, g7, g8, g9⟩ := HO_Y2.out.frees
    rw [← HX_Y2.out] at t0 o0 g0 t1 o1 g1 t2 o2 g2 t3 o3 g3 t4 o4 g4 t5 o5 g5 t6 o6 g6 t7 o7 g7 t8 o8 g8 t9 o9 g9
    go_wp2
    rw [HX_Y2.out]
    rw [show _ = store10 Y2 w.heap.size ⟨r', s', t', 4, vz, 0, 0, o, yk, l2⟩ (.slice (some ⟨g, 0, none⟩) 3 ca) from store10_eq Y2 w.heap.size ⟨r', s', t', 4, vz, 0, 0, o, yk, l2⟩ (.slice (some ⟨g, 0, none⟩) 3 ca)]
    have HZ : ActAt (store10 Y2 w.heap.size ⟨r', s', t', 4, vz, 0, 0, o, yk, l2⟩ (.slice (some ⟨g, 0, none⟩) 3 ca)) w.heap.size ⟨r', s', t', 4, vz, 0, 0, o, yk, l2⟩ (.slice (some ⟨g, 0, none⟩) 3 ca) := store10_at HO_Y2.out ⟨r', s', t', 4, vz, 0, 0, o, yk, l2⟩ _
    exact bodyPost_ret (ret_act rfl rfl HZ) rfl ⟨⟨r', s', t', 4, vz, 0, 0, o, yk, l2⟩, g, ca, hl23, hob, hyk, rfl, own_base (own_store10 HW_Y2.out (by omega) ⟨r', s', t', 4, vz, 0, 0, o, yk, l2⟩ _) (by omega), store10_drew HD_Y2.out hp hB (Nat.le_refl _) _ _⟩
  · have HT_X6 := HT6
    have HO_X6 := HO6
    have HD_X6 := HD6
    have HW_X6 := HOW6
    clear HT6 HO6 HD6 HOW6
    refine (keyed_calls 5 _).mono ?_
    rintro e wq ⟨rfl, hq⟩
    replace hq := hq.symm
    subst hq
    go_wp2_with fail
    refine (keyD B p v n hn _ (by omega) HD_X6.out.1).mono ?_
    rintro e wk ⟨yk, hyk, rfl, hd⟩
    have s_wk := hd.2.size
    have HT_wk : Hid (Row wk w5.heap.size #[.int .i64 r', .int .i64 s', .int .i64 t', .slice (some ⟨g, 0, none⟩) 3 ca, .int .i64 5, .string o, .string { data := #[] }, .int .i64 0, .int .i64 0, .int .i64 0] 75) := HT_X6.out.grown hd.2 (HPN.out _ (by omega))
    have HO_wk : Hid (Row wk w.heap.size zAct 75) := HO_X6.out.grown hd.2 (HPN.out _ (Nat.le_refl _))
    have HD_wk : Hid (Drew w wk B p v n) := HD_X6.out.trans hd
    have HW_wk : Hid (wk.ownsRow w2.heap.size 3 1 (.slice (some ⟨g, 0, none⟩) 3 ca) 3 (intV l2)) := own_grown HW_X6.out hd.2 (by omega)
    clear hd HT_X6 HO_X6 HD_X6 HW_X6
    have c6 := HT_wk.out.cell 6 rfl
    have f6 := HT_wk.out.free 6
    obtain ⟨Y1, hY1⟩ : ∃ X, X = wk.setCell ⟨w5.heap.size, 6, none⟩ (.string yk) := ⟨_, rfl⟩
    have s_Y1 : wk.heap.size ≤ Y1.heap.size := by rw [hY1]; simp [World.setCell]
    have HT_Y1 : Hid (Row Y1 w5.heap.size #[.int .i64 r', .int .i64 s', .int .i64 t', .slice (some ⟨g, 0, none⟩) 3 ca, .int .i64 5, .string o, .string yk, .int .i64 0, .int .i64 0, .int .i64 0] 75) := by rw [hY1]; exact (HT_wk.out.s6 _)
    have HO_Y1 : Hid (Row Y1 w.heap.size zAct 75) := by rw [hY1]; exact (HO_wk.out.other (by simp <;> omega) _)
    have HD_Y1 : Hid (Drew w Y1 B p v n) := by rw [hY1]; exact (HD_wk.out.set hp hB (by omega) _ _)
    have HW_Y1 : Hid (Y1.ownsRow w2.heap.size 3 1 (.slice (some ⟨g, 0, none⟩) 3 ca) 3 (intV l2)) := by rw [hY1]; exact (own_other3 HW_wk.out (by omega))
    have HX_Y1 : Hid (wk.setCell ⟨w5.heap.size, 6, none⟩ (.string yk) = Y1) := hY1.symm
    clear hY1 HT_wk HO_wk HD_wk HW_wk
    have c4 := HT_Y1.out.cell 4 rfl
    rw [← HX_Y1.out] at c4
    go_wp2_with fail
    rw [HX_Y1.out]
    clear HX_Y1 c6 f6 c4
    refine (valued_calls 5 _).mono ?_
    rintro e wq ⟨rfl, hq⟩
    replace hq := hq.symm
    subst hq
    obtain ⟨t0, t1, t2, t3, t4, t5, t6, t7, t8, t9⟩ := Row.ten HT_Y1.out
    obtain ⟨o0, o1, o2, o3, o4, o5, o6, o7, o8, o9⟩ := Row.ten HO_Y1.out
    obtain ⟨g0, g1, g2, g3, g4, g5, g6, g7, g8, g9⟩ := HO_Y1.out.frees
    go_wp2
    rw [show _ = store10 Y1 w.heap.size ⟨r', s', t', 5, 0, 0, 0, o, yk, l2⟩ (.slice (some ⟨g, 0, none⟩) 3 ca) from store10_eq Y1 w.heap.size ⟨r', s', t', 5, 0, 0, 0, o, yk, l2⟩ (.slice (some ⟨g, 0, none⟩) 3 ca)]
    have HZ : ActAt (store10 Y1 w.heap.size ⟨r', s', t', 5, 0, 0, 0, o, yk, l2⟩ (.slice (some ⟨g, 0, none⟩) 3 ca)) w.heap.size ⟨r', s', t', 5, 0, 0, 0, o, yk, l2⟩ (.slice (some ⟨g, 0, none⟩) 3 ca) := store10_at HO_Y1.out ⟨r', s', t', 5, 0, 0, 0, o, yk, l2⟩ _
    exact bodyPost_ret (ret_act rfl rfl HZ) rfl ⟨⟨r', s', t', 5, 0, 0, 0, o, yk, l2⟩, g, ca, hl23, hob, hyk, rfl, own_base (own_store10 HW_Y1.out (by omega) ⟨r', s', t', 5, 0, 0, 0, o, yk, l2⟩ _) (by omega), store10_drew HD_Y1.out hp hB (Nat.le_refl _) _ _⟩
  · have HT_X6 := HT6
    have HO_X6 := HO6
    have HD_X6 := HD6
    have HW_X6 := HOW6
    clear HT6 HO6 HD6 HOW6
    refine (keyed_calls 6 _).mono ?_
    rintro e wq ⟨rfl, hq⟩
    replace hq := hq.symm
    subst hq
    have c4 := HT_X6.out.cell 4 rfl
    go_wp2_with fail
    clear c4
    refine (valued_calls 6 _).mono ?_
    rintro e wq ⟨rfl, hq⟩
    replace hq := hq.symm
    subst hq
    obtain ⟨V, hV⟩ : ∃ V, V = X6.alloc (.cells #[.int .i64 0, .int .i64 1, .int .i64 7, .int .i64 999999] 3) := ⟨_, rfl⟩
    have s_V : X6.heap.size + 1 ≤ V.heap.size := by rw [hV]; simp
    have hVr : Row V X6.heap.size #[.int .i64 0, .int .i64 1, .int .i64 7, .int .i64 999999] 3 := by rw [hV]; exact row_new _ _ _ rfl
    have HT_V : Hid (Row V w5.heap.size #[.int .i64 r', .int .i64 s', .int .i64 t', .slice (some ⟨g, 0, none⟩) 3 ca, .int .i64 6, .string o, .string { data := #[] }, .int .i64 0, .int .i64 0, .int .i64 0] 75) := by rw [hV]; exact HT_X6.out.alloc _
    have HO_V : Hid (Row V w.heap.size zAct 75) := by rw [hV]; exact HO_X6.out.alloc _
    have HD_V : Hid (Drew w V B p v n) := by rw [hV]; exact HD_X6.out.alloc hp hB _
    have HW_V : Hid (V.ownsRow w2.heap.size 3 1 (.slice (some ⟨g, 0, none⟩) 3 ca) 3 (intV l2)) := by rw [hV]; exact HW_X6.out.alloc _
    have HX_V : Hid (X6.alloc (.cells #[.int .i64 0, .int .i64 1, .int .i64 7, .int .i64 999999] 3) = V) := hV.symm
    clear hV HT_X6 HO_X6 HD_X6 HW_X6
    go_wp2_with fail
    rw [HX_V.out]
    clear HX_V
    refine (pickD 4 X6.heap.size 4 (by omega) (by omega) B p v n hn _ HD_V.out.1 (by omega) (fun i hi => by match i, hi with | 0, _ => exact ⟨_, hVr.cell 0 rfl⟩ | 1, _ => exact ⟨_, hVr.cell 1 rfl⟩ | 2, _ => exact ⟨_, hVr.cell 2 rfl⟩ | 3, _ => exact ⟨_, hVr.cell 3 rfl⟩)).mono ?_
    rintro e wv ⟨vz, -, rfl, hd⟩
    clear hVr
    have s_wv := hd.2.size
    have HT_wv : Hid (Row wv w5.heap.size #[.int .i64 r', .int .i64 s', .int .i64 t', .slice (some ⟨g, 0, none⟩) 3 ca, .int .i64 6, .string o, .string { data := #[] }, .int .i64 0, .int .i64 0, .int .i64 0] 75) := HT_V.out.grown hd.2 (HPN.out _ (by omega))
    have HO_wv : Hid (Row wv w.heap.size zAct 75) := HO_V.out.grown hd.2 (HPN.out _ (Nat.le_refl _))
    have HD_wv : Hid (Drew w wv B p v n) := HD_V.out.trans hd
    have HW_wv : Hid (wv.ownsRow w2.heap.size 3 1 (.slice (some ⟨g, 0, none⟩) 3 ca) 3 (intV l2)) := own_grown HW_V.out hd.2 (by omega)
    clear hd HT_V HO_V HD_V HW_V
    have c7 := HT_wv.out.cell 7 rfl
    have f7 := HT_wv.out.free 7
    obtain ⟨Y2, hY2⟩ : ∃ X, X = wv.setCell ⟨w5.heap.size, 7, none⟩ (.int .i64 vz) := ⟨_, rfl⟩
    have s_Y2 : wv.heap.size ≤ Y2.heap.size := by rw [hY2]; simp [World.setCell]
    have HT_Y2 : Hid (Row Y2 w5.heap.size #[.int .i64 r', .int .i64 s', .int .i64 t', .slice (some ⟨g, 0, none⟩) 3 ca, .int .i64 6, .string o, .string { data := #[] }, .int .i64 vz, .int .i64 0, .int .i64 0] 75) := by rw [hY2]; exact (HT_wv.out.s7 _)
    have HO_Y2 : Hid (Row Y2 w.heap.size zAct 75) := by rw [hY2]; exact (HO_wv.out.other (by simp <;> omega) _)
    have HD_Y2 : Hid (Drew w Y2 B p v n) := by rw [hY2]; exact (HD_wv.out.set hp hB (by omega) _ _)
    have HW_Y2 : Hid (Y2.ownsRow w2.heap.size 3 1 (.slice (some ⟨g, 0, none⟩) 3 ca) 3 (intV l2)) := by rw [hY2]; exact (own_other3 HW_wv.out (by omega))
    have HX_Y2 : Hid (wv.setCell ⟨w5.heap.size, 7, none⟩ (.int .i64 vz) = Y2) := hY2.symm
    clear hY2 HT_wv HO_wv HD_wv HW_wv
    have c4 := HT_Y2.out.cell 4 rfl
    rw [← HX_Y2.out] at c4
    go_wp2_with fail
    rw [HX_Y2.out]
    clear HX_Y2 c7 f7 c4
    refine (dotB B p v n hn _ (by omega) HD_Y2.out.1).mono ?_
    rintro e wd ⟨x2, y2, hx2, hy2, rfl, hd⟩
    unfold dot
    have s_wd := hd.2.size
    have HT_wd : Hid (Row wd w5.heap.size #[.int .i64 r', .int .i64 s', .int .i64 t', .slice (some ⟨g, 0, none⟩) 3 ca, .int .i64 6, .string o, .string { data := #[] }, .int .i64 vz, .int .i64 0, .int .i64 0] 75) := HT_Y2.out.grown hd.2 (HPN.out _ (by omega))
    have HO_wd : Hid (Row wd w.heap.size zAct 75) := HO_Y2.out.grown hd.2 (HPN.out _ (Nat.le_refl _))
    have HD_wd : Hid (Drew w wd B p v n) := HD_Y2.out.trans hd
    have HW_wd : Hid (wd.ownsRow w2.heap.size 3 1 (.slice (some ⟨g, 0, none⟩) 3 ca) 3 (intV l2)) := own_grown HW_Y2.out hd.2 (by omega)
    clear hd HT_Y2 HO_Y2 HD_Y2 HW_Y2
    generalize (x2 : Int) = rx at *
    generalize 1 + (y2 : Int) = rz at *
    obtain ⟨D, hD⟩ : ∃ D, D = wd.alloc (.cells #[.int .i64 rx, .int .i64 rz] 47) := ⟨_, rfl⟩
    have s_D : wd.heap.size + 1 ≤ D.heap.size := by rw [hD]; simp
    have HDR : Hid (Row D wd.heap.size #[.int .i64 rx, .int .i64 rz] 47) := by rw [hD]; exact row_new _ _ _ rfl
    have HT_D : Hid (Row D w5.heap.size #[.int .i64 r', .int .i64 s', .int .i64 t', .slice (some ⟨g, 0, none⟩) 3 ca, .int .i64 6, .string o, .string { data := #[] }, .int .i64 vz, .int .i64 0, .int .i64 0] 75) := by rw [hD]; exact HT_wd.out.alloc _
    have HO_D : Hid (Row D w.heap.size zAct 75) := by rw [hD]; exact HO_wd.out.alloc _
    have HD_D : Hid (Drew w D B p v n) := by rw [hD]; exact HD_wd.out.alloc hp hB _
    have HW_D : Hid (D.ownsRow w2.heap.size 3 1 (.slice (some ⟨g, 0, none⟩) 3 ca) 3 (intV l2)) := by rw [hD]; exact HW_wd.out.alloc _
    have HX_D : Hid (wd.alloc (.cells #[.int .i64 rx, .int .i64 rz] 47) = D) := hD.symm
    clear hD HT_wd HO_wd HD_wd HW_wd
    have c3 := HT_D.out.cell 3 rfl
    have e0 := HDR.out.cell 0 rfl
    have e1 := HDR.out.cell 1 rfl
    rw [← HX_D.out] at c3 e0 e1
    go_wp2_with fail
    rw [HX_D.out]
    clear HX_D c3 e0 e1
    refine (specKnows_calls l2 _ rx rz D (by omega) (IntsAt.own HW_D.out hl23)).mono ?_
    rintro e wn ⟨rfl, hb⟩
    have s_wn := hb.size
    have HDR2 : Hid (Row wn wd.heap.size #[.int .i64 rx, .int .i64 rz] 47) := HDR.out.next hb
    have HT_wn : Hid (Row wn w5.heap.size #[.int .i64 r', .int .i64 s', .int .i64 t', .slice (some ⟨g, 0, none⟩) 3 ca, .int .i64 6, .string o, .string { data := #[] }, .int .i64 vz, .int .i64 0, .int .i64 0] 75) := HT_D.out.next hb
    have HO_wn : Hid (Row wn w.heap.size zAct 75) := HO_D.out.next hb
    have HD_wn : Hid (Drew w wn B p v n) := HD_D.out.call hp hB hb
    have HW_wn : Hid (wn.ownsRow w2.heap.size 3 1 (.slice (some ⟨g, 0, none⟩) 3 ca) 3 (intV l2)) := own_below HW_D.out hb
    clear hb HT_D HO_D HD_D HW_D HDR
    have e0 := HDR2.out.cell 0 rfl
    have e1 := HDR2.out.cell 1 rfl
    have cc4 := HT_wn.out.cell 4 rfl
    cases hkn : knows l2 rx rz with
    | true =>
      have c8 := HT_wn.out.cell 8 rfl
      have f8 := HT_wn.out.free 8
      have c9 := HT_wn.out.cell 9 rfl
      have f9 := HT_wn.out.free 9
      obtain ⟨Y3, hY3⟩ : ∃ X, X = (wn.setCell ⟨w5.heap.size, 8, none⟩ (.int .i64 rx)).setCell ⟨w5.heap.size, 9, none⟩ (.int .i64 rz) := ⟨_, rfl⟩
      have s_Y3 : wn.heap.size ≤ Y3.heap.size := by rw [hY3]; simp [World.setCell]
      have HT_Y3 : Hid (Row Y3 w5.heap.size #[.int .i64 r', .int .i64 s', .int .i64 t', .slice (some ⟨g, 0, none⟩) 3 ca, .int .i64 6, .string o, .string { data := #[] }, .int .i64 vz, .int .i64 rx, .int .i64 rz] 75) := by rw [hY3]; exact ((HT_wn.out.s8 _).s9 _)
      have HO_Y3 : Hid (Row Y3 w.heap.size zAct 75) := by rw [hY3]; exact ((HO_wn.out.other (by simp <;> omega) _).other (by simp <;> omega) _)
      have HD_Y3 : Hid (Drew w Y3 B p v n) := by rw [hY3]; exact ((HD_wn.out.set hp hB (by omega) _ _).set hp hB (by omega) _ _)
      have HW_Y3 : Hid (Y3.ownsRow w2.heap.size 3 1 (.slice (some ⟨g, 0, none⟩) 3 ca) 3 (intV l2)) := by rw [hY3]; exact (own_other3 (own_other3 HW_wn.out (by omega)) (by omega))
      have HX_Y3 : Hid ((wn.setCell ⟨w5.heap.size, 8, none⟩ (.int .i64 rx)).setCell ⟨w5.heap.size, 9, none⟩ (.int .i64 rz) = Y3) := hY3.symm
      clear hY3 HT_wn HO_wn HD_wn HW_wn
      clear hkn
      obtain ⟨t0, t1, t2, t3, t4, t5, t6, t7, t8, t9⟩ := Row.ten HT_Y3.out
      obtain ⟨o0, o1, o2, o3, o4, o5, o6, o7, o8, o9⟩ := Row.ten HO_Y3.out
      obtain ⟨g0, g1, g2, g3, g4, g5, g6, g7, g8, g9⟩ := HO_Y3.out.frees
      rw [← HX_Y3.out] at t0 o0 g0 t1 o1 g1 t2 o2 g2 t3 o3 g3 t4 o4 g4 t5 o5 g5 t6 o6 g6 t7 o7 g7 t8 o8 g8 t9 o9 g9
      go_wp2
      rw [HX_Y3.out]
      rw [show _ = store10 Y3 w.heap.size ⟨r', s', t', 6, vz, rx, rz, o, { data := #[] }, l2⟩ (.slice (some ⟨g, 0, none⟩) 3 ca) from store10_eq Y3 w.heap.size ⟨r', s', t', 6, vz, rx, rz, o, { data := #[] }, l2⟩ (.slice (some ⟨g, 0, none⟩) 3 ca)]
      have HZ : ActAt (store10 Y3 w.heap.size ⟨r', s', t', 6, vz, rx, rz, o, { data := #[] }, l2⟩ (.slice (some ⟨g, 0, none⟩) 3 ca)) w.heap.size ⟨r', s', t', 6, vz, rx, rz, o, { data := #[] }, l2⟩ (.slice (some ⟨g, 0, none⟩) 3 ca) := store10_at HO_Y3.out ⟨r', s', t', 6, vz, rx, rz, o, { data := #[] }, l2⟩ _
      exact bodyPost_ret (ret_act rfl rfl HZ) rfl ⟨⟨r', s', t', 6, vz, rx, rz, o, { data := #[] }, l2⟩, g, ca, hl23, hob, empty9, rfl, own_base (own_store10 HW_Y3.out (by omega) ⟨r', s', t', 6, vz, rx, rz, o, { data := #[] }, l2⟩ _) (by omega), store10_drew HD_Y3.out hp hB (Nat.le_refl _) _ _⟩
    | false =>
      clear hkn
      obtain ⟨t0, t1, t2, t3, t4, t5, t6, t7, t8, t9⟩ := Row.ten HT_wn.out
      obtain ⟨o0, o1, o2, o3, o4, o5, o6, o7, o8, o9⟩ := Row.ten HO_wn.out
      obtain ⟨g0, g1, g2, g3, g4, g5, g6, g7, g8, g9⟩ := HO_wn.out.frees
      go_wp2
      rw [show _ = store10 wn w.heap.size ⟨r', s', t', 6, vz, 0, 0, o, { data := #[] }, l2⟩ (.slice (some ⟨g, 0, none⟩) 3 ca) from store10_eq wn w.heap.size ⟨r', s', t', 6, vz, 0, 0, o, { data := #[] }, l2⟩ (.slice (some ⟨g, 0, none⟩) 3 ca)]
      have HZ : ActAt (store10 wn w.heap.size ⟨r', s', t', 6, vz, 0, 0, o, { data := #[] }, l2⟩ (.slice (some ⟨g, 0, none⟩) 3 ca)) w.heap.size ⟨r', s', t', 6, vz, 0, 0, o, { data := #[] }, l2⟩ (.slice (some ⟨g, 0, none⟩) 3 ca) := store10_at HO_wn.out ⟨r', s', t', 6, vz, 0, 0, o, { data := #[] }, l2⟩ _
      exact bodyPost_ret (ret_act rfl rfl HZ) rfl ⟨⟨r', s', t', 6, vz, 0, 0, o, { data := #[] }, l2⟩, g, ca, hl23, hob, empty9, rfl, own_base (own_store10 HW_wn.out (by omega) ⟨r', s', t', 6, vz, 0, 0, o, { data := #[] }, l2⟩ _) (by omega), store10_drew HD_wn.out hp hB (Nat.le_refl _) _ _⟩
  · have HT_X6 := HT6
    have HO_X6 := HO6
    have HD_X6 := HD6
    have HW_X6 := HOW6
    clear HT6 HO6 HD6 HOW6
    refine (keyed_calls 7 _).mono ?_
    rintro e wq ⟨rfl, hq⟩
    replace hq := hq.symm
    subst hq
    have c4 := HT_X6.out.cell 4 rfl
    go_wp2_with fail
    clear c4
    refine (valued_calls 7 _).mono ?_
    rintro e wq ⟨rfl, hq⟩
    replace hq := hq.symm
    subst hq
    have c4 := HT_X6.out.cell 4 rfl
    go_wp2_with fail
    clear c4
    refine (dotB B p v n hn _ (by omega) HD_X6.out.1).mono ?_
    rintro e wd ⟨x2, y2, hx2, hy2, rfl, hd⟩
    unfold dot
    have s_wd := hd.2.size
    have HT_wd : Hid (Row wd w5.heap.size #[.int .i64 r', .int .i64 s', .int .i64 t', .slice (some ⟨g, 0, none⟩) 3 ca, .int .i64 7, .string o, .string { data := #[] }, .int .i64 0, .int .i64 0, .int .i64 0] 75) := HT_X6.out.grown hd.2 (HPN.out _ (by omega))
    have HO_wd : Hid (Row wd w.heap.size zAct 75) := HO_X6.out.grown hd.2 (HPN.out _ (Nat.le_refl _))
    have HD_wd : Hid (Drew w wd B p v n) := HD_X6.out.trans hd
    have HW_wd : Hid (wd.ownsRow w2.heap.size 3 1 (.slice (some ⟨g, 0, none⟩) 3 ca) 3 (intV l2)) := own_grown HW_X6.out hd.2 (by omega)
    clear hd HT_X6 HO_X6 HD_X6 HW_X6
    generalize (x2 : Int) = rx at *
    generalize 1 + (y2 : Int) = rz at *
    obtain ⟨D, hD⟩ : ∃ D, D = wd.alloc (.cells #[.int .i64 rx, .int .i64 rz] 47) := ⟨_, rfl⟩
    have s_D : wd.heap.size + 1 ≤ D.heap.size := by rw [hD]; simp
    have HDR : Hid (Row D wd.heap.size #[.int .i64 rx, .int .i64 rz] 47) := by rw [hD]; exact row_new _ _ _ rfl
    have HT_D : Hid (Row D w5.heap.size #[.int .i64 r', .int .i64 s', .int .i64 t', .slice (some ⟨g, 0, none⟩) 3 ca, .int .i64 7, .string o, .string { data := #[] }, .int .i64 0, .int .i64 0, .int .i64 0] 75) := by rw [hD]; exact HT_wd.out.alloc _
    have HO_D : Hid (Row D w.heap.size zAct 75) := by rw [hD]; exact HO_wd.out.alloc _
    have HD_D : Hid (Drew w D B p v n) := by rw [hD]; exact HD_wd.out.alloc hp hB _
    have HW_D : Hid (D.ownsRow w2.heap.size 3 1 (.slice (some ⟨g, 0, none⟩) 3 ca) 3 (intV l2)) := by rw [hD]; exact HW_wd.out.alloc _
    have HX_D : Hid (wd.alloc (.cells #[.int .i64 rx, .int .i64 rz] 47) = D) := hD.symm
    clear hD HT_wd HO_wd HD_wd HW_wd
    have c3 := HT_D.out.cell 3 rfl
    have e0 := HDR.out.cell 0 rfl
    have e1 := HDR.out.cell 1 rfl
    rw [← HX_D.out] at c3 e0 e1
    go_wp2_with fail
    rw [HX_D.out]
    clear HX_D c3 e0 e1
    refine (specKnows_calls l2 _ rx rz D (by omega) (IntsAt.own HW_D.out hl23)).mono ?_
    rintro e wn ⟨rfl, hb⟩
    have s_wn := hb.size
    have HDR2 : Hid (Row wn wd.heap.size #[.int .i64 rx, .int .i64 rz] 47) := HDR.out.next hb
    have HT_wn : Hid (Row wn w5.heap.size #[.int .i64 r', .int .i64 s', .int .i64 t', .slice (some ⟨g, 0, none⟩) 3 ca, .int .i64 7, .string o, .string { data := #[] }, .int .i64 0, .int .i64 0, .int .i64 0] 75) := HT_D.out.next hb
    have HO_wn : Hid (Row wn w.heap.size zAct 75) := HO_D.out.next hb
    have HD_wn : Hid (Drew w wn B p v n) := HD_D.out.call hp hB hb
    have HW_wn : Hid (wn.ownsRow w2.heap.size 3 1 (.slice (some ⟨g, 0, none⟩) 3 ca) 3 (intV l2)) := own_below HW_D.out hb
    clear hb HT_D HO_D HD_D HW_D HDR
    have e0 := HDR2.out.cell 0 rfl
    have e1 := HDR2.out.cell 1 rfl
    have cc4 := HT_wn.out.cell 4 rfl
    cases hkn : knows l2 rx rz with
    | true =>
      have c8 := HT_wn.out.cell 8 rfl
      have f8 := HT_wn.out.free 8
      have c9 := HT_wn.out.cell 9 rfl
      have f9 := HT_wn.out.free 9
      obtain ⟨Y3, hY3⟩ : ∃ X, X = (wn.setCell ⟨w5.heap.size, 8, none⟩ (.int .i64 rx)).setCell ⟨w5.heap.size, 9, none⟩ (.int .i64 rz) := ⟨_, rfl⟩
      have s_Y3 : wn.heap.size ≤ Y3.heap.size := by rw [hY3]; simp [World.setCell]
      have HT_Y3 : Hid (Row Y3 w5.heap.size #[.int .i64 r', .int .i64 s', .int .i64 t', .slice (some ⟨g, 0, none⟩) 3 ca, .int .i64 7, .string o, .string { data := #[] }, .int .i64 0, .int .i64 rx, .int .i64 rz] 75) := by rw [hY3]; exact ((HT_wn.out.s8 _).s9 _)
      have HO_Y3 : Hid (Row Y3 w.heap.size zAct 75) := by rw [hY3]; exact ((HO_wn.out.other (by simp <;> omega) _).other (by simp <;> omega) _)
      have HD_Y3 : Hid (Drew w Y3 B p v n) := by rw [hY3]; exact ((HD_wn.out.set hp hB (by omega) _ _).set hp hB (by omega) _ _)
      have HW_Y3 : Hid (Y3.ownsRow w2.heap.size 3 1 (.slice (some ⟨g, 0, none⟩) 3 ca) 3 (intV l2)) := by rw [hY3]; exact (own_other3 (own_other3 HW_wn.out (by omega)) (by omega))
      have HX_Y3 : Hid ((wn.setCell ⟨w5.heap.size, 8, none⟩ (.int .i64 rx)).setCell ⟨w5.heap.size, 9, none⟩ (.int .i64 rz) = Y3) := hY3.symm
      clear hY3 HT_wn HO_wn HD_wn HW_wn
      clear hkn
      obtain ⟨t0, t1, t2, t3, t4, t5, t6, t7, t8, t9⟩ := Row.ten HT_Y3.out
      obtain ⟨o0, o1, o2, o3, o4, o5, o6, o7, o8, o9⟩ := Row.ten HO_Y3.out
      obtain ⟨g0, g1, g2, g3, g4, g5, g6, g7, g8, g9⟩ := HO_Y3.out.frees
      rw [← HX_Y3.out] at t0 o0 g0 t1 o1 g1 t2 o2 g2 t3 o3 g3 t4 o4 g4 t5 o5 g5 t6 o6 g6 t7 o7 g7 t8 o8 g8 t9 o9 g9
      go_wp2
      rw [HX_Y3.out]
      rw [show _ = store10 Y3 w.heap.size ⟨r', s', t', 7, 0, rx, rz, o, { data := #[] }, l2⟩ (.slice (some ⟨g, 0, none⟩) 3 ca) from store10_eq Y3 w.heap.size ⟨r', s', t', 7, 0, rx, rz, o, { data := #[] }, l2⟩ (.slice (some ⟨g, 0, none⟩) 3 ca)]
      have HZ : ActAt (store10 Y3 w.heap.size ⟨r', s', t', 7, 0, rx, rz, o, { data := #[] }, l2⟩ (.slice (some ⟨g, 0, none⟩) 3 ca)) w.heap.size ⟨r', s', t', 7, 0, rx, rz, o, { data := #[] }, l2⟩ (.slice (some ⟨g, 0, none⟩) 3 ca) := store10_at HO_Y3.out ⟨r', s', t', 7, 0, rx, rz, o, { data := #[] }, l2⟩ _
      exact bodyPost_ret (ret_act rfl rfl HZ) rfl ⟨⟨r', s', t', 7, 0, rx, rz, o, { data := #[] }, l2⟩, g, ca, hl23, hob, empty9, rfl, own_base (own_store10 HW_Y3.out (by omega) ⟨r', s', t', 7, 0, rx, rz, o, { data := #[] }, l2⟩ _) (by omega), store10_drew HD_Y3.out hp hB (Nat.le_refl _) _ _⟩
    | false =>
      have c4 := HT_wn.out.cell 4 rfl
      have f4 := HT_wn.out.free 4
      obtain ⟨Y4, hY4⟩ : ∃ X, X = wn.setCell ⟨w5.heap.size, 4, none⟩ (.int .i64 6) := ⟨_, rfl⟩
      have s_Y4 : wn.heap.size ≤ Y4.heap.size := by rw [hY4]; simp [World.setCell]
      have HT_Y4 : Hid (Row Y4 w5.heap.size #[.int .i64 r', .int .i64 s', .int .i64 t', .slice (some ⟨g, 0, none⟩) 3 ca, .int .i64 6, .string o, .string { data := #[] }, .int .i64 0, .int .i64 0, .int .i64 0] 75) := by rw [hY4]; exact (HT_wn.out.s4 _)
      have HO_Y4 : Hid (Row Y4 w.heap.size zAct 75) := by rw [hY4]; exact (HO_wn.out.other (by simp <;> omega) _)
      have HD_Y4 : Hid (Drew w Y4 B p v n) := by rw [hY4]; exact (HD_wn.out.set hp hB (by omega) _ _)
      have HW_Y4 : Hid (Y4.ownsRow w2.heap.size 3 1 (.slice (some ⟨g, 0, none⟩) 3 ca) 3 (intV l2)) := by rw [hY4]; exact (own_other3 HW_wn.out (by omega))
      have HX_Y4 : Hid (wn.setCell ⟨w5.heap.size, 4, none⟩ (.int .i64 6) = Y4) := hY4.symm
      clear hY4 HT_wn HO_wn HD_wn HW_wn
      clear hkn
      obtain ⟨t0, t1, t2, t3, t4, t5, t6, t7, t8, t9⟩ := Row.ten HT_Y4.out
      obtain ⟨o0, o1, o2, o3, o4, o5, o6, o7, o8, o9⟩ := Row.ten HO_Y4.out
      obtain ⟨g0, g1, g2, g3, g4, g5, g6, g7, g8, g9⟩ := HO_Y4.out.frees
      rw [← HX_Y4.out] at t0 o0 g0 t1 o1 g1 t2 o2 g2 t3 o3 g3 t4 o4 g4 t5 o5 g5 t6 o6 g6 t7 o7 g7 t8 o8 g8 t9 o9 g9
      go_wp2
      rw [HX_Y4.out]
      rw [show _ = store10 Y4 w.heap.size ⟨r', s', t', 6, 0, 0, 0, o, { data := #[] }, l2⟩ (.slice (some ⟨g, 0, none⟩) 3 ca) from store10_eq Y4 w.heap.size ⟨r', s', t', 6, 0, 0, 0, o, { data := #[] }, l2⟩ (.slice (some ⟨g, 0, none⟩) 3 ca)]
      have HZ : ActAt (store10 Y4 w.heap.size ⟨r', s', t', 6, 0, 0, 0, o, { data := #[] }, l2⟩ (.slice (some ⟨g, 0, none⟩) 3 ca)) w.heap.size ⟨r', s', t', 6, 0, 0, 0, o, { data := #[] }, l2⟩ (.slice (some ⟨g, 0, none⟩) 3 ca) := store10_at HO_Y4.out ⟨r', s', t', 6, 0, 0, 0, o, { data := #[] }, l2⟩ _
      exact bodyPost_ret (ret_act rfl rfl HZ) rfl ⟨⟨r', s', t', 6, 0, 0, 0, o, { data := #[] }, l2⟩, g, ca, hl23, hob, empty9, rfl, own_base (own_store10 HW_Y4.out (by omega) ⟨r', s', t', 6, 0, 0, 0, o, { data := #[] }, l2⟩ _) (by omega), store10_drew HD_Y4.out hp hB (Nat.le_refl _) _ _⟩

end Go.Proofs.Ytahdgagipmpcgaa
