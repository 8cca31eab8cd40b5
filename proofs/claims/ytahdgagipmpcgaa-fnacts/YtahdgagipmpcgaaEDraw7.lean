/- Two acts are drawn. -/
import Derived.BigRegion
import Derived.Test.YtahdgagipmpcgaaEDrawC
namespace Go.Proofs.Ytahdgagipmpcgaa
set_option maxRecDepth 100000
set_option linter.unusedVariables false
open Go.RowKit

theorem ret_act2 {fn : Func} {p q : Tmp} (h : fn.results = #[.cell p 75, .cell q 75]) {tmps : Array Value} {w : World} {g k : Nat} {A C : Ac} {x y : Value} (hp : tmps.getD p undef = .pointer (some ⟨g, 0, none⟩)) (hq : tmps.getD q undef = .pointer (some ⟨k, 0, none⟩)) (hg : ActAt w g A x) (hk : ActAt w k C y) :
    (results fn tmps).run Try.prog w = .ok (.tuple #[A.val x, C.val y]) w := by
  rw [Array.getD_eq_getD_getElem?] at hp hq
  simp only [results, h]
  simp [hp, hq, asAddr, Result.andThen, load_act hg, load_act hk]
theorem store10_keep {w : World} {g k : Nat} {A C : Ac} {u x : Value} (h : ActAt w k C x) (hk : k ≠ g) : ActAt (store10 w g A u) k C x := store10_other h hk A u

set_option maxHeartbeats 8000000 in
theorem drawLater_calls (B : Nat) (v : Value) (n : Nat) (hn : n ≤ 1048576) (w : World) (hB : B ≤ w.heap.size) (hc : CodeIs w B v n) :
    Calls Try.prog 52 #[v] w fun e w' => ∃ (A : Ac) (g ca : Nat) (C : Ac) (k cc : Nat), Sm A ∧ Sm C ∧ e = .returned (.tuple #[A.val (.slice (some ⟨g, 0, none⟩) A.l.length ca), C.val (.slice (some ⟨k, 0, none⟩) C.l.length cc)]) ∧ IntsAt w' (.slice (some ⟨g, 0, none⟩) A.l.length ca) A.l ∧ IntsAt w' (.slice (some ⟨k, 0, none⟩) C.l.length cc) C.l ∧ Below w.heap.size w w' := by
  obtain ⟨W, hW⟩ : ∃ W, W = (w.alloc (.cells zAct 75)).alloc (.cells zAct 75) := ⟨_, rfl⟩
  have HO : Hid (Row W w.heap.size zAct 75) := by rw [hW]; exact (row_new w _ _ rfl).alloc _
  have HP : Hid (Row W (w.heap.size + 1) zAct 75) := by rw [hW]; exact row_new _ _ _ (by simp)
  have hbW : Below w.heap.size w W := by rw [hW]; exact ((Below.refl _ _).alloc (Nat.le_refl _) _).alloc (by simp) _
  have HC : Hid (CodeIs W B v n) := hc.below (hbW.mono hB)
  have hWs : w.heap.size + 1 + 1 ≤ W.heap.size := by rw [hW]; simp
  have HB : Hid (Below w.heap.size w W) := hbW
  have HW : Hid ((w.alloc (.cells zAct 75)).alloc (.cells zAct 75) = W) := hW.symm
  unfold zAct at HW
  clear hW hbW hc
  go_enter Try.func52, Try.ntmps52
  go_wp2_with fail
  rw [HW.out]
  clear HW
  refine (new_calls B v n hn W (by omega) HC.out).mono ?_
  rintro e w1 ⟨rfl, hc1, hb⟩
  have s1 := hb.size
  have hp := hc1.lt
  have HCU := hidI hc1
  replace HO : Hid (Row w1 w.heap.size zAct 75) := HO.out.next hb
  replace HP : Hid (Row w1 (w.heap.size + 1) zAct 75) := HP.out.next hb
  replace HB : Hid (Below w.heap.size w w1) := HB.out.trans (hb.mono HB.out.size)
  clear hb hc1
  go_wp2_with fail
  refine (anyD B W.heap.size v n hn w1 (by omega) HCU.out).mono ?_
  rintro e w2 ⟨A, g, ca, hm, hob, hyb, rfl, ho, hd⟩
  have s2 := hd.2.size
  replace HO : Hid (Row w2 w.heap.size zAct 75) := HO.out.grown hd.2 (by simp; omega)
  replace HP : Hid (Row w2 (w.heap.size + 1) zAct 75) := HP.out.grown hd.2 (by simp; omega)
  replace HB : Hid (Below w.heap.size w w2) := HB.out.grown hd.2 (by omega) (fun k hk => by cases hk; omega)
  have hgb : w1.heap.size ≤ g := (ho.lt g rfl).1
  have hgl : g < w2.heap.size := (ho.lt g rfl).2
  have HOW := hidI ho
  have HD := hidI hd
  clear hd ho HCU
  unfold Ac.val
  obtain ⟨X, hX⟩ : ∃ X, X = w2.alloc (.cells #[.int .i64 A.r, .int .i64 A.s, .int .i64 A.t, .slice (some ⟨g, 0, none⟩) A.l.length ca, .int .i64 A.k, .string A.o, .string A.y, .int .i64 A.v, .int .i64 A.x, .int .i64 A.z] 75) := ⟨_, rfl⟩
  have hxs : w2.heap.size + 1 ≤ X.heap.size := by rw [hX]; simp
  have HT : Hid (Row X w2.heap.size #[.int .i64 A.r, .int .i64 A.s, .int .i64 A.t, .slice (some ⟨g, 0, none⟩) A.l.length ca, .int .i64 A.k, .string A.o, .string A.y, .int .i64 A.v, .int .i64 A.x, .int .i64 A.z] 75) := by rw [hX]; exact row_new _ _ _ rfl
  have HO2 : Hid (Row X w.heap.size zAct 75) := by rw [hX]; exact HO.out.alloc _
  have HP2 : Hid (Row X (w.heap.size + 1) zAct 75) := by rw [hX]; exact HP.out.alloc _
  have HB2 : Hid (Below w.heap.size w X) := by rw [hX]; exact HB.out.alloc (by omega) _
  have HD2 : Hid (Drew w1 X B W.heap.size v n) := by rw [hX]; exact HD.out.alloc hp (by omega) _
  have HOW2 : Hid (X.ownsRow w1.heap.size 3 1 (.slice (some ⟨g, 0, none⟩) A.l.length ca) A.l.length (intV A.l)) := by rw [hX]; exact HOW.out.alloc _
  have HX : Hid (w2.alloc (.cells #[.int .i64 A.r, .int .i64 A.s, .int .i64 A.t, .slice (some ⟨g, 0, none⟩) A.l.length ca, .int .i64 A.k, .string A.o, .string A.y, .int .i64 A.v, .int .i64 A.x, .int .i64 A.z] 75) = X) := hX.symm
  clear hX HO HP HB HD HOW
  have HANY := hidI (fun wx (h : Cur wx B W.heap.size v n) (hB' : B ≤ wx.heap.size) => anyD B W.heap.size v n hn wx hB' h)
  unfold Ac.val at HANY
  obtain ⟨t0, t1, t2, t3, t4, t5, t6, t7, t8, t9⟩ := Row.ten HT.out
  obtain ⟨o0, o1, o2, o3, o4, o5, o6, o7, o8, o9⟩ := Row.ten HO2.out
  obtain ⟨p0, p1, p2, p3, p4, p5, p6, p7, p8, p9⟩ := Row.ten HP2.out
  rw [← HX.out] at t0 o0 p0 t1 o1 p1 t2 o2 p2 t3 o3 p3 t4 o4 p4 t5 o5 p5 t6 o6 p6 t7 o7 p7 t8 o8 p8 t9 o9 p9
  go_wp2
  rw [HX.out]
  rw [HX.out] at t0 o0 p0 t1 o1 p1 t2 o2 p2 t3 o3 p3 t4 o4 p4 t5 o5 p5 t6 o6 p6 t7 o7 p7 t8 o8 p8 t9 o9 p9
  have hcd : Cur X.drew B W.heap.size v n := HD2.out.1
  first
    | go_region_with (first | (go_at_call 111; refine (HANY.out _ hcd (by show B ≤ X.heap.size; omega)).mono ?_; rintro e w3 ⟨C, k, cc, hm2, hob2, hyb2, rfl, ho2, hd2⟩; have hs3 : X.heap.size ≤ w3.heap.size := hd2.2.size; have HT3 := hidI (Row.grown (w := X.drew) HT.out.drew hd2.2 (by simp; omega)); have HO3 := hidI (Row.grown (w := X.drew) HO2.out.drew hd2.2 (by simp; omega)); have HP3 := hidI (Row.grown (w := X.drew) HP2.out.drew hd2.2 (by simp; omega)); obtain ⟨tt0, tt1, tt2, tt3, tt4, tt5, tt6, tt7, tt8, tt9⟩ := Row.ten HT3.out; obtain ⟨oo0, oo1, oo2, oo3, oo4, oo5, oo6, oo7, oo8, oo9⟩ := Row.ten HO3.out; obtain ⟨pp0, pp1, pp2, pp3, pp4, pp5, pp6, pp7, pp8, pp9⟩ := Row.ten HP3.out; obtain ⟨go0, go1, go2, go3, go4, go5, go6, go7, go8, go9⟩ := HO3.out.frees; obtain ⟨gp0, gp1, gp2, gp3, gp4, gp5, gp6, gp7, gp8, gp9⟩ := HP3.out.frees))
    | fail
  all_goals
    rw [store10_eq w3 w.heap.size A, store10_eq _ (w.heap.size + 1) C]
    have HZ1 : ActAt (store10 (store10 w3 w.heap.size A (.slice (some ⟨g, 0, none⟩) A.l.length ca)) (w.heap.size + 1) C (.slice (some ⟨k, 0, none⟩) C.l.length cc)) w.heap.size A (.slice (some ⟨g, 0, none⟩) A.l.length ca) := store10_keep (show ActAt (store10 w3 w.heap.size A (.slice (some ⟨g, 0, none⟩) A.l.length ca)) w.heap.size A (.slice (some ⟨g, 0, none⟩) A.l.length ca) from store10_at HO3.out A _) (by omega)
    have HZ2 : ActAt (store10 (store10 w3 w.heap.size A (.slice (some ⟨g, 0, none⟩) A.l.length ca)) (w.heap.size + 1) C (.slice (some ⟨k, 0, none⟩) C.l.length cc)) (w.heap.size + 1) C (.slice (some ⟨k, 0, none⟩) C.l.length cc) := store10_at (store10_other HP3.out (by omega) A _) C _
    have I1 := IntsAt.own (own_store10 (own_store10 (g := w.heap.size) (own_grown (own_below HOW2.out (Below.refl _ _).drew) hd2.2 hp) (by omega) A (.slice (some ⟨g, 0, none⟩) A.l.length ca)) (g := w.heap.size + 1) (by omega) C (.slice (some ⟨k, 0, none⟩) C.l.length cc)) rfl
    have I2 := IntsAt.own (own_store10 (own_store10 ho2 (show w.heap.size < X.heap.size by omega) A (.slice (some ⟨g, 0, none⟩) A.l.length ca)) (g := w.heap.size + 1) (show w.heap.size + 1 < X.heap.size by omega) C (.slice (some ⟨k, 0, none⟩) C.l.length cc)) rfl
    have BB := store10_below (store10_below (HB2.out.drew.grown hd2.2 (by show w.heap.size ≤ X.heap.size; omega) (fun q hq => by cases hq; omega)) (Nat.le_refl _) A (.slice (some ⟨g, 0, none⟩) A.l.length ca)) (show w.heap.size ≤ w.heap.size + 1 by omega) C (.slice (some ⟨k, 0, none⟩) C.l.length cc)
    generalize store10 (store10 w3 w.heap.size A (.slice (some ⟨g, 0, none⟩) A.l.length ca)) (w.heap.size + 1) C (.slice (some ⟨k, 0, none⟩) C.l.length cc) = w9 at *
    go_wp2
    exact bodyPost_ret (ret_act2 rfl rfl rfl HZ1 HZ2) rfl ⟨A, g, ca, C, k, cc, ⟨hm, hob, hyb⟩, ⟨hm2, hob2, hyb2⟩, rfl, I1, I2, BB⟩

end Go.Proofs.Ytahdgagipmpcgaa
