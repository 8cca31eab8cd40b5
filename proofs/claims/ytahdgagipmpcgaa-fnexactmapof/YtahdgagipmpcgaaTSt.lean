/- A whole state is copied, and held against another. -/
import Derived.Test.YtahdgagipmpcgaaTSz
import Derived.Test.YtahdgagipmpcgaaTEq
import Derived.Test.YtahdgagipmpcgaaKRow
namespace Go.Proofs.Ytahdgagipmpcgaa
set_option maxRecDepth 100000
set_option linter.unusedVariables false
open Go.RowKit

/-- A state that can be read. -/
def StAt (w : World) (S : Sta) (u0 u1 u2 u3 : Value) : Prop := IntsAt w u0 S.l ∧ TaAt w u1 S.T ∧ LiAt w u2 S.L ∧ CeAt w u3 S.C
theorem StAt.below {w w' : World} {S : Sta} {u0 u1 u2 u3 : Value} (h : StAt w S u0 u1 u2 u3) (hb : Below w.heap.size w w') : StAt w' S u0 u1 u2 u3 := ⟨h.1.below hb, h.2.1.below hb, h.2.2.1.below hb, h.2.2.2.below hb⟩
theorem StAt.alloc {w : World} {S : Sta} {u0 u1 u2 u3 : Value} (h : StAt w S u0 u1 u2 u3) (o : Obj) : StAt (w.alloc o) S u0 u1 u2 u3 := h.below ((Below.refl _ _).alloc (Nat.le_refl _) _)
/-- A state of one's own: its four rows lie one behind another. -/
def OwnSt (w : World) (lo hi : Nat) (S : Sta) (u0 u1 u2 u3 : Value) : Prop := ∃ m1 m2 m3, lo ≤ m1 ∧ m1 ≤ m2 ∧ m2 ≤ m3 ∧ m3 ≤ hi ∧ Rw w lo m1 3 1 u0 S.l.length (intV S.l) ∧ Rw w m1 m2 60 3 u1 S.T.length (taV S.T) ∧ Rw w m2 m3 62 6 u2 S.L.length (liV S.L) ∧ Rw w m3 hi 57 8 u3 S.C.length (ceV S.C)
theorem OwnSt.at {w : World} {lo hi : Nat} {S : Sta} {u0 u1 u2 u3 : Value} (h : OwnSt w lo hi S u0 u1 u2 u3) : StAt w S u0 u1 u2 u3 := by
  obtain ⟨m1, m2, m3, -, -, -, -, h0, h1, h2, h3⟩ := h
  exact ⟨h0.ints, TaAt.own h1.1 rfl, LiAt.own h2.1 rfl, CeAt.own h3.1 rfl⟩
theorem StAt.shape {w : World} {S : Sta} {u0 u1 u2 u3 : Value} (h : StAt w S u0 u1 u2 u3) : ∃ a0 c0 a1 c1 a2 c2 a3 c3, u0 = .slice a0 S.l.length c0 ∧ u1 = .slice a1 S.T.length c1 ∧ u2 = .slice a2 S.L.length c2 ∧ u3 = .slice a3 S.C.length c3 := by
  obtain ⟨⟨a0, c0, rfl, -⟩, ⟨a1, c1, rfl, -⟩, ⟨a2, c2, rfl, -⟩, ⟨a3, c3, rfl, -⟩⟩ := h
  exact ⟨a0, c0, a1, c1, a2, c2, a3, c3, rfl, rfl, rfl, rfl⟩
theorem Row.st0 {w : World} {g : Nat} {T : TypeId} {c0 c1 c2 c3 : Value} (h : Row w g #[c0, c1, c2, c3] T) (x : Value) : Row (w.setCell ⟨g, 0, none⟩ x) g #[x, c1, c2, c3] T := h.set 0 x
theorem Row.st1 {w : World} {g : Nat} {T : TypeId} {c0 c1 c2 c3 : Value} (h : Row w g #[c0, c1, c2, c3] T) (x : Value) : Row (w.setCell ⟨g, 1, none⟩ x) g #[c0, x, c2, c3] T := h.set 1 x
theorem Row.st2 {w : World} {g : Nat} {T : TypeId} {c0 c1 c2 c3 : Value} (h : Row w g #[c0, c1, c2, c3] T) (x : Value) : Row (w.setCell ⟨g, 2, none⟩ x) g #[c0, c1, x, c3] T := h.set 2 x
theorem Row.st3 {w : World} {g : Nat} {T : TypeId} {c0 c1 c2 c3 : Value} (h : Row w g #[c0, c1, c2, c3] T) (x : Value) : Row (w.setCell ⟨g, 3, none⟩ x) g #[c0, c1, c2, x] T := h.set 3 x
theorem retState {fn : Func} {p : Tmp} (h : fn.results = #[.cell p 35]) {tmps : Array Value} {w : World} {g : Nat} {cs : Array Value} (hc : cs.size = 4) (hp : tmps.getD p undef = .pointer (some ⟨g, 0, none⟩)) (hg : Row w g cs 35) :
    (results fn tmps).run Try.prog w = .ok (.agg cs) w := results_cell_row h tmps w g 35 _ (0, 0) _ hp hg Try.underlying35 rfl (by rw [hc]; kernel_rfl)
theorem Rw.set {w : World} {lo hi g i : Nat} {e : TypeId} {sz n : Nat} {u x : Value} {xs : List Value} (h : Rw w lo hi e sz u n xs) (hg : g < lo) : Rw (w.setCell ⟨g, i, none⟩ x) lo hi e sz u n xs := ⟨own_set h.1 hg, h.2⟩
theorem Rw.wide {w : World} {lo hi hi' : Nat} {e : TypeId} {sz n : Nat} {u : Value} {xs : List Value} (h : Rw w lo hi e sz u n xs) (hh : hi ≤ hi') : Rw w lo hi' e sz u n xs := ⟨h.1, fun k hk => Nat.lt_of_lt_of_le (h.2 k hk) hh⟩
def zState : Array Value := #[.slice none 0 0, .slice none 0 0, .slice none 0 0, .slice none 0 0]
theorem Rw.lo {w : World} {lo lo' hi : Nat} {e : TypeId} {sz n : Nat} {u : Value} {xs : List Value} (h : Rw w lo hi e sz u n xs) (hh : lo' ≤ lo) : Rw w lo' hi e sz u n xs := ⟨own_base h.1 hh, h.2⟩

set_option maxHeartbeats 4000000 in
theorem toState_calls (S : Sta) (v0 v1 v2 v3 : Value) (w : World) (hn : S.l.length ≤ 1048576 ∧ S.T.length ≤ 1048576 ∧ S.L.length ≤ 1048576 ∧ S.C.length ≤ 1048576) (hA : ArgState w S v0 v1 v2 v3) :
    Calls Try.prog 11 #[.agg #[v0, v1, v2, v3]] w fun e w' => ∃ u0 u1 u2 u3, e = .returned (.agg #[u0, u1, u2, u3]) ∧ OwnSt w' w.heap.size w'.heap.size S u0 u1 u2 u3 ∧ Below w.heap.size w w' := by
  obtain ⟨W, hW⟩ : ∃ W, W = ((w.alloc (.cells #[v0, v1, v2, v3] 27)).alloc (.cells zState 35)).alloc (.cells zState 35) := ⟨_, rfl⟩
  have hbW : Below w.heap.size w W := by rw [hW]; exact (((Below.refl _ _).alloc (Nat.le_refl _) _).alloc (by simp) _).alloc (by simp; omega) _
  have hWs : W.heap.size = w.heap.size + 1 + 1 + 1 := by rw [hW]; simp
  have HA : Hid (∀ wx, Below w.heap.size w wx → ArgState wx S v0 v1 v2 v3) := fun wx h => hA.below h
  have HP : Hid (Row W w.heap.size #[v0, v1, v2, v3] 27) := by rw [hW]; exact ((row_new w _ _ rfl).alloc _).alloc _
  have HO : Hid (Row W (w.heap.size + 1) zState 35) := by rw [hW]; exact (row_new _ _ _ (by simp)).alloc _
  have HT : Hid (Row W (w.heap.size + 1 + 1) #[.slice none 0 0, .slice none 0 0, .slice none 0 0, .slice none 0 0] 35) := by rw [hW]; exact row_new _ _ _ (by simp)
  have HB : Hid (Below w.heap.size w W) := hbW
  have HW : Hid (((w.alloc (.cells #[v0, v1, v2, v3] 27)).alloc (.cells zState 35)).alloc (.cells zState 35) = W) := hW.symm
  unfold zState at HW
  clear hW hbW hA
  go_enter Try.func11, Try.ntmps11
  go_wp2_with fail
  rw [HW.out]
  clear HW
  refine (toInts_calls hn.1 _ (HA.out _ HB.out).1).mono ?_
  rintro e w1 ⟨u, rfl, ho, hb⟩
  obtain ⟨a0, c0, rfl, -⟩ := IntsAt.own ho rfl
  have hz0 := hb.size
  have U0 : Hid (Rw w1 W.heap.size w1.heap.size 3 1 (.slice a0 S.l.length c0) S.l.length (intV S.l)) := Rw.new ho
  replace HP : Hid (Row w1 w.heap.size #[v0, v1, v2, v3] 27) := HP.out.next hb
  replace HO : Hid (Row w1 (w.heap.size + 1) zState 35) := HO.out.next hb
  replace HT : Hid (Row w1 (w.heap.size + 1 + 1) #[.slice none 0 0, .slice none 0 0, .slice none 0 0, .slice none 0 0] 35) := HT.out.next hb
  replace HB : Hid (Below w.heap.size w w1) := HB.out.trans (hb.mono HB.out.size)
  clear ho hb
  obtain ⟨m0, hm0⟩ : ∃ m, m = W.heap.size := ⟨_, rfl⟩
  rw [← hm0] at U0
  obtain ⟨m1, hm1⟩ : ∃ m, m = w1.heap.size := ⟨_, rfl⟩
  rw [← hm1] at U0
  have t0 := HT.out.cell 0 rfl
  have f0 := HT.out.free 0
  have p0 := HP.out.cell 1 rfl
  obtain ⟨X0, hX0⟩ : ∃ X0, X0 = w1.setCell ⟨(w.heap.size + 1 + 1), 0, none⟩ (.slice a0 S.l.length c0) := ⟨_, rfl⟩
  have hX0s : X0.heap.size = w1.heap.size := by rw [hX0]; simp [World.setCell]
  have HP1 : Hid (Row X0 w.heap.size #[v0, v1, v2, v3] 27) := by rw [hX0]; exact HP.out.other (by simp; omega) _
  have HO1 : Hid (Row X0 (w.heap.size + 1) zState 35) := by rw [hX0]; exact HO.out.other (by simp) _
  have HT1 : Hid (Row X0 (w.heap.size + 1 + 1) #[.slice a0 S.l.length c0, .slice none 0 0, .slice none 0 0, .slice none 0 0] 35) := by rw [hX0]; exact HT.out.st0 _
  have HB1 : Hid (Below w.heap.size w X0) := by rw [hX0]; exact HB.out.setCell (by simp; omega) _
  replace U0 : Hid (Rw X0 m0 m1 3 1 (.slice a0 S.l.length c0) S.l.length (intV S.l)) := by rw [hX0]; exact U0.out.set (by omega)
  have HX : Hid (w1.setCell ⟨(w.heap.size + 1 + 1), 0, none⟩ (.slice a0 S.l.length c0) = X0) := hX0.symm
  clear hX0 HP HO HT HB
  go_wp2_with fail
  rw [HX.out]
  have HP := HP1
  have HO := HO1
  have HT := HT1
  have HB := HB1
  clear HP1 HO1 HT1 HB1 HX t0 f0 p0
  refine (toTallyS_calls hn.2.1 _ (HA.out _ HB.out).2.1).mono ?_
  rintro e w2 ⟨u, rfl, ho, hb⟩
  obtain ⟨a1, c1, rfl, -⟩ := TaAt.own ho rfl
  have hz1 := hb.size
  have U1 : Hid (Rw w2 X0.heap.size w2.heap.size 60 3 (.slice a1 S.T.length c1) S.T.length (taV S.T)) := Rw.new ho
  replace U0 : Hid (Rw w2 m0 m1 3 1 (.slice a0 S.l.length c0) S.l.length (intV S.l)) := U0.out.below hb
  replace HP : Hid (Row w2 w.heap.size #[v0, v1, v2, v3] 27) := HP.out.next hb
  replace HO : Hid (Row w2 (w.heap.size + 1) zState 35) := HO.out.next hb
  replace HT : Hid (Row w2 (w.heap.size + 1 + 1) #[.slice a0 S.l.length c0, .slice none 0 0, .slice none 0 0, .slice none 0 0] 35) := HT.out.next hb
  replace HB : Hid (Below w.heap.size w w2) := HB.out.trans (hb.mono HB.out.size)
  clear ho hb
  obtain ⟨m2, hm2⟩ : ∃ m, m = w2.heap.size := ⟨_, rfl⟩
  rw [show X0.heap.size = m1 by rw [hX0s]; exact hm1.symm] at U1
  rw [← hm2] at U1
  have t1 := HT.out.cell 1 rfl
  have f1 := HT.out.free 1
  have p1 := HP.out.cell 2 rfl
  obtain ⟨X1, hX1⟩ : ∃ X1, X1 = w2.setCell ⟨(w.heap.size + 1 + 1), 1, none⟩ (.slice a1 S.T.length c1) := ⟨_, rfl⟩
  have hX1s : X1.heap.size = w2.heap.size := by rw [hX1]; simp [World.setCell]
  have HP1 : Hid (Row X1 w.heap.size #[v0, v1, v2, v3] 27) := by rw [hX1]; exact HP.out.other (by simp; omega) _
  have HO1 : Hid (Row X1 (w.heap.size + 1) zState 35) := by rw [hX1]; exact HO.out.other (by simp) _
  have HT1 : Hid (Row X1 (w.heap.size + 1 + 1) #[.slice a0 S.l.length c0, .slice a1 S.T.length c1, .slice none 0 0, .slice none 0 0] 35) := by rw [hX1]; exact HT.out.st1 _
  have HB1 : Hid (Below w.heap.size w X1) := by rw [hX1]; exact HB.out.setCell (by simp; omega) _
  replace U0 : Hid (Rw X1 m0 m1 3 1 (.slice a0 S.l.length c0) S.l.length (intV S.l)) := by rw [hX1]; exact U0.out.set (by omega)
  replace U1 : Hid (Rw X1 m1 m2 60 3 (.slice a1 S.T.length c1) S.T.length (taV S.T)) := by rw [hX1]; exact U1.out.set (by omega)
  have HX : Hid (w2.setCell ⟨(w.heap.size + 1 + 1), 1, none⟩ (.slice a1 S.T.length c1) = X1) := hX1.symm
  clear hX1 HP HO HT HB
  go_wp2_with fail
  rw [HX.out]
  have HP := HP1
  have HO := HO1
  have HT := HT1
  have HB := HB1
  clear HP1 HO1 HT1 HB1 HX t1 f1 p1
  refine (toLiveS_calls hn.2.2.1 _ (HA.out _ HB.out).2.2.1).mono ?_
  rintro e w3 ⟨u, rfl, ho, hb⟩
  obtain ⟨a2, c2, rfl, -⟩ := LiAt.own ho rfl
  have hz2 := hb.size
  have U2 : Hid (Rw w3 X1.heap.size w3.heap.size 62 6 (.slice a2 S.L.length c2) S.L.length (liV S.L)) := Rw.new ho
  replace U0 : Hid (Rw w3 m0 m1 3 1 (.slice a0 S.l.length c0) S.l.length (intV S.l)) := U0.out.below hb
  replace U1 : Hid (Rw w3 m1 m2 60 3 (.slice a1 S.T.length c1) S.T.length (taV S.T)) := U1.out.below hb
  replace HP : Hid (Row w3 w.heap.size #[v0, v1, v2, v3] 27) := HP.out.next hb
  replace HO : Hid (Row w3 (w.heap.size + 1) zState 35) := HO.out.next hb
  replace HT : Hid (Row w3 (w.heap.size + 1 + 1) #[.slice a0 S.l.length c0, .slice a1 S.T.length c1, .slice none 0 0, .slice none 0 0] 35) := HT.out.next hb
  replace HB : Hid (Below w.heap.size w w3) := HB.out.trans (hb.mono HB.out.size)
  clear ho hb
  obtain ⟨m3, hm3⟩ : ∃ m, m = w3.heap.size := ⟨_, rfl⟩
  rw [show X1.heap.size = m2 by rw [hX1s]; exact hm2.symm] at U2
  rw [← hm3] at U2
  have t2 := HT.out.cell 2 rfl
  have f2 := HT.out.free 2
  have p2 := HP.out.cell 3 rfl
  obtain ⟨X2, hX2⟩ : ∃ X2, X2 = w3.setCell ⟨(w.heap.size + 1 + 1), 2, none⟩ (.slice a2 S.L.length c2) := ⟨_, rfl⟩
  have hX2s : X2.heap.size = w3.heap.size := by rw [hX2]; simp [World.setCell]
  have HP1 : Hid (Row X2 w.heap.size #[v0, v1, v2, v3] 27) := by rw [hX2]; exact HP.out.other (by simp; omega) _
  have HO1 : Hid (Row X2 (w.heap.size + 1) zState 35) := by rw [hX2]; exact HO.out.other (by simp) _
  have HT1 : Hid (Row X2 (w.heap.size + 1 + 1) #[.slice a0 S.l.length c0, .slice a1 S.T.length c1, .slice a2 S.L.length c2, .slice none 0 0] 35) := by rw [hX2]; exact HT.out.st2 _
  have HB1 : Hid (Below w.heap.size w X2) := by rw [hX2]; exact HB.out.setCell (by simp; omega) _
  replace U0 : Hid (Rw X2 m0 m1 3 1 (.slice a0 S.l.length c0) S.l.length (intV S.l)) := by rw [hX2]; exact U0.out.set (by omega)
  replace U1 : Hid (Rw X2 m1 m2 60 3 (.slice a1 S.T.length c1) S.T.length (taV S.T)) := by rw [hX2]; exact U1.out.set (by omega)
  replace U2 : Hid (Rw X2 m2 m3 62 6 (.slice a2 S.L.length c2) S.L.length (liV S.L)) := by rw [hX2]; exact U2.out.set (by omega)
  have HX : Hid (w3.setCell ⟨(w.heap.size + 1 + 1), 2, none⟩ (.slice a2 S.L.length c2) = X2) := hX2.symm
  clear hX2 HP HO HT HB
  go_wp2_with fail
  rw [HX.out]
  have HP := HP1
  have HO := HO1
  have HT := HT1
  have HB := HB1
  clear HP1 HO1 HT1 HB1 HX t2 f2 p2
  refine (toCellS_calls hn.2.2.2 _ (HA.out _ HB.out).2.2.2).mono ?_
  rintro e w4 ⟨u, rfl, ho, hb⟩
  obtain ⟨a3, c3, rfl, -⟩ := CeAt.own ho rfl
  have hz3 := hb.size
  have U3 : Hid (Rw w4 X2.heap.size w4.heap.size 57 8 (.slice a3 S.C.length c3) S.C.length (ceV S.C)) := Rw.new ho
  replace U0 : Hid (Rw w4 m0 m1 3 1 (.slice a0 S.l.length c0) S.l.length (intV S.l)) := U0.out.below hb
  replace U1 : Hid (Rw w4 m1 m2 60 3 (.slice a1 S.T.length c1) S.T.length (taV S.T)) := U1.out.below hb
  replace U2 : Hid (Rw w4 m2 m3 62 6 (.slice a2 S.L.length c2) S.L.length (liV S.L)) := U2.out.below hb
  replace HP : Hid (Row w4 w.heap.size #[v0, v1, v2, v3] 27) := HP.out.next hb
  replace HO : Hid (Row w4 (w.heap.size + 1) zState 35) := HO.out.next hb
  replace HT : Hid (Row w4 (w.heap.size + 1 + 1) #[.slice a0 S.l.length c0, .slice a1 S.T.length c1, .slice a2 S.L.length c2, .slice none 0 0] 35) := HT.out.next hb
  replace HB : Hid (Below w.heap.size w w4) := HB.out.trans (hb.mono HB.out.size)
  clear ho hb
  obtain ⟨m4, hm4⟩ : ∃ m, m = w4.heap.size := ⟨_, rfl⟩
  rw [show X2.heap.size = m3 by rw [hX2s]; exact hm3.symm] at U3
  rw [← hm4] at U3
  obtain ⟨t0, t1, t2, t3⟩ := Row.four HT.out
  have f3 := HT.out.free 3
  obtain ⟨o0, o1, o2, o3⟩ := Row.four HO.out
  have g0 := HO.out.free 0
  have g1 := HO.out.free 1
  have g2 := HO.out.free 2
  have g3 := HO.out.free 3
  go_wp2
  have HZ := (((HO.out.other (p := ⟨(w.heap.size + 1 + 1), 3, none⟩) (by simp) (.slice a3 S.C.length c3)).st0 (.slice a0 S.l.length c0)).st1 (.slice a1 S.T.length c1)).st2 (.slice a2 S.L.length c2) |>.st3 (.slice a3 S.C.length c3)
  have HBB := ((((HB.out.setCell (p := ⟨(w.heap.size + 1 + 1), 3, none⟩) (by simp; omega) (.slice a3 S.C.length c3)).setCell (p := ⟨w.heap.size + 1, 0, none⟩) (by simp) (.slice a0 S.l.length c0)).setCell (p := ⟨w.heap.size + 1, 1, none⟩) (by simp) (.slice a1 S.T.length c1)).setCell (p := ⟨w.heap.size + 1, 2, none⟩) (by simp) (.slice a2 S.L.length c2)).setCell (p := ⟨w.heap.size + 1, 3, none⟩) (by simp) (.slice a3 S.C.length c3)
  have V0 := ((((U0.out.set (i := 3) (x := .slice a3 S.C.length c3) (g := (w.heap.size + 1 + 1)) (by omega)).set (i := 0) (x := .slice a0 S.l.length c0) (g := w.heap.size + 1) (by omega)).set (i := 1) (x := .slice a1 S.T.length c1) (g := w.heap.size + 1) (by omega)).set (i := 2) (x := .slice a2 S.L.length c2) (g := w.heap.size + 1) (by omega)).set (i := 3) (x := .slice a3 S.C.length c3) (g := w.heap.size + 1) (by omega)
  have V1 := ((((U1.out.set (i := 3) (x := .slice a3 S.C.length c3) (g := (w.heap.size + 1 + 1)) (by omega)).set (i := 0) (x := .slice a0 S.l.length c0) (g := w.heap.size + 1) (by omega)).set (i := 1) (x := .slice a1 S.T.length c1) (g := w.heap.size + 1) (by omega)).set (i := 2) (x := .slice a2 S.L.length c2) (g := w.heap.size + 1) (by omega)).set (i := 3) (x := .slice a3 S.C.length c3) (g := w.heap.size + 1) (by omega)
  have V2 := ((((U2.out.set (i := 3) (x := .slice a3 S.C.length c3) (g := (w.heap.size + 1 + 1)) (by omega)).set (i := 0) (x := .slice a0 S.l.length c0) (g := w.heap.size + 1) (by omega)).set (i := 1) (x := .slice a1 S.T.length c1) (g := w.heap.size + 1) (by omega)).set (i := 2) (x := .slice a2 S.L.length c2) (g := w.heap.size + 1) (by omega)).set (i := 3) (x := .slice a3 S.C.length c3) (g := w.heap.size + 1) (by omega)
  have V3 := ((((U3.out.set (i := 3) (x := .slice a3 S.C.length c3) (g := (w.heap.size + 1 + 1)) (by omega)).set (i := 0) (x := .slice a0 S.l.length c0) (g := w.heap.size + 1) (by omega)).set (i := 1) (x := .slice a1 S.T.length c1) (g := w.heap.size + 1) (by omega)).set (i := 2) (x := .slice a2 S.L.length c2) (g := w.heap.size + 1) (by omega)).set (i := 3) (x := .slice a3 S.C.length c3) (g := w.heap.size + 1) (by omega)
  exact bodyPost_ret (retState rfl rfl rfl HZ) rfl ⟨_, _, _, _, rfl, ⟨m1, m2, m3, by omega, by omega, by omega, by simp [World.setCell]; omega, V0.lo (by omega), V1, V2, V3.wide (by simp [World.setCell]; omega)⟩, HBB⟩

set_option maxHeartbeats 4000000 in
theorem eqState_calls (S : Sta) (u0 u1 u2 u3 v0 v1 v2 v3 : Value) (w : World) (hn : S.l.length ≤ 1048576 ∧ S.T.length ≤ 1048576 ∧ S.L.length ≤ 1048576 ∧ S.C.length ≤ 1048576) (hA : StAt w S u0 u1 u2 u3) (hB : StAt w S v0 v1 v2 v3) :
    Calls Try.prog 14 #[.agg #[u0, u1, u2, u3], .agg #[v0, v1, v2, v3]] w fun e w' => e = .returned (.bool true) ∧ Below w.heap.size w w' := by
  obtain ⟨W, hW⟩ : ∃ W, W = (w.alloc (.cells #[u0, u1, u2, u3] 35)).alloc (.cells #[v0, v1, v2, v3] 35) := ⟨_, rfl⟩
  have HA : Hid (StAt W S u0 u1 u2 u3) := by rw [hW]; exact (hA.alloc _).alloc _
  have HC : Hid (StAt W S v0 v1 v2 v3) := by rw [hW]; exact (hB.alloc _).alloc _
  have HPA : Hid (Row W w.heap.size #[u0, u1, u2, u3] 35) := by rw [hW]; exact (row_new w _ _ rfl).alloc _
  have HPB : Hid (Row W (w.heap.size + 1) #[v0, v1, v2, v3] 35) := by rw [hW]; exact row_new _ _ _ (by simp)
  have HB : Hid (Below w.heap.size w W) := by rw [hW]; exact ((Below.refl _ _).alloc (Nat.le_refl _) _).alloc (by simp) _
  have HW : Hid ((w.alloc (.cells #[u0, u1, u2, u3] 35)).alloc (.cells #[v0, v1, v2, v3] 35) = W) := hW.symm
  clear hW hA hB
  go_enter Try.func14, Try.ntmps14
  go_wp2_with fail
  rw [HW.out]
  clear HW
  refine (eqInts_calls hn.1 _ HA.out.1 HC.out.1).mono ?_
  rintro e w1 ⟨rfl, hb⟩
  replace HA : Hid (StAt w1 S u0 u1 u2 u3) := HA.out.below hb
  replace HC : Hid (StAt w1 S v0 v1 v2 v3) := HC.out.below hb
  replace HPA : Hid (Row w1 w.heap.size #[u0, u1, u2, u3] 35) := HPA.out.next hb
  replace HPB : Hid (Row w1 (w.heap.size + 1) #[v0, v1, v2, v3] 35) := HPB.out.next hb
  replace HB : Hid (Below w.heap.size w w1) := HB.out.trans (hb.mono HB.out.size)
  clear hb
  have a0 := HPA.out.cell 1 rfl
  have b0 := HPB.out.cell 1 rfl
  go_wp2_with fail
  clear a0 b0
  refine (eqTallyS_calls hn.2.1 _ HA.out.2.1 HC.out.2.1).mono ?_
  rintro e w2 ⟨rfl, hb⟩
  replace HA : Hid (StAt w2 S u0 u1 u2 u3) := HA.out.below hb
  replace HC : Hid (StAt w2 S v0 v1 v2 v3) := HC.out.below hb
  replace HPA : Hid (Row w2 w.heap.size #[u0, u1, u2, u3] 35) := HPA.out.next hb
  replace HPB : Hid (Row w2 (w.heap.size + 1) #[v0, v1, v2, v3] 35) := HPB.out.next hb
  replace HB : Hid (Below w.heap.size w w2) := HB.out.trans (hb.mono HB.out.size)
  clear hb
  have a1 := HPA.out.cell 2 rfl
  have b1 := HPB.out.cell 2 rfl
  go_wp2_with fail
  clear a1 b1
  refine (eqLiveS_calls hn.2.2.1 _ HA.out.2.2.1 HC.out.2.2.1).mono ?_
  rintro e w3 ⟨rfl, hb⟩
  replace HA : Hid (StAt w3 S u0 u1 u2 u3) := HA.out.below hb
  replace HC : Hid (StAt w3 S v0 v1 v2 v3) := HC.out.below hb
  replace HPA : Hid (Row w3 w.heap.size #[u0, u1, u2, u3] 35) := HPA.out.next hb
  replace HPB : Hid (Row w3 (w.heap.size + 1) #[v0, v1, v2, v3] 35) := HPB.out.next hb
  replace HB : Hid (Below w.heap.size w w3) := HB.out.trans (hb.mono HB.out.size)
  clear hb
  have a2 := HPA.out.cell 3 rfl
  have b2 := HPB.out.cell 3 rfl
  go_wp2_with fail
  clear a2 b2
  refine (eqCellS_calls hn.2.2.2 _ HA.out.2.2.2 HC.out.2.2.2).mono ?_
  rintro e w4 ⟨rfl, hb⟩
  replace HA : Hid (StAt w4 S u0 u1 u2 u3) := HA.out.below hb
  replace HC : Hid (StAt w4 S v0 v1 v2 v3) := HC.out.below hb
  replace HPA : Hid (Row w4 w.heap.size #[u0, u1, u2, u3] 35) := HPA.out.next hb
  replace HPB : Hid (Row w4 (w.heap.size + 1) #[v0, v1, v2, v3] 35) := HPB.out.next hb
  replace HB : Hid (Below w.heap.size w w4) := HB.out.trans (hb.mono HB.out.size)
  clear hb
  go_wp2
  go_ret
  exact ⟨rfl, HB.out⟩

end Go.Proofs.Ytahdgagipmpcgaa
