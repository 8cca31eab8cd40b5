/- An act is done to a state, or not, as the specification does. -/
import Derived.Test.YtdknoflkingodaaGreatQ26
import Derived.Test.YtdknoflkingodaaGreatQ27
import Derived.Test.YtdknoflkingodaaGreatQ29
set_option maxHeartbeats 16000000
namespace Go.Proofs.YtdknoflkingodaaGreat
open Value (int)
open IntKind (i64)
set_option maxRecDepth 100000
set_option linter.unusedVariables false
open Go.RowKit
theorem JaJ (S : Sta) (A : Ac) (u : Value) (p : Nat) (u0 u1 u2 u3 : Value) (B : Nat) (w : World) (hS : SOk S) (hA : AOk A) (hR : JU S A) (hp : Row w p #[u0, u1, u2, u3] 29) (hpl : p < w.heap.size) (hB : B ≤ w.heap.size) (hO : OwnS w B S u0 u1 u2 u3) (hoff : Zp p u0 u1 u2 u3) (hU : ∀ wx, FrB w wx B p → IntsAt wx u A.l) :
  Calls Tryz.prog 142 #[.pointer (some ⟨p, 0, none⟩), .agg #[int i64 A.r, int i64 A.s, int i64 A.t, u, int i64 A.k, .string A.o, .string A.y, int i64 A.v, int i64 A.x, int i64 A.z]] w fun e w' => e = .returned (.tuple #[]) ∧ ∃ v0 v1 v2 v3, Row w' p #[v0, v1, v2, v3] 29 ∧ OwnS w' B (doS S A) v0 v1 v2 v3 ∧ FrB w w' B p := by
 have hk := hA.2.2.2.2.1.1
 have hc : A.k = 1 ∨ A.k = 2 ∨ A.k = 3 ∨ A.k = 4 ∨ A.k = 5 ∨ A.k = 6 ∨ A.k = 7 := by omega
 rcases hc with h | h | h | h | h | h | h
 ·exact JcO S A u p u0 u1 u2 u3 B w hS hA hR h hp hpl hB hO hoff hU
 ·exact JcV S A u p u0 u1 u2 u3 B w hS hA hR h hp hpl hB hO hoff hU
 ·exact JcR S A u p u0 u1 u2 u3 B w hS hA hR h hp hpl hB hO hoff hU
 ·exact JcZ S A u p u0 u1 u2 u3 B w hS hA hR h hp hpl hB hO hoff hU
 ·exact Jdo S A u p u0 u1 u2 u3 B w hS hA hR h hp hpl hB hO hoff hU
 ·exact Jdg S A u p u0 u1 u2 u3 B w hS hA hR h hp hpl hB hO hoff hU
 ·exact Jdk S A u p u0 u1 u2 u3 B w hS hA hR h hp hpl hB hO hoff hU
open Classical in
noncomputable def Zk (S : Sta) (A : Ac) : Int :=
 if ¬ (SOk S ∧ AOk A) then 3 else if Jd S.l A.r A.s = true then 1 else if kin A.l S.l = false then 2 else if ¬ JU S A then 3
 else if 120 < (doS S A).T.length ∨ 120 < (doS S A).L.length ∨ 120 < (doS S A).C.length then 4 else 0
open Classical in
noncomputable def Jv (S : Sta) (A : Ac) : Sta := if Zk S A = 0 then doS S A else S
theorem J9 {fn : Func} {q v : Tmp} (h : fn.results = #[.cell q 29, .tmp v]) {tmps : Array Value} {w : World} {g : Nat} {cs : Array Value} {x : Value} (hc : cs.size = 4) (hp : tmps.getD q undef = .pointer (some ⟨g, 0, none⟩)) (hv : tmps.getD v undef = x) (hg : Row w g cs 29) :
  (results fn tmps).run Tryz.prog w = .ok (.tuple #[.agg cs, x]) w := by
 rw [results_cell_tmp h, hp, hv]
 simp [asAddr, Result.andThen, run_loadVar_row w g 29 29 _ (0, 0) _ hg Tryz.underlying29 rfl (by rw [hc]; kernel_rfl)]
theorem K7 (S : Sta) (u0 u1 u2 u3 : Value) (A : Ac) (u : Value) (w : World) (hn : Small S) (hst : YU S) (h : StAt w S u0 u1 u2 u3) (hal : A.l.length ≤ 1048576 ∧ A.o.size ≤ 1048576 ∧ A.y.size ≤ 1048576) (hu : IntsAt w u A.l) :
  Calls Tryz.prog 87 #[.agg #[u0, u1, u2, u3], .agg #[int i64 A.r, int i64 A.s, int i64 A.t, u, int i64 A.k, .string A.o, .string A.y, int i64 A.v, int i64 A.x, int i64 A.z]] w fun e w' => ∃ v0 v1 v2 v3, e = .returned (.tuple #[.agg #[v0, v1, v2, v3], int i64 (Zk S A)]) ∧ OwnS w' w.heap.size (Jv S A) v0 v1 v2 v3 ∧ Below w.heap.size w w' := by
 obtain ⟨a0, c0, a1, c1, a2, c2, a3, c3, rfl, rfl, rfl, rfl⟩ := h.shape
 obtain ⟨W, hW⟩ : ∃ W, W = ((w.alloc (.cells #[.slice a0 S.l.length c0, .slice a1 S.T.length c1, .slice a2 S.L.length c2, .slice a3 S.C.length c3] 29)).alloc (.cells #[int i64 A.r, int i64 A.s, int i64 A.t, u, int i64 A.k, .string A.o, .string A.y, int i64 A.v, int i64 A.x, int i64 A.z] 62)).alloc (.cells #[.slice none 0 0, .slice none 0 0, .slice none 0 0, .slice none 0 0] 29) := ⟨_, rfl⟩
 have hWs : W.heap.size = w.heap.size + 1 + 1 + 1 := by rw [hW]; simp
 have hB0 : Below w.heap.size w W := by rw [hW]; exact (((Below.refl _ _).alloc (Nat.le_refl _) _).alloc (by simp) _).alloc (by simp; omega) _
 have hR1 : Row W w.heap.size #[.slice a0 S.l.length c0, .slice a1 S.T.length c1, .slice a2 S.L.length c2, .slice a3 S.C.length c3] 29 := by rw [hW]; exact ((Jb w _ _ rfl).alloc _).alloc _
 have hR2 : Row W (w.heap.size + 1) #[int i64 A.r, int i64 A.s, int i64 A.t, u, int i64 A.k, .string A.o, .string A.y, int i64 A.v, int i64 A.x, int i64 A.z] 62 := by rw [hW]; exact (Jb _ _ _ (by simp)).alloc _
 have hR3 : Row W (w.heap.size + 1 + 1) #[.slice none 0 0, .slice none 0 0, .slice none 0 0, .slice none 0 0] 29 := by rw [hW]; exact Jb _ _ _ (by simp)
 have HS : Hid (∀ wx, Below W.heap.size W wx → StAt wx S (.slice a0 S.l.length c0) (.slice a1 S.T.length c1) (.slice a2 S.L.length c2) (.slice a3 S.C.length c3)) := fun wx hb => h.below (hB0.trans (hb.mono hB0.size))
 have HU : Hid (∀ wx, Below W.heap.size W wx → IntsAt wx u A.l) := fun wx hb => hu.below (hB0.trans (hb.mono hB0.size))
 have HR1 : Hid (∀ wx, Below W.heap.size W wx → Row wx w.heap.size #[.slice a0 S.l.length c0, .slice a1 S.T.length c1, .slice a2 S.L.length c2, .slice a3 S.C.length c3] 29) := fun wx hb => hR1.next hb
 have HR2 : Hid (∀ wx, Below W.heap.size W wx → Row wx (w.heap.size + 1) #[int i64 A.r, int i64 A.s, int i64 A.t, u, int i64 A.k, .string A.o, .string A.y, int i64 A.v, int i64 A.x, int i64 A.z] 62) := fun wx hb => hR2.next hb
 have HR3 : Hid (∀ wx, Below W.heap.size W wx → Row wx (w.heap.size + 1 + 1) #[.slice none 0 0, .slice none 0 0, .slice none 0 0, .slice none 0 0] 29) := fun wx hb => hR3.next hb
 have HF : Hid (∀ wx, Below W.heap.size W wx → Below w.heap.size w wx) := fun wx hb => hB0.trans (hb.mono hB0.size)
 have HC : Hid (∀ wx, Below W.heap.size W wx → Calls Tryz.prog 62 #[.agg #[.slice a0 S.l.length c0, .slice a1 S.T.length c1, .slice a2 S.L.length c2, .slice a3 S.C.length c3]] wx fun e w' => ∃ v0 v1 v2 v3, e = .returned (.agg #[v0, v1, v2, v3]) ∧ OwnS w' wx.heap.size S v0 v1 v2 v3 ∧ Below wx.heap.size wx w') := fun wx hb => Vz S _ _ _ _ wx hn (HS.out wx hb)
 have HOK : Hid (∀ wx, Below W.heap.size W wx → Calls Tryz.prog 21 #[.agg #[.slice a0 S.l.length c0, .slice a1 S.T.length c1, .slice a2 S.L.length c2, .slice a3 S.C.length c3]] wx fun e w' => Tells e (SOk S) ∧ Below wx.heap.size wx w') := fun wx hb => ZD S _ _ _ _ wx hn hst (HS.out wx hb)
 have HAK : Hid (∀ wx, Below W.heap.size W wx → Calls Tryz.prog 140 #[.agg #[int i64 A.r, int i64 A.s, int i64 A.t, u, int i64 A.k, .string A.o, .string A.y, int i64 A.v, int i64 A.x, int i64 A.z]] wx fun e w' => e = .returned (.bool (decide (AOk A))) ∧ Below wx.heap.size wx w') := fun wx hb => J8 A u wx hal (HU.out wx hb)
 have HKN : Hid (∀ wx, Below W.heap.size W wx → Calls Tryz.prog 34 #[.slice a0 S.l.length c0, .agg #[int i64 A.r, int i64 A.s]] wx fun e w' => e = .returned (.bool (Jd S.l A.r A.s)) ∧ Below wx.heap.size wx w') := fun wx hb => Zq S.l _ A.r A.s wx hn.1 (HS.out wx hb).1
 have HKI : Hid (∀ wx, Below W.heap.size W wx → Calls Tryz.prog 116 #[u, .slice a0 S.l.length c0] wx fun e w' => e = .returned (.bool (kin A.l S.l)) ∧ Below wx.heap.size wx w') := fun wx hb => UV A.l S.l u _ wx hal.1 hn.1 (HU.out wx hb) (HS.out wx hb).1
 have HRF : Hid (∀ wx, Below W.heap.size W wx → Calls Tryz.prog 141 #[.agg #[.slice a0 S.l.length c0, .slice a1 S.T.length c1, .slice a2 S.L.length c2, .slice a3 S.C.length c3], .agg #[int i64 A.r, int i64 A.s, int i64 A.t, u, int i64 A.k, .string A.o, .string A.y, int i64 A.v, int i64 A.x, int i64 A.z]] wx fun e w' => Tells e (JU S A) ∧ Below wx.heap.size wx w') := fun wx hb => Ye S _ _ _ _ A u wx hn (HS.out wx hb)
 have HW : Hid (((w.alloc (.cells #[.slice a0 S.l.length c0, .slice a1 S.T.length c1, .slice a2 S.L.length c2, .slice a3 S.C.length c3] 29)).alloc (.cells #[int i64 A.r, int i64 A.s, int i64 A.t, u, int i64 A.k, .string A.o, .string A.y, int i64 A.v, int i64 A.x, int i64 A.z] 62)).alloc (.cells #[.slice none 0 0, .slice none 0 0, .slice none 0 0, .slice none 0 0] 29) = W) := hW.symm
 have hW0 : Below W.heap.size W W := Below.refl _ _
 obtain ⟨e0, e1, e2, e3⟩ := Row.four hR1
 rw [hW] at e0 e1 e2 e3
 clear hW h hu hR1 hR2 hR3 hn hst hal hB0
 go_enter Tryz.func87, Tryz.ntmps87
 go_wp2_with fail
 rw [HW.out]
 refine (HC.out _ hW0).mono ?_
 rintro e w1 ⟨v0, v1, v2, v3, rfl, hO1, hb1⟩
 obtain ⟨b0, d0, b1, d1, b2, d2, b3, d3, rfl, rfl, rfl, rfl⟩ := hO1.at.shape
 clear HW e0 e1 e2 e3
 obtain ⟨X, hX⟩ : ∃ X, X = w1.alloc (.cells #[.slice b0 S.l.length d0, .slice b1 S.T.length d1, .slice b2 S.L.length d2, .slice b3 S.C.length d3] 29) := ⟨_, rfl⟩
 have hbX1 : Below w1.heap.size w1 X := by rw [hX]; exact (Below.refl _ _).alloc (Nat.le_refl _) _
 have hbX : Below W.heap.size W X := hb1.trans (hbX1.mono hb1.size)
 have HP0 : Hid (∀ wx, Below X.heap.size X wx → Row wx w1.heap.size #[.slice b0 S.l.length d0, .slice b1 S.T.length d1, .slice b2 S.L.length d2, .slice b3 S.C.length d3] 29) := fun wx hb => Row.next (by rw [hX]; exact Jb w1 _ _ rfl) hb
 have HO1 : Hid (∀ wx, Below X.heap.size X wx → OwnS wx W.heap.size S (.slice b0 S.l.length d0) (.slice b1 S.T.length d1) (.slice b2 S.L.length d2) (.slice b3 S.C.length d3)) := fun wx hb => Own4.next (Own4.next hO1 hbX1) hb
 have HOFF : Hid (Zp w1.heap.size (.slice b0 S.l.length d0) (.slice b1 S.T.length d1) (.slice b2 S.L.length d2) (.slice b3 S.C.length d3)) := ⟨fun k hk => by have := (World.ownsRow.lt hO1.1.1 k hk).2; omega, fun k hk => by have := (World.ownsRow.lt hO1.1.2.1 k hk).2; omega, fun k hk => by have := (World.ownsRow.lt hO1.1.2.2.1 k hk).2; omega, fun k hk => by have := (World.ownsRow.lt hO1.1.2.2.2 k hk).2; omega⟩
 have hXs : X.heap.size = w1.heap.size + 1 := by rw [hX]; simp
 have hws1 := hb1.size
 have HX : Hid (w1.alloc (.cells #[.slice b0 S.l.length d0, .slice b1 S.T.length d1, .slice b2 S.L.length d2, .slice b3 S.C.length d3] 29) = X) := hX.symm
 obtain ⟨e0, e1, e2, e3⟩ := Row.four (HR1.out X hbX)
 rw [hX] at e0 e1 e2 e3
 clear hX hO1 hbX1 hb1
 go_wp2_with fail
 rw [HX.out]
 refine (HOK.out _ hbX).mono ?_
 rintro e x0 ⟨⟨q, rfl, hq⟩, hb⟩
 have hkx0 : Below X.heap.size X x0 := hb
 clear hb HX e0 e1 e2 e3
 cases q with
 | false =>
  have hns : ¬ SOk S := fun h => by have := hq.2 h; cases this
  clear hq
  have hbk : Below W.heap.size W x0 := hbX.trans (hkx0.mono hbX.size)
  have HCD : Hid (Zk S A = 3) := by show _ = _; unfold Zk; rw [if_pos (fun h => hns h.1)]
  have HNX : Hid (Jv S A = S) := by show _ = _; unfold Jv; rw [if_neg (by rw [HCD.out]; decide)]
  obtain ⟨z0, z1, z2, z3⟩ := Row.four (HR3.out x0 hbk)
  have k0 := (HR3.out x0 hbk).free 0
  have k1 := (HR3.out x0 hbk).free 1
  have k2 := (HR3.out x0 hbk).free 2
  have k3 := (HR3.out x0 hbk).free 3
  obtain ⟨p0, p1, p2, p3⟩ := Row.four (HP0.out x0 hkx0)
  obtain ⟨YY, hYY⟩ : ∃ YY, YY = ((((x0.setCell ⟨w.heap.size + 1 + 1, 0, none⟩ (.slice b0 S.l.length d0)).setCell ⟨w.heap.size + 1 + 1, 1, none⟩ (.slice b1 S.T.length d1)).setCell ⟨w.heap.size + 1 + 1, 2, none⟩ (.slice b2 S.L.length d2)).setCell ⟨w.heap.size + 1 + 1, 3, none⟩ (.slice b3 S.C.length d3)) := ⟨_, rfl⟩
  have HZY : Hid (Row YY (w.heap.size + 1 + 1) #[.slice b0 S.l.length d0, .slice b1 S.T.length d1, .slice b2 S.L.length d2, .slice b3 S.C.length d3] 29) := by rw [hYY]; exact ((((HR3.out x0 hbk).st0 _).st1 _).st2 _).st3 _
  have HOY : Hid (OwnS YY w.heap.size (Jv S A) (.slice b0 S.l.length d0) (.slice b1 S.T.length d1) (.slice b2 S.L.length d2) (.slice b3 S.C.length d3)) := by
   rw [hYY, show Jv S A = S from HNX.out]
   exact Own4.base ((((Own4.put (HO1.out x0 hkx0) (by omega)).put (by omega)).put (by omega)).put (by omega)) (by omega)
  have HBY : Hid (Below w.heap.size w YY) := by rw [hYY]; exact ((((HF.out x0 hbk).setCell (by simp; omega) _).setCell (by simp; omega) _).setCell (by simp; omega) _).setCell (by simp; omega) _
  have HYY : Hid (((((x0.setCell ⟨w.heap.size + 1 + 1, 0, none⟩ (.slice b0 S.l.length d0)).setCell ⟨w.heap.size + 1 + 1, 1, none⟩ (.slice b1 S.T.length d1)).setCell ⟨w.heap.size + 1 + 1, 2, none⟩ (.slice b2 S.L.length d2)).setCell ⟨w.heap.size + 1 + 1, 3, none⟩ (.slice b3 S.C.length d3)) = YY) := hYY.symm
  clear hYY
  go_wp2
  rw [HYY.out]
  exact bodyPost_ret (J9 rfl rfl rfl rfl HZY.out) rfl ⟨_, _, _, _, by rw [HCD.out]; rfl, HOY.out, HBY.out⟩
 | true =>
 have HSO : Hid (SOk S) := hq.1 rfl
 clear hq
 have hb0 : Below W.heap.size W x0 := hbX.trans (hkx0.mono hbX.size)
 obtain ⟨e0, e1, e2, e3⟩ := Row.four (HR1.out x0 hb0)
 obtain ⟨t0, t1, t2, t3, t4, t5, t6, t7, t8, t9⟩ := Z7 (HR2.out x0 hb0)
 go_wp2_with fail
 refine (HAK.out _ hb0).mono ?_
 rintro e x1 ⟨rfl, hb⟩
 have hkx1 : Below X.heap.size X x1 := hkx0.trans (hb.mono hkx0.size)
 clear hb hkx0 hb0
 clear e0 e1 e2 e3 t0 t1 t2 t3 t4 t5 t6 t7 t8 t9
 by_cases hA : AOk A
 case neg =>
  rw [decide_eq_false hA]
  have hbk : Below W.heap.size W x1 := hbX.trans (hkx1.mono hbX.size)
  have HCD : Hid (Zk S A = 3) := by show _ = _; unfold Zk; rw [if_pos (fun h => hA h.2)]
  have HNX : Hid (Jv S A = S) := by show _ = _; unfold Jv; rw [if_neg (by rw [HCD.out]; decide)]
  obtain ⟨z0, z1, z2, z3⟩ := Row.four (HR3.out x1 hbk)
  have k0 := (HR3.out x1 hbk).free 0
  have k1 := (HR3.out x1 hbk).free 1
  have k2 := (HR3.out x1 hbk).free 2
  have k3 := (HR3.out x1 hbk).free 3
  obtain ⟨p0, p1, p2, p3⟩ := Row.four (HP0.out x1 hkx1)
  obtain ⟨YY, hYY⟩ : ∃ YY, YY = ((((x1.setCell ⟨w.heap.size + 1 + 1, 0, none⟩ (.slice b0 S.l.length d0)).setCell ⟨w.heap.size + 1 + 1, 1, none⟩ (.slice b1 S.T.length d1)).setCell ⟨w.heap.size + 1 + 1, 2, none⟩ (.slice b2 S.L.length d2)).setCell ⟨w.heap.size + 1 + 1, 3, none⟩ (.slice b3 S.C.length d3)) := ⟨_, rfl⟩
  have HZY : Hid (Row YY (w.heap.size + 1 + 1) #[.slice b0 S.l.length d0, .slice b1 S.T.length d1, .slice b2 S.L.length d2, .slice b3 S.C.length d3] 29) := by rw [hYY]; exact ((((HR3.out x1 hbk).st0 _).st1 _).st2 _).st3 _
  have HOY : Hid (OwnS YY w.heap.size (Jv S A) (.slice b0 S.l.length d0) (.slice b1 S.T.length d1) (.slice b2 S.L.length d2) (.slice b3 S.C.length d3)) := by
   rw [hYY, show Jv S A = S from HNX.out]
   exact Own4.base ((((Own4.put (HO1.out x1 hkx1) (by omega)).put (by omega)).put (by omega)).put (by omega)) (by omega)
  have HBY : Hid (Below w.heap.size w YY) := by rw [hYY]; exact ((((HF.out x1 hbk).setCell (by simp; omega) _).setCell (by simp; omega) _).setCell (by simp; omega) _).setCell (by simp; omega) _
  have HYY : Hid (((((x1.setCell ⟨w.heap.size + 1 + 1, 0, none⟩ (.slice b0 S.l.length d0)).setCell ⟨w.heap.size + 1 + 1, 1, none⟩ (.slice b1 S.T.length d1)).setCell ⟨w.heap.size + 1 + 1, 2, none⟩ (.slice b2 S.L.length d2)).setCell ⟨w.heap.size + 1 + 1, 3, none⟩ (.slice b3 S.C.length d3)) = YY) := hYY.symm
  clear hYY
  go_wp2
  rw [HYY.out]
  exact bodyPost_ret (J9 rfl rfl rfl rfl HZY.out) rfl ⟨_, _, _, _, by rw [HCD.out]; rfl, HOY.out, HBY.out⟩
 rw [decide_eq_true hA]
 have HSA : Hid (¬ ¬ (SOk S ∧ AOk A)) := fun h => h ⟨HSO.out, hA⟩
 have hb0 : Below W.heap.size W x1 := hbX.trans (hkx1.mono hbX.size)
 obtain ⟨e0, e1, e2, e3⟩ := Row.four (HR1.out x1 hb0)
 obtain ⟨t0, t1, t2, t3, t4, t5, t6, t7, t8, t9⟩ := Z7 (HR2.out x1 hb0)
 have HKN1 := Ja (HKN.out x1 hb0)
 have HKV : Hid (∀ b, Jd S.l A.r A.s = b → Jd S.l A.r A.s = b) := fun b h => h
 obtain ⟨kb, hkb⟩ : ∃ kb, kb = Jd S.l A.r A.s := ⟨_, rfl⟩
 rw [← hkb] at HKN1
 have HKB := Ja hkb
 clear hkb HKV
 go_wp2_with fail
 refine HKN1.out.mono ?_
 rintro e x2 ⟨rfl, hb⟩
 have hkx2 : Below X.heap.size X x2 := hkx1.trans (hb.mono hkx1.size)
 clear hb hkx1 hb0 HKN1
 clear e0 e1 e2 e3 t0 t1 t2 t3 t4 t5 t6 t7 t8 t9
 cases kb with
 | true =>
  have hbk : Below W.heap.size W x2 := hbX.trans (hkx2.mono hbX.size)
  have HCD : Hid (Zk S A = 1) := by show _ = _; unfold Zk; rw [if_neg HSA.out, if_pos HKB.out.symm]
  have HNX : Hid (Jv S A = S) := by show _ = _; unfold Jv; rw [if_neg (by rw [HCD.out]; decide)]
  obtain ⟨z0, z1, z2, z3⟩ := Row.four (HR3.out x2 hbk)
  have k0 := (HR3.out x2 hbk).free 0
  have k1 := (HR3.out x2 hbk).free 1
  have k2 := (HR3.out x2 hbk).free 2
  have k3 := (HR3.out x2 hbk).free 3
  obtain ⟨p0, p1, p2, p3⟩ := Row.four (HP0.out x2 hkx2)
  obtain ⟨YY, hYY⟩ : ∃ YY, YY = ((((x2.setCell ⟨w.heap.size + 1 + 1, 0, none⟩ (.slice b0 S.l.length d0)).setCell ⟨w.heap.size + 1 + 1, 1, none⟩ (.slice b1 S.T.length d1)).setCell ⟨w.heap.size + 1 + 1, 2, none⟩ (.slice b2 S.L.length d2)).setCell ⟨w.heap.size + 1 + 1, 3, none⟩ (.slice b3 S.C.length d3)) := ⟨_, rfl⟩
  have HZY : Hid (Row YY (w.heap.size + 1 + 1) #[.slice b0 S.l.length d0, .slice b1 S.T.length d1, .slice b2 S.L.length d2, .slice b3 S.C.length d3] 29) := by rw [hYY]; exact ((((HR3.out x2 hbk).st0 _).st1 _).st2 _).st3 _
  have HOY : Hid (OwnS YY w.heap.size (Jv S A) (.slice b0 S.l.length d0) (.slice b1 S.T.length d1) (.slice b2 S.L.length d2) (.slice b3 S.C.length d3)) := by
   rw [hYY, show Jv S A = S from HNX.out]
   exact Own4.base ((((Own4.put (HO1.out x2 hkx2) (by omega)).put (by omega)).put (by omega)).put (by omega)) (by omega)
  have HBY : Hid (Below w.heap.size w YY) := by rw [hYY]; exact ((((HF.out x2 hbk).setCell (by simp; omega) _).setCell (by simp; omega) _).setCell (by simp; omega) _).setCell (by simp; omega) _
  have HYY : Hid (((((x2.setCell ⟨w.heap.size + 1 + 1, 0, none⟩ (.slice b0 S.l.length d0)).setCell ⟨w.heap.size + 1 + 1, 1, none⟩ (.slice b1 S.T.length d1)).setCell ⟨w.heap.size + 1 + 1, 2, none⟩ (.slice b2 S.L.length d2)).setCell ⟨w.heap.size + 1 + 1, 3, none⟩ (.slice b3 S.C.length d3)) = YY) := hYY.symm
  clear hYY
  go_wp2
  rw [HYY.out]
  exact bodyPost_ret (J9 rfl rfl rfl rfl HZY.out) rfl ⟨_, _, _, _, by rw [HCD.out]; rfl, HOY.out, HBY.out⟩
 | false =>
 have hb0 : Below W.heap.size W x2 := hbX.trans (hkx2.mono hbX.size)
 obtain ⟨e0, e1, e2, e3⟩ := Row.four (HR1.out x2 hb0)
 obtain ⟨t0, t1, t2, t3, t4, t5, t6, t7, t8, t9⟩ := Z7 (HR2.out x2 hb0)
 have HKI1 := Ja (HKI.out x2 hb0)
 obtain ⟨ib, hib⟩ : ∃ ib, ib = kin A.l S.l := ⟨_, rfl⟩
 rw [← hib] at HKI1
 have HIB := Ja hib
 clear hib
 go_wp2_with fail
 refine HKI1.out.mono ?_
 rintro e x3 ⟨rfl, hb⟩
 have hkx3 : Below X.heap.size X x3 := hkx2.trans (hb.mono hkx2.size)
 clear hb hkx2 hb0 HKI1
 clear e0 e1 e2 e3 t0 t1 t2 t3 t4 t5 t6 t7 t8 t9
 cases ib with
 | false =>
  have hbk : Below W.heap.size W x3 := hbX.trans (hkx3.mono hbX.size)
  have HCD : Hid (Zk S A = 2) := by show _ = _; unfold Zk; rw [if_neg HSA.out, if_neg (by rw [← HKB.out]; simp), if_pos HIB.out.symm]
  have HNX : Hid (Jv S A = S) := by show _ = _; unfold Jv; rw [if_neg (by rw [HCD.out]; decide)]
  obtain ⟨z0, z1, z2, z3⟩ := Row.four (HR3.out x3 hbk)
  have k0 := (HR3.out x3 hbk).free 0
  have k1 := (HR3.out x3 hbk).free 1
  have k2 := (HR3.out x3 hbk).free 2
  have k3 := (HR3.out x3 hbk).free 3
  obtain ⟨p0, p1, p2, p3⟩ := Row.four (HP0.out x3 hkx3)
  obtain ⟨YY, hYY⟩ : ∃ YY, YY = ((((x3.setCell ⟨w.heap.size + 1 + 1, 0, none⟩ (.slice b0 S.l.length d0)).setCell ⟨w.heap.size + 1 + 1, 1, none⟩ (.slice b1 S.T.length d1)).setCell ⟨w.heap.size + 1 + 1, 2, none⟩ (.slice b2 S.L.length d2)).setCell ⟨w.heap.size + 1 + 1, 3, none⟩ (.slice b3 S.C.length d3)) := ⟨_, rfl⟩
  have HZY : Hid (Row YY (w.heap.size + 1 + 1) #[.slice b0 S.l.length d0, .slice b1 S.T.length d1, .slice b2 S.L.length d2, .slice b3 S.C.length d3] 29) := by rw [hYY]; exact ((((HR3.out x3 hbk).st0 _).st1 _).st2 _).st3 _
  have HOY : Hid (OwnS YY w.heap.size (Jv S A) (.slice b0 S.l.length d0) (.slice b1 S.T.length d1) (.slice b2 S.L.length d2) (.slice b3 S.C.length d3)) := by
   rw [hYY, show Jv S A = S from HNX.out]
   exact Own4.base ((((Own4.put (HO1.out x3 hkx3) (by omega)).put (by omega)).put (by omega)).put (by omega)) (by omega)
  have HBY : Hid (Below w.heap.size w YY) := by rw [hYY]; exact ((((HF.out x3 hbk).setCell (by simp; omega) _).setCell (by simp; omega) _).setCell (by simp; omega) _).setCell (by simp; omega) _
  have HYY : Hid (((((x3.setCell ⟨w.heap.size + 1 + 1, 0, none⟩ (.slice b0 S.l.length d0)).setCell ⟨w.heap.size + 1 + 1, 1, none⟩ (.slice b1 S.T.length d1)).setCell ⟨w.heap.size + 1 + 1, 2, none⟩ (.slice b2 S.L.length d2)).setCell ⟨w.heap.size + 1 + 1, 3, none⟩ (.slice b3 S.C.length d3)) = YY) := hYY.symm
  clear hYY
  go_wp2
  rw [HYY.out]
  exact bodyPost_ret (J9 rfl rfl rfl rfl HZY.out) rfl ⟨_, _, _, _, by rw [HCD.out]; rfl, HOY.out, HBY.out⟩
 | true =>
 have hb0 : Below W.heap.size W x3 := hbX.trans (hkx3.mono hbX.size)
 obtain ⟨e0, e1, e2, e3⟩ := Row.four (HR1.out x3 hb0)
 obtain ⟨t0, t1, t2, t3, t4, t5, t6, t7, t8, t9⟩ := Z7 (HR2.out x3 hb0)
 go_wp2_with fail
 refine (HRF.out _ hb0).mono ?_
 rintro e x4 ⟨⟨q, rfl, hq⟩, hb⟩
 have hkx4 : Below X.heap.size X x4 := hkx3.trans (hb.mono hkx3.size)
 clear hb hkx3 hb0
 clear e0 e1 e2 e3 t0 t1 t2 t3 t4 t5 t6 t7 t8 t9
 cases q with
 | false =>
  have hnr : ¬ JU S A := fun h => by have := hq.2 h; cases this
  clear hq
  have hbk : Below W.heap.size W x4 := hbX.trans (hkx4.mono hbX.size)
  have HCD : Hid (Zk S A = 3) := by show _ = _; unfold Zk; rw [if_neg HSA.out, if_neg (by rw [← HKB.out]; simp), if_neg (by rw [← HIB.out]; simp), if_pos hnr]
  have HNX : Hid (Jv S A = S) := by show _ = _; unfold Jv; rw [if_neg (by rw [HCD.out]; decide)]
  obtain ⟨z0, z1, z2, z3⟩ := Row.four (HR3.out x4 hbk)
  have k0 := (HR3.out x4 hbk).free 0
  have k1 := (HR3.out x4 hbk).free 1
  have k2 := (HR3.out x4 hbk).free 2
  have k3 := (HR3.out x4 hbk).free 3
  obtain ⟨p0, p1, p2, p3⟩ := Row.four (HP0.out x4 hkx4)
  obtain ⟨YY, hYY⟩ : ∃ YY, YY = ((((x4.setCell ⟨w.heap.size + 1 + 1, 0, none⟩ (.slice b0 S.l.length d0)).setCell ⟨w.heap.size + 1 + 1, 1, none⟩ (.slice b1 S.T.length d1)).setCell ⟨w.heap.size + 1 + 1, 2, none⟩ (.slice b2 S.L.length d2)).setCell ⟨w.heap.size + 1 + 1, 3, none⟩ (.slice b3 S.C.length d3)) := ⟨_, rfl⟩
  have HZY : Hid (Row YY (w.heap.size + 1 + 1) #[.slice b0 S.l.length d0, .slice b1 S.T.length d1, .slice b2 S.L.length d2, .slice b3 S.C.length d3] 29) := by rw [hYY]; exact ((((HR3.out x4 hbk).st0 _).st1 _).st2 _).st3 _
  have HOY : Hid (OwnS YY w.heap.size (Jv S A) (.slice b0 S.l.length d0) (.slice b1 S.T.length d1) (.slice b2 S.L.length d2) (.slice b3 S.C.length d3)) := by
   rw [hYY, show Jv S A = S from HNX.out]
   exact Own4.base ((((Own4.put (HO1.out x4 hkx4) (by omega)).put (by omega)).put (by omega)).put (by omega)) (by omega)
  have HBY : Hid (Below w.heap.size w YY) := by rw [hYY]; exact ((((HF.out x4 hbk).setCell (by simp; omega) _).setCell (by simp; omega) _).setCell (by simp; omega) _).setCell (by simp; omega) _
  have HYY : Hid (((((x4.setCell ⟨w.heap.size + 1 + 1, 0, none⟩ (.slice b0 S.l.length d0)).setCell ⟨w.heap.size + 1 + 1, 1, none⟩ (.slice b1 S.T.length d1)).setCell ⟨w.heap.size + 1 + 1, 2, none⟩ (.slice b2 S.L.length d2)).setCell ⟨w.heap.size + 1 + 1, 3, none⟩ (.slice b3 S.C.length d3)) = YY) := hYY.symm
  clear hYY
  go_wp2
  rw [HYY.out]
  exact bodyPost_ret (J9 rfl rfl rfl rfl HZY.out) rfl ⟨_, _, _, _, by rw [HCD.out]; rfl, HOY.out, HBY.out⟩
 | true =>
 have hhr : JU S A := hq.1 rfl
 clear hq
 have hb0 : Below W.heap.size W x4 := hbX.trans (hkx4.mono hbX.size)
 obtain ⟨e0, e1, e2, e3⟩ := Row.four (HR1.out x4 hb0)
 obtain ⟨t0, t1, t2, t3, t4, t5, t6, t7, t8, t9⟩ := Z7 (HR2.out x4 hb0)
 have hx4s := hkx4.size
 have HFB : Hid (∀ wx, FrB x4 wx W.heap.size w1.heap.size → Below W.heap.size W wx) := fun wx hf => hb0.trans ⟨hf.1, hf.2.1, hf.2.2.1, hf.2.2.2.1, fun k hk => hf.2.2.2.2 k hk (by omega)⟩
 have HDO := Ja (JaJ S A u w1.heap.size _ _ _ _ W.heap.size x4 HSO.out hA hhr (HP0.out x4 hkx4) (by omega) (by omega) (HO1.out x4 hkx4) HOFF.out (fun wx hf => HU.out wx (HFB.out wx hf)))
 have HHR := Ja hhr
 have HAA := Ja hA
 clear hhr hA
 go_wp2_with fail
 refine HDO.out.mono ?_
 rintro e x5 ⟨rfl, y0, y1, y2, y3, hRP, hOP, hFP⟩
 have hb5 := HFB.out x5 hFP
 obtain ⟨f0, h0, f1, h1, f2, h2, f3, h3, rfl, rfl, rfl, rfl⟩ := hOP.at.shape
 have HRP := Ja hRP
 have HOP := Ja hOP
 clear hRP hOP hFP HDO HFB hb0 hkx4 hx4s HP0
 clear e0 e1 e2 e3 t0 t1 t2 t3 t4 t5 t6 t7 t8 t9
 obtain ⟨p0, p1, p2, p3⟩ := Row.four HRP.out
 have HRB : Hid (Zk S A = if 120 < (doS S A).T.length ∨ 120 < (doS S A).L.length ∨ 120 < (doS S A).C.length then 4 else 0) := by
  show _ = _; unfold Zk; rw [if_neg HSA.out, if_neg (by rw [← HKB.out]; simp), if_neg (by rw [← HIB.out]; simp), if_neg (fun h => h HHR.out)]
 obtain ⟨nt, hnt⟩ : ∃ n, n = (doS S A).T.length := ⟨_, rfl⟩
 obtain ⟨nv, hnv⟩ : ∃ n, n = (doS S A).L.length := ⟨_, rfl⟩
 obtain ⟨nc, hnc⟩ : ∃ n, n = (doS S A).C.length := ⟨_, rfl⟩
 obtain ⟨n0, hn0⟩ : ∃ n, n = (doS S A).l.length := ⟨_, rfl⟩
 rw [← hnt, ← hnv, ← hnc] at HRB
 rw [← hnt, ← hnv, ← hnc, ← hn0] at HRP HOP
 rw [← hn0] at p0
 rw [← hnt] at p1
 rw [← hnv] at p2
 rw [← hnc] at p3
 clear hnt hnv hnc hn0
 by_cases g1 : 120 < nt
 ·have g1i : (120 : Int) < nt := by omega
  have HCD : Hid (Zk S A = 4) := by show _ = _; rw [HRB.out, if_pos (.inl g1)]
  have HNX : Hid (Jv S A = S) := by show _ = _; unfold Jv; rw [if_neg (by rw [HCD.out]; decide)]
  obtain ⟨e0, e1, e2, e3⟩ := Row.four (HR1.out x5 hb5)
  go_wp2_with fail
  refine (HC.out x5 hb5).mono ?_
  rintro e x6 ⟨v0, v1, v2, v3, rfl, hO6, hb6⟩
  obtain ⟨g0, j0, g1, j1, g2, j2, g3, j3, rfl, rfl, rfl, rfl⟩ := hO6.at.shape
  have hb7 : Below W.heap.size W x6 := hb5.trans (hb6.mono hb5.size)
  clear e0 e1 e2 e3 p0 p1 p2 p3
  obtain ⟨z0, z1, z2, z3⟩ := Row.four (HR3.out x6 hb7)
  have k0 := (HR3.out x6 hb7).free 0
  have k1 := (HR3.out x6 hb7).free 1
  have k2 := (HR3.out x6 hb7).free 2
  have k3 := (HR3.out x6 hb7).free 3
  obtain ⟨YY, hYY⟩ : ∃ YY, YY = ((((x6.setCell ⟨w.heap.size + 1 + 1, 0, none⟩ (.slice g0 S.l.length j0)).setCell ⟨w.heap.size + 1 + 1, 1, none⟩ (.slice g1 S.T.length j1)).setCell ⟨w.heap.size + 1 + 1, 2, none⟩ (.slice g2 S.L.length j2)).setCell ⟨w.heap.size + 1 + 1, 3, none⟩ (.slice g3 S.C.length j3)) := ⟨_, rfl⟩
  have HZY : Hid (Row YY (w.heap.size + 1 + 1) #[.slice g0 S.l.length j0, .slice g1 S.T.length j1, .slice g2 S.L.length j2, .slice g3 S.C.length j3] 29) := by rw [hYY]; exact ((((HR3.out x6 hb7).st0 _).st1 _).st2 _).st3 _
  have HOY : Hid (OwnS YY w.heap.size (Jv S A) (.slice g0 S.l.length j0) (.slice g1 S.T.length j1) (.slice g2 S.L.length j2) (.slice g3 S.C.length j3)) := by
   rw [hYY, show Jv S A = S from HNX.out]
   exact Own4.base ((((Own4.put (Own4.base hO6 hb5.size) (by omega)).put (by omega)).put (by omega)).put (by omega)) (by omega)
  have HBY : Hid (Below w.heap.size w YY) := by rw [hYY]; exact ((((HF.out x6 hb7).setCell (by simp; omega) _).setCell (by simp; omega) _).setCell (by simp; omega) _).setCell (by simp; omega) _
  have HYY : Hid (((((x6.setCell ⟨w.heap.size + 1 + 1, 0, none⟩ (.slice g0 S.l.length j0)).setCell ⟨w.heap.size + 1 + 1, 1, none⟩ (.slice g1 S.T.length j1)).setCell ⟨w.heap.size + 1 + 1, 2, none⟩ (.slice g2 S.L.length j2)).setCell ⟨w.heap.size + 1 + 1, 3, none⟩ (.slice g3 S.C.length j3)) = YY) := hYY.symm
  clear hYY
  go_wp2
  rw [HYY.out]
  exact bodyPost_ret (J9 rfl rfl rfl rfl HZY.out) rfl ⟨_, _, _, _, by rw [HCD.out]; rfl, HOY.out, HBY.out⟩
 have g1i : ¬ ((120 : Int) < nt) := by omega
 by_cases g2 : 120 < nv
 ·have g2i : (120 : Int) < nv := by omega
  have HCD : Hid (Zk S A = 4) := by show _ = _; rw [HRB.out, if_pos (.inr (.inl g2))]
  have HNX : Hid (Jv S A = S) := by show _ = _; unfold Jv; rw [if_neg (by rw [HCD.out]; decide)]
  obtain ⟨e0, e1, e2, e3⟩ := Row.four (HR1.out x5 hb5)
  go_wp2_with fail
  refine (HC.out x5 hb5).mono ?_
  rintro e x6 ⟨v0, v1, v2, v3, rfl, hO6, hb6⟩
  obtain ⟨g0, j0, g1, j1, g2, j2, g3, j3, rfl, rfl, rfl, rfl⟩ := hO6.at.shape
  have hb7 : Below W.heap.size W x6 := hb5.trans (hb6.mono hb5.size)
  clear e0 e1 e2 e3 p0 p1 p2 p3
  obtain ⟨z0, z1, z2, z3⟩ := Row.four (HR3.out x6 hb7)
  have k0 := (HR3.out x6 hb7).free 0
  have k1 := (HR3.out x6 hb7).free 1
  have k2 := (HR3.out x6 hb7).free 2
  have k3 := (HR3.out x6 hb7).free 3
  obtain ⟨YY, hYY⟩ : ∃ YY, YY = ((((x6.setCell ⟨w.heap.size + 1 + 1, 0, none⟩ (.slice g0 S.l.length j0)).setCell ⟨w.heap.size + 1 + 1, 1, none⟩ (.slice g1 S.T.length j1)).setCell ⟨w.heap.size + 1 + 1, 2, none⟩ (.slice g2 S.L.length j2)).setCell ⟨w.heap.size + 1 + 1, 3, none⟩ (.slice g3 S.C.length j3)) := ⟨_, rfl⟩
  have HZY : Hid (Row YY (w.heap.size + 1 + 1) #[.slice g0 S.l.length j0, .slice g1 S.T.length j1, .slice g2 S.L.length j2, .slice g3 S.C.length j3] 29) := by rw [hYY]; exact ((((HR3.out x6 hb7).st0 _).st1 _).st2 _).st3 _
  have HOY : Hid (OwnS YY w.heap.size (Jv S A) (.slice g0 S.l.length j0) (.slice g1 S.T.length j1) (.slice g2 S.L.length j2) (.slice g3 S.C.length j3)) := by
   rw [hYY, show Jv S A = S from HNX.out]
   exact Own4.base ((((Own4.put (Own4.base hO6 hb5.size) (by omega)).put (by omega)).put (by omega)).put (by omega)) (by omega)
  have HBY : Hid (Below w.heap.size w YY) := by rw [hYY]; exact ((((HF.out x6 hb7).setCell (by simp; omega) _).setCell (by simp; omega) _).setCell (by simp; omega) _).setCell (by simp; omega) _
  have HYY : Hid (((((x6.setCell ⟨w.heap.size + 1 + 1, 0, none⟩ (.slice g0 S.l.length j0)).setCell ⟨w.heap.size + 1 + 1, 1, none⟩ (.slice g1 S.T.length j1)).setCell ⟨w.heap.size + 1 + 1, 2, none⟩ (.slice g2 S.L.length j2)).setCell ⟨w.heap.size + 1 + 1, 3, none⟩ (.slice g3 S.C.length j3)) = YY) := hYY.symm
  clear hYY
  go_wp2
  rw [HYY.out]
  exact bodyPost_ret (J9 rfl rfl rfl rfl HZY.out) rfl ⟨_, _, _, _, by rw [HCD.out]; rfl, HOY.out, HBY.out⟩
 have g2i : ¬ ((120 : Int) < nv) := by omega
 by_cases g3 : 120 < nc
 ·have g3i : (120 : Int) < nc := by omega
  have HCD : Hid (Zk S A = 4) := by show _ = _; rw [HRB.out, if_pos (.inr (.inr g3))]
  have HNX : Hid (Jv S A = S) := by show _ = _; unfold Jv; rw [if_neg (by rw [HCD.out]; decide)]
  obtain ⟨e0, e1, e2, e3⟩ := Row.four (HR1.out x5 hb5)
  go_wp2_with fail
  refine (HC.out x5 hb5).mono ?_
  rintro e x6 ⟨v0, v1, v2, v3, rfl, hO6, hb6⟩
  obtain ⟨g0, j0, g1, j1, g2, j2, g3, j3, rfl, rfl, rfl, rfl⟩ := hO6.at.shape
  have hb7 : Below W.heap.size W x6 := hb5.trans (hb6.mono hb5.size)
  clear e0 e1 e2 e3 p0 p1 p2 p3
  obtain ⟨z0, z1, z2, z3⟩ := Row.four (HR3.out x6 hb7)
  have k0 := (HR3.out x6 hb7).free 0
  have k1 := (HR3.out x6 hb7).free 1
  have k2 := (HR3.out x6 hb7).free 2
  have k3 := (HR3.out x6 hb7).free 3
  obtain ⟨YY, hYY⟩ : ∃ YY, YY = ((((x6.setCell ⟨w.heap.size + 1 + 1, 0, none⟩ (.slice g0 S.l.length j0)).setCell ⟨w.heap.size + 1 + 1, 1, none⟩ (.slice g1 S.T.length j1)).setCell ⟨w.heap.size + 1 + 1, 2, none⟩ (.slice g2 S.L.length j2)).setCell ⟨w.heap.size + 1 + 1, 3, none⟩ (.slice g3 S.C.length j3)) := ⟨_, rfl⟩
  have HZY : Hid (Row YY (w.heap.size + 1 + 1) #[.slice g0 S.l.length j0, .slice g1 S.T.length j1, .slice g2 S.L.length j2, .slice g3 S.C.length j3] 29) := by rw [hYY]; exact ((((HR3.out x6 hb7).st0 _).st1 _).st2 _).st3 _
  have HOY : Hid (OwnS YY w.heap.size (Jv S A) (.slice g0 S.l.length j0) (.slice g1 S.T.length j1) (.slice g2 S.L.length j2) (.slice g3 S.C.length j3)) := by
   rw [hYY, show Jv S A = S from HNX.out]
   exact Own4.base ((((Own4.put (Own4.base hO6 hb5.size) (by omega)).put (by omega)).put (by omega)).put (by omega)) (by omega)
  have HBY : Hid (Below w.heap.size w YY) := by rw [hYY]; exact ((((HF.out x6 hb7).setCell (by simp; omega) _).setCell (by simp; omega) _).setCell (by simp; omega) _).setCell (by simp; omega) _
  have HYY : Hid (((((x6.setCell ⟨w.heap.size + 1 + 1, 0, none⟩ (.slice g0 S.l.length j0)).setCell ⟨w.heap.size + 1 + 1, 1, none⟩ (.slice g1 S.T.length j1)).setCell ⟨w.heap.size + 1 + 1, 2, none⟩ (.slice g2 S.L.length j2)).setCell ⟨w.heap.size + 1 + 1, 3, none⟩ (.slice g3 S.C.length j3)) = YY) := hYY.symm
  clear hYY
  go_wp2
  rw [HYY.out]
  exact bodyPost_ret (J9 rfl rfl rfl rfl HZY.out) rfl ⟨_, _, _, _, by rw [HCD.out]; rfl, HOY.out, HBY.out⟩
 have g3i : ¬ ((120 : Int) < nc) := by omega
 have HCD : Hid (Zk S A = 0) := by show _ = _; rw [HRB.out, if_neg (fun h => h.elim g1 (fun h => h.elim g2 g3))]
 have HNX : Hid (Jv S A = doS S A) := by show _ = _; unfold Jv; rw [if_pos HCD.out]
 obtain ⟨z0, z1, z2, z3⟩ := Row.four (HR3.out x5 hb5)
 have k0 := (HR3.out x5 hb5).free 0
 have k1 := (HR3.out x5 hb5).free 1
 have k2 := (HR3.out x5 hb5).free 2
 have k3 := (HR3.out x5 hb5).free 3
 obtain ⟨YY, hYY⟩ : ∃ YY, YY = ((((x5.setCell ⟨w.heap.size + 1 + 1, 0, none⟩ (.slice f0 n0 h0)).setCell ⟨w.heap.size + 1 + 1, 1, none⟩ (.slice f1 nt h1)).setCell ⟨w.heap.size + 1 + 1, 2, none⟩ (.slice f2 nv h2)).setCell ⟨w.heap.size + 1 + 1, 3, none⟩ (.slice f3 nc h3)) := ⟨_, rfl⟩
 have HZY : Hid (Row YY (w.heap.size + 1 + 1) #[.slice f0 n0 h0, .slice f1 nt h1, .slice f2 nv h2, .slice f3 nc h3] 29) := by rw [hYY]; exact ((((HR3.out x5 hb5).st0 _).st1 _).st2 _).st3 _
 have HOY : Hid (OwnS YY w.heap.size (Jv S A) (.slice f0 n0 h0) (.slice f1 nt h1) (.slice f2 nv h2) (.slice f3 nc h3)) := by
  rw [hYY, show Jv S A = doS S A from HNX.out]
  exact Own4.base ((((Own4.put HOP.out (by omega)).put (by omega)).put (by omega)).put (by omega)) (by omega)
 have HBY : Hid (Below w.heap.size w YY) := by rw [hYY]; exact ((((HF.out x5 hb5).setCell (by simp; omega) _).setCell (by simp; omega) _).setCell (by simp; omega) _).setCell (by simp; omega) _
 have HYY : Hid (((((x5.setCell ⟨w.heap.size + 1 + 1, 0, none⟩ (.slice f0 n0 h0)).setCell ⟨w.heap.size + 1 + 1, 1, none⟩ (.slice f1 nt h1)).setCell ⟨w.heap.size + 1 + 1, 2, none⟩ (.slice f2 nv h2)).setCell ⟨w.heap.size + 1 + 1, 3, none⟩ (.slice f3 nc h3)) = YY) := hYY.symm
 clear hYY
 go_wp2
 rw [HYY.out]
 exact bodyPost_ret (J9 rfl rfl rfl rfl HZY.out) rfl ⟨_, _, _, _, by rw [HCD.out]; rfl, HOY.out, HBY.out⟩
end Go.Proofs.YtdknoflkingodaaGreat
