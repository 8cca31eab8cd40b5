/- An act is done to a state, or not, as the specification does it. What an edit becomes: its place, its act; a right state stays right behind it. A row, and what stands at a place of it, as the specification tells them. -/
import Derived.Laws.ResultCell
import Derived.Test.YtdknoflkingodaaGreatM1
import Derived.Test.YtdknoflkingodaaGreatM2
import Derived.Test.YtdknoflkingodaaGreatM3
import Derived.Test.YtdknoflkingodaaGreatM4
import Derived.Test.YtdknoflkingodaaGreatM5
import Derived.Test.YtdknoflkingodaaGreatM6
import Derived.Test.YtdknoflkingodaaGreatM7
import Derived.Test.YtdknoflkingodaaGreatM8
import Derived.Test.YtdknoflkingodaaGreatM9
import Derived.Test.YtdknoflkingodaaGreatM10
import Derived.Test.YtdknoflkingodaaGreatM11
import Derived.Test.YtdknoflkingodaaGreatM12
import Derived.Test.YtdknoflkingodaaGreatM13
import Derived.Test.YtdknoflkingodaaGreatM14
import Derived.Test.YtdknoflkingodaaGreatM15
import Derived.Test.YtdknoflkingodaaGreatM16
import Derived.Test.YtdknoflkingodaaGreatM17
import Derived.Test.YtdknoflkingodaaGreatM18
import Derived.Test.YtdknoflkingodaaGreatM19
import Derived.Test.YtdknoflkingodaaGreatM20
import Derived.Test.YtdknoflkingodaaGreatM21
import Derived.Test.YtdknoflkingodaaGreatM22
import Derived.Test.YtdknoflkingodaaGreatM23
import Derived.Test.YtdknoflkingodaaGreatM24
import Derived.Test.YtdknoflkingodaaGreatM27
import Derived.Test.YtdknoflkingodaaGreatM28
import Derived.Test.YtdknoflkingodaaGreatM29
import Derived.Test.YtdknoflkingodaaGreatM30
import Derived.Test.YtdknoflkingodaaGreatM31
import Derived.Test.YtdknoflkingodaaGreatM32
import Derived.Test.YtdknoflkingodaaGreatM33
namespace Go.Proofs.YtdknoflkingodaaGreat
set_option maxRecDepth 100000
set_option linter.unusedVariables false
open Go.RowKit
theorem specDo_calls (S : Sta) (A : Ac) (u : Value) (p : Nat) (u0 u1 u2 u3 : Value) (B : Nat) (w : World) (hS : SOk S) (hA : AOk A) (hR : HasRef S A) (hp : Row w p #[u0, u1, u2, u3] 29) (hpl : p < w.heap.size) (hB : B ≤ w.heap.size) (hO : OwnS w B S u0 u1 u2 u3) (hoff : OffS p u0 u1 u2 u3) (hU : ∀ wx, FrB w wx B p → IntsAt wx u A.l) :
  Calls Tryz.prog 142 #[.pointer (some ⟨p, 0, none⟩), .agg #[.int .i64 A.r, .int .i64 A.s, .int .i64 A.t, u, .int .i64 A.k, .string A.o, .string A.y, .int .i64 A.v, .int .i64 A.x, .int .i64 A.z]] w fun e w' => e = .returned (.tuple #[]) ∧ ∃ v0 v1 v2 v3, Row w' p #[v0, v1, v2, v3] 29 ∧ OwnS w' B (doS S A) v0 v1 v2 v3 ∧ FrB w w' B p := by
 have hk := hA.2.2.2.2.1.1
 have hc : A.k = 1 ∨ A.k = 2 ∨ A.k = 3 ∨ A.k = 4 ∨ A.k = 5 ∨ A.k = 6 ∨ A.k = 7 := by omega
 rcases hc with h | h | h | h | h | h | h
 ·exact do1_calls S A u p u0 u1 u2 u3 B w hS hA hR h hp hpl hB hO hoff hU
 ·exact do2_calls S A u p u0 u1 u2 u3 B w hS hA hR h hp hpl hB hO hoff hU
 ·exact do3_calls S A u p u0 u1 u2 u3 B w hS hA hR h hp hpl hB hO hoff hU
 ·exact do4_calls S A u p u0 u1 u2 u3 B w hS hA hR h hp hpl hB hO hoff hU
 ·exact do5_calls S A u p u0 u1 u2 u3 B w hS hA hR h hp hpl hB hO hoff hU
 ·exact do6_calls S A u p u0 u1 u2 u3 B w hS hA hR h hp hpl hB hO hoff hU
 ·exact do7_calls S A u p u0 u1 u2 u3 B w hS hA hR h hp hpl hB hO hoff hU
open Classical in
/-- The code of an act, and the state behind it. -/
noncomputable def codeS (S : Sta) (A : Ac) : Int :=
 if ¬ (SOk S ∧ AOk A) then 3 else if knows S.l A.r A.s = true then 1 else if kin A.l S.l = false then 2 else if ¬ HasRef S A then 3
 else if 120 < (doS S A).T.length ∨ 120 < (doS S A).L.length ∨ 120 < (doS S A).C.length then 4 else 0
open Classical in
noncomputable def nextS (S : Sta) (A : Ac) : Sta := if codeS S A = 0 then doS S A else S
theorem ret_stint {fn : Func} {q v : Tmp} (h : fn.results = #[.cell q 29, .tmp v]) {tmps : Array Value} {w : World} {g : Nat} {cs : Array Value} {x : Value} (hc : cs.size = 4) (hp : tmps.getD q undef = .pointer (some ⟨g, 0, none⟩)) (hv : tmps.getD v undef = x) (hg : Row w g cs 29) :
  (results fn tmps).run Tryz.prog w = .ok (.tuple #[.agg cs, x]) w := by
 rw [results_cell_tmp h, hp, hv]
 simp [asAddr, Result.andThen, run_loadVar_row w g 29 29 _ (0, 0) _ hg Tryz.underlying29 rfl (by rw [hc]; kernel_rfl)]
set_option maxHeartbeats 16000000 in
theorem specDoAct_calls (S : Sta) (u0 u1 u2 u3 : Value) (A : Ac) (u : Value) (w : World) (hn : Small S) (hst : Named S) (h : StAt w S u0 u1 u2 u3) (hal : A.l.length ≤ 1048576 ∧ A.o.size ≤ 1048576 ∧ A.y.size ≤ 1048576) (hu : IntsAt w u A.l) :
  Calls Tryz.prog 87 #[.agg #[u0, u1, u2, u3], .agg #[.int .i64 A.r, .int .i64 A.s, .int .i64 A.t, u, .int .i64 A.k, .string A.o, .string A.y, .int .i64 A.v, .int .i64 A.x, .int .i64 A.z]] w fun e w' => ∃ v0 v1 v2 v3, e = .returned (.tuple #[.agg #[v0, v1, v2, v3], .int .i64 (codeS S A)]) ∧ OwnS w' w.heap.size (nextS S A) v0 v1 v2 v3 ∧ Below w.heap.size w w' := by
 obtain ⟨a0, c0, a1, c1, a2, c2, a3, c3, rfl, rfl, rfl, rfl⟩ := h.shape
 obtain ⟨W, hW⟩ : ∃ W, W = ((w.alloc (.cells #[.slice a0 S.l.length c0, .slice a1 S.T.length c1, .slice a2 S.L.length c2, .slice a3 S.C.length c3] 29)).alloc (.cells #[.int .i64 A.r, .int .i64 A.s, .int .i64 A.t, u, .int .i64 A.k, .string A.o, .string A.y, .int .i64 A.v, .int .i64 A.x, .int .i64 A.z] 62)).alloc (.cells #[.slice none 0 0, .slice none 0 0, .slice none 0 0, .slice none 0 0] 29) := ⟨_, rfl⟩
 have hWs : W.heap.size = w.heap.size + 1 + 1 + 1 := by rw [hW]; simp
 have hB0 : Below w.heap.size w W := by rw [hW]; exact (((Below.refl _ _).alloc (Nat.le_refl _) _).alloc (by simp) _).alloc (by simp; omega) _
 have hR1 : Row W w.heap.size #[.slice a0 S.l.length c0, .slice a1 S.T.length c1, .slice a2 S.L.length c2, .slice a3 S.C.length c3] 29 := by rw [hW]; exact ((row_new w _ _ rfl).alloc _).alloc _
 have hR2 : Row W (w.heap.size + 1) #[.int .i64 A.r, .int .i64 A.s, .int .i64 A.t, u, .int .i64 A.k, .string A.o, .string A.y, .int .i64 A.v, .int .i64 A.x, .int .i64 A.z] 62 := by rw [hW]; exact (row_new _ _ _ (by simp)).alloc _
 have hR3 : Row W (w.heap.size + 1 + 1) #[.slice none 0 0, .slice none 0 0, .slice none 0 0, .slice none 0 0] 29 := by rw [hW]; exact row_new _ _ _ (by simp)
 have HS : Hid (∀ wx, Below W.heap.size W wx → StAt wx S (.slice a0 S.l.length c0) (.slice a1 S.T.length c1) (.slice a2 S.L.length c2) (.slice a3 S.C.length c3)) := fun wx hb => h.below (hB0.trans (hb.mono hB0.size))
 have HU : Hid (∀ wx, Below W.heap.size W wx → IntsAt wx u A.l) := fun wx hb => hu.below (hB0.trans (hb.mono hB0.size))
 have HR1 : Hid (∀ wx, Below W.heap.size W wx → Row wx w.heap.size #[.slice a0 S.l.length c0, .slice a1 S.T.length c1, .slice a2 S.L.length c2, .slice a3 S.C.length c3] 29) := fun wx hb => hR1.next hb
 have HR2 : Hid (∀ wx, Below W.heap.size W wx → Row wx (w.heap.size + 1) #[.int .i64 A.r, .int .i64 A.s, .int .i64 A.t, u, .int .i64 A.k, .string A.o, .string A.y, .int .i64 A.v, .int .i64 A.x, .int .i64 A.z] 62) := fun wx hb => hR2.next hb
 have HR3 : Hid (∀ wx, Below W.heap.size W wx → Row wx (w.heap.size + 1 + 1) #[.slice none 0 0, .slice none 0 0, .slice none 0 0, .slice none 0 0] 29) := fun wx hb => hR3.next hb
 have HF : Hid (∀ wx, Below W.heap.size W wx → Below w.heap.size w wx) := fun wx hb => hB0.trans (hb.mono hB0.size)
 have HC : Hid (∀ wx, Below W.heap.size W wx → Calls Tryz.prog 62 #[.agg #[.slice a0 S.l.length c0, .slice a1 S.T.length c1, .slice a2 S.L.length c2, .slice a3 S.C.length c3]] wx fun e w' => ∃ v0 v1 v2 v3, e = .returned (.agg #[v0, v1, v2, v3]) ∧ OwnS w' wx.heap.size S v0 v1 v2 v3 ∧ Below wx.heap.size wx w') := fun wx hb => specCopy_calls S _ _ _ _ wx hn (HS.out wx hb)
 have HOK : Hid (∀ wx, Below W.heap.size W wx → Calls Tryz.prog 21 #[.agg #[.slice a0 S.l.length c0, .slice a1 S.T.length c1, .slice a2 S.L.length c2, .slice a3 S.C.length c3]] wx fun e w' => Tells e (SOk S) ∧ Below wx.heap.size wx w') := fun wx hb => specStateOk_calls S _ _ _ _ wx hn hst (HS.out wx hb)
 have HAK : Hid (∀ wx, Below W.heap.size W wx → Calls Tryz.prog 140 #[.agg #[.int .i64 A.r, .int .i64 A.s, .int .i64 A.t, u, .int .i64 A.k, .string A.o, .string A.y, .int .i64 A.v, .int .i64 A.x, .int .i64 A.z]] wx fun e w' => e = .returned (.bool (decide (AOk A))) ∧ Below wx.heap.size wx w') := fun wx hb => specActOk_calls A u wx hal (HU.out wx hb)
 have HKN : Hid (∀ wx, Below W.heap.size W wx → Calls Tryz.prog 34 #[.slice a0 S.l.length c0, .agg #[.int .i64 A.r, .int .i64 A.s]] wx fun e w' => e = .returned (.bool (knows S.l A.r A.s)) ∧ Below wx.heap.size wx w') := fun wx hb => specKnows_calls S.l _ A.r A.s wx hn.1 (HS.out wx hb).1
 have HKI : Hid (∀ wx, Below W.heap.size W wx → Calls Tryz.prog 116 #[u, .slice a0 S.l.length c0] wx fun e w' => e = .returned (.bool (kin A.l S.l)) ∧ Below wx.heap.size wx w') := fun wx hb => specKnowIn_calls A.l S.l u _ wx hal.1 hn.1 (HU.out wx hb) (HS.out wx hb).1
 have HRF : Hid (∀ wx, Below W.heap.size W wx → Calls Tryz.prog 141 #[.agg #[.slice a0 S.l.length c0, .slice a1 S.T.length c1, .slice a2 S.L.length c2, .slice a3 S.C.length c3], .agg #[.int .i64 A.r, .int .i64 A.s, .int .i64 A.t, u, .int .i64 A.k, .string A.o, .string A.y, .int .i64 A.v, .int .i64 A.x, .int .i64 A.z]] wx fun e w' => Tells e (HasRef S A) ∧ Below wx.heap.size wx w') := fun wx hb => specRef_calls S _ _ _ _ A u wx hn (HS.out wx hb)
 have HW : Hid (((w.alloc (.cells #[.slice a0 S.l.length c0, .slice a1 S.T.length c1, .slice a2 S.L.length c2, .slice a3 S.C.length c3] 29)).alloc (.cells #[.int .i64 A.r, .int .i64 A.s, .int .i64 A.t, u, .int .i64 A.k, .string A.o, .string A.y, .int .i64 A.v, .int .i64 A.x, .int .i64 A.z] 62)).alloc (.cells #[.slice none 0 0, .slice none 0 0, .slice none 0 0, .slice none 0 0] 29) = W) := hW.symm
 have hW0 : Below W.heap.size W W := Below.refl _ _
 obtain ⟨e0, e1, e2, e3⟩ := Row.four hR1
 rw [hW] at e0 e1 e2 e3
 clear hW h hu hR1 hR2 hR3 hn hst hal hB0
 go_enter Tryz.func87, Tryz.ntmps87
 go_wp2_with fail
 rw [HW.out]
 refine (HC.out _ hW0).mono ?_
 rintro e w1 ⟨v0, v1, v2, v3, rfl, hO1, hb1⟩
 obtain ⟨b0, d0, b1, d1, b2, d2, b3, d3, rfl, rfl, rfl, rfl⟩ := hO1.at.shape
 clear HW e0 e1 e2 e3
 obtain ⟨X, hX⟩ : ∃ X, X = w1.alloc (.cells #[.slice b0 S.l.length d0, .slice b1 S.T.length d1, .slice b2 S.L.length d2, .slice b3 S.C.length d3] 29) := ⟨_, rfl⟩
 have hbX1 : Below w1.heap.size w1 X := by rw [hX]; exact (Below.refl _ _).alloc (Nat.le_refl _) _
 have hbX : Below W.heap.size W X := hb1.trans (hbX1.mono hb1.size)
 have HP0 : Hid (∀ wx, Below X.heap.size X wx → Row wx w1.heap.size #[.slice b0 S.l.length d0, .slice b1 S.T.length d1, .slice b2 S.L.length d2, .slice b3 S.C.length d3] 29) := fun wx hb => Row.next (by rw [hX]; exact row_new w1 _ _ rfl) hb
 have HO1 : Hid (∀ wx, Below X.heap.size X wx → OwnS wx W.heap.size S (.slice b0 S.l.length d0) (.slice b1 S.T.length d1) (.slice b2 S.L.length d2) (.slice b3 S.C.length d3)) := fun wx hb => Own4.next (Own4.next hO1 hbX1) hb
 have HOFF : Hid (OffS w1.heap.size (.slice b0 S.l.length d0) (.slice b1 S.T.length d1) (.slice b2 S.L.length d2) (.slice b3 S.C.length d3)) := ⟨fun k hk => by have := (World.ownsRow.lt hO1.1.1 k hk).2; omega, fun k hk => by have := (World.ownsRow.lt hO1.1.2.1 k hk).2; omega, fun k hk => by have := (World.ownsRow.lt hO1.1.2.2.1 k hk).2; omega, fun k hk => by have := (World.ownsRow.lt hO1.1.2.2.2 k hk).2; omega⟩
 have hXs : X.heap.size = w1.heap.size + 1 := by rw [hX]; simp
 have hws1 := hb1.size
 have HX : Hid (w1.alloc (.cells #[.slice b0 S.l.length d0, .slice b1 S.T.length d1, .slice b2 S.L.length d2, .slice b3 S.C.length d3] 29) = X) := hX.symm
 obtain ⟨e0, e1, e2, e3⟩ := Row.four (HR1.out X hbX)
 rw [hX] at e0 e1 e2 e3
 clear hX hO1 hbX1 hb1
 go_wp2_with fail
 rw [HX.out]
 refine (HOK.out _ hbX).mono ?_
 rintro e x0 ⟨⟨q, rfl, hq⟩, hb⟩
 have hkx0 : Below X.heap.size X x0 := hb
 clear hb HX e0 e1 e2 e3
 cases q with
 | false =>
  have hns : ¬ SOk S := fun h => by have := hq.2 h; cases this
  clear hq
  have hbk : Below W.heap.size W x0 := hbX.trans (hkx0.mono hbX.size)
  have HCD : Hid (codeS S A = 3) := by show _ = _; unfold codeS; rw [if_pos (fun h => hns h.1)]
  have HNX : Hid (nextS S A = S) := by show _ = _; unfold nextS; rw [if_neg (by rw [HCD.out]; decide)]
  obtain ⟨z0, z1, z2, z3⟩ := Row.four (HR3.out x0 hbk)
  have k0 := (HR3.out x0 hbk).free 0
  have k1 := (HR3.out x0 hbk).free 1
  have k2 := (HR3.out x0 hbk).free 2
  have k3 := (HR3.out x0 hbk).free 3
  obtain ⟨p0, p1, p2, p3⟩ := Row.four (HP0.out x0 hkx0)
  obtain ⟨YY, hYY⟩ : ∃ YY, YY = ((((x0.setCell ⟨w.heap.size + 1 + 1, 0, none⟩ (.slice b0 S.l.length d0)).setCell ⟨w.heap.size + 1 + 1, 1, none⟩ (.slice b1 S.T.length d1)).setCell ⟨w.heap.size + 1 + 1, 2, none⟩ (.slice b2 S.L.length d2)).setCell ⟨w.heap.size + 1 + 1, 3, none⟩ (.slice b3 S.C.length d3)) := ⟨_, rfl⟩
  have HZY : Hid (Row YY (w.heap.size + 1 + 1) #[.slice b0 S.l.length d0, .slice b1 S.T.length d1, .slice b2 S.L.length d2, .slice b3 S.C.length d3] 29) := by rw [hYY]; exact ((((HR3.out x0 hbk).st0 _).st1 _).st2 _).st3 _
  have HOY : Hid (OwnS YY w.heap.size (nextS S A) (.slice b0 S.l.length d0) (.slice b1 S.T.length d1) (.slice b2 S.L.length d2) (.slice b3 S.C.length d3)) := by
   rw [hYY, show nextS S A = S from HNX.out]
   exact Own4.base ((((Own4.put (HO1.out x0 hkx0) (by omega)).put (by omega)).put (by omega)).put (by omega)) (by omega)
  have HBY : Hid (Below w.heap.size w YY) := by rw [hYY]; exact ((((HF.out x0 hbk).setCell (by simp; omega) _).setCell (by simp; omega) _).setCell (by simp; omega) _).setCell (by simp; omega) _
  have HYY : Hid (((((x0.setCell ⟨w.heap.size + 1 + 1, 0, none⟩ (.slice b0 S.l.length d0)).setCell ⟨w.heap.size + 1 + 1, 1, none⟩ (.slice b1 S.T.length d1)).setCell ⟨w.heap.size + 1 + 1, 2, none⟩ (.slice b2 S.L.length d2)).setCell ⟨w.heap.size + 1 + 1, 3, none⟩ (.slice b3 S.C.length d3)) = YY) := hYY.symm
  clear hYY
  go_wp2
  rw [HYY.out]
  exact bodyPost_ret (ret_stint rfl rfl rfl rfl HZY.out) rfl ⟨_, _, _, _, by rw [HCD.out]; rfl, HOY.out, HBY.out⟩
 | true =>
 have HSO : Hid (SOk S) := hq.1 rfl
 clear hq
 have hb0 : Below W.heap.size W x0 := hbX.trans (hkx0.mono hbX.size)
 obtain ⟨e0, e1, e2, e3⟩ := Row.four (HR1.out x0 hb0)
 have t0 := (HR2.out x0 hb0).cell 0 rfl
 have t1 := (HR2.out x0 hb0).cell 1 rfl
 have t2 := (HR2.out x0 hb0).cell 2 rfl
 have t3 := (HR2.out x0 hb0).cell 3 rfl
 have t4 := (HR2.out x0 hb0).cell 4 rfl
 have t5 := (HR2.out x0 hb0).cell 5 rfl
 have t6 := (HR2.out x0 hb0).cell 6 rfl
 have t7 := (HR2.out x0 hb0).cell 7 rfl
 have t8 := (HR2.out x0 hb0).cell 8 rfl
 have t9 := (HR2.out x0 hb0).cell 9 rfl
 go_wp2_with fail
 refine (HAK.out _ hb0).mono ?_
 rintro e x1 ⟨rfl, hb⟩
 have hkx1 : Below X.heap.size X x1 := hkx0.trans (hb.mono hkx0.size)
 clear hb hkx0 hb0
 clear e0 e1 e2 e3 t0 t1 t2 t3 t4 t5 t6 t7 t8 t9
 by_cases hA : AOk A
 case neg =>
  rw [decide_eq_false hA]
  have hbk : Below W.heap.size W x1 := hbX.trans (hkx1.mono hbX.size)
  have HCD : Hid (codeS S A = 3) := by show _ = _; unfold codeS; rw [if_pos (fun h => hA h.2)]
  have HNX : Hid (nextS S A = S) := by show _ = _; unfold nextS; rw [if_neg (by rw [HCD.out]; decide)]
  obtain ⟨z0, z1, z2, z3⟩ := Row.four (HR3.out x1 hbk)
  have k0 := (HR3.out x1 hbk).free 0
  have k1 := (HR3.out x1 hbk).free 1
  have k2 := (HR3.out x1 hbk).free 2
  have k3 := (HR3.out x1 hbk).free 3
  obtain ⟨p0, p1, p2, p3⟩ := Row.four (HP0.out x1 hkx1)
  obtain ⟨YY, hYY⟩ : ∃ YY, YY = ((((x1.setCell ⟨w.heap.size + 1 + 1, 0, none⟩ (.slice b0 S.l.length d0)).setCell ⟨w.heap.size + 1 + 1, 1, none⟩ (.slice b1 S.T.length d1)).setCell ⟨w.heap.size + 1 + 1, 2, none⟩ (.slice b2 S.L.length d2)).setCell ⟨w.heap.size + 1 + 1, 3, none⟩ (.slice b3 S.C.length d3)) := ⟨_, rfl⟩
  have HZY : Hid (Row YY (w.heap.size + 1 + 1) #[.slice b0 S.l.length d0, .slice b1 S.T.length d1, .slice b2 S.L.length d2, .slice b3 S.C.length d3] 29) := by rw [hYY]; exact ((((HR3.out x1 hbk).st0 _).st1 _).st2 _).st3 _
  have HOY : Hid (OwnS YY w.heap.size (nextS S A) (.slice b0 S.l.length d0) (.slice b1 S.T.length d1) (.slice b2 S.L.length d2) (.slice b3 S.C.length d3)) := by
   rw [hYY, show nextS S A = S from HNX.out]
   exact Own4.base ((((Own4.put (HO1.out x1 hkx1) (by omega)).put (by omega)).put (by omega)).put (by omega)) (by omega)
  have HBY : Hid (Below w.heap.size w YY) := by rw [hYY]; exact ((((HF.out x1 hbk).setCell (by simp; omega) _).setCell (by simp; omega) _).setCell (by simp; omega) _).setCell (by simp; omega) _
  have HYY : Hid (((((x1.setCell ⟨w.heap.size + 1 + 1, 0, none⟩ (.slice b0 S.l.length d0)).setCell ⟨w.heap.size + 1 + 1, 1, none⟩ (.slice b1 S.T.length d1)).setCell ⟨w.heap.size + 1 + 1, 2, none⟩ (.slice b2 S.L.length d2)).setCell ⟨w.heap.size + 1 + 1, 3, none⟩ (.slice b3 S.C.length d3)) = YY) := hYY.symm
  clear hYY
  go_wp2
  rw [HYY.out]
  exact bodyPost_ret (ret_stint rfl rfl rfl rfl HZY.out) rfl ⟨_, _, _, _, by rw [HCD.out]; rfl, HOY.out, HBY.out⟩
 rw [decide_eq_true hA]
 have HSA : Hid (¬ ¬ (SOk S ∧ AOk A)) := fun h => h ⟨HSO.out, hA⟩
 have hb0 : Below W.heap.size W x1 := hbX.trans (hkx1.mono hbX.size)
 obtain ⟨e0, e1, e2, e3⟩ := Row.four (HR1.out x1 hb0)
 have t0 := (HR2.out x1 hb0).cell 0 rfl
 have t1 := (HR2.out x1 hb0).cell 1 rfl
 have t2 := (HR2.out x1 hb0).cell 2 rfl
 have t3 := (HR2.out x1 hb0).cell 3 rfl
 have t4 := (HR2.out x1 hb0).cell 4 rfl
 have t5 := (HR2.out x1 hb0).cell 5 rfl
 have t6 := (HR2.out x1 hb0).cell 6 rfl
 have t7 := (HR2.out x1 hb0).cell 7 rfl
 have t8 := (HR2.out x1 hb0).cell 8 rfl
 have t9 := (HR2.out x1 hb0).cell 9 rfl
 have HKN1 := hidI (HKN.out x1 hb0)
 have HKV : Hid (∀ b, knows S.l A.r A.s = b → knows S.l A.r A.s = b) := fun b h => h
 obtain ⟨kb, hkb⟩ : ∃ kb, kb = knows S.l A.r A.s := ⟨_, rfl⟩
 rw [← hkb] at HKN1
 have HKB := hidI hkb
 clear hkb HKV
 go_wp2_with fail
 refine HKN1.out.mono ?_
 rintro e x2 ⟨rfl, hb⟩
 have hkx2 : Below X.heap.size X x2 := hkx1.trans (hb.mono hkx1.size)
 clear hb hkx1 hb0 HKN1
 clear e0 e1 e2 e3 t0 t1 t2 t3 t4 t5 t6 t7 t8 t9
 cases kb with
 | true =>
  have hbk : Below W.heap.size W x2 := hbX.trans (hkx2.mono hbX.size)
  have HCD : Hid (codeS S A = 1) := by show _ = _; unfold codeS; rw [if_neg HSA.out, if_pos HKB.out.symm]
  have HNX : Hid (nextS S A = S) := by show _ = _; unfold nextS; rw [if_neg (by rw [HCD.out]; decide)]
  obtain ⟨z0, z1, z2, z3⟩ := Row.four (HR3.out x2 hbk)
  have k0 := (HR3.out x2 hbk).free 0
  have k1 := (HR3.out x2 hbk).free 1
  have k2 := (HR3.out x2 hbk).free 2
  have k3 := (HR3.out x2 hbk).free 3
  obtain ⟨p0, p1, p2, p3⟩ := Row.four (HP0.out x2 hkx2)
  obtain ⟨YY, hYY⟩ : ∃ YY, YY = ((((x2.setCell ⟨w.heap.size + 1 + 1, 0, none⟩ (.slice b0 S.l.length d0)).setCell ⟨w.heap.size + 1 + 1, 1, none⟩ (.slice b1 S.T.length d1)).setCell ⟨w.heap.size + 1 + 1, 2, none⟩ (.slice b2 S.L.length d2)).setCell ⟨w.heap.size + 1 + 1, 3, none⟩ (.slice b3 S.C.length d3)) := ⟨_, rfl⟩
  have HZY : Hid (Row YY (w.heap.size + 1 + 1) #[.slice b0 S.l.length d0, .slice b1 S.T.length d1, .slice b2 S.L.length d2, .slice b3 S.C.length d3] 29) := by rw [hYY]; exact ((((HR3.out x2 hbk).st0 _).st1 _).st2 _).st3 _
  have HOY : Hid (OwnS YY w.heap.size (nextS S A) (.slice b0 S.l.length d0) (.slice b1 S.T.length d1) (.slice b2 S.L.length d2) (.slice b3 S.C.length d3)) := by
   rw [hYY, show nextS S A = S from HNX.out]
   exact Own4.base ((((Own4.put (HO1.out x2 hkx2) (by omega)).put (by omega)).put (by omega)).put (by omega)) (by omega)
  have HBY : Hid (Below w.heap.size w YY) := by rw [hYY]; exact ((((HF.out x2 hbk).setCell (by simp; omega) _).setCell (by simp; omega) _).setCell (by simp; omega) _).setCell (by simp; omega) _
  have HYY : Hid (((((x2.setCell ⟨w.heap.size + 1 + 1, 0, none⟩ (.slice b0 S.l.length d0)).setCell ⟨w.heap.size + 1 + 1, 1, none⟩ (.slice b1 S.T.length d1)).setCell ⟨w.heap.size + 1 + 1, 2, none⟩ (.slice b2 S.L.length d2)).setCell ⟨w.heap.size + 1 + 1, 3, none⟩ (.slice b3 S.C.length d3)) = YY) := hYY.symm
  clear hYY
  go_wp2
  rw [HYY.out]
  exact bodyPost_ret (ret_stint rfl rfl rfl rfl HZY.out) rfl ⟨_, _, _, _, by rw [HCD.out]; rfl, HOY.out, HBY.out⟩
 | false =>
 have hb0 : Below W.heap.size W x2 := hbX.trans (hkx2.mono hbX.size)
 obtain ⟨e0, e1, e2, e3⟩ := Row.four (HR1.out x2 hb0)
 have t0 := (HR2.out x2 hb0).cell 0 rfl
 have t1 := (HR2.out x2 hb0).cell 1 rfl
 have t2 := (HR2.out x2 hb0).cell 2 rfl
 have t3 := (HR2.out x2 hb0).cell 3 rfl
 have t4 := (HR2.out x2 hb0).cell 4 rfl
 have t5 := (HR2.out x2 hb0).cell 5 rfl
 have t6 := (HR2.out x2 hb0).cell 6 rfl
 have t7 := (HR2.out x2 hb0).cell 7 rfl
 have t8 := (HR2.out x2 hb0).cell 8 rfl
 have t9 := (HR2.out x2 hb0).cell 9 rfl
 have HKI1 := hidI (HKI.out x2 hb0)
 obtain ⟨ib, hib⟩ : ∃ ib, ib = kin A.l S.l := ⟨_, rfl⟩
 rw [← hib] at HKI1
 have HIB := hidI hib
 clear hib
 go_wp2_with fail
 refine HKI1.out.mono ?_
 rintro e x3 ⟨rfl, hb⟩
 have hkx3 : Below X.heap.size X x3 := hkx2.trans (hb.mono hkx2.size)
 clear hb hkx2 hb0 HKI1
 clear e0 e1 e2 e3 t0 t1 t2 t3 t4 t5 t6 t7 t8 t9
 cases ib with
 | false =>
  have hbk : Below W.heap.size W x3 := hbX.trans (hkx3.mono hbX.size)
  have HCD : Hid (codeS S A = 2) := by show _ = _; unfold codeS; rw [if_neg HSA.out, if_neg (by rw [← HKB.out]; simp), if_pos HIB.out.symm]
  have HNX : Hid (nextS S A = S) := by show _ = _; unfold nextS; rw [if_neg (by rw [HCD.out]; decide)]
  obtain ⟨z0, z1, z2, z3⟩ := Row.four (HR3.out x3 hbk)
  have k0 := (HR3.out x3 hbk).free 0
  have k1 := (HR3.out x3 hbk).free 1
  have k2 := (HR3.out x3 hbk).free 2
  have k3 := (HR3.out x3 hbk).free 3
  obtain ⟨p0, p1, p2, p3⟩ := Row.four (HP0.out x3 hkx3)
  obtain ⟨YY, hYY⟩ : ∃ YY, YY = ((((x3.setCell ⟨w.heap.size + 1 + 1, 0, none⟩ (.slice b0 S.l.length d0)).setCell ⟨w.heap.size + 1 + 1, 1, none⟩ (.slice b1 S.T.length d1)).setCell ⟨w.heap.size + 1 + 1, 2, none⟩ (.slice b2 S.L.length d2)).setCell ⟨w.heap.size + 1 + 1, 3, none⟩ (.slice b3 S.C.length d3)) := ⟨_, rfl⟩
  have HZY : Hid (Row YY (w.heap.size + 1 + 1) #[.slice b0 S.l.length d0, .slice b1 S.T.length d1, .slice b2 S.L.length d2, .slice b3 S.C.length d3] 29) := by rw [hYY]; exact ((((HR3.out x3 hbk).st0 _).st1 _).st2 _).st3 _
  have HOY : Hid (OwnS YY w.heap.size (nextS S A) (.slice b0 S.l.length d0) (.slice b1 S.T.length d1) (.slice b2 S.L.length d2) (.slice b3 S.C.length d3)) := by
   rw [hYY, show nextS S A = S from HNX.out]
   exact Own4.base ((((Own4.put (HO1.out x3 hkx3) (by omega)).put (by omega)).put (by omega)).put (by omega)) (by omega)
  have HBY : Hid (Below w.heap.size w YY) := by rw [hYY]; exact ((((HF.out x3 hbk).setCell (by simp; omega) _).setCell (by simp; omega) _).setCell (by simp; omega) _).setCell (by simp; omega) _
  have HYY : Hid (((((x3.setCell ⟨w.heap.size + 1 + 1, 0, none⟩ (.slice b0 S.l.length d0)).setCell ⟨w.heap.size + 1 + 1, 1, none⟩ (.slice b1 S.T.length d1)).setCell ⟨w.heap.size + 1 + 1, 2, none⟩ (.slice b2 S.L.length d2)).setCell ⟨w.heap.size + 1 + 1, 3, none⟩ (.slice b3 S.C.length d3)) = YY) := hYY.symm
  clear hYY
  go_wp2
  rw [HYY.out]
  exact bodyPost_ret (ret_stint rfl rfl rfl rfl HZY.out) rfl ⟨_, _, _, _, by rw [HCD.out]; rfl, HOY.out, HBY.out⟩
 | true =>
 have hb0 : Below W.heap.size W x3 := hbX.trans (hkx3.mono hbX.size)
 obtain ⟨e0, e1, e2, e3⟩ := Row.four (HR1.out x3 hb0)
 have t0 := (HR2.out x3 hb0).cell 0 rfl
 have t1 := (HR2.out x3 hb0).cell 1 rfl
 have t2 := (HR2.out x3 hb0).cell 2 rfl
 have t3 := (HR2.out x3 hb0).cell 3 rfl
 have t4 := (HR2.out x3 hb0).cell 4 rfl
 have t5 := (HR2.out x3 hb0).cell 5 rfl
 have t6 := (HR2.out x3 hb0).cell 6 rfl
 have t7 := (HR2.out x3 hb0).cell 7 rfl
 have t8 := (HR2.out x3 hb0).cell 8 rfl
 have t9 := (HR2.out x3 hb0).cell 9 rfl
 go_wp2_with fail
 refine (HRF.out _ hb0).mono ?_
 rintro e x4 ⟨⟨q, rfl, hq⟩, hb⟩
 have hkx4 : Below X.heap.size X x4 := hkx3.trans (hb.mono hkx3.size)
 clear hb hkx3 hb0
 clear e0 e1 e2 e3 t0 t1 t2 t3 t4 t5 t6 t7 t8 t9
 cases q with
 | false =>
  have hnr : ¬ HasRef S A := fun h => by have := hq.2 h; cases this
  clear hq
  have hbk : Below W.heap.size W x4 := hbX.trans (hkx4.mono hbX.size)
  have HCD : Hid (codeS S A = 3) := by show _ = _; unfold codeS; rw [if_neg HSA.out, if_neg (by rw [← HKB.out]; simp), if_neg (by rw [← HIB.out]; simp), if_pos hnr]
  have HNX : Hid (nextS S A = S) := by show _ = _; unfold nextS; rw [if_neg (by rw [HCD.out]; decide)]
  obtain ⟨z0, z1, z2, z3⟩ := Row.four (HR3.out x4 hbk)
  have k0 := (HR3.out x4 hbk).free 0
  have k1 := (HR3.out x4 hbk).free 1
  have k2 := (HR3.out x4 hbk).free 2
  have k3 := (HR3.out x4 hbk).free 3
  obtain ⟨p0, p1, p2, p3⟩ := Row.four (HP0.out x4 hkx4)
  obtain ⟨YY, hYY⟩ : ∃ YY, YY = ((((x4.setCell ⟨w.heap.size + 1 + 1, 0, none⟩ (.slice b0 S.l.length d0)).setCell ⟨w.heap.size + 1 + 1, 1, none⟩ (.slice b1 S.T.length d1)).setCell ⟨w.heap.size + 1 + 1, 2, none⟩ (.slice b2 S.L.length d2)).setCell ⟨w.heap.size + 1 + 1, 3, none⟩ (.slice b3 S.C.length d3)) := ⟨_, rfl⟩
  have HZY : Hid (Row YY (w.heap.size + 1 + 1) #[.slice b0 S.l.length d0, .slice b1 S.T.length d1, .slice b2 S.L.length d2, .slice b3 S.C.length d3] 29) := by rw [hYY]; exact ((((HR3.out x4 hbk).st0 _).st1 _).st2 _).st3 _
  have HOY : Hid (OwnS YY w.heap.size (nextS S A) (.slice b0 S.l.length d0) (.slice b1 S.T.length d1) (.slice b2 S.L.length d2) (.slice b3 S.C.length d3)) := by
   rw [hYY, show nextS S A = S from HNX.out]
   exact Own4.base ((((Own4.put (HO1.out x4 hkx4) (by omega)).put (by omega)).put (by omega)).put (by omega)) (by omega)
  have HBY : Hid (Below w.heap.size w YY) := by rw [hYY]; exact ((((HF.out x4 hbk).setCell (by simp; omega) _).setCell (by simp; omega) _).setCell (by simp; omega) _).setCell (by simp; omega) _
  have HYY : Hid (((((x4.setCell ⟨w.heap.size + 1 + 1, 0, none⟩ (.slice b0 S.l.length d0)).setCell ⟨w.heap.size + 1 + 1, 1, none⟩ (.slice b1 S.T.length d1)).setCell ⟨w.heap.size + 1 + 1, 2, none⟩ (.slice b2 S.L.length d2)).setCell ⟨w.heap.size + 1 + 1, 3, none⟩ (.slice b3 S.C.length d3)) = YY) := hYY.symm
  clear hYY
  go_wp2
  rw [HYY.out]
  exact bodyPost_ret (ret_stint rfl rfl rfl rfl HZY.out) rfl ⟨_, _, _, _, by rw [HCD.out]; rfl, HOY.out, HBY.out⟩
 | true =>
 have hhr : HasRef S A := hq.1 rfl
 clear hq
 have hb0 : Below W.heap.size W x4 := hbX.trans (hkx4.mono hbX.size)
 obtain ⟨e0, e1, e2, e3⟩ := Row.four (HR1.out x4 hb0)
 have t0 := (HR2.out x4 hb0).cell 0 rfl
 have t1 := (HR2.out x4 hb0).cell 1 rfl
 have t2 := (HR2.out x4 hb0).cell 2 rfl
 have t3 := (HR2.out x4 hb0).cell 3 rfl
 have t4 := (HR2.out x4 hb0).cell 4 rfl
 have t5 := (HR2.out x4 hb0).cell 5 rfl
 have t6 := (HR2.out x4 hb0).cell 6 rfl
 have t7 := (HR2.out x4 hb0).cell 7 rfl
 have t8 := (HR2.out x4 hb0).cell 8 rfl
 have t9 := (HR2.out x4 hb0).cell 9 rfl
 have hx4s := hkx4.size
 have HFB : Hid (∀ wx, FrB x4 wx W.heap.size w1.heap.size → Below W.heap.size W wx) := fun wx hf => hb0.trans ⟨hf.1, hf.2.1, hf.2.2.1, hf.2.2.2.1, fun k hk => hf.2.2.2.2 k hk (by omega)⟩
 have HDO := hidI (specDo_calls S A u w1.heap.size _ _ _ _ W.heap.size x4 HSO.out hA hhr (HP0.out x4 hkx4) (by omega) (by omega) (HO1.out x4 hkx4) HOFF.out (fun wx hf => HU.out wx (HFB.out wx hf)))
 have HHR := hidI hhr
 have HAA := hidI hA
 clear hhr hA
 go_wp2_with fail
 refine HDO.out.mono ?_
 rintro e x5 ⟨rfl, y0, y1, y2, y3, hRP, hOP, hFP⟩
 have hb5 := HFB.out x5 hFP
 obtain ⟨f0, h0, f1, h1, f2, h2, f3, h3, rfl, rfl, rfl, rfl⟩ := hOP.at.shape
 have HRP := hidI hRP
 have HOP := hidI hOP
 clear hRP hOP hFP HDO HFB hb0 hkx4 hx4s HP0
 clear e0 e1 e2 e3 t0 t1 t2 t3 t4 t5 t6 t7 t8 t9
 obtain ⟨p0, p1, p2, p3⟩ := Row.four HRP.out
 have HRB : Hid (codeS S A = if 120 < (doS S A).T.length ∨ 120 < (doS S A).L.length ∨ 120 < (doS S A).C.length then 4 else 0) := by
  show _ = _; unfold codeS; rw [if_neg HSA.out, if_neg (by rw [← HKB.out]; simp), if_neg (by rw [← HIB.out]; simp), if_neg (fun h => h HHR.out)]
 obtain ⟨nt, hnt⟩ : ∃ n, n = (doS S A).T.length := ⟨_, rfl⟩
 obtain ⟨nv, hnv⟩ : ∃ n, n = (doS S A).L.length := ⟨_, rfl⟩
 obtain ⟨nc, hnc⟩ : ∃ n, n = (doS S A).C.length := ⟨_, rfl⟩
 obtain ⟨n0, hn0⟩ : ∃ n, n = (doS S A).l.length := ⟨_, rfl⟩
 rw [← hnt, ← hnv, ← hnc] at HRB
 rw [← hnt, ← hnv, ← hnc, ← hn0] at HRP HOP
 rw [← hn0] at p0
 rw [← hnt] at p1
 rw [← hnv] at p2
 rw [← hnc] at p3
 clear hnt hnv hnc hn0
 by_cases g1 : 120 < nt
 ·have g1i : (120 : Int) < nt := by omega
  have HCD : Hid (codeS S A = 4) := by show _ = _; rw [HRB.out, if_pos (.inl g1)]
  have HNX : Hid (nextS S A = S) := by show _ = _; unfold nextS; rw [if_neg (by rw [HCD.out]; decide)]
  obtain ⟨e0, e1, e2, e3⟩ := Row.four (HR1.out x5 hb5)
  go_wp2_with fail
  refine (HC.out x5 hb5).mono ?_
  rintro e x6 ⟨v0, v1, v2, v3, rfl, hO6, hb6⟩
  obtain ⟨g0, j0, g1, j1, g2, j2, g3, j3, rfl, rfl, rfl, rfl⟩ := hO6.at.shape
  have hb7 : Below W.heap.size W x6 := hb5.trans (hb6.mono hb5.size)
  clear e0 e1 e2 e3 p0 p1 p2 p3
  obtain ⟨z0, z1, z2, z3⟩ := Row.four (HR3.out x6 hb7)
  have k0 := (HR3.out x6 hb7).free 0
  have k1 := (HR3.out x6 hb7).free 1
  have k2 := (HR3.out x6 hb7).free 2
  have k3 := (HR3.out x6 hb7).free 3
  obtain ⟨YY, hYY⟩ : ∃ YY, YY = ((((x6.setCell ⟨w.heap.size + 1 + 1, 0, none⟩ (.slice g0 S.l.length j0)).setCell ⟨w.heap.size + 1 + 1, 1, none⟩ (.slice g1 S.T.length j1)).setCell ⟨w.heap.size + 1 + 1, 2, none⟩ (.slice g2 S.L.length j2)).setCell ⟨w.heap.size + 1 + 1, 3, none⟩ (.slice g3 S.C.length j3)) := ⟨_, rfl⟩
  have HZY : Hid (Row YY (w.heap.size + 1 + 1) #[.slice g0 S.l.length j0, .slice g1 S.T.length j1, .slice g2 S.L.length j2, .slice g3 S.C.length j3] 29) := by rw [hYY]; exact ((((HR3.out x6 hb7).st0 _).st1 _).st2 _).st3 _
  have HOY : Hid (OwnS YY w.heap.size (nextS S A) (.slice g0 S.l.length j0) (.slice g1 S.T.length j1) (.slice g2 S.L.length j2) (.slice g3 S.C.length j3)) := by
   rw [hYY, show nextS S A = S from HNX.out]
   exact Own4.base ((((Own4.put (Own4.base hO6 hb5.size) (by omega)).put (by omega)).put (by omega)).put (by omega)) (by omega)
  have HBY : Hid (Below w.heap.size w YY) := by rw [hYY]; exact ((((HF.out x6 hb7).setCell (by simp; omega) _).setCell (by simp; omega) _).setCell (by simp; omega) _).setCell (by simp; omega) _
  have HYY : Hid (((((x6.setCell ⟨w.heap.size + 1 + 1, 0, none⟩ (.slice g0 S.l.length j0)).setCell ⟨w.heap.size + 1 + 1, 1, none⟩ (.slice g1 S.T.length j1)).setCell ⟨w.heap.size + 1 + 1, 2, none⟩ (.slice g2 S.L.length j2)).setCell ⟨w.heap.size + 1 + 1, 3, none⟩ (.slice g3 S.C.length j3)) = YY) := hYY.symm
  clear hYY
  go_wp2
  rw [HYY.out]
  exact bodyPost_ret (ret_stint rfl rfl rfl rfl HZY.out) rfl ⟨_, _, _, _, by rw [HCD.out]; rfl, HOY.out, HBY.out⟩
 have g1i : ¬ ((120 : Int) < nt) := by omega
 by_cases g2 : 120 < nv
 ·have g2i : (120 : Int) < nv := by omega
  have HCD : Hid (codeS S A = 4) := by show _ = _; rw [HRB.out, if_pos (.inr (.inl g2))]
  have HNX : Hid (nextS S A = S) := by show _ = _; unfold nextS; rw [if_neg (by rw [HCD.out]; decide)]
  obtain ⟨e0, e1, e2, e3⟩ := Row.four (HR1.out x5 hb5)
  go_wp2_with fail
  refine (HC.out x5 hb5).mono ?_
  rintro e x6 ⟨v0, v1, v2, v3, rfl, hO6, hb6⟩
  obtain ⟨g0, j0, g1, j1, g2, j2, g3, j3, rfl, rfl, rfl, rfl⟩ := hO6.at.shape
  have hb7 : Below W.heap.size W x6 := hb5.trans (hb6.mono hb5.size)
  clear e0 e1 e2 e3 p0 p1 p2 p3
  obtain ⟨z0, z1, z2, z3⟩ := Row.four (HR3.out x6 hb7)
  have k0 := (HR3.out x6 hb7).free 0
  have k1 := (HR3.out x6 hb7).free 1
  have k2 := (HR3.out x6 hb7).free 2
  have k3 := (HR3.out x6 hb7).free 3
  obtain ⟨YY, hYY⟩ : ∃ YY, YY = ((((x6.setCell ⟨w.heap.size + 1 + 1, 0, none⟩ (.slice g0 S.l.length j0)).setCell ⟨w.heap.size + 1 + 1, 1, none⟩ (.slice g1 S.T.length j1)).setCell ⟨w.heap.size + 1 + 1, 2, none⟩ (.slice g2 S.L.length j2)).setCell ⟨w.heap.size + 1 + 1, 3, none⟩ (.slice g3 S.C.length j3)) := ⟨_, rfl⟩
  have HZY : Hid (Row YY (w.heap.size + 1 + 1) #[.slice g0 S.l.length j0, .slice g1 S.T.length j1, .slice g2 S.L.length j2, .slice g3 S.C.length j3] 29) := by rw [hYY]; exact ((((HR3.out x6 hb7).st0 _).st1 _).st2 _).st3 _
  have HOY : Hid (OwnS YY w.heap.size (nextS S A) (.slice g0 S.l.length j0) (.slice g1 S.T.length j1) (.slice g2 S.L.length j2) (.slice g3 S.C.length j3)) := by
   rw [hYY, show nextS S A = S from HNX.out]
   exact Own4.base ((((Own4.put (Own4.base hO6 hb5.size) (by omega)).put (by omega)).put (by omega)).put (by omega)) (by omega)
  have HBY : Hid (Below w.heap.size w YY) := by rw [hYY]; exact ((((HF.out x6 hb7).setCell (by simp; omega) _).setCell (by simp; omega) _).setCell (by simp; omega) _).setCell (by simp; omega) _
  have HYY : Hid (((((x6.setCell ⟨w.heap.size + 1 + 1, 0, none⟩ (.slice g0 S.l.length j0)).setCell ⟨w.heap.size + 1 + 1, 1, none⟩ (.slice g1 S.T.length j1)).setCell ⟨w.heap.size + 1 + 1, 2, none⟩ (.slice g2 S.L.length j2)).setCell ⟨w.heap.size + 1 + 1, 3, none⟩ (.slice g3 S.C.length j3)) = YY) := hYY.symm
  clear hYY
  go_wp2
  rw [HYY.out]
  exact bodyPost_ret (ret_stint rfl rfl rfl rfl HZY.out) rfl ⟨_, _, _, _, by rw [HCD.out]; rfl, HOY.out, HBY.out⟩
 have g2i : ¬ ((120 : Int) < nv) := by omega
 by_cases g3 : 120 < nc
 ·have g3i : (120 : Int) < nc := by omega
  have HCD : Hid (codeS S A = 4) := by show _ = _; rw [HRB.out, if_pos (.inr (.inr g3))]
  have HNX : Hid (nextS S A = S) := by show _ = _; unfold nextS; rw [if_neg (by rw [HCD.out]; decide)]
  obtain ⟨e0, e1, e2, e3⟩ := Row.four (HR1.out x5 hb5)
  go_wp2_with fail
  refine (HC.out x5 hb5).mono ?_
  rintro e x6 ⟨v0, v1, v2, v3, rfl, hO6, hb6⟩
  obtain ⟨g0, j0, g1, j1, g2, j2, g3, j3, rfl, rfl, rfl, rfl⟩ := hO6.at.shape
  have hb7 : Below W.heap.size W x6 := hb5.trans (hb6.mono hb5.size)
  clear e0 e1 e2 e3 p0 p1 p2 p3
  obtain ⟨z0, z1, z2, z3⟩ := Row.four (HR3.out x6 hb7)
  have k0 := (HR3.out x6 hb7).free 0
  have k1 := (HR3.out x6 hb7).free 1
  have k2 := (HR3.out x6 hb7).free 2
  have k3 := (HR3.out x6 hb7).free 3
  obtain ⟨YY, hYY⟩ : ∃ YY, YY = ((((x6.setCell ⟨w.heap.size + 1 + 1, 0, none⟩ (.slice g0 S.l.length j0)).setCell ⟨w.heap.size + 1 + 1, 1, none⟩ (.slice g1 S.T.length j1)).setCell ⟨w.heap.size + 1 + 1, 2, none⟩ (.slice g2 S.L.length j2)).setCell ⟨w.heap.size + 1 + 1, 3, none⟩ (.slice g3 S.C.length j3)) := ⟨_, rfl⟩
  have HZY : Hid (Row YY (w.heap.size + 1 + 1) #[.slice g0 S.l.length j0, .slice g1 S.T.length j1, .slice g2 S.L.length j2, .slice g3 S.C.length j3] 29) := by rw [hYY]; exact ((((HR3.out x6 hb7).st0 _).st1 _).st2 _).st3 _
  have HOY : Hid (OwnS YY w.heap.size (nextS S A) (.slice g0 S.l.length j0) (.slice g1 S.T.length j1) (.slice g2 S.L.length j2) (.slice g3 S.C.length j3)) := by
   rw [hYY, show nextS S A = S from HNX.out]
   exact Own4.base ((((Own4.put (Own4.base hO6 hb5.size) (by omega)).put (by omega)).put (by omega)).put (by omega)) (by omega)
  have HBY : Hid (Below w.heap.size w YY) := by rw [hYY]; exact ((((HF.out x6 hb7).setCell (by simp; omega) _).setCell (by simp; omega) _).setCell (by simp; omega) _).setCell (by simp; omega) _
  have HYY : Hid (((((x6.setCell ⟨w.heap.size + 1 + 1, 0, none⟩ (.slice g0 S.l.length j0)).setCell ⟨w.heap.size + 1 + 1, 1, none⟩ (.slice g1 S.T.length j1)).setCell ⟨w.heap.size + 1 + 1, 2, none⟩ (.slice g2 S.L.length j2)).setCell ⟨w.heap.size + 1 + 1, 3, none⟩ (.slice g3 S.C.length j3)) = YY) := hYY.symm
  clear hYY
  go_wp2
  rw [HYY.out]
  exact bodyPost_ret (ret_stint rfl rfl rfl rfl HZY.out) rfl ⟨_, _, _, _, by rw [HCD.out]; rfl, HOY.out, HBY.out⟩
 have g3i : ¬ ((120 : Int) < nc) := by omega
 have HCD : Hid (codeS S A = 0) := by show _ = _; rw [HRB.out, if_neg (fun h => h.elim g1 (fun h => h.elim g2 g3))]
 have HNX : Hid (nextS S A = doS S A) := by show _ = _; unfold nextS; rw [if_pos HCD.out]
 obtain ⟨z0, z1, z2, z3⟩ := Row.four (HR3.out x5 hb5)
 have k0 := (HR3.out x5 hb5).free 0
 have k1 := (HR3.out x5 hb5).free 1
 have k2 := (HR3.out x5 hb5).free 2
 have k3 := (HR3.out x5 hb5).free 3
 obtain ⟨YY, hYY⟩ : ∃ YY, YY = ((((x5.setCell ⟨w.heap.size + 1 + 1, 0, none⟩ (.slice f0 n0 h0)).setCell ⟨w.heap.size + 1 + 1, 1, none⟩ (.slice f1 nt h1)).setCell ⟨w.heap.size + 1 + 1, 2, none⟩ (.slice f2 nv h2)).setCell ⟨w.heap.size + 1 + 1, 3, none⟩ (.slice f3 nc h3)) := ⟨_, rfl⟩
 have HZY : Hid (Row YY (w.heap.size + 1 + 1) #[.slice f0 n0 h0, .slice f1 nt h1, .slice f2 nv h2, .slice f3 nc h3] 29) := by rw [hYY]; exact ((((HR3.out x5 hb5).st0 _).st1 _).st2 _).st3 _
 have HOY : Hid (OwnS YY w.heap.size (nextS S A) (.slice f0 n0 h0) (.slice f1 nt h1) (.slice f2 nv h2) (.slice f3 nc h3)) := by
  rw [hYY, show nextS S A = doS S A from HNX.out]
  exact Own4.base ((((Own4.put HOP.out (by omega)).put (by omega)).put (by omega)).put (by omega)) (by omega)
 have HBY : Hid (Below w.heap.size w YY) := by rw [hYY]; exact ((((HF.out x5 hb5).setCell (by simp; omega) _).setCell (by simp; omega) _).setCell (by simp; omega) _).setCell (by simp; omega) _
 have HYY : Hid (((((x5.setCell ⟨w.heap.size + 1 + 1, 0, none⟩ (.slice f0 n0 h0)).setCell ⟨w.heap.size + 1 + 1, 1, none⟩ (.slice f1 nt h1)).setCell ⟨w.heap.size + 1 + 1, 2, none⟩ (.slice f2 nv h2)).setCell ⟨w.heap.size + 1 + 1, 3, none⟩ (.slice f3 nc h3)) = YY) := hYY.symm
 clear hYY
 go_wp2
 rw [HYY.out]
 exact bodyPost_ret (ret_stint rfl rfl rfl rfl HZY.out) rfl ⟨_, _, _, _, by rw [HCD.out]; rfl, HOY.out, HBY.out⟩
end Go.Proofs.YtdknoflkingodaaGreat
namespace Go.Proofs.YtdknoflkingodaaGreat
set_option maxRecDepth 100000
set_option linter.unusedVariables false
theorem nextS_ok {S : Sta} (A : Ac) (h : SOk S) : SOk (nextS S A) := by
 unfold nextS
 by_cases hc : codeS S A = 0
 ·rw [if_pos hc]
  unfold codeS at hc
  by_cases h1 : SOk S ∧ AOk A
  ·rw [if_neg (by simpa using h1)] at hc
   by_cases h2 : knows S.l A.r A.s = true
   ·rw [if_pos h2] at hc; cases hc
   rw [if_neg h2] at hc
   by_cases h3 : kin A.l S.l = false
   ·rw [if_pos h3] at hc; cases hc
   rw [if_neg h3] at hc
   by_cases h4 : ¬ HasRef S A
   ·rw [if_pos h4] at hc; cases hc
   rw [if_neg h4] at hc
   by_cases h5 : 120 < (doS S A).T.length ∨ 120 < (doS S A).L.length ∨ 120 < (doS S A).C.length
   ·rw [if_pos h5] at hc; cases hc
   exact SOk.step h h1.2 (by simpa using h2) (Classical.not_not.1 h4) ⟨by omega, by omega, by omega⟩
  ·rw [if_pos (by simpa using h1)] at hc; cases hc
 ·rw [if_neg hc]; exact h
/-- How much a state has, at most. -/
structure Bnd (m : Nat) (S : Sta) : Prop where
 T : S.T.length ≤ m
 L : S.L.length ≤ m
 C : S.C.length ≤ m
 l : ∀ x ∈ S.l, x ≤ (m : Int)
 t : ∀ c ∈ S.C, c.t ≤ 2 * (m : Int)
theorem Bnd.mono {m m' : Nat} {S : Sta} (h : Bnd m S) (hm : m ≤ m') : Bnd m' S :=
 ⟨Nat.le_trans h.T hm, Nat.le_trans h.L hm, Nat.le_trans h.C hm, fun x hx => by have := h.l x hx; omega, fun c hc => by have := h.t c hc; omega⟩
theorem tallied_len (T : List Ta) (o : ByteArray) (r v : Int) : (tallied T o r v).length ≤ T.length + 1 := by
 unfold tallied
 split
 ·split <;> simp
 ·rw [ins_len]; omega
theorem doS_bnd {m : Nat} {S : Sta} {A : Ac} (h : Bnd m S) (hs : A.s ≤ (m : Int) + 1) (ht : A.t ≤ 2 * (m : Int) + 2) : Bnd (m + 1) (doS S A) := by
 have hl : ∀ x ∈ S.l.set A.r.toNat A.s, x ≤ ((m + 1 : Nat) : Int) := fun x hx => by
  rcases List.mem_or_eq_of_mem_set hx with e | e
  ·have := h.l x e; omega
  ·subst e; omega
 have h1 := h.T
 have h2 := h.L
 have h3 := h.C
 have h4 : ∀ c ∈ S.C, c.t ≤ 2 * ((m + 1 : Nat) : Int) := fun c hc => by have := h.t c hc; omega
 have hp : ∀ (x : Li) (l : List Li), (putL x l).length = l.length + 1 := fun x l => ins_len _ _ _
 have hc : ∀ mp, (cleared S.L mp A.o A.y A.l).length ≤ S.L.length := fun mp => List.length_filter_le _ _
 unfold doS
 split
 ·exact ⟨Nat.le_trans (tallied_len _ _ _ _) (by omega), by show S.L.length ≤ _; omega, by show S.C.length ≤ _; omega, hl, h4⟩
 split
 ·exact ⟨by show S.T.length ≤ _; omega, by show (putL _ _).length ≤ _; rw [hp]; omega, by show S.C.length ≤ _; omega, hl, h4⟩
 split
 ·exact ⟨by show S.T.length ≤ _; omega, by show (cleared _ _ _ _ _).length ≤ _; have := hc false; omega, by show S.C.length ≤ _; omega, hl, h4⟩
 split
 ·exact ⟨by show S.T.length ≤ _; omega, by show (putL _ _).length ≤ _; rw [hp]; have := hc true; omega, by show S.C.length ≤ _; omega, hl, h4⟩
 split
 ·exact ⟨by show S.T.length ≤ _; omega, by show (cleared _ _ _ _ _).length ≤ _; have := hc true; omega, by show S.C.length ≤ _; omega, hl, h4⟩
 split
 ·refine ⟨by show S.T.length ≤ _; omega, by show S.L.length ≤ _; omega, by show (putC _ _).length ≤ _; unfold putC; rw [ins_len]; omega, hl, fun c hcm => ?_⟩
  rcases (ins_mem _ _ _ c).1 hcm with e | e
  ·subst e; show A.t ≤ _; omega
  ·exact h4 c e
 ·refine ⟨by show S.T.length ≤ _; omega, by show S.L.length ≤ _; omega, by show (goneC _ _).length ≤ _; rw [goneC_len]; omega, hl, fun c hcm => ?_⟩
  obtain ⟨b, hb, e⟩ := goneC_from _ _ c hcm
  rw [e.2.2.2.1]; exact h4 b hb
theorem nextS_bnd {m : Nat} {S : Sta} {A : Ac} (h : Bnd m S) (hs : A.s ≤ (m : Int) + 1) (ht : A.t ≤ 2 * (m : Int) + 2) : Bnd (m + 1) (nextS S A) := by
 unfold nextS
 by_cases hc : codeS S A = 0
 ·rw [if_pos hc]; exact doS_bnd h hs ht
 ·rw [if_neg hc]; exact h.mono (by omega)
theorem timeOf_le {C : List Ce} {b : Int} (h0 : 0 ≤ b) (h : ∀ c ∈ C, c.t ≤ b) : timeOf C ≤ b := by
 suffices H : ∀ D : List Ce, (∀ c ∈ D, c.t ≤ b) → timeOf D.reverse ≤ b by
  have := H C.reverse (fun c hc => h c (by simpa using hc)); rwa [List.reverse_reverse] at this
 intro D
 induction D with
 | nil => intro _; exact h0
 | cons c D ih =>
  intro hD
  have h1 := ih (fun d hd => hD d (by simp [hd]))
  have h2 := hD c (by simp)
  rw [List.reverse_cons, timeOf_snoc]
  split <;> omega
theorem timeOf_ge (C : List Ce) : 0 ≤ timeOf C ∧ ∀ c ∈ C, c.t ≤ timeOf C := by
 suffices H : ∀ D : List Ce, 0 ≤ timeOf D.reverse ∧ ∀ c ∈ D.reverse, c.t ≤ timeOf D.reverse by
  have := H C.reverse; rwa [List.reverse_reverse] at this
 intro D
 induction D with
 | nil => exact ⟨Int.le_refl _, fun c hc => by simp at hc⟩
 | cons c D ih =>
  rw [List.reverse_cons, timeOf_snoc]
  refine ⟨by split <;> omega, fun d hd => ?_⟩
  rcases List.mem_append.1 hd with e | e
  ·have := ih.2 d e; split <;> omega
  ·rw [List.mem_singleton] at e; subst e; split <;> omega
/-- Those that are not gone. -/
def shownC (L : List Ce) : List Ce := L.filter (fun c => !c.g)
open Classical in
/-- The i-th that is shown of a right state's row. -/
noncomputable def placeIn (S : Sta) (o : ByteArray) (i : Int) : Option Ce := if SOk S ∧ 0 ≤ i then (shownC (rowC S.C o))[i.toNat]? else none
theorem placeIn_some {S : Sta} {o : ByteArray} {i : Int} {c : Ce} (h : placeIn S o i = some c) : c ∈ S.C ∧ c.o = o ∧ c.g = false := by
 unfold placeIn at h
 split at h
 ·have h1 := List.mem_of_getElem? h
  unfold shownC at h1
  obtain ⟨h2, h3⟩ := List.mem_filter.1 h1
  have h4 := below_mem 10000 h2
  exact ⟨h4.1, h4.2, by simpa using h3⟩
 ·cases h
/-- What an edit's act refers to. -/
noncomputable def refAt (S : Sta) (k : Int) (o : ByteArray) (p : Int) : Option (Int × Int) :=
 if k = 7 then (placeIn S o p).map (fun c => (c.r, c.s)) else if k = 6 ∧ 0 < p then (placeIn S o (p - 1)).map (fun c => (c.r, c.s)) else some (0, 0)
open Classical in
noncomputable def codeW (S : Sta) (r t k : Int) (o y : ByteArray) (v p : Int) : Int :=
 if ¬ (SOk S ∧ EOk k o y v p ∧ (0 ≤ r ∧ r ≤ 2) ∧ (1 ≤ t ∧ t ≤ 10000)) then 3 else if ¬ DOk r (S.l.getD r.toNat 0 + 1) then 3 else if refAt S k o p = none then 5 else 0
def zeroA : Ac := ⟨0, 0, 0, 0, 0, 0, 0, { data := #[] }, { data := #[] }, []⟩
noncomputable def wantA (S : Sta) (r t k : Int) (o y : ByteArray) (v p : Int) : Ac :=
 ⟨r, S.l.getD r.toNat 0 + 1, t, k, v, ((refAt S k o p).getD (0, 0)).1, ((refAt S k o p).getD (0, 0)).2, o, y, S.l⟩
noncomputable def actW (S : Sta) (r t k : Int) (o y : ByteArray) (v p : Int) : Ac := if codeW S r t k o y v p = 0 then wantA S r t k o y v p else zeroA
theorem codeW_ok {S : Sta} {r t k : Int} {o y : ByteArray} {v p : Int} (h : codeW S r t k o y v p = 0) : SOk S ∧ EOk k o y v p ∧ (0 ≤ r ∧ r ≤ 2) ∧ (1 ≤ t ∧ t ≤ 10000) ∧ DOk r (S.l.getD r.toNat 0 + 1) ∧ ∃ q, refAt S k o p = some q := by
 unfold codeW at h
 split at h
 ·cases h
 rename_i h1
 split at h
 ·cases h
 rename_i h2
 split at h
 ·cases h
 rename_i h3
 have h1 := Classical.not_not.1 h1
 refine ⟨h1.1, h1.2.1, h1.2.2.1, h1.2.2.2, Classical.not_not.1 h2, ?_⟩
 cases e : refAt S k o p with
 | none => exact absurd e h3
 | some q => exact ⟨q, rfl⟩
theorem refAt_ok {S : Sta} {k : Int} {o : ByteArray} {p : Int} {q : Int × Int} (hS : SOk S) (h : refAt S k o p = some q) : RefOk S.l k q.1 q.2 := by
 have key : ∀ i c, placeIn S o i = some c → knows S.l c.r c.s = true := fun i c hc => hS.cells c (placeIn_some hc).1
 unfold refAt at h
 unfold RefOk
 by_cases h7 : k = 7
 ·rw [if_pos h7] at h ⊢
  obtain ⟨c, hc, rfl⟩ := Option.map_eq_some_iff.1 h
  exact key _ _ hc
 rw [if_neg h7] at h ⊢
 by_cases h6 : k = 6
 ·rw [if_pos h6]
  by_cases hp : 0 < p
  ·rw [if_pos ⟨h6, hp⟩] at h
   obtain ⟨c, hc, rfl⟩ := Option.map_eq_some_iff.1 h
   exact .inr (key _ _ hc)
  ·rw [if_neg (fun e => hp e.2)] at h
   injection h with h; subst h; exact .inl ⟨rfl, rfl⟩
 ·rw [if_neg h6]
  rw [if_neg (fun e => h6 e.1)] at h
  injection h with h; subst h; exact ⟨rfl, rfl⟩
theorem wantA_ok {S : Sta} {r t k : Int} {o y : ByteArray} {v p : Int} (h : codeW S r t k o y v p = 0) : AOk (wantA S r t k o y v p) := by
 obtain ⟨h1, h2, h3, h4, h5, q, h6⟩ := codeW_ok h
 refine ⟨h5, h1.1, ?_, h4, h2.1, ?_⟩
 ·show S.l.getD r.toNat 0 = S.l.getD r.toNat 0 + 1 - 1; omega
 ·unfold wantA; rw [h6]; exact refAt_ok h1 h6
end Go.Proofs.YtdknoflkingodaaGreat
namespace Go.Proofs.YtdknoflkingodaaGreat
set_option maxRecDepth 100000
set_option linter.unusedVariables false
open Go.RowKit
set_option maxHeartbeats 4000000 in
theorem specRow_calls (S : Sta) (u0 u1 u2 u3 : Value) (o : ByteArray) (w : World) (hS : SOk S) (h : StAt w S u0 u1 u2 u3) :
  Calls Tryz.prog 194 #[.agg #[u0, u1, u2, u3], .string o] w fun e w' => ∃ v, e = .returned v ∧ w'.ownsRow w.heap.size 35 8 v (rowC S.C o).length (ceV (rowC S.C o)) ∧ Below w.heap.size w w' := by
 obtain ⟨a0, c0, a1, c1, a2, c2, a3, c3, rfl, rfl, rfl, rfl⟩ := h.shape
 obtain ⟨W, hW⟩ : ∃ W, W = (w.alloc (.cells #[.slice a0 S.l.length c0, .slice a1 S.T.length c1, .slice a2 S.L.length c2, .slice a3 S.C.length c3] 29)).alloc (.cells #[] 35) := ⟨_, rfl⟩
 have hb : Below w.heap.size w W := by rw [hW]; exact ((Below.refl _ _).alloc (Nat.le_refl _) _).alloc (by simp) _
 have hown : W.ownsRow w.heap.size 35 8 (.slice (some ⟨w.heap.size + 1, 0, none⟩) 0 0) ([] : List Ce).length (ceV []) := by rw [hW]; exact own_base (own_none _ 35 8 (by simp) (Nat.le_refl _)) (by simp)
 have hlen := hS.row_len o
 have hC := specBelow_calls S _ _ _ _ o w hS.small.2.2.2 hS.tree h 10000 0 0 0 (fun c hc _ _ => by have := hS.tree.tim c hc; omega) (by omega) [] _ W hb hown (by simp; unfold rowC at hlen; omega)
 rw [List.nil_append] at hC
 have HC := hidI hC
 have HB : Hid (∀ wx v', Grew W (.slice (some ⟨w.heap.size + 1, 0, none⟩) 0 0) wx v' → Below w.heap.size w wx) := fun wx v' hg => hb.trans (hg.below hb.size (fun j hj => by simp [Value.ownBlock] at hj; omega))
 have HW : Hid ((w.alloc (.cells #[.slice a0 S.l.length c0, .slice a1 S.T.length c1, .slice a2 S.L.length c2, .slice a3 S.C.length c3] 29)).alloc (.cells #[] 35) = W) := hW.symm
 clear hW hb hown hlen hC
 go_enter Tryz.func194, Tryz.ntmps194
 go_wp2_with fail
 rw [HW.out]
 refine HC.out.mono ?_
 rintro e w1 ⟨v', rfl, hown, hg⟩
 have HO := hidI hown
 have HBB := hidI (HB.out _ _ hg)
 clear hown hg HB HC HW
 go_wp2
 go_ret
 exact ⟨_, rfl, HO.out, HBB.out⟩
def placeV : Option Ce → Value
 | some c => .tuple #[.agg #[.int .i64 c.r, .int .i64 c.s], .bool true]
 | none => .tuple #[.agg #[.int .i64 0, .int .i64 0], .bool false]
theorem ret_dotb {fn : Func} {q v : Tmp} (h : fn.results = #[.cell q 33, .tmp v]) {tmps : Array Value} {w : World} {g : Nat} {cs : Array Value} {x : Value} (hc : cs.size = 2) (hp : tmps.getD q undef = .pointer (some ⟨g, 0, none⟩)) (hv : tmps.getD v undef = x) (hg : Row w g cs 33) :
  (results fn tmps).run Tryz.prog w = .ok (.tuple #[.agg cs, x]) w := by
 rw [results_cell_tmp h, hp, hv]
 simp [asAddr, Result.andThen, run_loadVar_row w g 33 33 _ (0, 0) _ hg Tryz.underlying33 rfl (by rw [hc]; kernel_rfl)]
theorem Row.d0 {w : World} {g : Nat} {T : TypeId} {c0 c1 : Value} (h : Row w g #[c0, c1] T) (x : Value) : Row (w.setCell ⟨g, 0, none⟩ x) g #[x, c1] T := h.set 0 x
theorem Row.d1 {w : World} {g : Nat} {T : TypeId} {c0 c1 : Value} (h : Row w g #[c0, c1] T) (x : Value) : Row (w.setCell ⟨g, 1, none⟩ x) g #[c0, x] T := h.set 1 x
theorem shown_cons (L : List Ce) (k : Nat) (h : k < L.length) : shownC (L.drop k) = if L[k].g then shownC (L.drop (k + 1)) else L[k] :: shownC (L.drop (k + 1)) := by
 rw [List.drop_eq_getElem_cons h]
 unfold shownC
 cases hg : L[k].g <;> simp [List.filter, hg]
set_option maxHeartbeats 8000000 in
theorem specPlaceIn_calls (S : Sta) (u0 u1 u2 u3 : Value) (o : ByteArray) (i : Int) (w : World) (hi64 : i ≤ 9223372036854775807) (hn : Small S) (hst : Named S) (h : StAt w S u0 u1 u2 u3) :
  Calls Tryz.prog 144 #[.agg #[u0, u1, u2, u3], .string o, .int .i64 i] w fun e w' => e = .returned (placeV (placeIn S o i)) ∧ Below w.heap.size w w' := by
 obtain ⟨a0, c0, a1, c1, a2, c2, a3, c3, rfl, rfl, rfl, rfl⟩ := h.shape
 obtain ⟨W, hW⟩ : ∃ W, W = (w.alloc (.cells #[.slice a0 S.l.length c0, .slice a1 S.T.length c1, .slice a2 S.L.length c2, .slice a3 S.C.length c3] 29)).alloc (.cells #[.int .i64 0, .int .i64 0] 33) := ⟨_, rfl⟩
 have hB0 : Below w.heap.size w W := by rw [hW]; exact ((Below.refl _ _).alloc (Nat.le_refl _) _).alloc (by simp) _
 have hR1 : Row W w.heap.size #[.slice a0 S.l.length c0, .slice a1 S.T.length c1, .slice a2 S.L.length c2, .slice a3 S.C.length c3] 29 := by rw [hW]; exact (row_new w _ _ rfl).alloc _
 have hR2 : Row W (w.heap.size + 1) #[.int .i64 0, .int .i64 0] 33 := by rw [hW]; exact row_new _ _ _ (by simp)
 have HS : Hid (∀ wx, Below W.heap.size W wx → StAt wx S (.slice a0 S.l.length c0) (.slice a1 S.T.length c1) (.slice a2 S.L.length c2) (.slice a3 S.C.length c3)) := fun wx hb => h.below (hB0.trans (hb.mono hB0.size))
 have HR1 : Hid (∀ wx, Below W.heap.size W wx → Row wx w.heap.size #[.slice a0 S.l.length c0, .slice a1 S.T.length c1, .slice a2 S.L.length c2, .slice a3 S.C.length c3] 29) := fun wx hb => hR1.next hb
 have HR2 : Hid (∀ wx, Below W.heap.size W wx → Row wx (w.heap.size + 1) #[.int .i64 0, .int .i64 0] 33) := fun wx hb => hR2.next hb
 have HF : Hid (∀ wx, Below W.heap.size W wx → Below w.heap.size w wx) := fun wx hb => hB0.trans (hb.mono hB0.size)
 have HW : Hid ((w.alloc (.cells #[.slice a0 S.l.length c0, .slice a1 S.T.length c1, .slice a2 S.L.length c2, .slice a3 S.C.length c3] 29)).alloc (.cells #[.int .i64 0, .int .i64 0] 33) = W) := hW.symm
 have HSO := hidI (specStateOk_calls S _ _ _ _ W hn hst (HS.out W (Below.refl _ _)))
 obtain ⟨PL, hPL⟩ : ∃ PL, PL = placeIn S o i := ⟨_, rfl⟩
 rw [← hPL]
 obtain ⟨e0, e1, e2, e3⟩ := Row.four hR1
 rw [hW] at e0 e1 e2 e3
 clear hW hR1 hR2 hB0
 go_enter Tryz.func144, Tryz.ntmps144
 go_wp2_with fail
 rw [HW.out]
 refine HSO.out.mono ?_
 rintro e w1 ⟨⟨q, rfl, hq⟩, hb⟩
 clear HW HSO e0 e1 e2 e3
 have none_end : ∀ (wx : World), Below W.heap.size W wx → Hid (Row ((wx.setCell ⟨w.heap.size + 1, 0, none⟩ (.int .i64 0)).setCell ⟨w.heap.size + 1, 1, none⟩ (.int .i64 0)) (w.heap.size + 1) #[.int .i64 0, .int .i64 0] 33 ∧ Below w.heap.size w ((wx.setCell ⟨w.heap.size + 1, 0, none⟩ (.int .i64 0)).setCell ⟨w.heap.size + 1, 1, none⟩ (.int .i64 0))) := fun wx hb =>
  ⟨((HR2.out wx hb).d0 _).d1 _, ((HF.out wx hb).setCell (by simp) _).setCell (by simp) _⟩
 have HNE := hidI none_end
 clear none_end
 cases q with
 | false =>
  have HP : Hid (PL = none) := by
   show _ = _
   rw [hPL]; unfold placeIn; rw [if_neg (fun h => by have := hq.2 h.1; cases this)]
  clear hq hPL
  have hr := HR2.out w1 hb
  have d0 := hr.cell 0 rfl
  have d1 := hr.cell 1 rfl
  have f0 := hr.free 0
  have f1 := hr.free 1
  have HE := HNE.out w1 hb
  clear hr
  go_wp2
  exact bodyPost_ret (ret_dotb rfl rfl rfl rfl HE.out.1) rfl ⟨by rw [HP.out]; rfl, HE.out.2⟩
 | true =>
 have hS : SOk S := hq.1 rfl
 clear hq
 by_cases hi : i < 0
 ·have HP : Hid (PL = none) := by
   show _ = _
   rw [hPL]; unfold placeIn; rw [if_neg (fun h => by omega)]
  clear hPL
  have hr := HR2.out w1 hb
  have d0 := hr.cell 0 rfl
  have d1 := hr.cell 1 rfl
  have f0 := hr.free 0
  have f1 := hr.free 1
  have HE := HNE.out w1 hb
  clear hr
  go_wp2
  exact bodyPost_ret (ret_dotb rfl rfl rfl rfl HE.out.1) rfl ⟨by rw [HP.out]; rfl, HE.out.2⟩
 obtain ⟨m, rfl⟩ : ∃ m : Nat, i = m := Int.eq_ofNat_of_zero_le (by omega)
 obtain ⟨L, hL⟩ : ∃ L, L = rowC S.C o := ⟨_, rfl⟩
 have hP2 : PL = (shownC (L.drop 0))[m]? := by
  rw [hPL]; unfold placeIn; rw [if_pos ⟨hS, by omega⟩, List.drop_zero, hL]; rfl
 have hlen := hS.row_len o
 have hRC := specRow_calls S _ _ _ _ o w1 hS (HS.out w1 hb)
 rw [← hL] at hlen hRC
 have HRC := hidI hRC
 have HP2 := hidI hP2
 obtain ⟨e0, e1, e2, e3⟩ := Row.four (HR1.out w1 hb)
 clear hPL hRC hP2 hS hL
 go_wp2_with fail
 refine HRC.out.mono ?_
 rintro e w2 ⟨v, rfl, hown, hb2⟩
 have hb := hb.trans (hb2.mono hb.size)
 obtain ⟨aa, ca, rfl, hga⟩ := CeAt.own hown rfl
 have HGA : Hid (CeG w2 aa L) := hga
 obtain ⟨N, hN⟩ : ∃ N, N = L.length := ⟨_, rfl⟩
 have HL : Hid (N = L.length) := hN
 have HBE := hidI hb
 rw [← hN] at hlen ⊢
 clear hown hga hN HRC e0 e1 e2 e3 hb hb2 HS HR1
 go_wp2
 go_loopw [2, 9] (fun x z wr => ∃ k j : Nat, k ≤ N ∧ (j : Int) ≤ 9223372036854775807 ∧ z = .int .i64 k ∧ x = .int .i64 j ∧ PL = (shownC (L.drop k))[j]? ∧ wr = w2) (fun _ z _ => N - (intOf z).toNat)
 case atStart => exact ⟨0, m, Nat.zero_le _, hi64, rfl, rfl, HP2.out, rfl⟩
 case round =>
  clear HP2
  obtain ⟨k, j, hk, hj64, rfl, rfl, hpl, hw⟩ := hrel
  replace hw := hw.symm
  subst hw
  have HPL := hidI hpl
  clear hpl
  by_cases hlt : k < N
  ·have hkl : k < L.length := by rw [← HL.out]; exact hlt
   obtain ⟨g, f, rfl, hg, hcc⟩ := HGA.out (by omega)
   have hk1 : (k : Int) < N := by omega
   have hk0 : (0 : Int) ≤ k := by omega
   have q := hcc k hkl
   have HSC := hidI (shown_cons L k hkl)
   generalize L[k] = x at *
   unfold ceC at q
   obtain ⟨-, q1, q2, -, -, -, -, q7⟩ := q
   clear hcc hkl
   cases hgx : x.g with
   | true =>
    rw [hgx] at q7
    have HE : Hid (PL = (shownC (L.drop (k + 1)))[j]?) := by show _ = _; rw [HPL.out, HSC.out, if_pos hgx]
    clear hgx
    go_wp2
    go_roundw
    case rel => exact ⟨k + 1, j, by omega, by omega, by go_num, rfl, HE.out, by trivial⟩
    case measure => simp [intOf]; omega
   | false =>
    rw [hgx] at q7
    have HSD : Hid (shownC (L.drop k) = x :: shownC (L.drop (k + 1))) := by show _ = _; rw [HSC.out, if_neg (by rw [hgx]; simp)]
    clear hgx
    cases j with
    | zero =>
     have HE : Hid (PL = some x) := by show _ = _; rw [HPL.out, HSD.out]; rfl
     have hr := HR2.out w2 HBE.out
     have d0 := hr.cell 0 rfl
     have d1 := hr.cell 1 rfl
     have f0 := hr.free 0
     have f1 := hr.free 1
     have HRR := hidI ((hr.d0 (.int .i64 x.r)).d1 (.int .i64 x.s))
     have HBB : Hid (Below w.heap.size w ((w2.setCell ⟨w.heap.size + 1, 0, none⟩ (.int .i64 x.r)).setCell ⟨w.heap.size + 1, 1, none⟩ (.int .i64 x.s))) := ((HF.out w2 HBE.out).setCell (by simp) _).setCell (by simp) _
     clear hr
     go_wp2
     exact bodyPost_ret (ret_dotb rfl rfl rfl rfl HRR.out) rfl ⟨by rw [HE.out]; rfl, HBB.out⟩
    | succ j =>
     have HE : Hid (PL = (shownC (L.drop (k + 1)))[j]?) := by show _ = _; rw [HPL.out, HSD.out]; rfl
     obtain ⟨J, hJ⟩ : ∃ J : Int, J = ((j + 1 : Nat) : Int) := ⟨_, rfl⟩
     have hj : ¬ (J = 0) := by omega
     have hj2 : (J == 0) = false := by simp; omega
     have hw : IntKind.i64.wrap (J - 1) = J - 1 := by rw [IntKind.wrap_i64] <;> omega
     have HJ : Hid (J - 1 = (j : Int)) := by show _ = _; omega
     rw [← hJ]
     rw [← hJ] at hj64
     clear hJ
     go_wp2
     go_roundw
     case rel => exact ⟨k + 1, j, by omega, by have := HJ.out; omega, by go_num, congrArg (Value.int .i64) HJ.out, HE.out, by trivial⟩
     case measure => simp [intOf]; omega
  ·have hk1 : ¬ ((k : Int) < N) := by omega
   have HP : Hid (PL = none) := by
    show _ = _
    have e : k = L.length := (by have h1 : N = L.length := HL.out; omega)
    rw [HPL.out, e, List.drop_length]; rfl
   have hr := HR2.out w2 HBE.out
   have d0 := hr.cell 0 rfl
   have d1 := hr.cell 1 rfl
   have f0 := hr.free 0
   have f1 := hr.free 1
   have HE := HNE.out w2 HBE.out
   clear hr
   go_wp2
   exact bodyPost_ret (ret_dotb rfl rfl rfl rfl HE.out.1) rfl ⟨by rw [HP.out]; rfl, HE.out.2⟩
end Go.Proofs.YtdknoflkingodaaGreat
