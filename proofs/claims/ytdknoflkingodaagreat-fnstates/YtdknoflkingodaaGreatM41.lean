/- Any state is drawn. -/
import Derived.BigRegion
import Derived.Test.YtdknoflkingodaaGreatM1
import Derived.Test.YtdknoflkingodaaGreatM2
import Derived.Test.YtdknoflkingodaaGreatM3
import Derived.Test.YtdknoflkingodaaGreatM4
import Derived.Test.YtdknoflkingodaaGreatM5
import Derived.Test.YtdknoflkingodaaGreatM6
import Derived.Test.YtdknoflkingodaaGreatM7
import Derived.Test.YtdknoflkingodaaGreatM8
import Derived.Test.YtdknoflkingodaaGreatM9
import Derived.Test.YtdknoflkingodaaGreatM10
import Derived.Test.YtdknoflkingodaaGreatM11
import Derived.Test.YtdknoflkingodaaGreatM12
import Derived.Test.YtdknoflkingodaaGreatM13
import Derived.Test.YtdknoflkingodaaGreatM14
import Derived.Test.YtdknoflkingodaaGreatM15
import Derived.Test.YtdknoflkingodaaGreatM16
import Derived.Test.YtdknoflkingodaaGreatM17
import Derived.Test.YtdknoflkingodaaGreatM18
import Derived.Test.YtdknoflkingodaaGreatM19
import Derived.Test.YtdknoflkingodaaGreatM20
import Derived.Test.YtdknoflkingodaaGreatM21
import Derived.Test.YtdknoflkingodaaGreatM22
import Derived.Test.YtdknoflkingodaaGreatM23
import Derived.Test.YtdknoflkingodaaGreatM24
import Derived.Test.YtdknoflkingodaaGreatM27
import Derived.Test.YtdknoflkingodaaGreatM28
import Derived.Test.YtdknoflkingodaaGreatM29
import Derived.Test.YtdknoflkingodaaGreatM30
import Derived.Test.YtdknoflkingodaaGreatM31
import Derived.Test.YtdknoflkingodaaGreatM32
import Derived.Test.YtdknoflkingodaaGreatM33
import Derived.Test.YtdknoflkingodaaGreatM34
import Derived.Test.YtdknoflkingodaaGreatM35
import Derived.Test.YtdknoflkingodaaGreatM36
import Derived.Test.YtdknoflkingodaaGreatM37
import Derived.Test.YtdknoflkingodaaGreatM38
import Derived.Test.YtdknoflkingodaaGreatM39
import Derived.Test.YtdknoflkingodaaGreatM40
namespace Go.Proofs.YtdknoflkingodaaGreat
set_option maxRecDepth 100000
set_option linter.unusedVariables false
open Go.RowKit
/-- What is told of a state that was drawn, right or not. -/
structure Wil (S : Sta) : Prop where
 l : S.l.length = 3
 T : S.T.length ≤ 11
 L : S.L.length ≤ 11
 C : S.C.length ≤ 11
 nT : ∀ a ∈ S.T, NOk a.o
 nL : ∀ a ∈ S.L, NOk a.o ∧ NOk a.y
 nC : ∀ a ∈ S.C, NOk a.o
theorem Wil.small {S : Sta} (h : Wil S) : Small S := ⟨by have := h.l; omega, by have := h.T; omega, by have := h.L; omega, by have := h.C; omega⟩
theorem Wil.named {S : Sta} (h : Wil S) : Named S := ⟨fun a ha => by have := (h.nT a ha).1; omega, fun a ha => ⟨by have := (h.nL a ha).1.1; omega, by have := (h.nL a ha).2.1; omega⟩, fun a ha => by have := (h.nC a ha).1; omega⟩
theorem SOk.wil {S : Sta} (h : SOk S) (hb : Bnd 10 S) : Wil S :=
 ⟨h.1.1, Nat.le_trans hb.T (by omega), Nat.le_trans hb.L (by omega), Nat.le_trans hb.C (by omega), fun a ha => (h.2.1.2.all a ha).1, fun a ha => ⟨(h.2.2.1.2.all a ha).2.1, (h.2.2.1.2.all a ha).2.2.1⟩, fun a ha => (h.2.2.2.1.2.all a ha).2.1⟩
theorem OwnS.setK {w : World} {B g ca i : Nat} {S : Sta} {v1 v2 v3 : Value} (z : Int) (h : OwnS w B S (.slice (some ⟨g, 0, none⟩) S.l.length ca) v1 v2 v3) : OwnS (w.setCell ⟨g, i, none⟩ (.int .i64 z)) B ⟨S.l.set i z, S.T, S.L, S.C⟩ (.slice (some ⟨g, 0, none⟩) S.l.length ca) v1 v2 v3 := by
 obtain ⟨⟨h1, h2, h3, h4⟩, d1, d2, d3, d4, d5, d6⟩ := h
 have hg := (set_grown w g i (.int .i64 z)).1
 have e : (intV S.l).set i (.int .i64 z) = intV (S.l.set i z) := by simp [intV, List.map_set]
 have hst := World.ownsRow.stored h1 i (.int .i64 z)
 refine ⟨⟨?_, h2.grown hg (fun r hr => by injection hr with hr; subst hr; exact d1 g rfl), h3.grown hg (fun r hr => by injection hr with hr; subst hr; exact d2 g rfl), h4.grown hg (fun r hr => by injection hr with hr; subst hr; exact d3 g rfl)⟩, d1, d2, d3, d4, d5, d6⟩
 show World.ownsRow _ _ _ _ _ (S.l.set i z).length (intV (S.l.set i z))
 rw [List.length_set, ← e]
 exact hst.1
theorem ceV_obj (l : List Ce) (k : Nat) (o : ByteArray) (h : k < l.length) : (ceV l).set (k * 8) (.string o) = ceV (l.set k { l[k] with o := o }) := by
 induction l generalizing k with
 | nil => simp at h
 | cons a l ih =>
  cases k with
  | zero => simp [ceV, Ce.cs]
  | succ k =>
   have := ih k (by simpa using h)
   have e : (k + 1) * 8 = k * 8 + 1 + 1 + 1 + 1 + 1 + 1 + 1 + 1 := by omega
   rw [e]
   show (Ce.cs a ++ ceV l).set _ _ = Ce.cs a ++ ceV (l.set k _)
   simp only [Ce.cs, List.cons_append, List.nil_append, List.set_cons_succ]
   rw [this]; rfl
theorem OwnS.setC {w : World} {B g ca i : Nat} {S : Sta} {v0 v1 v2 : Value} (o : ByteArray) (hi : i < S.C.length) (h : OwnS w B S v0 v1 v2 (.slice (some ⟨g, 0, none⟩) S.C.length ca)) : OwnS (w.setCell ⟨g, i * 8, none⟩ (.string o)) B ⟨S.l, S.T, S.L, S.C.set i { S.C[i] with o := o }⟩ v0 v1 v2 (.slice (some ⟨g, 0, none⟩) S.C.length ca) := by
 obtain ⟨⟨h1, h2, h3, h4⟩, d1, d2, d3, d4, d5, d6⟩ := h
 have hg := (set_grown w g (i * 8) (.string o)).1
 have hst := World.ownsRow.stored h4 (i * 8) (.string o)
 refine ⟨⟨h1.grown hg (fun r hr => by injection hr with hr; subst hr; exact fun e => d3 g e rfl), h2.grown hg (fun r hr => by injection hr with hr; subst hr; exact fun e => d5 g e rfl), h3.grown hg (fun r hr => by injection hr with hr; subst hr; exact fun e => d6 g e rfl), ?_⟩, d1, d2, d3, d4, d5, d6⟩
 show World.ownsRow _ _ _ _ _ (S.C.set i _).length (ceV (S.C.set i _))
 rw [List.length_set, ← ceV_obj S.C i o hi]
 exact hst.1
theorem OwnS.next {w w' : World} {B : Nat} {S : Sta} {v0 v1 v2 v3 : Value} (h : OwnS w B S v0 v1 v2 v3) (hb : Below w.heap.size w w') : OwnS w' B S v0 v1 v2 v3 := Own4.next h hb
set_option maxHeartbeats 16000000 in
theorem anyStD (B p : Nat) (v : Value) (n : Nat) (hn : n ≤ 1048576) (w : World) (hB : B ≤ w.heap.size) (hc : Cur w B p v n) :
  Calls Tryz.prog 60 #[.pointer (some ⟨p, 0, none⟩)] w fun e w' => ∃ S' : Sta, Wil S' ∧ ∃ v0 v1 v2 v3 : Value, e = .returned (.agg #[v0, v1, v2, v3]) ∧ OwnS w' w.heap.size S' v0 v1 v2 v3 ∧ Drew w w' B p v n := by
 have hp := hc.lt
 obtain ⟨W, hW⟩ : ∃ W, W = w.alloc (.cells #[.slice none 0 0, .slice none 0 0, .slice none 0 0, .slice none 0 0] 29) := ⟨_, rfl⟩
 have HP : Hid (Row W w.heap.size #[.slice none 0 0, .slice none 0 0, .slice none 0 0, .slice none 0 0] 29) := by rw [hW]; exact row_new w _ _ rfl
 have HD : Hid (Drew w W B p v n) := by rw [hW]; exact (Drew.refl hc).alloc hp hB _
 have hWs : w.heap.size + 1 ≤ W.heap.size := by rw [hW]; simp
 have HW : Hid (w.alloc (.cells #[.slice none 0 0, .slice none 0 0, .slice none 0 0, .slice none 0 0] 29) = W) := hW.symm
 clear hW
 go_enter Tryz.func60, Tryz.ntmps60
 go_wp2_with fail
 rw [HW.out]
 clear HW
 refine (belowD 14 (by omega) (by omega) B p v n hn _ HD.out.1).mono ?_
 rintro e w1 ⟨k, rfl, hk, hd⟩
 replace HP := hidI (HP.out.grown hd.2 (by intro e; injection e with e; omega))
 replace HD := hidI (HD.out.trans hd)
 have s1 := hd.2.size
 clear hd
 go_wp2_with fail
 refine (belowD 60 (by omega) (by omega) B p v n hn _ HD.out.1).mono ?_
 rintro e w2 ⟨y, rfl, hy, hd⟩
 replace HP := hidI (HP.out.grown hd.2 (by intro e; injection e with e; omega))
 replace HD := hidI (HD.out.trans hd)
 have s2 := hd.2.size
 clear hd
 go_wp2_with fail
 refine (stateD B p v n hn _ (by omega) HD.out.1).mono ?_
 rintro e w3 ⟨S, hS, hM, y0, y1, y2, y3, rfl, ho, hd⟩
 replace HP := hidI (HP.out.grown hd.2 (by intro e; injection e with e; omega))
 replace HD := hidI (HD.out.trans hd)
 have s3 := hd.2.size
 have HWI := hidI (hS.wil hM)
 have HMM := hidI hM
 have HCO := hidI (specCopy_calls S _ _ _ _ w3 (hS.wil hM).small ho.at)
 obtain ⟨b0, d0, b1, d1, b2, d2, b3, d3, rfl, rfl, rfl, rfl⟩ := ho.at.shape
 clear hd hS hM ho
 go_wp2_with fail
 refine HCO.out.mono ?_
 rintro e w4 ⟨x0, x1, x2, x3, rfl, ho, hb⟩
 clear HCO
 obtain ⟨a0, c0, a1, c1, a2, c2, a3, c3, rfl, rfl, rfl, rfl⟩ := ho.at.shape
 replace HP := hidI (HP.out.next hb)
 replace HD := hidI (HD.out.call hp hB hb)
 have s4 := hb.size
 obtain ⟨X, hX⟩ : ∃ X, X = w4.alloc (.cells #[.slice a0 S.l.length c0, .slice a1 S.T.length c1, .slice a2 S.L.length c2, .slice a3 S.C.length c3] 29) := ⟨_, rfl⟩
 have hXs : X.heap.size = w4.heap.size + 1 := by rw [hX]; simp
 have HR : Hid (Row X w4.heap.size #[.slice a0 S.l.length c0, .slice a1 S.T.length c1, .slice a2 S.L.length c2, .slice a3 S.C.length c3] 29) := by rw [hX]; exact row_new _ _ _ rfl
 replace HP : Hid (Row X w.heap.size #[.slice none 0 0, .slice none 0 0, .slice none 0 0, .slice none 0 0] 29) := by rw [hX]; exact HP.out.alloc _
 replace HD : Hid (Drew w X B p v n) := by rw [hX]; exact HD.out.alloc hp hB _
 have HO : Hid (OwnS X w3.heap.size S (.slice a0 S.l.length c0) (.slice a1 S.T.length c1) (.slice a2 S.L.length c2) (.slice a3 S.C.length c3)) := by rw [hX]; exact Own4.next ho ((Below.refl _ _).alloc (Nat.le_refl _) _)
 have HX4 : Hid (OffS w4.heap.size (.slice a0 S.l.length c0) (.slice a1 S.T.length c1) (.slice a2 S.L.length c2) (.slice a3 S.C.length c3)) := ho.off (.inr (Nat.le_refl _))
 have HXX : Hid (w4.alloc (.cells #[.slice a0 S.l.length c0, .slice a1 S.T.length c1, .slice a2 S.L.length c2, .slice a3 S.C.length c3] 29) = X) := hX.symm
 have hw3 : w.heap.size + 1 ≤ w3.heap.size := by omega
 clear hX ho hb
 obtain ⟨q0, q1, q2, q3⟩ := Row.four HR.out
 have f0 := HR.out.free 0
 have f1 := HR.out.free 1
 have f2 := HR.out.free 2
 have f3 := HR.out.free 3
 rw [← HXX.out] at q0 q1 q2 q3 f0 f1 f2 f3
 have hkk : k = 0 ∨ k = 1 ∨ k = 2 ∨ k = 3 ∨ k = 4 ∨ 4 < k := by omega
 rcases hkk with he | he | he | he | he | hk5
 ·obtain ⟨K, hK⟩ : ∃ K : Int, K = (k : Int) := ⟨_, rfl⟩
  have hk0 : (K == 0) = true := by simp; omega
  have hj0 : decide (K = 0) = true := by simp; omega
  rw [← hK]
  clear hK he hk
  have hl3 := HWI.out.l
  obtain ⟨aa, ca, hqq, hgg⟩ := HO.out.at.1
  simp only [Value.slice.injEq] at hqq
  obtain ⟨gk, hgk, -, hcc⟩ := hgg (by omega)
  have ha0 : a0 = some ⟨gk, 0, none⟩ := hqq.1.trans hgk
  clear hqq hgg hgk
  subst ha0
  have HGK : Hid (w4.heap.size ≠ gk) := fun e => HX4.out.1 gk rfl e.symm
  have hr : y % 3 = 0 ∨ y % 3 = 1 ∨ y % 3 = 2 := by omega
  rcases hr with hr | hr | hr
  ·have hyr : (y : Int).tmod 3 = 0 := by rw [Int.tmod_eq_emod_of_nonneg (by omega)]; omega
   have cx : X.cell? ⟨gk, 0, none⟩ = some (.int .i64 (S.l[0]'(by omega))) := hcc 0 (by omega)
   have fx : X.frozen? ⟨gk, 0, none⟩ = false := World.ownsRow.frozenAt HO.out.1.1 0
   have HLL : Hid ((3 : Int) = (S.l.length : Int)) := by show _ = _; omega
   generalize S.l[0]'(by omega) = xr at cx
   clear hcc hr hy hl3
   go_wp2
   rw [HXX.out]
   have hlt : ((0 : Int) < (S.l.length : Int)) := by have := HLL.out; omega
   obtain ⟨q0', q1', q2', q3'⟩ := Row.four HR.out
   obtain ⟨Y, hY⟩ : ∃ Y, Y = X.alloc (.cells #[.int .i64 0, .int .i64 (-1), .int .i64 1001] 3) := ⟨_, rfl⟩
   have hbY : Below X.heap.size X Y := by rw [hY]; exact (Below.refl _ _).alloc (Nat.le_refl _) _
   have hoY := HO.out.next hbY
   have cy : Y.drew.cell? ⟨gk, 0, none⟩ = some (.int .i64 xr) := (cell_keep hbY (by have := World.ownsRow.lt HO.out.1.1 gk rfl; exact this.2)).trans cx
   have fy : Y.drew.frozen? ⟨gk, 0, none⟩ = false := World.ownsRow.frozenAt hoY.1.1 0
   obtain ⟨Y2, hY2⟩ : ∃ Y2, Y2 = (Y.setCell ⟨gk, 0, none⟩ (.int .i64 0)).drew := ⟨_, rfl⟩
   have hgk1 := World.ownsRow.lt HO.out.1.1 gk rfl
   have HR2 : Hid (Row Y2 w4.heap.size #[.slice (some ⟨gk, 0, none⟩) S.l.length c0, .slice a1 S.T.length c1, .slice a2 S.L.length c2, .slice a3 S.C.length c3] 29) := by rw [hY2]; exact ((HR.out.next hbY).other (HGK.out) _).drew
   have HP2 : Hid (Row Y2 w.heap.size #[.slice none 0 0, .slice none 0 0, .slice none 0 0, .slice none 0 0] 29) := by rw [hY2]; exact ((HP.out.next hbY).other (by simp; omega) _).drew
   have HD2 : Hid (Drew w Y2 B p v n) := by rw [hY2]; exact ((HD.out.call hp hB hbY).set hp hB (by omega) _ _).call hp hB ((Below.refl _ _).drew)
   have HO2 : Hid (OwnS Y2 w3.heap.size ⟨S.l.set 0 0, S.T, S.L, S.C⟩ (.slice (some ⟨gk, 0, none⟩) S.l.length c0) (.slice a1 S.T.length c1) (.slice a2 S.L.length c2) (.slice a3 S.C.length c3)) := by rw [hY2]; exact OwnS.next (OwnS.setK 0 hoY) ((Below.refl _ _).drew)
   have HY2 : Hid (((X.alloc (.cells #[.int .i64 0, .int .i64 (-1), .int .i64 1001] 3)).setCell ⟨gk, 0, none⟩ (.int .i64 0)).drew = Y2) := by show _ = _; rw [hY2, hY]
   have HW2 : Hid (Wil ⟨S.l.set 0 0, S.T, S.L, S.C⟩) := ⟨by show (S.l.set _ _).length = _; rw [List.length_set]; exact HWI.out.l, HWI.out.T, HWI.out.L, HWI.out.C, HWI.out.nT, HWI.out.nL, HWI.out.nC⟩
   rw [hY] at cy fy
   clear hY hY2 hbY hoY
   go_region
   rw [HY2.out]
   clear cy fy cx fx q0' q1' q2' q3' hlt q0 q1 q2 q3 f0 f1 f2 f3
   obtain ⟨q0, q1, q2, q3⟩ := Row.four HR2.out
   obtain ⟨o0, o1, o2, o3⟩ := Row.four HP2.out
   have g0 := HP2.out.free 0
   have g1 := HP2.out.free 1
   have g2 := HP2.out.free 2
   have g3 := HP2.out.free 3
   have HZ := hidI ((((HP2.out.st0 (.slice (some ⟨gk, 0, none⟩) S.l.length c0)).st1 (.slice a1 S.T.length c1)).st2 (.slice a2 S.L.length c2)).st3 (.slice a3 S.C.length c3))
   have HDD := hidI ((((HD2.out.set hp hB (Nat.le_refl w.heap.size) 0 (.slice (some ⟨gk, 0, none⟩) S.l.length c0)).set hp hB (Nat.le_refl w.heap.size) 1 (.slice a1 S.T.length c1)).set hp hB (Nat.le_refl w.heap.size) 2 (.slice a2 S.L.length c2)).set hp hB (Nat.le_refl w.heap.size) 3 (.slice a3 S.C.length c3))
   have HOO := hidI (Own4.base ((((Own4.put (g := w.heap.size) (i := 0) (x := .slice (some ⟨gk, 0, none⟩) S.l.length c0) HO2.out (by omega)).put (g := w.heap.size) (i := 1) (x := .slice a1 S.T.length c1) (by omega)).put (g := w.heap.size) (i := 2) (x := .slice a2 S.L.length c2) (by omega)).put (g := w.heap.size) (i := 3) (x := .slice a3 S.C.length c3) (by omega)) (show w.heap.size ≤ w3.heap.size by omega))
   go_wp2
   exact bodyPost_ret (retState rfl rfl rfl HZ.out) rfl ⟨_, HW2.out, _, _, _, _, rfl, HOO.out, HDD.out⟩
  ·have hyr : (y : Int).tmod 3 = 1 := by rw [Int.tmod_eq_emod_of_nonneg (by omega)]; omega
   have cx : X.cell? ⟨gk, 1, none⟩ = some (.int .i64 (S.l[1]'(by omega))) := hcc 1 (by omega)
   have fx : X.frozen? ⟨gk, 1, none⟩ = false := World.ownsRow.frozenAt HO.out.1.1 1
   have HLL : Hid ((3 : Int) = (S.l.length : Int)) := by show _ = _; omega
   generalize S.l[1]'(by omega) = xr at cx
   clear hcc hr hy hl3
   go_wp2
   rw [HXX.out]
   have hlt : ((1 : Int) < (S.l.length : Int)) := by have := HLL.out; omega
   obtain ⟨q0', q1', q2', q3'⟩ := Row.four HR.out
   obtain ⟨Y, hY⟩ : ∃ Y, Y = X.alloc (.cells #[.int .i64 0, .int .i64 (-1), .int .i64 1001] 3) := ⟨_, rfl⟩
   have hbY : Below X.heap.size X Y := by rw [hY]; exact (Below.refl _ _).alloc (Nat.le_refl _) _
   have hoY := HO.out.next hbY
   have cy : Y.drew.cell? ⟨gk, 1, none⟩ = some (.int .i64 xr) := (cell_keep hbY (by have := World.ownsRow.lt HO.out.1.1 gk rfl; exact this.2)).trans cx
   have fy : Y.drew.frozen? ⟨gk, 1, none⟩ = false := World.ownsRow.frozenAt hoY.1.1 1
   obtain ⟨Y2, hY2⟩ : ∃ Y2, Y2 = (Y.setCell ⟨gk, 1, none⟩ (.int .i64 (-1))).drew := ⟨_, rfl⟩
   have hgk1 := World.ownsRow.lt HO.out.1.1 gk rfl
   have HR2 : Hid (Row Y2 w4.heap.size #[.slice (some ⟨gk, 0, none⟩) S.l.length c0, .slice a1 S.T.length c1, .slice a2 S.L.length c2, .slice a3 S.C.length c3] 29) := by rw [hY2]; exact ((HR.out.next hbY).other (HGK.out) _).drew
   have HP2 : Hid (Row Y2 w.heap.size #[.slice none 0 0, .slice none 0 0, .slice none 0 0, .slice none 0 0] 29) := by rw [hY2]; exact ((HP.out.next hbY).other (by simp; omega) _).drew
   have HD2 : Hid (Drew w Y2 B p v n) := by rw [hY2]; exact ((HD.out.call hp hB hbY).set hp hB (by omega) _ _).call hp hB ((Below.refl _ _).drew)
   have HO2 : Hid (OwnS Y2 w3.heap.size ⟨S.l.set 1 (-1), S.T, S.L, S.C⟩ (.slice (some ⟨gk, 0, none⟩) S.l.length c0) (.slice a1 S.T.length c1) (.slice a2 S.L.length c2) (.slice a3 S.C.length c3)) := by rw [hY2]; exact OwnS.next (OwnS.setK (-1) hoY) ((Below.refl _ _).drew)
   have HY2 : Hid (((X.alloc (.cells #[.int .i64 0, .int .i64 (-1), .int .i64 1001] 3)).setCell ⟨gk, 1, none⟩ (.int .i64 (-1))).drew = Y2) := by show _ = _; rw [hY2, hY]
   have HW2 : Hid (Wil ⟨S.l.set 1 (-1), S.T, S.L, S.C⟩) := ⟨by show (S.l.set _ _).length = _; rw [List.length_set]; exact HWI.out.l, HWI.out.T, HWI.out.L, HWI.out.C, HWI.out.nT, HWI.out.nL, HWI.out.nC⟩
   rw [hY] at cy fy
   clear hY hY2 hbY hoY
   go_region
   rw [HY2.out]
   clear cy fy cx fx q0' q1' q2' q3' hlt q0 q1 q2 q3 f0 f1 f2 f3
   obtain ⟨q0, q1, q2, q3⟩ := Row.four HR2.out
   obtain ⟨o0, o1, o2, o3⟩ := Row.four HP2.out
   have g0 := HP2.out.free 0
   have g1 := HP2.out.free 1
   have g2 := HP2.out.free 2
   have g3 := HP2.out.free 3
   have HZ := hidI ((((HP2.out.st0 (.slice (some ⟨gk, 0, none⟩) S.l.length c0)).st1 (.slice a1 S.T.length c1)).st2 (.slice a2 S.L.length c2)).st3 (.slice a3 S.C.length c3))
   have HDD := hidI ((((HD2.out.set hp hB (Nat.le_refl w.heap.size) 0 (.slice (some ⟨gk, 0, none⟩) S.l.length c0)).set hp hB (Nat.le_refl w.heap.size) 1 (.slice a1 S.T.length c1)).set hp hB (Nat.le_refl w.heap.size) 2 (.slice a2 S.L.length c2)).set hp hB (Nat.le_refl w.heap.size) 3 (.slice a3 S.C.length c3))
   have HOO := hidI (Own4.base ((((Own4.put (g := w.heap.size) (i := 0) (x := .slice (some ⟨gk, 0, none⟩) S.l.length c0) HO2.out (by omega)).put (g := w.heap.size) (i := 1) (x := .slice a1 S.T.length c1) (by omega)).put (g := w.heap.size) (i := 2) (x := .slice a2 S.L.length c2) (by omega)).put (g := w.heap.size) (i := 3) (x := .slice a3 S.C.length c3) (by omega)) (show w.heap.size ≤ w3.heap.size by omega))
   go_wp2
   exact bodyPost_ret (retState rfl rfl rfl HZ.out) rfl ⟨_, HW2.out, _, _, _, _, rfl, HOO.out, HDD.out⟩
  ·have hyr : (y : Int).tmod 3 = 2 := by rw [Int.tmod_eq_emod_of_nonneg (by omega)]; omega
   have cx : X.cell? ⟨gk, 2, none⟩ = some (.int .i64 (S.l[2]'(by omega))) := hcc 2 (by omega)
   have fx : X.frozen? ⟨gk, 2, none⟩ = false := World.ownsRow.frozenAt HO.out.1.1 2
   have HLL : Hid ((3 : Int) = (S.l.length : Int)) := by show _ = _; omega
   generalize S.l[2]'(by omega) = xr at cx
   clear hcc hr hy hl3
   go_wp2
   rw [HXX.out]
   have hlt : ((2 : Int) < (S.l.length : Int)) := by have := HLL.out; omega
   obtain ⟨q0', q1', q2', q3'⟩ := Row.four HR.out
   obtain ⟨Y, hY⟩ : ∃ Y, Y = X.alloc (.cells #[.int .i64 0, .int .i64 (-1), .int .i64 1001] 3) := ⟨_, rfl⟩
   have hbY : Below X.heap.size X Y := by rw [hY]; exact (Below.refl _ _).alloc (Nat.le_refl _) _
   have hoY := HO.out.next hbY
   have cy : Y.drew.cell? ⟨gk, 2, none⟩ = some (.int .i64 xr) := (cell_keep hbY (by have := World.ownsRow.lt HO.out.1.1 gk rfl; exact this.2)).trans cx
   have fy : Y.drew.frozen? ⟨gk, 2, none⟩ = false := World.ownsRow.frozenAt hoY.1.1 2
   obtain ⟨Y2, hY2⟩ : ∃ Y2, Y2 = (Y.setCell ⟨gk, 2, none⟩ (.int .i64 1001)).drew := ⟨_, rfl⟩
   have hgk1 := World.ownsRow.lt HO.out.1.1 gk rfl
   have HR2 : Hid (Row Y2 w4.heap.size #[.slice (some ⟨gk, 0, none⟩) S.l.length c0, .slice a1 S.T.length c1, .slice a2 S.L.length c2, .slice a3 S.C.length c3] 29) := by rw [hY2]; exact ((HR.out.next hbY).other (HGK.out) _).drew
   have HP2 : Hid (Row Y2 w.heap.size #[.slice none 0 0, .slice none 0 0, .slice none 0 0, .slice none 0 0] 29) := by rw [hY2]; exact ((HP.out.next hbY).other (by simp; omega) _).drew
   have HD2 : Hid (Drew w Y2 B p v n) := by rw [hY2]; exact ((HD.out.call hp hB hbY).set hp hB (by omega) _ _).call hp hB ((Below.refl _ _).drew)
   have HO2 : Hid (OwnS Y2 w3.heap.size ⟨S.l.set 2 1001, S.T, S.L, S.C⟩ (.slice (some ⟨gk, 0, none⟩) S.l.length c0) (.slice a1 S.T.length c1) (.slice a2 S.L.length c2) (.slice a3 S.C.length c3)) := by rw [hY2]; exact OwnS.next (OwnS.setK 1001 hoY) ((Below.refl _ _).drew)
   have HY2 : Hid (((X.alloc (.cells #[.int .i64 0, .int .i64 (-1), .int .i64 1001] 3)).setCell ⟨gk, 2, none⟩ (.int .i64 1001)).drew = Y2) := by show _ = _; rw [hY2, hY]
   have HW2 : Hid (Wil ⟨S.l.set 2 1001, S.T, S.L, S.C⟩) := ⟨by show (S.l.set _ _).length = _; rw [List.length_set]; exact HWI.out.l, HWI.out.T, HWI.out.L, HWI.out.C, HWI.out.nT, HWI.out.nL, HWI.out.nC⟩
   rw [hY] at cy fy
   clear hY hY2 hbY hoY
   go_region
   rw [HY2.out]
   clear cy fy cx fx q0' q1' q2' q3' hlt q0 q1 q2 q3 f0 f1 f2 f3
   obtain ⟨q0, q1, q2, q3⟩ := Row.four HR2.out
   obtain ⟨o0, o1, o2, o3⟩ := Row.four HP2.out
   have g0 := HP2.out.free 0
   have g1 := HP2.out.free 1
   have g2 := HP2.out.free 2
   have g3 := HP2.out.free 3
   have HZ := hidI ((((HP2.out.st0 (.slice (some ⟨gk, 0, none⟩) S.l.length c0)).st1 (.slice a1 S.T.length c1)).st2 (.slice a2 S.L.length c2)).st3 (.slice a3 S.C.length c3))
   have HDD := hidI ((((HD2.out.set hp hB (Nat.le_refl w.heap.size) 0 (.slice (some ⟨gk, 0, none⟩) S.l.length c0)).set hp hB (Nat.le_refl w.heap.size) 1 (.slice a1 S.T.length c1)).set hp hB (Nat.le_refl w.heap.size) 2 (.slice a2 S.L.length c2)).set hp hB (Nat.le_refl w.heap.size) 3 (.slice a3 S.C.length c3))
   have HOO := hidI (Own4.base ((((Own4.put (g := w.heap.size) (i := 0) (x := .slice (some ⟨gk, 0, none⟩) S.l.length c0) HO2.out (by omega)).put (g := w.heap.size) (i := 1) (x := .slice a1 S.T.length c1) (by omega)).put (g := w.heap.size) (i := 2) (x := .slice a2 S.L.length c2) (by omega)).put (g := w.heap.size) (i := 3) (x := .slice a3 S.C.length c3) (by omega)) (show w.heap.size ≤ w3.heap.size by omega))
   go_wp2
   exact bodyPost_ret (retState rfl rfl rfl HZ.out) rfl ⟨_, HW2.out, _, _, _, _, rfl, HOO.out, HDD.out⟩
 ·obtain ⟨K, hK⟩ : ∃ K : Int, K = (k : Int) := ⟨_, rfl⟩
  have hk0 : (K == 0) = false := by simp; omega
  have hj0 : decide (K = 0) = false := by simp; omega
  have hk1 : (K == 1) = true := by simp; omega
  have hj1 : decide (K = 1) = true := by simp; omega
  rw [← hK]
  clear hK he hk
  obtain ⟨r4, hr4, hr4a, hr4b⟩ : ∃ r : Int, (y : Int).tmod 4 = r ∧ 0 ≤ r ∧ r < 4 := ⟨_, rfl, by rw [Int.tmod_eq_emod_of_nonneg (by omega)]; omega, by rw [Int.tmod_eq_emod_of_nonneg (by omega)]; omega⟩
  have hw4 : IntKind.i64.wrap (1 + r4) = 1 + r4 := by rw [IntKind.wrap_i64] <;> omega
  obtain ⟨i0, hi, hz0, hz1, hz2⟩ := info_parts infoTally
  have howT := World.ownsRow.alloc HO.out.1.2.1 (.cells #[.string { data := #[97] }, .int .i64 r4, .int .i64 (y : Int)] 38)
  have hnn := cells_new X [.string { data := #[97] }, .int .i64 r4, .int .i64 (y : Int)] 38 (g := w4.heap.size + 1) hXs.symm
  obtain ⟨X5, hX5⟩ : ∃ X5, X5 = X.alloc (.cells #[.string { data := #[97] }, .int .i64 r4, .int .i64 (y : Int)] 38) := ⟨_, rfl⟩
  have hb5 : Below X.heap.size X X5 := by rw [hX5]; exact (Below.refl _ _).alloc (Nat.le_refl _) _
  have HR5 := hidI (HR.out.next hb5)
  have HP5 := hidI (HP.out.next hb5)
  have HD5 := hidI (HD.out.call hp hB hb5)
  have HO5 := hidI (HO.out.next hb5)
  have HX5 : Hid (X.alloc (.cells #[.string { data := #[97] }, .int .i64 r4, .int .i64 (y : Int)] 38) = X5) := hX5.symm
  have HXF := hidI hX5
  have hlim := HMM.out.T
  have hs5 := hb5.size
  have hs5e : X5.heap.size = w4.heap.size + 1 + 1 := by rw [hX5]; simp; omega
  clear hX5 hb5
  rw [← HXX.out] at howT hnn
  have HOT := hidI howT
  have HNW := hidI hnn
  have hwb : w3.heap.size ≤ w4.heap.size + 1 + 1 := by omega
  clear howT hnn
  go_wp2_with (at_builtin; refine wpList_append_own_at _ rfl _ _ 25 rfl w3.heap.size 38 i0 (.agg #[.string { data := #[] }, .int .i64 0, .int .i64 0]) 3 32 Tryz.underlying25 hi hz0 hz1 hz2 rfl (by decide) _ _ _ rfl HOT.out ⟨w4.heap.size + 1, 0, none⟩ 1 1 [.string { data := #[97] }, .int .i64 r4, .int .i64 (y : Int)] rfl rfl HNW.out (by intro u' hu'; simp at hu'; rcases hu' with rfl | rfl | rfl <;> rfl) (by unfold maxLen; omega) (by omega) (by simp; omega) ?_)
  intro v2 w5 hown5 hgrow5 hne5 hat5
  rw [HXX.out, HX5.out] at hgrow5
  obtain ⟨N, hN⟩ : ∃ N, N = S.T ++ [(⟨{ data := #[97] }, r4, (y : Int)⟩ : Ta)] := ⟨_, rfl⟩
  have hNl : N.length = S.T.length + 1 := by rw [hN]; simp
  have ho5 : w5.ownsRow w3.heap.size 38 3 v2 N.length (taV N) := by
   rw [hNl, hN, taV_snoc]; exact hown5
  obtain ⟨an, cn, rfl, -⟩ := TaAt.own (l := N) ho5 rfl
  have HNL : Hid (N.length ≤ 11) := by show _ ≤ _; omega
  have HNN : Hid (∀ b ∈ N, NOk b.o) := fun b hb => by rw [hN] at hb; rcases List.mem_append.1 hb with e | e; exact HWI.out.nT b e; rw [List.mem_singleton] at e; subst e; exact (by decide : NOk { data := #[97] })
  have HON : Hid (OwnS w5 w3.heap.size ⟨S.l, N, S.L, S.C⟩ (.slice a0 S.l.length c0) (.slice an N.length cn) (.slice a2 S.L.length c2) (.slice a3 S.C.length c3)) := Own4.swap2 (p := w4.heap.size) HO5.out HX4.out (fun k hk _ hn => hgrow5.block k hk (fun e => hn e.symm)) ho5 (fun k hk => by
   rcases hat5 with e | e
   ·exact .inl (e.symm.trans hk)
   ·right; have e2 : (Value.slice an N.length cn).ownBlock = some (w4.heap.size + 1 + 1) := e; have h3 := e2.symm.trans hk; injection h3 with h3; omega)
  have hsz5 := hgrow5.size
  have hoff5 : ∀ k, (Value.slice an N.length cn).ownBlock = some k → k ≠ w4.heap.size := fun k hk e => by
   rcases hat5 with e2 | e2
   ·exact HX4.out.2.1 k (e2.symm.trans hk) e
   ·have h3 := (show (Value.slice an N.length cn).ownBlock = some (w4.heap.size + 1 + 1) from e2).symm.trans hk; injection h3 with h3; omega
  have HRN := hidI (HR5.out.grown hgrow5 (fun e => HX4.out.2.1 _ e rfl))
  have HPN := hidI (HP5.out.grown hgrow5 (fun e => by have := (World.ownsRow.lt HO.out.1.2.1 _ e).1; omega))
  have HDN : Hid (Drew w w5 B p v n) := HD5.out.kept hp hB hgrow5 (fun k hk => by have := (World.ownsRow.lt HO.out.1.2.1 k hk).1; omega)
  clear hown5 hgrow5 hne5 hat5 ho5 hN hNl HOT HNW
  clear q0 q1 q2 q3 f0 f1 f2 f3
  have qf := HRN.out.free 1
  obtain ⟨Y2, hY2⟩ : ∃ Y2, Y2 = w5.setCell ⟨w4.heap.size, 1, none⟩ (.slice an N.length cn) := ⟨_, rfl⟩
  have HR2 : Hid (Row Y2 w4.heap.size #[.slice a0 S.l.length c0, .slice an N.length cn, .slice a2 S.L.length c2, .slice a3 S.C.length c3] 29) := by rw [hY2]; exact HRN.out.st1 _
  have HP2 : Hid (Row Y2 w.heap.size #[.slice none 0 0, .slice none 0 0, .slice none 0 0, .slice none 0 0] 29) := by rw [hY2]; exact HPN.out.other (by simp; omega) _
  have HD2 : Hid (Drew w Y2 B p v n) := by rw [hY2]; exact HDN.out.set hp hB (by omega) _ _
  have HO2 : Hid (OwnS Y2 w3.heap.size ⟨S.l, N, S.L, S.C⟩ (.slice a0 S.l.length c0) (.slice an N.length cn) (.slice a2 S.L.length c2) (.slice a3 S.C.length c3)) := by rw [hY2]; exact OwnS.put HON.out ⟨HX4.out.1, hoff5, HX4.out.2.2.1, HX4.out.2.2.2⟩
  have HY2 : Hid (w5.setCell ⟨w4.heap.size, 1, none⟩ (.slice an N.length cn) = Y2) := hY2.symm
  have HW2 : Hid (Wil ⟨S.l, N, S.L, S.C⟩) := ⟨HWI.out.l, HNL.out, HWI.out.L, HWI.out.C, HNN.out, HWI.out.nL, HWI.out.nC⟩
  obtain ⟨p0, p1, p2, p3⟩ := Row.four HRN.out
  obtain ⟨q0, q1, q2, q3⟩ := Row.four HR2.out
  obtain ⟨o0, o1, o2, o3⟩ := Row.four HP2.out
  have g0 := HP2.out.free 0
  have g1 := HP2.out.free 1
  have g2 := HP2.out.free 2
  have g3 := HP2.out.free 3
  have HZ := hidI ((((HP2.out.st0 (.slice a0 S.l.length c0)).st1 (.slice an N.length cn)).st2 (.slice a2 S.L.length c2)).st3 (.slice a3 S.C.length c3))
  have HDD := hidI ((((HD2.out.set hp hB (Nat.le_refl w.heap.size) 0 (.slice a0 S.l.length c0)).set hp hB (Nat.le_refl w.heap.size) 1 (.slice an N.length cn)).set hp hB (Nat.le_refl w.heap.size) 2 (.slice a2 S.L.length c2)).set hp hB (Nat.le_refl w.heap.size) 3 (.slice a3 S.C.length c3))
  have HOO := hidI (Own4.base ((((Own4.put (g := w.heap.size) (i := 0) (x := .slice a0 S.l.length c0) HO2.out (by omega)).put (g := w.heap.size) (i := 1) (x := .slice an N.length cn) (by omega)).put (g := w.heap.size) (i := 2) (x := .slice a2 S.L.length c2) (by omega)).put (g := w.heap.size) (i := 3) (x := .slice a3 S.C.length c3) (by omega)) (show w.heap.size ≤ w3.heap.size by omega))
  rw [← HY2.out] at q0 q1 q2 q3 o0 o1 o2 o3 g0 g1 g2 g3
  clear hY2 hlim hsz5 hoff5 hs5 hs5e
  go_wp2
  rw [HY2.out]
  exact bodyPost_ret (retState rfl rfl rfl HZ.out) rfl ⟨_, HW2.out, _, _, _, _, rfl, HOO.out, HDD.out⟩
 ·obtain ⟨K, hK⟩ : ∃ K : Int, K = (k : Int) := ⟨_, rfl⟩
  have hk0 : (K == 0) = false := by simp; omega
  have hj0 : decide (K = 0) = false := by simp; omega
  have hk1 : (K == 1) = false := by simp; omega
  have hj1 : decide (K = 1) = false := by simp; omega
  have hk2 : (K == 2) = true := by simp; omega
  have hj2 : decide (K = 2) = true := by simp; omega
  rw [← hK]
  clear hK he hk
  obtain ⟨r2, hr2, hr2a, hr2b⟩ : ∃ r : Int, (y : Int).tmod 2 = r ∧ 0 ≤ r ∧ r < 2 := ⟨_, rfl, by rw [Int.tmod_eq_emod_of_nonneg (by omega)]; omega, by rw [Int.tmod_eq_emod_of_nonneg (by omega)]; omega⟩
  obtain ⟨r3, hr3, hr3a, hr3b⟩ : ∃ r : Int, (y : Int).tmod 3 = r ∧ 0 ≤ r ∧ r < 3 := ⟨_, rfl, by rw [Int.tmod_eq_emod_of_nonneg (by omega)]; omega, by rw [Int.tmod_eq_emod_of_nonneg (by omega)]; omega⟩
  obtain ⟨r4, hr4, hr4a, hr4b⟩ : ∃ r : Int, (y : Int).tmod 4 = r ∧ 0 ≤ r ∧ r < 4 := ⟨_, rfl, by rw [Int.tmod_eq_emod_of_nonneg (by omega)]; omega, by rw [Int.tmod_eq_emod_of_nonneg (by omega)]; omega⟩
  obtain ⟨r5, hr5, hr5a, hr5b⟩ : ∃ r : Int, (y : Int).tmod 5 = r ∧ 0 ≤ r ∧ r < 5 := ⟨_, rfl, by rw [Int.tmod_eq_emod_of_nonneg (by omega)]; omega, by rw [Int.tmod_eq_emod_of_nonneg (by omega)]; omega⟩
  have hw2 : IntKind.i64.wrap (1 + r2) = 1 + r2 := by rw [IntKind.wrap_i64] <;> omega
  have hw3 : IntKind.i64.wrap (1 + r3) = 1 + r3 := by rw [IntKind.wrap_i64] <;> omega
  have hw4 : IntKind.i64.wrap (1 + r4) = 1 + r4 := by rw [IntKind.wrap_i64] <;> omega
  have hw5 : IntKind.i64.wrap (1 + r5) = 1 + r5 := by rw [IntKind.wrap_i64] <;> omega
  obtain ⟨mb, hmb⟩ : ∃ mb : Bool, (r2 == 0) = mb := ⟨_, rfl⟩
  have hmd : decide (r2 = 0) = mb := by rw [← hmb]; by_cases h : r2 = 0 <;> simp [h]
  obtain ⟨i0, hi, hz0, hz1, hz2⟩ := info_parts infoLive
  have howT := World.ownsRow.alloc HO.out.1.2.2.1 (.cells #[.bool mb, .string { data := #[97] }, .string { data := #[120] }, .int .i64 r3, .int .i64 r4, .int .i64 (1 + r5)] 40)
  have hnn := cells_new X [.bool mb, .string { data := #[97] }, .string { data := #[120] }, .int .i64 r3, .int .i64 r4, .int .i64 (1 + r5)] 40 (g := w4.heap.size + 1) hXs.symm
  obtain ⟨X5, hX5⟩ : ∃ X5, X5 = X.alloc (.cells #[.bool mb, .string { data := #[97] }, .string { data := #[120] }, .int .i64 r3, .int .i64 r4, .int .i64 (1 + r5)] 40) := ⟨_, rfl⟩
  have hb5 : Below X.heap.size X X5 := by rw [hX5]; exact (Below.refl _ _).alloc (Nat.le_refl _) _
  have HR5 := hidI (HR.out.next hb5)
  have HP5 := hidI (HP.out.next hb5)
  have HD5 := hidI (HD.out.call hp hB hb5)
  have HO5 := hidI (HO.out.next hb5)
  have HX5 : Hid (X.alloc (.cells #[.bool mb, .string { data := #[97] }, .string { data := #[120] }, .int .i64 r3, .int .i64 r4, .int .i64 (1 + r5)] 40) = X5) := hX5.symm
  have HXF := hidI hX5
  have hlim := HMM.out.L
  have hs5 := hb5.size
  have hs5e : X5.heap.size = w4.heap.size + 1 + 1 := by rw [hX5]; simp; omega
  clear hX5 hb5
  rw [← HXX.out] at howT hnn
  have HOT := hidI howT
  have HNW := hidI hnn
  have hwb : w3.heap.size ≤ w4.heap.size + 1 + 1 := by omega
  clear howT hnn
  go_wp2_with (at_builtin; refine wpList_append_own_at _ rfl _ _ 26 rfl w3.heap.size 40 i0 (.agg #[.bool false, .string { data := #[] }, .string { data := #[] }, .int .i64 0, .int .i64 0, .int .i64 0]) 6 64 Tryz.underlying26 hi hz0 hz1 hz2 rfl (by decide) _ _ _ rfl HOT.out ⟨w4.heap.size + 1, 0, none⟩ 1 1 [.bool mb, .string { data := #[97] }, .string { data := #[120] }, .int .i64 r3, .int .i64 r4, .int .i64 (1 + r5)] rfl rfl HNW.out (by intro u' hu'; simp at hu'; rcases hu' with rfl | rfl | rfl | rfl | rfl | rfl <;> rfl) (by unfold maxLen; omega) (by omega) (by simp; omega) ?_)
  intro v2 w5 hown5 hgrow5 hne5 hat5
  rw [HXX.out, HX5.out] at hgrow5
  obtain ⟨N, hN⟩ : ∃ N, N = S.L ++ [(⟨mb, { data := #[97] }, { data := #[120] }, r3, r4, 1 + r5⟩ : Li)] := ⟨_, rfl⟩
  have hNl : N.length = S.L.length + 1 := by rw [hN]; simp
  have ho5 : w5.ownsRow w3.heap.size 40 6 v2 N.length (liV N) := by
   rw [hNl, hN, liV_snoc]; exact hown5
  obtain ⟨an, cn, rfl, -⟩ := LiAt.own (l := N) ho5 rfl
  have HNL : Hid (N.length ≤ 11) := by show _ ≤ _; omega
  have HNN : Hid (∀ b ∈ N, NOk b.o ∧ NOk b.y) := fun b hb => by rw [hN] at hb; rcases List.mem_append.1 hb with e | e; exact HWI.out.nL b e; rw [List.mem_singleton] at e; subst e; exact ⟨(by decide : NOk { data := #[97] }), (by decide : NOk { data := #[120] })⟩
  have HON : Hid (OwnS w5 w3.heap.size ⟨S.l, S.T, N, S.C⟩ (.slice a0 S.l.length c0) (.slice a1 S.T.length c1) (.slice an N.length cn) (.slice a3 S.C.length c3)) := Own4.swap3 (p := w4.heap.size) HO5.out HX4.out (fun k hk _ hn => hgrow5.block k hk (fun e => hn e.symm)) ho5 (fun k hk => by
   rcases hat5 with e | e
   ·exact .inl (e.symm.trans hk)
   ·right; have e2 : (Value.slice an N.length cn).ownBlock = some (w4.heap.size + 1 + 1) := e; have h3 := e2.symm.trans hk; injection h3 with h3; omega)
  have hsz5 := hgrow5.size
  have hoff5 : ∀ k, (Value.slice an N.length cn).ownBlock = some k → k ≠ w4.heap.size := fun k hk e => by
   rcases hat5 with e2 | e2
   ·exact HX4.out.2.2.1 k (e2.symm.trans hk) e
   ·have h3 := (show (Value.slice an N.length cn).ownBlock = some (w4.heap.size + 1 + 1) from e2).symm.trans hk; injection h3 with h3; omega
  have HRN := hidI (HR5.out.grown hgrow5 (fun e => HX4.out.2.2.1 _ e rfl))
  have HPN := hidI (HP5.out.grown hgrow5 (fun e => by have := (World.ownsRow.lt HO.out.1.2.2.1 _ e).1; omega))
  have HDN : Hid (Drew w w5 B p v n) := HD5.out.kept hp hB hgrow5 (fun k hk => by have := (World.ownsRow.lt HO.out.1.2.2.1 k hk).1; omega)
  clear hown5 hgrow5 hne5 hat5 ho5 hN hNl HOT HNW
  clear q0 q1 q2 q3 f0 f1 f2 f3
  have qf := HRN.out.free 2
  obtain ⟨Y2, hY2⟩ : ∃ Y2, Y2 = w5.setCell ⟨w4.heap.size, 2, none⟩ (.slice an N.length cn) := ⟨_, rfl⟩
  have HR2 : Hid (Row Y2 w4.heap.size #[.slice a0 S.l.length c0, .slice a1 S.T.length c1, .slice an N.length cn, .slice a3 S.C.length c3] 29) := by rw [hY2]; exact HRN.out.st2 _
  have HP2 : Hid (Row Y2 w.heap.size #[.slice none 0 0, .slice none 0 0, .slice none 0 0, .slice none 0 0] 29) := by rw [hY2]; exact HPN.out.other (by simp; omega) _
  have HD2 : Hid (Drew w Y2 B p v n) := by rw [hY2]; exact HDN.out.set hp hB (by omega) _ _
  have HO2 : Hid (OwnS Y2 w3.heap.size ⟨S.l, S.T, N, S.C⟩ (.slice a0 S.l.length c0) (.slice a1 S.T.length c1) (.slice an N.length cn) (.slice a3 S.C.length c3)) := by rw [hY2]; exact OwnS.put HON.out ⟨HX4.out.1, HX4.out.2.1, hoff5, HX4.out.2.2.2⟩
  have HY2 : Hid (w5.setCell ⟨w4.heap.size, 2, none⟩ (.slice an N.length cn) = Y2) := hY2.symm
  have HW2 : Hid (Wil ⟨S.l, S.T, N, S.C⟩) := ⟨HWI.out.l, HWI.out.T, HNL.out, HWI.out.C, HWI.out.nT, HNN.out, HWI.out.nC⟩
  obtain ⟨p0, p1, p2, p3⟩ := Row.four HRN.out
  obtain ⟨q0, q1, q2, q3⟩ := Row.four HR2.out
  obtain ⟨o0, o1, o2, o3⟩ := Row.four HP2.out
  have g0 := HP2.out.free 0
  have g1 := HP2.out.free 1
  have g2 := HP2.out.free 2
  have g3 := HP2.out.free 3
  have HZ := hidI ((((HP2.out.st0 (.slice a0 S.l.length c0)).st1 (.slice a1 S.T.length c1)).st2 (.slice an N.length cn)).st3 (.slice a3 S.C.length c3))
  have HDD := hidI ((((HD2.out.set hp hB (Nat.le_refl w.heap.size) 0 (.slice a0 S.l.length c0)).set hp hB (Nat.le_refl w.heap.size) 1 (.slice a1 S.T.length c1)).set hp hB (Nat.le_refl w.heap.size) 2 (.slice an N.length cn)).set hp hB (Nat.le_refl w.heap.size) 3 (.slice a3 S.C.length c3))
  have HOO := hidI (Own4.base ((((Own4.put (g := w.heap.size) (i := 0) (x := .slice a0 S.l.length c0) HO2.out (by omega)).put (g := w.heap.size) (i := 1) (x := .slice a1 S.T.length c1) (by omega)).put (g := w.heap.size) (i := 2) (x := .slice an N.length cn) (by omega)).put (g := w.heap.size) (i := 3) (x := .slice a3 S.C.length c3) (by omega)) (show w.heap.size ≤ w3.heap.size by omega))
  rw [← HY2.out] at q0 q1 q2 q3 o0 o1 o2 o3 g0 g1 g2 g3
  clear hY2 hlim hsz5 hoff5 hs5 hs5e
  go_wp2
  rw [HY2.out]
  exact bodyPost_ret (retState rfl rfl rfl HZ.out) rfl ⟨_, HW2.out, _, _, _, _, rfl, HOO.out, HDD.out⟩
 ·obtain ⟨K, hK⟩ : ∃ K : Int, K = (k : Int) := ⟨_, rfl⟩
  have hk0 : (K == 0) = false := by simp; omega
  have hj0 : decide (K = 0) = false := by simp; omega
  have hk1 : (K == 1) = false := by simp; omega
  have hj1 : decide (K = 1) = false := by simp; omega
  have hk2 : (K == 2) = false := by simp; omega
  have hj2 : decide (K = 2) = false := by simp; omega
  have hk3 : (K == 3) = true := by simp; omega
  have hj3 : decide (K = 3) = true := by simp; omega
  rw [← hK]
  clear hK he hk
  obtain ⟨r9, hr9, hr9a, hr9b⟩ : ∃ r : Int, (y : Int).tmod 9 = r ∧ 0 ≤ r ∧ r < 9 := ⟨_, rfl, by rw [Int.tmod_eq_emod_of_nonneg (by omega)]; omega, by rw [Int.tmod_eq_emod_of_nonneg (by omega)]; omega⟩
  obtain ⟨r3, hr3, hr3a, hr3b⟩ : ∃ r : Int, (y : Int).tmod 3 = r ∧ 0 ≤ r ∧ r < 3 := ⟨_, rfl, by rw [Int.tmod_eq_emod_of_nonneg (by omega)]; omega, by rw [Int.tmod_eq_emod_of_nonneg (by omega)]; omega⟩
  have hw9 : IntKind.i64.wrap (1 + r9) = 1 + r9 := by rw [IntKind.wrap_i64] <;> omega
  have hw3 : IntKind.i64.wrap (1 + r3) = 1 + r3 := by rw [IntKind.wrap_i64] <;> omega
  obtain ⟨i0, hi, hz0, hz1, hz2⟩ := info_parts infoCell
  have howT := World.ownsRow.alloc HO.out.1.2.2.2 (.cells #[.string { data := #[97] }, .int .i64 2, .int .i64 (1 + r9), .int .i64 r9, .int .i64 0, .int .i64 r3, .int .i64 0, .bool false] 35)
  have hnn := cells_new X [.string { data := #[97] }, .int .i64 2, .int .i64 (1 + r9), .int .i64 r9, .int .i64 0, .int .i64 r3, .int .i64 0, .bool false] 35 (g := w4.heap.size + 1) hXs.symm
  obtain ⟨X5, hX5⟩ : ∃ X5, X5 = X.alloc (.cells #[.string { data := #[97] }, .int .i64 2, .int .i64 (1 + r9), .int .i64 r9, .int .i64 0, .int .i64 r3, .int .i64 0, .bool false] 35) := ⟨_, rfl⟩
  have hb5 : Below X.heap.size X X5 := by rw [hX5]; exact (Below.refl _ _).alloc (Nat.le_refl _) _
  have HR5 := hidI (HR.out.next hb5)
  have HP5 := hidI (HP.out.next hb5)
  have HD5 := hidI (HD.out.call hp hB hb5)
  have HO5 := hidI (HO.out.next hb5)
  have HX5 : Hid (X.alloc (.cells #[.string { data := #[97] }, .int .i64 2, .int .i64 (1 + r9), .int .i64 r9, .int .i64 0, .int .i64 r3, .int .i64 0, .bool false] 35) = X5) := hX5.symm
  have HXF := hidI hX5
  have hlim := HMM.out.C
  have hs5 := hb5.size
  have hs5e : X5.heap.size = w4.heap.size + 1 + 1 := by rw [hX5]; simp; omega
  clear hX5 hb5
  rw [← HXX.out] at howT hnn
  have HOT := hidI howT
  have HNW := hidI hnn
  have hwb : w3.heap.size ≤ w4.heap.size + 1 + 1 := by omega
  clear howT hnn
  go_wp2_with (at_builtin; refine wpList_append_own_at _ rfl _ _ 27 rfl w3.heap.size 35 i0 (.agg #[.string { data := #[] }, .int .i64 0, .int .i64 0, .int .i64 0, .int .i64 0, .int .i64 0, .int .i64 0, .bool false]) 8 72 Tryz.underlying27 hi hz0 hz1 hz2 rfl (by decide) _ _ _ rfl HOT.out ⟨w4.heap.size + 1, 0, none⟩ 1 1 [.string { data := #[97] }, .int .i64 2, .int .i64 (1 + r9), .int .i64 r9, .int .i64 0, .int .i64 r3, .int .i64 0, .bool false] rfl rfl HNW.out (by intro u' hu'; simp at hu'; rcases hu' with rfl | rfl | rfl | rfl | rfl | rfl | rfl | rfl <;> rfl) (by unfold maxLen; omega) (by omega) (by simp; omega) ?_)
  intro v2 w5 hown5 hgrow5 hne5 hat5
  rw [HXX.out, HX5.out] at hgrow5
  obtain ⟨N, hN⟩ : ∃ N, N = S.C ++ [(⟨{ data := #[97] }, 2, 1 + r9, r9, 0, r3, 0, false⟩ : Ce)] := ⟨_, rfl⟩
  have hNl : N.length = S.C.length + 1 := by rw [hN]; simp
  have ho5 : w5.ownsRow w3.heap.size 35 8 v2 N.length (ceV N) := by
   rw [hNl, hN, ceV_snoc]; exact hown5
  obtain ⟨an, cn, rfl, -⟩ := CeAt.own (l := N) ho5 rfl
  have HNL : Hid (N.length ≤ 11) := by show _ ≤ _; omega
  have HNN : Hid (∀ b ∈ N, NOk b.o) := fun b hb => by rw [hN] at hb; rcases List.mem_append.1 hb with e | e; exact HWI.out.nC b e; rw [List.mem_singleton] at e; subst e; exact (by decide : NOk { data := #[97] })
  have HON : Hid (OwnS w5 w3.heap.size ⟨S.l, S.T, S.L, N⟩ (.slice a0 S.l.length c0) (.slice a1 S.T.length c1) (.slice a2 S.L.length c2) (.slice an N.length cn)) := Own4.swap4 (p := w4.heap.size) HO5.out HX4.out (fun k hk _ hn => hgrow5.block k hk (fun e => hn e.symm)) ho5 (fun k hk => by
   rcases hat5 with e | e
   ·exact .inl (e.symm.trans hk)
   ·right; have e2 : (Value.slice an N.length cn).ownBlock = some (w4.heap.size + 1 + 1) := e; have h3 := e2.symm.trans hk; injection h3 with h3; omega)
  have hsz5 := hgrow5.size
  have hoff5 : ∀ k, (Value.slice an N.length cn).ownBlock = some k → k ≠ w4.heap.size := fun k hk e => by
   rcases hat5 with e2 | e2
   ·exact HX4.out.2.2.2 k (e2.symm.trans hk) e
   ·have h3 := (show (Value.slice an N.length cn).ownBlock = some (w4.heap.size + 1 + 1) from e2).symm.trans hk; injection h3 with h3; omega
  have HRN := hidI (HR5.out.grown hgrow5 (fun e => HX4.out.2.2.2 _ e rfl))
  have HPN := hidI (HP5.out.grown hgrow5 (fun e => by have := (World.ownsRow.lt HO.out.1.2.2.2 _ e).1; omega))
  have HDN : Hid (Drew w w5 B p v n) := HD5.out.kept hp hB hgrow5 (fun k hk => by have := (World.ownsRow.lt HO.out.1.2.2.2 k hk).1; omega)
  clear hown5 hgrow5 hne5 hat5 ho5 hN hNl HOT HNW
  clear q0 q1 q2 q3 f0 f1 f2 f3
  have qf := HRN.out.free 3
  obtain ⟨Y2, hY2⟩ : ∃ Y2, Y2 = w5.setCell ⟨w4.heap.size, 3, none⟩ (.slice an N.length cn) := ⟨_, rfl⟩
  have HR2 : Hid (Row Y2 w4.heap.size #[.slice a0 S.l.length c0, .slice a1 S.T.length c1, .slice a2 S.L.length c2, .slice an N.length cn] 29) := by rw [hY2]; exact HRN.out.st3 _
  have HP2 : Hid (Row Y2 w.heap.size #[.slice none 0 0, .slice none 0 0, .slice none 0 0, .slice none 0 0] 29) := by rw [hY2]; exact HPN.out.other (by simp; omega) _
  have HD2 : Hid (Drew w Y2 B p v n) := by rw [hY2]; exact HDN.out.set hp hB (by omega) _ _
  have HO2 : Hid (OwnS Y2 w3.heap.size ⟨S.l, S.T, S.L, N⟩ (.slice a0 S.l.length c0) (.slice a1 S.T.length c1) (.slice a2 S.L.length c2) (.slice an N.length cn)) := by rw [hY2]; exact OwnS.put HON.out ⟨HX4.out.1, HX4.out.2.1, HX4.out.2.2.1, hoff5⟩
  have HY2 : Hid (w5.setCell ⟨w4.heap.size, 3, none⟩ (.slice an N.length cn) = Y2) := hY2.symm
  have HW2 : Hid (Wil ⟨S.l, S.T, S.L, N⟩) := ⟨HWI.out.l, HWI.out.T, HWI.out.L, HNL.out, HWI.out.nT, HWI.out.nL, HNN.out⟩
  obtain ⟨p0, p1, p2, p3⟩ := Row.four HRN.out
  obtain ⟨q0, q1, q2, q3⟩ := Row.four HR2.out
  obtain ⟨o0, o1, o2, o3⟩ := Row.four HP2.out
  have g0 := HP2.out.free 0
  have g1 := HP2.out.free 1
  have g2 := HP2.out.free 2
  have g3 := HP2.out.free 3
  have HZ := hidI ((((HP2.out.st0 (.slice a0 S.l.length c0)).st1 (.slice a1 S.T.length c1)).st2 (.slice a2 S.L.length c2)).st3 (.slice an N.length cn))
  have HDD := hidI ((((HD2.out.set hp hB (Nat.le_refl w.heap.size) 0 (.slice a0 S.l.length c0)).set hp hB (Nat.le_refl w.heap.size) 1 (.slice a1 S.T.length c1)).set hp hB (Nat.le_refl w.heap.size) 2 (.slice a2 S.L.length c2)).set hp hB (Nat.le_refl w.heap.size) 3 (.slice an N.length cn))
  have HOO := hidI (Own4.base ((((Own4.put (g := w.heap.size) (i := 0) (x := .slice a0 S.l.length c0) HO2.out (by omega)).put (g := w.heap.size) (i := 1) (x := .slice a1 S.T.length c1) (by omega)).put (g := w.heap.size) (i := 2) (x := .slice a2 S.L.length c2) (by omega)).put (g := w.heap.size) (i := 3) (x := .slice an N.length cn) (by omega)) (show w.heap.size ≤ w3.heap.size by omega))
  rw [← HY2.out] at q0 q1 q2 q3 o0 o1 o2 o3 g0 g1 g2 g3
  clear hY2 hlim hsz5 hoff5 hs5 hs5e
  go_wp2
  rw [HY2.out]
  exact bodyPost_ret (retState rfl rfl rfl HZ.out) rfl ⟨_, HW2.out, _, _, _, _, rfl, HOO.out, HDD.out⟩
 ·obtain ⟨K, hK⟩ : ∃ K : Int, K = (k : Int) := ⟨_, rfl⟩
  have hk0 : (K == 0) = false := by simp; omega
  have hj0 : decide (K = 0) = false := by simp; omega
  have hk1 : (K == 1) = false := by simp; omega
  have hj1 : decide (K = 1) = false := by simp; omega
  have hk2 : (K == 2) = false := by simp; omega
  have hj2 : decide (K = 2) = false := by simp; omega
  have hk3 : (K == 3) = false := by simp; omega
  have hj3 : decide (K = 3) = false := by simp; omega
  have hk4 : (K == 4) = true := by simp; omega
  have hj4 : decide (K = 4) = true := by simp; omega
  rw [← hK]
  clear hK he hk
  by_cases hnz : 0 < S.C.length
  case neg =>
   have hz : ¬ ((0 : Int) < (S.C.length : Int)) := by omega
   have hz0 : S.C.length = 0 := by omega
   have HC0 := hidI hz0
   clear hnz hz0
   obtain ⟨o0, o1, o2, o3⟩ := Row.four HP.out
   have g0 := HP.out.free 0
   have g1 := HP.out.free 1
   have g2 := HP.out.free 2
   have g3 := HP.out.free 3
   have HZ := hidI ((((HP.out.st0 (.slice a0 S.l.length c0)).st1 (.slice a1 S.T.length c1)).st2 (.slice a2 S.L.length c2)).st3 (.slice a3 S.C.length c3))
   have HDD := hidI ((((HD.out.set hp hB (Nat.le_refl w.heap.size) 0 (.slice a0 S.l.length c0)).set hp hB (Nat.le_refl w.heap.size) 1 (.slice a1 S.T.length c1)).set hp hB (Nat.le_refl w.heap.size) 2 (.slice a2 S.L.length c2)).set hp hB (Nat.le_refl w.heap.size) 3 (.slice a3 S.C.length c3))
   have HOO := hidI (Own4.base ((((Own4.put (g := w.heap.size) (i := 0) (x := .slice a0 S.l.length c0) HO.out (by omega)).put (g := w.heap.size) (i := 1) (x := .slice a1 S.T.length c1) (by omega)).put (g := w.heap.size) (i := 2) (x := .slice a2 S.L.length c2) (by omega)).put (g := w.heap.size) (i := 3) (x := .slice a3 S.C.length c3) (by omega)) (show w.heap.size ≤ w3.heap.size by omega))
   rw [← HXX.out] at o0 o1 o2 o3 g0 g1 g2 g3
   go_wp2
   rw [HXX.out]
   exact bodyPost_ret (retState rfl rfl rfl HZ.out) rfl ⟨S, HWI.out, _, _, _, _, rfl, HOO.out, HDD.out⟩
  have hz : (0 : Int) < (S.C.length : Int) := by omega
  have hzn : ¬ ((S.C.length : Int) = 0) := by omega
  obtain ⟨i, hi⟩ : ∃ i : Nat, i = y % S.C.length := ⟨_, rfl⟩
  have hil : i < S.C.length := by rw [hi]; exact Nat.mod_lt _ hnz
  have hyr : (y : Int).tmod (S.C.length : Int) = (i : Int) := by rw [Int.tmod_eq_emod_of_nonneg (by omega), hi]; omega
  have hi0 : (0 : Int) ≤ (i : Int) := by omega
  have hi1 : (i : Int) < (S.C.length : Int) := by omega
  obtain ⟨aa, ca, hqq, hgg⟩ := HO.out.at.2.2.2
  simp only [Value.slice.injEq] at hqq
  obtain ⟨gc, off, hgc, -, hcc⟩ := hgg hnz
  have ha0 : a3 = some ⟨gc, off, none⟩ := hqq.1.trans hgc
  obtain ⟨h4a, h4b⟩ := HO.out.1.2.2.2
  have hoff : off = 0 := by
   rcases h4b with ⟨h0, -⟩ | ⟨g, cap, cur, h0, -⟩
   ·rw [ha0] at h0; simp at h0
   ·rw [ha0] at h0; simp at h0; exact h0.1.2
  subst hoff
  have cx := (hcc i hil).1
  rw [Nat.zero_add] at cx
  clear hqq hgg hgc hcc h4a h4b
  subst ha0
  have HGK : Hid (w4.heap.size ≠ gc) := fun e => HX4.out.2.2.2 gc rfl e.symm
  have fx : X.frozen? ⟨gc, i * 8, none⟩ = false := World.ownsRow.frozenAt HO.out.1.2.2.2 (i * 8)
  have HNB : Hid (∀ b ∈ S.C.set i { S.C[i] with o := { data := #[98] } }, NOk b.o) := fun b hb => by
   rcases List.mem_or_eq_of_mem_set hb with e | e
   ·exact HWI.out.nC b e
   ·subst e; exact (by decide : NOk { data := #[98] })
  have HO2' : Hid (OwnS (X.setCell ⟨gc, i * 8, none⟩ (.string { data := #[98] })) w3.heap.size ⟨S.l, S.T, S.L, S.C.set i { S.C[i] with o := { data := #[98] } }⟩ (.slice a0 S.l.length c0) (.slice a1 S.T.length c1) (.slice a2 S.L.length c2) (.slice (some ⟨gc, 0, none⟩) S.C.length c3)) := OwnS.setC _ hil HO.out
  generalize S.C[i].o = oo at cx
  obtain ⟨N, hN⟩ : ∃ N, N = S.C.set i { S.C[i] with o := { data := #[98] } } := ⟨_, rfl⟩
  have HNLN : Hid (N.length ≤ 11) := by show _ ≤ _; rw [hN, List.length_set]; exact HWI.out.C
  rw [← hN] at HNB HO2'
  have hgk1 := World.ownsRow.lt HO.out.1.2.2.2 gc rfl
  have hNle : S.C.length ≤ 1048576 := by have := HWI.out.C; omega
  clear hi hN hil hnz
  go_wp2
  rw [HXX.out]
  obtain ⟨q0', q1', q2', q3'⟩ := Row.four HR.out
  have cxd : X.drew.cell? ⟨gc, i * 8, none⟩ = some (.string oo) := cx
  have fxd : X.drew.frozen? ⟨gc, i * 8, none⟩ = false := fx
  obtain ⟨Y2, hY2⟩ : ∃ Y2, Y2 = (X.setCell ⟨gc, i * 8, none⟩ (.string { data := #[98] })).drew := ⟨_, rfl⟩
  have HR2 : Hid (Row Y2 w4.heap.size #[.slice a0 S.l.length c0, .slice a1 S.T.length c1, .slice a2 S.L.length c2, .slice (some ⟨gc, 0, none⟩) S.C.length c3] 29) := by rw [hY2]; exact (HR.out.other (HGK.out) _).drew
  have HP2 : Hid (Row Y2 w.heap.size #[.slice none 0 0, .slice none 0 0, .slice none 0 0, .slice none 0 0] 29) := by rw [hY2]; exact (HP.out.other (by simp; omega) _).drew
  have HD2 : Hid (Drew w Y2 B p v n) := by rw [hY2]; exact (HD.out.set hp hB (by omega) _ _).call hp hB ((Below.refl _ _).drew)
  have HO2 : Hid (OwnS Y2 w3.heap.size ⟨S.l, S.T, S.L, N⟩ (.slice a0 S.l.length c0) (.slice a1 S.T.length c1) (.slice a2 S.L.length c2) (.slice (some ⟨gc, 0, none⟩) S.C.length c3)) := by rw [hY2]; exact OwnS.next HO2'.out ((Below.refl _ _).drew)
  have HY2 : Hid ((X.setCell ⟨gc, i * 8, none⟩ (.string { data := #[98] })).drew = Y2) := hY2.symm
  have HW2 : Hid (Wil ⟨S.l, S.T, S.L, N⟩) := ⟨HWI.out.l, HWI.out.T, HWI.out.L, HNLN.out, HWI.out.nT, HWI.out.nL, HNB.out⟩
  clear hY2
  go_region
  rw [HY2.out]
  clear cx fx cxd fxd q0' q1' q2' q3' q0 q1 q2 q3 f0 f1 f2 f3
  obtain ⟨q0, q1, q2, q3⟩ := Row.four HR2.out
  obtain ⟨o0, o1, o2, o3⟩ := Row.four HP2.out
  have g0 := HP2.out.free 0
  have g1 := HP2.out.free 1
  have g2 := HP2.out.free 2
  have g3 := HP2.out.free 3
  have HZ := hidI ((((HP2.out.st0 (.slice a0 S.l.length c0)).st1 (.slice a1 S.T.length c1)).st2 (.slice a2 S.L.length c2)).st3 (.slice (some ⟨gc, 0, none⟩) S.C.length c3))
  have HDD := hidI ((((HD2.out.set hp hB (Nat.le_refl w.heap.size) 0 (.slice a0 S.l.length c0)).set hp hB (Nat.le_refl w.heap.size) 1 (.slice a1 S.T.length c1)).set hp hB (Nat.le_refl w.heap.size) 2 (.slice a2 S.L.length c2)).set hp hB (Nat.le_refl w.heap.size) 3 (.slice (some ⟨gc, 0, none⟩) S.C.length c3))
  have HOO := hidI (Own4.base ((((Own4.put (g := w.heap.size) (i := 0) (x := .slice a0 S.l.length c0) HO2.out (by omega)).put (g := w.heap.size) (i := 1) (x := .slice a1 S.T.length c1) (by omega)).put (g := w.heap.size) (i := 2) (x := .slice a2 S.L.length c2) (by omega)).put (g := w.heap.size) (i := 3) (x := .slice (some ⟨gc, 0, none⟩) S.C.length c3) (by omega)) (show w.heap.size ≤ w3.heap.size by omega))
  go_wp2
  exact bodyPost_ret (retState rfl rfl rfl HZ.out) rfl ⟨_, HW2.out, _, _, _, _, rfl, HOO.out, HDD.out⟩
 ·obtain ⟨K, hK⟩ : ∃ K : Int, K = (k : Int) := ⟨_, rfl⟩
  have hk0 : ((k : Int) == 0) = false := by simp; omega
  have hj0 : decide ((k : Int) = 0) = false := by simp; omega
  have hk1 : ((k : Int) == 1) = false := by simp; omega
  have hj1 : decide ((k : Int) = 1) = false := by simp; omega
  have hk2 : ((k : Int) == 2) = false := by simp; omega
  have hj2 : decide ((k : Int) = 2) = false := by simp; omega
  have hk3 : ((k : Int) == 3) = false := by simp; omega
  have hj3 : decide ((k : Int) = 3) = false := by simp; omega
  have hk4 : ((k : Int) == 4) = false := by simp; omega
  have hj4 : decide ((k : Int) = 4) = false := by simp; omega
  rw [← hK] at hk0 hk1 hk2 hk3 hk4 hj0 hj1 hj2 hj3 hj4 ⊢
  clear hK hk5 hk
  obtain ⟨o0, o1, o2, o3⟩ := Row.four HP.out
  have g0 := HP.out.free 0
  have g1 := HP.out.free 1
  have g2 := HP.out.free 2
  have g3 := HP.out.free 3
  have HZ := hidI ((((HP.out.st0 (.slice a0 S.l.length c0)).st1 (.slice a1 S.T.length c1)).st2 (.slice a2 S.L.length c2)).st3 (.slice a3 S.C.length c3))
  have HDD := hidI ((((HD.out.set hp hB (Nat.le_refl w.heap.size) 0 (.slice a0 S.l.length c0)).set hp hB (Nat.le_refl w.heap.size) 1 (.slice a1 S.T.length c1)).set hp hB (Nat.le_refl w.heap.size) 2 (.slice a2 S.L.length c2)).set hp hB (Nat.le_refl w.heap.size) 3 (.slice a3 S.C.length c3))
  have HOO := hidI (Own4.base ((((Own4.put (g := w.heap.size) (i := 0) (x := .slice a0 S.l.length c0) HO.out (by omega)).put (g := w.heap.size) (i := 1) (x := .slice a1 S.T.length c1) (by omega)).put (g := w.heap.size) (i := 2) (x := .slice a2 S.L.length c2) (by omega)).put (g := w.heap.size) (i := 3) (x := .slice a3 S.C.length c3) (by omega)) (show w.heap.size ≤ w3.heap.size by omega))
  rw [← HXX.out] at o0 o1 o2 o3 g0 g1 g2 g3
  go_wp2
  rw [HXX.out]
  exact bodyPost_ret (retState rfl rfl rfl HZ.out) rfl ⟨S, HWI.out, _, _, _, _, rfl, HOO.out, HDD.out⟩
end Go.Proofs.YtdknoflkingodaaGreat
