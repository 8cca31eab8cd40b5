/- An act is done, or not, to a right state: the program. -/
import Derived.Test.YtepfinenocpneaaGreatQ38
set_option maxHeartbeats 16000000
namespace Go.Proofs.YtepfinenocpneaaGreat
open Value (int)
open IntKind (i64)
set_option maxRecDepth 100000
set_option linter.unusedVariables false
open Go.RowKit
theorem OwnS.keepN {w w' : World} {B : Nat} {S : Sta} {v0 v1 v2 v3 : Value} (h : OwnS w B S v0 v1 v2 v3) (hk : ∀ j, j < w.heap.size → (v0.ownBlock = some j ∨ v1.ownBlock = some j ∨ v2.ownBlock = some j ∨ v3.ownBlock = some j) → w'.heap[j]? = w.heap[j]?) : OwnS w' B S v0 v1 v2 v3 := by
 obtain ⟨⟨h1, h2, h3, h4⟩, hd⟩ := h
 refine ⟨⟨h1.same ?_, h2.same ?_, h3.same ?_, h4.same ?_⟩, hd⟩
 ·intro r hr j hj; injection hr with hr; subst hr; exact hk j (World.ownsRow.lt h1 j hj).2 (.inl hj)
 ·intro r hr j hj; injection hr with hr; subst hr; exact hk j (World.ownsRow.lt h2 j hj).2 (.inr (.inl hj))
 ·intro r hr j hj; injection hr with hr; subst hr; exact hk j (World.ownsRow.lt h3 j hj).2 (.inr (.inr (.inl hj)))
 ·intro r hr j hj; injection hr with hr; subst hr; exact hk j (World.ownsRow.lt h4 j hj).2 (.inr (.inr (.inr hj)))
theorem OwnS.putN {w : World} {B g i : Nat} {x : Value} {S : Sta} {v0 v1 v2 v3 : Value} (h : OwnS w B S v0 v1 v2 v3) (ho : ZX g v0 v1 v2 v3) : OwnS (w.setCell ⟨g, i, none⟩ x) B S v0 v1 v2 v3 :=
 h.keepN (fun j hl hj => Below.heap_setCell w _ x j (fun e => by
  rcases hj with hj | hj | hj | hj
  ·exact ho.1 j hj e
  ·exact ho.2.1 j hj e
  ·exact ho.2.2.1 j hj e
  ·exact ho.2.2.2 j hj e))
theorem OwnS.put4 {w : World} {B g i0 i1 i2 i3 : Nat} {x0 x1 x2 x3 : Value} {S : Sta} {v0 v1 v2 v3 : Value} (h : OwnS w B S v0 v1 v2 v3) (ho : ZX g v0 v1 v2 v3) : OwnS ((((w.setCell ⟨g, i0, none⟩ x0).setCell ⟨g, i1, none⟩ x1).setCell ⟨g, i2, none⟩ x2).setCell ⟨g, i3, none⟩ x3) B S v0 v1 v2 v3 := (((h.putN ho).putN ho).putN ho).putN ho
theorem Kj {w : World} {B n s g : Nat} {e : TypeId} {v : Value} {xs : List Value} {cs : Array Value} (h : w.ownsRow B e s v n xs) (hr : Row w g cs 29) (he : e ≠ 29) : ∀ k, v.ownBlock = some k → k ≠ g := by
 intro k hk e1
 subst e1
 rcases h.2 with ⟨rfl, -⟩ | ⟨g', cap, cur, rfl, -, hg, -⟩
 ·cases hk
 ·injection hk with hk
  subst hk
  unfold Row at hr
  rw [hg] at hr
  simp only [Option.some.injEq, Obj.cells.injEq] at hr
  exact he hr.2.1
theorem OwnS.offRow {w : World} {B g : Nat} {S : Sta} {v0 v1 v2 v3 : Value} {cs : Array Value} (h : OwnS w B S v0 v1 v2 v3) (hr : Row w g cs 29) : ZX g v0 v1 v2 v3 :=
 ⟨Kj h.1.1 hr (by show (3 : Nat) ≠ 29; decide), Kj h.1.2.1 hr (by show (86 : Nat) ≠ 29; decide), Kj h.1.2.2.1 hr (by show (88 : Nat) ≠ 29; decide), Kj h.1.2.2.2 hr (by show (90 : Nat) ≠ 29; decide)⟩
theorem OwnS.setKN {w : World} {B g ca i : Nat} {S : Sta} {v1 v2 v3 : Value} (z : Int) (h : OwnS w B S (.slice (some ⟨g, 0, none⟩) S.l.length ca) v1 v2 v3) : OwnS (w.setCell ⟨g, i, none⟩ (int i64 z)) B ⟨S.l.set i z, S.T, S.L, S.C⟩ (.slice (some ⟨g, 0, none⟩) S.l.length ca) v1 v2 v3 := by
 obtain ⟨⟨h1, h2, h3, h4⟩, d1, d2, d3, d4, d5, d6⟩ := h
 have e : (Je S.l).set i (int i64 z) = Je (S.l.set i z) := by simp [Je, List.map_set]
 have hst := World.ownsRow.stored h1 i (int i64 z)
 refine ⟨⟨?_, h2.same (fun r hr j hj => by injection hr with hr; subst hr; exact Below.heap_setCell w _ _ j (fun e => d1 j (by show some g = some j; rw [e]) hj)), h3.same (fun r hr j hj => by injection hr with hr; subst hr; exact Below.heap_setCell w _ _ j (fun e => d2 j (by show some g = some j; rw [e]) hj)), h4.same (fun r hr j hj => by injection hr with hr; subst hr; exact Below.heap_setCell w _ _ j (fun e => d3 j (by show some g = some j; rw [e]) hj))⟩, d1, d2, d3, d4, d5, d6⟩
 show World.ownsRow _ _ _ _ _ (S.l.set i z).length (Je (S.l.set i z))
 rw [List.length_set, ← e]
 exact hst.1
theorem JfL (S : Sta) (A : Ac) : doS S A = ⟨S.l.set A.r.toNat A.s, (doS S A).T, (doS S A).L, (doS S A).C⟩ := by
 unfold doS
 split
 ·rfl
 split
 ·rfl
 split
 ·rfl
 split
 ·rfl
 split
 ·rfl
 split
 ·rfl
 ·rfl
theorem VH {e : Ending} {P : Prop} [Decidable P] (h : e = .returned (.bool (decide P))) : Tells e P := ⟨decide P, h, decide_eq_true_iff⟩
abbrev la0 : Oper := oq 33 (.fieldAddr 44 (.tmp 3) 3) 0 "l07_done.go:120" #[] none
abbrev la1 : Oper := oq 34 (.load 3 (.tmp 33)) 3 "l07_done.go:120" #[eD 0] none
abbrev la2 : Oper := oq 35 (.call ⟨.value (.func 72), #[.tmp 34], #[3]⟩) 101 "l07_done.go:120" #[eD 1] none
abbrev la3 : Oper := oq 36 (.load 29 (.tmp 2)) 29 "l07_done.go:120" #[] none
abbrev la4 : Oper := oq 37 (.load 44 (.tmp 3)) 44 "l07_done.go:120" #[] none
abbrev la5 : Oper := oq 38 (.call ⟨.value (.tmp 35), #[.tmp 36, .tmp 37], #[29, 44]⟩) 29 "l07_done.go:120" #[eD 2, eD 3, eD 4, eC 2] none
abbrev la6 : Oper := oq 6 (.alloc 29) 0 "l07_done.go:120" #[] none
abbrev la7 : Oper := oz (.store 29 (.tmp 6) (.tmp 38)) 0 "l07_done.go:120" #[eD 6, eD 5, eC 5, eP 0, eP 1, eP 2, eP 3, eP 4, eP 5, eP 6] none
theorem Jaz (S : Sta) (a0 a1 a2 a3 : Option Addr) (c0 c1 c2 c3 : Nat) (A : Ac) (aa : Option Addr) (ca : Nat) (w : World) (B : Nat) (hS : SOk S) (hO : OwnS w B S (.slice a0 S.l.length c0) (.slice a1 S.T.length c1) (.slice a2 S.L.length c2) (.slice a3 S.C.length c3)) (hB : B ≤ w.heap.size) (hu : IntsAt w (.slice aa A.l.length ca) A.l) (hal : A.l.length ≤ 1048576 ∧ A.o.size ≤ 1048576 ∧ A.y.size ≤ 1048576) :
  Calls Tryz.prog 26 #[.agg #[.slice a0 S.l.length c0, .slice a1 S.T.length c1, .slice a2 S.L.length c2, .slice a3 S.C.length c3], .agg #[int i64 A.r, int i64 A.s, int i64 A.t, .slice aa A.l.length ca, int i64 A.k, .string A.o, .string A.y, int i64 A.v, int i64 A.x, int i64 A.z]] w fun e w' => ∃ v0 v1 v2 v3, e = .returned (.tuple #[.agg #[v0, v1, v2, v3], int i64 (Jm S A)]) ∧ OwnS w' B (Jc S A) v0 v1 v2 v3 ∧ Below w.heap.size w w' := by
 obtain ⟨W, hW⟩ : ∃ W, W = ((w.alloc (.cells #[.slice a0 S.l.length c0, .slice a1 S.T.length c1, .slice a2 S.L.length c2, .slice a3 S.C.length c3] 29)).alloc (.cells #[int i64 A.r, int i64 A.s, int i64 A.t, .slice aa A.l.length ca, int i64 A.k, .string A.o, .string A.y, int i64 A.v, int i64 A.x, int i64 A.z] 44)).alloc (.cells #[.slice none 0 0, .slice none 0 0, .slice none 0 0, .slice none 0 0] 29) := ⟨_, rfl⟩
 have hWs : W.heap.size = w.heap.size + 1 + 1 + 1 := by rw [hW]; simp
 have hB0 : Below w.heap.size w W := by rw [hW]; exact (((Below.refl _ _).alloc (Nat.le_refl _) _).alloc (by simp) _).alloc (by simp; omega) _
 have hR1 : Row W w.heap.size #[.slice a0 S.l.length c0, .slice a1 S.T.length c1, .slice a2 S.L.length c2, .slice a3 S.C.length c3] 29 := by rw [hW]; exact ((Jb w _ _ rfl).alloc _).alloc _
 have hR2 : Row W (w.heap.size + 1) #[int i64 A.r, int i64 A.s, int i64 A.t, .slice aa A.l.length ca, int i64 A.k, .string A.o, .string A.y, int i64 A.v, int i64 A.x, int i64 A.z] 44 := by rw [hW]; exact (Jb _ _ _ (by simp)).alloc _
 have hR3 : Row W (w.heap.size + 1 + 1) #[.slice none 0 0, .slice none 0 0, .slice none 0 0, .slice none 0 0] 29 := by rw [hW]; exact Jb _ _ _ (by simp)
 have HWW : Hid (((w.alloc (.cells #[.slice a0 S.l.length c0, .slice a1 S.T.length c1, .slice a2 S.L.length c2, .slice a3 S.C.length c3] 29)).alloc (.cells #[int i64 A.r, int i64 A.s, int i64 A.t, .slice aa A.l.length ca, int i64 A.k, .string A.o, .string A.y, int i64 A.v, int i64 A.x, int i64 A.z] 44)).alloc (.cells #[.slice none 0 0, .slice none 0 0, .slice none 0 0, .slice none 0 0] 29) = W) := hW.symm
 have HF : Hid (∀ wx, Below W.heap.size W wx → Below w.heap.size w wx) := fun wx h => hB0.trans (h.mono hB0.size)
 have HR1 : Hid (∀ wx, Below W.heap.size W wx → Row wx w.heap.size #[.slice a0 S.l.length c0, .slice a1 S.T.length c1, .slice a2 S.L.length c2, .slice a3 S.C.length c3] 29) := fun wx h => hR1.next h
 have HR2 : Hid (∀ wx, Below W.heap.size W wx → Row wx (w.heap.size + 1) #[int i64 A.r, int i64 A.s, int i64 A.t, .slice aa A.l.length ca, int i64 A.k, .string A.o, .string A.y, int i64 A.v, int i64 A.x, int i64 A.z] 44) := fun wx h => hR2.next h
 have HR3 : Hid (∀ wx, Below W.heap.size W wx → Row wx (w.heap.size + 1 + 1) #[.slice none 0 0, .slice none 0 0, .slice none 0 0, .slice none 0 0] 29) := fun wx h => hR3.next h
 have HO : Hid (∀ wx, Below w.heap.size w wx → OwnS wx B S (.slice a0 S.l.length c0) (.slice a1 S.T.length c1) (.slice a2 S.L.length c2) (.slice a3 S.C.length c3)) := fun wx h => Own4.next hO h
 have HAK : Hid (∀ wx, Below W.heap.size W wx → Calls Tryz.prog 68 #[.agg #[int i64 A.r, int i64 A.s, int i64 A.t, .slice aa A.l.length ca, int i64 A.k, .string A.o, .string A.y, int i64 A.v, int i64 A.x, int i64 A.z]] wx fun e w' => Tells e (AOk A) ∧ Below wx.heap.size wx w') := fun wx hb => (Y5 A _ wx hal (hu.below (HF.out wx hb))).mono (fun e w' h => ⟨VH h.1, h.2⟩)
 have HKN : Hid (∀ wx, Below W.heap.size W wx → Calls Tryz.prog 69 #[.slice a0 S.l.length c0, .agg #[int i64 A.r, int i64 A.s]] wx fun e w' => Tells e (Jf S.l A.r A.s = true) ∧ Below wx.heap.size wx w') := fun wx hb => (Ki S.l _ A.r A.s wx (HO.out wx (HF.out wx hb)).at.1).mono (fun e w' h => ⟨⟨_, h.1, Iff.rfl⟩, h.2⟩)
 have HKI : Hid (∀ wx, Below W.heap.size W wx → Calls Tryz.prog 70 #[.slice aa A.l.length ca, .slice a0 S.l.length c0] wx fun e w' => Tells e (kin A.l S.l = true) ∧ Below wx.heap.size wx w') := fun wx hb => (YB A.l S.l _ _ wx (hu.below (HF.out wx hb)) (HO.out wx (HF.out wx hb)).at.1).mono (fun e w' h => ⟨⟨_, h.1, Iff.rfl⟩, h.2⟩)
 have HRF : Hid (∀ wx, AOk A → Below W.heap.size W wx → Calls Tryz.prog 71 #[.agg #[.slice a0 S.l.length c0, .slice a1 S.T.length c1, .slice a2 S.L.length c2, .slice a3 S.C.length c3], .agg #[int i64 A.r, int i64 A.s, int i64 A.t, .slice aa A.l.length ca, int i64 A.k, .string A.o, .string A.y, int i64 A.v, int i64 A.x, int i64 A.z]] wx fun e w' => Tells e (Jt S A) ∧ Below wx.heap.size wx w') := fun wx hA hb => Un S _ _ _ _ _ _ _ _ _ _ _ A aa ca wx hS hA (HO.out wx (HF.out wx hb)).at.2.2.2
 have HDD : Hid (∀ wx f, AOk A → ¬ Jf S.l A.r A.s = true → Jt S A → JbD A.k f → Below W.heap.size W wx → Calls Tryz.prog f #[.agg #[.slice a0 S.l.length c0, .slice a1 S.T.length c1, .slice a2 S.L.length c2, .slice a3 S.C.length c3], .agg #[int i64 A.r, int i64 A.s, int i64 A.t, .slice aa A.l.length ca, int i64 A.k, .string A.o, .string A.y, int i64 A.v, int i64 A.x, int i64 A.z]] wx fun e w' => ∃ v1 v2 v3, e = .returned (.agg #[.slice a0 S.l.length c0, v1, v2, v3]) ∧ OwnS w' B (Jl S A) (.slice a0 S.l.length c0) v1 v2 v3 ∧ Below wx.heap.size wx w') := fun wx f hA hk hr hf hb => Ja7 S _ _ _ _ _ _ _ _ A aa ca f wx B hS hA hk hr hf (HO.out wx (HF.out wx hb)) (Nat.le_trans hB (HF.out wx hb).size) (hu.below (HF.out wx hb)) hal
 have HCK : Hid (∀ wx, Below W.heap.size W wx → Calls Tryz.prog 74 #[.slice a0 S.l.length c0] wx fun e w' => ∃ q, e = .returned q ∧ w'.ownsRow wx.heap.size 3 1 q S.l.length (Je S.l) ∧ Below wx.heap.size wx w') := fun wx hb => Vy S.l _ wx (by have := hS.len.1; omega) (HO.out wx (HF.out wx hb)).at.1
 have hl3 : S.l.length = 3 := hS.len.1
 have HSO := Ja hS
 have HL3 := Ja hl3
 have HWS := Ja hWs
 have HBB := Ja hB
 have hW0 : Below W.heap.size W W := Below.refl _ _
 obtain ⟨m0, m1, m2, m3, m4, m5, m6, m7, m8, m9⟩ := Row.ten hR2
 rw [hW] at m0 m1 m2 m3 m4 m5 m6 m7 m8 m9
 clear hW hu hR1 hR2 hR3 hal hB0 hO hS hl3 hWs hB
 go_enter Tryz.func26, Tryz.ntmps26
 go_wp2_with fail
 rw [HWW.out]
 clear HWW m0 m1 m2 m3 m4 m5 m6 m7 m8 m9
 refine (HAK.out _ hW0).mono ?_
 rintro e x0 ⟨⟨q, rfl, hq⟩, hb0⟩
 clear HAK hW0
 cases q with
 | false =>
  have hns : ¬ AOk A := fun h => by have := hq.2 h; cases this
  clear hq
  have HCD : Hid (Jm S A = 3) := by show _ = _; unfold Jm; rw [if_pos (fun h => hns h.2)]
  have HNX : Hid (Jc S A = S) := by show _ = _; unfold Jc; rw [if_neg (by rw [HCD.out]; decide)]
  obtain ⟨p0, p1, p2, p3⟩ := Row.four (HR1.out _ hb0)
  have hr3 := HR3.out _ hb0
  obtain ⟨z0, z1, z2, z3⟩ := Row.four hr3
  have k0 := hr3.free 0
  have k1 := hr3.free 1
  have k2 := hr3.free 2
  have k3 := hr3.free 3
  have HZY : Hid (Row ((((x0.setCell ⟨w.heap.size + 1 + 1, 0, none⟩ (.slice a0 S.l.length c0)).setCell ⟨w.heap.size + 1 + 1, 1, none⟩ (.slice a1 S.T.length c1)).setCell ⟨w.heap.size + 1 + 1, 2, none⟩ (.slice a2 S.L.length c2)).setCell ⟨w.heap.size + 1 + 1, 3, none⟩ (.slice a3 S.C.length c3)) (w.heap.size + 1 + 1) #[.slice a0 S.l.length c0, .slice a1 S.T.length c1, .slice a2 S.L.length c2, .slice a3 S.C.length c3] 29) := ZK hr3
  have HBY : Hid (Below w.heap.size w ((((x0.setCell ⟨w.heap.size + 1 + 1, 0, none⟩ (.slice a0 S.l.length c0)).setCell ⟨w.heap.size + 1 + 1, 1, none⟩ (.slice a1 S.T.length c1)).setCell ⟨w.heap.size + 1 + 1, 2, none⟩ (.slice a2 S.L.length c2)).setCell ⟨w.heap.size + 1 + 1, 3, none⟩ (.slice a3 S.C.length c3))) := JS (HF.out _ hb0) (by omega)
  have HOY : Hid (OwnS ((((x0.setCell ⟨w.heap.size + 1 + 1, 0, none⟩ (.slice a0 S.l.length c0)).setCell ⟨w.heap.size + 1 + 1, 1, none⟩ (.slice a1 S.T.length c1)).setCell ⟨w.heap.size + 1 + 1, 2, none⟩ (.slice a2 S.L.length c2)).setCell ⟨w.heap.size + 1 + 1, 3, none⟩ (.slice a3 S.C.length c3)) B (Jc S A) (.slice a0 S.l.length c0) (.slice a1 S.T.length c1) (.slice a2 S.L.length c2) (.slice a3 S.C.length c3)) := by show OwnS _ _ _ _ _ _ _; rw [HNX.out]; exact HO.out _ HBY.out
  clear hr3
  go_wp2
  exact bodyPost_ret (JC rfl rfl rfl rfl HZY.out) rfl ⟨_, _, _, _, by rw [HCD.out]; rfl, HOY.out, HBY.out⟩
 | true =>
 have HA : Hid (AOk A) := hq.1 rfl
 clear hq
 obtain ⟨m0, m1, m2, m3, m4, m5, m6, m7, m8, m9⟩ := Row.ten (HR2.out _ hb0)
 obtain ⟨p0, p1, p2, p3⟩ := Row.four (HR1.out _ hb0)
 go_wp2_with fail
 refine (HKN.out _ hb0).mono ?_
 rintro e x1 ⟨⟨q, rfl, hq⟩, hb1⟩
 replace hb1 := hb0.trans (hb1.mono hb0.size)
 clear HKN hb0 m0 m1 m2 m3 m4 m5 m6 m7 m8 m9 p0 p1 p2 p3
 cases q with
 | true =>
  have hkn := hq.1 rfl
  clear hq
  have HCD : Hid (Jm S A = 1) := by show _ = _; unfold Jm; rw [if_neg (fun h => h ⟨HSO.out, HA.out⟩), if_pos hkn]
  have HNX : Hid (Jc S A = S) := by show _ = _; unfold Jc; rw [if_neg (by rw [HCD.out]; decide)]
  obtain ⟨p0, p1, p2, p3⟩ := Row.four (HR1.out _ hb1)
  have hr3 := HR3.out _ hb1
  obtain ⟨z0, z1, z2, z3⟩ := Row.four hr3
  have k0 := hr3.free 0
  have k1 := hr3.free 1
  have k2 := hr3.free 2
  have k3 := hr3.free 3
  have HZY : Hid (Row ((((x1.setCell ⟨w.heap.size + 1 + 1, 0, none⟩ (.slice a0 S.l.length c0)).setCell ⟨w.heap.size + 1 + 1, 1, none⟩ (.slice a1 S.T.length c1)).setCell ⟨w.heap.size + 1 + 1, 2, none⟩ (.slice a2 S.L.length c2)).setCell ⟨w.heap.size + 1 + 1, 3, none⟩ (.slice a3 S.C.length c3)) (w.heap.size + 1 + 1) #[.slice a0 S.l.length c0, .slice a1 S.T.length c1, .slice a2 S.L.length c2, .slice a3 S.C.length c3] 29) := ZK hr3
  have HBY : Hid (Below w.heap.size w ((((x1.setCell ⟨w.heap.size + 1 + 1, 0, none⟩ (.slice a0 S.l.length c0)).setCell ⟨w.heap.size + 1 + 1, 1, none⟩ (.slice a1 S.T.length c1)).setCell ⟨w.heap.size + 1 + 1, 2, none⟩ (.slice a2 S.L.length c2)).setCell ⟨w.heap.size + 1 + 1, 3, none⟩ (.slice a3 S.C.length c3))) := JS (HF.out _ hb1) (by omega)
  have HOY : Hid (OwnS ((((x1.setCell ⟨w.heap.size + 1 + 1, 0, none⟩ (.slice a0 S.l.length c0)).setCell ⟨w.heap.size + 1 + 1, 1, none⟩ (.slice a1 S.T.length c1)).setCell ⟨w.heap.size + 1 + 1, 2, none⟩ (.slice a2 S.L.length c2)).setCell ⟨w.heap.size + 1 + 1, 3, none⟩ (.slice a3 S.C.length c3)) B (Jc S A) (.slice a0 S.l.length c0) (.slice a1 S.T.length c1) (.slice a2 S.L.length c2) (.slice a3 S.C.length c3)) := by show OwnS _ _ _ _ _ _ _; rw [HNX.out]; exact HO.out _ HBY.out
  clear hr3
  go_wp2
  exact bodyPost_ret (JC rfl rfl rfl rfl HZY.out) rfl ⟨_, _, _, _, by rw [HCD.out]; rfl, HOY.out, HBY.out⟩
 | false =>
 have HNK : Hid (¬ Jf S.l A.r A.s = true) := fun h => by have := hq.2 h; cases this
 clear hq
 obtain ⟨m0, m1, m2, m3, m4, m5, m6, m7, m8, m9⟩ := Row.ten (HR2.out _ hb1)
 obtain ⟨p0, p1, p2, p3⟩ := Row.four (HR1.out _ hb1)
 go_wp2_with fail
 refine (HKI.out _ hb1).mono ?_
 rintro e x2 ⟨⟨q, rfl, hq⟩, hb2⟩
 replace hb2 := hb1.trans (hb2.mono hb1.size)
 clear HKI hb1 m0 m1 m2 m3 m4 m5 m6 m7 m8 m9 p0 p1 p2 p3
 cases q with
 | false =>
  have hki : ¬ kin A.l S.l = true := fun h => by have := hq.2 h; cases this
  clear hq
  have HCD : Hid (Jm S A = 2) := by show _ = _; unfold Jm; rw [if_neg (fun h => h ⟨HSO.out, HA.out⟩), if_neg HNK.out, if_pos (by simpa using hki)]
  have HNX : Hid (Jc S A = S) := by show _ = _; unfold Jc; rw [if_neg (by rw [HCD.out]; decide)]
  obtain ⟨p0, p1, p2, p3⟩ := Row.four (HR1.out _ hb2)
  have hr3 := HR3.out _ hb2
  obtain ⟨z0, z1, z2, z3⟩ := Row.four hr3
  have k0 := hr3.free 0
  have k1 := hr3.free 1
  have k2 := hr3.free 2
  have k3 := hr3.free 3
  have HZY : Hid (Row ((((x2.setCell ⟨w.heap.size + 1 + 1, 0, none⟩ (.slice a0 S.l.length c0)).setCell ⟨w.heap.size + 1 + 1, 1, none⟩ (.slice a1 S.T.length c1)).setCell ⟨w.heap.size + 1 + 1, 2, none⟩ (.slice a2 S.L.length c2)).setCell ⟨w.heap.size + 1 + 1, 3, none⟩ (.slice a3 S.C.length c3)) (w.heap.size + 1 + 1) #[.slice a0 S.l.length c0, .slice a1 S.T.length c1, .slice a2 S.L.length c2, .slice a3 S.C.length c3] 29) := ZK hr3
  have HBY : Hid (Below w.heap.size w ((((x2.setCell ⟨w.heap.size + 1 + 1, 0, none⟩ (.slice a0 S.l.length c0)).setCell ⟨w.heap.size + 1 + 1, 1, none⟩ (.slice a1 S.T.length c1)).setCell ⟨w.heap.size + 1 + 1, 2, none⟩ (.slice a2 S.L.length c2)).setCell ⟨w.heap.size + 1 + 1, 3, none⟩ (.slice a3 S.C.length c3))) := JS (HF.out _ hb2) (by omega)
  have HOY : Hid (OwnS ((((x2.setCell ⟨w.heap.size + 1 + 1, 0, none⟩ (.slice a0 S.l.length c0)).setCell ⟨w.heap.size + 1 + 1, 1, none⟩ (.slice a1 S.T.length c1)).setCell ⟨w.heap.size + 1 + 1, 2, none⟩ (.slice a2 S.L.length c2)).setCell ⟨w.heap.size + 1 + 1, 3, none⟩ (.slice a3 S.C.length c3)) B (Jc S A) (.slice a0 S.l.length c0) (.slice a1 S.T.length c1) (.slice a2 S.L.length c2) (.slice a3 S.C.length c3)) := by show OwnS _ _ _ _ _ _ _; rw [HNX.out]; exact HO.out _ HBY.out
  clear hr3
  go_wp2
  exact bodyPost_ret (JC rfl rfl rfl rfl HZY.out) rfl ⟨_, _, _, _, by rw [HCD.out]; rfl, HOY.out, HBY.out⟩
 | true =>
 have HKT : Hid (kin A.l S.l = true) := hq.1 rfl
 clear hq
 obtain ⟨m0, m1, m2, m3, m4, m5, m6, m7, m8, m9⟩ := Row.ten (HR2.out _ hb2)
 obtain ⟨p0, p1, p2, p3⟩ := Row.four (HR1.out _ hb2)
 go_wp2_with fail
 refine (HRF.out _ HA.out hb2).mono ?_
 rintro e x3 ⟨⟨q, rfl, hq⟩, hb3⟩
 replace hb3 := hb2.trans (hb3.mono hb2.size)
 clear HRF hb2 m0 m1 m2 m3 m4 m5 m6 m7 m8 m9 p0 p1 p2 p3
 cases q with
 | false =>
  have hrf : ¬ Jt S A := fun h => by have := hq.2 h; cases this
  clear hq
  have HCD : Hid (Jm S A = 3) := by show _ = _; unfold Jm; rw [if_neg (fun h => h ⟨HSO.out, HA.out⟩), if_neg HNK.out, if_neg (by rw [HKT.out]; decide), if_pos hrf]
  have HNX : Hid (Jc S A = S) := by show _ = _; unfold Jc; rw [if_neg (by rw [HCD.out]; decide)]
  obtain ⟨p0, p1, p2, p3⟩ := Row.four (HR1.out _ hb3)
  have hr3 := HR3.out _ hb3
  obtain ⟨z0, z1, z2, z3⟩ := Row.four hr3
  have k0 := hr3.free 0
  have k1 := hr3.free 1
  have k2 := hr3.free 2
  have k3 := hr3.free 3
  have HZY : Hid (Row ((((x3.setCell ⟨w.heap.size + 1 + 1, 0, none⟩ (.slice a0 S.l.length c0)).setCell ⟨w.heap.size + 1 + 1, 1, none⟩ (.slice a1 S.T.length c1)).setCell ⟨w.heap.size + 1 + 1, 2, none⟩ (.slice a2 S.L.length c2)).setCell ⟨w.heap.size + 1 + 1, 3, none⟩ (.slice a3 S.C.length c3)) (w.heap.size + 1 + 1) #[.slice a0 S.l.length c0, .slice a1 S.T.length c1, .slice a2 S.L.length c2, .slice a3 S.C.length c3] 29) := ZK hr3
  have HBY : Hid (Below w.heap.size w ((((x3.setCell ⟨w.heap.size + 1 + 1, 0, none⟩ (.slice a0 S.l.length c0)).setCell ⟨w.heap.size + 1 + 1, 1, none⟩ (.slice a1 S.T.length c1)).setCell ⟨w.heap.size + 1 + 1, 2, none⟩ (.slice a2 S.L.length c2)).setCell ⟨w.heap.size + 1 + 1, 3, none⟩ (.slice a3 S.C.length c3))) := JS (HF.out _ hb3) (by omega)
  have HOY : Hid (OwnS ((((x3.setCell ⟨w.heap.size + 1 + 1, 0, none⟩ (.slice a0 S.l.length c0)).setCell ⟨w.heap.size + 1 + 1, 1, none⟩ (.slice a1 S.T.length c1)).setCell ⟨w.heap.size + 1 + 1, 2, none⟩ (.slice a2 S.L.length c2)).setCell ⟨w.heap.size + 1 + 1, 3, none⟩ (.slice a3 S.C.length c3)) B (Jc S A) (.slice a0 S.l.length c0) (.slice a1 S.T.length c1) (.slice a2 S.L.length c2) (.slice a3 S.C.length c3)) := by show OwnS _ _ _ _ _ _ _; rw [HNX.out]; exact HO.out _ HBY.out
  clear hr3
  go_wp2
  exact bodyPost_ret (JC rfl rfl rfl rfl HZY.out) rfl ⟨_, _, _, _, by rw [HCD.out]; rfl, HOY.out, HBY.out⟩
 | true =>
 have HRR : Hid (Jt S A) := hq.1 rfl
 clear hq
 obtain ⟨f, hf⟩ := Jd0 HA.out
 have HDO : Hid (∀ wx, Calls Tryz.prog 72 #[int i64 A.k] wx fun e w' => e = .returned (.func (.func f) #[] #[]) ∧ Below wx.heap.size wx w') := fun wx => YD A.k f wx hf
 have hcf : ∀ (args : Array Value) (wx : World), (callFunc f args).run Tryz.prog wx = .ok (.enter f args) wx := by
  rcases hf with ⟨-, rfl⟩ | ⟨-, rfl⟩ | ⟨-, rfl⟩ | ⟨-, rfl⟩ | ⟨-, rfl⟩ | ⟨-, rfl⟩ | ⟨-, rfl⟩ <;> (intro args wx; go_simp)
 have HDC : Hid (∀ wx, Below x3.heap.size x3 wx → Calls Tryz.prog f #[.agg #[.slice a0 S.l.length c0, .slice a1 S.T.length c1, .slice a2 S.L.length c2, .slice a3 S.C.length c3], .agg #[int i64 A.r, int i64 A.s, int i64 A.t, .slice aa A.l.length ca, int i64 A.k, .string A.o, .string A.y, int i64 A.v, int i64 A.x, int i64 A.z]] wx fun e w' => ∃ v1 v2 v3, e = .returned (.agg #[.slice a0 S.l.length c0, v1, v2, v3]) ∧ OwnS w' B (Jl S A) (.slice a0 S.l.length c0) v1 v2 v3 ∧ Below wx.heap.size wx w') := fun wx hb => HDD.out wx f HA.out HNK.out HRR.out hf (hb3.trans (hb.mono hb3.size))
 have HB3 := Ja hb3
 have HS9 : Hid (∀ wx, Below x3.heap.size x3 wx → wx.cell? ⟨w.heap.size, 0, none⟩ = some (.slice a0 S.l.length c0) ∧ wx.cell? ⟨w.heap.size, 1, none⟩ = some (.slice a1 S.T.length c1) ∧ wx.cell? ⟨w.heap.size, 2, none⟩ = some (.slice a2 S.L.length c2) ∧ wx.cell? ⟨w.heap.size, 3, none⟩ = some (.slice a3 S.C.length c3) ∧ wx.cell? ⟨w.heap.size + 1, 0, none⟩ = some (int i64 A.r) ∧ wx.cell? ⟨w.heap.size + 1, 1, none⟩ = some (int i64 A.s) ∧ wx.cell? ⟨w.heap.size + 1, 2, none⟩ = some (int i64 A.t) ∧ wx.cell? ⟨w.heap.size + 1, 3, none⟩ = some (.slice aa A.l.length ca) ∧ wx.cell? ⟨w.heap.size + 1, 4, none⟩ = some (int i64 A.k) ∧ wx.cell? ⟨w.heap.size + 1, 5, none⟩ = some (.string A.o) ∧ wx.cell? ⟨w.heap.size + 1, 6, none⟩ = some (.string A.y) ∧ wx.cell? ⟨w.heap.size + 1, 7, none⟩ = some (int i64 A.v) ∧ wx.cell? ⟨w.heap.size + 1, 8, none⟩ = some (int i64 A.x) ∧ wx.cell? ⟨w.heap.size + 1, 9, none⟩ = some (int i64 A.z)) := fun wx hb => ⟨(HR1.out wx (HB3.out.trans (hb.mono HB3.out.size))).cell 0 rfl, (HR1.out wx (HB3.out.trans (hb.mono HB3.out.size))).cell 1 rfl, (HR1.out wx (HB3.out.trans (hb.mono HB3.out.size))).cell 2 rfl, (HR1.out wx (HB3.out.trans (hb.mono HB3.out.size))).cell 3 rfl, (HR2.out wx (HB3.out.trans (hb.mono HB3.out.size))).cell 0 rfl, (HR2.out wx (HB3.out.trans (hb.mono HB3.out.size))).cell 1 rfl, (HR2.out wx (HB3.out.trans (hb.mono HB3.out.size))).cell 2 rfl, (HR2.out wx (HB3.out.trans (hb.mono HB3.out.size))).cell 3 rfl, (HR2.out wx (HB3.out.trans (hb.mono HB3.out.size))).cell 4 rfl, (HR2.out wx (HB3.out.trans (hb.mono HB3.out.size))).cell 5 rfl, (HR2.out wx (HB3.out.trans (hb.mono HB3.out.size))).cell 6 rfl, (HR2.out wx (HB3.out.trans (hb.mono HB3.out.size))).cell 7 rfl, (HR2.out wx (HB3.out.trans (hb.mono HB3.out.size))).cell 8 rfl, (HR2.out wx (HB3.out.trans (hb.mono HB3.out.size))).cell 9 rfl⟩
 have hBc : Below x3.heap.size x3 x3 := Below.refl _ _
 clear hb3 hf HDD
 go_wp2
 replace hBc := hBc.drew
 have hs := Ja (HS9.out _ hBc)
 refine wph HS9 hBc 8 ?_
 generalize x3.drew = wn at *
 refine tQ 0 la0 ?_; refine tQ 1 la1 ?_; refine tQ 3 la3 ?_; refine tQ 4 la4 ?_
 refine wpAnyH_ready (rs := [2, 6]) (by as_aux_lemma => kernel_rfl) (by simp) ?_
 refine AllReadyH.cons (o := la2) rfl (fun K hK => ?_) (AllReadyH.cons (o := la6) rfl (fun K hK => ?_) AllReadyH.nil)
 case' refine_2 =>
  have HG := Ja (Jb wn #[.slice none 0 0, .slice none 0 0, .slice none 0 0, .slice none 0 0] 29 rfl)
  have HGL := Ja hBc.size
  replace hBc := hBc.alloc hBc.size (.cells #[.slice none 0 0, .slice none 0 0, .slice none 0 0, .slice none 0 0] 29)
  replace hs := Ja (HS9.out _ hBc)
  go_simp
  refine hK.out _ _ hs.out (fun hx => ?_)
  clear hx hK K
  try simp only [s1, s2, s3]
  generalize wn.alloc (.cells #[.slice none 0 0, .slice none 0 0, .slice none 0 0, .slice none 0 0] 29) = wq at *
  generalize wn.heap.size = gq at *
  refine rd 2 la2 (fun K hK => ?_)
  go_simp
  refine (HDO.out _).mono ?_
  rintro e wn ⟨rfl, hbn⟩
  replace HG := Ja (HG.out.next hbn)
  replace hBc := nx hBc hbn
  clear hbn
  try go_wp2_with fail
  replace hs := Ja (HS9.out _ hBc)
  refine hK.out _ _ hs.out (fun hx => ?_)
  clear hx hK K
  try simp only [s1, s2, s3]
  refine rd 5 la5 (fun K hK => ?_)
  go_simp
  refine (HDC.out _ hBc).mono ?_
  rintro e wn ⟨v1, v2, v3, rfl, hod, hbn⟩
  obtain ⟨x0, y0, b1, d1, b2, d2, b3, d3, -, rfl, rfl, rfl⟩ := hod.at.shape
  have HOD := Ja hod
  clear hod
  replace HG := Ja (HG.out.next hbn)
  replace hBc := nx hBc hbn
  clear hbn
  try go_wp2_with fail
  replace hs := Ja (HS9.out _ hBc)
  refine hK.out _ _ hs.out (fun hx => ?_)
  clear hx hK K
  try simp only [s1, s2, s3]
 case' refine_1 =>
  go_simp
  refine (HDO.out _).mono ?_
  rintro e wn ⟨rfl, hbn⟩
  replace hBc := nx hBc hbn
  clear hbn
  try go_wp2_with fail
  replace hs := Ja (HS9.out _ hBc)
  refine hK.out _ _ hs.out (fun hx => ?_)
  clear hx hK K
  try simp only [s1, s2, s3]
  refine wpAnyH_ready (rs := [5, 6]) (by as_aux_lemma => kernel_rfl) (by simp) ?_
  refine AllReadyH.cons (o := la5) rfl (fun K hK => ?_) (AllReadyH.cons (o := la6) rfl (fun K hK => ?_) AllReadyH.nil)
  case' refine_2 =>
   have HG := Ja (Jb wn #[.slice none 0 0, .slice none 0 0, .slice none 0 0, .slice none 0 0] 29 rfl)
   have HGL := Ja hBc.size
   replace hBc := hBc.alloc hBc.size (.cells #[.slice none 0 0, .slice none 0 0, .slice none 0 0, .slice none 0 0] 29)
   replace hs := Ja (HS9.out _ hBc)
   go_simp
   refine hK.out _ _ hs.out (fun hx => ?_)
   clear hx hK K
   try simp only [s1, s2, s3]
   generalize wn.alloc (.cells #[.slice none 0 0, .slice none 0 0, .slice none 0 0, .slice none 0 0] 29) = wq at *
   generalize wn.heap.size = gq at *
   refine rd 5 la5 (fun K hK => ?_)
   go_simp
   refine (HDC.out _ hBc).mono ?_
   rintro e wn ⟨v1, v2, v3, rfl, hod, hbn⟩
   obtain ⟨x0, y0, b1, d1, b2, d2, b3, d3, -, rfl, rfl, rfl⟩ := hod.at.shape
   have HOD := Ja hod
   clear hod
   replace HG := Ja (HG.out.next hbn)
   replace hBc := nx hBc hbn
   clear hbn
   try go_wp2_with fail
   replace hs := Ja (HS9.out _ hBc)
   refine hK.out _ _ hs.out (fun hx => ?_)
   clear hx hK K
   try simp only [s1, s2, s3]
  case' refine_1 =>
   go_simp
   refine (HDC.out _ hBc).mono ?_
   rintro e wn ⟨v1, v2, v3, rfl, hod, hbn⟩
   obtain ⟨x0, y0, b1, d1, b2, d2, b3, d3, -, rfl, rfl, rfl⟩ := hod.at.shape
   have HOD := Ja hod
   clear hod
   replace hBc := nx hBc hbn
   clear hbn
   try go_wp2_with fail
   replace hs := Ja (HS9.out _ hBc)
   refine hK.out _ _ hs.out (fun hx => ?_)
   clear hx hK K
   try simp only [s1, s2, s3]
   refine rd 6 la6 (fun K hK => ?_)
   have HG := Ja (Jb wn #[.slice none 0 0, .slice none 0 0, .slice none 0 0, .slice none 0 0] 29 rfl)
   have HGL := Ja hBc.size
   replace HOD := Ja (Own4.next HOD.out ((Below.refl wn.heap.size wn).alloc (Nat.le_refl _) (.cells #[.slice none 0 0, .slice none 0 0, .slice none 0 0, .slice none 0 0] 29)))
   replace hBc := hBc.alloc hBc.size (.cells #[.slice none 0 0, .slice none 0 0, .slice none 0 0, .slice none 0 0] 29)
   replace hs := Ja (HS9.out _ hBc)
   go_simp
   refine hK.out _ _ hs.out (fun hx => ?_)
   clear hx hK K
   try simp only [s1, s2, s3]
   generalize wn.alloc (.cells #[.slice none 0 0, .slice none 0 0, .slice none 0 0, .slice none 0 0] 29) = wq at *
   generalize wn.heap.size = gq at *
 all_goals
  rename World => wz
  have HOF := Ja (OwnS.offRow HOD.out HG.out)
  refine rd 7 la7 (fun K hK => ?_)
  have z0 := HG.out.cell 0 rfl
  have z1 := HG.out.cell 1 rfl
  have z2 := HG.out.cell 2 rfl
  have z3 := HG.out.cell 3 rfl
  have fz0 := HG.out.free 0
  have fz1 := HG.out.free 1
  have fz2 := HG.out.free 2
  have fz3 := HG.out.free 3
  have HBN : Hid (Below x3.heap.size x3 ((((wz.setCell ⟨gq, 0, none⟩ (.slice a0 S.l.length c0)).setCell ⟨gq, 1, none⟩ (.slice b1 (Jl S A).T.length d1)).setCell ⟨gq, 2, none⟩ (.slice b2 (Jl S A).L.length d2)).setCell ⟨gq, 3, none⟩ (.slice b3 (Jl S A).C.length d3))) := JS hBc HGL.out
  have HGN : Hid (Row ((((wz.setCell ⟨gq, 0, none⟩ (.slice a0 S.l.length c0)).setCell ⟨gq, 1, none⟩ (.slice b1 (Jl S A).T.length d1)).setCell ⟨gq, 2, none⟩ (.slice b2 (Jl S A).L.length d2)).setCell ⟨gq, 3, none⟩ (.slice b3 (Jl S A).C.length d3)) gq #[.slice a0 S.l.length c0, .slice b1 (Jl S A).T.length d1, .slice b2 (Jl S A).L.length d2, .slice b3 (Jl S A).C.length d3] 29) := ZK HG.out
  have HON : Hid (OwnS ((((wz.setCell ⟨gq, 0, none⟩ (.slice a0 S.l.length c0)).setCell ⟨gq, 1, none⟩ (.slice b1 (Jl S A).T.length d1)).setCell ⟨gq, 2, none⟩ (.slice b2 (Jl S A).L.length d2)).setCell ⟨gq, 3, none⟩ (.slice b3 (Jl S A).C.length d3)) B (Jl S A) (.slice a0 S.l.length c0) (.slice b1 (Jl S A).T.length d1) (.slice b2 (Jl S A).L.length d2) (.slice b3 (Jl S A).C.length d3)) := OwnS.put4 HOD.out HOF.out
  replace hs := Ja (HS9.out _ HBN.out)
  go_simp
  refine hK.out _ _ hs.out (fun hx => ?_)
  clear hx hK K
  try simp only [s1, s2, s3]
  refine wpd ?_
  have HB4 := Ja (HB3.out.trans (HBN.out.mono HB3.out.size))
  have HGQ : Hid (W.heap.size ≤ gq) := Nat.le_trans HB3.out.size HGL.out
  clear z0 z1 z2 z3 fz0 fz1 fz2 fz3 hs hBc HG HOD HBN HS9 HDO HDC HB3 HGL
  generalize ((((wz.setCell ⟨gq, 0, none⟩ (.slice a0 S.l.length c0)).setCell ⟨gq, 1, none⟩ (.slice b1 (Jl S A).T.length d1)).setCell ⟨gq, 2, none⟩ (.slice b2 (Jl S A).L.length d2)).setCell ⟨gq, 3, none⟩ (.slice b3 (Jl S A).C.length d3)) = wy at *
  obtain ⟨y0, y1, y2, y3⟩ := Row.four HGN.out
  have HHR : Hid (Calls Tryz.prog 73 #[.agg #[.slice a0 S.l.length c0, .slice b1 (Jl S A).T.length d1, .slice b2 (Jl S A).L.length d2, .slice b3 (Jl S A).C.length d3]] wy fun e w' => Tells e ((Jl S A).T.length ≤ 120 ∧ (Jl S A).L.length ≤ 120 ∧ (Jl S A).C.length ≤ 120) ∧ Below wy.heap.size wy w') := (VF _ _ _ _ _ _ _ _ _ _ _ _ wy).mono (fun e w' h => ⟨VH h.1, h.2⟩)
  go_wp2_with fail
  refine HHR.out.mono ?_
  rintro e x5 ⟨⟨q, rfl, hq⟩, hb5⟩
  have hb5W := HB4.out.trans (hb5.mono HB4.out.size)
  clear HHR y0 y1 y2 y3
  cases q with
  | false =>
   have hroom : ¬ ((Jl S A).T.length ≤ 120 ∧ (Jl S A).L.length ≤ 120 ∧ (Jl S A).C.length ≤ 120) := fun h => by have := hq.2 h; cases this
   clear hq
   have HCD : Hid (Jm S A = 4) := by show _ = _; unfold Jm; rw [if_neg (fun h => h ⟨HSO.out, HA.out⟩), if_neg HNK.out, if_neg (by rw [HKT.out]; decide), if_neg (fun h => h HRR.out), if_pos (by unfold Jl at hroom; simp only at hroom; omega)]
   have HNX : Hid (Jc S A = S) := by show _ = _; unfold Jc; rw [if_neg (by rw [HCD.out]; decide)]
   obtain ⟨p0, p1, p2, p3⟩ := Row.four (HR1.out _ hb5W)
   have hr3 := HR3.out _ hb5W
   obtain ⟨z0, z1, z2, z3⟩ := Row.four hr3
   have k0 := hr3.free 0
   have k1 := hr3.free 1
   have k2 := hr3.free 2
   have k3 := hr3.free 3
   have HZY : Hid (Row ((((x5.setCell ⟨w.heap.size + 1 + 1, 0, none⟩ (.slice a0 S.l.length c0)).setCell ⟨w.heap.size + 1 + 1, 1, none⟩ (.slice a1 S.T.length c1)).setCell ⟨w.heap.size + 1 + 1, 2, none⟩ (.slice a2 S.L.length c2)).setCell ⟨w.heap.size + 1 + 1, 3, none⟩ (.slice a3 S.C.length c3)) (w.heap.size + 1 + 1) #[.slice a0 S.l.length c0, .slice a1 S.T.length c1, .slice a2 S.L.length c2, .slice a3 S.C.length c3] 29) := ZK hr3
   have HBY : Hid (Below w.heap.size w ((((x5.setCell ⟨w.heap.size + 1 + 1, 0, none⟩ (.slice a0 S.l.length c0)).setCell ⟨w.heap.size + 1 + 1, 1, none⟩ (.slice a1 S.T.length c1)).setCell ⟨w.heap.size + 1 + 1, 2, none⟩ (.slice a2 S.L.length c2)).setCell ⟨w.heap.size + 1 + 1, 3, none⟩ (.slice a3 S.C.length c3))) := JS (HF.out _ hb5W) (by omega)
   have HOY : Hid (OwnS ((((x5.setCell ⟨w.heap.size + 1 + 1, 0, none⟩ (.slice a0 S.l.length c0)).setCell ⟨w.heap.size + 1 + 1, 1, none⟩ (.slice a1 S.T.length c1)).setCell ⟨w.heap.size + 1 + 1, 2, none⟩ (.slice a2 S.L.length c2)).setCell ⟨w.heap.size + 1 + 1, 3, none⟩ (.slice a3 S.C.length c3)) B (Jc S A) (.slice a0 S.l.length c0) (.slice a1 S.T.length c1) (.slice a2 S.L.length c2) (.slice a3 S.C.length c3)) := by show OwnS _ _ _ _ _ _ _; rw [HNX.out]; exact HO.out _ HBY.out
   clear hr3
   go_wp2
   exact bodyPost_ret (JC rfl rfl rfl rfl HZY.out) rfl ⟨_, _, _, _, by rw [HCD.out]; rfl, HOY.out, HBY.out⟩
  | true =>
   have hroom := hq.1 rfl
   clear hq
   have HCD : Hid (Jm S A = 0) := by show _ = _; unfold Jm; rw [if_neg (fun h => h ⟨HSO.out, HA.out⟩), if_neg HNK.out, if_neg (by rw [HKT.out]; decide), if_neg (fun h => h HRR.out), if_neg (by unfold Jl at hroom; simp only at hroom; omega)]
   have HNX : Hid (Jc S A = ⟨S.l.set A.r.toNat A.s, (Jl S A).T, (Jl S A).L, (Jl S A).C⟩) := by show _ = _; unfold Jc; rw [if_pos HCD.out]; exact JfL S A
   have HG5 := Ja (HGN.out.next hb5)
   have HO5 := Ja (Own4.next HON.out hb5)
   have HB5 := Ja hb5W
   obtain ⟨p0, p1, p2, p3⟩ := Row.four (HR1.out _ hb5W)
   clear hroom hb5 hb5W HGN HON HB4
   go_wp2_with fail
   refine (HCK.out _ HB5.out).mono ?_
   rintro e x6 ⟨q, rfl, hoq, hb6⟩
   clear HCK p0 p1 p2 p3
   have HX5 := Ja HB5.out.size
   have hl3 := HL3.out
   obtain ⟨gk, ck, rfl⟩ : ∃ gk ck, q = .slice (some ⟨gk, 0, none⟩) S.l.length ck := by
    rcases hoq.2 with ⟨-, e⟩ | ⟨g, cap, cur, e, -⟩
    ·omega
    ·exact ⟨g, cap, e⟩
   have hgk := hoq.lt gk rfl
   have hBx : B ≤ x5.heap.size := by have h1 := HBB.out; have h2 := HWS.out; have h3 := HX5.out; omega
   have HO6 : Hid (OwnS x6 B (Jl S A) (.slice (some ⟨gk, 0, none⟩) S.l.length ck) (.slice b1 (Jl S A).T.length d1) (.slice b2 (Jl S A).L.length d2) (.slice b3 (Jl S A).C.length d3)) := OwnS.newK (S := Jl S A) (l := S.l) HO5.out hb6 hBx hoq
   have HG6 := Ja (HG5.out.next hb6)
   have HB6 := Ja (HB5.out.trans (hb6.mono HB5.out.size))
   have hoffg := OwnS.offRow HO6.out HG6.out
   have hne1 : gk ≠ gq := hoffg.1 gk rfl
   obtain ⟨V, hV⟩ : ∃ V, V = x6.setCell ⟨gq, 0, none⟩ (.slice (some ⟨gk, 0, none⟩) S.l.length ck) := ⟨_, rfl⟩
   have HVV : Hid (x6.setCell ⟨gq, 0, none⟩ (.slice (some ⟨gk, 0, none⟩) S.l.length ck) = V) := hV.symm
   have HGV : Hid (Row V gq #[.slice (some ⟨gk, 0, none⟩) S.l.length ck, .slice b1 (Jl S A).T.length d1, .slice b2 (Jl S A).L.length d2, .slice b3 (Jl S A).C.length d3] 29) := by show Row _ _ _ _; rw [hV]; exact HG6.out.setL (l := [_, _, _, _]) 0 _
   have HAV : Hid (Row V (w.heap.size + 1) #[int i64 A.r, int i64 A.s, int i64 A.t, .slice aa A.l.length ca, int i64 A.k, .string A.o, .string A.y, int i64 A.v, int i64 A.x, int i64 A.z] 44) := by show Row _ _ _ _; rw [hV]; exact Ju (HR2.out x6 HB6.out) (by have h1 := HGQ.out; have h2 := HWS.out; omega)
   have HZV : Hid (Row V (w.heap.size + 1 + 1) #[.slice none 0 0, .slice none 0 0, .slice none 0 0, .slice none 0 0] 29) := by show Row _ _ _ _; rw [hV]; exact Ju (HR3.out x6 HB6.out) (by have h1 := HGQ.out; have h2 := HWS.out; omega)
   have HOV : Hid (OwnS V B (Jl S A) (.slice (some ⟨gk, 0, none⟩) S.l.length ck) (.slice b1 (Jl S A).T.length d1) (.slice b2 (Jl S A).L.length d2) (.slice b3 (Jl S A).C.length d3)) := by show OwnS _ _ _ _ _ _ _; rw [hV]; exact OwnS.putN HO6.out hoffg
   have HBV : Hid (Below w.heap.size w V) := by show Below _ _ _; rw [hV]; exact (HF.out x6 HB6.out).setCell (p := ⟨gq, 0, none⟩) (by have h1 := HGQ.out; have h2 := HWS.out; show _ ≤ gq; omega) _
   have hr0 : (0 : Int) ≤ A.r := HA.out.1.1
   have hr3 : A.r < 3 := HA.out.1.2.1
   have hr1 : A.r < (S.l.length : Int) := by omega
   have hrn : A.r.toNat < S.l.length := by omega
   have hkc : V.cell? ⟨gk, A.r.toNat, none⟩ = some (int i64 (S.l[A.r.toNat])) := by
    have := World.ownsRow.cells HOV.out.1.1 (g := gk) rfl A.r.toNat (int i64 (S.l[A.r.toNat])) (by show (Je S.l)[A.r.toNat]? = _; simp [Je, hrn])
    rw [Jw] at this; exact this
   have hkf : V.frozen? ⟨gk, A.r.toNat, none⟩ = false := World.ownsRow.frozenAt HOV.out.1.1 _
   have hgp : w.heap.size + 1 + 1 < gk := by have h2 := HWS.out; have h3 := HX5.out; omega
   obtain ⟨V2, hV2⟩ : ∃ V2, V2 = V.setCell ⟨gk, A.r.toNat, none⟩ (int i64 A.s) := ⟨_, rfl⟩
   have HV2 : Hid (V.setCell ⟨gk, A.r.toNat, none⟩ (int i64 A.s) = V2) := hV2.symm
   have HG2 : Hid (Row V2 gq #[.slice (some ⟨gk, 0, none⟩) S.l.length ck, .slice b1 (Jl S A).T.length d1, .slice b2 (Jl S A).L.length d2, .slice b3 (Jl S A).C.length d3] 29) := by show Row _ _ _ _; rw [hV2]; exact Ju HGV.out (Ne.symm hne1)
   have HZ2 : Hid (Row V2 (w.heap.size + 1 + 1) #[.slice none 0 0, .slice none 0 0, .slice none 0 0, .slice none 0 0] 29) := by show Row _ _ _ _; rw [hV2]; exact Ju HZV.out (by omega)
   have HO2 : Hid (OwnS V2 B ⟨S.l.set A.r.toNat A.s, (Jl S A).T, (Jl S A).L, (Jl S A).C⟩ (.slice (some ⟨gk, 0, none⟩) S.l.length ck) (.slice b1 (Jl S A).T.length d1) (.slice b2 (Jl S A).L.length d2) (.slice b3 (Jl S A).C.length d3)) := by show OwnS _ _ _ _ _ _ _; rw [hV2]; exact OwnS.setKN (S := Jl S A) A.s HOV.out
   have HB2 : Hid (Below w.heap.size w V2) := by show Below _ _ _; rw [hV2]; exact HBV.out.setCell (p := ⟨gk, A.r.toNat, none⟩) (show w.heap.size ≤ gk by omega) _
   have HRFF : Hid (Row ((((V2.setCell ⟨w.heap.size + 1 + 1, 0, none⟩ (.slice (some ⟨gk, 0, none⟩) S.l.length ck)).setCell ⟨w.heap.size + 1 + 1, 1, none⟩ (.slice b1 (Jl S A).T.length d1)).setCell ⟨w.heap.size + 1 + 1, 2, none⟩ (.slice b2 (Jl S A).L.length d2)).setCell ⟨w.heap.size + 1 + 1, 3, none⟩ (.slice b3 (Jl S A).C.length d3)) (w.heap.size + 1 + 1) #[.slice (some ⟨gk, 0, none⟩) S.l.length ck, .slice b1 (Jl S A).T.length d1, .slice b2 (Jl S A).L.length d2, .slice b3 (Jl S A).C.length d3] 29) := ZK HZ2.out
   have HOFF : Hid (OwnS ((((V2.setCell ⟨w.heap.size + 1 + 1, 0, none⟩ (.slice (some ⟨gk, 0, none⟩) S.l.length ck)).setCell ⟨w.heap.size + 1 + 1, 1, none⟩ (.slice b1 (Jl S A).T.length d1)).setCell ⟨w.heap.size + 1 + 1, 2, none⟩ (.slice b2 (Jl S A).L.length d2)).setCell ⟨w.heap.size + 1 + 1, 3, none⟩ (.slice b3 (Jl S A).C.length d3)) B (Jc S A) (.slice (some ⟨gk, 0, none⟩) S.l.length ck) (.slice b1 (Jl S A).T.length d1) (.slice b2 (Jl S A).L.length d2) (.slice b3 (Jl S A).C.length d3)) := by show OwnS _ _ _ _ _ _ _; rw [HNX.out]; exact OwnS.put4 HO2.out (OwnS.offRow HO2.out HZ2.out)
   have HBFF : Hid (Below w.heap.size w ((((V2.setCell ⟨w.heap.size + 1 + 1, 0, none⟩ (.slice (some ⟨gk, 0, none⟩) S.l.length ck)).setCell ⟨w.heap.size + 1 + 1, 1, none⟩ (.slice b1 (Jl S A).T.length d1)).setCell ⟨w.heap.size + 1 + 1, 2, none⟩ (.slice b2 (Jl S A).L.length d2)).setCell ⟨w.heap.size + 1 + 1, 3, none⟩ (.slice b3 (Jl S A).C.length d3))) := JS HB2.out (by omega)
   obtain ⟨y0, y1, y2, y3⟩ := Row.four HG6.out
   have fy0 := HG6.out.free 0
   obtain ⟨m0, m1, m2, m3, m4, m5, m6, m7, m8, m9⟩ := Row.ten (HR2.out _ HB6.out)
   have hz6 := HR3.out x6 HB6.out
   obtain ⟨z0, z1, z2, z3⟩ := Row.four hz6
   have k0 := hz6.free 0
   have k1 := hz6.free 1
   have k2 := hz6.free 2
   have k3 := hz6.free 3
   have h6c : x6.cell? ⟨gk, A.r.toNat, none⟩ = some (int i64 (S.l[A.r.toNat])) := by
    have := World.ownsRow.cells HO6.out.1.1 (g := gk) rfl A.r.toNat (int i64 (S.l[A.r.toNat])) (by show (Je S.l)[A.r.toNat]? = _; simp [Je, hrn])
    rw [Jw] at this; exact this
   have h6f : x6.frozen? ⟨gk, A.r.toNat, none⟩ = false := World.ownsRow.frozenAt HO6.out.1.1 _
   generalize S.l[A.r.toNat] = xr at *
   have hgq := HGQ.out
   have hws := HWS.out
   have i1 : ¬ (gk = gq) := hne1
   have i2 : ¬ (gq = gk) := fun e => hne1 e.symm
   have i3 : ¬ (gk = w.heap.size + 1) := by omega
   have i4 : ¬ (w.heap.size + 1 = gk) := by omega
   have i5 : ¬ (gk = w.heap.size + 1 + 1) := by omega
   have i6 : ¬ (w.heap.size + 1 + 1 = gk) := by omega
   have i7 : ¬ (gq = w.heap.size + 1) := by omega
   have i8 : ¬ (w.heap.size + 1 = gq) := by omega
   have i9 : ¬ (gq = w.heap.size + 1 + 1) := by omega
   have i10 : ¬ (w.heap.size + 1 + 1 = gq) := by omega
   clear hoq hb6 hV HO5 HG5 HB5 HO6 HR1 HR2 HR3 hoffg hV2 HB6 hkc hkf hne1 hgk hgp hgq hws hBx HG6 hz6 hl3
   go_wp2
   rw [HVV.out, HV2.out]
   exact bodyPost_ret (JC rfl rfl rfl rfl HRFF.out) rfl ⟨_, _, _, _, by rw [HCD.out]; rfl, HOFF.out, HBFF.out⟩
def acC (w : World) (g k : Nat) (A : Ac) (u : Value) : Prop := w.cell? ⟨g, k, none⟩ = some (int i64 A.r) ∧ w.cell? ⟨g, k + 1, none⟩ = some (int i64 A.s) ∧ w.cell? ⟨g, k + 2, none⟩ = some (int i64 A.t) ∧ w.cell? ⟨g, k + 3, none⟩ = some u ∧ w.cell? ⟨g, k + 4, none⟩ = some (int i64 A.k) ∧ w.cell? ⟨g, k + 5, none⟩ = some (.string A.o) ∧ w.cell? ⟨g, k + 6, none⟩ = some (.string A.y) ∧ w.cell? ⟨g, k + 7, none⟩ = some (int i64 A.v) ∧ w.cell? ⟨g, k + 8, none⟩ = some (int i64 A.x) ∧ w.cell? ⟨g, k + 9, none⟩ = some (int i64 A.z)
theorem acC.below {w w' : World} {B g k : Nat} {A : Ac} {u : Value} (h : acC w g k A u) (hb : Below B w w') (hg : g < B) : acC w' g k A u := by
 obtain ⟨h0, h1, h2, h3, h4, h5, h6, h7, h8, h9⟩ := h
 exact ⟨(Jn hb hg).trans h0, (Jn hb hg).trans h1, (Jn hb hg).trans h2, (Jn hb hg).trans h3, (Jn hb hg).trans h4, (Jn hb hg).trans h5, (Jn hb hg).trans h6, (Jn hb hg).trans h7, (Jn hb hg).trans h8, (Jn hb hg).trans h9⟩
def AcsG (w : World) (aa : Option Addr) (l : List Ac) : Prop := 0 < l.length → ∃ g off, aa = some ⟨g, off, none⟩ ∧ g < w.heap.size ∧ ∀ j (h : j < l.length), ∃ u, acC w g (off + j * 10) l[j] u ∧ IntsAt w u l[j].l
def AcsAt (w : World) (v : Value) (l : List Ac) : Prop := ∃ (aa : Option Addr) (ca : Nat), v = .slice aa l.length ca ∧ AcsG w aa l
theorem AcsG.below {w w' : World} {aa : Option Addr} {l : List Ac} (hg : AcsG w aa l) (hb : Below w.heap.size w w') : AcsG w' aa l := fun h0 => by
 obtain ⟨g, off, rfl, h1, h2⟩ := hg h0
 exact ⟨g, off, rfl, Nat.lt_of_lt_of_le h1 hb.size, fun j hj => by obtain ⟨u, k1, k2⟩ := h2 j hj; exact ⟨u, k1.below hb h1, k2.below hb⟩⟩
theorem AcsAt.below {w w' : World} {v : Value} {l : List Ac} (h : AcsAt w v l) (hb : Below w.heap.size w w') : AcsAt w' v l := by
 obtain ⟨aa, ca, rfl, hg⟩ := h
 exact ⟨aa, ca, rfl, hg.below hb⟩
def U0 (l : List Ac) : Prop := ∀ A ∈ l, A.l.length ≤ 1048576 ∧ A.o.size ≤ 1048576 ∧ A.y.size ≤ 1048576
theorem Jdt : SOk nSt := by
 refine ⟨⟨rfl, fun x hx => ?_⟩, ⟨by simp [nSt], fun i h => by simp [nSt] at h⟩, ⟨by simp [nSt], fun i h => by simp [nSt] at h⟩, ⟨by simp [nSt], fun i h => by simp [nSt] at h⟩, fun i h => by simp [nSt] at h, fun i h => by simp [nSt] at h⟩
 simp [nSt] at hx
 subst hx; omega
theorem Jae {w : World} {B : Nat} {aa : Option Addr} {ca : Nat} (h : w.ownsRow B 3 1 (.slice aa 3 ca) 3 (Je [0, 0, 0])) : OwnS w B nSt (.slice aa 3 ca) (.slice none 0 0) (.slice none 0 0) (.slice none 0 0) :=
 ⟨⟨h, UX, UX, UX⟩, (fun k _ hk => by cases hk), (fun k _ hk => by cases hk), (fun k _ hk => by cases hk), (fun k _ hk => by cases hk), (fun k _ hk => by cases hk), (fun k _ hk => by cases hk)⟩
noncomputable def J2 (L : List Ac) : Sta × Nat := Ud (L.length + 1) L nSt 0
theorem Uq (S : Sta) (L : List Ac) : unk S L ≤ L.length := List.countP_le_length
def Jbw : Value → Nat
 | .bool true => 1
 | _ => 0
abbrev ys0 : Oper := oq 19 (.load 29 (.tmp 4)) 29 "l07_done.go:146" #[] none
abbrev ys1 : Oper := oq 20 (.move (.tmp 0)) 32 "l07_done.go:146" #[] none
abbrev ys2 : Oper := oq 21 (.move (.tmp 7)) 3 "l07_done.go:146" #[] none
abbrev ys3 : Oper := oq 22 (.indexAddr 32 (.tmp 20) (.tmp 21)) 0 "l07_done.go:146" #[eD 1, eD 2] none
abbrev ys4 : Oper := oq 23 (.load 44 (.tmp 22)) 44 "l07_done.go:146" #[eD 3] none
abbrev ys5 : Oper := oq 24 (.call ⟨.value (.func 17), #[.tmp 19, .tmp 23], #[29, 44]⟩) 30 "l07_done.go:146" #[eD 0, eD 4] none
abbrev ys6 : Oper := oq 18 (.move (.tmp 24)) 30 "l07_done.go:146" #[eD 5] none
abbrev ys7 : Oper := oq 25 (.extract (.tmp 18) 0) 29 "l07_done.go:146" #[eD 6] none
abbrev ys8 : Oper := oq 26 (.extract (.tmp 18) 1) 3 "l07_done.go:146" #[eD 6, { on := 10, ground := .gcOnly .lateStores }] none
abbrev ys9 : Oper := oq 8 (.alloc 29) 0 "l07_done.go:146" #[] none
abbrev JjG : Oper := oz (.store 29 (.tmp 8) (.tmp 25)) 0 "l07_done.go:146" #[eD 9, eD 7, eC 5, eP 0, eP 1, eP 2, eP 3, eP 4, eP 5, eP 6, eP 7, { on := 8, ground := .textOnly .lateStores }, eP 9] none
abbrev JiV : Oper := oq 9 (.assign (.tmp 26)) 3 "l07_done.go:146" #[eD 8, eC 10, eP 0, eP 1, eP 2, eP 3, eP 4, eP 5, eP 6, eP 7, eP 8, eP 9, eP 10] none
theorem VT (L : List Ac) (i : Nat) (h : i < L.length) (p : Pas) : (L.take (i + 1)).foldl Jp p = Jp ((L.take i).foldl Jp p) L[i] := by
 rw [List.take_succ_eq_append_getElem h, List.foldl_append]; rfl
theorem Gy (L : List Ac) (v : Value) (w : World) (hn : L.length ≤ 1048576) (hal : U0 L) (h : AcsAt w v L) :
  Calls Tryz.prog 6 #[v] w fun e w' => ∃ v0 v1 v2 v3, e = .returned (.tuple #[.agg #[v0, v1, v2, v3], int i64 (J2 L).2]) ∧ StAt w' (J2 L).1 v0 v1 v2 v3 ∧ SOk (J2 L).1 ∧ (J2 L).2 ≤ L.length ∧ Below w.heap.size w w' := by
 obtain ⟨aa, ca, rfl, hga⟩ := h
 have HGA : Hid (∀ wx, Below w.heap.size w wx → AcsG wx aa L) := fun wx hx => hga.below hx
 have HAL := Ja hal
 obtain ⟨N, hN⟩ : ∃ N, N = L.length := ⟨_, rfl⟩
 obtain ⟨FIN, hFIN⟩ : ∃ FIN, FIN = J2 L := ⟨_, rfl⟩
 have HNN : Hid (N = L.length) := hN
 have HFI : Hid (unk nSt L < L.length + 1 ∧ FIN = Ud (L.length + 1) L nSt 0) := ⟨by have := Uq nSt L; omega, hFIN⟩
 obtain ⟨W, hW⟩ : ∃ W, W = w.alloc (.cells #[.slice none 0 0, .slice none 0 0, .slice none 0 0, .slice none 0 0] 29) := ⟨_, rfl⟩
 have HBW : Hid (Below w.heap.size w W) := by rw [hW]; exact (Below.refl _ _).alloc (Nat.le_refl _) _
 have HR2 : Hid (Row W w.heap.size #[.slice none 0 0, .slice none 0 0, .slice none 0 0, .slice none 0 0] 29) := by show Row _ _ _ _; rw [hW]; exact Jb w _ _ rfl
 have HWS : Hid (W.heap.size = w.heap.size + 1) := by show _ = _; rw [hW]; simp
 have HWW : Hid (w.alloc (.cells #[.slice none 0 0, .slice none 0 0, .slice none 0 0, .slice none 0 0] 29) = W) := hW.symm
 rw [← hFIN, ← hN]
 rw [← hN] at hn
 clear hW hN hFIN hga hal
 go_enter Tryz.func6, Tryz.ntmps6
 go_wp2_with fail
 rw [HWW.out]
 clear HWW
 refine (KO W).mono ?_
 rintro e w1 ⟨ba, bc, rfl, hr, hb⟩
 have HB1 := Ja (HBW.out.trans (hb.mono HBW.out.size))
 have HP2 := Ja (HR2.out.next hb)
 have HS1 := Ja hb.size
 have HO1 := Ja (Jae (hr.1))
 clear hr hb HR2
 obtain ⟨V, hV⟩ : ∃ V, V = w1.alloc (.cells #[.slice ba 3 bc, .slice none 0 0, .slice none 0 0, .slice none 0 0] 29) := ⟨_, rfl⟩
 have HVV : Hid (w1.alloc (.cells #[.slice ba 3 bc, .slice none 0 0, .slice none 0 0, .slice none 0 0] 29) = V) := hV.symm
 have HQV : Hid (Row V w1.heap.size #[.slice ba 3 bc, .slice none 0 0, .slice none 0 0, .slice none 0 0] 29) := by show Row _ _ _ _; rw [hV]; exact Jb _ _ _ rfl
 have HPV : Hid (Row V w.heap.size #[.slice none 0 0, .slice none 0 0, .slice none 0 0, .slice none 0 0] 29) := by show Row _ _ _ _; rw [hV]; exact HP2.out.alloc _
 have HBV : Hid (Below w.heap.size w V) := by show Below _ _ _; rw [hV]; exact HB1.out.alloc HB1.out.size _
 have HOV : Hid (OwnS V w.heap.size nSt (.slice ba 3 bc) (.slice none 0 0) (.slice none 0 0) (.slice none 0 0)) := by show OwnS _ _ _ _ _ _ _; rw [hV]; exact Own4.base (Own4.next HO1.out ((Below.refl _ _).alloc (Nat.le_refl _) _)) HBW.out.size
 have hne : w.heap.size < w1.heap.size := by have h1 := HWS.out; have h2 := HS1.out; omega
 clear hV HP2 HO1 HB1 HS1
 have HNE : Hid (w.heap.size < w1.heap.size) := hne
 clear hne
 go_wp2
 rw [HVV.out]
 clear HVV
 generalize w1.heap.size = q4 at *
 go_loopw [5, 6] (fun x z wr => ∃ (S : Sta) (nn : Nat) (bb : Bool) (f : Nat) (b0 b1 b2 b3 : Option Addr) (d0 d1 d2 d3 : Nat), x = int i64 nn ∧ z = .bool bb ∧ SOk S ∧ Row wr q4 #[.slice b0 S.l.length d0, .slice b1 S.T.length d1, .slice b2 S.L.length d2, .slice b3 S.C.length d3] 29 ∧ Row wr w.heap.size #[.slice none 0 0, .slice none 0 0, .slice none 0 0, .slice none 0 0] 29 ∧ OwnS wr w.heap.size S (.slice b0 S.l.length d0) (.slice b1 S.T.length d1) (.slice b2 S.L.length d2) (.slice b3 S.C.length d3) ∧ nn + unk S L ≤ N ∧ (bb = true → unk S L < f ∧ FIN = Ud f L S nn) ∧ (bb = false → FIN = (S, nn)) ∧ Below w.heap.size w wr) (fun x z _ => 2 * (N - (intOf x).toNat) + Jbw z)
 case atStart => exact ⟨nSt, 0, true, L.length + 1, ba, none, none, none, bc, 0, 0, 0, rfl, rfl, Jdt, HQV.out, HPV.out, HOV.out, by have h1 := Uq nSt L; have h2 := HNN.out; omega, fun _ => HFI.out, (fun e => by cases e), HBV.out⟩
 case round =>
  clear HQV HPV HOV HBV HFI
  obtain ⟨S, nn, bb, f, b0, b1, b2, b3, d0, d1, d2, d3, rfl, rfl, hS, hq, hp, hO, hu, ht, hf, hbel⟩ := hrel
  have HS := Ja hS
  have HQ := Ja hq
  have HP := Ja hp
  have HO := Ja hO
  have HT := Ja ht
  have HF := Ja hf
  have HBE := Ja hbel
  clear hS hq hp hO ht hf hbel
  cases bb with
  | false =>
   have HE := Ja (HF.out rfl)
   obtain ⟨e0, e1, e2, e3⟩ := Row.four HQ.out
   obtain ⟨z0, z1, z2, z3⟩ := Row.four HP.out
   have k0 := HP.out.free 0
   have k1 := HP.out.free 1
   have k2 := HP.out.free 2
   have k3 := HP.out.free 3
   have HZY := Ja (ZK (x0 := .slice b0 S.l.length d0) (x1 := .slice b1 S.T.length d1) (x2 := .slice b2 S.L.length d2) (x3 := .slice b3 S.C.length d3) HP.out)
   have HOF := Ja (OwnS.put4 (i0 := 0) (i1 := 1) (i2 := 2) (i3 := 3) (x0 := .slice b0 S.l.length d0) (x1 := .slice b1 S.T.length d1) (x2 := .slice b2 S.L.length d2) (x3 := .slice b3 S.C.length d3) HO.out (OwnS.offRow HO.out HP.out))
   have HBF := Ja (JS (i0 := 0) (i1 := 1) (i2 := 2) (i3 := 3) (x0 := .slice b0 S.l.length d0) (x1 := .slice b1 S.T.length d1) (x2 := .slice b2 S.L.length d2) (x3 := .slice b3 S.C.length d3) HBE.out (Nat.le_refl w.heap.size))
   clear HT HF HO HQ HP HBE
   go_wp2
   exact bodyPost_ret (JC rfl rfl rfl rfl HZY.out) rfl ⟨_, _, _, _, by rw [HE.out]; rfl, by rw [HE.out]; exact HOF.out.at, by rw [HE.out]; exact HS.out, by rw [HE.out]; show nn ≤ _; omega, HBF.out⟩
  | true =>
   have HR := Ja (HT.out rfl)
   clear HT HF
   obtain ⟨P0, hP0⟩ : ∃ P0 : Pas, P0 = ⟨S, nn, false⟩ := ⟨_, rfl⟩
   have HP0 := Ja hP0
   go_wp2
   go_loopw [5, 6, 7] (fun x z y wr => ∃ (i : Nat) (p : Pas) (b0 b1 b2 b3 : Option Addr) (d0 d1 d2 d3 : Nat), i ≤ N ∧ y = int i64 i ∧ x = int i64 p.n ∧ z = .bool p.b ∧ p = (L.take i).foldl Jp P0 ∧ Row wr q4 #[.slice b0 p.S.l.length d0, .slice b1 p.S.T.length d1, .slice b2 p.S.L.length d2, .slice b3 p.S.C.length d3] 29 ∧ Row wr w.heap.size #[.slice none 0 0, .slice none 0 0, .slice none 0 0, .slice none 0 0] 29 ∧ OwnS wr w.heap.size p.S (.slice b0 p.S.l.length d0) (.slice b1 p.S.T.length d1) (.slice b2 p.S.L.length d2) (.slice b3 p.S.C.length d3) ∧ Below w.heap.size w wr) (fun _ _ y _ => N - (intOf y).toNat)
   case atStart => exact ⟨0, P0, b0, b1, b2, b3, d0, d1, d2, d3, Nat.zero_le _, rfl, by rw [HP0.out], by rw [HP0.out], rfl, by rw [HP0.out]; exact HQ.out, HP.out, by rw [HP0.out]; exact HO.out, HBE.out⟩
   case round =>
    clear HQ HP HO HBE
    obtain ⟨i, p, b0, b1, b2, b3, d0, d1, d2, d3, hi, rfl, rfl, rfl, hpf, hq, hp, hO, hbel⟩ := hrel
    have HPF := Ja hpf
    have HQ := Ja hq
    have HP := Ja hp
    have HO := Ja hO
    have HBE := Ja hbel
    have hsz := hbel.size
    have hfo := YO L (L.take i) P0 (fun A hA => List.mem_of_mem_take hA) (by rw [hP0]; exact HS.out)
    rw [← hpf] at hfo
    have HFO := Ja hfo
    have hp0n : P0.n = nn := by rw [hP0]
    have hp0S : P0.S = S := by rw [hP0]
    have hpn : p.n ≤ N := by have h1 := hfo.2.1; rw [hp0n, hp0S] at h1; omega
    clear hpf hq hp hO hbel hfo hp0n hp0S
    by_cases hlt : i < N
    case neg =>
     have hiN : L.take i = L := List.take_of_length_le (by have := HNN.out; omega)
     have hk1 : ¬ ((i : Int) < N) := by omega
     have HFL : Hid (p = L.foldl Jp ⟨S, nn, false⟩) := by have h1 := HPF.out; rw [hiN, HP0.out] at h1; exact h1
     have HRN : Hid ((p.b = true → unk p.S L < f - 1 ∧ FIN = Ud (f - 1) L p.S p.n) ∧ (p.b = false → FIN = (p.S, p.n))) := by
      obtain ⟨h1, h2⟩ := HR.out
      obtain ⟨f', rfl⟩ : ∃ f', f = f' + 1 := ⟨f - 1, by omega⟩
      have e : FIN = if p.b = true then Ud f' L p.S p.n else (p.S, p.n) := by rw [h2, Ud, ← HFL.out]
      have hn2 : p.b = true → nn < p.n := fun hb => by
       rcases HFO.out.2.2.2.1 hb with h | h
       ·rw [HP0.out] at h; cases h
       ·rw [HP0.out] at h; exact h
      have hu2 : p.n + unk p.S L ≤ nn + unk S L := by have h3 := HFO.out.2.1; rw [HP0.out] at h3; exact h3
      refine ⟨fun hb => ⟨?_, ?_⟩, fun hb => ?_⟩
      ·have := hn2 hb; show _ < f'; omega
      ·rw [e, if_pos hb]; rfl
      ·rw [e, if_neg (by rw [hb]; decide)]
     have HUU : Hid (p.n + unk p.S L ≤ N) := by show _ ≤ _; have h3 := HFO.out.2.1; rw [HP0.out] at h3; exact Nat.le_trans h3 hu
     have HME : Hid (2 * (N - p.n) + Jbw (.bool p.b) < 2 * (N - nn) + 1) := by
      show _ < _
      have h3 := HFO.out.2.2.1
      rw [HP0.out] at h3
      have h3' : nn ≤ p.n := h3
      cases hb : p.b with
      | true =>
       rcases HFO.out.2.2.2.1 hb with h | h
       ·rw [HP0.out] at h; cases h
       ·rw [HP0.out] at h
        have h4 : nn < p.n := h
        show 2 * (N - p.n) + 1 < _
        omega
      | false => show 2 * (N - p.n) + 0 < _; omega
     have HSP := Ja HFO.out.1
     clear HFO HPF HR hP0 HP0
     go_wp2
     go_roundw
     case rel => exact ⟨p.S, p.n, p.b, f - 1, b0, b1, b2, b3, d0, d1, d2, d3, rfl, rfl, HSP.out, HQ.out, HP.out, HO.out, HUU.out, HRN.out.1, HRN.out.2, HBE.out⟩
     case measure => exact HME.out

    case pos =>
     have hk1 : ((i : Int) < N) := by omega
     have hkL : i < L.length := by have := HNN.out; omega
     obtain ⟨A, hA⟩ : ∃ A, A = L[i] := ⟨_, rfl⟩
     obtain ⟨ga, off, rfl, hgl, hAc⟩ := HGA.out w (Below.refl _ _) (Nat.lt_of_le_of_lt (Nat.zero_le _) hkL)
     obtain ⟨u, hc, hu0⟩ := hAc i hkL
     rw [← hA] at hc hu0
     have HAC : Hid (∀ wx, Below w.heap.size w wx → acC wx ga (off + i * 10) A u ∧ IntsAt wx u A.l) := fun wx hb => ⟨hc.below hb hgl, hu0.below hb⟩
     have HLM := Ja (HAL.out A (by rw [hA]; exact List.getElem_mem _))
     have HSTEP : Hid ((L.take (i + 1)).foldl Jp P0 = Jp p A) := by show _ = _; rw [VT L i hkL, ← HPF.out, hA]
     have HSP := Ja HFO.out.1
     have HDC : Hid (∀ wx, Below wr.heap.size wr wx → Calls Tryz.prog 17 #[.agg #[.slice b0 p.S.l.length d0, .slice b1 p.S.T.length d1, .slice b2 p.S.L.length d2, .slice b3 p.S.C.length d3], .agg #[int i64 A.r, int i64 A.s, int i64 A.t, u, int i64 A.k, .string A.o, .string A.y, int i64 A.v, int i64 A.x, int i64 A.z]] wx fun e w' => ∃ v0 v1 v2 v3, e = .returned (.tuple #[.agg #[v0, v1, v2, v3], int i64 (Jm p.S A)]) ∧ OwnS w' wx.heap.size (Jc p.S A) v0 v1 v2 v3 ∧ Below wx.heap.size wx w') := fun wx hb => Uk p.S _ _ _ _ A u wx HSP.out.small HSP.out.named (show OwnS wx w.heap.size p.S _ _ _ _ from Own4.next HO.out hb).at HLM.out (HAC.out wx (HBE.out.trans (hb.mono HBE.out.size))).2
     have HS9 : Hid (∀ wx, Below wr.heap.size wr wx → wx.cell? ⟨q4, 0, none⟩ = some (.slice b0 p.S.l.length d0) ∧ wx.cell? ⟨q4, 1, none⟩ = some (.slice b1 p.S.T.length d1) ∧ wx.cell? ⟨q4, 2, none⟩ = some (.slice b2 p.S.L.length d2) ∧ wx.cell? ⟨q4, 3, none⟩ = some (.slice b3 p.S.C.length d3) ∧ wx.cell? ⟨ga, off + i * 10, none⟩ = some (int i64 A.r) ∧ wx.cell? ⟨ga, off + i * 10 + 1, none⟩ = some (int i64 A.s) ∧ wx.cell? ⟨ga, off + i * 10 + 2, none⟩ = some (int i64 A.t) ∧ wx.cell? ⟨ga, off + i * 10 + 3, none⟩ = some (u) ∧ wx.cell? ⟨ga, off + i * 10 + 4, none⟩ = some (int i64 A.k) ∧ wx.cell? ⟨ga, off + i * 10 + 5, none⟩ = some (.string A.o) ∧ wx.cell? ⟨ga, off + i * 10 + 6, none⟩ = some (.string A.y) ∧ wx.cell? ⟨ga, off + i * 10 + 7, none⟩ = some (int i64 A.v) ∧ wx.cell? ⟨ga, off + i * 10 + 8, none⟩ = some (int i64 A.x) ∧ wx.cell? ⟨ga, off + i * 10 + 9, none⟩ = some (int i64 A.z)) := fun wx hb => by
      have hr := HQ.out.next hb
      obtain ⟨c0, c1, c2, c3, c4, c5, c6, c7, c8, c9⟩ := (HAC.out wx (HBE.out.trans (hb.mono HBE.out.size))).1
      exact ⟨hr.cell 0 rfl, hr.cell 1 rfl, hr.cell 2 rfl, hr.cell 3 rfl, c0, c1, c2, c3, c4, c5, c6, c7, c8, c9⟩
     have hBc : Below wr.heap.size wr wr := Below.refl _ _
     clear hc hu0 hAc hgl HAC HLM hA HPF
     go_wp2
     replace hBc := hBc.drew
     have hs := Ja (HS9.out _ hBc)
     refine wph HS9 hBc 12 ?_
     generalize wr.drew = wn at *
     refine tQ 0 ys0 ?_; refine tQ 1 ys1 ?_; refine tQ 2 ys2 ?_; refine tQ 3 ys3 ?_; refine tQ 4 ys4 ?_
     refine wpAnyH_ready (rs := [5, 9]) (by as_aux_lemma => kernel_rfl) (by simp) ?_
     refine AllReadyH.cons (o := ys5) rfl (fun K hK => ?_) (AllReadyH.cons (o := ys9) rfl (fun K hK => ?_) AllReadyH.nil)
     case' refine_2 =>
      have HG := Ja (Jb wn #[.slice none 0 0, .slice none 0 0, .slice none 0 0, .slice none 0 0] 29 rfl)
      have HGL := Ja hBc.size
      replace hBc := hBc.alloc hBc.size (.cells #[.slice none 0 0, .slice none 0 0, .slice none 0 0, .slice none 0 0] 29)
      replace hs := Ja (HS9.out _ hBc)
      go_simp
      refine hK.out _ _ hs.out (fun hx => ?_)
      clear hx hK K
      try simp only [s1, s2, s3]
      generalize wn.alloc (.cells #[.slice none 0 0, .slice none 0 0, .slice none 0 0, .slice none 0 0] 29) = wq at *
      generalize wn.heap.size = gq at *
      refine rd 5 ys5 (fun K hK => ?_)
      go_simp
      refine (HDC.out _ hBc).mono ?_
      rintro e wn ⟨v0, v1, v2, v3, rfl, hod, hbn⟩
      obtain ⟨b4, d4, b5, d5, b6, d6, b7, d7, rfl, rfl, rfl, rfl⟩ := hod.at.shape
      have HOD := Ja (Own4.base hod hBc.size)
      clear hod
      replace HG := Ja (HG.out.next hbn)
      replace hBc := nx hBc hbn
      clear hbn
      try go_wp2_with fail
      replace hs := Ja (HS9.out _ hBc)
      refine hK.out _ _ hs.out (fun hx => ?_)
      clear hx hK K
      try simp only [s1, s2, s3]
      refine tQ 6 ys6 ?_; refine tQ 7 ys7 ?_; refine tQ 8 ys8 ?_
     case' refine_1 =>
      go_simp
      refine (HDC.out _ hBc).mono ?_
      rintro e wn ⟨v0, v1, v2, v3, rfl, hod, hbn⟩
      obtain ⟨b4, d4, b5, d5, b6, d6, b7, d7, rfl, rfl, rfl, rfl⟩ := hod.at.shape
      have HOD := Ja (Own4.base hod hBc.size)
      clear hod
      replace hBc := nx hBc hbn
      clear hbn
      try go_wp2_with fail
      replace hs := Ja (HS9.out _ hBc)
      refine hK.out _ _ hs.out (fun hx => ?_)
      clear hx hK K
      try simp only [s1, s2, s3]
      refine tQ 6 ys6 ?_; refine tQ 7 ys7 ?_; refine tQ 8 ys8 ?_
      refine rd 9 ys9 (fun K hK => ?_)
      have HG := Ja (Jb wn #[.slice none 0 0, .slice none 0 0, .slice none 0 0, .slice none 0 0] 29 rfl)
      have HGL := Ja hBc.size
      replace HOD := Ja (Own4.next HOD.out ((Below.refl wn.heap.size wn).alloc (Nat.le_refl _) (.cells #[.slice none 0 0, .slice none 0 0, .slice none 0 0, .slice none 0 0] 29)))
      replace hBc := hBc.alloc hBc.size (.cells #[.slice none 0 0, .slice none 0 0, .slice none 0 0, .slice none 0 0] 29)
      replace hs := Ja (HS9.out _ hBc)
      go_simp
      refine hK.out _ _ hs.out (fun hx => ?_)
      clear hx hK K
      try simp only [s1, s2, s3]
      generalize wn.alloc (.cells #[.slice none 0 0, .slice none 0 0, .slice none 0 0, .slice none 0 0] 29) = wq at *
      generalize wn.heap.size = gq at *
     all_goals
      rename World => wz
      have HOF := Ja (OwnS.offRow HOD.out HG.out)
      refine rd 10 JjG (fun K hK => ?_)
      have z0 := HG.out.cell 0 rfl
      have z1 := HG.out.cell 1 rfl
      have z2 := HG.out.cell 2 rfl
      have z3 := HG.out.cell 3 rfl
      have fz0 := HG.out.free 0
      have fz1 := HG.out.free 1
      have fz2 := HG.out.free 2
      have fz3 := HG.out.free 3
      have HBN : Hid (Below wr.heap.size wr ((((wz.setCell ⟨gq, 0, none⟩ (.slice b4 (Jc p.S A).l.length d4)).setCell ⟨gq, 1, none⟩ (.slice b5 (Jc p.S A).T.length d5)).setCell ⟨gq, 2, none⟩ (.slice b6 (Jc p.S A).L.length d6)).setCell ⟨gq, 3, none⟩ (.slice b7 (Jc p.S A).C.length d7))) := JS hBc HGL.out
      have HGN : Hid (Row ((((wz.setCell ⟨gq, 0, none⟩ (.slice b4 (Jc p.S A).l.length d4)).setCell ⟨gq, 1, none⟩ (.slice b5 (Jc p.S A).T.length d5)).setCell ⟨gq, 2, none⟩ (.slice b6 (Jc p.S A).L.length d6)).setCell ⟨gq, 3, none⟩ (.slice b7 (Jc p.S A).C.length d7)) gq #[.slice b4 (Jc p.S A).l.length d4, .slice b5 (Jc p.S A).T.length d5, .slice b6 (Jc p.S A).L.length d6, .slice b7 (Jc p.S A).C.length d7] 29) := ZK HG.out
      have HON : Hid (OwnS ((((wz.setCell ⟨gq, 0, none⟩ (.slice b4 (Jc p.S A).l.length d4)).setCell ⟨gq, 1, none⟩ (.slice b5 (Jc p.S A).T.length d5)).setCell ⟨gq, 2, none⟩ (.slice b6 (Jc p.S A).L.length d6)).setCell ⟨gq, 3, none⟩ (.slice b7 (Jc p.S A).C.length d7)) wr.heap.size (Jc p.S A) (.slice b4 (Jc p.S A).l.length d4) (.slice b5 (Jc p.S A).T.length d5) (.slice b6 (Jc p.S A).L.length d6) (.slice b7 (Jc p.S A).C.length d7)) := OwnS.put4 HOD.out HOF.out
      replace hs := Ja (HS9.out _ HBN.out)
      go_simp
      refine hK.out _ _ hs.out (fun hx => ?_)
      clear hx hK K
      try simp only [s1, s2, s3]
      refine tQ 11 JiV ?_
      refine wpd ?_
      have HBW2 := Ja (HBE.out.trans (HBN.out.mono HBE.out.size))
      have HON2 := Ja (Own4.base HON.out HBE.out.size)
      have HQ2 := Ja (HQ.out.next HBN.out)
      have HP2 := Ja (HP.out.next HBN.out)
      have HO2 := Ja (Own4.next HO.out HBN.out)
      have HNG : Hid (q4 ≠ gq) := by have h1 := HQ.out.lt; have h2 := HGL.out; show _ ≠ _; omega
      clear z0 z1 z2 z3 fz0 fz1 fz2 fz3 hs hBc HG HOD HBN HON HS9 HDC HGL HOF HQ HP HO HBE
      generalize ((((wz.setCell ⟨gq, 0, none⟩ (.slice b4 (Jc p.S A).l.length d4)).setCell ⟨gq, 1, none⟩ (.slice b5 (Jc p.S A).T.length d5)).setCell ⟨gq, 2, none⟩ (.slice b6 (Jc p.S A).L.length d6)).setCell ⟨gq, 3, none⟩ (.slice b7 (Jc p.S A).C.length d7)) = wy at *
      obtain ⟨y0, y1, y2, y3⟩ := Row.four HGN.out
      obtain ⟨C, hC⟩ : ∃ C, C = Jm p.S A := ⟨_, rfl⟩
      have HC := Ja hC
      rw [← hC]
      clear hC
      by_cases h0 : C = 0
      case pos =>
       have bC : (C == 0) = true := by simp [h0]
       have HC0 : Hid (Jm p.S A = 0) := HC.out.symm.trans h0
       clear h0
       obtain ⟨e0, e1, e2, e3⟩ := Row.four HQ2.out
       have k0 := HQ2.out.free 0
       have k1 := HQ2.out.free 1
       have k2 := HQ2.out.free 2
       have k3 := HQ2.out.free 3
       obtain ⟨YY, hYY⟩ : ∃ YY, YY = ((((wy.setCell ⟨q4, 0, none⟩ (.slice b4 (Jc p.S A).l.length d4)).setCell ⟨q4, 1, none⟩ (.slice b5 (Jc p.S A).T.length d5)).setCell ⟨q4, 2, none⟩ (.slice b6 (Jc p.S A).L.length d6)).setCell ⟨q4, 3, none⟩ (.slice b7 (Jc p.S A).C.length d7)) := ⟨_, rfl⟩
       have HYY : Hid (((((wy.setCell ⟨q4, 0, none⟩ (.slice b4 (Jc p.S A).l.length d4)).setCell ⟨q4, 1, none⟩ (.slice b5 (Jc p.S A).T.length d5)).setCell ⟨q4, 2, none⟩ (.slice b6 (Jc p.S A).L.length d6)).setCell ⟨q4, 3, none⟩ (.slice b7 (Jc p.S A).C.length d7)) = YY) := hYY.symm
       have HQ3 : Hid (Row YY q4 #[.slice b4 (Jc p.S A).l.length d4, .slice b5 (Jc p.S A).T.length d5, .slice b6 (Jc p.S A).L.length d6, .slice b7 (Jc p.S A).C.length d7] 29) := by show Row _ _ _ _; rw [hYY]; exact ZK HQ2.out
       have HP3 : Hid (Row YY w.heap.size #[.slice none 0 0, .slice none 0 0, .slice none 0 0, .slice none 0 0] 29) := by show Row _ _ _ _; rw [hYY]; exact Ju (Ju (Ju (Ju HP2.out (Nat.ne_of_lt HNE.out)) (Nat.ne_of_lt HNE.out)) (Nat.ne_of_lt HNE.out)) (Nat.ne_of_lt HNE.out)
       have HO3 : Hid (OwnS YY w.heap.size (Jc p.S A) (.slice b4 (Jc p.S A).l.length d4) (.slice b5 (Jc p.S A).T.length d5) (.slice b6 (Jc p.S A).L.length d6) (.slice b7 (Jc p.S A).C.length d7)) := by show OwnS _ _ _ _ _ _ _; rw [hYY]; exact OwnS.put4 HON2.out (OwnS.offRow HON2.out HQ2.out)
       have HB3 : Hid (Below w.heap.size w YY) := by show Below _ _ _; rw [hYY]; exact JS HBW2.out (Nat.le_of_lt HNE.out)
       have HST : Hid (Jp p A = ⟨Jc p.S A, p.n + 1, true⟩) := by show _ = _; unfold Jp; rw [if_pos HC0.out, if_pos HC0.out]
       clear hYY HON2 HQ2 HP2 HO2 HBW2 HC HC0
       go_wp2
       rw [HYY.out]
       go_roundw
       case rel => exact ⟨i + 1, Jp p A, b4, b5, b6, b7, d4, d5, d6, d7, by omega, by go_num, by rw [HST.out]; go_num, by rw [HST.out], HSTEP.out.symm, by rw [HST.out]; exact HQ3.out, HP3.out, by rw [HST.out]; exact HO3.out, HB3.out⟩
       case measure => simp [intOf]; omega
      case neg =>
       have bC : (C == 0) = false := by simp [h0]
       have HC0 : Hid (¬ Jm p.S A = 0) := fun h => h0 (HC.out.trans h)
       clear h0
       have HST : Hid (Jp p A = p) := by show _ = _; unfold Jp; rw [if_neg HC0.out, if_neg HC0.out, ZE HC0.out]
       clear HC HC0
       go_wp2
       go_roundw
       case rel => exact ⟨i + 1, Jp p A, b0, b1, b2, b3, d0, d1, d2, d3, by omega, by go_num, by rw [HST.out], by rw [HST.out], HSTEP.out.symm, by rw [HST.out]; exact HQ2.out, HP2.out, by rw [HST.out]; exact HO2.out, HBW2.out⟩
       case measure => simp [intOf]; omega
end Go.Proofs.YtepfinenocpneaaGreat
