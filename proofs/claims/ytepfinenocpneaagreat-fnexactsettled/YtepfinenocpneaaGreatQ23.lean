/- Whether what an act is about is there, as the specification . -/
import Derived.Test.YtepfinenocpneaaGreatQ22
set_option maxHeartbeats 16000000
namespace Go.Proofs.YtepfinenocpneaaGreat
open Value (int)
open IntKind (i64)
set_option maxRecDepth 100000
set_option linter.unusedVariables false
open Go.RowKit
def Jt (S : Sta) (A : Ac) : Prop := (A.k ≠ 7 ∧ (A.k ≠ 6 ∨ (A.x = 0 ∧ A.z = 0))) ∨ ∃ k, ∃ h : k < S.C.length, cellAt S.C A.x A.z 0 = (k : Int) ∧ S.C[k].o = A.o ∧ (A.k = 7 ∨ S.C[k].t < A.t)
abbrev JbP : Oper := oq 24 (.move (.tmp 5)) 3 "l07_done.go:82" #[] none
abbrev Jcl : Oper := oq 25 (.binOp .geq 3 (.tmp 24) (.const (int i64 0)) 3) 4 "l07_done.go:82" #[eD 0] none
abbrev JbL : Oper := oq 26 (.move (.tmp 25)) 4 "l07_done.go:82" #[eD 1] none
abbrev JbQ : Oper := oq 27 (.fieldAddr 29 (.tmp 2) 3) 0 "l07_done.go:82" #[eG 2] (some (2, true))
abbrev Jb0 : Oper := oq 28 (.load 27 (.tmp 27)) 27 "l07_done.go:82" #[eD 3, eG 2] (some (2, true))
abbrev Jcb : Oper := oq 29 (.move (.tmp 5)) 3 "l07_done.go:82" #[eG 2] (some (2, true))
abbrev Jct : Oper := oq 30 (.indexAddr 27 (.tmp 28) (.tmp 29)) 0 "l07_done.go:82" #[eD 4, eD 5, eG 2] (some (2, true))
abbrev Jce : Oper := oq 31 (.fieldAddr 90 (.tmp 30) 0) 0 "l07_done.go:82" #[eD 6, eG 2] (some (2, true))
abbrev Jcs : Oper := oq 32 (.load 9 (.tmp 31)) 9 "l07_done.go:82" #[eD 7, eG 2] (some (2, true))
abbrev JbR : Oper := oq 33 (.fieldAddr 44 (.tmp 3) 4) 0 "l07_done.go:82" #[eG 2] (some (2, true))
abbrev Yf : Oper := oq 34 (.load 9 (.tmp 33)) 9 "l07_done.go:82" #[eD 9, eG 2] (some (2, true))
abbrev Yr : Oper := oq 35 (.binOp .eql 9 (.tmp 32) (.tmp 34) 9) 4 "l07_done.go:82" #[eD 8, eD 10, eG 2] (some (2, true))
abbrev V4 : Oper := oq 36 (.pick (.tmp 26) (.tmp 35) (.const (.bool false))) 4 "l07_done.go:82" #[eD 2, eD 11] none
abbrev Yt : Oper := oq 37 (.move (.tmp 36)) 4 "l07_done.go:82" #[eD 12, eC 2] none
abbrev VN : Oper := oq 38 (.fieldAddr 44 (.tmp 3) 3) 0 "l07_done.go:82" #[eG 13] (some (13, true))
abbrev Yn : Oper := oq 39 (.load 3 (.tmp 38)) 3 "l07_done.go:82" #[eD 14, eG 13] (some (13, true))
abbrev Yg : Oper := oq 40 (.binOp .eql 3 (.tmp 39) (.const (int i64 7)) 3) 4 "l07_done.go:82" #[eD 15, eG 13] (some (13, true))
abbrev V7 : Oper := oq 41 (.move (.tmp 40)) 4 "l07_done.go:82" #[eD 16, eC 13, eG 13] (some (13, true))
abbrev VX : Oper := oq 42 (.fieldAddr 29 (.tmp 2) 3) 0 "l07_done.go:82" #[eG 17] (some (17, false))
abbrev VI : Oper := oq 43 (.load 27 (.tmp 42)) 27 "l07_done.go:82" #[eD 18, eG 17] (some (17, false))
abbrev Yc : Oper := oq 44 (.move (.tmp 5)) 3 "l07_done.go:82" #[eG 17] (some (17, false))
abbrev VZ : Oper := oq 45 (.indexAddr 27 (.tmp 43) (.tmp 44)) 0 "l07_done.go:82" #[eD 19, eD 20, eG 17] (some (17, false))
abbrev VY : Oper := oq 46 (.fieldAddr 90 (.tmp 45) 2) 0 "l07_done.go:82" #[eD 21, eG 17] (some (17, false))
abbrev Yu : Oper := oq 47 (.load 3 (.tmp 46)) 3 "l07_done.go:82" #[eD 22, eG 17] (some (17, false))
abbrev V9 : Oper := oq 48 (.fieldAddr 44 (.tmp 3) 1) 0 "l07_done.go:82" #[eG 17] (some (17, false))
abbrev Yp : Oper := oq 49 (.load 3 (.tmp 48)) 3 "l07_done.go:82" #[eD 24, eG 17] (some (17, false))
abbrev Yd : Oper := oq 50 (.binOp .lss 3 (.tmp 47) (.tmp 49) 3) 4 "l07_done.go:82" #[eD 23, eD 25, eG 17] (some (17, false))
abbrev Yw : Oper := oq 51 (.pick (.tmp 41) (.const (.bool true)) (.tmp 50)) 4 "l07_done.go:82" #[eD 17, eD 26, eG 13] (some (13, true))
abbrev Yl : Oper := oq 52 (.pick (.tmp 37) (.tmp 51) (.const (.bool false))) 4 "l07_done.go:82" #[eD 13, eD 27] none
abbrev Yi : Oper := oq 4 (.assign (.tmp 52)) 4 "l07_done.go:82" #[eD 28, eC 17, eP 0, eP 1, eP 2, eP 3, eP 4, eP 5, eP 6, eP 7, eP 8, eP 9, eP 10, eP 11, eP 12, eP 13, eP 14, eP 15, eP 16, eP 17, eP 18, eP 19, eP 20, eP 21, eP 22, eP 23, eP 24, eP 25, eP 26, eP 27, eP 28] none
theorem Vm (S : Sta) (u0 u1 u2 u3 : Value) (A : Ac) (u : Value) (w : World) (hn : Small S) (h : StAt w S u0 u1 u2 u3) :
  Calls Tryz.prog 53 #[.agg #[u0, u1, u2, u3], .agg #[int i64 A.r, int i64 A.s, int i64 A.t, u, int i64 A.k, .string A.o, .string A.y, int i64 A.v, int i64 A.x, int i64 A.z]] w fun e w' => Tells e (Jt S A) ∧ Below w.heap.size w w' := by
 obtain ⟨a0, c0, a1, c1, a2, c2, a3, c3, rfl, rfl, rfl, rfl⟩ := h.shape
 obtain ⟨W, hW⟩ : ∃ W, W = (w.alloc (.cells #[.slice a0 S.l.length c0, .slice a1 S.T.length c1, .slice a2 S.L.length c2, .slice a3 S.C.length c3] 29)).alloc (.cells #[int i64 A.r, int i64 A.s, int i64 A.t, u, int i64 A.k, .string A.o, .string A.y, int i64 A.v, int i64 A.x, int i64 A.z] 44) := ⟨_, rfl⟩
 have hR : Row W w.heap.size #[.slice a0 S.l.length c0, .slice a1 S.T.length c1, .slice a2 S.L.length c2, .slice a3 S.C.length c3] 29 := by rw [hW]; exact (Jb w _ _ rfl).alloc _
 have hA : Row W (w.heap.size + 1) #[int i64 A.r, int i64 A.s, int i64 A.t, u, int i64 A.k, .string A.o, .string A.y, int i64 A.v, int i64 A.x, int i64 A.z] 44 := by rw [hW]; exact Jb _ _ _ (by simp)
 have HB : Hid (Below w.heap.size w W) := by rw [hW]; exact ((Below.refl _ _).alloc (Nat.le_refl _) _).alloc (by simp) _
 have hS : StAt W S (.slice a0 S.l.length c0) (.slice a1 S.T.length c1) (.slice a2 S.L.length c2) (.slice a3 S.C.length c3) := by rw [hW]; exact (h.alloc _).alloc _
 have HF : Hid (∀ wx, Below W.heap.size W wx → Below w.heap.size w wx) := fun wx h => HB.out.trans (h.mono HB.out.size)
 have HR4 : Hid (∀ wx, Below W.heap.size W wx → wx.cell? ⟨w.heap.size, 0, none⟩ = some (.slice a0 S.l.length c0) ∧ wx.cell? ⟨w.heap.size, 1, none⟩ = some (.slice a1 S.T.length c1) ∧ wx.cell? ⟨w.heap.size, 2, none⟩ = some (.slice a2 S.L.length c2) ∧ wx.cell? ⟨w.heap.size, 3, none⟩ = some (.slice a3 S.C.length c3)) := fun wx h => Row.four (hR.next h)
 have HRA : Hid (∀ wx, Below W.heap.size W wx → wx.cell? ⟨w.heap.size + 1, 2, none⟩ = some (int i64 A.t) ∧ wx.cell? ⟨w.heap.size + 1, 4, none⟩ = some (int i64 A.k) ∧ wx.cell? ⟨w.heap.size + 1, 5, none⟩ = some (.string A.o) ∧ wx.cell? ⟨w.heap.size + 1, 8, none⟩ = some (int i64 A.x) ∧ wx.cell? ⟨w.heap.size + 1, 9, none⟩ = some (int i64 A.z)) := fun wx h => ⟨(hA.next h).cell 2 rfl, (hA.next h).cell 4 rfl, (hA.next h).cell 5 rfl, (hA.next h).cell 8 rfl, (hA.next h).cell 9 rfl⟩
 have HCA := Ja (Zm S _ _ _ _ A.x A.z W hn.2.2.2 hS)
 have HCG : Hid (CeG W a3 S.C) := by
  obtain ⟨x, y, hq, hg⟩ := hS.2.2.2
  simp only [Value.slice.injEq] at hq
  rw [hq.1]; exact hg
 have HW : Hid ((w.alloc (.cells #[.slice a0 S.l.length c0, .slice a1 S.T.length c1, .slice a2 S.L.length c2, .slice a3 S.C.length c3] 29)).alloc (.cells #[int i64 A.r, int i64 A.s, int i64 A.t, u, int i64 A.k, .string A.o, .string A.y, int i64 A.v, int i64 A.x, int i64 A.z] 44) = W) := hW.symm
 have hrg := Z7 S.C A.x A.z 0 (by omega)
 have HRI : Hid (¬ (A.k ≠ 7 ∧ (A.k ≠ 6 ∨ (A.x = 0 ∧ A.z = 0))) → ∀ j (h : j < S.C.length), cellAt S.C A.x A.z 0 = (j : Int) → (Jt S A ↔ S.C[j].o = A.o ∧ (A.k = 7 ∨ S.C[j].t < A.t))) := fun hz j h e => by
  constructor
  ·rintro (h1 | ⟨i, hi, h1, h2⟩)
   ·exact absurd h1 hz
   ·have : i = j := by omega
    subst this; exact h2
  ·intro h1; exact .inr ⟨j, h, e, h1⟩
 have HRN : Hid (¬ (A.k ≠ 7 ∧ (A.k ≠ 6 ∨ (A.x = 0 ∧ A.z = 0))) → cellAt S.C A.x A.z 0 = -1 → ¬ Jt S A) := fun hz e h => by
  rcases h with h | ⟨i, hi, h1, -⟩
  ·exact hz h
  ·omega
 have HYE : Hid ((A.k ≠ 7 ∧ (A.k ≠ 6 ∨ (A.x = 0 ∧ A.z = 0))) → Jt S A) := fun h => .inl h
 obtain ⟨nc, hnc⟩ : ∃ n, n = S.C.length := ⟨_, rfl⟩
 have HNC := Ja hnc
 have hW0 : Below W.heap.size W W := Below.refl _ _
 obtain ⟨d0, d1, d2, d3⟩ := HR4.out W hW0
 obtain ⟨e2, e4, e5, e8, e9⟩ := HRA.out W hW0
 rw [hW] at d0 d1 d2 d3 e2 e4 e5 e8 e9
 have hgd := Zl
 have HEQ : Hid (∀ wx, (Op.equalIn 10000 42 (.agg #[int i64 A.x, int i64 A.z]) (.agg #[int i64 0, int i64 0])).run Tryz.prog wx = .ok (decide (A.x = 0 ∧ A.z = 0)) wx) := fun wx => JZ A.x A.z wx
 have HB0 := Ja (HF.out W hW0)
 clear hW h hR hA hS hn hnc
 by_cases hz : A.k ≠ 7 ∧ (A.k ≠ 6 ∨ (A.x = 0 ∧ A.z = 0))
 ·have HE := Ja (HYE.out hz)
  have b7 : (A.k != 7) = true := by simp [hz.1]
  by_cases h6 : A.k = 6
  ·have b6 : (A.k != 6) = false := by simp [h6]
   have hz2 := hz.2.resolve_left (fun h => h h6)
   have heq : ∀ wx, (Op.equalIn 10000 42 (.agg #[int i64 A.x, int i64 A.z]) (.agg #[int i64 0, int i64 0])).run Tryz.prog wx = .ok true wx := fun wx => by rw [HEQ.out, decide_eq_true hz2]
   clear hz h6 hz2
   go_enter Tryz.func53, Tryz.ntmps53
   go_wp2
   rw [HW.out]
   go_ret
   exact ⟨Tells.yes HE.out, HB0.out⟩
  ·have b6 : (A.k != 6) = true := by simp [h6]
   clear hz h6
   go_enter Tryz.func53, Tryz.ntmps53
   go_wp2
   rw [HW.out]
   go_ret
   exact ⟨Tells.yes HE.out, HB0.out⟩
 replace HRI := Ja (HRI.out hz)
 replace HRN := Ja (HRN.out hz)
 have HEND : Hid (∀ (Z : World) (tm : Unit), True) := fun _ _ => trivial
 generalize cellAt S.C A.x A.z 0 = KK at *
 have hcase : A.k = 7 ∨ (A.k = 6 ∧ ¬ (A.x = 0 ∧ A.z = 0)) := by
  by_cases h7 : A.k = 7
  ·exact .inl h7
  ·right
   by_cases h6 : A.k = 6
   ·exact ⟨h6, fun h => hz ⟨h7, .inr h⟩⟩
   ·exact absurd ⟨h7, .inl h6⟩ hz
 clear hz
 rcases hcase with h7 | h6
 ·have b7 : (A.k != 7) = false := by simp [h7]
  have HK7 : Hid (A.k = 7 ∨ False) := .inl h7
  clear h7 HEQ
  go_enter Tryz.func53, Tryz.ntmps53
  go_wp2_with fail
  rw [HW.out]
  refine HCA.out.mono ?_
  rintro e w3 ⟨rfl, hb3⟩
  have HW3 := Ja hb3
  clear d0 d1 d2 d3 e2 e4 e5 e8 e9 HCA HW hW0
  rcases hrg with hk | ⟨hr1, hr2⟩
  ·subst hk
   have HE := Ja (HRN.out rfl)
   have HS1 : Hid (∀ wx, Below w3.heap.size w3 wx → wx.cell? ⟨w.heap.size + 1, 2, none⟩ = some (int i64 A.t)) := fun wx h => (HRA.out wx (HW3.out.trans (h.mono HW3.out.size))).1
   have hBc : Below w3.heap.size w3 w3.drew := (Below.refl _ _).drew
   go_wp2
   try simp only [List.append_eq, List.cons_append, List.nil_append]
   refine wph HS1 hBc 30 ?_
   refine tQ 0 JbP ?_ (HS1.out _ hBc); refine tQ 1 Jcl ?_ (HS1.out _ hBc); refine tQ 2 JbL ?_ (HS1.out _ hBc); refine sQ 3 JbQ ?_ (HS1.out _ hBc); refine sQ 4 Jb0 ?_ (HS1.out _ hBc); refine sQ 5 Jcb ?_ (HS1.out _ hBc); refine sQ 6 Jct ?_ (HS1.out _ hBc); refine sQ 7 Jce ?_ (HS1.out _ hBc); refine sQ 8 Jcs ?_ (HS1.out _ hBc); refine sQ 9 JbR ?_ (HS1.out _ hBc); refine sQ 10 Yf ?_ (HS1.out _ hBc); refine sQ 11 Yr ?_ (HS1.out _ hBc); refine tQ 12 V4 ?_ (HS1.out _ hBc); refine tQ 13 Yt ?_ (HS1.out _ hBc); refine sQ 14 VN ?_ (HS1.out _ hBc); refine sQ 15 Yn ?_ (HS1.out _ hBc); refine sQ 16 Yg ?_ (HS1.out _ hBc); refine sQ 17 V7 ?_ (HS1.out _ hBc); refine sQ 18 VX ?_ (HS1.out _ hBc); refine sQ 19 VI ?_ (HS1.out _ hBc); refine sQ 20 Yc ?_ (HS1.out _ hBc); refine sQ 21 VZ ?_ (HS1.out _ hBc); refine sQ 22 VY ?_ (HS1.out _ hBc); refine sQ 23 Yu ?_ (HS1.out _ hBc); refine sQ 24 V9 ?_ (HS1.out _ hBc); refine sQ 25 Yp ?_ (HS1.out _ hBc); refine sQ 26 Yd ?_ (HS1.out _ hBc); refine sQ 27 Yw ?_ (HS1.out _ hBc); refine tQ 28 Yl ?_ (HS1.out _ hBc); refine tQ 29 Yi ?_ (HS1.out _ hBc)
   refine wpd ?_
   have HB2 := Ja (HF.out _ (HW3.out.trans (hBc.mono HW3.out.size)))
   clear HS1 hBc
   go_wp2
   go_ret
   exact ⟨Tells.no HE.out, HB2.out⟩
  obtain ⟨j, hj⟩ : ∃ j : Nat, KK = j := Int.eq_ofNat_of_zero_le hr1
  subst hj
  have hjl : j < S.C.length := by omega
  have hj1 : (j : Int) < nc := by have := HNC.out; omega
  have hj0 : (0 : Int) ≤ j := by omega
  have HRJ := Ja (HRI.out j hjl rfl)
  obtain ⟨g, f, rfl, hg, hcc⟩ := HCG.out (by omega)
  have HCC : Hid (∀ wx, Below W.heap.size W wx → ceC wx g (f + j * 8) S.C[j]) := fun wx h => (hcc j hjl).below h hg
  generalize S.C[j] = y at *
  have HS5 : Hid (∀ wx, Below w3.heap.size w3 wx → wx.cell? ⟨w.heap.size, 3, none⟩ = some (.slice (some ⟨g, f, none⟩) nc c3) ∧ wx.cell? ⟨w.heap.size + 1, 2, none⟩ = some (int i64 A.t) ∧ wx.cell? ⟨w.heap.size + 1, 4, none⟩ = some (int i64 A.k) ∧ wx.cell? ⟨w.heap.size + 1, 5, none⟩ = some (.string A.o) ∧ wx.cell? ⟨g, f + j * 8, none⟩ = some (.string y.o) ∧ wx.cell? ⟨g, f + j * 8 + 3, none⟩ = some (int i64 y.t)) := fun wx h => by
   have hh := HW3.out.trans (h.mono HW3.out.size)
   obtain ⟨z0, z1, z2, z3⟩ := HR4.out wx hh
   obtain ⟨x2, x4, x5, x8, x9⟩ := HRA.out wx hh
   have hq := HCC.out wx hh
   rw [← HNC.out] at z3
   exact ⟨z3, x2, x4, x5, hq.1, hq.2.2.2.1⟩
  have hBc : Below w3.heap.size w3 w3.drew := (Below.refl _ _).drew
  clear hcc hjl hr1 hr2 HRI HRN
  by_cases ho : y.o = A.o
  case neg =>
   have b1 := JY y.o A.o ho
   have HE := Ja (show ¬ Jt S A from fun h => ho (HRJ.out.1 h).1)
   clear ho
   go_wp2
   try simp only [List.append_eq, List.cons_append, List.nil_append]
   refine wph HS5 hBc 30 ?_
   refine tQ 0 JbP ?_ (HS5.out _ hBc); refine tQ 1 Jcl ?_ (HS5.out _ hBc); refine tQ 2 JbL ?_ (HS5.out _ hBc); refine tQ 3 JbQ ?_ (HS5.out _ hBc); refine tQ 4 Jb0 ?_ (HS5.out _ hBc); refine tQ 5 Jcb ?_ (HS5.out _ hBc); refine tQ 6 Jct ?_ (HS5.out _ hBc); refine tQ 7 Jce ?_ (HS5.out _ hBc); refine tQ 8 Jcs ?_ (HS5.out _ hBc); refine tQ 9 JbR ?_ (HS5.out _ hBc); refine tQ 10 Yf ?_ (HS5.out _ hBc); refine tQ 11 Yr ?_ (HS5.out _ hBc); refine tQ 12 V4 ?_ (HS5.out _ hBc); refine tQ 13 Yt ?_ (HS5.out _ hBc); refine sQ 14 VN ?_ (HS5.out _ hBc); refine sQ 15 Yn ?_ (HS5.out _ hBc); refine sQ 16 Yg ?_ (HS5.out _ hBc); refine sQ 17 V7 ?_ (HS5.out _ hBc); refine sQ 18 VX ?_ (HS5.out _ hBc); refine sQ 19 VI ?_ (HS5.out _ hBc); refine sQ 20 Yc ?_ (HS5.out _ hBc); refine sQ 21 VZ ?_ (HS5.out _ hBc); refine sQ 22 VY ?_ (HS5.out _ hBc); refine sQ 23 Yu ?_ (HS5.out _ hBc); refine sQ 24 V9 ?_ (HS5.out _ hBc); refine sQ 25 Yp ?_ (HS5.out _ hBc); refine sQ 26 Yd ?_ (HS5.out _ hBc); refine sQ 27 Yw ?_ (HS5.out _ hBc); refine tQ 28 Yl ?_ (HS5.out _ hBc); refine tQ 29 Yi ?_ (HS5.out _ hBc)
   refine wpd ?_
   have HB2 := Ja (HF.out _ (HW3.out.trans (hBc.mono HW3.out.size)))
   clear HS5 hBc
   go_wp2
   go_ret
   exact ⟨Tells.no HE.out, HB2.out⟩
  have b1 := JM y.o A.o ho
  have bk : (A.k == 7) = true := by simp; exact HK7.out.resolve_right id
  have HE : Hid (Jt S A) := HRJ.out.2 ⟨ho, .inl (HK7.out.resolve_right id)⟩
  clear ho
  go_wp2
  try simp only [List.append_eq, List.cons_append, List.nil_append]
  refine wph HS5 hBc 30 ?_
  refine tQ 0 JbP ?_ (HS5.out _ hBc); refine tQ 1 Jcl ?_ (HS5.out _ hBc); refine tQ 2 JbL ?_ (HS5.out _ hBc); refine tQ 3 JbQ ?_ (HS5.out _ hBc); refine tQ 4 Jb0 ?_ (HS5.out _ hBc); refine tQ 5 Jcb ?_ (HS5.out _ hBc); refine tQ 6 Jct ?_ (HS5.out _ hBc); refine tQ 7 Jce ?_ (HS5.out _ hBc); refine tQ 8 Jcs ?_ (HS5.out _ hBc); refine tQ 9 JbR ?_ (HS5.out _ hBc); refine tQ 10 Yf ?_ (HS5.out _ hBc); refine tQ 11 Yr ?_ (HS5.out _ hBc); refine tQ 12 V4 ?_ (HS5.out _ hBc); refine tQ 13 Yt ?_ (HS5.out _ hBc); refine tQ 14 VN ?_ (HS5.out _ hBc); refine tQ 15 Yn ?_ (HS5.out _ hBc); refine tQ 16 Yg ?_ (HS5.out _ hBc); refine tQ 17 V7 ?_ (HS5.out _ hBc); refine sQ 18 VX ?_ (HS5.out _ hBc); refine sQ 19 VI ?_ (HS5.out _ hBc); refine sQ 20 Yc ?_ (HS5.out _ hBc); refine sQ 21 VZ ?_ (HS5.out _ hBc); refine sQ 22 VY ?_ (HS5.out _ hBc); refine sQ 23 Yu ?_ (HS5.out _ hBc); refine sQ 24 V9 ?_ (HS5.out _ hBc); refine sQ 25 Yp ?_ (HS5.out _ hBc); refine sQ 26 Yd ?_ (HS5.out _ hBc); refine tQ 27 Yw ?_ (HS5.out _ hBc); refine tQ 28 Yl ?_ (HS5.out _ hBc); refine tQ 29 Yi ?_ (HS5.out _ hBc)
  refine wpd ?_
  have HB2 := Ja (HF.out _ (HW3.out.trans (hBc.mono HW3.out.size)))
  clear HS5 hBc
  go_wp2
  go_ret
  exact ⟨Tells.yes HE.out, HB2.out⟩
 ·have b7 : (A.k != 7) = true := by simp [h6.1]
  have b6 : (A.k != 6) = false := by simp [h6.1]
  have heq : ∀ wx, (Op.equalIn 10000 42 (.agg #[int i64 A.x, int i64 A.z]) (.agg #[int i64 0, int i64 0])).run Tryz.prog wx = .ok false wx := fun wx => by rw [HEQ.out, decide_eq_false h6.2]
  have HK7 : Hid (A.k = 7 → False) := fun e => by have := h6.1; omega
  clear h6 HEQ
  go_enter Tryz.func53, Tryz.ntmps53
  go_wp2_with fail
  rw [HW.out]
  refine HCA.out.mono ?_
  rintro e w3 ⟨rfl, hb3⟩
  have HW3 := Ja hb3
  clear d0 d1 d2 d3 e2 e4 e5 e8 e9 HCA HW hW0 heq
  rcases hrg with hk | ⟨hr1, hr2⟩
  ·subst hk
   have HE := Ja (HRN.out rfl)
   have HS1 : Hid (∀ wx, Below w3.heap.size w3 wx → wx.cell? ⟨w.heap.size + 1, 2, none⟩ = some (int i64 A.t)) := fun wx h => (HRA.out wx (HW3.out.trans (h.mono HW3.out.size))).1
   have hBc : Below w3.heap.size w3 w3.drew := (Below.refl _ _).drew
   go_wp2
   try simp only [List.append_eq, List.cons_append, List.nil_append]
   refine wph HS1 hBc 30 ?_
   refine tQ 0 JbP ?_ (HS1.out _ hBc); refine tQ 1 Jcl ?_ (HS1.out _ hBc); refine tQ 2 JbL ?_ (HS1.out _ hBc); refine sQ 3 JbQ ?_ (HS1.out _ hBc); refine sQ 4 Jb0 ?_ (HS1.out _ hBc); refine sQ 5 Jcb ?_ (HS1.out _ hBc); refine sQ 6 Jct ?_ (HS1.out _ hBc); refine sQ 7 Jce ?_ (HS1.out _ hBc); refine sQ 8 Jcs ?_ (HS1.out _ hBc); refine sQ 9 JbR ?_ (HS1.out _ hBc); refine sQ 10 Yf ?_ (HS1.out _ hBc); refine sQ 11 Yr ?_ (HS1.out _ hBc); refine tQ 12 V4 ?_ (HS1.out _ hBc); refine tQ 13 Yt ?_ (HS1.out _ hBc); refine sQ 14 VN ?_ (HS1.out _ hBc); refine sQ 15 Yn ?_ (HS1.out _ hBc); refine sQ 16 Yg ?_ (HS1.out _ hBc); refine sQ 17 V7 ?_ (HS1.out _ hBc); refine sQ 18 VX ?_ (HS1.out _ hBc); refine sQ 19 VI ?_ (HS1.out _ hBc); refine sQ 20 Yc ?_ (HS1.out _ hBc); refine sQ 21 VZ ?_ (HS1.out _ hBc); refine sQ 22 VY ?_ (HS1.out _ hBc); refine sQ 23 Yu ?_ (HS1.out _ hBc); refine sQ 24 V9 ?_ (HS1.out _ hBc); refine sQ 25 Yp ?_ (HS1.out _ hBc); refine sQ 26 Yd ?_ (HS1.out _ hBc); refine sQ 27 Yw ?_ (HS1.out _ hBc); refine tQ 28 Yl ?_ (HS1.out _ hBc); refine tQ 29 Yi ?_ (HS1.out _ hBc)
   refine wpd ?_
   have HB2 := Ja (HF.out _ (HW3.out.trans (hBc.mono HW3.out.size)))
   clear HS1 hBc
   go_wp2
   go_ret
   exact ⟨Tells.no HE.out, HB2.out⟩
  obtain ⟨j, hj⟩ : ∃ j : Nat, KK = j := Int.eq_ofNat_of_zero_le hr1
  subst hj
  have hjl : j < S.C.length := by omega
  have hj1 : (j : Int) < nc := by have := HNC.out; omega
  have hj0 : (0 : Int) ≤ j := by omega
  have HRJ := Ja (HRI.out j hjl rfl)
  obtain ⟨g, f, rfl, hg, hcc⟩ := HCG.out (by omega)
  have HCC : Hid (∀ wx, Below W.heap.size W wx → ceC wx g (f + j * 8) S.C[j]) := fun wx h => (hcc j hjl).below h hg
  generalize S.C[j] = y at *
  have HS5 : Hid (∀ wx, Below w3.heap.size w3 wx → wx.cell? ⟨w.heap.size, 3, none⟩ = some (.slice (some ⟨g, f, none⟩) nc c3) ∧ wx.cell? ⟨w.heap.size + 1, 2, none⟩ = some (int i64 A.t) ∧ wx.cell? ⟨w.heap.size + 1, 4, none⟩ = some (int i64 A.k) ∧ wx.cell? ⟨w.heap.size + 1, 5, none⟩ = some (.string A.o) ∧ wx.cell? ⟨g, f + j * 8, none⟩ = some (.string y.o) ∧ wx.cell? ⟨g, f + j * 8 + 3, none⟩ = some (int i64 y.t)) := fun wx h => by
   have hh := HW3.out.trans (h.mono HW3.out.size)
   obtain ⟨z0, z1, z2, z3⟩ := HR4.out wx hh
   obtain ⟨x2, x4, x5, x8, x9⟩ := HRA.out wx hh
   have hq := HCC.out wx hh
   rw [← HNC.out] at z3
   exact ⟨z3, x2, x4, x5, hq.1, hq.2.2.2.1⟩
  have hBc : Below w3.heap.size w3 w3.drew := (Below.refl _ _).drew
  clear hcc hjl hr1 hr2 HRI HRN
  by_cases ho : y.o = A.o
  case neg =>
   have b1 := JY y.o A.o ho
   have HE := Ja (show ¬ Jt S A from fun h => ho (HRJ.out.1 h).1)
   clear ho
   go_wp2
   try simp only [List.append_eq, List.cons_append, List.nil_append]
   refine wph HS5 hBc 30 ?_
   refine tQ 0 JbP ?_ (HS5.out _ hBc); refine tQ 1 Jcl ?_ (HS5.out _ hBc); refine tQ 2 JbL ?_ (HS5.out _ hBc); refine tQ 3 JbQ ?_ (HS5.out _ hBc); refine tQ 4 Jb0 ?_ (HS5.out _ hBc); refine tQ 5 Jcb ?_ (HS5.out _ hBc); refine tQ 6 Jct ?_ (HS5.out _ hBc); refine tQ 7 Jce ?_ (HS5.out _ hBc); refine tQ 8 Jcs ?_ (HS5.out _ hBc); refine tQ 9 JbR ?_ (HS5.out _ hBc); refine tQ 10 Yf ?_ (HS5.out _ hBc); refine tQ 11 Yr ?_ (HS5.out _ hBc); refine tQ 12 V4 ?_ (HS5.out _ hBc); refine tQ 13 Yt ?_ (HS5.out _ hBc); refine sQ 14 VN ?_ (HS5.out _ hBc); refine sQ 15 Yn ?_ (HS5.out _ hBc); refine sQ 16 Yg ?_ (HS5.out _ hBc); refine sQ 17 V7 ?_ (HS5.out _ hBc); refine sQ 18 VX ?_ (HS5.out _ hBc); refine sQ 19 VI ?_ (HS5.out _ hBc); refine sQ 20 Yc ?_ (HS5.out _ hBc); refine sQ 21 VZ ?_ (HS5.out _ hBc); refine sQ 22 VY ?_ (HS5.out _ hBc); refine sQ 23 Yu ?_ (HS5.out _ hBc); refine sQ 24 V9 ?_ (HS5.out _ hBc); refine sQ 25 Yp ?_ (HS5.out _ hBc); refine sQ 26 Yd ?_ (HS5.out _ hBc); refine sQ 27 Yw ?_ (HS5.out _ hBc); refine tQ 28 Yl ?_ (HS5.out _ hBc); refine tQ 29 Yi ?_ (HS5.out _ hBc)
   refine wpd ?_
   have HB2 := Ja (HF.out _ (HW3.out.trans (hBc.mono HW3.out.size)))
   clear HS5 hBc
   go_wp2
   go_ret
   exact ⟨Tells.no HE.out, HB2.out⟩
  have b1 := JM y.o A.o ho
  have bk : (A.k == 7) = false := by simp; exact fun e => HK7.out e
  have HE : Hid (decide (y.t < A.t) = true ↔ Jt S A) := ⟨fun e => HRJ.out.2 ⟨ho, .inr (of_decide_eq_true e)⟩, fun h => decide_eq_true ((HRJ.out.1 h).2.resolve_left (fun e => HK7.out e))⟩
  clear ho
  go_wp2
  try simp only [List.append_eq, List.cons_append, List.nil_append]
  refine wph HS5 hBc 30 ?_
  refine tQ 0 JbP ?_ (HS5.out _ hBc); refine tQ 1 Jcl ?_ (HS5.out _ hBc); refine tQ 2 JbL ?_ (HS5.out _ hBc); refine tQ 3 JbQ ?_ (HS5.out _ hBc); refine tQ 4 Jb0 ?_ (HS5.out _ hBc); refine tQ 5 Jcb ?_ (HS5.out _ hBc); refine tQ 6 Jct ?_ (HS5.out _ hBc); refine tQ 7 Jce ?_ (HS5.out _ hBc); refine tQ 8 Jcs ?_ (HS5.out _ hBc); refine tQ 9 JbR ?_ (HS5.out _ hBc); refine tQ 10 Yf ?_ (HS5.out _ hBc); refine tQ 11 Yr ?_ (HS5.out _ hBc); refine tQ 12 V4 ?_ (HS5.out _ hBc); refine tQ 13 Yt ?_ (HS5.out _ hBc); refine tQ 14 VN ?_ (HS5.out _ hBc); refine tQ 15 Yn ?_ (HS5.out _ hBc); refine tQ 16 Yg ?_ (HS5.out _ hBc); refine tQ 17 V7 ?_ (HS5.out _ hBc); refine tQ 18 VX ?_ (HS5.out _ hBc); refine tQ 19 VI ?_ (HS5.out _ hBc); refine tQ 20 Yc ?_ (HS5.out _ hBc); refine tQ 21 VZ ?_ (HS5.out _ hBc); refine tQ 22 VY ?_ (HS5.out _ hBc); refine tQ 23 Yu ?_ (HS5.out _ hBc); refine tQ 24 V9 ?_ (HS5.out _ hBc); refine tQ 25 Yp ?_ (HS5.out _ hBc); refine tQ 26 Yd ?_ (HS5.out _ hBc); refine tQ 27 Yw ?_ (HS5.out _ hBc); refine tQ 28 Yl ?_ (HS5.out _ hBc); refine tQ 29 Yi ?_ (HS5.out _ hBc)
  refine wpd ?_
  have HB2 := Ja (HF.out _ (HW3.out.trans (hBc.mono HW3.out.size)))
  clear HS5 hBc
  go_wp2
  go_ret
  exact ⟨⟨_, rfl, HE.out⟩, HB2.out⟩
def Z1 (o : ByteArray) (r : Int) (t : Ta) : Bool := decide (t.o = o ∧ t.r = r)
def ZJ (o : ByteArray) (r : Int) (t : Ta) : Bool := decide (o.data.toList < t.o.data.toList ∨ (t.o = o ∧ r < t.r))
def Jv (T : List Ta) (o : ByteArray) (r v : Int) : List Ta :=
 match T.findIdx? (Z1 o r) with
 | some i => (match T[i]? with | some t => T.set i { t with n := (t.n + v) % 1000000 } | none => T)
 | none => ins (fun t => ZJ o r t) ⟨o, r, v⟩ T
theorem Vg (T : List Ta) (o : ByteArray) (r v : Int) (k : Nat) (h : k < T.length) (h1 : ∀ i (hi : i < T.length), i < k → Z1 o r T[i] = false) (h2 : Z1 o r T[k] = true) : Jv T o r v = T.set k { T[k] with n := (T[k].n + v) % 1000000 } := by
 have e : T.findIdx? (Z1 o r) = some k := List.findIdx?_eq_some_iff_getElem.2 ⟨h, h2, fun j hj => by simp [h1 j (by omega) hj]⟩
 unfold Jv; rw [e]
 simp [h]
theorem G8 (T : List Ta) (o : ByteArray) (r v : Int) (h1 : ∀ i (hi : i < T.length), Z1 o r T[i] = false) : Jv T o r v = ins (fun t => ZJ o r t) ⟨o, r, v⟩ T := by
 have e : T.findIdx? (Z1 o r) = none := List.findIdx?_eq_none_iff.2 (fun x hx => by
  obtain ⟨i, hi, rfl⟩ := List.mem_iff_getElem.1 hx
  exact h1 i hi)
 unfold Jv; rw [e]
theorem Zr (l : List Ta) (x : Ta) : taV (l ++ [x]) = taV l ++ x.cs := by simp [taV]
theorem YW (l : List Ta) (k : Nat) (h : k < l.length) (c : Int) : (taV l).set (k * 3 + 2) (int i64 c) = taV (l.set k { l[k] with n := c }) := by
 induction l generalizing k with
 | nil => simp at h
 | cons a l ih =>
  cases k with
  | zero => simp [taV, Ta.cs]
  | succ k =>
   have := ih k (by simpa using h)
   have e : (k + 1) * 3 + 2 = k * 3 + 2 + 1 + 1 + 1 := by omega
   rw [e]
   show (Ta.cs a ++ taV l).set _ _ = Ta.cs a ++ taV (l.set k _)
   simp only [Ta.cs, List.cons_append, List.nil_append, List.set_cons_succ]
   rw [this]; rfl
def Frm (w w' : World) (p : Nat) (u : Value) : Prop := w'.os = w.os ∧ w'.tape = w.tape ∧ w'.output = w.output ∧ w.heap.size ≤ w'.heap.size ∧ ∀ j, j < w.heap.size → j ≠ p → u.ownBlock ≠ some j → w'.heap[j]? = w.heap[j]?
abbrev JjF : Oper := oq 40 (.move (.tmp 0)) 83 "l07_done.go:10" #[] none
abbrev JjK : Oper := oq 41 (.nilCheck (.tmp 40)) 0 "l07_done.go:10" #[eD 0] none
abbrev Jju : Oper := oq 42 (.fieldAddr 29 (.tmp 41) 1) 0 "l07_done.go:10" #[eD 1] none
abbrev Ji8 : Oper := oq 43 (.load 25 (.tmp 42)) 25 "l07_done.go:10" #[eD 2] none
abbrev JiO : Oper := oq 44 (.move (.tmp 8)) 3 "l07_done.go:10" #[] none
abbrev Jjr : Oper := oq 45 (.fieldAddr 86 (.tmp 9) 2) 0 "l07_done.go:10" #[] none
abbrev JjL : Oper := oq 46 (.load 3 (.tmp 45)) 3 "l07_done.go:10" #[eD 5] none
abbrev Jjl : Oper := oq 47 (.move (.tmp 3)) 3 "l07_done.go:10" #[] none
abbrev JjA : Oper := oq 48 (.binOp .add 3 (.tmp 46) (.tmp 47) 3) 3 "l07_done.go:10" #[eD 6, eD 7] none
abbrev JjQ : Oper := oq 49 (.binOp .rem 3 (.tmp 48) (.const (int i64 1000000)) 3) 3 "l07_done.go:10" #[eD 8] none
abbrev Jif : Oper := oq 50 (.indexAddr 25 (.tmp 43) (.tmp 44)) 0 "l07_done.go:10" #[eD 3, eD 4, eP 0, eP 1, eP 2, eP 3, eP 4, eP 5, eP 6, eP 7, eP 8, eP 9] none
abbrev Jg6 : Oper := oq 51 (.fieldAddr 86 (.tmp 50) 2) 0 "l07_done.go:10" #[eD 10, eP 0, eP 1, eP 2, eP 3, eP 4, eP 5, eP 6, eP 7, eP 8, eP 9] none
abbrev JiE : Oper := oz (.store 3 (.tmp 51) (.tmp 49)) 0 "l07_done.go:10" #[eD 11, eD 9, eP 0, eP 1, eP 2, eP 3, eP 4, eP 5, eP 6, eP 7, eP 8, eP 9] none
theorem Ug (T : List Ta) (p : Nat) (u0 u1 u2 u3 : Value) (o : ByteArray) (r v : Int) (B : Nat) (w : World) (hn : T.length ≤ 1000000) (hT : ∀ a ∈ T, 0 ≤ a.n ∧ a.n ≤ 999999) (hv : 0 ≤ v ∧ v ≤ 999999) (hp : Row w p #[u0, u1, u2, u3] 29) (hpl : p < w.heap.size) (hpn : ∀ j, u1.ownBlock = some j → j ≠ p) (hB : B ≤ w.heap.size) (hO : w.ownsRow B 86 3 u1 T.length (taV T)) :
  Calls Tryz.prog 102 #[.pointer (some ⟨p, 0, none⟩), .string o, int i64 r, int i64 v] w fun e w' => e = .returned (.tuple #[]) ∧ ∃ a1 d1, Row w' p #[u0, .slice a1 (Jv T o r v).length d1, u2, u3] 29 ∧ w'.ownsRow B 86 3 (.slice a1 (Jv T o r v).length d1) (Jv T o r v).length (taV (Jv T o r v)) ∧ (∀ j, (Value.slice a1 (Jv T o r v).length d1).ownBlock = some j → u1.ownBlock = some j ∨ w.heap.size ≤ j) ∧ Frm w w' p u1 := by
 obtain ⟨aa, ca, rfl, hga⟩ := TaAt.own hO rfl
 have HP : Hid (∀ wx, Below w.heap.size w wx → Row wx p #[u0, .slice aa T.length ca, u2, u3] 29) := fun wx h => hp.next h
 have HO : Hid (∀ wx, Below w.heap.size w wx → wx.ownsRow B 86 3 (.slice aa T.length ca) T.length (taV T)) := fun wx h => Jh hO h
 have HGA : Hid (TaG w aa T) := hga
 have HT := Ja hT
 have hv1 := hv.1
 have hv2 := hv.2
 obtain ⟨n, hnl⟩ : ∃ n, n = T.length := ⟨_, rfl⟩
 have HL : Hid (n = T.length) := hnl
 have HPL := Ja hpl
 have HPN := Ja hpn
 have HBW := Ja hB
 rw [← hnl] at hn HP
 clear hnl hga hp hO hT hv hpn
 go_enter Tryz.func102, Tryz.ntmps102
 go_wp2
 go_loopw [8] (fun z wr => ∃ k : Nat, k ≤ n ∧ z = int i64 k ∧ (∀ i (hi : i < T.length), i < k → Z1 o r T[i] = false) ∧ Below w.heap.size w wr) (fun z _ => n - (intOf z).toNat)
 case atStart => exact ⟨0, Nat.zero_le _, rfl, fun i _ h => by omega, Below.refl _ _⟩
 case round =>
  obtain ⟨k, hk, rfl, hall, hbel⟩ := hrel
  have HALL := Ja hall
  have HBE := Ja hbel
  obtain ⟨d0, d1, d2, d3⟩ := Row.four (HP.out wr hbel)
  have hsz := hbel.size
  clear hall
  by_cases hlt : k < n
  ·have hkl : k < T.length := by rw [← HL.out]; exact hlt
   obtain ⟨g, f, rfl, hg, hcc⟩ := HGA.out (by omega)
   obtain rfl : f = 0 := by
    rcases (HO.out w (Below.refl _ _)).2 with ⟨h0, -⟩ | ⟨g2, cap, cur, e, -⟩
    ·cases h0
    ·injection e with e1; injection e1 with e1; injection e1
   have hk1 : (k : Int) < n := by omega
   have hk0 : (0 : Int) ≤ k := by omega
   have q := (hcc k hkl).below hbel hg
   rw [Nat.zero_add] at q
   have HAT : Hid (Z1 o r T[k] = true → Jv T o r v = T.set k { T[k] with n := (T[k].n + v) % 1000000 }) := Vg T o r v k hkl HALL.out
   have HNX : Hid (Z1 o r T[k] = false → ∀ i (hi : i < T.length), i < k + 1 → Z1 o r T[i] = false) := fun h i hi hik => by
    by_cases e : i = k
    ·subst e; exact h
    ·exact HALL.out i hi (by omega)
   have hxn := HT.out T[k] (List.getElem_mem hkl)
   have HC2 : Hid (∀ wx, Below w.heap.size w wx → wx.cell? ⟨g, k * 3 + 2, none⟩ = some (int i64 T[k].n)) := fun wx h => by
    have := ((hcc k hkl).below h hg).2.2
    rwa [Nat.zero_add] at this
   have HSET := Ja (fun c => YW T k hkl c)
   generalize T[k] = x at *
   unfold taC at q
   obtain ⟨q0, q1, q2⟩ := q
   obtain ⟨WW, hWW⟩ : ∃ WW, WW = wr.alloc (.cells #[.string x.o, int i64 x.r, int i64 x.n] 86) := ⟨_, rfl⟩
   have hBW : Below w.heap.size w WW := by rw [hWW]; exact hbel.alloc hsz _
   have hRW : Row WW wr.heap.size #[.string x.o, int i64 x.r, int i64 x.n] 86 := by rw [hWW]; exact Jb wr _ _ rfl
   have HWW : Hid (wr.alloc (.cells #[.string x.o, int i64 x.r, int i64 x.n] 86) = WW) := hWW.symm
   have HBW2 := Ja hBW
   clear hcc hbel hkl hWW
   by_cases h1 : x.o = o
   case neg =>
    have HE := Ja (HNX.out (by unfold Z1; exact decide_eq_false (fun h => h1 h.1)))
    have b1 := JY x.o o h1
    clear h1 HNX HAT HALL
    go_wp2
    rw [HWW.out]
    go_roundw
    case rel => exact ⟨k + 1, by omega, by go_num, HE.out, HBW2.out⟩
    case measure => simp [intOf]; omega
   have b1 := JM x.o o h1
   by_cases h2 : x.r = r
   case neg =>
    have HE := Ja (HNX.out (by unfold Z1; exact decide_eq_false (fun h => h2 h.2)))
    have b2 : (x.r == r) = false := by simp [h2]
    clear h1 h2 HNX HAT HALL
    go_wp2
    rw [HWW.out]
    go_roundw
    case rel => exact ⟨k + 1, by omega, by go_num, HE.out, HBW2.out⟩
    case measure => simp [intOf]; omega
   have b2 : (x.r == r) = true := by simp [h2]
   have HTL := Ja (HAT.out (by unfold Z1; exact decide_eq_true ⟨h1, h2⟩))
   clear h1 h2 HNX HAT HALL
   go_wp2
   rw [HWW.out]
   try simp only [List.append_eq, List.cons_append, List.nil_append]
   clear q0 q1 q2 d0 d1 d2 d3
   have hwr1 : IntKind.i64.wrap (x.n + v) = x.n + v := by rw [IntKind.wrap_i64] <;> omega
   have hmod : (x.n + v).tmod 1000000 = (x.n + v) % 1000000 := Int.tmod_eq_emod_of_nonneg (by omega)
   have HS : Hid (∀ wx, Below WW.heap.size WW wx → wx.cell? ⟨p, 1, none⟩ = some (.slice (some ⟨g, 0, none⟩) n ca) ∧ wx.cell? ⟨wr.heap.size, 2, none⟩ = some (int i64 x.n)) := fun wx h => ⟨(HP.out wx (HBW2.out.trans (h.mono HBW2.out.size))).cell 1 rfl, (hRW.next h).cell 2 rfl⟩
   have hBc : Below WW.heap.size WW WW.drew := (Below.refl _ _).drew
   refine wph HS hBc 13 ?_
   refine tQ 0 JjF ?_; refine tQ 1 JjK ?_; refine tQ 2 Jju ?_; refine tQ 3 Ji8 ?_; refine tQ 4 JiO ?_; refine tQ 5 Jjr ?_; refine tQ 6 JjL ?_; refine tQ 7 Jjl ?_; refine tQ 8 JjA ?_; refine tQ 9 JjQ ?_; refine tQ 10 Jif ?_; refine tQ 11 Jg6 ?_
   have hOD := HO.out _ (HBW2.out.trans (hBc.mono HBW2.out.size))
   have hgp : p ≠ g := fun e => HPN.out g rfl e.symm
   have hj : k * 3 + 2 < T.length * 3 := by have := HL.out; omega
   have y0 : WW.drew.cell? ⟨g, k * 3 + 2, none⟩ = some (int i64 x.n) := HC2.out _ (HBW2.out.trans (hBc.mono HBW2.out.size))
   have y1 := hOD.frozenAt (k * 3 + 2)
   have HST := Ja (hOD.stored (k * 3 + 2) (int i64 ((x.n + v) % 1000000)))
   have HPD := Ja (HP.out _ (HBW2.out.trans (hBc.mono HBW2.out.size)))
   have HBD := Ja (HBW2.out.trans (hBc.mono HBW2.out.size))
   refine rd 12 JiE (fun K hK => ?_)
   go_simp
   rw [show (WW.setCell ⟨g, k * 3 + 2, none⟩ (int i64 ((x.n + v) % 1000000))).drew = WW.drew.setCell ⟨g, k * 3 + 2, none⟩ (int i64 ((x.n + v) % 1000000)) from rfl]
   have hS2 : (WW.drew.setCell ⟨g, k * 3 + 2, none⟩ (int i64 ((x.n + v) % 1000000))).cell? ⟨p, 1, none⟩ = some (.slice (some ⟨g, 0, none⟩) n ca) ∧ (WW.drew.setCell ⟨g, k * 3 + 2, none⟩ (int i64 ((x.n + v) % 1000000))).cell? ⟨wr.heap.size, 2, none⟩ = some (int i64 x.n) := ⟨(HPD.out.other (by simp; exact hgp) _).cell 1 rfl, ((hRW.next hBc).other (by simp; omega) _).cell 2 rfl⟩
   have HRF : Hid (Row (WW.drew.setCell ⟨g, k * 3 + 2, none⟩ (int i64 ((x.n + v) % 1000000))) p #[u0, .slice (some ⟨g, 0, none⟩) n ca, u2, u3] 29) := HPD.out.other (by simp; exact hgp) _
   have HFR : Hid (Frm w (WW.drew.setCell ⟨g, k * 3 + 2, none⟩ (int i64 ((x.n + v) % 1000000))) p (.slice (some ⟨g, 0, none⟩) T.length ca)) := by
    refine ⟨HBD.out.os, HBD.out.tape, HBD.out.output, by simpa [World.setCell] using HBD.out.size, fun j hj hp hu => ?_⟩
    rw [Below.heap_setCell WW.drew _ _ j (fun e => hu (by rw [e]; rfl))]
    exact HBD.out.block j hj
   have HOF : Hid ((WW.drew.setCell ⟨g, k * 3 + 2, none⟩ (int i64 ((x.n + v) % 1000000))).ownsRow B 86 3 (.slice (some ⟨g, 0, none⟩) T.length ca) T.length (taV (Jv T o r v))) := by
    have := HST.out.1
    rw [HSET.out] at this
    rw [HTL.out]; exact this
   have HLN : Hid ((Jv T o r v).length = T.length) := by show _ = _; rw [HTL.out, List.length_set]
   generalize WW.drew.setCell ⟨g, k * 3 + 2, none⟩ (int i64 ((x.n + v) % 1000000)) = YY at *
   refine hK.out _ _ hS2 (fun _ => ?_)
   clear hK K hS2 y0 y1
   refine wpd ?_
   go_wp2
   try simp only [Exit.inBlock, Exit.then]
   refine bodyPost_ret (results_none rfl _ _ _) rfl ?_
   refine ⟨rfl, some ⟨g, 0, none⟩, ca, ?_, ?_, fun j hj => .inl (by rw [HLN.out] at hj; exact hj), HFR.out⟩
   ·rw [HLN.out, ← HL.out]; exact HRF.out
   ·rw [HLN.out]; exact HOF.out
  ·have hk1 : ¬ ((k : Int) < n) := by omega
   have HALL2 : Hid (∀ i (hi : i < T.length), Z1 o r T[i] = false) := fun i hi => HALL.out i hi (by have := HL.out; omega)
   have HNEW := Ja (G8 T o r v HALL2.out)
   have HEN : Hid (∀ (P : List Ta) (b : Bool), Zh (fun t => ZJ o r t) ⟨o, r, v⟩ (T.take n) = (P, b) → Jv T o r v = if b then P else P ++ [⟨o, r, v⟩]) := fun P b h => by
    rw [HL.out, List.take_length] at h
    rw [HNEW.out, ← Ve, h]
   obtain ⟨i0, hi, hz0, hz1, hz2⟩ := info_parts Zn
   obtain ⟨X, hX⟩ : ∃ X, X = wr.alloc (.cells #[] 86) := ⟨_, rfl⟩
   have HO0 : Hid (X.ownsRow wr.heap.size 86 3 (.slice (some ⟨wr.heap.size, 0, none⟩) 0 0) ([] : List Ta).length (taV [])) := by rw [hX]; exact J1 wr 86 3 rfl (Nat.le_refl _)
   have HB0 : Hid (Below wr.heap.size wr X) := by rw [hX]; exact (Below.refl _ _).alloc (Nat.le_refl _) _
   have HX : Hid (wr.alloc (.cells #[] 86) = X) := hX.symm
   clear HALL HALL2 HNEW hX hbel
   go_wp2
   rw [HX.out]
   clear HX d0 d1 d2 d3
   rename World => X2
   obtain ⟨Z, hZZ⟩ : ∃ Z, Z = wr := ⟨_, rfl⟩
   have hZs : w.heap.size ≤ Z.heap.size := by rw [hZZ]; exact hsz
   have HBZ : Hid (Below w.heap.size w Z) := by rw [hZZ]; exact HBE.out
   rw [← hZZ] at HO0 HB0 ⊢
   clear hZZ hsz HBE hlt hk1 hk
   go_loopw [10, 11, 12] (fun x' q z wq => ∃ (k : Nat) (P : List Ta) (b : Bool), k ≤ n ∧ z = int i64 k ∧ q = .bool b ∧ P.length ≤ k + 1 ∧ (b = false → P.length ≤ k) ∧ Zh (fun t => ZJ o r t) ⟨o, r, v⟩ (T.take k) = (P, b) ∧ wq.ownsRow Z.heap.size 86 3 x' P.length (taV P) ∧ Below Z.heap.size Z wq) (fun _ _ z _ => n - (intOf z).toNat)
   case atStart => exact ⟨0, [], false, Nat.zero_le _, rfl, rfl, by simp, by simp, rfl, HO0.out, HB0.out⟩
   case round =>
    clear HO0 HB0
    obtain ⟨k, P, b, hk, rfl, rfl, hpl2, hpf, hin, hown, hbq⟩ := hrel
    have HOW := Ja hown
    have HBQ := Ja hbq
    have HIN := Ja hin
    have HPF := Ja hpf
    have hqs := hbq.size
    have hbw : Below w.heap.size w wr := HBZ.out.trans (hbq.mono hZs)
    have HBW3 := Ja hbw
    obtain ⟨d0, d1, d2, d3⟩ := Row.four (HP.out wr hbw)
    clear hown hin hpf
    by_cases hlt : k < n
    ·have hkl : k < T.length := by rw [← HL.out]; exact hlt
     obtain ⟨g, f, rfl, hg, hcc⟩ := HGA.out (by omega)
     have hk1 : (k : Int) < n := by omega
     have hk0 : (0 : Int) ≤ k := by omega
     have q := (hcc k hkl).below hbw hg
     have HIS := Ja (KB (fun t => ZJ o r t) ⟨o, r, v⟩ (T.take k) T[k])
     replace HIS : Hid (Zh (fun t => ZJ o r t) ⟨o, r, v⟩ (T.take (k + 1)) = if b = false ∧ ZJ o r T[k] = true then (P ++ [⟨o, r, v⟩] ++ [T[k]], true) else (P ++ [T[k]], b)) := by
      show _ = _
      rw [GI T k hkl, HIS.out, HIN.out]
     generalize T[k] = x at *
     unfold taC at q
     obtain ⟨q0, q1, q2⟩ := q
     obtain ⟨WW, hWW⟩ : ∃ WW, WW = wr.alloc (.cells #[.string x.o, int i64 x.r, int i64 x.n] 86) := ⟨_, rfl⟩
     have hBW : Below Z.heap.size Z WW := by rw [hWW]; exact hbq.alloc hqs _
     have hOW : WW.ownsRow Z.heap.size 86 3 u10 P.length (taV P) := by rw [hWW]; exact HOW.out.alloc _
     have hRW : Row WW wr.heap.size #[.string x.o, int i64 x.r, int i64 x.n] 86 := by rw [hWW]; exact Jb wr _ _ rfl
     have HWW : Hid (wr.alloc (.cells #[.string x.o, int i64 x.r, int i64 x.n] 86) = WW) := hWW.symm
     have HOB : Hid (∀ k', u10.ownBlock = some k' → Z.heap.size ≤ k') := fun k' hk' => (HOW.out.lt k' hk').1
     have HOB2 : Hid (∀ k', u10.ownBlock = some k' → k' < wr.heap.size) := fun k' hk' => (HOW.out.lt k' hk').2
     have HRX : Hid (∀ wx, Below WW.heap.size WW wx → wx.cell? ⟨wr.heap.size, 0, none⟩ = some (.string x.o) ∧ wx.cell? ⟨wr.heap.size, 1, none⟩ = some (int i64 x.r) ∧ wx.cell? ⟨wr.heap.size, 2, none⟩ = some (int i64 x.n)) := fun wx h => ⟨(hRW.next h).cell 0 rfl, (hRW.next h).cell 1 rfl, (hRW.next h).cell 2 rfl⟩
     have hWs : WW.heap.size = wr.heap.size + 1 := by rw [hWW]; simp
     have HBW4 := Ja hBW
     have HOX : Hid ((WW.alloc (.cells #[.string x.o, int i64 x.r, int i64 x.n] 86)).ownsRow Z.heap.size 86 3 u10 P.length (taV P)) := hOW.alloc _
     have HON : Hid ((WW.alloc (.cells #[.string o, int i64 r, int i64 v] 86)).ownsRow Z.heap.size 86 3 u10 P.length (taV P)) := hOW.alloc _
     have HNX : Hid (∀ j u, [.string x.o, int i64 x.r, int i64 x.n][j]? = some u → (WW.alloc (.cells #[.string x.o, int i64 x.r, int i64 x.n] 86)).cell? (Addr.add ⟨WW.heap.size, 0, none⟩ j) = some u) := Jr WW [.string x.o, int i64 x.r, int i64 x.n] 86 rfl
     have HNN : Hid (∀ j u, [.string o, int i64 r, int i64 v][j]? = some u → (WW.alloc (.cells #[.string o, int i64 r, int i64 v] 86)).cell? (Addr.add ⟨WW.heap.size, 0, none⟩ j) = some u) := Jr WW [.string o, int i64 r, int i64 v] 86 rfl
     have hwz := hBW.size
     clear hcc hkl hWW hOW hRW HOW HIN hbq hbw
     cases b with
     | true =>
      have HIE : Hid (Zh (fun t => ZJ o r t) ⟨o, r, v⟩ (T.take (k + 1)) = (P ++ [x], true)) := by show _ = _; rw [HIS.out, if_neg (by simp)]
      have HOW2 : Hid (((wr.alloc (.cells #[.string x.o, int i64 x.r, int i64 x.n] 86)).alloc (.cells #[.string x.o, int i64 x.r, int i64 x.n] 86)).ownsRow Z.heap.size 86 3 u10 P.length (taV P)) := by rw [HWW.out]; exact HOX.out
      have HNW2 : Hid (∀ j u, [.string x.o, int i64 x.r, int i64 x.n][j]? = some u → ((wr.alloc (.cells #[.string x.o, int i64 x.r, int i64 x.n] 86)).alloc (.cells #[.string x.o, int i64 x.r, int i64 x.n] 86)).cell? (Addr.add ⟨wr.heap.size + 1, 0, none⟩ j) = some u) := by rw [HWW.out, ← hWs]; exact HNX.out
      have HB5 : Hid (Below Z.heap.size Z ((wr.alloc (.cells #[.string x.o, int i64 x.r, int i64 x.n] 86)).alloc (.cells #[.string x.o, int i64 x.r, int i64 x.n] 86))) := by rw [HWW.out]; exact HBW4.out.alloc hwz _
      have HSZ : Hid (Z.heap.size ≤ ((wr.alloc (.cells #[.string x.o, int i64 x.r, int i64 x.n] 86)).alloc (.cells #[.string x.o, int i64 x.r, int i64 x.n] 86)).heap.size) := HB5.out.size
      clear HIS HOX HON HNX HNN HWW HRX
      go_wp2_with (at_builtin; refine wpList_append_own _ rfl _ _ 25 rfl Z.heap.size 86 i0 (.agg #[.string ⟨#[]⟩, int i64 0, int i64 0]) 3 32 Tryz.underlying25 hi hz0 hz1 hz2 rfl (by decide) _ _ _ rfl HOW2.out ⟨wr.heap.size + 1, 0, none⟩ 1 1 [.string x.o, int i64 x.r, int i64 x.n] rfl rfl HNW2.out (by intro u' hu'; simp at hu'; rcases hu' with rfl | rfl | rfl <;> rfl) (by unfold maxLen; omega) (by omega) HSZ.out ?_)
      intro v2 w4 hown4 hgrow hne
      have hb4 : Below Z.heap.size Z w4 := HB5.out.grown hgrow (by simp; omega) HOB.out
      have HO4 : Hid (w4.ownsRow Z.heap.size 86 3 v2 (P ++ [x]).length (taV (P ++ [x]))) := by
       show World.ownsRow _ _ _ _ _ _ _
       rw [Zr, Jq]; exact hown4
      clear hown4 hgrow hne HOW2 HNW2 HB5 HSZ
      go_wp2
      go_roundw
      case rel => exact ⟨k + 1, P ++ [x], true, by omega, by go_num, rfl, by simp; omega, (fun h => by cases h), HIE.out, HO4.out, hb4⟩
      case measure => simp [intOf]; omega
     | false =>
      have hpk := HPF.out (by simp)
      rcases VU x.o o with ⟨s1, s2, s3⟩ | ⟨s1, s2, s3⟩ | ⟨s1, s2, s3⟩
      ·have hgt : ZJ o r x = true := by unfold ZJ; exact decide_eq_true (.inl s3)
       clear s3
       have HIE : Hid (Zh (fun t => ZJ o r t) ⟨o, r, v⟩ (T.take (k + 1)) = (P ++ [⟨o, r, v⟩] ++ [x], true)) := by show _ = _; rw [HIS.out, if_pos (by simp [hgt])]
       have HOW2 : Hid (((wr.alloc (.cells #[.string x.o, int i64 x.r, int i64 x.n] 86)).alloc (.cells #[.string o, int i64 r, int i64 v] 86)).ownsRow Z.heap.size 86 3 u10 P.length (taV P)) := by rw [HWW.out]; exact HON.out
       have HNW2 : Hid (∀ j u, [.string o, int i64 r, int i64 v][j]? = some u → ((wr.alloc (.cells #[.string x.o, int i64 x.r, int i64 x.n] 86)).alloc (.cells #[.string o, int i64 r, int i64 v] 86)).cell? (Addr.add ⟨wr.heap.size + 1, 0, none⟩ j) = some u) := by rw [HWW.out, ← hWs]; exact HNN.out
       have HB5 : Hid (Below Z.heap.size Z ((wr.alloc (.cells #[.string x.o, int i64 x.r, int i64 x.n] 86)).alloc (.cells #[.string o, int i64 r, int i64 v] 86))) := by rw [HWW.out]; exact HBW4.out.alloc hwz _
       have HSZ : Hid (Z.heap.size ≤ ((wr.alloc (.cells #[.string x.o, int i64 x.r, int i64 x.n] 86)).alloc (.cells #[.string o, int i64 r, int i64 v] 86)).heap.size) := HB5.out.size
       clear HIS HOX HON HNX HNN hgt
       go_wp2_with (at_builtin; refine wpList_append_own _ rfl _ _ 25 rfl Z.heap.size 86 i0 (.agg #[.string ⟨#[]⟩, int i64 0, int i64 0]) 3 32 Tryz.underlying25 hi hz0 hz1 hz2 rfl (by decide) _ _ _ rfl HOW2.out ⟨wr.heap.size + 1, 0, none⟩ 1 1 [.string o, int i64 r, int i64 v] rfl rfl HNW2.out (by intro u' hu'; simp at hu'; rcases hu' with rfl | rfl | rfl <;> rfl) (by unfold maxLen; omega) (by omega) HSZ.out ?_)
       intro v2 w4 hown4 hgrow hne
       have hb4 : Below Z.heap.size Z w4 := HB5.out.grown hgrow (by simp; omega) HOB.out
       have hR4 : Row w4 wr.heap.size #[.string x.o, int i64 x.r, int i64 x.n] 86 := Row.grown (show Row ((wr.alloc (.cells #[.string x.o, int i64 x.r, int i64 x.n] 86)).alloc (.cells #[.string o, int i64 r, int i64 v] 86)) wr.heap.size #[.string x.o, int i64 x.r, int i64 x.n] 86 from (Jb wr _ _ rfl).alloc _) hgrow (fun e => by have := HOB2.out _ e; omega)
       have m0 := hR4.cell 0 rfl
       have m1 := hR4.cell 1 rfl
       have m2 := hR4.cell 2 rfl
       have hs4 := hb4.size
       have HO4 : Hid ((w4.alloc (.cells #[.string x.o, int i64 x.r, int i64 x.n] 86)).ownsRow Z.heap.size 86 3 v2 (P ++ [(⟨o, r, v⟩ : Ta)]).length (taV (P ++ [(⟨o, r, v⟩ : Ta)]))) := by
        refine World.ownsRow.alloc ?_ _
        rw [Zr, Jq]; exact hown4
       have HN4 : Hid (∀ j u, [.string x.o, int i64 x.r, int i64 x.n][j]? = some u → (w4.alloc (.cells #[.string x.o, int i64 x.r, int i64 x.n] 86)).cell? (Addr.add ⟨w4.heap.size, 0, none⟩ j) = some u) := Jr w4 [.string x.o, int i64 x.r, int i64 x.n] 86 rfl
       have HOB4 : Hid (∀ k', v2.ownBlock = some k' → Z.heap.size ≤ k') := fun k' hk' => (hown4.lt k' hk').1
       have hlp : (P ++ [(⟨o, r, v⟩ : Ta)]).length = P.length + 1 := Jq _ _
       have HB4 := Ja hb4
       clear hown4 hgrow hne HOW2 HNW2 HB5 HSZ hR4 hb4 HWW HRX
       go_wp2_with (at_builtin; refine wpList_append_own _ rfl _ _ 25 rfl Z.heap.size 86 i0 (.agg #[.string ⟨#[]⟩, int i64 0, int i64 0]) 3 32 Tryz.underlying25 hi hz0 hz1 hz2 rfl (by decide) _ _ _ rfl HO4.out ⟨w4.heap.size, 0, none⟩ 1 1 [.string x.o, int i64 x.r, int i64 x.n] rfl rfl HN4.out (by intro u' hu'; simp at hu'; rcases hu' with rfl | rfl | rfl <;> rfl) (by unfold maxLen; omega) (by omega) (by simp; omega) ?_)
       intro v3 w5 hown5 hgrow5 hne5
       have hb5 : Below Z.heap.size Z w5 := (HB4.out.alloc hs4 _).grown hgrow5 (by simp; omega) HOB4.out
       have HO5 : Hid (w5.ownsRow Z.heap.size 86 3 v3 (P ++ [(⟨o, r, v⟩ : Ta)] ++ [x]).length (taV (P ++ [(⟨o, r, v⟩ : Ta)] ++ [x]))) := by
        show World.ownsRow _ _ _ _ _ _ _
        rw [Zr, Jq, Jq]; exact hown5
       clear hown5 hgrow5 hne5 HO4 HN4 HOB4 HB4 m0 m1 m2
       go_wp2
       go_roundw
       case rel => exact ⟨k + 1, P ++ [(⟨o, r, v⟩ : Ta)] ++ [x], true, by omega, by go_num, rfl, by simp; omega, (fun h => by cases h), HIE.out, HO5.out, hb5⟩
       case measure => simp [intOf]; omega
      ·by_cases hrr : r < x.r
       ·have hgt : ZJ o r x = true := by unfold ZJ; exact decide_eq_true (.inr ⟨s3, hrr⟩)
        clear s3
        have HIE : Hid (Zh (fun t => ZJ o r t) ⟨o, r, v⟩ (T.take (k + 1)) = (P ++ [⟨o, r, v⟩] ++ [x], true)) := by show _ = _; rw [HIS.out, if_pos (by simp [hgt])]
        have HOW2 : Hid (((wr.alloc (.cells #[.string x.o, int i64 x.r, int i64 x.n] 86)).alloc (.cells #[.string o, int i64 r, int i64 v] 86)).ownsRow Z.heap.size 86 3 u10 P.length (taV P)) := by rw [HWW.out]; exact HON.out
        have HNW2 : Hid (∀ j u, [.string o, int i64 r, int i64 v][j]? = some u → ((wr.alloc (.cells #[.string x.o, int i64 x.r, int i64 x.n] 86)).alloc (.cells #[.string o, int i64 r, int i64 v] 86)).cell? (Addr.add ⟨wr.heap.size + 1, 0, none⟩ j) = some u) := by rw [HWW.out, ← hWs]; exact HNN.out
        have HB5 : Hid (Below Z.heap.size Z ((wr.alloc (.cells #[.string x.o, int i64 x.r, int i64 x.n] 86)).alloc (.cells #[.string o, int i64 r, int i64 v] 86))) := by rw [HWW.out]; exact HBW4.out.alloc hwz _
        have HSZ : Hid (Z.heap.size ≤ ((wr.alloc (.cells #[.string x.o, int i64 x.r, int i64 x.n] 86)).alloc (.cells #[.string o, int i64 r, int i64 v] 86)).heap.size) := HB5.out.size
        clear HIS HOX HON HNX HNN hgt
        go_wp2_with (at_builtin; refine wpList_append_own _ rfl _ _ 25 rfl Z.heap.size 86 i0 (.agg #[.string ⟨#[]⟩, int i64 0, int i64 0]) 3 32 Tryz.underlying25 hi hz0 hz1 hz2 rfl (by decide) _ _ _ rfl HOW2.out ⟨wr.heap.size + 1, 0, none⟩ 1 1 [.string o, int i64 r, int i64 v] rfl rfl HNW2.out (by intro u' hu'; simp at hu'; rcases hu' with rfl | rfl | rfl <;> rfl) (by unfold maxLen; omega) (by omega) HSZ.out ?_)
        intro v2 w4 hown4 hgrow hne
        have hb4 : Below Z.heap.size Z w4 := HB5.out.grown hgrow (by simp; omega) HOB.out
        have hR4 : Row w4 wr.heap.size #[.string x.o, int i64 x.r, int i64 x.n] 86 := Row.grown (show Row ((wr.alloc (.cells #[.string x.o, int i64 x.r, int i64 x.n] 86)).alloc (.cells #[.string o, int i64 r, int i64 v] 86)) wr.heap.size #[.string x.o, int i64 x.r, int i64 x.n] 86 from (Jb wr _ _ rfl).alloc _) hgrow (fun e => by have := HOB2.out _ e; omega)
        have m0 := hR4.cell 0 rfl
        have m1 := hR4.cell 1 rfl
        have m2 := hR4.cell 2 rfl
        have hs4 := hb4.size
        have HO4 : Hid ((w4.alloc (.cells #[.string x.o, int i64 x.r, int i64 x.n] 86)).ownsRow Z.heap.size 86 3 v2 (P ++ [(⟨o, r, v⟩ : Ta)]).length (taV (P ++ [(⟨o, r, v⟩ : Ta)]))) := by
         refine World.ownsRow.alloc ?_ _
         rw [Zr, Jq]; exact hown4
        have HN4 : Hid (∀ j u, [.string x.o, int i64 x.r, int i64 x.n][j]? = some u → (w4.alloc (.cells #[.string x.o, int i64 x.r, int i64 x.n] 86)).cell? (Addr.add ⟨w4.heap.size, 0, none⟩ j) = some u) := Jr w4 [.string x.o, int i64 x.r, int i64 x.n] 86 rfl
        have HOB4 : Hid (∀ k', v2.ownBlock = some k' → Z.heap.size ≤ k') := fun k' hk' => (hown4.lt k' hk').1
        have hlp : (P ++ [(⟨o, r, v⟩ : Ta)]).length = P.length + 1 := Jq _ _
        have HB4 := Ja hb4
        clear hown4 hgrow hne HOW2 HNW2 HB5 HSZ hR4 hb4 HWW HRX
        go_wp2_with (at_builtin; refine wpList_append_own _ rfl _ _ 25 rfl Z.heap.size 86 i0 (.agg #[.string ⟨#[]⟩, int i64 0, int i64 0]) 3 32 Tryz.underlying25 hi hz0 hz1 hz2 rfl (by decide) _ _ _ rfl HO4.out ⟨w4.heap.size, 0, none⟩ 1 1 [.string x.o, int i64 x.r, int i64 x.n] rfl rfl HN4.out (by intro u' hu'; simp at hu'; rcases hu' with rfl | rfl | rfl <;> rfl) (by unfold maxLen; omega) (by omega) (by simp; omega) ?_)
        intro v3 w5 hown5 hgrow5 hne5
        have hb5 : Below Z.heap.size Z w5 := (HB4.out.alloc hs4 _).grown hgrow5 (by simp; omega) HOB4.out
        have HO5 : Hid (w5.ownsRow Z.heap.size 86 3 v3 (P ++ [(⟨o, r, v⟩ : Ta)] ++ [x]).length (taV (P ++ [(⟨o, r, v⟩ : Ta)] ++ [x]))) := by
         show World.ownsRow _ _ _ _ _ _ _
         rw [Zr, Jq, Jq]; exact hown5
        clear hown5 hgrow5 hne5 HO4 HN4 HOB4 HB4 m0 m1 m2
        go_wp2
        go_roundw
        case rel => exact ⟨k + 1, P ++ [(⟨o, r, v⟩ : Ta)] ++ [x], true, by omega, by go_num, rfl, by simp; omega, (fun h => by cases h), HIE.out, HO5.out, hb5⟩
        case measure => simp [intOf]; omega
       ·have hgt : ZJ o r x = false := by
         unfold ZJ; exact decide_eq_false (fun h => h.elim (fun e => Jbr e s3.symm) (fun e => hrr e.2))
        clear s3
        have HIE : Hid (Zh (fun t => ZJ o r t) ⟨o, r, v⟩ (T.take (k + 1)) = (P ++ [x], false)) := by show _ = _; rw [HIS.out, if_neg (by simp [hgt])]
        have HOW2 : Hid (((wr.alloc (.cells #[.string x.o, int i64 x.r, int i64 x.n] 86)).alloc (.cells #[.string x.o, int i64 x.r, int i64 x.n] 86)).ownsRow Z.heap.size 86 3 u10 P.length (taV P)) := by rw [HWW.out]; exact HOX.out
        have HNW2 : Hid (∀ j u, [.string x.o, int i64 x.r, int i64 x.n][j]? = some u → ((wr.alloc (.cells #[.string x.o, int i64 x.r, int i64 x.n] 86)).alloc (.cells #[.string x.o, int i64 x.r, int i64 x.n] 86)).cell? (Addr.add ⟨wr.heap.size + 1, 0, none⟩ j) = some u) := by rw [HWW.out, ← hWs]; exact HNX.out
        have HB5 : Hid (Below Z.heap.size Z ((wr.alloc (.cells #[.string x.o, int i64 x.r, int i64 x.n] 86)).alloc (.cells #[.string x.o, int i64 x.r, int i64 x.n] 86))) := by rw [HWW.out]; exact HBW4.out.alloc hwz _
        have HSZ : Hid (Z.heap.size ≤ ((wr.alloc (.cells #[.string x.o, int i64 x.r, int i64 x.n] 86)).alloc (.cells #[.string x.o, int i64 x.r, int i64 x.n] 86)).heap.size) := HB5.out.size
        clear HIS HOX HON HNX HNN HWW HRX hgt
        go_wp2_with (at_builtin; refine wpList_append_own _ rfl _ _ 25 rfl Z.heap.size 86 i0 (.agg #[.string ⟨#[]⟩, int i64 0, int i64 0]) 3 32 Tryz.underlying25 hi hz0 hz1 hz2 rfl (by decide) _ _ _ rfl HOW2.out ⟨wr.heap.size + 1, 0, none⟩ 1 1 [.string x.o, int i64 x.r, int i64 x.n] rfl rfl HNW2.out (by intro u' hu'; simp at hu'; rcases hu' with rfl | rfl | rfl <;> rfl) (by unfold maxLen; omega) (by omega) HSZ.out ?_)
        intro v2 w4 hown4 hgrow hne
        have hb4 : Below Z.heap.size Z w4 := HB5.out.grown hgrow (by simp; omega) HOB.out
        have HO4 : Hid (w4.ownsRow Z.heap.size 86 3 v2 (P ++ [x]).length (taV (P ++ [x]))) := by
         show World.ownsRow _ _ _ _ _ _ _
         rw [Zr, Jq]; exact hown4
        clear hown4 hgrow hne HOW2 HNW2 HB5 HSZ
        go_wp2
        go_roundw
        case rel => exact ⟨k + 1, P ++ [x], false, by omega, by go_num, rfl, by simp; omega, (fun _ => by simp; omega), HIE.out, HO4.out, hb4⟩
        case measure => simp [intOf]; omega
      ·have hgt : ZJ o r x = false := by
        unfold ZJ; exact decide_eq_false (fun h => h.elim (fun e => List.lt_irrefl _ (List.lt_trans e s3)) (fun e => Jbr s3 e.1))
       clear s3
       have HIE : Hid (Zh (fun t => ZJ o r t) ⟨o, r, v⟩ (T.take (k + 1)) = (P ++ [x], false)) := by show _ = _; rw [HIS.out, if_neg (by simp [hgt])]
       have HOW2 : Hid (((wr.alloc (.cells #[.string x.o, int i64 x.r, int i64 x.n] 86)).alloc (.cells #[.string x.o, int i64 x.r, int i64 x.n] 86)).ownsRow Z.heap.size 86 3 u10 P.length (taV P)) := by rw [HWW.out]; exact HOX.out
       have HNW2 : Hid (∀ j u, [.string x.o, int i64 x.r, int i64 x.n][j]? = some u → ((wr.alloc (.cells #[.string x.o, int i64 x.r, int i64 x.n] 86)).alloc (.cells #[.string x.o, int i64 x.r, int i64 x.n] 86)).cell? (Addr.add ⟨wr.heap.size + 1, 0, none⟩ j) = some u) := by rw [HWW.out, ← hWs]; exact HNX.out
       have HB5 : Hid (Below Z.heap.size Z ((wr.alloc (.cells #[.string x.o, int i64 x.r, int i64 x.n] 86)).alloc (.cells #[.string x.o, int i64 x.r, int i64 x.n] 86))) := by rw [HWW.out]; exact HBW4.out.alloc hwz _
       have HSZ : Hid (Z.heap.size ≤ ((wr.alloc (.cells #[.string x.o, int i64 x.r, int i64 x.n] 86)).alloc (.cells #[.string x.o, int i64 x.r, int i64 x.n] 86)).heap.size) := HB5.out.size
       clear HIS HOX HON HNX HNN HWW HRX hgt
       go_wp2_with (at_builtin; refine wpList_append_own _ rfl _ _ 25 rfl Z.heap.size 86 i0 (.agg #[.string ⟨#[]⟩, int i64 0, int i64 0]) 3 32 Tryz.underlying25 hi hz0 hz1 hz2 rfl (by decide) _ _ _ rfl HOW2.out ⟨wr.heap.size + 1, 0, none⟩ 1 1 [.string x.o, int i64 x.r, int i64 x.n] rfl rfl HNW2.out (by intro u' hu'; simp at hu'; rcases hu' with rfl | rfl | rfl <;> rfl) (by unfold maxLen; omega) (by omega) HSZ.out ?_)
       intro v2 w4 hown4 hgrow hne
       have hb4 : Below Z.heap.size Z w4 := HB5.out.grown hgrow (by simp; omega) HOB.out
       have HO4 : Hid (w4.ownsRow Z.heap.size 86 3 v2 (P ++ [x]).length (taV (P ++ [x]))) := by
        show World.ownsRow _ _ _ _ _ _ _
        rw [Zr, Jq]; exact hown4
       clear hown4 hgrow hne HOW2 HNW2 HB5 HSZ
       go_wp2
       go_roundw
       case rel => exact ⟨k + 1, P ++ [x], false, by omega, by go_num, rfl, by simp; omega, (fun _ => by simp; omega), HIE.out, HO4.out, hb4⟩
       case measure => simp [intOf]; omega
    ·have hk1 : ¬ ((k : Int) < n) := by omega
     have HE : Hid (Jv T o r v = if b then P else P ++ [⟨o, r, v⟩]) := by
      have hkn : k = n := by omega
      exact HEN.out P b (hkn ▸ HIN.out)
     have HBWW : Hid (B ≤ Z.heap.size) := Nat.le_trans HBW.out hZs
     have f1 := (HP.out wr hbw).free 1
     cases b with
     | true =>
      obtain ⟨b1, e1, rfl, -⟩ := TaAt.own HOW.out rfl
      have HTE : Hid (Jv T o r v = P) := HE.out
      have HR : Hid (Row (wr.setCell ⟨p, 1, none⟩ (.slice b1 P.length e1)) p #[u0, .slice b1 P.length e1, u2, u3] 29) := (HP.out wr hbw).st1 _
      have HO5 : Hid ((wr.setCell ⟨p, 1, none⟩ (.slice b1 P.length e1)).ownsRow B 86 3 (.slice b1 P.length e1) P.length (taV P)) := Jk (JF HOW.out (Nat.lt_of_lt_of_le HPL.out hZs)) HBWW.out
      have HLT : Hid (∀ j, (Value.slice b1 P.length e1).ownBlock = some j → w.heap.size ≤ j) := fun j hj => Nat.le_trans hZs (HOW.out.lt j hj).1
      have HFR : Hid (Frm w (wr.setCell ⟨p, 1, none⟩ (.slice b1 P.length e1)) p (.slice aa T.length ca)) := by
       refine ⟨hbw.os, hbw.tape, hbw.output, by simpa [World.setCell] using hbw.size, fun j hj hp hu => ?_⟩
       rw [Below.heap_setCell wr _ _ j (fun e => hp (by rw [e]))]
       exact hbw.block j hj
      clear HOW hbw
      go_wp2
      go_end0
      refine ⟨rfl, b1, e1, ?_, ?_, fun j hj => .inr (HLT.out j (by rw [HTE.out] at hj; exact hj)), HFR.out⟩
      ·rw [HTE.out]; exact HR.out
      ·rw [HTE.out]; exact HO5.out
     | false =>
      have HOWN := Ja (HOW.out.alloc (.cells #[.string o, int i64 r, int i64 v] 86))
      have HNN : Hid (∀ j u, [.string o, int i64 r, int i64 v][j]? = some u → (wr.alloc (.cells #[.string o, int i64 r, int i64 v] 86)).cell? (Addr.add ⟨wr.heap.size, 0, none⟩ j) = some u) := Jr wr [.string o, int i64 r, int i64 v] 86 rfl
      have HOB : Hid (∀ k', u10.ownBlock = some k' → Z.heap.size ≤ k') := fun k' hk' => (HOW.out.lt k' hk').1
      clear HOW
      go_wp2_with (at_builtin; refine wpList_append_own _ rfl _ _ 25 rfl Z.heap.size 86 i0 (.agg #[.string ⟨#[]⟩, int i64 0, int i64 0]) 3 32 Tryz.underlying25 hi hz0 hz1 hz2 rfl (by decide) _ _ _ rfl HOWN.out ⟨wr.heap.size, 0, none⟩ 1 1 [.string o, int i64 r, int i64 v] rfl rfl HNN.out (by intro u' hu'; simp at hu'; rcases hu' with rfl | rfl | rfl <;> rfl) (by unfold maxLen; omega) (by omega) (by simp; omega) ?_)
      intro v2 w4 hown4 hgrow hne
      have hbq : Below Z.heap.size Z w4 := (HBQ.out.alloc hqs _).grown hgrow (by simp; omega) HOB.out
      obtain ⟨P2, hP2⟩ : ∃ P2, P2 = P ++ [(⟨o, r, v⟩ : Ta)] := ⟨_, rfl⟩
      have HOW : Hid (w4.ownsRow Z.heap.size 86 3 v2 P2.length (taV P2)) := by
       show World.ownsRow _ _ _ _ _ _ _
       rw [hP2, Zr, Jq]; exact hown4
      have HTE : Hid (Jv T o r v = P2) := by show _ = _; rw [hP2]; exact HE.out
      clear hown4 hgrow hne HOWN HNN HOB hP2 HE f1 d0 d1 d2 d3
      generalize P2 = P at *
      have hbw : Below w.heap.size w w4 := HBZ.out.trans (hbq.mono hZs)
      have hqs := hbq.size
      have f1 := (HP.out w4 hbw).free 1
      obtain ⟨d0, d1, d2, d3⟩ := Row.four (HP.out w4 hbw)
      obtain ⟨b1, e1, rfl, -⟩ := TaAt.own HOW.out rfl
      have HR : Hid (Row (w4.setCell ⟨p, 1, none⟩ (.slice b1 P.length e1)) p #[u0, .slice b1 P.length e1, u2, u3] 29) := (HP.out w4 hbw).st1 _
      have HO5 : Hid ((w4.setCell ⟨p, 1, none⟩ (.slice b1 P.length e1)).ownsRow B 86 3 (.slice b1 P.length e1) P.length (taV P)) := Jk (JF HOW.out (Nat.lt_of_lt_of_le HPL.out hZs)) HBWW.out
      have HLT : Hid (∀ j, (Value.slice b1 P.length e1).ownBlock = some j → w.heap.size ≤ j) := fun j hj => Nat.le_trans hZs (HOW.out.lt j hj).1
      have HFR : Hid (Frm w (w4.setCell ⟨p, 1, none⟩ (.slice b1 P.length e1)) p (.slice aa T.length ca)) := by
       refine ⟨hbw.os, hbw.tape, hbw.output, by simpa [World.setCell] using hbw.size, fun j hj hp hu => ?_⟩
       rw [Below.heap_setCell w4 _ _ j (fun e => hp (by rw [e]))]
       exact hbw.block j hj
      clear HOW hbw
      go_wp2
      go_end0
      refine ⟨rfl, b1, e1, ?_, ?_, fun j hj => .inr (HLT.out j (by rw [HTE.out] at hj; exact hj)), HFR.out⟩
      ·rw [HTE.out]; exact HR.out
      ·rw [HTE.out]; exact HO5.out
end Go.Proofs.YtepfinenocpneaaGreat
