/- Whether what an act is about is there, as the specification . -/
import Derived.Test.YtdknoflkingodaaGreatQ21
set_option maxHeartbeats 16000000
namespace Go.Proofs.YtdknoflkingodaaGreat
open Value (int)
open IntKind (i64)
set_option maxRecDepth 100000
set_option linter.unusedVariables false
open Go.RowKit
def JU (S : Sta) (A : Ac) : Prop := (A.k ≠ 7 ∧ (A.k ≠ 6 ∨ (A.x = 0 ∧ A.z = 0))) ∨ ∃ k, ∃ h : k < S.C.length, cellAt S.C A.x A.z 0 = (k : Int) ∧ S.C[k].o = A.o ∧ (A.k = 7 ∨ S.C[k].t < A.t)
abbrev Jc0 : Oper := oq 24 (.move (.tmp 5)) 3 "l07_done.go:82" #[] none
abbrev JcT : Oper := oq 25 (.binOp .geq 3 (.tmp 24) (.const (int i64 0)) 3) 4 "l07_done.go:82" #[eD 0] none
abbrev JcY : Oper := oq 26 (.move (.tmp 25)) 4 "l07_done.go:82" #[eD 1] none
abbrev JcH : Oper := oq 27 (.fieldAddr 29 (.tmp 2) 3) 0 "l07_done.go:82" #[eG 2] (some (2, true))
abbrev Jc6 : Oper := oq 28 (.load 27 (.tmp 27)) 27 "l07_done.go:82" #[eD 3, eG 2] (some (2, true))
abbrev Jdb : Oper := oq 29 (.move (.tmp 5)) 3 "l07_done.go:82" #[eG 2] (some (2, true))
abbrev JcX : Oper := oq 30 (.indexAddr 27 (.tmp 28) (.tmp 29)) 0 "l07_done.go:82" #[eD 4, eD 5, eG 2] (some (2, true))
abbrev Jdf : Oper := oq 31 (.fieldAddr 35 (.tmp 30) 0) 0 "l07_done.go:82" #[eD 6, eG 2] (some (2, true))
abbrev Jdm : Oper := oq 32 (.load 9 (.tmp 31)) 9 "l07_done.go:82" #[eD 7, eG 2] (some (2, true))
abbrev JcI : Oper := oq 33 (.fieldAddr 62 (.tmp 3) 4) 0 "l07_done.go:82" #[eG 2] (some (2, true))
abbrev YJ : Oper := oq 34 (.load 9 (.tmp 33)) 9 "l07_done.go:82" #[eD 9, eG 2] (some (2, true))
abbrev Jal : Oper := oq 35 (.binOp .eql 9 (.tmp 32) (.tmp 34) 9) 4 "l07_done.go:82" #[eD 8, eD 10, eG 2] (some (2, true))
abbrev YC : Oper := oq 36 (.pick (.tmp 26) (.tmp 35) (.const (.bool false))) 4 "l07_done.go:82" #[eD 2, eD 11] none
abbrev Jan : Oper := oq 37 (.move (.tmp 36)) 4 "l07_done.go:82" #[eD 12, eC 2] none
abbrev Y0 : Oper := oq 38 (.fieldAddr 62 (.tmp 3) 3) 0 "l07_done.go:82" #[eG 13] (some (13, true))
abbrev YQ : Oper := oq 39 (.load 3 (.tmp 38)) 3 "l07_done.go:82" #[eD 14, eG 13] (some (13, true))
abbrev Jaf : Oper := oq 40 (.binOp .eql 3 (.tmp 39) (.const (int i64 7)) 3) 4 "l07_done.go:82" #[eD 15, eG 13] (some (13, true))
abbrev YF : Oper := oq 41 (.move (.tmp 40)) 4 "l07_done.go:82" #[eD 16, eC 13, eG 13] (some (13, true))
abbrev YA : Oper := oq 42 (.fieldAddr 29 (.tmp 2) 3) 0 "l07_done.go:82" #[eG 17] (some (17, false))
abbrev Ys : Oper := oq 43 (.load 27 (.tmp 42)) 27 "l07_done.go:82" #[eD 18, eG 17] (some (17, false))
abbrev Jae : Oper := oq 44 (.move (.tmp 5)) 3 "l07_done.go:82" #[eG 17] (some (17, false))
abbrev Y9 : Oper := oq 45 (.indexAddr 27 (.tmp 43) (.tmp 44)) 0 "l07_done.go:82" #[eD 19, eD 20, eG 17] (some (17, false))
abbrev Y8 : Oper := oq 46 (.fieldAddr 35 (.tmp 45) 2) 0 "l07_done.go:82" #[eD 21, eG 17] (some (17, false))
abbrev YV : Oper := oq 47 (.load 3 (.tmp 46)) 3 "l07_done.go:82" #[eD 22, eG 17] (some (17, false))
abbrev Jad : Oper := oq 48 (.fieldAddr 62 (.tmp 3) 1) 0 "l07_done.go:82" #[eG 17] (some (17, false))
abbrev YT : Oper := oq 49 (.load 3 (.tmp 48)) 3 "l07_done.go:82" #[eD 24, eG 17] (some (17, false))
abbrev YI : Oper := oq 50 (.binOp .lss 3 (.tmp 47) (.tmp 49) 3) 4 "l07_done.go:82" #[eD 23, eD 25, eG 17] (some (17, false))
abbrev Jap : Oper := oq 51 (.pick (.tmp 41) (.const (.bool true)) (.tmp 50)) 4 "l07_done.go:82" #[eD 17, eD 26, eG 13] (some (13, true))
abbrev Jah : Oper := oq 52 (.pick (.tmp 37) (.tmp 51) (.const (.bool false))) 4 "l07_done.go:82" #[eD 13, eD 27] none
abbrev Jag : Oper := oq 4 (.assign (.tmp 52)) 4 "l07_done.go:82" #[eD 28, eC 17, eP 0, eP 1, eP 2, eP 3, eP 4, eP 5, eP 6, eP 7, eP 8, eP 9, eP 10, eP 11, eP 12, eP 13, eP 14, eP 15, eP 16, eP 17, eP 18, eP 19, eP 20, eP 21, eP 22, eP 23, eP 24, eP 25, eP 26, eP 27, eP 28] none
theorem Ye (S : Sta) (u0 u1 u2 u3 : Value) (A : Ac) (u : Value) (w : World) (hn : Small S) (h : StAt w S u0 u1 u2 u3) :
  Calls Tryz.prog 141 #[.agg #[u0, u1, u2, u3], .agg #[int i64 A.r, int i64 A.s, int i64 A.t, u, int i64 A.k, .string A.o, .string A.y, int i64 A.v, int i64 A.x, int i64 A.z]] w fun e w' => Tells e (JU S A) ∧ Below w.heap.size w w' := by
 obtain ⟨a0, c0, a1, c1, a2, c2, a3, c3, rfl, rfl, rfl, rfl⟩ := h.shape
 obtain ⟨W, hW⟩ : ∃ W, W = (w.alloc (.cells #[.slice a0 S.l.length c0, .slice a1 S.T.length c1, .slice a2 S.L.length c2, .slice a3 S.C.length c3] 29)).alloc (.cells #[int i64 A.r, int i64 A.s, int i64 A.t, u, int i64 A.k, .string A.o, .string A.y, int i64 A.v, int i64 A.x, int i64 A.z] 62) := ⟨_, rfl⟩
 have hR : Row W w.heap.size #[.slice a0 S.l.length c0, .slice a1 S.T.length c1, .slice a2 S.L.length c2, .slice a3 S.C.length c3] 29 := by rw [hW]; exact (Jb w _ _ rfl).alloc _
 have hA : Row W (w.heap.size + 1) #[int i64 A.r, int i64 A.s, int i64 A.t, u, int i64 A.k, .string A.o, .string A.y, int i64 A.v, int i64 A.x, int i64 A.z] 62 := by rw [hW]; exact Jb _ _ _ (by simp)
 have HB : Hid (Below w.heap.size w W) := by rw [hW]; exact ((Below.refl _ _).alloc (Nat.le_refl _) _).alloc (by simp) _
 have hS : StAt W S (.slice a0 S.l.length c0) (.slice a1 S.T.length c1) (.slice a2 S.L.length c2) (.slice a3 S.C.length c3) := by rw [hW]; exact (h.alloc _).alloc _
 have HF : Hid (∀ wx, Below W.heap.size W wx → Below w.heap.size w wx) := fun wx h => HB.out.trans (h.mono HB.out.size)
 have HR4 : Hid (∀ wx, Below W.heap.size W wx → wx.cell? ⟨w.heap.size, 0, none⟩ = some (.slice a0 S.l.length c0) ∧ wx.cell? ⟨w.heap.size, 1, none⟩ = some (.slice a1 S.T.length c1) ∧ wx.cell? ⟨w.heap.size, 2, none⟩ = some (.slice a2 S.L.length c2) ∧ wx.cell? ⟨w.heap.size, 3, none⟩ = some (.slice a3 S.C.length c3)) := fun wx h => Row.four (hR.next h)
 have HRA : Hid (∀ wx, Below W.heap.size W wx → wx.cell? ⟨w.heap.size + 1, 2, none⟩ = some (int i64 A.t) ∧ wx.cell? ⟨w.heap.size + 1, 4, none⟩ = some (int i64 A.k) ∧ wx.cell? ⟨w.heap.size + 1, 5, none⟩ = some (.string A.o) ∧ wx.cell? ⟨w.heap.size + 1, 8, none⟩ = some (int i64 A.x) ∧ wx.cell? ⟨w.heap.size + 1, 9, none⟩ = some (int i64 A.z)) := fun wx h => ⟨(hA.next h).cell 2 rfl, (hA.next h).cell 4 rfl, (hA.next h).cell 5 rfl, (hA.next h).cell 8 rfl, (hA.next h).cell 9 rfl⟩
 have HCA := Ja (ZG S _ _ _ _ A.x A.z W hn.2.2.2 hS)
 have HCG : Hid (CeG W a3 S.C) := by
  obtain ⟨x, y, hq, hg⟩ := hS.2.2.2
  simp only [Value.slice.injEq] at hq
  rw [hq.1]; exact hg
 have HW : Hid ((w.alloc (.cells #[.slice a0 S.l.length c0, .slice a1 S.T.length c1, .slice a2 S.L.length c2, .slice a3 S.C.length c3] 29)).alloc (.cells #[int i64 A.r, int i64 A.s, int i64 A.t, u, int i64 A.k, .string A.o, .string A.y, int i64 A.v, int i64 A.x, int i64 A.z] 62) = W) := hW.symm
 have hrg := KS S.C A.x A.z 0 (by omega)
 have HRI : Hid (¬ (A.k ≠ 7 ∧ (A.k ≠ 6 ∨ (A.x = 0 ∧ A.z = 0))) → ∀ j (h : j < S.C.length), cellAt S.C A.x A.z 0 = (j : Int) → (JU S A ↔ S.C[j].o = A.o ∧ (A.k = 7 ∨ S.C[j].t < A.t))) := fun hz j h e => by
  constructor
  ·rintro (h1 | ⟨i, hi, h1, h2⟩)
   ·exact absurd h1 hz
   ·have : i = j := by omega
    subst this; exact h2
  ·intro h1; exact .inr ⟨j, h, e, h1⟩
 have HRN : Hid (¬ (A.k ≠ 7 ∧ (A.k ≠ 6 ∨ (A.x = 0 ∧ A.z = 0))) → cellAt S.C A.x A.z 0 = -1 → ¬ JU S A) := fun hz e h => by
  rcases h with h | ⟨i, hi, h1, -⟩
  ·exact hz h
  ·omega
 have HYE : Hid ((A.k ≠ 7 ∧ (A.k ≠ 6 ∨ (A.x = 0 ∧ A.z = 0))) → JU S A) := fun h => .inl h
 obtain ⟨nc, hnc⟩ : ∃ n, n = S.C.length := ⟨_, rfl⟩
 have HNC := Ja hnc
 have hW0 : Below W.heap.size W W := Below.refl _ _
 obtain ⟨d0, d1, d2, d3⟩ := HR4.out W hW0
 obtain ⟨e2, e4, e5, e8, e9⟩ := HRA.out W hW0
 rw [hW] at d0 d1 d2 d3 e2 e4 e5 e8 e9
 have hgd := ZL
 have HEQ : Hid (∀ wx, (Op.equalIn 10000 33 (.agg #[int i64 A.x, int i64 A.z]) (.agg #[int i64 0, int i64 0])).run Tryz.prog wx = .ok (decide (A.x = 0 ∧ A.z = 0)) wx) := fun wx => Zh A.x A.z wx
 have HB0 := Ja (HF.out W hW0)
 clear hW h hR hA hS hn hnc
 by_cases hz : A.k ≠ 7 ∧ (A.k ≠ 6 ∨ (A.x = 0 ∧ A.z = 0))
 ·have HE := Ja (HYE.out hz)
  have b7 : (A.k != 7) = true := by simp [hz.1]
  by_cases h6 : A.k = 6
  ·have b6 : (A.k != 6) = false := by simp [h6]
   have hz2 := hz.2.resolve_left (fun h => h h6)
   have heq : ∀ wx, (Op.equalIn 10000 33 (.agg #[int i64 A.x, int i64 A.z]) (.agg #[int i64 0, int i64 0])).run Tryz.prog wx = .ok true wx := fun wx => by rw [HEQ.out, decide_eq_true hz2]
   clear hz h6 hz2
   go_enter Tryz.func141, Tryz.ntmps141
   go_wp2
   rw [HW.out]
   go_ret
   exact ⟨Tells.yes HE.out, HB0.out⟩
  ·have b6 : (A.k != 6) = true := by simp [h6]
   clear hz h6
   go_enter Tryz.func141, Tryz.ntmps141
   go_wp2
   rw [HW.out]
   go_ret
   exact ⟨Tells.yes HE.out, HB0.out⟩
 replace HRI := Ja (HRI.out hz)
 replace HRN := Ja (HRN.out hz)
 have HEND : Hid (∀ (Z : World) (tm : Unit), True) := fun _ _ => trivial
 generalize cellAt S.C A.x A.z 0 = KK at *
 have hcase : A.k = 7 ∨ (A.k = 6 ∧ ¬ (A.x = 0 ∧ A.z = 0)) := by
  by_cases h7 : A.k = 7
  ·exact .inl h7
  ·right
   by_cases h6 : A.k = 6
   ·exact ⟨h6, fun h => hz ⟨h7, .inr h⟩⟩
   ·exact absurd ⟨h7, .inl h6⟩ hz
 clear hz
 rcases hcase with h7 | h6
 ·have b7 : (A.k != 7) = false := by simp [h7]
  have HK7 : Hid (A.k = 7 ∨ False) := .inl h7
  clear h7 HEQ
  go_enter Tryz.func141, Tryz.ntmps141
  go_wp2_with fail
  rw [HW.out]
  refine HCA.out.mono ?_
  rintro e w3 ⟨rfl, hb3⟩
  have HW3 := Ja hb3
  clear d0 d1 d2 d3 e2 e4 e5 e8 e9 HCA HW hW0
  rcases hrg with hk | ⟨hr1, hr2⟩
  ·subst hk
   have HE := Ja (HRN.out rfl)
   have HS1 : Hid (∀ wx, Below w3.heap.size w3 wx → wx.cell? ⟨w.heap.size + 1, 2, none⟩ = some (int i64 A.t)) := fun wx h => (HRA.out wx (HW3.out.trans (h.mono HW3.out.size))).1
   have hBc : Below w3.heap.size w3 w3.drew := (Below.refl _ _).drew
   go_wp2
   try simp only [List.append_eq, List.cons_append, List.nil_append]
   refine wph HS1 hBc 30 ?_
   refine tQ 0 Jc0 ?_ (HS1.out _ hBc); refine tQ 1 JcT ?_ (HS1.out _ hBc); refine tQ 2 JcY ?_ (HS1.out _ hBc); refine sQ 3 JcH ?_ (HS1.out _ hBc); refine sQ 4 Jc6 ?_ (HS1.out _ hBc); refine sQ 5 Jdb ?_ (HS1.out _ hBc); refine sQ 6 JcX ?_ (HS1.out _ hBc); refine sQ 7 Jdf ?_ (HS1.out _ hBc); refine sQ 8 Jdm ?_ (HS1.out _ hBc); refine sQ 9 JcI ?_ (HS1.out _ hBc); refine sQ 10 YJ ?_ (HS1.out _ hBc); refine sQ 11 Jal ?_ (HS1.out _ hBc); refine tQ 12 YC ?_ (HS1.out _ hBc); refine tQ 13 Jan ?_ (HS1.out _ hBc); refine sQ 14 Y0 ?_ (HS1.out _ hBc); refine sQ 15 YQ ?_ (HS1.out _ hBc); refine sQ 16 Jaf ?_ (HS1.out _ hBc); refine sQ 17 YF ?_ (HS1.out _ hBc); refine sQ 18 YA ?_ (HS1.out _ hBc); refine sQ 19 Ys ?_ (HS1.out _ hBc); refine sQ 20 Jae ?_ (HS1.out _ hBc); refine sQ 21 Y9 ?_ (HS1.out _ hBc); refine sQ 22 Y8 ?_ (HS1.out _ hBc); refine sQ 23 YV ?_ (HS1.out _ hBc); refine sQ 24 Jad ?_ (HS1.out _ hBc); refine sQ 25 YT ?_ (HS1.out _ hBc); refine sQ 26 YI ?_ (HS1.out _ hBc); refine sQ 27 Jap ?_ (HS1.out _ hBc); refine tQ 28 Jah ?_ (HS1.out _ hBc); refine tQ 29 Jag ?_ (HS1.out _ hBc)
   refine wpd ?_
   have HB2 := Ja (HF.out _ (HW3.out.trans (hBc.mono HW3.out.size)))
   clear HS1 hBc
   go_wp2
   go_ret
   exact ⟨Tells.no HE.out, HB2.out⟩
  obtain ⟨j, hj⟩ : ∃ j : Nat, KK = j := Int.eq_ofNat_of_zero_le hr1
  subst hj
  have hjl : j < S.C.length := by omega
  have hj1 : (j : Int) < nc := by have := HNC.out; omega
  have hj0 : (0 : Int) ≤ j := by omega
  have HRJ := Ja (HRI.out j hjl rfl)
  obtain ⟨g, f, rfl, hg, hcc⟩ := HCG.out (by omega)
  have HCC : Hid (∀ wx, Below W.heap.size W wx → ceC wx g (f + j * 8) S.C[j]) := fun wx h => (hcc j hjl).below h hg
  generalize S.C[j] = y at *
  have HS5 : Hid (∀ wx, Below w3.heap.size w3 wx → wx.cell? ⟨w.heap.size, 3, none⟩ = some (.slice (some ⟨g, f, none⟩) nc c3) ∧ wx.cell? ⟨w.heap.size + 1, 2, none⟩ = some (int i64 A.t) ∧ wx.cell? ⟨w.heap.size + 1, 4, none⟩ = some (int i64 A.k) ∧ wx.cell? ⟨w.heap.size + 1, 5, none⟩ = some (.string A.o) ∧ wx.cell? ⟨g, f + j * 8, none⟩ = some (.string y.o) ∧ wx.cell? ⟨g, f + j * 8 + 3, none⟩ = some (int i64 y.t)) := fun wx h => by
   have hh := HW3.out.trans (h.mono HW3.out.size)
   obtain ⟨z0, z1, z2, z3⟩ := HR4.out wx hh
   obtain ⟨x2, x4, x5, x8, x9⟩ := HRA.out wx hh
   have hq := HCC.out wx hh
   rw [← HNC.out] at z3
   exact ⟨z3, x2, x4, x5, hq.1, hq.2.2.2.1⟩
  have hBc : Below w3.heap.size w3 w3.drew := (Below.refl _ _).drew
  clear hcc hjl hr1 hr2 HRI HRN
  by_cases ho : y.o = A.o
  case neg =>
   have b1 := Ze y.o A.o ho
   have HE := Ja (show ¬ JU S A from fun h => ho (HRJ.out.1 h).1)
   clear ho
   go_wp2
   try simp only [List.append_eq, List.cons_append, List.nil_append]
   refine wph HS5 hBc 30 ?_
   refine tQ 0 Jc0 ?_ (HS5.out _ hBc); refine tQ 1 JcT ?_ (HS5.out _ hBc); refine tQ 2 JcY ?_ (HS5.out _ hBc); refine tQ 3 JcH ?_ (HS5.out _ hBc); refine tQ 4 Jc6 ?_ (HS5.out _ hBc); refine tQ 5 Jdb ?_ (HS5.out _ hBc); refine tQ 6 JcX ?_ (HS5.out _ hBc); refine tQ 7 Jdf ?_ (HS5.out _ hBc); refine tQ 8 Jdm ?_ (HS5.out _ hBc); refine tQ 9 JcI ?_ (HS5.out _ hBc); refine tQ 10 YJ ?_ (HS5.out _ hBc); refine tQ 11 Jal ?_ (HS5.out _ hBc); refine tQ 12 YC ?_ (HS5.out _ hBc); refine tQ 13 Jan ?_ (HS5.out _ hBc); refine sQ 14 Y0 ?_ (HS5.out _ hBc); refine sQ 15 YQ ?_ (HS5.out _ hBc); refine sQ 16 Jaf ?_ (HS5.out _ hBc); refine sQ 17 YF ?_ (HS5.out _ hBc); refine sQ 18 YA ?_ (HS5.out _ hBc); refine sQ 19 Ys ?_ (HS5.out _ hBc); refine sQ 20 Jae ?_ (HS5.out _ hBc); refine sQ 21 Y9 ?_ (HS5.out _ hBc); refine sQ 22 Y8 ?_ (HS5.out _ hBc); refine sQ 23 YV ?_ (HS5.out _ hBc); refine sQ 24 Jad ?_ (HS5.out _ hBc); refine sQ 25 YT ?_ (HS5.out _ hBc); refine sQ 26 YI ?_ (HS5.out _ hBc); refine sQ 27 Jap ?_ (HS5.out _ hBc); refine tQ 28 Jah ?_ (HS5.out _ hBc); refine tQ 29 Jag ?_ (HS5.out _ hBc)
   refine wpd ?_
   have HB2 := Ja (HF.out _ (HW3.out.trans (hBc.mono HW3.out.size)))
   clear HS5 hBc
   go_wp2
   go_ret
   exact ⟨Tells.no HE.out, HB2.out⟩
  have b1 := Kx y.o A.o ho
  have bk : (A.k == 7) = true := by simp; exact HK7.out.resolve_right id
  have HE : Hid (JU S A) := HRJ.out.2 ⟨ho, .inl (HK7.out.resolve_right id)⟩
  clear ho
  go_wp2
  try simp only [List.append_eq, List.cons_append, List.nil_append]
  refine wph HS5 hBc 30 ?_
  refine tQ 0 Jc0 ?_ (HS5.out _ hBc); refine tQ 1 JcT ?_ (HS5.out _ hBc); refine tQ 2 JcY ?_ (HS5.out _ hBc); refine tQ 3 JcH ?_ (HS5.out _ hBc); refine tQ 4 Jc6 ?_ (HS5.out _ hBc); refine tQ 5 Jdb ?_ (HS5.out _ hBc); refine tQ 6 JcX ?_ (HS5.out _ hBc); refine tQ 7 Jdf ?_ (HS5.out _ hBc); refine tQ 8 Jdm ?_ (HS5.out _ hBc); refine tQ 9 JcI ?_ (HS5.out _ hBc); refine tQ 10 YJ ?_ (HS5.out _ hBc); refine tQ 11 Jal ?_ (HS5.out _ hBc); refine tQ 12 YC ?_ (HS5.out _ hBc); refine tQ 13 Jan ?_ (HS5.out _ hBc); refine tQ 14 Y0 ?_ (HS5.out _ hBc); refine tQ 15 YQ ?_ (HS5.out _ hBc); refine tQ 16 Jaf ?_ (HS5.out _ hBc); refine tQ 17 YF ?_ (HS5.out _ hBc); refine sQ 18 YA ?_ (HS5.out _ hBc); refine sQ 19 Ys ?_ (HS5.out _ hBc); refine sQ 20 Jae ?_ (HS5.out _ hBc); refine sQ 21 Y9 ?_ (HS5.out _ hBc); refine sQ 22 Y8 ?_ (HS5.out _ hBc); refine sQ 23 YV ?_ (HS5.out _ hBc); refine sQ 24 Jad ?_ (HS5.out _ hBc); refine sQ 25 YT ?_ (HS5.out _ hBc); refine sQ 26 YI ?_ (HS5.out _ hBc); refine tQ 27 Jap ?_ (HS5.out _ hBc); refine tQ 28 Jah ?_ (HS5.out _ hBc); refine tQ 29 Jag ?_ (HS5.out _ hBc)
  refine wpd ?_
  have HB2 := Ja (HF.out _ (HW3.out.trans (hBc.mono HW3.out.size)))
  clear HS5 hBc
  go_wp2
  go_ret
  exact ⟨Tells.yes HE.out, HB2.out⟩
 ·have b7 : (A.k != 7) = true := by simp [h6.1]
  have b6 : (A.k != 6) = false := by simp [h6.1]
  have heq : ∀ wx, (Op.equalIn 10000 33 (.agg #[int i64 A.x, int i64 A.z]) (.agg #[int i64 0, int i64 0])).run Tryz.prog wx = .ok false wx := fun wx => by rw [HEQ.out, decide_eq_false h6.2]
  have HK7 : Hid (A.k = 7 → False) := fun e => by have := h6.1; omega
  clear h6 HEQ
  go_enter Tryz.func141, Tryz.ntmps141
  go_wp2_with fail
  rw [HW.out]
  refine HCA.out.mono ?_
  rintro e w3 ⟨rfl, hb3⟩
  have HW3 := Ja hb3
  clear d0 d1 d2 d3 e2 e4 e5 e8 e9 HCA HW hW0 heq
  rcases hrg with hk | ⟨hr1, hr2⟩
  ·subst hk
   have HE := Ja (HRN.out rfl)
   have HS1 : Hid (∀ wx, Below w3.heap.size w3 wx → wx.cell? ⟨w.heap.size + 1, 2, none⟩ = some (int i64 A.t)) := fun wx h => (HRA.out wx (HW3.out.trans (h.mono HW3.out.size))).1
   have hBc : Below w3.heap.size w3 w3.drew := (Below.refl _ _).drew
   go_wp2
   try simp only [List.append_eq, List.cons_append, List.nil_append]
   refine wph HS1 hBc 30 ?_
   refine tQ 0 Jc0 ?_ (HS1.out _ hBc); refine tQ 1 JcT ?_ (HS1.out _ hBc); refine tQ 2 JcY ?_ (HS1.out _ hBc); refine sQ 3 JcH ?_ (HS1.out _ hBc); refine sQ 4 Jc6 ?_ (HS1.out _ hBc); refine sQ 5 Jdb ?_ (HS1.out _ hBc); refine sQ 6 JcX ?_ (HS1.out _ hBc); refine sQ 7 Jdf ?_ (HS1.out _ hBc); refine sQ 8 Jdm ?_ (HS1.out _ hBc); refine sQ 9 JcI ?_ (HS1.out _ hBc); refine sQ 10 YJ ?_ (HS1.out _ hBc); refine sQ 11 Jal ?_ (HS1.out _ hBc); refine tQ 12 YC ?_ (HS1.out _ hBc); refine tQ 13 Jan ?_ (HS1.out _ hBc); refine sQ 14 Y0 ?_ (HS1.out _ hBc); refine sQ 15 YQ ?_ (HS1.out _ hBc); refine sQ 16 Jaf ?_ (HS1.out _ hBc); refine sQ 17 YF ?_ (HS1.out _ hBc); refine sQ 18 YA ?_ (HS1.out _ hBc); refine sQ 19 Ys ?_ (HS1.out _ hBc); refine sQ 20 Jae ?_ (HS1.out _ hBc); refine sQ 21 Y9 ?_ (HS1.out _ hBc); refine sQ 22 Y8 ?_ (HS1.out _ hBc); refine sQ 23 YV ?_ (HS1.out _ hBc); refine sQ 24 Jad ?_ (HS1.out _ hBc); refine sQ 25 YT ?_ (HS1.out _ hBc); refine sQ 26 YI ?_ (HS1.out _ hBc); refine sQ 27 Jap ?_ (HS1.out _ hBc); refine tQ 28 Jah ?_ (HS1.out _ hBc); refine tQ 29 Jag ?_ (HS1.out _ hBc)
   refine wpd ?_
   have HB2 := Ja (HF.out _ (HW3.out.trans (hBc.mono HW3.out.size)))
   clear HS1 hBc
   go_wp2
   go_ret
   exact ⟨Tells.no HE.out, HB2.out⟩
  obtain ⟨j, hj⟩ : ∃ j : Nat, KK = j := Int.eq_ofNat_of_zero_le hr1
  subst hj
  have hjl : j < S.C.length := by omega
  have hj1 : (j : Int) < nc := by have := HNC.out; omega
  have hj0 : (0 : Int) ≤ j := by omega
  have HRJ := Ja (HRI.out j hjl rfl)
  obtain ⟨g, f, rfl, hg, hcc⟩ := HCG.out (by omega)
  have HCC : Hid (∀ wx, Below W.heap.size W wx → ceC wx g (f + j * 8) S.C[j]) := fun wx h => (hcc j hjl).below h hg
  generalize S.C[j] = y at *
  have HS5 : Hid (∀ wx, Below w3.heap.size w3 wx → wx.cell? ⟨w.heap.size, 3, none⟩ = some (.slice (some ⟨g, f, none⟩) nc c3) ∧ wx.cell? ⟨w.heap.size + 1, 2, none⟩ = some (int i64 A.t) ∧ wx.cell? ⟨w.heap.size + 1, 4, none⟩ = some (int i64 A.k) ∧ wx.cell? ⟨w.heap.size + 1, 5, none⟩ = some (.string A.o) ∧ wx.cell? ⟨g, f + j * 8, none⟩ = some (.string y.o) ∧ wx.cell? ⟨g, f + j * 8 + 3, none⟩ = some (int i64 y.t)) := fun wx h => by
   have hh := HW3.out.trans (h.mono HW3.out.size)
   obtain ⟨z0, z1, z2, z3⟩ := HR4.out wx hh
   obtain ⟨x2, x4, x5, x8, x9⟩ := HRA.out wx hh
   have hq := HCC.out wx hh
   rw [← HNC.out] at z3
   exact ⟨z3, x2, x4, x5, hq.1, hq.2.2.2.1⟩
  have hBc : Below w3.heap.size w3 w3.drew := (Below.refl _ _).drew
  clear hcc hjl hr1 hr2 HRI HRN
  by_cases ho : y.o = A.o
  case neg =>
   have b1 := Ze y.o A.o ho
   have HE := Ja (show ¬ JU S A from fun h => ho (HRJ.out.1 h).1)
   clear ho
   go_wp2
   try simp only [List.append_eq, List.cons_append, List.nil_append]
   refine wph HS5 hBc 30 ?_
   refine tQ 0 Jc0 ?_ (HS5.out _ hBc); refine tQ 1 JcT ?_ (HS5.out _ hBc); refine tQ 2 JcY ?_ (HS5.out _ hBc); refine tQ 3 JcH ?_ (HS5.out _ hBc); refine tQ 4 Jc6 ?_ (HS5.out _ hBc); refine tQ 5 Jdb ?_ (HS5.out _ hBc); refine tQ 6 JcX ?_ (HS5.out _ hBc); refine tQ 7 Jdf ?_ (HS5.out _ hBc); refine tQ 8 Jdm ?_ (HS5.out _ hBc); refine tQ 9 JcI ?_ (HS5.out _ hBc); refine tQ 10 YJ ?_ (HS5.out _ hBc); refine tQ 11 Jal ?_ (HS5.out _ hBc); refine tQ 12 YC ?_ (HS5.out _ hBc); refine tQ 13 Jan ?_ (HS5.out _ hBc); refine sQ 14 Y0 ?_ (HS5.out _ hBc); refine sQ 15 YQ ?_ (HS5.out _ hBc); refine sQ 16 Jaf ?_ (HS5.out _ hBc); refine sQ 17 YF ?_ (HS5.out _ hBc); refine sQ 18 YA ?_ (HS5.out _ hBc); refine sQ 19 Ys ?_ (HS5.out _ hBc); refine sQ 20 Jae ?_ (HS5.out _ hBc); refine sQ 21 Y9 ?_ (HS5.out _ hBc); refine sQ 22 Y8 ?_ (HS5.out _ hBc); refine sQ 23 YV ?_ (HS5.out _ hBc); refine sQ 24 Jad ?_ (HS5.out _ hBc); refine sQ 25 YT ?_ (HS5.out _ hBc); refine sQ 26 YI ?_ (HS5.out _ hBc); refine sQ 27 Jap ?_ (HS5.out _ hBc); refine tQ 28 Jah ?_ (HS5.out _ hBc); refine tQ 29 Jag ?_ (HS5.out _ hBc)
   refine wpd ?_
   have HB2 := Ja (HF.out _ (HW3.out.trans (hBc.mono HW3.out.size)))
   clear HS5 hBc
   go_wp2
   go_ret
   exact ⟨Tells.no HE.out, HB2.out⟩
  have b1 := Kx y.o A.o ho
  have bk : (A.k == 7) = false := by simp; exact fun e => HK7.out e
  have HE : Hid (decide (y.t < A.t) = true ↔ JU S A) := ⟨fun e => HRJ.out.2 ⟨ho, .inr (of_decide_eq_true e)⟩, fun h => decide_eq_true ((HRJ.out.1 h).2.resolve_left (fun e => HK7.out e))⟩
  clear ho
  go_wp2
  try simp only [List.append_eq, List.cons_append, List.nil_append]
  refine wph HS5 hBc 30 ?_
  refine tQ 0 Jc0 ?_ (HS5.out _ hBc); refine tQ 1 JcT ?_ (HS5.out _ hBc); refine tQ 2 JcY ?_ (HS5.out _ hBc); refine tQ 3 JcH ?_ (HS5.out _ hBc); refine tQ 4 Jc6 ?_ (HS5.out _ hBc); refine tQ 5 Jdb ?_ (HS5.out _ hBc); refine tQ 6 JcX ?_ (HS5.out _ hBc); refine tQ 7 Jdf ?_ (HS5.out _ hBc); refine tQ 8 Jdm ?_ (HS5.out _ hBc); refine tQ 9 JcI ?_ (HS5.out _ hBc); refine tQ 10 YJ ?_ (HS5.out _ hBc); refine tQ 11 Jal ?_ (HS5.out _ hBc); refine tQ 12 YC ?_ (HS5.out _ hBc); refine tQ 13 Jan ?_ (HS5.out _ hBc); refine tQ 14 Y0 ?_ (HS5.out _ hBc); refine tQ 15 YQ ?_ (HS5.out _ hBc); refine tQ 16 Jaf ?_ (HS5.out _ hBc); refine tQ 17 YF ?_ (HS5.out _ hBc); refine tQ 18 YA ?_ (HS5.out _ hBc); refine tQ 19 Ys ?_ (HS5.out _ hBc); refine tQ 20 Jae ?_ (HS5.out _ hBc); refine tQ 21 Y9 ?_ (HS5.out _ hBc); refine tQ 22 Y8 ?_ (HS5.out _ hBc); refine tQ 23 YV ?_ (HS5.out _ hBc); refine tQ 24 Jad ?_ (HS5.out _ hBc); refine tQ 25 YT ?_ (HS5.out _ hBc); refine tQ 26 YI ?_ (HS5.out _ hBc); refine tQ 27 Jap ?_ (HS5.out _ hBc); refine tQ 28 Jah ?_ (HS5.out _ hBc); refine tQ 29 Jag ?_ (HS5.out _ hBc)
  refine wpd ?_
  have HB2 := Ja (HF.out _ (HW3.out.trans (hBc.mono HW3.out.size)))
  clear HS5 hBc
  go_wp2
  go_ret
  exact ⟨⟨_, rfl, HE.out⟩, HB2.out⟩
end Go.Proofs.YtdknoflkingodaaGreat
