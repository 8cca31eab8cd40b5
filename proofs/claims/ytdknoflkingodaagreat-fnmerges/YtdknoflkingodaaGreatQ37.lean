/- The program's look at what cells stand behind, and at a whol. -/
import Derived.Test.YtdknoflkingodaaGreatQ31
import Derived.Test.YtdknoflkingodaaGreatQ36
set_option maxHeartbeats 16000000
namespace Go.Proofs.YtdknoflkingodaaGreat
open Value (int)
open IntKind (i64)
set_option maxRecDepth 100000
set_option linter.unusedVariables false
open Go.RowKit
abbrev kr0 : Oper := oq 25 (.move (.tmp 6)) 4 "l06_state.go:111" #[] none
abbrev kr1 : Oper := oq 26 (.unOp .not 4 (.tmp 25)) 4 "l06_state.go:111" #[eD 0] none
abbrev kr2 : Oper := oq 27 (.move (.tmp 26)) 4 "l06_state.go:111" #[eD 1] none
abbrev kr3 : Oper := oq 28 (.move (.tmp 0)) 27 "l06_state.go:111" #[eG 2] (some (2, false))
abbrev kr4 : Oper := oq 29 (.move (.tmp 5)) 3 "l06_state.go:111" #[eG 2] (some (2, false))
abbrev kr5 : Oper := oq 30 (.indexAddr 27 (.tmp 28) (.tmp 29)) 0 "l06_state.go:111" #[eD 3, eD 4, eG 2] (some (2, false))
abbrev kr6 : Oper := oq 31 (.fieldAddr 35 (.tmp 30) 0) 0 "l06_state.go:111" #[eD 5, eG 2] (some (2, false))
abbrev kr7 : Oper := oq 32 (.load 9 (.tmp 31)) 9 "l06_state.go:111" #[eD 6, eG 2] (some (2, false))
abbrev kr8 : Oper := oq 33 (.fieldAddr 35 (.tmp 4) 0) 0 "l06_state.go:111" #[eG 2] (some (2, false))
abbrev kr9 : Oper := oq 34 (.load 9 (.tmp 33)) 9 "l06_state.go:111" #[eD 8, eG 2] (some (2, false))
abbrev Je0 : Oper := oq 35 (.binOp .neq 9 (.tmp 32) (.tmp 34) 9) 4 "l06_state.go:111" #[eD 7, eD 9, eG 2] (some (2, false))
abbrev JeN : Oper := oq 36 (.pick (.tmp 27) (.const (.bool true)) (.tmp 35)) 4 "l06_state.go:111" #[eD 2, eD 10] none
abbrev Je6 : Oper := oq 37 (.move (.tmp 36)) 4 "l06_state.go:111" #[eD 11, eC 2] none
abbrev JeB : Oper := oq 38 (.move (.tmp 0)) 27 "l06_state.go:111" #[eG 12] (some (12, false))
abbrev JeD : Oper := oq 39 (.move (.tmp 5)) 3 "l06_state.go:111" #[eG 12] (some (12, false))
abbrev Je8 : Oper := oq 40 (.indexAddr 27 (.tmp 38) (.tmp 39)) 0 "l06_state.go:111" #[eD 13, eD 14, eG 12] (some (12, false))
abbrev JeK : Oper := oq 41 (.fieldAddr 35 (.tmp 40) 2) 0 "l06_state.go:111" #[eD 15, eG 12] (some (12, false))
abbrev JeT : Oper := oq 42 (.load 3 (.tmp 41)) 3 "l06_state.go:111" #[eD 16, eG 12] (some (12, false))
abbrev JeF : Oper := oq 43 (.fieldAddr 35 (.tmp 4) 2) 0 "l06_state.go:111" #[eG 12] (some (12, false))
abbrev JeX : Oper := oq 44 (.load 3 (.tmp 43)) 3 "l06_state.go:111" #[eD 18, eG 12] (some (12, false))
abbrev JeH : Oper := oq 45 (.binOp .geq 3 (.tmp 42) (.tmp 44) 3) 4 "l06_state.go:111" #[eD 17, eD 19, eG 12] (some (12, false))
abbrev Je5 : Oper := oq 46 (.pick (.tmp 37) (.const (.bool true)) (.tmp 45)) 4 "l06_state.go:111" #[eD 12, eD 20] none
def Jep (l : List Ce) : Prop := ∀ i (h : i < l.length), ZV l l[i]
theorem JaH (l : List Ce) (v : Value) (w : World) (hn : l.length ≤ 1048576) (hp : l.Pairwise JF) (h : CeAt w v l) :
  Calls Tryz.prog 71 #[v] w fun e w' => Tells e (Jep l) ∧ Below w.heap.size w w' := by
 have HAT : Hid (∀ wx, Below w.heap.size w wx → CeAt wx v l) := fun wx hx => h.below hx
 obtain ⟨aa, ca, rfl, hga⟩ := h
 have HGA : Hid (CeG w aa l) := hga
 have HPL : Hid (∀ wx r s, Below w.heap.size w wx → Calls Tryz.prog 125 #[.slice aa l.length ca, .agg #[.string ⟨#[]⟩, int i64 r, int i64 s]] wx fun e w' => Ja4 e l r s ∧ Below wx.heap.size wx w') := fun wx r s hx => Yd l _ r s wx hn hp (HAT.out wx hx)
 obtain ⟨n, hnl⟩ : ∃ n, n = l.length := ⟨_, rfl⟩
 have HL : Hid (n = l.length) := hnl
 rw [← hnl] at hn HPL ⊢
 clear hnl hga HAT hp
 go_enter Tryz.func71, Tryz.ntmps71
 go_wp2
 go_loopw [9] (fun z wr => ∃ k : Nat, k ≤ n ∧ z = int i64 k ∧ (∀ i (h : i < l.length), i < k → ZV l l[i]) ∧ Below w.heap.size w wr) (fun z _ => n - (intOf z).toNat)
 case atStart => exact ⟨0, Nat.zero_le _, rfl, fun i _ h => by omega, Below.refl _ _⟩
 case round =>
  obtain ⟨k, hk, rfl, hall, hbel⟩ := hrel
  have HALL := Ja hall
  have HBE := Ja hbel
  have hsz := hbel.size
  clear hall
  by_cases hlt : k < n
  case neg =>
   have hk1 : ¬ ((k : Int) < n) := by omega
   have HE : Hid (Jep l) := fun i hi => HALL.out i hi (by have := HL.out; omega)
   go_wp2
   go_ret
   exact ⟨Tells.yes HE.out, HBE.out⟩
  have hkl : k < l.length := by rw [← HL.out]; exact hlt
  obtain ⟨g, f, rfl, hg, hcc⟩ := HGA.out (by omega)
  have hk1 : (k : Int) < n := by omega
  have hk0 : (0 : Int) ≤ k := by omega
  have q := (hcc k hkl).below hbel hg
  have HCC : Hid (∀ j (h : j < l.length) wx, Below w.heap.size w wx → ceC wx g (f + j * 8) l[j]) := fun j h wx hb => (hcc j h).below hb hg
  have HMO : Hid (ZV l l[k] → ∀ i (h : i < l.length), i < k + 1 → ZV l l[i]) := fun hy i hi hik => by
   by_cases e : i = k
   ·subst e; exact hy
   ·exact HALL.out i hi (by omega)
  have HNO : Hid (¬ ZV l l[k] → ¬ Jep l) := fun h q => h (q k hkl)
  generalize l[k] = x at *
  unfold ceC at q
  obtain ⟨q0, q1, q2, q3, q4, q5, q6, q7⟩ := q
  obtain ⟨WW, hWW⟩ : ∃ WW, WW = wr.alloc (.cells #[.string x.o, int i64 x.r, int i64 x.s, int i64 x.t, int i64 x.x, int i64 x.z, int i64 x.v, .bool x.g] 35) := ⟨_, rfl⟩
  have HBA : Hid (Below w.heap.size w WW) := by rw [hWW]; exact HBE.out.alloc hsz _
  have hRW : Row WW wr.heap.size #[.string x.o, int i64 x.r, int i64 x.s, int i64 x.t, int i64 x.x, int i64 x.z, int i64 x.v, .bool x.g] 35 := by rw [hWW]; exact Jb wr _ _ rfl
  have HWW : Hid (wr.alloc (.cells #[.string x.o, int i64 x.r, int i64 x.s, int i64 x.t, int i64 x.x, int i64 x.z, int i64 x.v, .bool x.g] 35) = WW) := hWW.symm
  have HS : Hid (∀ wx, Below WW.heap.size WW wx → wx.cell? ⟨wr.heap.size, 0, none⟩ = some (.string x.o) ∧ wx.cell? ⟨wr.heap.size, 1, none⟩ = some (int i64 x.r) ∧ wx.cell? ⟨wr.heap.size, 2, none⟩ = some (int i64 x.s) ∧ wx.cell? ⟨wr.heap.size, 3, none⟩ = some (int i64 x.t) ∧ wx.cell? ⟨wr.heap.size, 4, none⟩ = some (int i64 x.x) ∧ wx.cell? ⟨wr.heap.size, 5, none⟩ = some (int i64 x.z) ∧ wx.cell? ⟨wr.heap.size, 6, none⟩ = some (int i64 x.v) ∧ wx.cell? ⟨wr.heap.size, 7, none⟩ = some (.bool x.g)) := fun wx h => ⟨(hRW.next h).cell 0 rfl, (hRW.next h).cell 1 rfl, (hRW.next h).cell 2 rfl, (hRW.next h).cell 3 rfl, (hRW.next h).cell 4 rfl, (hRW.next h).cell 5 rfl, (hRW.next h).cell 6 rfl, (hRW.next h).cell 7 rfl⟩
  have hgd := ZL
  by_cases hz : x.x = 0 ∧ x.z = 0
  case pos =>
   have heq : ∀ wx, (Op.equalIn 10000 33 (.agg #[int i64 x.x, int i64 x.z]) (.agg #[int i64 0, int i64 0])).run Tryz.prog wx = .ok true wx := fun wx => by rw [Zh, decide_eq_true hz]
   have HE := Ja (HMO.out (.inl hz))
   clear hWW hRW hcc hbel hkl HALL HNO hz HPL
   go_wp2
   rw [HWW.out]
   go_roundw
   case rel => exact ⟨k + 1, by omega, by go_num, HE.out, HBA.out⟩
   case measure => simp [intOf]; omega
  have heq : ∀ wx, (Op.equalIn 10000 33 (.agg #[int i64 x.x, int i64 x.z]) (.agg #[int i64 0, int i64 0])).run Tryz.prog wx = .ok false wx := fun wx => by rw [Zh, decide_eq_false hz]
  have HZ := Ja hz
  have HPX := Ja (fun (wx : World) (hx : Below w.heap.size w wx) => HPL.out wx x.x x.z hx)
  have HRN : Hid ((¬ ∃ j, ∃ _ : j < l.length, cellAt l x.x x.z 0 = (j : Int)) → ¬ ZV l x) := fun e h => by
   rcases h with h | ⟨i, hi, h1, -⟩
   ·exact HZ.out h
   ·exact e ⟨i, hi, h1⟩
  have HRI : Hid (∀ j (h : j < l.length), cellAt l x.x x.z 0 = (j : Int) → (ZV l x ↔ l[j].o = x.o ∧ l[j].t < x.t)) := fun j h e => by
   constructor
   ·rintro (h1 | ⟨i, hi, h1, h2⟩)
    ·exact absurd h1 HZ.out
    ·have : i = j := by omega
     subst this; exact h2
   ·intro h1; exact .inr ⟨j, h, e, h1⟩
  clear hcc hkl HALL hz HPL
  have hrw := HS.out _ (Below.refl _ _)
  rw [hWW] at hrw
  obtain ⟨m0, m1, m2, m3, m4, m5, m6, m7⟩ := hrw
  clear hWW hRW
  go_wp2_with fail
  rw [HWW.out]
  refine (HPX.out _ HBA.out).mono ?_
  rintro e w2 ⟨⟨j, b, rfl, hyes, hnot⟩, hb2⟩
  have hBc : Below WW.heap.size WW w2 := hb2
  clear hb2 m0 m1 m2 m3 m4 m5 m6 m7 q0 q1 q2 q3 q4 q5 q6 q7 HWW HPX heq hbel
  cases b with
  | false =>
   have HE := Ja (HNO.out (HRN.out (hnot rfl)))
   have HSY : Hid (∀ wx, Below WW.heap.size WW wx → wx.cell? ⟨wr.heap.size, 0, none⟩ = some (.string x.o) ∧ wx.cell? ⟨wr.heap.size, 1, none⟩ = some (int i64 x.r) ∧ wx.cell? ⟨wr.heap.size, 2, none⟩ = some (int i64 x.s) ∧ wx.cell? ⟨wr.heap.size, 3, none⟩ = some (int i64 x.t) ∧ wx.cell? ⟨wr.heap.size, 4, none⟩ = some (int i64 x.x) ∧ wx.cell? ⟨wr.heap.size, 5, none⟩ = some (int i64 x.z) ∧ wx.cell? ⟨wr.heap.size, 6, none⟩ = some (int i64 x.v) ∧ wx.cell? ⟨wr.heap.size, 7, none⟩ = some (.bool x.g)) := HS
   clear hyes hnot HRN HRI HMO HS
   go_wp2
   replace hBc := hBc.drew
   have hs := Ja (HSY.out _ hBc)
   refine wph HSY hBc 22 ?_
   refine tQ 0 kr0 ?_; refine tQ 1 kr1 ?_; refine tQ 2 kr2 ?_; refine sQ 3 kr3 ?_; refine sQ 4 kr4 ?_; refine sQ 5 kr5 ?_; refine sQ 6 kr6 ?_; refine sQ 7 kr7 ?_; refine sQ 8 kr8 ?_; refine sQ 9 kr9 ?_; refine sQ 10 Je0 ?_; refine tQ 11 JeN ?_; refine tQ 12 Je6 ?_; refine sQ 13 JeB ?_; refine sQ 14 JeD ?_; refine sQ 15 Je8 ?_; refine sQ 16 JeK ?_; refine sQ 17 JeT ?_; refine sQ 18 JeF ?_; refine sQ 19 JeX ?_; refine sQ 20 JeH ?_; refine tQ 21 Je5 ?_
   refine wpd ?_
   have HBF := Ja (HBA.out.trans (hBc.mono HBA.out.size))
   clear hs hBc HSY
   go_wp2
   go_ret
   exact ⟨Tells.no HE.out, HBF.out⟩
  | true =>
  have hjl := (hyes rfl).1
  have hri := HRI.out j hjl (hyes rfl).2
  have hj1 : (j : Int) < n := by have := HL.out; omega
  have hj0 : (0 : Int) ≤ j := by omega
  have HCJ : Hid (∀ wx, Below w.heap.size w wx → ceC wx g (f + j * 8) l[j]) := fun wx h => HCC.out j hjl wx h
  generalize l[j] = y at *
  have HRI2 := Ja hri
  have HSY : Hid (∀ wx, Below WW.heap.size WW wx → wx.cell? ⟨wr.heap.size, 0, none⟩ = some (.string x.o) ∧ wx.cell? ⟨wr.heap.size, 3, none⟩ = some (int i64 x.t) ∧ wx.cell? ⟨g, f + j * 8, none⟩ = some (.string y.o) ∧ wx.cell? ⟨g, f + j * 8 + 3, none⟩ = some (int i64 y.t)) := fun wx h => by
   have h1 := HS.out wx h
   have h2 := HCJ.out wx (HBA.out.trans (h.mono HBA.out.size))
   unfold ceC at h2
   exact ⟨h1.1, h1.2.2.2.1, h2.1, h2.2.2.2.1⟩
  clear hyes hnot HRN HRI HS HCC HCJ hjl hri
  go_wp2
  replace hBc := hBc.drew
  have hs := Ja (HSY.out _ hBc)
  refine wph HSY hBc 22 ?_
  refine tQ 0 kr0 ?_; refine tQ 1 kr1 ?_; refine tQ 2 kr2 ?_; refine tQ 3 kr3 ?_; refine tQ 4 kr4 ?_; refine tQ 5 kr5 ?_; refine tQ 6 kr6 ?_; refine tQ 7 kr7 ?_; refine tQ 8 kr8 ?_
  by_cases e1 : y.o = x.o
  case neg =>
   have b1 := Ze y.o x.o e1
   have b2 : (y.o.toList != x.o.toList) = true := by simp [bne, b1]
   have HE := Ja (HNO.out (fun h => e1 (HRI2.out.1 h).1))
   clear HRI2 HMO HNO e1
   refine tQ 9 kr9 ?_; refine tQ 10 Je0 ?_; refine tQ 11 JeN ?_; refine tQ 12 Je6 ?_; refine sQ 13 JeB ?_; refine sQ 14 JeD ?_; refine sQ 15 Je8 ?_; refine sQ 16 JeK ?_; refine sQ 17 JeT ?_; refine sQ 18 JeF ?_; refine sQ 19 JeX ?_; refine sQ 20 JeH ?_; refine tQ 21 Je5 ?_
   refine wpd ?_
   have HBF := Ja (HBA.out.trans (hBc.mono HBA.out.size))
   clear hs hBc HSY
   go_wp2
   go_ret
   exact ⟨Tells.no HE.out, HBF.out⟩
  have b1 := Kx y.o x.o e1
  have b2 : (y.o.toList != x.o.toList) = false := by simp [bne, b1]
  have HEO := Ja e1
  clear e1
  by_cases e2 : y.t < x.t
  case pos =>
   have hd : decide (x.t ≤ y.t) = false := decide_eq_false (by omega)
   have hd2 : ¬ x.t ≤ y.t := by omega
   have HE := Ja (HMO.out (HRI2.out.2 ⟨HEO.out, e2⟩))
   clear HRI2 HMO HNO HEO e2
   refine tQ 9 kr9 ?_; refine tQ 10 Je0 ?_; refine tQ 11 JeN ?_; refine tQ 12 Je6 ?_; refine tQ 13 JeB ?_; refine tQ 14 JeD ?_; refine tQ 15 Je8 ?_; refine tQ 16 JeK ?_; refine tQ 17 JeT ?_; refine tQ 18 JeF ?_; refine tQ 19 JeX ?_; refine tQ 20 JeH ?_; refine tQ 21 Je5 ?_
   refine wpd ?_
   have HBF := Ja (HBA.out.trans (hBc.mono HBA.out.size))
   clear hs hBc HSY
   go_wp2
   go_roundw
   case rel => exact ⟨k + 1, by omega, by go_num, HE.out, HBF.out⟩
   case measure => simp [intOf]; omega
  have hd : decide (x.t ≤ y.t) = true := decide_eq_true (by omega)
  have hd2 : x.t ≤ y.t := by omega
  have HE := Ja (HNO.out (fun h => e2 (HRI2.out.1 h).2))
  clear HRI2 HMO HNO HEO e2
  refine tQ 9 kr9 ?_; refine tQ 10 Je0 ?_; refine tQ 11 JeN ?_; refine tQ 12 Je6 ?_; refine tQ 13 JeB ?_; refine tQ 14 JeD ?_; refine tQ 15 Je8 ?_; refine tQ 16 JeK ?_; refine tQ 17 JeT ?_; refine tQ 18 JeF ?_; refine tQ 19 JeX ?_; refine tQ 20 JeH ?_; refine tQ 21 Je5 ?_
  refine wpd ?_
  have HBF := Ja (HBA.out.trans (hBc.mono HBA.out.size))
  clear hs hBc HSY
  go_wp2
  go_ret
  exact ⟨Tells.no HE.out, HBF.out⟩
theorem ZR (S : Sta) (u0 u1 u2 u3 : Value) (w : World) (hn : Small S) (hst : YU S) (h : StAt w S u0 u1 u2 u3) :
  Calls Tryz.prog 18 #[.agg #[u0, u1, u2, u3]] w fun e w' => Tells e (IOk S) ∧ Below w.heap.size w w' := by
 obtain ⟨a0, c0, a1, c1, a2, c2, a3, c3, rfl, rfl, rfl, rfl⟩ := h.shape
 obtain ⟨W, hW⟩ : ∃ W, W = w.alloc (.cells #[.slice a0 S.l.length c0, .slice a1 S.T.length c1, .slice a2 S.L.length c2, .slice a3 S.C.length c3] 29) := ⟨_, rfl⟩
 have HB : Hid (Below w.heap.size w W) := by rw [hW]; exact (Below.refl _ _).alloc (Nat.le_refl _) _
 have hS : StAt W S (.slice a0 S.l.length c0) (.slice a1 S.T.length c1) (.slice a2 S.L.length c2) (.slice a3 S.C.length c3) := by rw [hW]; exact h.alloc _
 have hR : Row W w.heap.size #[.slice a0 S.l.length c0, .slice a1 S.T.length c1, .slice a2 S.L.length c2, .slice a3 S.C.length c3] 29 := by rw [hW]; exact Jb w _ _ rfl
 have HS : Hid (∀ wx, Below W.heap.size W wx → StAt wx S (.slice a0 S.l.length c0) (.slice a1 S.T.length c1) (.slice a2 S.L.length c2) (.slice a3 S.C.length c3)) := fun wx h => hS.below h
 have HR : Hid (∀ wx, Below W.heap.size W wx → wx.cell? ⟨w.heap.size, 0, none⟩ = some (.slice a0 S.l.length c0) ∧ wx.cell? ⟨w.heap.size, 1, none⟩ = some (.slice a1 S.T.length c1) ∧ wx.cell? ⟨w.heap.size, 2, none⟩ = some (.slice a2 S.L.length c2) ∧ wx.cell? ⟨w.heap.size, 3, none⟩ = some (.slice a3 S.C.length c3)) := fun wx h => Row.four (hR.next h)
 have HWW : Hid (w.alloc (.cells #[.slice a0 S.l.length c0, .slice a1 S.T.length c1, .slice a2 S.L.length c2, .slice a3 S.C.length c3] 29) = W) := hW.symm
 have HK : Hid (∀ wx, Below W.heap.size W wx → Calls Tryz.prog 67 #[.slice a0 S.l.length c0] wx fun e w' => e = .returned (.bool (decide (KOk S.l))) ∧ Below wx.heap.size wx w') := fun wx h => (K6 S.l _ wx (HS.out wx h).1).mono (by rintro e w' ⟨rfl, rfl⟩; exact ⟨rfl, Below.refl _ _⟩)
 have HT : Hid (∀ wx, Below W.heap.size W wx → Calls Tryz.prog 68 #[.slice a1 S.T.length c1, .slice a0 S.l.length c0] wx fun e w' => Tells e (Jx taR JQ S.T) ∧ Below wx.heap.size wx w') := fun wx h => V9 S.T S.l _ _ wx hn.2.1 (fun _ _ => trivial) (HS.out wx h).2.1 (HS.out wx h).1
 have HL : Hid (∀ wx, Below W.heap.size W wx → Calls Tryz.prog 69 #[.slice a2 S.L.length c2, .slice a0 S.l.length c0] wx fun e w' => Tells e (Jx (liR S.l) J4 S.L) ∧ Below wx.heap.size wx w') := fun wx h => Yb S.L S.l _ _ wx hn.2.2.1 hst.2.1 (HS.out wx h).2.2.1 (HS.out wx h).1
 have HC : Hid (∀ wx, Below W.heap.size W wx → Calls Tryz.prog 70 #[.slice a3 S.C.length c3, .slice a0 S.l.length c0] wx fun e w' => Tells e (Jx (ceR S.l) JF S.C) ∧ Below wx.heap.size wx w') := fun wx h => Yk S.C S.l _ _ wx hn.2.2.2 hst.2.2 (HS.out wx h).2.2.2 (HS.out wx h).1
 have HF : Hid (∀ wx, S.C.Pairwise JF → Below W.heap.size W wx → Calls Tryz.prog 71 #[.slice a3 S.C.length c3] wx fun e w' => Tells e (Jep S.C) ∧ Below wx.heap.size wx w') := fun wx hp h => JaH S.C _ wx hn.2.2.2 hp (HS.out wx h).2.2.2
 have HBK : Hid (∀ wx, Below W.heap.size W wx → Below w.heap.size w wx) := fun wx h => HB.out.trans (h.mono HB.out.size)
 have HR0 := Ja (HR.out W (Below.refl _ _))
 have hr0 := HR0.out
 rw [hW] at hr0
 obtain ⟨d0, d1, d2, d3⟩ := hr0
 clear hW h hS hR HB HS HR0
 go_enter Tryz.func18, Tryz.ntmps18
 go_wp2_with fail
 rw [HWW.out]
 refine (HK.out _ (Below.refl _ _)).mono ?_
 rintro e x1 ⟨rfl, hb⟩
 have hX1 : Below W.heap.size W x1 := hb
 clear hb d0 d1 d2 d3 HK HWW
 obtain ⟨d0, d1, d2, d3⟩ := HR.out _ hX1
 by_cases k1 : KOk S.l
 case neg =>
  rw [decide_eq_false k1]
  have HE : Hid (¬ IOk S) := fun h => k1 h.1
  have HBF := Ja (HBK.out _ hX1)
  clear k1 hX1 HT HL HC HF
  go_wp2
  go_ret
  exact ⟨Tells.no HE.out, HBF.out⟩
 rw [decide_eq_true k1]
 have K1 := Ja k1
 clear k1
 go_wp2_with fail
 refine (HT.out _ hX1).mono ?_
 rintro e x2 ⟨⟨q, rfl, hq⟩, hb⟩
 have hX2 : Below W.heap.size W x2 := hX1.trans (hb.mono hX1.size)
 clear hb d0 d1 d2 d3 HT hX1
 obtain ⟨d0, d1, d2, d3⟩ := HR.out _ hX2
 cases q with
 | false =>
  have HE : Hid (¬ IOk S) := fun h => by have := hq.2 h.2.1; cases this
  have HBF := Ja (HBK.out _ hX2)
  clear hq hX2
  go_wp2
  go_ret
  exact ⟨Tells.no HE.out, HBF.out⟩
 | true =>
 have K2 : Hid (Jx taR JQ S.T) := hq.1 rfl
 clear hq
 go_wp2_with fail
 refine (HL.out _ hX2).mono ?_
 rintro e x3 ⟨⟨q, rfl, hq⟩, hb⟩
 have hX3 : Below W.heap.size W x3 := hX2.trans (hb.mono hX2.size)
 clear hb d0 d1 d2 d3 HL hX2
 obtain ⟨d0, d1, d2, d3⟩ := HR.out _ hX3
 cases q with
 | false =>
  have HE : Hid (¬ IOk S) := fun h => by have := hq.2 h.2.2.1; cases this
  have HBF := Ja (HBK.out _ hX3)
  clear hq hX3
  go_wp2
  go_ret
  exact ⟨Tells.no HE.out, HBF.out⟩
 | true =>
 have K3 : Hid (Jx (liR S.l) J4 S.L) := hq.1 rfl
 clear hq
 go_wp2_with fail
 refine (HC.out _ hX3).mono ?_
 rintro e x4 ⟨⟨q, rfl, hq⟩, hb⟩
 have hX4 : Below W.heap.size W x4 := hX3.trans (hb.mono hX3.size)
 clear hb d0 d1 d2 d3 HC hX3
 obtain ⟨d0, d1, d2, d3⟩ := HR.out _ hX4
 cases q with
 | false =>
  have HE : Hid (¬ IOk S) := fun h => by have := hq.2 h.2.2.2.1; cases this
  have HBF := Ja (HBK.out _ hX4)
  clear hq hX4
  go_wp2
  go_ret
  exact ⟨Tells.no HE.out, HBF.out⟩
 | true =>
 have K4 : Hid (Jx (ceR S.l) JF S.C) := hq.1 rfl
 clear hq
 go_wp2_with fail
 refine (HF.out _ (Asc.pair Zt K4.out.2) hX4).mono ?_
 rintro e x5 ⟨⟨q, rfl, hq⟩, hb⟩
 have hX5 : Below W.heap.size W x5 := hX4.trans (hb.mono hX4.size)
 clear hb d0 d1 d2 d3 HF hX4
 obtain ⟨d0, d1, d2, d3⟩ := HR.out _ hX5
 cases q with
 | false =>
  have HE : Hid (¬ IOk S) := fun h => by have := hq.2 h.2.2.2.2; cases this
  have HBF := Ja (HBK.out _ hX5)
  clear hq hX5
  go_wp2
  go_ret
  exact ⟨Tells.no HE.out, HBF.out⟩
 | true =>
 have K5 : Hid (Jep S.C) := hq.1 rfl
 clear hq
 have HE : Hid (IOk S) := ⟨K1.out, K2.out, K3.out, K4.out, K5.out⟩
 have HBF := Ja (HBK.out _ hX5)
 clear hX5
 go_wp2
 go_ret
 exact ⟨Tells.yes HE.out, HBF.out⟩
structure Bo (α : Type) where
 a : α
 b : α
 ia : Bool
 ib : Bool
def ZW {α : Type} (cs : α → List Value) (q : Bo α) : List Value := cs q.a ++ cs q.b ++ [.bool q.ia, .bool q.ib]
def boV {α : Type} (cs : α → List Value) (l : List (Bo α)) : List Value := (l.map (ZW cs)).flatten
def JY (x y : Ta) : Int := rkT x.o y.o x.r y.r
def Zi (x y : Li) : Int := rkD x.r x.s y.r y.s
def Zf (x y : Ce) : Int := rkD x.r x.s y.r y.s
def GL {α : Type} (rk : α → α → Int) : List α → List α → Int
 | _, [] => -1
 | [], _ :: _ => 1
 | x :: _, y :: _ => rk x y
def Jg {α : Type} (z : α) (rk : α → α → Int) : List α → List α → List (Bo α)
 | [], [] => []
 | x :: a, [] => ⟨x, z, true, false⟩ :: Jg z rk a []
 | [], y :: b => ⟨z, y, false, true⟩ :: Jg z rk [] b
 | x :: a, y :: b => if rk x y < 0 then ⟨x, z, true, false⟩ :: Jg z rk a (y :: b) else if rk x y = 0 then ⟨x, y, true, true⟩ :: Jg z rk a b else ⟨z, y, false, true⟩ :: Jg z rk (x :: a) b
termination_by a b => a.length + b.length
abbrev JiW : Oper := oq 13 (.move (.tmp 0)) 25 "l10_merge.go:54" #[] none
abbrev JjX : Oper := oq 14 (.indexAddr 25 (.tmp 13) (.const (int i64 0))) 0 "l10_merge.go:54" #[eD 0] none
abbrev Jki : Oper := oq 15 (.load 38 (.tmp 14)) 38 "l10_merge.go:54" #[eD 1] none
abbrev JiH : Oper := oq 16 (.makeInterface 38 (.tmp 15)) 205 "l10_merge.go:54" #[eD 2] none
abbrev Jkg : Oper := oq 17 (.call ⟨.value (.func 123), #[.tmp 16], #[205]⟩) 147 "l10_merge.go:54" #[eD 3] none
abbrev Jje : Oper := oq 18 (.move (.tmp 1)) 25 "l10_merge.go:54" #[] none
abbrev Jke : Oper := oq 19 (.indexAddr 25 (.tmp 18) (.const (int i64 0))) 0 "l10_merge.go:54" #[eD 5] none
abbrev JjS : Oper := oq 20 (.load 38 (.tmp 19)) 38 "l10_merge.go:54" #[eD 6] none
abbrev JiY : Oper := oq 21 (.makeInterface 38 (.tmp 20)) 205 "l10_merge.go:54" #[eD 7] none
abbrev Jjj : Oper := oq 22 (.call ⟨.value (.func 123), #[.tmp 21], #[205]⟩) 147 "l10_merge.go:54" #[eD 8, eC 4] none
abbrev Jgk : Oper := oq 23 (.call ⟨.value (.func 124), #[.tmp 17, .tmp 22], #[147, 147]⟩) 3 "l10_merge.go:54" #[eD 4, eD 9, eC 9] none
abbrev JfM : Oper := oq 4 (.assign (.tmp 23)) 3 "l10_merge.go:54" #[eD 10, eC 10, eP 0, eP 1, eP 2, eP 3, eP 4, eP 5, eP 6, eP 7, eP 8, eP 9, eP 10] none
theorem KA (A B : List Ta) (u v : Value) (w : World) (hA : TaAt w u A) (hB : TaAt w v B) :
  Calls Tryz.prog 242 #[u, v] w fun e w' => e = .returned (int i64 (GL JY A B)) ∧ Below w.heap.size w w' := by
 obtain ⟨aa, ca, rfl, hga⟩ := hA
 obtain ⟨ab, cb, rfl, hgb⟩ := hB
 cases B with
 | nil =>
  go_enter Tryz.func242, Tryz.ntmps242
  go_wp2
  go_ret
  exact ⟨by cases A <;> rfl, Below.refl _ _⟩
 | cons y B =>
 have hl1 : ((List.length (y :: B) : Int) == 0) = false := by simp <;> omega
 have hl1' : ¬ ((List.length (y :: B) : Int) = 0) := by simp <;> omega
 obtain ⟨m, hm⟩ : ∃ m, m = List.length (y :: B) := ⟨_, rfl⟩
 obtain ⟨g2, f2, rfl, hg2, hc2⟩ := hgb (by simp)
 have h2 := hc2 0 (by simp)
 rw [← hm] at hl1 hl1' ⊢
 have hm1 : (0 : Int) < m := by rw [hm]; simp <;> omega
 have hm2 : 0 < m := by omega
 cases A with
 | nil =>
  clear hm hc2 h2
  go_enter Tryz.func242, Tryz.ntmps242
  go_wp2
  go_ret
  exact ⟨rfl, Below.refl _ _⟩
 | cons x A =>
 have hl2 : ((List.length (x :: A) : Int) == 0) = false := by simp <;> omega
 have hl2' : ¬ ((List.length (x :: A) : Int) = 0) := by simp <;> omega
 obtain ⟨n, hn⟩ : ∃ n, n = List.length (x :: A) := ⟨_, rfl⟩
 obtain ⟨g, f, rfl, hg, hc⟩ := hga (by simp)
 have h1 := hc 0 (by simp)
 rw [← hn] at hl2 hl2' ⊢
 have hn1 : (0 : Int) < n := by rw [hn]; simp <;> omega
 have hn2 : 0 < n := by omega
 simp only [List.getElem_cons_zero, Nat.zero_mul, Nat.add_zero] at h1 h2
 have HS : Hid (∀ wx, Below w.heap.size w wx → wx.cell? ⟨g, f, none⟩ = some (.string x.o) ∧ wx.cell? ⟨g, f + 1, none⟩ = some (int i64 x.r) ∧ wx.cell? ⟨g, f + 2, none⟩ = some (int i64 x.n) ∧ wx.cell? ⟨g2, f2, none⟩ = some (.string y.o) ∧ wx.cell? ⟨g2, f2 + 1, none⟩ = some (int i64 y.r) ∧ wx.cell? ⟨g2, f2 + 2, none⟩ = some (int i64 y.n)) := fun wx h => by
  have q1 := h1.below h hg
  have q2 := h2.below h hg2
  unfold taC at q1 q2
  obtain ⟨r0, r1, r2⟩ := q1
  obtain ⟨s0, s1, s2⟩ := q2
  exact ⟨r0, r1, r2, s0, s1, s2⟩
 obtain ⟨R, hR⟩ : ∃ R, R = GL JY (x :: A) (y :: B) := ⟨_, rfl⟩
 have HKX : Hid (∀ wx, Calls Tryz.prog 123 #[.iface 38 (.agg #[.string x.o, int i64 x.r, int i64 x.n])] wx fun e w' => e = .returned (.agg #[.string x.o, int i64 x.r, int i64 0]) ∧ Below wx.heap.size wx w') := fun wx => Z3 x wx
 have HKY : Hid (∀ wx, Calls Tryz.prog 123 #[.iface 38 (.agg #[.string y.o, int i64 y.r, int i64 y.n])] wx fun e w' => e = .returned (.agg #[.string y.o, int i64 y.r, int i64 0]) ∧ Below wx.heap.size wx w') := fun wx => Z3 y wx
 have HCM : Hid (∀ wx, Calls Tryz.prog 124 #[.agg #[.string x.o, int i64 x.r, int i64 0], .agg #[.string y.o, int i64 y.r, int i64 0]] wx fun e w' => e = .returned (int i64 R) ∧ Below wx.heap.size wx w') := fun wx => by rw [hR]; exact JZ _ _ _ _ _ _ wx
 rw [← hR]
 have hBc : Below w.heap.size w w := Below.refl _ _
 clear hm hn hc hc2 h1 h2 hR hga hgb
 go_enter Tryz.func242, Tryz.ntmps242
 go_wp2
 replace hBc := hBc.drew
 have hs := Ja (HS.out _ hBc)
 refine wph HS hBc 12 ?_
 refine tQ 0 JiW ?_; refine tQ 1 JjX ?_; refine tQ 2 Jki ?_; refine tQ 3 JiH ?_; refine tQ 5 Jje ?_; refine tQ 6 Jke ?_; refine tQ 7 JjS ?_; refine tQ 8 JiY ?_
 refine rd 4 Jkg (fun K hK => ?_)
 go_simp
 refine (HKX.out _).mono ?_
 rintro e wn ⟨rfl, hbn⟩
 replace hBc := nx hBc hbn
 clear hbn
 try go_wp2_with fail
 replace hs := Ja (HS.out _ hBc)
 refine hK.out _ _ hs.out (fun hx => ?_)
 clear hx hK K
 try simp only [s1, s2, s3]
 clear HKX
 refine rd 9 Jjj (fun K hK => ?_)
 go_simp
 refine (HKY.out _).mono ?_
 rintro e wn ⟨rfl, hbn⟩
 replace hBc := nx hBc hbn
 clear hbn
 try go_wp2_with fail
 replace hs := Ja (HS.out _ hBc)
 refine hK.out _ _ hs.out (fun hx => ?_)
 clear hx hK K
 try simp only [s1, s2, s3]
 clear HKY
 refine rd 10 Jgk (fun K hK => ?_)
 go_simp
 refine (HCM.out _).mono ?_
 rintro e wn ⟨rfl, hbn⟩
 replace hBc := nx hBc hbn
 clear hbn
 try go_wp2_with fail
 replace hs := Ja (HS.out _ hBc)
 refine hK.out _ _ hs.out (fun hx => ?_)
 clear hx hK K
 try simp only [s1, s2, s3]
 clear HCM
 refine tQ 11 JfM ?_
 refine wpd ?_
 have HBF := Ja hBc
 clear hs hBc HS
 go_wp2
 go_ret
 exact ⟨rfl, HBF.out⟩
abbrev JiG : Oper := oq 13 (.move (.tmp 0)) 26 "l10_merge.go:54" #[] none
abbrev JiO : Oper := oq 14 (.indexAddr 26 (.tmp 13) (.const (int i64 0))) 0 "l10_merge.go:54" #[eD 0] none
abbrev Jjy : Oper := oq 15 (.load 40 (.tmp 14)) 40 "l10_merge.go:54" #[eD 1] none
abbrev JjR : Oper := oq 16 (.makeInterface 40 (.tmp 15)) 205 "l10_merge.go:54" #[eD 2] none
abbrev Jkr : Oper := oq 17 (.call ⟨.value (.func 123), #[.tmp 16], #[205]⟩) 147 "l10_merge.go:54" #[eD 3] none
abbrev Jjr : Oper := oq 18 (.move (.tmp 1)) 26 "l10_merge.go:54" #[] none
abbrev Jil : Oper := oq 19 (.indexAddr 26 (.tmp 18) (.const (int i64 0))) 0 "l10_merge.go:54" #[eD 5] none
abbrev Jh3 : Oper := oq 20 (.load 40 (.tmp 19)) 40 "l10_merge.go:54" #[eD 6] none
abbrev Ji5 : Oper := oq 21 (.makeInterface 40 (.tmp 20)) 205 "l10_merge.go:54" #[eD 7] none
abbrev Jid : Oper := oq 22 (.call ⟨.value (.func 123), #[.tmp 21], #[205]⟩) 147 "l10_merge.go:54" #[eD 8, eC 4] none
abbrev JhF : Oper := oq 23 (.call ⟨.value (.func 124), #[.tmp 17, .tmp 22], #[147, 147]⟩) 3 "l10_merge.go:54" #[eD 4, eD 9, eC 9] none
abbrev Jf4 : Oper := oq 4 (.assign (.tmp 23)) 3 "l10_merge.go:54" #[eD 10, eC 10, eP 0, eP 1, eP 2, eP 3, eP 4, eP 5, eP 6, eP 7, eP 8, eP 9, eP 10] none
theorem KB (A B : List Li) (u v : Value) (w : World) (hA : LiAt w u A) (hB : LiAt w v B) :
  Calls Tryz.prog 243 #[u, v] w fun e w' => e = .returned (int i64 (GL Zi A B)) ∧ Below w.heap.size w w' := by
 obtain ⟨aa, ca, rfl, hga⟩ := hA
 obtain ⟨ab, cb, rfl, hgb⟩ := hB
 cases B with
 | nil =>
  go_enter Tryz.func243, Tryz.ntmps243
  go_wp2
  go_ret
  exact ⟨by cases A <;> rfl, Below.refl _ _⟩
 | cons y B =>
 have hl1 : ((List.length (y :: B) : Int) == 0) = false := by simp <;> omega
 have hl1' : ¬ ((List.length (y :: B) : Int) = 0) := by simp <;> omega
 obtain ⟨m, hm⟩ : ∃ m, m = List.length (y :: B) := ⟨_, rfl⟩
 obtain ⟨g2, f2, rfl, hg2, hc2⟩ := hgb (by simp)
 have h2 := hc2 0 (by simp)
 rw [← hm] at hl1 hl1' ⊢
 have hm1 : (0 : Int) < m := by rw [hm]; simp <;> omega
 have hm2 : 0 < m := by omega
 cases A with
 | nil =>
  clear hm hc2 h2
  go_enter Tryz.func243, Tryz.ntmps243
  go_wp2
  go_ret
  exact ⟨rfl, Below.refl _ _⟩
 | cons x A =>
 have hl2 : ((List.length (x :: A) : Int) == 0) = false := by simp <;> omega
 have hl2' : ¬ ((List.length (x :: A) : Int) = 0) := by simp <;> omega
 obtain ⟨n, hn⟩ : ∃ n, n = List.length (x :: A) := ⟨_, rfl⟩
 obtain ⟨g, f, rfl, hg, hc⟩ := hga (by simp)
 have h1 := hc 0 (by simp)
 rw [← hn] at hl2 hl2' ⊢
 have hn1 : (0 : Int) < n := by rw [hn]; simp <;> omega
 have hn2 : 0 < n := by omega
 simp only [List.getElem_cons_zero, Nat.zero_mul, Nat.add_zero] at h1 h2
 have HS : Hid (∀ wx, Below w.heap.size w wx → wx.cell? ⟨g, f, none⟩ = some (.bool x.m) ∧ wx.cell? ⟨g, f + 1, none⟩ = some (.string x.o) ∧ wx.cell? ⟨g, f + 2, none⟩ = some (.string x.y) ∧ wx.cell? ⟨g, f + 3, none⟩ = some (int i64 x.v) ∧ wx.cell? ⟨g, f + 4, none⟩ = some (int i64 x.r) ∧ wx.cell? ⟨g, f + 5, none⟩ = some (int i64 x.s) ∧ wx.cell? ⟨g2, f2, none⟩ = some (.bool y.m) ∧ wx.cell? ⟨g2, f2 + 1, none⟩ = some (.string y.o) ∧ wx.cell? ⟨g2, f2 + 2, none⟩ = some (.string y.y) ∧ wx.cell? ⟨g2, f2 + 3, none⟩ = some (int i64 y.v) ∧ wx.cell? ⟨g2, f2 + 4, none⟩ = some (int i64 y.r) ∧ wx.cell? ⟨g2, f2 + 5, none⟩ = some (int i64 y.s)) := fun wx h => by
  have q1 := h1.below h hg
  have q2 := h2.below h hg2
  unfold liC at q1 q2
  obtain ⟨r0, r1, r2, r3, r4, r5⟩ := q1
  obtain ⟨s0, s1, s2, s3, s4, s5⟩ := q2
  exact ⟨r0, r1, r2, r3, r4, r5, s0, s1, s2, s3, s4, s5⟩
 obtain ⟨R, hR⟩ : ∃ R, R = GL Zi (x :: A) (y :: B) := ⟨_, rfl⟩
 have HKX : Hid (∀ wx, Calls Tryz.prog 123 #[.iface 40 (.agg #[.bool x.m, .string x.o, .string x.y, int i64 x.v, int i64 x.r, int i64 x.s])] wx fun e w' => e = .returned (.agg #[.string ⟨#[]⟩, int i64 x.r, int i64 x.s]) ∧ Below wx.heap.size wx w') := fun wx => Z5 x wx
 have HKY : Hid (∀ wx, Calls Tryz.prog 123 #[.iface 40 (.agg #[.bool y.m, .string y.o, .string y.y, int i64 y.v, int i64 y.r, int i64 y.s])] wx fun e w' => e = .returned (.agg #[.string ⟨#[]⟩, int i64 y.r, int i64 y.s]) ∧ Below wx.heap.size wx w') := fun wx => Z5 y wx
 have HCM : Hid (∀ wx, Calls Tryz.prog 124 #[.agg #[.string ⟨#[]⟩, int i64 x.r, int i64 x.s], .agg #[.string ⟨#[]⟩, int i64 y.r, int i64 y.s]] wx fun e w' => e = .returned (int i64 R) ∧ Below wx.heap.size wx w') := fun wx => by rw [hR]; exact JZ _ _ _ _ _ _ wx
 rw [← hR]
 have hBc : Below w.heap.size w w := Below.refl _ _
 clear hm hn hc hc2 h1 h2 hR hga hgb
 go_enter Tryz.func243, Tryz.ntmps243
 go_wp2
 replace hBc := hBc.drew
 have hs := Ja (HS.out _ hBc)
 refine wph HS hBc 12 ?_
 refine tQ 0 JiG ?_; refine tQ 1 JiO ?_; refine tQ 2 Jjy ?_; refine tQ 3 JjR ?_; refine tQ 5 Jjr ?_; refine tQ 6 Jil ?_; refine tQ 7 Jh3 ?_; refine tQ 8 Ji5 ?_
 refine rd 4 Jkr (fun K hK => ?_)
 go_simp
 refine (HKX.out _).mono ?_
 rintro e wn ⟨rfl, hbn⟩
 replace hBc := nx hBc hbn
 clear hbn
 try go_wp2_with fail
 replace hs := Ja (HS.out _ hBc)
 refine hK.out _ _ hs.out (fun hx => ?_)
 clear hx hK K
 try simp only [s1, s2, s3]
 clear HKX
 refine rd 9 Jid (fun K hK => ?_)
 go_simp
 refine (HKY.out _).mono ?_
 rintro e wn ⟨rfl, hbn⟩
 replace hBc := nx hBc hbn
 clear hbn
 try go_wp2_with fail
 replace hs := Ja (HS.out _ hBc)
 refine hK.out _ _ hs.out (fun hx => ?_)
 clear hx hK K
 try simp only [s1, s2, s3]
 clear HKY
 refine rd 10 JhF (fun K hK => ?_)
 go_simp
 refine (HCM.out _).mono ?_
 rintro e wn ⟨rfl, hbn⟩
 replace hBc := nx hBc hbn
 clear hbn
 try go_wp2_with fail
 replace hs := Ja (HS.out _ hBc)
 refine hK.out _ _ hs.out (fun hx => ?_)
 clear hx hK K
 try simp only [s1, s2, s3]
 clear HCM
 refine tQ 11 Jf4 ?_
 refine wpd ?_
 have HBF := Ja hBc
 clear hs hBc HS
 go_wp2
 go_ret
 exact ⟨rfl, HBF.out⟩
abbrev Jkc : Oper := oq 13 (.move (.tmp 0)) 27 "l10_merge.go:54" #[] none
abbrev Jik : Oper := oq 14 (.indexAddr 27 (.tmp 13) (.const (int i64 0))) 0 "l10_merge.go:54" #[eD 0] none
abbrev JjZ : Oper := oq 15 (.load 35 (.tmp 14)) 35 "l10_merge.go:54" #[eD 1] none
abbrev Jie : Oper := oq 16 (.makeInterface 35 (.tmp 15)) 205 "l10_merge.go:54" #[eD 2] none
abbrev Jic : Oper := oq 17 (.call ⟨.value (.func 123), #[.tmp 16], #[205]⟩) 147 "l10_merge.go:54" #[eD 3] none
abbrev Jkj : Oper := oq 18 (.move (.tmp 1)) 27 "l10_merge.go:54" #[] none
abbrev JiM : Oper := oq 19 (.indexAddr 27 (.tmp 18) (.const (int i64 0))) 0 "l10_merge.go:54" #[eD 5] none
abbrev Ji9 : Oper := oq 20 (.load 35 (.tmp 19)) 35 "l10_merge.go:54" #[eD 6] none
abbrev Jkq : Oper := oq 21 (.makeInterface 35 (.tmp 20)) 205 "l10_merge.go:54" #[eD 7] none
abbrev Jjt : Oper := oq 22 (.call ⟨.value (.func 123), #[.tmp 21], #[205]⟩) 147 "l10_merge.go:54" #[eD 8, eC 4] none
abbrev JfV : Oper := oq 23 (.call ⟨.value (.func 124), #[.tmp 17, .tmp 22], #[147, 147]⟩) 3 "l10_merge.go:54" #[eD 4, eD 9, eC 9] none
abbrev Jgi : Oper := oq 4 (.assign (.tmp 23)) 3 "l10_merge.go:54" #[eD 10, eC 10, eP 0, eP 1, eP 2, eP 3, eP 4, eP 5, eP 6, eP 7, eP 8, eP 9, eP 10] none
theorem Kz (A B : List Ce) (u v : Value) (w : World) (hA : CeAt w u A) (hB : CeAt w v B) :
  Calls Tryz.prog 244 #[u, v] w fun e w' => e = .returned (int i64 (GL Zf A B)) ∧ Below w.heap.size w w' := by
 obtain ⟨aa, ca, rfl, hga⟩ := hA
 obtain ⟨ab, cb, rfl, hgb⟩ := hB
 cases B with
 | nil =>
  go_enter Tryz.func244, Tryz.ntmps244
  go_wp2
  go_ret
  exact ⟨by cases A <;> rfl, Below.refl _ _⟩
 | cons y B =>
 have hl1 : ((List.length (y :: B) : Int) == 0) = false := by simp <;> omega
 have hl1' : ¬ ((List.length (y :: B) : Int) = 0) := by simp <;> omega
 obtain ⟨m, hm⟩ : ∃ m, m = List.length (y :: B) := ⟨_, rfl⟩
 obtain ⟨g2, f2, rfl, hg2, hc2⟩ := hgb (by simp)
 have h2 := hc2 0 (by simp)
 rw [← hm] at hl1 hl1' ⊢
 have hm1 : (0 : Int) < m := by rw [hm]; simp <;> omega
 have hm2 : 0 < m := by omega
 cases A with
 | nil =>
  clear hm hc2 h2
  go_enter Tryz.func244, Tryz.ntmps244
  go_wp2
  go_ret
  exact ⟨rfl, Below.refl _ _⟩
 | cons x A =>
 have hl2 : ((List.length (x :: A) : Int) == 0) = false := by simp <;> omega
 have hl2' : ¬ ((List.length (x :: A) : Int) = 0) := by simp <;> omega
 obtain ⟨n, hn⟩ : ∃ n, n = List.length (x :: A) := ⟨_, rfl⟩
 obtain ⟨g, f, rfl, hg, hc⟩ := hga (by simp)
 have h1 := hc 0 (by simp)
 rw [← hn] at hl2 hl2' ⊢
 have hn1 : (0 : Int) < n := by rw [hn]; simp <;> omega
 have hn2 : 0 < n := by omega
 simp only [List.getElem_cons_zero, Nat.zero_mul, Nat.add_zero] at h1 h2
 have HS : Hid (∀ wx, Below w.heap.size w wx → wx.cell? ⟨g, f, none⟩ = some (.string x.o) ∧ wx.cell? ⟨g, f + 1, none⟩ = some (int i64 x.r) ∧ wx.cell? ⟨g, f + 2, none⟩ = some (int i64 x.s) ∧ wx.cell? ⟨g, f + 3, none⟩ = some (int i64 x.t) ∧ wx.cell? ⟨g, f + 4, none⟩ = some (int i64 x.x) ∧ wx.cell? ⟨g, f + 5, none⟩ = some (int i64 x.z) ∧ wx.cell? ⟨g, f + 6, none⟩ = some (int i64 x.v) ∧ wx.cell? ⟨g, f + 7, none⟩ = some (.bool x.g) ∧ wx.cell? ⟨g2, f2, none⟩ = some (.string y.o) ∧ wx.cell? ⟨g2, f2 + 1, none⟩ = some (int i64 y.r) ∧ wx.cell? ⟨g2, f2 + 2, none⟩ = some (int i64 y.s) ∧ wx.cell? ⟨g2, f2 + 3, none⟩ = some (int i64 y.t) ∧ wx.cell? ⟨g2, f2 + 4, none⟩ = some (int i64 y.x) ∧ wx.cell? ⟨g2, f2 + 5, none⟩ = some (int i64 y.z) ∧ wx.cell? ⟨g2, f2 + 6, none⟩ = some (int i64 y.v) ∧ wx.cell? ⟨g2, f2 + 7, none⟩ = some (.bool y.g)) := fun wx h => by
  have q1 := h1.below h hg
  have q2 := h2.below h hg2
  unfold ceC at q1 q2
  obtain ⟨r0, r1, r2, r3, r4, r5, r6, r7⟩ := q1
  obtain ⟨s0, s1, s2, s3, s4, s5, s6, s7⟩ := q2
  exact ⟨r0, r1, r2, r3, r4, r5, r6, r7, s0, s1, s2, s3, s4, s5, s6, s7⟩
 obtain ⟨R, hR⟩ : ∃ R, R = GL Zf (x :: A) (y :: B) := ⟨_, rfl⟩
 have HKX : Hid (∀ wx, Calls Tryz.prog 123 #[.iface 35 (.agg #[.string x.o, int i64 x.r, int i64 x.s, int i64 x.t, int i64 x.x, int i64 x.z, int i64 x.v, .bool x.g])] wx fun e w' => e = .returned (.agg #[.string ⟨#[]⟩, int i64 x.r, int i64 x.s]) ∧ Below wx.heap.size wx w') := fun wx => ZA x wx
 have HKY : Hid (∀ wx, Calls Tryz.prog 123 #[.iface 35 (.agg #[.string y.o, int i64 y.r, int i64 y.s, int i64 y.t, int i64 y.x, int i64 y.z, int i64 y.v, .bool y.g])] wx fun e w' => e = .returned (.agg #[.string ⟨#[]⟩, int i64 y.r, int i64 y.s]) ∧ Below wx.heap.size wx w') := fun wx => ZA y wx
 have HCM : Hid (∀ wx, Calls Tryz.prog 124 #[.agg #[.string ⟨#[]⟩, int i64 x.r, int i64 x.s], .agg #[.string ⟨#[]⟩, int i64 y.r, int i64 y.s]] wx fun e w' => e = .returned (int i64 R) ∧ Below wx.heap.size wx w') := fun wx => by rw [hR]; exact JZ _ _ _ _ _ _ wx
 rw [← hR]
 have hBc : Below w.heap.size w w := Below.refl _ _
 clear hm hn hc hc2 h1 h2 hR hga hgb
 go_enter Tryz.func244, Tryz.ntmps244
 go_wp2
 replace hBc := hBc.drew
 have hs := Ja (HS.out _ hBc)
 refine wph HS hBc 12 ?_
 refine tQ 0 Jkc ?_; refine tQ 1 Jik ?_; refine tQ 2 JjZ ?_; refine tQ 3 Jie ?_; refine tQ 5 Jkj ?_; refine tQ 6 JiM ?_; refine tQ 7 Ji9 ?_; refine tQ 8 Jkq ?_
 refine rd 4 Jic (fun K hK => ?_)
 go_simp
 refine (HKX.out _).mono ?_
 rintro e wn ⟨rfl, hbn⟩
 replace hBc := nx hBc hbn
 clear hbn
 try go_wp2_with fail
 replace hs := Ja (HS.out _ hBc)
 refine hK.out _ _ hs.out (fun hx => ?_)
 clear hx hK K
 try simp only [s1, s2, s3]
 clear HKX
 refine rd 9 Jjt (fun K hK => ?_)
 go_simp
 refine (HKY.out _).mono ?_
 rintro e wn ⟨rfl, hbn⟩
 replace hBc := nx hBc hbn
 clear hbn
 try go_wp2_with fail
 replace hs := Ja (HS.out _ hBc)
 refine hK.out _ _ hs.out (fun hx => ?_)
 clear hx hK K
 try simp only [s1, s2, s3]
 clear HKY
 refine rd 10 JfV (fun K hK => ?_)
 go_simp
 refine (HCM.out _).mono ?_
 rintro e wn ⟨rfl, hbn⟩
 replace hBc := nx hBc hbn
 clear hbn
 try go_wp2_with fail
 replace hs := Ja (HS.out _ hBc)
 refine hK.out _ _ hs.out (fun hx => ?_)
 clear hx hK K
 try simp only [s1, s2, s3]
 clear HCM
 refine tQ 11 Jgi ?_
 refine wpd ?_
 have HBF := Ja hBc
 clear hs hBc HS
 go_wp2
 go_ret
 exact ⟨rfl, HBF.out⟩
def JI {α : Type} (q : Bo α) : α := if q.ia then q.a else q.b
theorem Jho {fn : Func} {q : Tmp} (h : fn.results = #[.cell q 38]) {tmps : Array Value} {w : World} {g : Nat} {cs : Array Value} (hc : cs.size = 3) (hp : tmps.getD q undef = .pointer (some ⟨g, 0, none⟩)) (hg : Row w g cs 38) :
  (results fn tmps).run Tryz.prog w = .ok (.agg cs) w := results_cell_row h tmps w g 38 _ (0, 0) _ hp hg Tryz.underlying38 rfl (by rw [hc]; kernel_rfl)
theorem JdN {fn : Func} {q u : Tmp} (h : fn.results = #[.cell q 38, .tmp u]) {tmps : Array Value} {w : World} {g : Nat} {cs : Array Value} {v : Value} (hc : cs.size = 3) (hp : tmps.getD q undef = .pointer (some ⟨g, 0, none⟩)) (hv : tmps.getD u undef = v) (hg : Row w g cs 38) :
  (results fn tmps).run Tryz.prog w = .ok (.tuple #[.agg cs, v]) w := by
 rw [results_cell_tmp h, hp, hv]
 simp [asAddr, Result.andThen, run_loadVar_row w g 38 38 _ (0, 0) _ hg Tryz.underlying38 rfl (by rw [hc]; kernel_rfl)]
theorem Jbl (x y : Ta) (ia ib : Bool) (w : World) :
  Calls Tryz.prog 181 #[.agg #[.string x.o, int i64 x.r, int i64 x.n, .string y.o, int i64 y.r, int i64 y.n, .bool ia, .bool ib]] w fun e w' => e = .returned (.agg #[.string (if ia then x else y).o, int i64 (if ia then x else y).r, int i64 (if ia then x else y).n]) ∧ Below w.heap.size w w' := by
 cases ia <;> (
  go_enter Tryz.func181, Tryz.ntmps181
  go_wp2
  exact bodyPost_ret (Jho rfl rfl rfl (Jb _ _ _ (by simp))) rfl ⟨rfl, ((Below.refl _ _).alloc (Nat.le_refl _) _).alloc (by simp) _⟩)
theorem Jg1 {fn : Func} {q : Tmp} (h : fn.results = #[.cell q 40]) {tmps : Array Value} {w : World} {g : Nat} {cs : Array Value} (hc : cs.size = 6) (hp : tmps.getD q undef = .pointer (some ⟨g, 0, none⟩)) (hg : Row w g cs 40) :
  (results fn tmps).run Tryz.prog w = .ok (.agg cs) w := results_cell_row h tmps w g 40 _ (0, 0) _ hp hg Tryz.underlying40 rfl (by rw [hc]; kernel_rfl)
theorem Jee {fn : Func} {q u : Tmp} (h : fn.results = #[.cell q 40, .tmp u]) {tmps : Array Value} {w : World} {g : Nat} {cs : Array Value} {v : Value} (hc : cs.size = 6) (hp : tmps.getD q undef = .pointer (some ⟨g, 0, none⟩)) (hv : tmps.getD u undef = v) (hg : Row w g cs 40) :
  (results fn tmps).run Tryz.prog w = .ok (.tuple #[.agg cs, v]) w := by
 rw [results_cell_tmp h, hp, hv]
 simp [asAddr, Result.andThen, run_loadVar_row w g 40 40 _ (0, 0) _ hg Tryz.underlying40 rfl (by rw [hc]; kernel_rfl)]
theorem Ja7 (x y : Li) (ia ib : Bool) (w : World) :
  Calls Tryz.prog 185 #[.agg #[.bool x.m, .string x.o, .string x.y, int i64 x.v, int i64 x.r, int i64 x.s, .bool y.m, .string y.o, .string y.y, int i64 y.v, int i64 y.r, int i64 y.s, .bool ia, .bool ib]] w fun e w' => e = .returned (.agg #[.bool (if ia then x else y).m, .string (if ia then x else y).o, .string (if ia then x else y).y, int i64 (if ia then x else y).v, int i64 (if ia then x else y).r, int i64 (if ia then x else y).s]) ∧ Below w.heap.size w w' := by
 cases ia <;> (
  go_enter Tryz.func185, Tryz.ntmps185
  go_wp2
  exact bodyPost_ret (Jg1 rfl rfl rfl (Jb _ _ _ (by simp))) rfl ⟨rfl, ((Below.refl _ _).alloc (Nat.le_refl _) _).alloc (by simp) _⟩)
theorem Jg9 {fn : Func} {q : Tmp} (h : fn.results = #[.cell q 35]) {tmps : Array Value} {w : World} {g : Nat} {cs : Array Value} (hc : cs.size = 8) (hp : tmps.getD q undef = .pointer (some ⟨g, 0, none⟩)) (hg : Row w g cs 35) :
  (results fn tmps).run Tryz.prog w = .ok (.agg cs) w := results_cell_row h tmps w g 35 _ (0, 0) _ hp hg Tryz.underlying35 rfl (by rw [hc]; kernel_rfl)
theorem Jd6 {fn : Func} {q u : Tmp} (h : fn.results = #[.cell q 35, .tmp u]) {tmps : Array Value} {w : World} {g : Nat} {cs : Array Value} {v : Value} (hc : cs.size = 8) (hp : tmps.getD q undef = .pointer (some ⟨g, 0, none⟩)) (hv : tmps.getD u undef = v) (hg : Row w g cs 35) :
  (results fn tmps).run Tryz.prog w = .ok (.tuple #[.agg cs, v]) w := by
 rw [results_cell_tmp h, hp, hv]
 simp [asAddr, Result.andThen, run_loadVar_row w g 35 35 _ (0, 0) _ hg Tryz.underlying35 rfl (by rw [hc]; kernel_rfl)]
theorem JbN (x y : Ce) (ia ib : Bool) (w : World) :
  Calls Tryz.prog 188 #[.agg #[.string x.o, int i64 x.r, int i64 x.s, int i64 x.t, int i64 x.x, int i64 x.z, int i64 x.v, .bool x.g, .string y.o, int i64 y.r, int i64 y.s, int i64 y.t, int i64 y.x, int i64 y.z, int i64 y.v, .bool y.g, .bool ia, .bool ib]] w fun e w' => e = .returned (.agg #[.string (if ia then x else y).o, int i64 (if ia then x else y).r, int i64 (if ia then x else y).s, int i64 (if ia then x else y).t, int i64 (if ia then x else y).x, int i64 (if ia then x else y).z, int i64 (if ia then x else y).v, .bool (if ia then x else y).g]) ∧ Below w.heap.size w w' := by
 cases ia <;> (
  go_enter Tryz.func188, Tryz.ntmps188
  go_wp2
  exact bodyPost_ret (Jg9 rfl rfl rfl (Jb _ _ _ (by simp))) rfl ⟨rfl, ((Below.refl _ _).alloc (Nat.le_refl _) _).alloc (by simp) _⟩)
structure Rk {α : Type} (lt : α → α → Prop) (rk : α → α → Int) : Prop where
 neg : ∀ x y, rk x y < 0 ↔ lt x y
 pos : ∀ x y, 0 < rk x y ↔ lt y x
 tr : ∀ x y z, lt x y → lt y z → lt x z
 el : ∀ x y z, rk x y = 0 → (lt x z ↔ lt y z)
 er : ∀ x y z, rk x y = 0 → (lt z x ↔ lt z y)
theorem Rk.irr {α : Type} {lt : α → α → Prop} {rk : α → α → Int} (R : Rk lt rk) (x : α) : ¬ lt x x := fun h => by
 have h1 := (R.neg x x).2 h
 have h2 := (R.pos x x).2 h
 omega
theorem Rk.ne {α : Type} {lt : α → α → Prop} {rk : α → α → Int} (R : Rk lt rk) {x y : α} (h : lt x y) : rk x y ≠ 0 := by have := (R.neg x y).2 h; omega
theorem Rk.ne' {α : Type} {lt : α → α → Prop} {rk : α → α → Int} (R : Rk lt rk) {x y : α} (h : lt y x) : rk x y ≠ 0 := by have := (R.pos x y).2 h; omega
def InB {α : Type} (z : α) (rk : α → α → Int) (A B : List α) (q : Bo α) : Prop :=
 (∃ x ∈ A, (∀ y ∈ B, rk x y ≠ 0) ∧ q = ⟨x, z, true, false⟩) ∨ (∃ y ∈ B, (∀ x ∈ A, rk x y ≠ 0) ∧ q = ⟨z, y, false, true⟩) ∨ (∃ x ∈ A, ∃ y ∈ B, rk x y = 0 ∧ q = ⟨x, y, true, true⟩)
theorem JN {α : Type} {lt : α → α → Prop} {rk : α → α → Int} (R : Rk lt rk) (z : α) : ∀ (n : Nat) (A B : List α), A.length + B.length ≤ n → A.Pairwise lt → B.Pairwise lt → ∀ q, q ∈ Jg z rk A B ↔ InB z rk A B q
 | n, [], [], _, _, _ => fun q => by rw [Jg]; unfold InB; simp
 | n, x :: A, [], hn, hA, hB => fun q => by
  cases n with
  | zero => simp at hn
  | succ n =>
   rw [Jg, List.mem_cons, JN R z n A [] (by simp at hn ⊢; omega) (List.pairwise_cons.1 hA).2 hB q]
   unfold InB; simp
 | n, [], y :: B, hn, hA, hB => fun q => by
  cases n with
  | zero => simp at hn
  | succ n =>
   rw [Jg, List.mem_cons, JN R z n [] B (by simp at hn ⊢; omega) hA (List.pairwise_cons.1 hB).2 q]
   unfold InB; simp
 | n, x :: A, y :: B, hn, hA, hB => fun q => by
  cases n with
  | zero => simp at hn
  | succ n =>
   have hxA := (List.pairwise_cons.1 hA).1
   have hyB := (List.pairwise_cons.1 hB).1
   rw [Jg]
   by_cases h1 : rk x y < 0
   ·rw [if_pos h1, List.mem_cons, JN R z n A (y :: B) (by simp at hn ⊢; omega) (List.pairwise_cons.1 hA).2 hB q]
    have hxy := (R.neg x y).1 h1
    have hall : ∀ y' ∈ y :: B, rk x y' ≠ 0 := fun y' hy => by
     rcases List.mem_cons.1 hy with rfl | hy
     ·omega
     ·exact R.ne (R.tr _ _ _ hxy (hyB y' hy))
    constructor
    ·rintro (rfl | ⟨x', hx', h2, rfl⟩ | ⟨y', hy', h2, rfl⟩ | ⟨x', hx', y', hy', h2, rfl⟩)
     ·exact .inl ⟨x, by simp, hall, rfl⟩
     ·exact .inl ⟨x', by simp [hx'], h2, rfl⟩
     ·refine .inr (.inl ⟨y', hy', fun x' hx' => ?_, rfl⟩)
      rcases List.mem_cons.1 hx' with rfl | hx'
      ·exact hall y' hy'
      ·exact h2 x' hx'
     ·exact .inr (.inr ⟨x', by simp [hx'], y', hy', h2, rfl⟩)
    ·rintro (⟨x', hx', h2, rfl⟩ | ⟨y', hy', h2, rfl⟩ | ⟨x', hx', y', hy', h2, rfl⟩)
     ·rcases List.mem_cons.1 hx' with rfl | hx'
      ·exact .inl rfl
      ·exact .inr (.inl ⟨x', hx', h2, rfl⟩)
     ·exact .inr (.inr (.inl ⟨y', hy', fun x' hx' => h2 x' (by simp [hx']), rfl⟩))
     ·rcases List.mem_cons.1 hx' with rfl | hx'
      ·exact absurd h2 (hall y' hy')
      ·exact .inr (.inr (.inr ⟨x', hx', y', hy', h2, rfl⟩))
   ·rw [if_neg h1]
    by_cases h0 : rk x y = 0
    ·rw [if_pos h0, List.mem_cons, JN R z n A B (by simp at hn ⊢; omega) (List.pairwise_cons.1 hA).2 (List.pairwise_cons.1 hB).2 q]
     have hB' : ∀ y' ∈ B, rk x y' ≠ 0 := fun y' hy => R.ne ((R.el x y y' h0).2 (hyB y' hy))
     have hA' : ∀ x' ∈ A, rk x' y ≠ 0 := fun x' hx => R.ne' ((R.el x y x' h0).1 (hxA x' hx))
     constructor
     ·rintro (rfl | ⟨x', hx', h2, rfl⟩ | ⟨y', hy', h2, rfl⟩ | ⟨x', hx', y', hy', h2, rfl⟩)
      ·exact .inr (.inr ⟨x, by simp, y, by simp, h0, rfl⟩)
      ·refine .inl ⟨x', by simp [hx'], fun y' hy' => ?_, rfl⟩
       rcases List.mem_cons.1 hy' with rfl | hy'
       ·exact hA' x' hx'
       ·exact h2 y' hy'
      ·refine .inr (.inl ⟨y', by simp [hy'], fun x' hx' => ?_, rfl⟩)
       rcases List.mem_cons.1 hx' with rfl | hx'
       ·exact hB' y' hy'
       ·exact h2 x' hx'
      ·exact .inr (.inr ⟨x', by simp [hx'], y', by simp [hy'], h2, rfl⟩)
     ·rintro (⟨x', hx', h2, rfl⟩ | ⟨y', hy', h2, rfl⟩ | ⟨x', hx', y', hy', h2, rfl⟩)
      ·rcases List.mem_cons.1 hx' with rfl | hx'
       ·exact absurd h0 (h2 y (by simp))
       ·exact .inr (.inl ⟨x', hx', fun y' hy' => h2 y' (by simp [hy']), rfl⟩)
      ·rcases List.mem_cons.1 hy' with rfl | hy'
       ·exact absurd h0 (h2 x (by simp))
       ·exact .inr (.inr (.inl ⟨y', hy', fun x' hx' => h2 x' (by simp [hx']), rfl⟩))
      ·rcases List.mem_cons.1 hx' with rfl | hx'
       ·rcases List.mem_cons.1 hy' with rfl | hy'
        ·exact .inl rfl
        ·exact absurd h2 (hB' y' hy')
       ·rcases List.mem_cons.1 hy' with rfl | hy'
        ·exact absurd h2 (hA' x' hx')
        ·exact .inr (.inr (.inr ⟨x', hx', y', hy', h2, rfl⟩))
    ·rw [if_neg h0, List.mem_cons, JN R z n (x :: A) B (by simp at hn ⊢; omega) hA (List.pairwise_cons.1 hB).2 q]
     have hyx := (R.pos x y).1 (by omega)
     have hall : ∀ x' ∈ x :: A, rk x' y ≠ 0 := fun x' hx => by
      rcases List.mem_cons.1 hx with rfl | hx
      ·exact h0
      ·exact R.ne' (R.tr _ _ _ hyx (hxA x' hx))
     constructor
     ·rintro (rfl | ⟨x', hx', h2, rfl⟩ | ⟨y', hy', h2, rfl⟩ | ⟨x', hx', y', hy', h2, rfl⟩)
      ·exact .inr (.inl ⟨y, by simp, hall, rfl⟩)
      ·refine .inl ⟨x', hx', fun y' hy' => ?_, rfl⟩
       rcases List.mem_cons.1 hy' with rfl | hy'
       ·exact hall x' hx'
       ·exact h2 y' hy'
      ·exact .inr (.inl ⟨y', by simp [hy'], h2, rfl⟩)
      ·exact .inr (.inr ⟨x', hx', y', by simp [hy'], h2, rfl⟩)
     ·rintro (⟨x', hx', h2, rfl⟩ | ⟨y', hy', h2, rfl⟩ | ⟨x', hx', y', hy', h2, rfl⟩)
      ·exact .inr (.inl ⟨x', hx', fun y' hy' => h2 y' (by simp [hy']), rfl⟩)
      ·rcases List.mem_cons.1 hy' with rfl | hy'
       ·exact .inl rfl
       ·exact .inr (.inr (.inl ⟨y', hy', h2, rfl⟩))
      ·rcases List.mem_cons.1 hy' with rfl | hy'
       ·exact absurd h2 (hall x' hx')
       ·exact .inr (.inr (.inr ⟨x', hx', y', hy', h2, rfl⟩))
termination_by n => n
theorem InB.fst {α : Type} {z : α} {rk : α → α → Int} {A B : List α} {q : Bo α} (h : InB z rk A B q) : JI q ∈ A ∨ JI q ∈ B := by
 rcases h with ⟨x, hx, -, rfl⟩ | ⟨y, hy, -, rfl⟩ | ⟨x, hx, y, hy, -, rfl⟩
 ·exact .inl hx
 ·exact .inr hy
 ·exact .inl hx
theorem ZH {α : Type} {lt : α → α → Prop} {rk : α → α → Int} (R : Rk lt rk) (z : α) : ∀ (n : Nat) (A B : List α), A.length + B.length ≤ n → A.Pairwise lt → B.Pairwise lt → (Jg z rk A B).Pairwise (fun p q => lt (JI p) (JI q))
 | n, [], [], _, _, _ => by rw [Jg]; exact List.Pairwise.nil
 | n, x :: A, [], hn, hA, hB => by
  cases n with
  | zero => simp at hn
  | succ n =>
   rw [Jg]
   refine List.pairwise_cons.2 ⟨fun q hq => ?_, ZH R z n A [] (by simp at hn ⊢; omega) (List.pairwise_cons.1 hA).2 hB⟩
   rcases ((JN R z _ A [] (Nat.le_refl _) (List.pairwise_cons.1 hA).2 hB q).1 hq).fst with h | h
   ·exact (List.pairwise_cons.1 hA).1 _ h
   ·cases h
 | n, [], y :: B, hn, hA, hB => by
  cases n with
  | zero => simp at hn
  | succ n =>
   rw [Jg]
   refine List.pairwise_cons.2 ⟨fun q hq => ?_, ZH R z n [] B (by simp at hn ⊢; omega) hA (List.pairwise_cons.1 hB).2⟩
   rcases ((JN R z _ [] B (Nat.le_refl _) hA (List.pairwise_cons.1 hB).2 q).1 hq).fst with h | h
   ·cases h
   ·exact (List.pairwise_cons.1 hB).1 _ h
 | n, x :: A, y :: B, hn, hA, hB => by
  cases n with
  | zero => simp at hn
  | succ n =>
   have hA2 := (List.pairwise_cons.1 hA).2
   have hB2 := (List.pairwise_cons.1 hB).2
   have hxA := (List.pairwise_cons.1 hA).1
   have hyB := (List.pairwise_cons.1 hB).1
   rw [Jg]
   by_cases h1 : rk x y < 0
   ·rw [if_pos h1]
    have hxy := (R.neg x y).1 h1
    refine List.pairwise_cons.2 ⟨fun q hq => ?_, ZH R z n A (y :: B) (by simp at hn ⊢; omega) hA2 hB⟩
    rcases ((JN R z _ A (y :: B) (Nat.le_refl _) hA2 hB q).1 hq).fst with h | h
    ·exact hxA _ h
    ·rcases List.mem_cons.1 h with h | h
     ·rw [h]; exact hxy
     ·exact R.tr _ _ _ hxy (hyB _ h)
   ·rw [if_neg h1]
    by_cases h0 : rk x y = 0
    ·rw [if_pos h0]
     refine List.pairwise_cons.2 ⟨fun q hq => ?_, ZH R z n A B (by simp at hn ⊢; omega) hA2 hB2⟩
     rcases ((JN R z _ A B (Nat.le_refl _) hA2 hB2 q).1 hq).fst with h | h
     ·exact hxA _ h
     ·exact (R.el x y _ h0).2 (hyB _ h)
    ·rw [if_neg h0]
     have hyx := (R.pos x y).1 (by omega)
     refine List.pairwise_cons.2 ⟨fun q hq => ?_, ZH R z n (x :: A) B (by simp at hn ⊢; omega) hA hB2⟩
     rcases ((JN R z _ (x :: A) B (Nat.le_refl _) hA hB2 q).1 hq).fst with h | h
     ·rcases List.mem_cons.1 h with h | h
      ·show lt y _; rw [h]; exact hyx
      ·exact R.tr _ _ _ hyx (hxA _ h)
     ·exact hyB _ h
termination_by n => n
theorem Gu {α : Type} {lt : α → α → Prop} {rk : α → α → Int} (R : Rk lt rk) (z : α) (pick : Bo α → Option α) (A B : List α) (hA : A.Pairwise lt) (hB : B.Pairwise lt) (hp : ∀ q, InB z rk A B q → ∀ x, pick q = some x → rk x (JI q) = 0) : ((Jg z rk A B).filterMap pick).Pairwise lt := by
 rw [List.pairwise_filterMap]
 refine List.Pairwise.imp_of_mem ?_ (ZH R z _ A B (Nat.le_refl _) hA hB)
 intro p q hpm hqm hlt x hx y hy
 have h1 := hp p ((JN R z _ A B (Nat.le_refl _) hA hB p).1 hpm) x hx
 have h2 := hp q ((JN R z _ A B (Nat.le_refl _) hA hB q).1 hqm) y hy
 exact (R.el _ _ _ h1).2 ((R.er _ _ _ h2).2 hlt)
theorem GO {α : Type} {lt : α → α → Prop} {rk : α → α → Int} (R : Rk lt rk) (z : α) (pick : Bo α → Option α) (A B : List α) (hA : A.Pairwise lt) (hB : B.Pairwise lt) (x : α) : x ∈ (Jg z rk A B).filterMap pick ↔ ∃ q, InB z rk A B q ∧ pick q = some x := by
 rw [List.mem_filterMap]
 constructor
 ·rintro ⟨q, hq, h⟩; exact ⟨q, (JN R z _ A B (Nat.le_refl _) hA hB q).1 hq, h⟩
 ·rintro ⟨q, hq, h⟩; exact ⟨q, (JN R z _ A B (Nat.le_refl _) hA hB q).2 hq, h⟩
theorem Z9 {α : Type} {lt : α → α → Prop} (irr : ∀ x, ¬ lt x x) (tr : ∀ x y z, lt x y → lt y z → lt x z) : ∀ (l m : List α), l.Pairwise lt → m.Pairwise lt → (∀ x, x ∈ l ↔ x ∈ m) → l = m
 | [], [], _, _, _ => rfl
 | [], b :: m, _, _, h => by have := (h b).2 (by simp); cases this
 | a :: l, [], _, _, h => by have := (h a).1 (by simp); cases this
 | a :: l, b :: m, hl, hm, h => by
  have hla := (List.pairwise_cons.1 hl).1
  have hmb := (List.pairwise_cons.1 hm).1
  have e : a = b := by
   rcases List.mem_cons.1 ((h a).1 (by simp)) with e | h1
   ·exact e
   ·rcases List.mem_cons.1 ((h b).2 (by simp)) with e | h2
    ·exact e.symm
    ·exact absurd (tr _ _ _ (hla b h2) (hmb a h1)) (irr a)
  subst e
  congr 1
  refine Z9 irr tr l m (List.pairwise_cons.1 hl).2 (List.pairwise_cons.1 hm).2 fun x => ⟨fun hx => ?_, fun hx => ?_⟩
  ·rcases List.mem_cons.1 ((h x).1 (by simp [hx])) with e | h1
   ·subst e; exact absurd (hla x hx) (irr x)
   ·exact h1
  ·rcases List.mem_cons.1 ((h x).2 (by simp [hx])) with e | h1
   ·subst e; exact absurd (hmb x hx) (irr x)
   ·exact h1
theorem Zm {α : Type} (z : α) (rk : α → α → Int) : ∀ (n : Nat) (A B : List α), A.length + B.length ≤ n → (Jg z rk A B).length ≤ A.length + B.length
 | n, [], [], _ => by rw [Jg]; simp
 | n, x :: A, [], hn => by
  cases n with
  | zero => simp at hn
  | succ n => rw [Jg]; have := Zm z rk n A [] (by simp at hn ⊢; omega); simp at this ⊢; omega
 | n, [], y :: B, hn => by
  cases n with
  | zero => simp at hn
  | succ n => rw [Jg]; have := Zm z rk n [] B (by simp at hn ⊢; omega); simp at this ⊢; omega
 | n, x :: A, y :: B, hn => by
  cases n with
  | zero => simp at hn
  | succ n =>
   rw [Jg]
   have h1 := Zm z rk n A (y :: B) (by simp at hn ⊢; omega)
   have h2 := Zm z rk n A B (by simp at hn ⊢; omega)
   have h3 := Zm z rk n (x :: A) B (by simp at hn ⊢; omega)
   split
   ·simp at h1 ⊢; omega
   ·split
    ·simp at h2 ⊢; omega
    ·simp at h3 ⊢; omega
termination_by n => n
theorem Jq {w : World} {g : Nat} {cs : Array Value} {T : TypeId} (h : Row w g cs T) {n : Nat} (hn : cs.size = n) : (loadCellsFrom ⟨g, 0, none⟩ 0 n #[]).run Tryz.prog w = .ok cs w := by
 subst hn
 have := run_loadCells_list (P := Tryz.prog) w ⟨g, 0, none⟩ cs.toList (fun j v hv => by
  have hadd : (⟨g, 0, none⟩ : Addr).add j = ⟨g, j, none⟩ := by unfold Addr.add; split <;> simp_all
  rw [hadd, cell_of_row _ _ j cs T (0, 0) h]
  simpa using hv)
 simpa [loadCells] using this
theorem Row.setL {w : World} {g : Nat} {l : List Value} {T : TypeId} (h : Row w g l.toArray T) (i : Nat) (x : Value) : Row (w.setCell ⟨g, i, none⟩ x) g (l.set i x).toArray T := by
 have := Row.set h i x
 simpa using this
end Go.Proofs.YtdknoflkingodaaGreat
