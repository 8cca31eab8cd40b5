/- A right state, as the specification asks. -/
import Derived.Test.YtepfinenocpneaaGreatQ18
import Derived.Test.YtepfinenocpneaaGreatQ19
set_option maxHeartbeats 16000000
namespace Go.Proofs.YtepfinenocpneaaGreat
open Value (int)
open IntKind (i64)
set_option maxRecDepth 100000
set_option linter.unusedVariables false
open Go.RowKit
def G7 (C : List Ce) (a : Ce) : Prop := (a.x = 0 ∧ a.z = 0) ∨ ∃ k, ∃ h : k < C.length, cellAt C a.x a.z 0 = (k : Int) ∧ C[k].o = a.o ∧ C[k].t < a.t
def SOk (S : Sta) : Prop := KOk S.l ∧ KV S.T ∧ GF S.L ∧ Gj S.C ∧ (∀ i (h : i < S.L.length), Jf S.l S.L[i].r S.L[i].s = true) ∧ (∀ i (h : i < S.C.length), Jf S.l S.C[i].r S.C[i].s = true ∧ G7 S.C S.C[i])
def Small (S : Sta) : Prop := S.l.length ≤ 1048576 ∧ S.T.length ≤ 1048576 ∧ S.L.length ≤ 1048576 ∧ S.C.length ≤ 1048576
def JdR (S : Sta) : Prop := (∀ a ∈ S.T, a.o.size ≤ 1048576) ∧ (∀ a ∈ S.L, a.o.size ≤ 1048576 ∧ a.y.size ≤ 1048576) ∧ (∀ a ∈ S.C, a.o.size ≤ 1048576)
theorem Z7 : ∀ (l : List Ce) (r s k : Int), 0 ≤ k → cellAt l r s k = -1 ∨ (k ≤ cellAt l r s k ∧ cellAt l r s k < k + l.length)
 | [], r, s, k, _ => .inl rfl
 | c :: l, r, s, k, hk => by
  unfold cellAt
  by_cases h : c.r = r ∧ c.s = s
  ·rw [if_pos h]; right; simp only [List.length_cons]; omega
  ·rw [if_neg h]
   rcases Z7 l r s (k + 1) (by omega) with e | e
   ·exact .inl e
   ·right; simp only [List.length_cons]; omega
abbrev JfG : Oper := oq 72 (.move (.tmp 6)) 3 "l06_state.go:71" #[] none
abbrev JfQ : Oper := oq 73 (.binOp .lss 3 (.tmp 72) (.const (int i64 0)) 3) 4 "l06_state.go:71" #[eD 0] none
abbrev Jgc : Oper := oq 74 (.move (.tmp 73)) 4 "l06_state.go:71" #[eD 1] none
abbrev Je2 : Oper := oq 75 (.fieldAddr 29 (.tmp 1) 3) 0 "l06_state.go:71" #[eG 2] (some (2, false))
abbrev Je1 : Oper := oq 76 (.load 27 (.tmp 75)) 27 "l06_state.go:71" #[eD 3, eG 2] (some (2, false))
abbrev JfX : Oper := oq 77 (.move (.tmp 6)) 3 "l06_state.go:71" #[eG 2] (some (2, false))
abbrev Jfp : Oper := oq 78 (.indexAddr 27 (.tmp 76) (.tmp 77)) 0 "l06_state.go:71" #[eD 4, eD 5, eG 2] (some (2, false))
abbrev Jfo : Oper := oq 79 (.fieldAddr 90 (.tmp 78) 0) 0 "l06_state.go:71" #[eD 6, eG 2] (some (2, false))
abbrev Jge : Oper := oq 80 (.load 9 (.tmp 79)) 9 "l06_state.go:71" #[eD 7, eG 2] (some (2, false))
abbrev JfT : Oper := oq 81 (.fieldAddr 90 (.tmp 5) 0) 0 "l06_state.go:71" #[eG 2] (some (2, false))
abbrev JcW : Oper := oq 82 (.load 9 (.tmp 81)) 9 "l06_state.go:71" #[eD 9, eG 2] (some (2, false))
abbrev Jdv : Oper := oq 83 (.binOp .neq 9 (.tmp 80) (.tmp 82) 9) 4 "l06_state.go:71" #[eD 8, eD 10, eG 2] (some (2, false))
abbrev JcL : Oper := oq 84 (.pick (.tmp 74) (.const (.bool true)) (.tmp 83)) 4 "l06_state.go:71" #[eD 2, eD 11] none
abbrev JdE : Oper := oq 85 (.move (.tmp 84)) 4 "l06_state.go:71" #[eD 12, eC 2] none
abbrev JdO : Oper := oq 86 (.fieldAddr 29 (.tmp 1) 3) 0 "l06_state.go:71" #[eG 13] (some (13, false))
abbrev JcM : Oper := oq 87 (.load 27 (.tmp 86)) 27 "l06_state.go:71" #[eD 14, eG 13] (some (13, false))
abbrev JcT : Oper := oq 88 (.move (.tmp 6)) 3 "l06_state.go:71" #[eG 13] (some (13, false))
abbrev JcN : Oper := oq 89 (.indexAddr 27 (.tmp 87) (.tmp 88)) 0 "l06_state.go:71" #[eD 15, eD 16, eG 13] (some (13, false))
abbrev Jdy : Oper := oq 90 (.fieldAddr 90 (.tmp 89) 2) 0 "l06_state.go:71" #[eD 17, eG 13] (some (13, false))
abbrev JcH : Oper := oq 91 (.load 3 (.tmp 90)) 3 "l06_state.go:71" #[eD 18, eG 13] (some (13, false))
abbrev JdW : Oper := oq 92 (.fieldAddr 90 (.tmp 5) 2) 0 "l06_state.go:71" #[eG 13] (some (13, false))
abbrev JcE : Oper := oq 93 (.load 3 (.tmp 92)) 3 "l06_state.go:71" #[eD 20, eG 13] (some (13, false))
abbrev Jcz : Oper := oq 94 (.binOp .geq 3 (.tmp 91) (.tmp 93) 3) 4 "l06_state.go:71" #[eD 19, eD 21, eG 13] (some (13, false))
abbrev Jc0 : Oper := oq 95 (.pick (.tmp 85) (.const (.bool true)) (.tmp 94)) 4 "l06_state.go:71" #[eD 13, eD 22] none
theorem K8 (S : Sta) (u0 u1 u2 u3 : Value) (w : World) (hn : Small S) (hst : JdR S) (h : StAt w S u0 u1 u2 u3) :
  Calls Tryz.prog 21 #[.agg #[u0, u1, u2, u3]] w fun e w' => Tells e (SOk S) ∧ Below w.heap.size w w' := by
 obtain ⟨a0, c0, a1, c1, a2, c2, a3, c3, rfl, rfl, rfl, rfl⟩ := h.shape
 obtain ⟨W, hW⟩ : ∃ W, W = w.alloc (.cells #[.slice a0 S.l.length c0, .slice a1 S.T.length c1, .slice a2 S.L.length c2, .slice a3 S.C.length c3] 29) := ⟨_, rfl⟩
 have HB : Hid (Below w.heap.size w W) := by rw [hW]; exact (Below.refl _ _).alloc (Nat.le_refl _) _
 have hS : StAt W S (.slice a0 S.l.length c0) (.slice a1 S.T.length c1) (.slice a2 S.L.length c2) (.slice a3 S.C.length c3) := by rw [hW]; exact h.alloc _
 have hR : Row W w.heap.size #[.slice a0 S.l.length c0, .slice a1 S.T.length c1, .slice a2 S.L.length c2, .slice a3 S.C.length c3] 29 := by rw [hW]; exact Jb w _ _ rfl
 have HS : Hid (∀ wx, Below W.heap.size W wx → StAt wx S (.slice a0 S.l.length c0) (.slice a1 S.T.length c1) (.slice a2 S.L.length c2) (.slice a3 S.C.length c3)) := fun wx h => hS.below h
 have HR : Hid (∀ wx, Below W.heap.size W wx → wx.cell? ⟨w.heap.size, 0, none⟩ = some (.slice a0 S.l.length c0) ∧ wx.cell? ⟨w.heap.size, 1, none⟩ = some (.slice a1 S.T.length c1) ∧ wx.cell? ⟨w.heap.size, 2, none⟩ = some (.slice a2 S.L.length c2) ∧ wx.cell? ⟨w.heap.size, 3, none⟩ = some (.slice a3 S.C.length c3)) := fun wx h => Row.four (hR.next h)
 have HK : Hid (∀ wx, Below W.heap.size W wx → Calls Tryz.prog 57 #[.slice a0 S.l.length c0] wx fun e w' => e = .returned (.bool (decide (KOk S.l))) ∧ w' = wx) := fun wx h => JG S.l _ wx hn.1 (HS.out wx h).1
 have HT : Hid (∀ wx, Below W.heap.size W wx → Calls Tryz.prog 59 #[.slice a1 S.T.length c1] wx fun e w' => Tells e (KV S.T) ∧ Below wx.heap.size wx w') := fun wx h => KU S.T _ wx hn.2.1 hst.1 (HS.out wx h).2.1
 have HL : Hid (∀ wx, Below W.heap.size W wx → Calls Tryz.prog 60 #[.slice a2 S.L.length c2] wx fun e w' => Tells e (GF S.L) ∧ Below wx.heap.size wx w') := fun wx h => Um S.L _ wx hn.2.2.1 hst.2.1 (HS.out wx h).2.2.1
 have HC : Hid (∀ wx, Below W.heap.size W wx → Calls Tryz.prog 61 #[.slice a3 S.C.length c3] wx fun e w' => Tells e (Gj S.C) ∧ Below wx.heap.size wx w') := fun wx h => Uj S.C _ wx hn.2.2.2 hst.2.2 (HS.out wx h).2.2.2
 have HKN : Hid (∀ wx r s, Below W.heap.size W wx → Calls Tryz.prog 20 #[.slice a0 S.l.length c0, .agg #[int i64 r, int i64 s]] wx fun e w' => e = .returned (.bool (Jf S.l r s)) ∧ Below wx.heap.size wx w') := fun wx r s h => Zc S.l _ r s wx hn.1 (HS.out wx h).1
 have HCA : Hid (∀ wx r s, Below W.heap.size W wx → Calls Tryz.prog 62 #[.agg #[.slice a0 S.l.length c0, .slice a1 S.T.length c1, .slice a2 S.L.length c2, .slice a3 S.C.length c3], .agg #[int i64 r, int i64 s]] wx fun e w' => e = .returned (int i64 (cellAt S.C r s 0)) ∧ Below wx.heap.size wx w') := fun wx r s h => Zm S _ _ _ _ r s wx hn.2.2.2 (HS.out wx h)
 have HF : Hid (∀ wx, Below W.heap.size W wx → Below w.heap.size w wx) := fun wx h => HB.out.trans (h.mono HB.out.size)
 have HLG : Hid (∀ wx, Below W.heap.size W wx → LiG wx a2 S.L) := fun wx h => by
  obtain ⟨x, y, hq, hg⟩ := (HS.out wx h).2.2.1
  simp only [Value.slice.injEq] at hq
  rw [hq.1]; exact hg
 have HCG : Hid (∀ wx, Below W.heap.size W wx → CeG wx a3 S.C) := fun wx h => by
  obtain ⟨x, y, hq, hg⟩ := (HS.out wx h).2.2.2
  simp only [Value.slice.injEq] at hq
  rw [hq.1]; exact hg
 have hW0 : Below W.heap.size W W := Below.refl _ _
 have HW : Hid (w.alloc (.cells #[.slice a0 S.l.length c0, .slice a1 S.T.length c1, .slice a2 S.L.length c2, .slice a3 S.C.length c3] 29) = W) := hW.symm
 obtain ⟨d0, d1, d2, d3⟩ := HR.out W hW0
 rw [hW] at d0 d1 d2 d3
 obtain ⟨nl, hnl⟩ : ∃ n, n = S.L.length := ⟨_, rfl⟩
 obtain ⟨nc, hnc⟩ : ∃ n, n = S.C.length := ⟨_, rfl⟩
 have HNL := Ja hnl
 have HNC := Ja hnc
 have hnl2 : nl ≤ 1048576 := by rw [hnl]; exact hn.2.2.1
 have hnc2 : nc ≤ 1048576 := by rw [hnc]; exact hn.2.2.2
 clear hW h hS hR hst hnl hnc hn
 go_enter Tryz.func21, Tryz.ntmps21
 go_wp2_with fail
 rw [HW.out]
 refine (HK.out _ hW0).mono ?_
 rintro e w1 ⟨rfl, hw⟩
 replace hw := hw.symm
 subst hw
 clear d0 d1 d2 d3
 by_cases k1 : KOk S.l
 case neg =>
  rw [decide_eq_false k1]
  have HE : Hid (¬ SOk S) := fun h => k1 h.1
  have HB1 := Ja (HF.out _ hW0)
  clear k1
  go_wp2
  go_ret
  exact ⟨Tells.no HE.out, HB1.out⟩
 rw [decide_eq_true k1]
 have K1 := Ja k1
 clear k1 HK HW

 obtain ⟨d0, d1, d2, d3⟩ := HR.out _ hW0
 go_wp2_with fail
 refine (HT.out _ hW0).mono ?_
 rintro e x0 ⟨⟨q, rfl, hq⟩, hb⟩
 have hX0 : Below W.heap.size W x0 := hW0.trans (hb.mono hW0.size)
 clear hb d0 d1 d2 d3 HT
 cases q with
 | false =>
  have HE : Hid (¬ SOk S) := fun h => by have := hq.2 h.2.1; cases this
  have HB1 := Ja (HF.out _ hX0)
  clear hq
  go_wp2
  go_ret
  exact ⟨Tells.no HE.out, HB1.out⟩
 | true =>
 have K2 : Hid (KV S.T) := hq.1 rfl
 clear hq
 obtain ⟨d0, d1, d2, d3⟩ := HR.out _ hX0
 go_wp2_with fail
 refine (HL.out _ hX0).mono ?_
 rintro e x1 ⟨⟨q, rfl, hq⟩, hb⟩
 have hX1 : Below W.heap.size W x1 := hX0.trans (hb.mono hX0.size)
 clear hb d0 d1 d2 d3 HL
 cases q with
 | false =>
  have HE : Hid (¬ SOk S) := fun h => by have := hq.2 h.2.2.1; cases this
  have HB1 := Ja (HF.out _ hX1)
  clear hq
  go_wp2
  go_ret
  exact ⟨Tells.no HE.out, HB1.out⟩
 | true =>
 have K3 : Hid (GF S.L) := hq.1 rfl
 clear hq
 obtain ⟨d0, d1, d2, d3⟩ := HR.out _ hX1
 go_wp2_with fail
 refine (HC.out _ hX1).mono ?_
 rintro e x2 ⟨⟨q, rfl, hq⟩, hb⟩
 have hX2 : Below W.heap.size W x2 := hX1.trans (hb.mono hX1.size)
 clear hb d0 d1 d2 d3 HC
 cases q with
 | false =>
  have HE : Hid (¬ SOk S) := fun h => by have := hq.2 h.2.2.2.1; cases this
  have HB1 := Ja (HF.out _ hX2)
  clear hq
  go_wp2
  go_ret
  exact ⟨Tells.no HE.out, HB1.out⟩
 | true =>
 have K4 : Hid (Gj S.C) := hq.1 rfl
 clear hq
 go_wp2
 go_loopw [3] (fun z wr => ∃ k : Nat, k ≤ nl ∧ z = int i64 k ∧ (∀ i (h : i < S.L.length), i < k → Jf S.l S.L[i].r S.L[i].s = true) ∧ Below W.heap.size W wr) (fun z _ => nl - (intOf z).toNat)
 case atStart => exact ⟨0, Nat.zero_le _, rfl, fun i _ h => by omega, hX2⟩
 case round =>
  obtain ⟨k, hk, rfl, hall, hbel⟩ := hrel
  have HALL := Ja hall
  have HBE := Ja hbel
  obtain ⟨d0, d1, d2, d3⟩ := HR.out _ hbel
  rw [← HNL.out] at d2
  clear hall hX2
  by_cases hlt : k < nl
  ·have hkl : k < S.L.length := by rw [← HNL.out]; exact hlt
   obtain ⟨g, f, rfl, hg, hcc⟩ := HLG.out W (Below.refl _ _) (by omega)
   have hk1 : (k : Int) < nl := by omega
   have hk0 : (0 : Int) ≤ k := by omega
   have HMO : Hid (Jf S.l S.L[k].r S.L[k].s = true → ∀ i (h : i < S.L.length), i < k + 1 → Jf S.l S.L[i].r S.L[i].s = true) := fun hx i hi hik => by
    by_cases e : i = k
    ·subst e; exact hx
    ·exact HALL.out i hi (by omega)
   have HNO : Hid (Jf S.l S.L[k].r S.L[k].s = false → ¬ SOk S) := fun hx h => by have := h.2.2.2.2.1 k hkl; rw [hx] at this; cases this
   have HXC : Hid (∀ wx, Below W.heap.size W wx → wx.cell? ⟨g, f + k * 6 + 4, none⟩ = some (int i64 S.L[k].r) ∧ wx.cell? ⟨g, f + k * 6 + 5, none⟩ = some (int i64 S.L[k].s)) := fun wx h => by
    have := (hcc k hkl).below h hg
    exact ⟨this.2.2.2.2.1, this.2.2.2.2.2⟩
   have HKX := Ja (fun wx h => HKN.out wx S.L[k].r S.L[k].s h)
   generalize S.L[k].r = xr at *
   generalize S.L[k].s = xs at *
   generalize Jf S.l xr xs = kb at *
   obtain ⟨e0, e1⟩ := HXC.out _ hbel
   have hVd : Below W.heap.size W wr.drew := hbel.drew
   have HAL : Hid (∀ wx, Below W.heap.size W wx → wx.cell? ⟨w.heap.size, 0, none⟩ = some (.slice a0 S.l.length c0) ∧ wx.cell? ⟨w.heap.size, 2, none⟩ = some (.slice (some ⟨g, f, none⟩) nl c2) ∧ wx.cell? ⟨g, f + k * 6 + 4, none⟩ = some (int i64 xr) ∧ wx.cell? ⟨g, f + k * 6 + 5, none⟩ = some (int i64 xs)) := fun wx h => by
    obtain ⟨z0, z1, z2, z3⟩ := HR.out wx h
    obtain ⟨y0, y1⟩ := HXC.out wx h
    rw [← HNL.out] at z2
    exact ⟨z0, z2, y0, y1⟩
   have SS := HAL.out _ hVd
   clear hcc hkl
   go_wp2
   go_region_held3 (fun w' => w'.cell? ⟨w.heap.size, 0, none⟩ = some (.slice a0 S.l.length c0) ∧ w'.cell? ⟨w.heap.size, 2, none⟩ = some (.slice (some ⟨g, f, none⟩) nl c2) ∧ w'.cell? ⟨g, f + k * 6 + 4, none⟩ = some (int i64 xr) ∧ w'.cell? ⟨g, f + k * 6 + 5, none⟩ = some (int i64 xs)) (first | exact SS | exact SS2 | go_keep) (first
    | (go_at_call 20; refine (HKX.out _ hVd).mono ?_; rintro e w2 ⟨rfl, hb2⟩; have hV2 : Below W.heap.size W w2 := hVd.trans (hb2.mono hVd.size); have SS2 := HAL.out _ hV2))
   have HV2 := Ja hV2
   clear SS SS2 hVd hb2 hV2 e0 e1 d0 d1 d2 d3 hbel HKX HAL HXC
   cases kb with
   | true =>
    have HE := Ja (HMO.out rfl)
    go_wp2
    go_roundw
    case rel => exact ⟨k + 1, by omega, by go_num, HE.out, HV2.out⟩
    case measure => simp [intOf]; omega
   | false =>
    have HE := Ja (HNO.out rfl)
    have HB1 := Ja (HF.out _ HV2.out)
    go_wp2
    go_ret
    exact ⟨Tells.no HE.out, HB1.out⟩
  have hk1 : ¬ ((k : Int) < nl) := by omega
  have K5 : Hid (∀ i (h : i < S.L.length), Jf S.l S.L[i].r S.L[i].s = true) := fun i hi => HALL.out i hi (by have := HNL.out; omega)
  clear HALL
  go_wp2
  rename World => Z
  go_loopw [4] (fun z wr => ∃ k : Nat, k ≤ nc ∧ z = int i64 k ∧ (∀ i (h : i < S.C.length), i < k → Jf S.l S.C[i].r S.C[i].s = true ∧ G7 S.C S.C[i]) ∧ Below W.heap.size W wr) (fun z _ => nc - (intOf z).toNat)
  case atStart => exact ⟨0, Nat.zero_le _, rfl, fun i _ h => by omega, HBE.out⟩
  case round =>
   clear HBE
   obtain ⟨k, hk, rfl, hall, hbel⟩ := hrel
   have HALL := Ja hall
   have HBE := Ja hbel
   have hsz := hbel.size
   obtain ⟨d0, d1, d2, d3⟩ := HR.out _ hbel
   rw [← HNC.out] at d3
   clear hall
   by_cases hlt : k < nc
   ·have hkl : k < S.C.length := by rw [← HNC.out]; exact hlt
    obtain ⟨g, f, rfl, hg, hcc⟩ := HCG.out W (Below.refl _ _) (by omega)
    have hk1 : (k : Int) < nc := by omega
    have hk0 : (0 : Int) ≤ k := by omega
    have q := (hcc k hkl).below hbel hg
    have HCC : Hid (∀ j (h : j < S.C.length) wx, Below W.heap.size W wx → ceC wx g (f + j * 8) S.C[j]) := fun j h wx hb => (hcc j h).below hb hg
    have HMO : Hid (Jf S.l S.C[k].r S.C[k].s = true → G7 S.C S.C[k] → ∀ i (h : i < S.C.length), i < k + 1 → Jf S.l S.C[i].r S.C[i].s = true ∧ G7 S.C S.C[i]) := fun hx hy i hi hik => by
     by_cases e : i = k
     ·subst e; exact ⟨hx, hy⟩
     ·exact HALL.out i hi (by omega)
    have HNO : Hid (Jf S.l S.C[k].r S.C[k].s = false → ¬ SOk S) := fun hx h => by have := (h.2.2.2.2.2 k hkl).1; rw [hx] at this; cases this
    have HNR : Hid (¬ G7 S.C S.C[k] → ¬ SOk S) := fun hx h => hx (h.2.2.2.2.2 k hkl).2
    have HKX := Ja (fun wx h => HKN.out wx S.C[k].r S.C[k].s h)
    generalize S.C[k] = x at *
    generalize hkb : Jf S.l x.r x.s = kb at *
    unfold ceC at q
    obtain ⟨q0, q1, q2, q3, q4, q5, q6, q7⟩ := q
    obtain ⟨WW, hWW⟩ : ∃ WW, WW = wr.alloc (.cells #[.string x.o, int i64 x.r, int i64 x.s, int i64 x.t, int i64 x.x, int i64 x.z, int i64 x.v, .bool x.g] 90) := ⟨_, rfl⟩
    have hBW : Below W.heap.size W WW := by rw [hWW]; exact hbel.alloc hsz _
    have hRW : Row WW wr.heap.size #[.string x.o, int i64 x.r, int i64 x.s, int i64 x.t, int i64 x.x, int i64 x.z, int i64 x.v, .bool x.g] 90 := by rw [hWW]; exact Jb wr _ _ rfl
    have HRX : Hid (∀ wx, Below WW.heap.size WW wx → wx.cell? ⟨wr.heap.size, 0, none⟩ = some (.string x.o) ∧ wx.cell? ⟨wr.heap.size, 1, none⟩ = some (int i64 x.r) ∧ wx.cell? ⟨wr.heap.size, 2, none⟩ = some (int i64 x.s) ∧ wx.cell? ⟨wr.heap.size, 3, none⟩ = some (int i64 x.t) ∧ wx.cell? ⟨wr.heap.size, 4, none⟩ = some (int i64 x.x) ∧ wx.cell? ⟨wr.heap.size, 5, none⟩ = some (int i64 x.z)) := fun wx h => ⟨(hRW.next h).cell 0 rfl, (hRW.next h).cell 1 rfl, (hRW.next h).cell 2 rfl, (hRW.next h).cell 3 rfl, (hRW.next h).cell 4 rfl, (hRW.next h).cell 5 rfl⟩
    have HWW : Hid (wr.alloc (.cells #[.string x.o, int i64 x.r, int i64 x.s, int i64 x.t, int i64 x.x, int i64 x.z, int i64 x.v, .bool x.g] 90) = WW) := hWW.symm
    obtain ⟨n0, n1, n2, n3⟩ := HR.out _ hBW
    obtain ⟨m0, m1, m2, m3, m4, m5⟩ := HRX.out _ (Below.refl _ _)
    rw [hWW] at n0 m1 m2
    clear hcc hkl hWW hRW n1 n2 n3 m0 m3 m4 m5
    go_wp2_with fail
    rw [HWW.out]
    refine (HKX.out _ hBW).mono ?_
    rintro e w2 ⟨rfl, hb2⟩
    have hX2 : Below WW.heap.size WW w2 := hb2
    have hW2 : Below W.heap.size W w2 := hBW.trans (hb2.mono hBW.size)
    clear hb2 n0 m1 m2 HKX HWW q0 q1 q2 q3 q4 q5 q6 q7 d0 d1 d2 d3 hbel
    cases kb with
    | false =>
     have HE := Ja (HNO.out rfl)
     have HB1 := Ja (HF.out _ hW2)
     clear hkb
     go_wp2
     go_ret
     exact ⟨Tells.no HE.out, HB1.out⟩
    | true =>
    replace HMO := Ja (HMO.out rfl)
    clear hkb HNO
    have hgd := Zl
    obtain ⟨m0, m1, m2, m3, m4, m5⟩ := HRX.out _ hX2
    by_cases hz : x.x = 0 ∧ x.z = 0
    ·have heq : ∀ wx, (Op.equalIn 10000 42 (.agg #[int i64 x.x, int i64 x.z]) (.agg #[int i64 0, int i64 0])).run Tryz.prog wx = .ok true wx := fun wx => by rw [JZ, decide_eq_true hz]
     have HE := Ja (HMO.out (.inl hz))
     have HW2 := Ja hW2
     clear hz hW2
     go_wp2
     go_roundw
     case rel => exact ⟨k + 1, by omega, by go_num, HE.out, HW2.out⟩
     case measure => simp [intOf]; omega
    have heq : ∀ wx, (Op.equalIn 10000 42 (.agg #[int i64 x.x, int i64 x.z]) (.agg #[int i64 0, int i64 0])).run Tryz.prog wx = .ok false wx := fun wx => by rw [JZ, decide_eq_false hz]
    obtain ⟨n0, n1, n2, n3⟩ := HR.out _ hW2
    have HCX := Ja (HCA.out w2 x.x x.z hW2)
    have HZ := Ja hz
    have hrg := Z7 S.C x.x x.z 0 (by omega)
    have HRI : Hid (∀ j (h : j < S.C.length), cellAt S.C x.x x.z 0 = (j : Int) → (G7 S.C x ↔ S.C[j].o = x.o ∧ S.C[j].t < x.t)) := fun j h e => by
     constructor
     ·rintro (h1 | ⟨i, hi, h1, h2⟩)
      ·exact absurd h1 HZ.out
      ·have : i = j := by omega
       subst this; exact h2
     ·intro h1; exact .inr ⟨j, h, e, h1⟩
    have HRN : Hid (cellAt S.C x.x x.z 0 = -1 → ¬ G7 S.C x) := fun e h => by
     rcases h with h | ⟨i, hi, h1, -⟩
     ·exact HZ.out h
     ·omega
    generalize cellAt S.C x.x x.z 0 = KK at *
    clear hz
    go_wp2_with fail
    refine HCX.out.mono ?_
    rintro e w3 ⟨rfl, hb3⟩
    have hX3 : Below WW.heap.size WW w3 := hX2.trans (hb3.mono hX2.size)
    have hW3 : Below W.heap.size W w3 := hW2.trans (hb3.mono hW2.size)
    clear hb3 heq HCX m0 m1 m2 m3 m4 m5 n0 n1 n2 n3 hX2 hW2
    obtain ⟨m0, m1, m2, m3, m4, m5⟩ := HRX.out _ hX3
    obtain ⟨n0, n1, n2, n3⟩ := HR.out _ hW3
    rw [← HNC.out] at n3
    have HW3 := Ja hW3
    clear n0 n1 n2 m1 m2 m4 m5
    rcases hrg with hk | ⟨hr1, hr2⟩
    ·subst hk
     have HE := Ja (HNR.out (HRN.out rfl))
     clear HRI HRN HNR HMO hW3 hX3
     go_wp2
     go_quiet (fail)
     have HB2 := Ja (HF.out _ (Ji HW3.out nq))
     generalize w3.drewN nq = wq at *
     clear m0 m3 n3 HW3
     go_wp2
     go_ret
     exact ⟨Tells.no HE.out, HB2.out⟩
    obtain ⟨j, hj⟩ : ∃ j : Nat, KK = j := Int.eq_ofNat_of_zero_le hr1
    subst hj
    have hjl : j < S.C.length := by omega
    have hj1 : (j : Int) < nc := by have := HNC.out; omega
    have hj0 : (0 : Int) ≤ j := by omega
    have hjn : ¬ ((j : Int) < 0) := by omega
    have HRJ := Ja (HRI.out j hjl rfl)
    have q := HCC.out j hjl w3 hW3
    obtain ⟨y, hyy⟩ : ∃ y, y = S.C[j] := ⟨_, rfl⟩
    rw [← hyy] at q HRJ
    unfold ceC at q
    obtain ⟨q0, q1, q2, q3, q4, q5, q6, q7⟩ := q
    have HS5 : Hid (∀ wx, Below w3.heap.size w3 wx → wx.cell? ⟨w.heap.size, 3, none⟩ = some (.slice (some ⟨g, f, none⟩) nc c3) ∧ wx.cell? ⟨wr.heap.size, 0, none⟩ = some (.string x.o) ∧ wx.cell? ⟨wr.heap.size, 3, none⟩ = some (int i64 x.t) ∧ wx.cell? ⟨g, f + j * 8, none⟩ = some (.string y.o) ∧ wx.cell? ⟨g, f + j * 8 + 3, none⟩ = some (int i64 y.t)) := fun wx h => by
     have hq := HCC.out j hjl wx (HW3.out.trans (h.mono HW3.out.size))
     obtain ⟨z0, z1, z2, z3⟩ := HR.out wx (HW3.out.trans (h.mono HW3.out.size))
     obtain ⟨y0, y1, y2, y3, y4, y5⟩ := HRX.out wx (hX3.trans (h.mono hX3.size))
     rw [← HNC.out] at z3
     rw [← hyy] at hq
     exact ⟨z3, y0, y3, hq.1, hq.2.2.2.1⟩
    clear q1 q2 q4 q5 q6 q7 hjl hr1 hr2 HRI HRN hW3 hX3 hyy
    by_cases ho : y.o = x.o
    ·have b1 := JM y.o x.o ho
     have b2 : (y.o.toList != x.o.toList) = false := by simp [bne, b1]
     by_cases ht : y.t < x.t
     ·have HE := Ja (HMO.out (HRJ.out.2 ⟨ho, ht⟩))
      clear HRJ HMO HNR ho
      go_wp2
      try simp only [List.append_eq, List.cons_append, List.nil_append]
      have hBc : Below w3.heap.size w3 w3.drew := (Below.refl _ _).drew
      refine wph HS5 hBc 24 ?_
      refine tQ 0 JfG ?_ (HS5.out _ hBc); refine tQ 1 JfQ ?_ (HS5.out _ hBc); refine tQ 2 Jgc ?_ (HS5.out _ hBc); refine tQ 3 Je2 ?_ (HS5.out _ hBc); refine tQ 4 Je1 ?_ (HS5.out _ hBc); refine tQ 5 JfX ?_ (HS5.out _ hBc); refine tQ 6 Jfp ?_ (HS5.out _ hBc); refine tQ 7 Jfo ?_ (HS5.out _ hBc); refine tQ 8 Jge ?_ (HS5.out _ hBc); refine tQ 9 JfT ?_ (HS5.out _ hBc); refine tQ 10 JcW ?_ (HS5.out _ hBc); refine tQ 11 Jdv ?_ (HS5.out _ hBc); refine tQ 12 JcL ?_ (HS5.out _ hBc); refine tQ 13 JdE ?_ (HS5.out _ hBc); refine tQ 14 JdO ?_ (HS5.out _ hBc); refine tQ 15 JcM ?_ (HS5.out _ hBc); refine tQ 16 JcT ?_ (HS5.out _ hBc); refine tQ 17 JcN ?_ (HS5.out _ hBc); refine tQ 18 Jdy ?_ (HS5.out _ hBc); refine tQ 19 JcH ?_ (HS5.out _ hBc); refine tQ 20 JdW ?_ (HS5.out _ hBc); refine tQ 21 JcE ?_ (HS5.out _ hBc); refine tQ 22 Jcz ?_ (HS5.out _ hBc); refine tQ 23 Jc0 ?_ (HS5.out _ hBc)
      refine wpd ?_
      
      have HB2 := Ja ((HW3.out.trans (hBc.mono HW3.out.size)))
      clear hBc m0 m3 n3 HW3 q0 q3 HS5
      go_wp2
      go_roundw
      case rel => exact ⟨k + 1, by omega, by go_num, HE.out, HB2.out⟩
      case measure => simp [intOf]; omega
     ·have HE := Ja (HNR.out (fun h => ht (HRJ.out.1 h).2))
      clear HRJ HMO HNR ho
      go_wp2
      try simp only [List.append_eq, List.cons_append, List.nil_append]
      have hBc : Below w3.heap.size w3 w3.drew := (Below.refl _ _).drew
      refine wph HS5 hBc 24 ?_
      refine tQ 0 JfG ?_ (HS5.out _ hBc); refine tQ 1 JfQ ?_ (HS5.out _ hBc); refine tQ 2 Jgc ?_ (HS5.out _ hBc); refine tQ 3 Je2 ?_ (HS5.out _ hBc); refine tQ 4 Je1 ?_ (HS5.out _ hBc); refine tQ 5 JfX ?_ (HS5.out _ hBc); refine tQ 6 Jfp ?_ (HS5.out _ hBc); refine tQ 7 Jfo ?_ (HS5.out _ hBc); refine tQ 8 Jge ?_ (HS5.out _ hBc); refine tQ 9 JfT ?_ (HS5.out _ hBc); refine tQ 10 JcW ?_ (HS5.out _ hBc); refine tQ 11 Jdv ?_ (HS5.out _ hBc); refine tQ 12 JcL ?_ (HS5.out _ hBc); refine tQ 13 JdE ?_ (HS5.out _ hBc); refine tQ 14 JdO ?_ (HS5.out _ hBc); refine tQ 15 JcM ?_ (HS5.out _ hBc); refine tQ 16 JcT ?_ (HS5.out _ hBc); refine tQ 17 JcN ?_ (HS5.out _ hBc); refine tQ 18 Jdy ?_ (HS5.out _ hBc); refine tQ 19 JcH ?_ (HS5.out _ hBc); refine tQ 20 JdW ?_ (HS5.out _ hBc); refine tQ 21 JcE ?_ (HS5.out _ hBc); refine tQ 22 Jcz ?_ (HS5.out _ hBc); refine tQ 23 Jc0 ?_ (HS5.out _ hBc)
      refine wpd ?_
      
      have HB2 := Ja (HF.out _ (HW3.out.trans (hBc.mono HW3.out.size)))
      clear hBc m0 m3 n3 HW3 q0 q3 HS5
      go_wp2
      go_ret
      exact ⟨Tells.no HE.out, HB2.out⟩
    ·have b1 := JY y.o x.o ho
     have b2 : (y.o.toList != x.o.toList) = true := by simp [bne, b1]
     have HE := Ja (HNR.out (fun h => ho (HRJ.out.1 h).1))
     clear HRJ HMO HNR ho
     go_wp2
     try simp only [List.append_eq, List.cons_append, List.nil_append]
     have hBc : Below w3.heap.size w3 w3.drew := (Below.refl _ _).drew
     refine wph HS5 hBc 24 ?_
     refine tQ 0 JfG ?_ (HS5.out _ hBc); refine tQ 1 JfQ ?_ (HS5.out _ hBc); refine tQ 2 Jgc ?_ (HS5.out _ hBc); refine tQ 3 Je2 ?_ (HS5.out _ hBc); refine tQ 4 Je1 ?_ (HS5.out _ hBc); refine tQ 5 JfX ?_ (HS5.out _ hBc); refine tQ 6 Jfp ?_ (HS5.out _ hBc); refine tQ 7 Jfo ?_ (HS5.out _ hBc); refine tQ 8 Jge ?_ (HS5.out _ hBc); refine tQ 9 JfT ?_ (HS5.out _ hBc); refine tQ 10 JcW ?_ (HS5.out _ hBc); refine tQ 11 Jdv ?_ (HS5.out _ hBc); refine tQ 12 JcL ?_ (HS5.out _ hBc); refine tQ 13 JdE ?_ (HS5.out _ hBc); refine sQ 14 JdO ?_ (HS5.out _ hBc); refine sQ 15 JcM ?_ (HS5.out _ hBc); refine sQ 16 JcT ?_ (HS5.out _ hBc); refine sQ 17 JcN ?_ (HS5.out _ hBc); refine sQ 18 Jdy ?_ (HS5.out _ hBc); refine sQ 19 JcH ?_ (HS5.out _ hBc); refine sQ 20 JdW ?_ (HS5.out _ hBc); refine sQ 21 JcE ?_ (HS5.out _ hBc); refine sQ 22 Jcz ?_ (HS5.out _ hBc); refine tQ 23 Jc0 ?_ (HS5.out _ hBc)
     refine wpd ?_
     
     have HB2 := Ja (HF.out _ (HW3.out.trans (hBc.mono HW3.out.size)))
     clear hBc m0 m3 n3 HW3 q0 q3 HS5
     go_wp2
     go_ret
     exact ⟨Tells.no HE.out, HB2.out⟩
   have hk1 : ¬ ((k : Int) < nc) := by omega
   have HE : Hid (SOk S) := ⟨K1.out, K2.out, K3.out, K4.out, K5.out, fun i hi => HALL.out i hi (by have := HNC.out; omega)⟩
   have HB1 := Ja (HF.out _ hbel)
   clear HALL
   go_wp2
   go_ret
   exact ⟨Tells.yes HE.out, HB1.out⟩
def Kc (a b : Int) : Int := if a < b then -1 else if b < a then 1 else 0
theorem Ko (x : Int) (w : World) : Calls Tryz.prog 160 #[int i64 x] w fun e w' => e = .returned (.bool false) ∧ w' = w := by
 go_enter Tryz.func160, Tryz.ntmps160
 go_wp2
 go_ret
 exact ⟨by simp, rfl⟩
theorem U7 (a b : Int) (w : World) : Calls Tryz.prog 149 #[int i64 a, int i64 b] w fun e w' => e = .returned (int i64 (Kc a b)) ∧ w' = w := by
 unfold Kc
 by_cases h1 : a < b
 ·rw [if_pos h1]
  go_enter Tryz.func149, Tryz.ntmps149
  go_wp2_with (go_at_call 160; refine (Ko _ _).mono ?_; rintro e w1 ⟨rfl, rfl⟩)
  go_ret
  exact ⟨rfl, rfl⟩
 ·by_cases h2 : b < a
  ·rw [if_neg h1, if_pos h2]
   go_enter Tryz.func149, Tryz.ntmps149
   go_wp2_with (go_at_call 160; refine (Ko _ _).mono ?_; rintro e w1 ⟨rfl, rfl⟩)
   go_ret
   exact ⟨rfl, rfl⟩
  ·rw [if_neg h1, if_neg h2]
   go_enter Tryz.func149, Tryz.ntmps149
   go_wp2_with (go_at_call 160; refine (Ko _ _).mono ?_; rintro e w1 ⟨rfl, rfl⟩)
   go_ret
   exact ⟨rfl, rfl⟩
def or3 (a b c : Int) : Int := if a = 0 then (if b = 0 then c else b) else a
theorem Ya (a b c : Int) (g : Nat) (w : World) (h0 : w.cell? ⟨g, 0, none⟩ = some (int i64 a)) (h1 : w.cell? ⟨g, 1, none⟩ = some (int i64 b)) (h2 : w.cell? ⟨g, 2, none⟩ = some (int i64 c)) :
  Calls Tryz.prog 147 #[.slice (some ⟨g, 0, none⟩) 3 3] w fun e w' => e = .returned (int i64 (or3 a b c)) ∧ w' = w := by
 have HR : Hid (∀ r, r = or3 a b c → r = or3 a b c) := fun r h => h
 have cell : ∀ k : Nat, k < 3 → ∃ z : Int, w.cell? ⟨g, k, none⟩ = some (int i64 z) ∧ ((k = 0 ∧ z = a) ∨ (k = 1 ∧ z = b) ∨ (k = 2 ∧ z = c)) := fun k hk => by
  match k, hk with
  | 0, _ => exact ⟨a, h0, .inl ⟨rfl, rfl⟩⟩
  | 1, _ => exact ⟨b, h1, .inr (.inl ⟨rfl, rfl⟩)⟩
  | 2, _ => exact ⟨c, h2, .inr (.inr ⟨rfl, rfl⟩)⟩
 have HC := Ja cell
 clear cell h0 h1 h2
 go_enter Tryz.func147, Tryz.ntmps147
 go_wp2
 go_loopw [8] (fun z wr => ∃ k : Nat, k ≤ 3 ∧ z = int i64 k ∧ (0 < k → a = 0) ∧ (1 < k → b = 0) ∧ (2 < k → c = 0) ∧ wr = w) (fun z _ => 3 - (intOf z).toNat)
 case atStart => exact ⟨0, by omega, rfl, by omega, by omega, by omega, rfl⟩
 case round =>
  obtain ⟨k, hk, rfl, ha, hb, hc, hw⟩ := hrel
  replace hw := hw.symm
  subst hw
  by_cases hlt : k < 3
  ·obtain ⟨z, hz, hzz⟩ := HC.out k hlt
   have hk1 : (k : Int) < 3 := by omega
   have hk0 : (0 : Int) ≤ k := by omega
   by_cases h0 : z = 0
   ·have b0 : (z != 0) = false := by simp [h0]
    have HE : Hid ((0 < k + 1 → a = 0) ∧ (1 < k + 1 → b = 0) ∧ (2 < k + 1 → c = 0)) := by
     refine ⟨fun _ => ?_, fun _ => ?_, fun _ => ?_⟩ <;> rcases hzz with ⟨h3, h4⟩ | ⟨h3, h4⟩ | ⟨h3, h4⟩ <;> first | omega | (exact ha (by omega)) | (exact hb (by omega))
    clear h0 hzz ha hb hc
    go_wp2
    go_roundw
    case rel => exact ⟨k + 1, by omega, by go_num, HE.out.1, HE.out.2.1, HE.out.2.2, by trivial⟩
    case measure => simp [intOf]; omega
   ·have b0 : (z != 0) = true := by simp [h0]
    have HE : Hid (z = or3 a b c) := by
     show _ = _
     unfold or3
     rcases hzz with ⟨h3, h4⟩ | ⟨h3, h4⟩ | ⟨h3, h4⟩
     ·rw [if_neg (by omega)]; exact h4
     ·rw [if_pos (ha (by omega)), if_neg (by omega)]; exact h4
     ·rw [if_pos (ha (by omega)), if_pos (hb (by omega))]; exact h4
    clear h0 hzz ha hb hc
    go_wp2
    go_ret
    exact ⟨by rw [HE.out]; rfl, rfl⟩
  ·have hk1 : ¬ ((k : Int) < 3) := by omega
   have HE : Hid ((0 : Int) = or3 a b c) := by
    show _ = _
    unfold or3
    rw [if_pos (ha (by omega)), if_pos (hb (by omega)), hc (by omega)]
   clear ha hb hc
   go_wp2
   go_ret
   exact ⟨by rw [← HE.out]; rfl, rfl⟩
theorem ZP (o o' : ByteArray) (r s r' s' : Int) (w : World) :
  Calls Tryz.prog 136 #[.agg #[.string o, int i64 r, int i64 s], .agg #[.string o', int i64 r', int i64 s']] w fun e w' => e = .returned (int i64 (or3 (Lib.compareBytes o.data.toList o'.data.toList) (Kc r r') (Kc s s'))) ∧ Below w.heap.size w w' := by
 obtain ⟨W, hW⟩ : ∃ W, W = (w.alloc (.cells #[.string o, int i64 r, int i64 s] 150)).alloc (.cells #[.string o', int i64 r', int i64 s'] 150) := ⟨_, rfl⟩
 have hR1 : Row W w.heap.size #[.string o, int i64 r, int i64 s] 150 := by rw [hW]; exact (Jb w _ _ rfl).alloc _
 have hR2 : Row W (w.heap.size + 1) #[.string o', int i64 r', int i64 s'] 150 := by rw [hW]; exact Jb _ _ _ (by simp)
 have hB0 : Below w.heap.size w W := by rw [hW]; exact ((Below.refl _ _).alloc (Nat.le_refl _) _).alloc (by simp) _
 have HB := Ja hB0
 have HW : Hid ((w.alloc (.cells #[.string o, int i64 r, int i64 s] 150)).alloc (.cells #[.string o', int i64 r', int i64 s'] 150) = W) := hW.symm
 obtain ⟨a, ha⟩ : ∃ a, a = Lib.compareBytes o.data.toList o'.data.toList := ⟨_, rfl⟩
 obtain ⟨b, hb⟩ : ∃ b, b = Kc r r' := ⟨_, rfl⟩
 obtain ⟨c, hc⟩ : ∃ c, c = Kc s s' := ⟨_, rfl⟩
 have HS : Hid (∀ wx, Calls Tryz.prog 148 #[.string o, .string o'] wx fun e w' => e = .returned (int i64 a) ∧ w' = wx) := fun wx => by rw [ha]; exact Tryz.strings_Compare o o' wx
 have H1 : Hid (∀ wx, Calls Tryz.prog 149 #[int i64 r, int i64 r'] wx fun e w' => e = .returned (int i64 b) ∧ w' = wx) := fun wx => by rw [hb]; exact U7 r r' wx
 have H2 : Hid (∀ wx, Calls Tryz.prog 149 #[int i64 s, int i64 s'] wx fun e w' => e = .returned (int i64 c) ∧ w' = wx) := fun wx => by rw [hc]; exact U7 s s' wx
 rw [← ha, ← hb, ← hc]
 clear hW ha hb hc hB0
 obtain ⟨x0, x1, x2⟩ : W.cell? ⟨w.heap.size, 0, none⟩ = some (.string o) ∧ W.cell? ⟨w.heap.size, 1, none⟩ = some (int i64 r) ∧ W.cell? ⟨w.heap.size, 2, none⟩ = some (int i64 s) := ⟨hR1.cell 0 rfl, hR1.cell 1 rfl, hR1.cell 2 rfl⟩
 obtain ⟨y0, y1, y2⟩ : W.cell? ⟨w.heap.size + 1, 0, none⟩ = some (.string o') ∧ W.cell? ⟨w.heap.size + 1, 1, none⟩ = some (int i64 r') ∧ W.cell? ⟨w.heap.size + 1, 2, none⟩ = some (int i64 s') := ⟨hR2.cell 0 rfl, hR2.cell 1 rfl, hR2.cell 2 rfl⟩
 have hl1 := hR1.lt
 have hl2 := hR2.lt
 have HOR : Hid (∀ wx : World, Calls Tryz.prog 147 #[.slice (some ⟨wx.heap.size, 0, none⟩) 3 3] (wx.alloc (.cells #[int i64 a, int i64 b, int i64 c] 3)) fun e w' => e = .returned (int i64 (or3 a b c)) ∧ w' = wx.alloc (.cells #[int i64 a, int i64 b, int i64 c] 3)) := fun wx => Ya a b c wx.heap.size _ ((Jb wx _ _ rfl).cell 0 rfl) ((Jb wx _ _ rfl).cell 1 rfl) ((Jb wx _ _ rfl).cell 2 rfl)
 have HOQ : Hid (Calls Tryz.prog 147 #[.slice (some ⟨W.heap.size, 0, none⟩) 3 3] (W.alloc (.cells #[int i64 a, int i64 b, int i64 c] 3)).drew fun e w' => e = .returned (int i64 (or3 a b c)) ∧ w' = (W.alloc (.cells #[int i64 a, int i64 b, int i64 c] 3)).drew) := Ya a b c W.heap.size _ ((Jb W _ _ rfl).cell 0 rfl) ((Jb W _ _ rfl).cell 1 rfl) ((Jb W _ _ rfl).cell 2 rfl)
 clear hR1 hR2
 go_enter Tryz.func136, Tryz.ntmps136
 go_wp2
 rw [HW.out]
 go_region_held3 (fun w' => w'.cell? ⟨w.heap.size, 0, none⟩ = some (.string o) ∧ w'.cell? ⟨w.heap.size, 1, none⟩ = some (int i64 r) ∧ w'.cell? ⟨w.heap.size, 2, none⟩ = some (int i64 s) ∧ w'.cell? ⟨w.heap.size + 1, 0, none⟩ = some (.string o') ∧ w'.cell? ⟨w.heap.size + 1, 1, none⟩ = some (int i64 r') ∧ w'.cell? ⟨w.heap.size + 1, 2, none⟩ = some (int i64 s')) (go_keep) (first
  | (go_at_call 148; refine (HS.out _).mono ?_; rintro e w1 ⟨rfl, rfl⟩; clear HS)
  | (go_at_call 147; refine HOQ.out.mono ?_; rintro e w1 ⟨rfl, rfl⟩)
  | (go_at_call 147; refine (HOR.out W.drew).mono ?_; rintro e w1 ⟨rfl, rfl⟩)
  | (go_at_call 149; refine (H1.out _).mono ?_; clear H1; rintro e w1 ⟨rfl, rfl⟩)
  | (go_at_call 149; refine (H2.out _).mono ?_; clear H2; rintro e w1 ⟨rfl, rfl⟩))
 go_wp2
 go_ret
 first | exact ⟨rfl, (HB.out.drew).alloc (by show w.heap.size ≤ W.heap.size; omega) _⟩ | exact ⟨rfl, (HB.out.alloc (by omega) _).drew⟩
theorem UZ {fn : Func} {q : Tmp} (h : fn.results = #[.cell q 150]) {tmps : Array Value} {w : World} {g : Nat} {cs : Array Value} (hc : cs.size = 3) (hp : tmps.getD q undef = .pointer (some ⟨g, 0, none⟩)) (hg : Row w g cs 150) :
  (results fn tmps).run Tryz.prog w = .ok (.agg cs) w := results_cell_row h tmps w g 150 _ (0, 0) _ hp hg Tryz.underlying150 rfl (by rw [hc]; kernel_rfl)
theorem JgP (v : Value) (w : World) : (Instr.typeAssert (.iface 86 v) 170 86 true).run Tryz.prog w = .ok (.tuple #[v, .bool true]) w := by kernel_rfl
theorem Jin (v : Value) (w : World) : (Instr.typeAssert (.iface 88 v) 170 88 true).run Tryz.prog w = .ok (.tuple #[v, .bool true]) w := by kernel_rfl
theorem JhU (v : Value) (w : World) : (Instr.typeAssert (.iface 90 v) 170 90 true).run Tryz.prog w = .ok (.tuple #[v, .bool true]) w := by kernel_rfl
theorem Jhy (v : Value) (w : World) : (Instr.typeAssert (.iface 88 v) 170 86 true).run Tryz.prog w = .ok (.tuple #[.agg #[.string ⟨#[]⟩, int i64 0, int i64 0], .bool false]) w := by kernel_rfl
theorem Jh7 (v : Value) (w : World) : (Instr.typeAssert (.iface 90 v) 170 86 true).run Tryz.prog w = .ok (.tuple #[.agg #[.string ⟨#[]⟩, int i64 0, int i64 0], .bool false]) w := by kernel_rfl
theorem Jia (v : Value) (w : World) : (Instr.typeAssert (.iface 90 v) 170 88 true).run Tryz.prog w = .ok (.tuple #[.agg #[.bool false, .string ⟨#[]⟩, .string ⟨#[]⟩, int i64 0, int i64 0, int i64 0], .bool false]) w := by kernel_rfl
theorem Gg (x : Ta) (w : World) :
  Calls Tryz.prog 135 #[.iface 86 (.agg #[.string x.o, int i64 x.r, int i64 x.n])] w fun e w' => e = .returned (.agg #[.string x.o, int i64 x.r, int i64 0]) ∧ Below w.heap.size w w' := by
 have h1 := JgP
 go_enter Tryz.func135, Tryz.ntmps135
 go_wp2
 exact bodyPost_ret (UZ rfl rfl rfl ((Jb _ _ _ rfl).alloc _)) rfl ⟨rfl, ((Below.refl _ _).alloc (Nat.le_refl _) _).alloc (by simp) _⟩
theorem Gu (x : Li) (w : World) :
  Calls Tryz.prog 135 #[.iface 88 (.agg #[.bool x.m, .string x.o, .string x.y, int i64 x.v, int i64 x.r, int i64 x.s])] w fun e w' => e = .returned (.agg #[.string ⟨#[]⟩, int i64 x.r, int i64 x.s]) ∧ Below w.heap.size w w' := by
 have h1 := Jhy
 have h2 := Jin
 go_enter Tryz.func135, Tryz.ntmps135
 go_wp2
 exact bodyPost_ret (UZ rfl rfl rfl ((Jb _ _ _ rfl).alloc _)) rfl ⟨rfl, ((Below.refl _ _).alloc (Nat.le_refl _) _).alloc (by simp) _⟩
theorem Gx (x : Ce) (w : World) :
  Calls Tryz.prog 135 #[.iface 90 (.agg #[.string x.o, int i64 x.r, int i64 x.s, int i64 x.t, int i64 x.x, int i64 x.z, int i64 x.v, .bool x.g])] w fun e w' => e = .returned (.agg #[.string ⟨#[]⟩, int i64 x.r, int i64 x.s]) ∧ Below w.heap.size w w' := by
 have h1 := Jh7
 have h2 := Jia
 have h3 := JhU
 go_enter Tryz.func135, Tryz.ntmps135
 go_wp2
 exact bodyPost_ret (UZ rfl rfl rfl ((Jb _ _ _ rfl).alloc _)) rfl ⟨rfl, ((Below.refl _ _).alloc (Nat.le_refl _) _).alloc (by simp) _⟩
theorem Ka : ∀ a b : List UInt8, (Lib.compareBytes a b = -1 ∧ a < b) ∨ (Lib.compareBytes a b = 0 ∧ a = b) ∨ (Lib.compareBytes a b = 1 ∧ b < a)
 | [], [] => .inr (.inl ⟨rfl, rfl⟩)
 | [], _ :: _ => .inl ⟨rfl, List.nil_lt_cons _ _⟩
 | _ :: _, [] => .inr (.inr ⟨rfl, List.nil_lt_cons _ _⟩)
 | x :: a, y :: b => by
  unfold Lib.compareBytes
  by_cases h : x < y
  ·rw [if_pos h]; exact .inl ⟨rfl, List.cons_lt_cons_iff.2 (.inl h)⟩
  ·rw [if_neg h]
   by_cases h2 : y < x
   ·rw [if_pos h2]; exact .inr (.inr ⟨rfl, List.cons_lt_cons_iff.2 (.inl h2)⟩)
   ·rw [if_neg h2]
    have e : x = y := by
     apply UInt8.toNat_inj.1
     have h3 : ¬ x.toNat < y.toNat := h
     have h4 : ¬ y.toNat < x.toNat := h2
     omega
    subst e
    rcases Ka a b with ⟨h3, h4⟩ | ⟨h3, h4⟩ | ⟨h3, h4⟩
    ·exact .inl ⟨h3, List.cons_lt_cons_iff.2 (.inr ⟨rfl, h4⟩)⟩
    ·exact .inr (.inl ⟨h3, by rw [h4]⟩)
    ·exact .inr (.inr ⟨h3, List.cons_lt_cons_iff.2 (.inr ⟨rfl, h4⟩)⟩)
def rkT (o o' : ByteArray) (r r' : Int) : Int := or3 (Lib.compareBytes o.data.toList o'.data.toList) (Kc r r') (Kc 0 0)
def rkD (r s r' s' : Int) : Int := or3 (Lib.compareBytes [] []) (Kc r r') (Kc s s')
theorem JbZ (a b : Ta) : (Z3 a b ∧ rkT a.o b.o a.r b.r < 0) ∨ (¬ Z3 a b ∧ 0 ≤ rkT a.o b.o a.r b.r) := by
 have h0 : rkT a.o b.o a.r b.r = if Lib.compareBytes a.o.data.toList b.o.data.toList = 0 then (if Kc a.r b.r = 0 then 0 else Kc a.r b.r) else Lib.compareBytes a.o.data.toList b.o.data.toList := rfl
 rw [h0]
 unfold Z3
 rcases Ka a.o.data.toList b.o.data.toList with ⟨h1, h2⟩ | ⟨h1, h2⟩ | ⟨h1, h2⟩
 ·left; rw [h1]; exact ⟨.inl h2, by simp⟩
 ·have e : a.o = b.o := ByteArray.ext (Array.ext' h2)
  rw [h1, e]
  unfold Kc
  by_cases h3 : a.r < b.r
  ·left; simp [h3]
  ·right
   refine ⟨fun h => ?_, ?_⟩
   ·rcases h with h | h
    ·exact List.lt_irrefl _ h
    ·exact h3 h.2
   ·simp only [if_neg h3]
    by_cases h4 : b.r < a.r <;> simp [h4]
 ·right; rw [h1]
  refine ⟨fun h => ?_, by simp⟩
  rcases h with h | h
  ·exact List.lt_irrefl _ (List.lt_trans h h2)
  ·rw [h.1] at h2; exact List.lt_irrefl _ h2
theorem J4 (r s r' s' : Int) : (Jo r s r' s' ∧ rkD r s r' s' < 0) ∨ ((r = r' ∧ s = s') ∧ rkD r s r' s' = 0) ∨ (Jo r' s' r s ∧ 0 < rkD r s r' s') := by
 have h0 : rkD r s r' s' = if Kc r r' = 0 then Kc s s' else Kc r r' := rfl
 rw [h0]
 unfold Kc Jo
 by_cases h1 : r < r'
 ·left; simp [h1]
 ·by_cases h2 : r' < r
  ·right; right; simp [h1, h2]
  ·have e : r = r' := by omega
   subst e
   by_cases h3 : s < s'
   ·left; simp [h3]
   ·by_cases h4 : s' < s
    ·right; right; simp [h3, h4]
    ·right; left; simp [h3, h4]; omega
def J5 (o : ByteArray) (r : Int) (x : Ta) : Int := rkT x.o o x.r r
def J6 (r s : Int) (x : Li) : Int := rkD x.r x.s r s
def J0 (r s : Int) (x : Ce) : Int := rkD x.r x.s r s
def Gw {α : Type} (c : α → Int) (l : List α) : Prop := ∀ i j (hi : i < l.length) (hj : j < l.length), i < j → c l[j] < 0 → c l[i] < 0
def GW {α : Type} (l : List α) (c : α → Int) (k : Nat) (b : Bool) : Prop := k ≤ l.length ∧ (∀ i (h : i < l.length), i < k → c l[i] < 0) ∧ (∀ i (h : i < l.length), k ≤ i → ¬ c l[i] < 0) ∧ (b = true ↔ ∃ h : k < l.length, c l[k] = 0)
def JT {α : Type} (e : Ending) (l : List α) (c : α → Int) : Prop := ∃ (k : Nat) (b : Bool), e = .returned (.tuple #[int i64 k, .bool b]) ∧ GW l c k b
def Brack {α : Type} (l : List α) (c : α → Int) (lo hi : Nat) : Prop := (∀ i (h : i < l.length), i < lo → c l[i] < 0) ∧ (∀ i (h : i < l.length), hi ≤ i → ¬ c l[i] < 0)
theorem Brack.up {α : Type} {l : List α} {c : α → Int} {lo hi m : Nat} (h : Brack l c lo hi) (hp : Gw c l) (hm : m < l.length) (hd : c l[m] < 0) : Brack l c (m + 1) hi := ⟨fun i hi him => by
 by_cases e : i = m
 ·subst e; exact hd
 ·exact hp i m hi hm (by omega) hd, h.2⟩
theorem Brack.down {α : Type} {l : List α} {c : α → Int} {lo hi m : Nat} (h : Brack l c lo hi) (hp : Gw c l) (hm : m < l.length) (hd : ¬ c l[m] < 0) : Brack l c lo m := ⟨h.1, fun i hi him k => by
 by_cases e : i = m
 ·subst e; exact hd k
 ·exact hd (hp m i hm hi (by omega) k)⟩
theorem Brack.yes {α : Type} {l : List α} {c : α → Int} {k : Nat} (h : Brack l c k k) (hk : k < l.length) (e : c l[k] = 0) : JT (.returned (.tuple #[int i64 k, .bool true])) l c := ⟨k, true, rfl, by omega, h.1, h.2, fun _ => ⟨hk, e⟩, fun _ => rfl⟩
theorem Brack.no {α : Type} {l : List α} {c : α → Int} {k : Nat} (h : Brack l c k k) (hk : k ≤ l.length) (e : ∀ h : k < l.length, ¬ c l[k] = 0) : JT (.returned (.tuple #[int i64 k, .bool false])) l c := ⟨k, false, rfl, hk, h.1, h.2, (fun h => by cases h), fun ⟨h1, h2⟩ => absurd h2 (e h1)⟩
theorem JcF {α : Type} (q : α → Bool) (x a : α) (l : List α) : ins q x (a :: l) = if q a = true then x :: a :: l else a :: ins q x l := by
 unfold ins
 by_cases h : q a = true
 ·rw [if_pos h, List.takeWhile_cons_of_neg (by simp [h]), List.dropWhile_cons_of_neg (by simp [h])]; rfl
 ·rw [if_neg h, List.takeWhile_cons_of_pos (by simp [h]), List.dropWhile_cons_of_pos (by simp [h])]; rfl
theorem KM {α : Type} {l : List α} {c : α → Int} {k : Nat} {b : Bool} (h : GW l c k b) (hb : b = false) (q : α → Bool) (hq : ∀ a ∈ l, (q a = true ↔ 0 < c a)) (x : α) : ins q x l = l.take k ++ x :: l.drop k := by
  subst hb
  obtain ⟨h1, h2, h3, h4⟩ := h
  induction l generalizing k with
  | nil => have : k = 0 := by simpa using h1
           subst this; rfl
  | cons a l ih =>
    rw [JcF]
    cases k with
    | zero =>
      have hn : ¬ c a < 0 := h3 0 (by simp) (Nat.le_refl _)
      have hz : ¬ c a = 0 := fun e => by
        have := h4.2 ⟨by simp, e⟩; cases this
      rw [if_pos ((hq a (by simp)).2 (by omega))]; rfl
    | succ k =>
      have hl : c a < 0 := h2 0 (by simp) (by omega)
      have hqa : ¬ q a = true := fun e => by have := (hq a (by simp)).1 e; omega
      rw [if_neg hqa, ih (k := k) (fun b hb => hq b (by simp [hb])) (by simpa using h1) (fun i hi hik => h2 (i + 1) (by simpa using hi) (by omega)) (fun i hi hik => h3 (i + 1) (by simpa using hi) (by omega))
        ⟨(fun e => by cases e), fun ⟨h5, h6⟩ => h4.2 ⟨by simpa using h5, by simpa using h6⟩⟩]
      rfl
end Go.Proofs.YtepfinenocpneaaGreat
