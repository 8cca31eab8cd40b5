/- A right state, as the specification asks. -/
import Derived.Test.YtdknoflkingodaaGreatQ17
import Derived.Test.YtdknoflkingodaaGreatQ18
set_option maxHeartbeats 16000000
namespace Go.Proofs.YtdknoflkingodaaGreat
open Value (int)
open IntKind (i64)
set_option maxRecDepth 100000
set_option linter.unusedVariables false
open Go.RowKit
def ZV (C : List Ce) (a : Ce) : Prop := (a.x = 0 ∧ a.z = 0) ∨ ∃ k, ∃ h : k < C.length, cellAt C a.x a.z 0 = (k : Int) ∧ C[k].o = a.o ∧ C[k].t < a.t
def SOk (S : Sta) : Prop := KOk S.l ∧ GR S.T ∧ Ug S.L ∧ Ut S.C ∧ (∀ i (h : i < S.L.length), Jd S.l S.L[i].r S.L[i].s = true) ∧ (∀ i (h : i < S.C.length), Jd S.l S.C[i].r S.C[i].s = true ∧ ZV S.C S.C[i])
def Small (S : Sta) : Prop := S.l.length ≤ 1048576 ∧ S.T.length ≤ 1048576 ∧ S.L.length ≤ 1048576 ∧ S.C.length ≤ 1048576
def YU (S : Sta) : Prop := (∀ a ∈ S.T, a.o.size ≤ 1048576) ∧ (∀ a ∈ S.L, a.o.size ≤ 1048576 ∧ a.y.size ≤ 1048576) ∧ (∀ a ∈ S.C, a.o.size ≤ 1048576)
theorem KS : ∀ (l : List Ce) (r s k : Int), 0 ≤ k → cellAt l r s k = -1 ∨ (k ≤ cellAt l r s k ∧ cellAt l r s k < k + l.length)
 | [], r, s, k, _ => .inl rfl
 | c :: l, r, s, k, hk => by
  unfold cellAt
  by_cases h : c.r = r ∧ c.s = s
  ·rw [if_pos h]; right; simp only [List.length_cons]; omega
  ·rw [if_neg h]
   rcases KS l r s (k + 1) (by omega) with e | e
   ·exact .inl e
   ·right; simp only [List.length_cons]; omega
abbrev Jgl : Oper := oq 72 (.move (.tmp 6)) 3 "l06_state.go:71" #[] none
abbrev Jgq : Oper := oq 73 (.binOp .lss 3 (.tmp 72) (.const (int i64 0)) 3) 4 "l06_state.go:71" #[eD 0] none
abbrev JgF : Oper := oq 74 (.move (.tmp 73)) 4 "l06_state.go:71" #[eD 1] none
abbrev JfR : Oper := oq 75 (.fieldAddr 29 (.tmp 1) 3) 0 "l06_state.go:71" #[eG 2] (some (2, false))
abbrev JfQ : Oper := oq 76 (.load 27 (.tmp 75)) 27 "l06_state.go:71" #[eD 3, eG 2] (some (2, false))
abbrev JhD : Oper := oq 77 (.move (.tmp 6)) 3 "l06_state.go:71" #[eG 2] (some (2, false))
abbrev Jf9 : Oper := oq 78 (.indexAddr 27 (.tmp 76) (.tmp 77)) 0 "l06_state.go:71" #[eD 4, eD 5, eG 2] (some (2, false))
abbrev Jhi : Oper := oq 79 (.fieldAddr 35 (.tmp 78) 0) 0 "l06_state.go:71" #[eD 6, eG 2] (some (2, false))
abbrev JhO : Oper := oq 80 (.load 9 (.tmp 79)) 9 "l06_state.go:71" #[eD 7, eG 2] (some (2, false))
abbrev Jgu : Oper := oq 81 (.fieldAddr 35 (.tmp 5) 0) 0 "l06_state.go:71" #[eG 2] (some (2, false))
abbrev Jed : Oper := oq 82 (.load 9 (.tmp 81)) 9 "l06_state.go:71" #[eD 9, eG 2] (some (2, false))
abbrev Jes : Oper := oq 83 (.binOp .neq 9 (.tmp 80) (.tmp 82) 9) 4 "l06_state.go:71" #[eD 8, eD 10, eG 2] (some (2, false))
abbrev Jd9 : Oper := oq 84 (.pick (.tmp 74) (.const (.bool true)) (.tmp 83)) 4 "l06_state.go:71" #[eD 2, eD 11] none
abbrev Jeu : Oper := oq 85 (.move (.tmp 84)) 4 "l06_state.go:71" #[eD 12, eC 2] none
abbrev Jd1 : Oper := oq 86 (.fieldAddr 29 (.tmp 1) 3) 0 "l06_state.go:71" #[eG 13] (some (13, false))
abbrev Jea : Oper := oq 87 (.load 27 (.tmp 86)) 27 "l06_state.go:71" #[eD 14, eG 13] (some (13, false))
abbrev Jdy : Oper := oq 88 (.move (.tmp 6)) 3 "l06_state.go:71" #[eG 13] (some (13, false))
abbrev Jeb : Oper := oq 89 (.indexAddr 27 (.tmp 87) (.tmp 88)) 0 "l06_state.go:71" #[eD 15, eD 16, eG 13] (some (13, false))
abbrev JdQ : Oper := oq 90 (.fieldAddr 35 (.tmp 89) 2) 0 "l06_state.go:71" #[eD 17, eG 13] (some (13, false))
abbrev Jd8 : Oper := oq 91 (.load 3 (.tmp 90)) 3 "l06_state.go:71" #[eD 18, eG 13] (some (13, false))
abbrev Jey : Oper := oq 92 (.fieldAddr 35 (.tmp 5) 2) 0 "l06_state.go:71" #[eG 13] (some (13, false))
abbrev Jdt : Oper := oq 93 (.load 3 (.tmp 92)) 3 "l06_state.go:71" #[eD 20, eG 13] (some (13, false))
abbrev Jdr : Oper := oq 94 (.binOp .geq 3 (.tmp 91) (.tmp 93) 3) 4 "l06_state.go:71" #[eD 19, eD 21, eG 13] (some (13, false))
abbrev Jeh : Oper := oq 95 (.pick (.tmp 85) (.const (.bool true)) (.tmp 94)) 4 "l06_state.go:71" #[eD 13, eD 22] none
theorem ZD (S : Sta) (u0 u1 u2 u3 : Value) (w : World) (hn : Small S) (hst : YU S) (h : StAt w S u0 u1 u2 u3) :
  Calls Tryz.prog 21 #[.agg #[u0, u1, u2, u3]] w fun e w' => Tells e (SOk S) ∧ Below w.heap.size w w' := by
 obtain ⟨a0, c0, a1, c1, a2, c2, a3, c3, rfl, rfl, rfl, rfl⟩ := h.shape
 obtain ⟨W, hW⟩ : ∃ W, W = w.alloc (.cells #[.slice a0 S.l.length c0, .slice a1 S.T.length c1, .slice a2 S.L.length c2, .slice a3 S.C.length c3] 29) := ⟨_, rfl⟩
 have HB : Hid (Below w.heap.size w W) := by rw [hW]; exact (Below.refl _ _).alloc (Nat.le_refl _) _
 have hS : StAt W S (.slice a0 S.l.length c0) (.slice a1 S.T.length c1) (.slice a2 S.L.length c2) (.slice a3 S.C.length c3) := by rw [hW]; exact h.alloc _
 have hR : Row W w.heap.size #[.slice a0 S.l.length c0, .slice a1 S.T.length c1, .slice a2 S.L.length c2, .slice a3 S.C.length c3] 29 := by rw [hW]; exact Jb w _ _ rfl
 have HS : Hid (∀ wx, Below W.heap.size W wx → StAt wx S (.slice a0 S.l.length c0) (.slice a1 S.T.length c1) (.slice a2 S.L.length c2) (.slice a3 S.C.length c3)) := fun wx h => hS.below h
 have HR : Hid (∀ wx, Below W.heap.size W wx → wx.cell? ⟨w.heap.size, 0, none⟩ = some (.slice a0 S.l.length c0) ∧ wx.cell? ⟨w.heap.size, 1, none⟩ = some (.slice a1 S.T.length c1) ∧ wx.cell? ⟨w.heap.size, 2, none⟩ = some (.slice a2 S.L.length c2) ∧ wx.cell? ⟨w.heap.size, 3, none⟩ = some (.slice a3 S.C.length c3)) := fun wx h => Row.four (hR.next h)
 have HK : Hid (∀ wx, Below W.heap.size W wx → Calls Tryz.prog 77 #[.slice a0 S.l.length c0] wx fun e w' => e = .returned (.bool (decide (KOk S.l))) ∧ w' = wx) := fun wx h => Jw S.l _ wx hn.1 (HS.out wx h).1
 have HT : Hid (∀ wx, Below W.heap.size W wx → Calls Tryz.prog 78 #[.slice a1 S.T.length c1] wx fun e w' => Tells e (GR S.T) ∧ Below wx.heap.size wx w') := fun wx h => Uh S.T _ wx hn.2.1 hst.1 (HS.out wx h).2.1
 have HL : Hid (∀ wx, Below W.heap.size W wx → Calls Tryz.prog 79 #[.slice a2 S.L.length c2] wx fun e w' => Tells e (Ug S.L) ∧ Below wx.heap.size wx w') := fun wx h => Vf S.L _ wx hn.2.2.1 hst.2.1 (HS.out wx h).2.2.1
 have HC : Hid (∀ wx, Below W.heap.size W wx → Calls Tryz.prog 80 #[.slice a3 S.C.length c3] wx fun e w' => Tells e (Ut S.C) ∧ Below wx.heap.size wx w') := fun wx h => Vj S.C _ wx hn.2.2.2 hst.2.2 (HS.out wx h).2.2.2
 have HKN : Hid (∀ wx r s, Below W.heap.size W wx → Calls Tryz.prog 34 #[.slice a0 S.l.length c0, .agg #[int i64 r, int i64 s]] wx fun e w' => e = .returned (.bool (Jd S.l r s)) ∧ Below wx.heap.size wx w') := fun wx r s h => Zq S.l _ r s wx hn.1 (HS.out wx h).1
 have HCA : Hid (∀ wx r s, Below W.heap.size W wx → Calls Tryz.prog 24 #[.agg #[.slice a0 S.l.length c0, .slice a1 S.T.length c1, .slice a2 S.L.length c2, .slice a3 S.C.length c3], .agg #[int i64 r, int i64 s]] wx fun e w' => e = .returned (int i64 (cellAt S.C r s 0)) ∧ Below wx.heap.size wx w') := fun wx r s h => ZG S _ _ _ _ r s wx hn.2.2.2 (HS.out wx h)
 have HF : Hid (∀ wx, Below W.heap.size W wx → Below w.heap.size w wx) := fun wx h => HB.out.trans (h.mono HB.out.size)
 have HLG : Hid (∀ wx, Below W.heap.size W wx → LiG wx a2 S.L) := fun wx h => by
  obtain ⟨x, y, hq, hg⟩ := (HS.out wx h).2.2.1
  simp only [Value.slice.injEq] at hq
  rw [hq.1]; exact hg
 have HCG : Hid (∀ wx, Below W.heap.size W wx → CeG wx a3 S.C) := fun wx h => by
  obtain ⟨x, y, hq, hg⟩ := (HS.out wx h).2.2.2
  simp only [Value.slice.injEq] at hq
  rw [hq.1]; exact hg
 have hW0 : Below W.heap.size W W := Below.refl _ _
 have HW : Hid (w.alloc (.cells #[.slice a0 S.l.length c0, .slice a1 S.T.length c1, .slice a2 S.L.length c2, .slice a3 S.C.length c3] 29) = W) := hW.symm
 obtain ⟨d0, d1, d2, d3⟩ := HR.out W hW0
 rw [hW] at d0 d1 d2 d3
 obtain ⟨nl, hnl⟩ : ∃ n, n = S.L.length := ⟨_, rfl⟩
 obtain ⟨nc, hnc⟩ : ∃ n, n = S.C.length := ⟨_, rfl⟩
 have HNL := Ja hnl
 have HNC := Ja hnc
 have hnl2 : nl ≤ 1048576 := by rw [hnl]; exact hn.2.2.1
 have hnc2 : nc ≤ 1048576 := by rw [hnc]; exact hn.2.2.2
 clear hW h hS hR hst hnl hnc hn
 go_enter Tryz.func21, Tryz.ntmps21
 go_wp2_with fail
 rw [HW.out]
 refine (HK.out _ hW0).mono ?_
 rintro e w1 ⟨rfl, hw⟩
 replace hw := hw.symm
 subst hw
 clear d0 d1 d2 d3
 by_cases k1 : KOk S.l
 case neg =>
  rw [decide_eq_false k1]
  have HE : Hid (¬ SOk S) := fun h => k1 h.1
  have HB1 := Ja (HF.out _ hW0)
  clear k1
  go_wp2
  go_ret
  exact ⟨Tells.no HE.out, HB1.out⟩
 rw [decide_eq_true k1]
 have K1 := Ja k1
 clear k1 HK HW

 obtain ⟨d0, d1, d2, d3⟩ := HR.out _ hW0
 go_wp2_with fail
 refine (HT.out _ hW0).mono ?_
 rintro e x0 ⟨⟨q, rfl, hq⟩, hb⟩
 have hX0 : Below W.heap.size W x0 := hW0.trans (hb.mono hW0.size)
 clear hb d0 d1 d2 d3 HT
 cases q with
 | false =>
  have HE : Hid (¬ SOk S) := fun h => by have := hq.2 h.2.1; cases this
  have HB1 := Ja (HF.out _ hX0)
  clear hq
  go_wp2
  go_ret
  exact ⟨Tells.no HE.out, HB1.out⟩
 | true =>
 have K2 : Hid (GR S.T) := hq.1 rfl
 clear hq
 obtain ⟨d0, d1, d2, d3⟩ := HR.out _ hX0
 go_wp2_with fail
 refine (HL.out _ hX0).mono ?_
 rintro e x1 ⟨⟨q, rfl, hq⟩, hb⟩
 have hX1 : Below W.heap.size W x1 := hX0.trans (hb.mono hX0.size)
 clear hb d0 d1 d2 d3 HL
 cases q with
 | false =>
  have HE : Hid (¬ SOk S) := fun h => by have := hq.2 h.2.2.1; cases this
  have HB1 := Ja (HF.out _ hX1)
  clear hq
  go_wp2
  go_ret
  exact ⟨Tells.no HE.out, HB1.out⟩
 | true =>
 have K3 : Hid (Ug S.L) := hq.1 rfl
 clear hq
 obtain ⟨d0, d1, d2, d3⟩ := HR.out _ hX1
 go_wp2_with fail
 refine (HC.out _ hX1).mono ?_
 rintro e x2 ⟨⟨q, rfl, hq⟩, hb⟩
 have hX2 : Below W.heap.size W x2 := hX1.trans (hb.mono hX1.size)
 clear hb d0 d1 d2 d3 HC
 cases q with
 | false =>
  have HE : Hid (¬ SOk S) := fun h => by have := hq.2 h.2.2.2.1; cases this
  have HB1 := Ja (HF.out _ hX2)
  clear hq
  go_wp2
  go_ret
  exact ⟨Tells.no HE.out, HB1.out⟩
 | true =>
 have K4 : Hid (Ut S.C) := hq.1 rfl
 clear hq
 go_wp2
 go_loopw [3] (fun z wr => ∃ k : Nat, k ≤ nl ∧ z = int i64 k ∧ (∀ i (h : i < S.L.length), i < k → Jd S.l S.L[i].r S.L[i].s = true) ∧ Below W.heap.size W wr) (fun z _ => nl - (intOf z).toNat)
 case atStart => exact ⟨0, Nat.zero_le _, rfl, fun i _ h => by omega, hX2⟩
 case round =>
  obtain ⟨k, hk, rfl, hall, hbel⟩ := hrel
  have HALL := Ja hall
  have HBE := Ja hbel
  obtain ⟨d0, d1, d2, d3⟩ := HR.out _ hbel
  rw [← HNL.out] at d2
  clear hall hX2
  by_cases hlt : k < nl
  ·have hkl : k < S.L.length := by rw [← HNL.out]; exact hlt
   obtain ⟨g, f, rfl, hg, hcc⟩ := HLG.out W (Below.refl _ _) (by omega)
   have hk1 : (k : Int) < nl := by omega
   have hk0 : (0 : Int) ≤ k := by omega
   have HMO : Hid (Jd S.l S.L[k].r S.L[k].s = true → ∀ i (h : i < S.L.length), i < k + 1 → Jd S.l S.L[i].r S.L[i].s = true) := fun hx i hi hik => by
    by_cases e : i = k
    ·subst e; exact hx
    ·exact HALL.out i hi (by omega)
   have HNO : Hid (Jd S.l S.L[k].r S.L[k].s = false → ¬ SOk S) := fun hx h => by have := h.2.2.2.2.1 k hkl; rw [hx] at this; cases this
   have HXC : Hid (∀ wx, Below W.heap.size W wx → wx.cell? ⟨g, f + k * 6 + 4, none⟩ = some (int i64 S.L[k].r) ∧ wx.cell? ⟨g, f + k * 6 + 5, none⟩ = some (int i64 S.L[k].s)) := fun wx h => by
    have := (hcc k hkl).below h hg
    exact ⟨this.2.2.2.2.1, this.2.2.2.2.2⟩
   have HKX := Ja (fun wx h => HKN.out wx S.L[k].r S.L[k].s h)
   generalize S.L[k].r = xr at *
   generalize S.L[k].s = xs at *
   generalize Jd S.l xr xs = kb at *
   obtain ⟨e0, e1⟩ := HXC.out _ hbel
   have hVd : Below W.heap.size W wr.drew := hbel.drew
   have HAL : Hid (∀ wx, Below W.heap.size W wx → wx.cell? ⟨w.heap.size, 0, none⟩ = some (.slice a0 S.l.length c0) ∧ wx.cell? ⟨w.heap.size, 2, none⟩ = some (.slice (some ⟨g, f, none⟩) nl c2) ∧ wx.cell? ⟨g, f + k * 6 + 4, none⟩ = some (int i64 xr) ∧ wx.cell? ⟨g, f + k * 6 + 5, none⟩ = some (int i64 xs)) := fun wx h => by
    obtain ⟨z0, z1, z2, z3⟩ := HR.out wx h
    obtain ⟨y0, y1⟩ := HXC.out wx h
    rw [← HNL.out] at z2
    exact ⟨z0, z2, y0, y1⟩
   have SS := HAL.out _ hVd
   clear hcc hkl
   go_wp2
   go_region_held3 (fun w' => w'.cell? ⟨w.heap.size, 0, none⟩ = some (.slice a0 S.l.length c0) ∧ w'.cell? ⟨w.heap.size, 2, none⟩ = some (.slice (some ⟨g, f, none⟩) nl c2) ∧ w'.cell? ⟨g, f + k * 6 + 4, none⟩ = some (int i64 xr) ∧ w'.cell? ⟨g, f + k * 6 + 5, none⟩ = some (int i64 xs)) (first | exact SS | exact SS2 | go_keep) (first
    | (go_at_call 34; refine (HKX.out _ hVd).mono ?_; rintro e w2 ⟨rfl, hb2⟩; have hV2 : Below W.heap.size W w2 := hVd.trans (hb2.mono hVd.size); have SS2 := HAL.out _ hV2))
   have HV2 := Ja hV2
   clear SS SS2 hVd hb2 hV2 e0 e1 d0 d1 d2 d3 hbel HKX HAL HXC
   cases kb with
   | true =>
    have HE := Ja (HMO.out rfl)
    go_wp2
    go_roundw
    case rel => exact ⟨k + 1, by omega, by go_num, HE.out, HV2.out⟩
    case measure => simp [intOf]; omega
   | false =>
    have HE := Ja (HNO.out rfl)
    have HB1 := Ja (HF.out _ HV2.out)
    go_wp2
    go_ret
    exact ⟨Tells.no HE.out, HB1.out⟩
  have hk1 : ¬ ((k : Int) < nl) := by omega
  have K5 : Hid (∀ i (h : i < S.L.length), Jd S.l S.L[i].r S.L[i].s = true) := fun i hi => HALL.out i hi (by have := HNL.out; omega)
  clear HALL
  go_wp2
  rename World => Z
  go_loopw [4] (fun z wr => ∃ k : Nat, k ≤ nc ∧ z = int i64 k ∧ (∀ i (h : i < S.C.length), i < k → Jd S.l S.C[i].r S.C[i].s = true ∧ ZV S.C S.C[i]) ∧ Below W.heap.size W wr) (fun z _ => nc - (intOf z).toNat)
  case atStart => exact ⟨0, Nat.zero_le _, rfl, fun i _ h => by omega, HBE.out⟩
  case round =>
   clear HBE
   obtain ⟨k, hk, rfl, hall, hbel⟩ := hrel
   have HALL := Ja hall
   have HBE := Ja hbel
   have hsz := hbel.size
   obtain ⟨d0, d1, d2, d3⟩ := HR.out _ hbel
   rw [← HNC.out] at d3
   clear hall
   by_cases hlt : k < nc
   ·have hkl : k < S.C.length := by rw [← HNC.out]; exact hlt
    obtain ⟨g, f, rfl, hg, hcc⟩ := HCG.out W (Below.refl _ _) (by omega)
    have hk1 : (k : Int) < nc := by omega
    have hk0 : (0 : Int) ≤ k := by omega
    have q := (hcc k hkl).below hbel hg
    have HCC : Hid (∀ j (h : j < S.C.length) wx, Below W.heap.size W wx → ceC wx g (f + j * 8) S.C[j]) := fun j h wx hb => (hcc j h).below hb hg
    have HMO : Hid (Jd S.l S.C[k].r S.C[k].s = true → ZV S.C S.C[k] → ∀ i (h : i < S.C.length), i < k + 1 → Jd S.l S.C[i].r S.C[i].s = true ∧ ZV S.C S.C[i]) := fun hx hy i hi hik => by
     by_cases e : i = k
     ·subst e; exact ⟨hx, hy⟩
     ·exact HALL.out i hi (by omega)
    have HNO : Hid (Jd S.l S.C[k].r S.C[k].s = false → ¬ SOk S) := fun hx h => by have := (h.2.2.2.2.2 k hkl).1; rw [hx] at this; cases this
    have HNR : Hid (¬ ZV S.C S.C[k] → ¬ SOk S) := fun hx h => hx (h.2.2.2.2.2 k hkl).2
    have HKX := Ja (fun wx h => HKN.out wx S.C[k].r S.C[k].s h)
    generalize S.C[k] = x at *
    generalize hkb : Jd S.l x.r x.s = kb at *
    unfold ceC at q
    obtain ⟨q0, q1, q2, q3, q4, q5, q6, q7⟩ := q
    obtain ⟨WW, hWW⟩ : ∃ WW, WW = wr.alloc (.cells #[.string x.o, int i64 x.r, int i64 x.s, int i64 x.t, int i64 x.x, int i64 x.z, int i64 x.v, .bool x.g] 35) := ⟨_, rfl⟩
    have hBW : Below W.heap.size W WW := by rw [hWW]; exact hbel.alloc hsz _
    have hRW : Row WW wr.heap.size #[.string x.o, int i64 x.r, int i64 x.s, int i64 x.t, int i64 x.x, int i64 x.z, int i64 x.v, .bool x.g] 35 := by rw [hWW]; exact Jb wr _ _ rfl
    have HRX : Hid (∀ wx, Below WW.heap.size WW wx → wx.cell? ⟨wr.heap.size, 0, none⟩ = some (.string x.o) ∧ wx.cell? ⟨wr.heap.size, 1, none⟩ = some (int i64 x.r) ∧ wx.cell? ⟨wr.heap.size, 2, none⟩ = some (int i64 x.s) ∧ wx.cell? ⟨wr.heap.size, 3, none⟩ = some (int i64 x.t) ∧ wx.cell? ⟨wr.heap.size, 4, none⟩ = some (int i64 x.x) ∧ wx.cell? ⟨wr.heap.size, 5, none⟩ = some (int i64 x.z)) := fun wx h => ⟨(hRW.next h).cell 0 rfl, (hRW.next h).cell 1 rfl, (hRW.next h).cell 2 rfl, (hRW.next h).cell 3 rfl, (hRW.next h).cell 4 rfl, (hRW.next h).cell 5 rfl⟩
    have HWW : Hid (wr.alloc (.cells #[.string x.o, int i64 x.r, int i64 x.s, int i64 x.t, int i64 x.x, int i64 x.z, int i64 x.v, .bool x.g] 35) = WW) := hWW.symm
    obtain ⟨n0, n1, n2, n3⟩ := HR.out _ hBW
    obtain ⟨m0, m1, m2, m3, m4, m5⟩ := HRX.out _ (Below.refl _ _)
    rw [hWW] at n0 m1 m2
    clear hcc hkl hWW hRW n1 n2 n3 m0 m3 m4 m5
    go_wp2_with fail
    rw [HWW.out]
    refine (HKX.out _ hBW).mono ?_
    rintro e w2 ⟨rfl, hb2⟩
    have hX2 : Below WW.heap.size WW w2 := hb2
    have hW2 : Below W.heap.size W w2 := hBW.trans (hb2.mono hBW.size)
    clear hb2 n0 m1 m2 HKX HWW q0 q1 q2 q3 q4 q5 q6 q7 d0 d1 d2 d3 hbel
    cases kb with
    | false =>
     have HE := Ja (HNO.out rfl)
     have HB1 := Ja (HF.out _ hW2)
     clear hkb
     go_wp2
     go_ret
     exact ⟨Tells.no HE.out, HB1.out⟩
    | true =>
    replace HMO := Ja (HMO.out rfl)
    clear hkb HNO
    have hgd := ZL
    obtain ⟨m0, m1, m2, m3, m4, m5⟩ := HRX.out _ hX2
    by_cases hz : x.x = 0 ∧ x.z = 0
    ·have heq : ∀ wx, (Op.equalIn 10000 33 (.agg #[int i64 x.x, int i64 x.z]) (.agg #[int i64 0, int i64 0])).run Tryz.prog wx = .ok true wx := fun wx => by rw [Zh, decide_eq_true hz]
     have HE := Ja (HMO.out (.inl hz))
     have HW2 := Ja hW2
     clear hz hW2
     go_wp2
     go_roundw
     case rel => exact ⟨k + 1, by omega, by go_num, HE.out, HW2.out⟩
     case measure => simp [intOf]; omega
    have heq : ∀ wx, (Op.equalIn 10000 33 (.agg #[int i64 x.x, int i64 x.z]) (.agg #[int i64 0, int i64 0])).run Tryz.prog wx = .ok false wx := fun wx => by rw [Zh, decide_eq_false hz]
    obtain ⟨n0, n1, n2, n3⟩ := HR.out _ hW2
    have HCX := Ja (HCA.out w2 x.x x.z hW2)
    have HZ := Ja hz
    have hrg := KS S.C x.x x.z 0 (by omega)
    have HRI : Hid (∀ j (h : j < S.C.length), cellAt S.C x.x x.z 0 = (j : Int) → (ZV S.C x ↔ S.C[j].o = x.o ∧ S.C[j].t < x.t)) := fun j h e => by
     constructor
     ·rintro (h1 | ⟨i, hi, h1, h2⟩)
      ·exact absurd h1 HZ.out
      ·have : i = j := by omega
       subst this; exact h2
     ·intro h1; exact .inr ⟨j, h, e, h1⟩
    have HRN : Hid (cellAt S.C x.x x.z 0 = -1 → ¬ ZV S.C x) := fun e h => by
     rcases h with h | ⟨i, hi, h1, -⟩
     ·exact HZ.out h
     ·omega
    generalize cellAt S.C x.x x.z 0 = KK at *
    clear hz
    go_wp2_with fail
    refine HCX.out.mono ?_
    rintro e w3 ⟨rfl, hb3⟩
    have hX3 : Below WW.heap.size WW w3 := hX2.trans (hb3.mono hX2.size)
    have hW3 : Below W.heap.size W w3 := hW2.trans (hb3.mono hW2.size)
    clear hb3 heq HCX m0 m1 m2 m3 m4 m5 n0 n1 n2 n3 hX2 hW2
    obtain ⟨m0, m1, m2, m3, m4, m5⟩ := HRX.out _ hX3
    obtain ⟨n0, n1, n2, n3⟩ := HR.out _ hW3
    rw [← HNC.out] at n3
    have HW3 := Ja hW3
    clear n0 n1 n2 m1 m2 m4 m5
    rcases hrg with hk | ⟨hr1, hr2⟩
    ·subst hk
     have HE := Ja (HNR.out (HRN.out rfl))
     clear HRI HRN HNR HMO hW3 hX3
     go_wp2
     go_quiet (fail)
     have HB2 := Ja (HF.out _ (Jh HW3.out nq))
     generalize w3.drewN nq = wq at *
     clear m0 m3 n3 HW3
     go_wp2
     go_ret
     exact ⟨Tells.no HE.out, HB2.out⟩
    obtain ⟨j, hj⟩ : ∃ j : Nat, KK = j := Int.eq_ofNat_of_zero_le hr1
    subst hj
    have hjl : j < S.C.length := by omega
    have hj1 : (j : Int) < nc := by have := HNC.out; omega
    have hj0 : (0 : Int) ≤ j := by omega
    have hjn : ¬ ((j : Int) < 0) := by omega
    have HRJ := Ja (HRI.out j hjl rfl)
    have q := HCC.out j hjl w3 hW3
    obtain ⟨y, hyy⟩ : ∃ y, y = S.C[j] := ⟨_, rfl⟩
    rw [← hyy] at q HRJ
    unfold ceC at q
    obtain ⟨q0, q1, q2, q3, q4, q5, q6, q7⟩ := q
    have HS5 : Hid (∀ wx, Below w3.heap.size w3 wx → wx.cell? ⟨w.heap.size, 3, none⟩ = some (.slice (some ⟨g, f, none⟩) nc c3) ∧ wx.cell? ⟨wr.heap.size, 0, none⟩ = some (.string x.o) ∧ wx.cell? ⟨wr.heap.size, 3, none⟩ = some (int i64 x.t) ∧ wx.cell? ⟨g, f + j * 8, none⟩ = some (.string y.o) ∧ wx.cell? ⟨g, f + j * 8 + 3, none⟩ = some (int i64 y.t)) := fun wx h => by
     have hq := HCC.out j hjl wx (HW3.out.trans (h.mono HW3.out.size))
     obtain ⟨z0, z1, z2, z3⟩ := HR.out wx (HW3.out.trans (h.mono HW3.out.size))
     obtain ⟨y0, y1, y2, y3, y4, y5⟩ := HRX.out wx (hX3.trans (h.mono hX3.size))
     rw [← HNC.out] at z3
     rw [← hyy] at hq
     exact ⟨z3, y0, y3, hq.1, hq.2.2.2.1⟩
    clear q1 q2 q4 q5 q6 q7 hjl hr1 hr2 HRI HRN hW3 hX3 hyy
    by_cases ho : y.o = x.o
    ·have b1 := Kx y.o x.o ho
     have b2 : (y.o.toList != x.o.toList) = false := by simp [bne, b1]
     by_cases ht : y.t < x.t
     ·have HE := Ja (HMO.out (HRJ.out.2 ⟨ho, ht⟩))
      clear HRJ HMO HNR ho
      go_wp2
      try simp only [List.append_eq, List.cons_append, List.nil_append]
      have hBc : Below w3.heap.size w3 w3.drew := (Below.refl _ _).drew
      refine wph HS5 hBc 24 ?_
      refine tQ 0 Jgl ?_ (HS5.out _ hBc); refine tQ 1 Jgq ?_ (HS5.out _ hBc); refine tQ 2 JgF ?_ (HS5.out _ hBc); refine tQ 3 JfR ?_ (HS5.out _ hBc); refine tQ 4 JfQ ?_ (HS5.out _ hBc); refine tQ 5 JhD ?_ (HS5.out _ hBc); refine tQ 6 Jf9 ?_ (HS5.out _ hBc); refine tQ 7 Jhi ?_ (HS5.out _ hBc); refine tQ 8 JhO ?_ (HS5.out _ hBc); refine tQ 9 Jgu ?_ (HS5.out _ hBc); refine tQ 10 Jed ?_ (HS5.out _ hBc); refine tQ 11 Jes ?_ (HS5.out _ hBc); refine tQ 12 Jd9 ?_ (HS5.out _ hBc); refine tQ 13 Jeu ?_ (HS5.out _ hBc); refine tQ 14 Jd1 ?_ (HS5.out _ hBc); refine tQ 15 Jea ?_ (HS5.out _ hBc); refine tQ 16 Jdy ?_ (HS5.out _ hBc); refine tQ 17 Jeb ?_ (HS5.out _ hBc); refine tQ 18 JdQ ?_ (HS5.out _ hBc); refine tQ 19 Jd8 ?_ (HS5.out _ hBc); refine tQ 20 Jey ?_ (HS5.out _ hBc); refine tQ 21 Jdt ?_ (HS5.out _ hBc); refine tQ 22 Jdr ?_ (HS5.out _ hBc); refine tQ 23 Jeh ?_ (HS5.out _ hBc)
      refine wpd ?_
      
      have HB2 := Ja ((HW3.out.trans (hBc.mono HW3.out.size)))
      clear hBc m0 m3 n3 HW3 q0 q3 HS5
      go_wp2
      go_roundw
      case rel => exact ⟨k + 1, by omega, by go_num, HE.out, HB2.out⟩
      case measure => simp [intOf]; omega
     ·have HE := Ja (HNR.out (fun h => ht (HRJ.out.1 h).2))
      clear HRJ HMO HNR ho
      go_wp2
      try simp only [List.append_eq, List.cons_append, List.nil_append]
      have hBc : Below w3.heap.size w3 w3.drew := (Below.refl _ _).drew
      refine wph HS5 hBc 24 ?_
      refine tQ 0 Jgl ?_ (HS5.out _ hBc); refine tQ 1 Jgq ?_ (HS5.out _ hBc); refine tQ 2 JgF ?_ (HS5.out _ hBc); refine tQ 3 JfR ?_ (HS5.out _ hBc); refine tQ 4 JfQ ?_ (HS5.out _ hBc); refine tQ 5 JhD ?_ (HS5.out _ hBc); refine tQ 6 Jf9 ?_ (HS5.out _ hBc); refine tQ 7 Jhi ?_ (HS5.out _ hBc); refine tQ 8 JhO ?_ (HS5.out _ hBc); refine tQ 9 Jgu ?_ (HS5.out _ hBc); refine tQ 10 Jed ?_ (HS5.out _ hBc); refine tQ 11 Jes ?_ (HS5.out _ hBc); refine tQ 12 Jd9 ?_ (HS5.out _ hBc); refine tQ 13 Jeu ?_ (HS5.out _ hBc); refine tQ 14 Jd1 ?_ (HS5.out _ hBc); refine tQ 15 Jea ?_ (HS5.out _ hBc); refine tQ 16 Jdy ?_ (HS5.out _ hBc); refine tQ 17 Jeb ?_ (HS5.out _ hBc); refine tQ 18 JdQ ?_ (HS5.out _ hBc); refine tQ 19 Jd8 ?_ (HS5.out _ hBc); refine tQ 20 Jey ?_ (HS5.out _ hBc); refine tQ 21 Jdt ?_ (HS5.out _ hBc); refine tQ 22 Jdr ?_ (HS5.out _ hBc); refine tQ 23 Jeh ?_ (HS5.out _ hBc)
      refine wpd ?_
      
      have HB2 := Ja (HF.out _ (HW3.out.trans (hBc.mono HW3.out.size)))
      clear hBc m0 m3 n3 HW3 q0 q3 HS5
      go_wp2
      go_ret
      exact ⟨Tells.no HE.out, HB2.out⟩
    ·have b1 := Ze y.o x.o ho
     have b2 : (y.o.toList != x.o.toList) = true := by simp [bne, b1]
     have HE := Ja (HNR.out (fun h => ho (HRJ.out.1 h).1))
     clear HRJ HMO HNR ho
     go_wp2
     try simp only [List.append_eq, List.cons_append, List.nil_append]
     have hBc : Below w3.heap.size w3 w3.drew := (Below.refl _ _).drew
     refine wph HS5 hBc 24 ?_
     refine tQ 0 Jgl ?_ (HS5.out _ hBc); refine tQ 1 Jgq ?_ (HS5.out _ hBc); refine tQ 2 JgF ?_ (HS5.out _ hBc); refine tQ 3 JfR ?_ (HS5.out _ hBc); refine tQ 4 JfQ ?_ (HS5.out _ hBc); refine tQ 5 JhD ?_ (HS5.out _ hBc); refine tQ 6 Jf9 ?_ (HS5.out _ hBc); refine tQ 7 Jhi ?_ (HS5.out _ hBc); refine tQ 8 JhO ?_ (HS5.out _ hBc); refine tQ 9 Jgu ?_ (HS5.out _ hBc); refine tQ 10 Jed ?_ (HS5.out _ hBc); refine tQ 11 Jes ?_ (HS5.out _ hBc); refine tQ 12 Jd9 ?_ (HS5.out _ hBc); refine tQ 13 Jeu ?_ (HS5.out _ hBc); refine sQ 14 Jd1 ?_ (HS5.out _ hBc); refine sQ 15 Jea ?_ (HS5.out _ hBc); refine sQ 16 Jdy ?_ (HS5.out _ hBc); refine sQ 17 Jeb ?_ (HS5.out _ hBc); refine sQ 18 JdQ ?_ (HS5.out _ hBc); refine sQ 19 Jd8 ?_ (HS5.out _ hBc); refine sQ 20 Jey ?_ (HS5.out _ hBc); refine sQ 21 Jdt ?_ (HS5.out _ hBc); refine sQ 22 Jdr ?_ (HS5.out _ hBc); refine tQ 23 Jeh ?_ (HS5.out _ hBc)
     refine wpd ?_
     
     have HB2 := Ja (HF.out _ (HW3.out.trans (hBc.mono HW3.out.size)))
     clear hBc m0 m3 n3 HW3 q0 q3 HS5
     go_wp2
     go_ret
     exact ⟨Tells.no HE.out, HB2.out⟩
   have hk1 : ¬ ((k : Int) < nc) := by omega
   have HE : Hid (SOk S) := ⟨K1.out, K2.out, K3.out, K4.out, K5.out, fun i hi => HALL.out i hi (by have := HNC.out; omega)⟩
   have HB1 := Ja (HF.out _ hbel)
   clear HALL
   go_wp2
   go_ret
   exact ⟨Tells.yes HE.out, HB1.out⟩
theorem Row.e0 {w : World} {g : Nat} {T : TypeId} {c0 c1 c2 c3 c4 : Value} (h : Row w g #[c0, c1, c2, c3, c4] T) (x : Value) : Row (w.setCell ⟨g, 0, none⟩ x) g #[x, c1, c2, c3, c4] T := h.set 0 x
theorem Row.e1 {w : World} {g : Nat} {T : TypeId} {c0 c1 c2 c3 c4 : Value} (h : Row w g #[c0, c1, c2, c3, c4] T) (x : Value) : Row (w.setCell ⟨g, 1, none⟩ x) g #[c0, x, c2, c3, c4] T := h.set 1 x
theorem Row.e2 {w : World} {g : Nat} {T : TypeId} {c0 c1 c2 c3 c4 : Value} (h : Row w g #[c0, c1, c2, c3, c4] T) (x : Value) : Row (w.setCell ⟨g, 2, none⟩ x) g #[c0, c1, x, c3, c4] T := h.set 2 x
theorem Row.e3 {w : World} {g : Nat} {T : TypeId} {c0 c1 c2 c3 c4 : Value} (h : Row w g #[c0, c1, c2, c3, c4] T) (x : Value) : Row (w.setCell ⟨g, 3, none⟩ x) g #[c0, c1, c2, x, c4] T := h.set 3 x
theorem Row.e4 {w : World} {g : Nat} {T : TypeId} {c0 c1 c2 c3 c4 : Value} (h : Row w g #[c0, c1, c2, c3, c4] T) (x : Value) : Row (w.setCell ⟨g, 4, none⟩ x) g #[c0, c1, c2, c3, x] T := h.set 4 x
theorem Row.fiveC {w : World} {g : Nat} {T : TypeId} {c0 c1 c2 c3 c4 : Value} (h : Row w g #[c0, c1, c2, c3, c4] T) :
  w.cell? ⟨g, 0, none⟩ = some c0 ∧ w.cell? ⟨g, 1, none⟩ = some c1 ∧ w.cell? ⟨g, 2, none⟩ = some c2 ∧ w.cell? ⟨g, 3, none⟩ = some c3 ∧ w.cell? ⟨g, 4, none⟩ = some c4 := ⟨h.cell 0 rfl, h.cell 1 rfl, h.cell 2 rfl, h.cell 3 rfl, h.cell 4 rfl⟩
theorem Kc {fn : Func} {q : Tmp} (h : fn.results = #[.cell q 113]) {tmps : Array Value} {w : World} {g : Nat} {cs : Array Value} (hc : cs.size = 5) (hp : tmps.getD q undef = .pointer (some ⟨g, 0, none⟩)) (hg : Row w g cs 113) :
  (results fn tmps).run Tryz.prog w = .ok (.agg cs) w := results_cell_row h tmps w g 113 _ (0, 0) _ hp hg Tryz.underlying113 rfl (by rw [hc]; kernel_rfl)
def JP (C : List Ce) : Int := C.foldl (fun n c => if n < c.t then c.t else n) 0
theorem Gf (C : List Ce) (c : Ce) : JP (C ++ [c]) = if JP C < c.t then c.t else JP C := by unfold JP; rw [List.foldl_append]; rfl
def EOk (k : Int) (o y : ByteArray) (v p : Int) : Prop := J6 k o y v ∧ 0 ≤ p ∧ (k = 6 ∨ k = 7 ∨ p = 0)
theorem KE (S : Sta) (u0 u1 u2 u3 : Value) (w : World) (hn : S.C.length ≤ 1048576) (h : StAt w S u0 u1 u2 u3) :
  Calls Tryz.prog 90 #[.agg #[u0, u1, u2, u3]] w fun e w' => e = .returned (int i64 (JP S.C)) ∧ Below w.heap.size w w' := by
 obtain ⟨a0, c0, a1, c1, a2, c2, a3, c3, rfl, rfl, rfl, rfl⟩ := h.shape
 obtain ⟨W, hW⟩ : ∃ W, W = w.alloc (.cells #[.slice a0 S.l.length c0, .slice a1 S.T.length c1, .slice a2 S.L.length c2, .slice a3 S.C.length c3] 29) := ⟨_, rfl⟩
 have hR : Row W w.heap.size #[.slice a0 S.l.length c0, .slice a1 S.T.length c1, .slice a2 S.L.length c2, .slice a3 S.C.length c3] 29 := by rw [hW]; exact Jb w _ _ rfl
 have HB : Hid (Below w.heap.size w W) := by rw [hW]; exact (Below.refl _ _).alloc (Nat.le_refl _) _
 have hS : StAt W S (.slice a0 S.l.length c0) (.slice a1 S.T.length c1) (.slice a2 S.L.length c2) (.slice a3 S.C.length c3) := by rw [hW]; exact h.alloc _
 have HW : Hid (w.alloc (.cells #[.slice a0 S.l.length c0, .slice a1 S.T.length c1, .slice a2 S.L.length c2, .slice a3 S.C.length c3] 29) = W) := hW.symm
 obtain ⟨l, hl⟩ : ∃ l, l = S.C := ⟨_, rfl⟩
 have HGA : Hid (CeG W a3 l) := by
  obtain ⟨x, y, hq, hg⟩ := hS.2.2.2
  simp only [Value.slice.injEq] at hq
  rw [hl, hq.1]; exact hg
 obtain ⟨n, hnl⟩ : ∃ n, n = l.length := ⟨_, rfl⟩
 have HL : Hid (n = l.length) := hnl
 rw [← hl] at hn ⊢ hR HW
 rw [← hnl] at hn ⊢ hR HW
 have HALL : Hid (JP (l.take n) = JP l) := by show _ = _; rw [hnl, List.take_length]
 have d3 := hR.cell 3 rfl
 have HD := Ja d3
 clear hW h hS hl hnl hR d3
 go_enter Tryz.func90, Tryz.ntmps90
 go_wp2
 rw [HW.out]
 clear HW
 go_loopw [3, 4] (fun x z wr => ∃ k : Nat, k ≤ n ∧ z = int i64 k ∧ x = int i64 (JP (l.take k)) ∧ wr = W) (fun _ z _ => n - (intOf z).toNat)
 case atStart => exact ⟨0, Nat.zero_le _, rfl, rfl, rfl⟩
 case round =>
  obtain ⟨k, hk, rfl, rfl, hw⟩ := hrel
  replace hw := hw.symm
  subst hw
  have d3 := HD.out
  by_cases hlt : k < n
  ·have hkl : k < l.length := by rw [← HL.out]; exact hlt
   obtain ⟨g, f, rfl, hg, hcc⟩ := HGA.out (by omega)
   have hk1 : (k : Int) < n := by omega
   have hk0 : (0 : Int) ≤ k := by omega
   have q3 := (hcc k hkl).2.2.2.1
   have HTK : Hid (JP (l.take (k + 1)) = if JP (l.take k) < l[k].t then l[k].t else JP (l.take k)) := by show _ = _; rw [ZK l k hkl, Gf]
   generalize l[k].t = x at *
   generalize JP (l.take k) = m at *
   clear hcc hkl
   by_cases hx : m < x
   ·have HE : Hid (JP (l.take (k + 1)) = x) := by show _ = _; rw [HTK.out, if_pos hx]
    go_wp2
    go_roundw
    case rel => exact ⟨k + 1, by omega, by go_num, by rw [HE.out], by trivial⟩
    case measure => simp [intOf]; omega
   ·have HE : Hid (JP (l.take (k + 1)) = m) := by show _ = _; rw [HTK.out, if_neg hx]
    go_wp2
    go_roundw
    case rel => exact ⟨k + 1, by omega, by go_num, by rw [HE.out], by trivial⟩
    case measure => simp [intOf]; omega
  ·have hk1 : ¬ ((k : Int) < n) := by omega
   have HE : Hid (JP (l.take k) = JP l) := by have e : k = n := (by omega); show _ = _; rw [e]; exact HALL.out
   generalize JP (l.take k) = m at *
   go_wp2
   go_ret
   exact ⟨by rw [← HE.out]; rfl, HB.out⟩
theorem UW (k : Int) (o y : ByteArray) (v p : Int) (w : World) (ho : o.size ≤ 1048576) (hy : y.size ≤ 1048576) :
  Calls Tryz.prog 143 #[.agg #[int i64 k, .string o, .string y, int i64 v, int i64 p]] w fun e w' => Tells e (EOk k o y v p) ∧ Below w.heap.size w w' := by
 obtain ⟨W, hW⟩ : ∃ W, W = w.alloc (.cells #[int i64 k, .string o, .string y, int i64 v, int i64 p] 113) := ⟨_, rfl⟩
 have hR : Row W w.heap.size #[int i64 k, .string o, .string y, int i64 v, int i64 p] 113 := by rw [hW]; exact Jb w _ _ rfl
 have HB : Hid (Below w.heap.size w W) := by rw [hW]; exact (Below.refl _ _).alloc (Nat.le_refl _) _
 have HW : Hid (w.alloc (.cells #[int i64 k, .string o, .string y, int i64 v, int i64 p] 113) = W) := hW.symm
 have HPC : Hid (∀ wx, Calls Tryz.prog 192 #[int i64 k, .string o, .string y, int i64 v] wx fun e w' => e = .returned (.bool (decide (J6 k o y v))) ∧ w' = wx) := fun wx => Gb k o y v (by unfold maxLen; omega) (by unfold maxLen; omega) wx
 have d0 := hR.cell 0 rfl
 have d1 := hR.cell 1 rfl
 have d2 := hR.cell 2 rfl
 have d3 := hR.cell 3 rfl
 have d4 := hR.cell 4 rfl
 rw [hW] at d0 d1 d2 d3 d4
 have HNO : Hid (¬ EOk k o y v p → ∀ q, q = false → Tells (.returned (.bool q)) (EOk k o y v p)) := fun h q e => by subst e; exact Tells.no h
 have HYE : Hid (EOk k o y v p → ∀ q, q = true → Tells (.returned (.bool q)) (EOk k o y v p)) := fun h q e => by subst e; exact Tells.yes h
 clear hW hR ho hy
 by_cases hp : J6 k o y v
 case neg =>
  rw [decide_eq_false hp] at HPC
  have HE : Hid (¬ EOk k o y v p) := fun h => hp h.1
  clear hp
  by_cases h6 : k = 6
  ·have b6 : (k == 6) = true := by simp [h6]
   clear h6
   go_enter Tryz.func143, Tryz.ntmps143
   go_wp2_with (go_at_call 192; refine (HPC.out _).mono ?_; rintro e w1 ⟨rfl, rfl⟩)
   rw [HW.out]
   go_ret
   exact ⟨Tells.no HE.out, HB.out⟩
  ·have b6 : (k == 6) = false := by simp [h6]
   clear h6
   go_enter Tryz.func143, Tryz.ntmps143
   go_wp2_with (go_at_call 192; refine (HPC.out _).mono ?_; rintro e w1 ⟨rfl, rfl⟩)
   rw [HW.out]
   go_ret
   exact ⟨Tells.no HE.out, HB.out⟩
 rw [decide_eq_true hp] at HPC
 have HPP := Ja hp
 clear hp
 by_cases h0 : 0 ≤ p
 case neg =>
  have HE : Hid (¬ EOk k o y v p) := fun h => h0 h.2.1
  have h0' : p < 0 := by omega
  by_cases h6 : k = 6
  ·have b6 : (k == 6) = true := by simp [h6]
   clear h6
   go_enter Tryz.func143, Tryz.ntmps143
   go_wp2_with (go_at_call 192; refine (HPC.out _).mono ?_; rintro e w1 ⟨rfl, rfl⟩)
   rw [HW.out]
   go_ret
   exact ⟨Tells.no HE.out, HB.out⟩
  ·have b6 : (k == 6) = false := by simp [h6]
   clear h6
   go_enter Tryz.func143, Tryz.ntmps143
   go_wp2_with (go_at_call 192; refine (HPC.out _).mono ?_; rintro e w1 ⟨rfl, rfl⟩)
   rw [HW.out]
   go_ret
   exact ⟨Tells.no HE.out, HB.out⟩
 by_cases h6 : k = 6
 ·have b6 : (k == 6) = true := by simp [h6]
  have HE : Hid (EOk k o y v p) := ⟨HPP.out, h0, .inl h6⟩
  clear h6
  go_enter Tryz.func143, Tryz.ntmps143
  go_wp2_with (go_at_call 192; refine (HPC.out _).mono ?_; rintro e w1 ⟨rfl, rfl⟩)
  rw [HW.out]
  go_ret
  exact ⟨Tells.yes HE.out, HB.out⟩
 have b6 : (k == 6) = false := by simp [h6]
 by_cases h7 : k = 7
 ·have b7 : (k == 7) = true := by simp [h7]
  have HE : Hid (EOk k o y v p) := ⟨HPP.out, h0, .inr (.inl h7)⟩
  clear h6 h7
  go_enter Tryz.func143, Tryz.ntmps143
  go_wp2_with (go_at_call 192; refine (HPC.out _).mono ?_; rintro e w1 ⟨rfl, rfl⟩)
  rw [HW.out]
  go_ret
  exact ⟨Tells.yes HE.out, HB.out⟩
 have b7 : (k == 7) = false := by simp [h7]
 by_cases hz : p = 0
 ·have bz : (p == 0) = true := by simp [hz]
  have HE : Hid (EOk k o y v p) := ⟨HPP.out, h0, .inr (.inr hz)⟩
  clear h6 h7 hz
  go_enter Tryz.func143, Tryz.ntmps143
  go_wp2_with (go_at_call 192; refine (HPC.out _).mono ?_; rintro e w1 ⟨rfl, rfl⟩)
  rw [HW.out]
  go_ret
  exact ⟨Tells.yes HE.out, HB.out⟩
 ·have bz : (p == 0) = false := by simp [hz]
  have HE : Hid (¬ EOk k o y v p) := fun h => h.2.2.elim h6 (fun h => h.elim h7 hz)
  clear h6 h7 hz
  go_enter Tryz.func143, Tryz.ntmps143
  go_wp2_with (go_at_call 192; refine (HPC.out _).mono ?_; rintro e w1 ⟨rfl, rfl⟩)
  rw [HW.out]
  go_ret
  exact ⟨Tells.no HE.out, HB.out⟩
def KI (a b : Int) : Int := if a < b then -1 else if b < a then 1 else 0
theorem Gp (x : Int) (w : World) : Calls Tryz.prog 208 #[int i64 x] w fun e w' => e = .returned (.bool false) ∧ w' = w := by
 go_enter Tryz.func208, Tryz.ntmps208
 go_wp2
 go_ret
 exact ⟨by simp, rfl⟩
theorem VM (a b : Int) (w : World) : Calls Tryz.prog 175 #[int i64 a, int i64 b] w fun e w' => e = .returned (int i64 (KI a b)) ∧ w' = w := by
 unfold KI
 by_cases h1 : a < b
 ·rw [if_pos h1]
  go_enter Tryz.func175, Tryz.ntmps175
  go_wp2_with (go_at_call 208; refine (Gp _ _).mono ?_; rintro e w1 ⟨rfl, rfl⟩)
  go_ret
  exact ⟨rfl, rfl⟩
 ·by_cases h2 : b < a
  ·rw [if_neg h1, if_pos h2]
   go_enter Tryz.func175, Tryz.ntmps175
   go_wp2_with (go_at_call 208; refine (Gp _ _).mono ?_; rintro e w1 ⟨rfl, rfl⟩)
   go_ret
   exact ⟨rfl, rfl⟩
  ·rw [if_neg h1, if_neg h2]
   go_enter Tryz.func175, Tryz.ntmps175
   go_wp2_with (go_at_call 208; refine (Gp _ _).mono ?_; rintro e w1 ⟨rfl, rfl⟩)
   go_ret
   exact ⟨rfl, rfl⟩
def or3 (a b c : Int) : Int := if a = 0 then (if b = 0 then c else b) else a
theorem YH (a b c : Int) (g : Nat) (w : World) (h0 : w.cell? ⟨g, 0, none⟩ = some (int i64 a)) (h1 : w.cell? ⟨g, 1, none⟩ = some (int i64 b)) (h2 : w.cell? ⟨g, 2, none⟩ = some (int i64 c)) :
  Calls Tryz.prog 148 #[.slice (some ⟨g, 0, none⟩) 3 3] w fun e w' => e = .returned (int i64 (or3 a b c)) ∧ w' = w := by
 have HR : Hid (∀ r, r = or3 a b c → r = or3 a b c) := fun r h => h
 have cell : ∀ k : Nat, k < 3 → ∃ z : Int, w.cell? ⟨g, k, none⟩ = some (int i64 z) ∧ ((k = 0 ∧ z = a) ∨ (k = 1 ∧ z = b) ∨ (k = 2 ∧ z = c)) := fun k hk => by
  match k, hk with
  | 0, _ => exact ⟨a, h0, .inl ⟨rfl, rfl⟩⟩
  | 1, _ => exact ⟨b, h1, .inr (.inl ⟨rfl, rfl⟩)⟩
  | 2, _ => exact ⟨c, h2, .inr (.inr ⟨rfl, rfl⟩)⟩
 have HC := Ja cell
 clear cell h0 h1 h2
 go_enter Tryz.func148, Tryz.ntmps148
 go_wp2
 go_loopw [8] (fun z wr => ∃ k : Nat, k ≤ 3 ∧ z = int i64 k ∧ (0 < k → a = 0) ∧ (1 < k → b = 0) ∧ (2 < k → c = 0) ∧ wr = w) (fun z _ => 3 - (intOf z).toNat)
 case atStart => exact ⟨0, by omega, rfl, by omega, by omega, by omega, rfl⟩
 case round =>
  obtain ⟨k, hk, rfl, ha, hb, hc, hw⟩ := hrel
  replace hw := hw.symm
  subst hw
  by_cases hlt : k < 3
  ·obtain ⟨z, hz, hzz⟩ := HC.out k hlt
   have hk1 : (k : Int) < 3 := by omega
   have hk0 : (0 : Int) ≤ k := by omega
   by_cases h0 : z = 0
   ·have b0 : (z != 0) = false := by simp [h0]
    have HE : Hid ((0 < k + 1 → a = 0) ∧ (1 < k + 1 → b = 0) ∧ (2 < k + 1 → c = 0)) := by
     refine ⟨fun _ => ?_, fun _ => ?_, fun _ => ?_⟩ <;> rcases hzz with ⟨h3, h4⟩ | ⟨h3, h4⟩ | ⟨h3, h4⟩ <;> first | omega | (exact ha (by omega)) | (exact hb (by omega))
    clear h0 hzz ha hb hc
    go_wp2
    go_roundw
    case rel => exact ⟨k + 1, by omega, by go_num, HE.out.1, HE.out.2.1, HE.out.2.2, by trivial⟩
    case measure => simp [intOf]; omega
   ·have b0 : (z != 0) = true := by simp [h0]
    have HE : Hid (z = or3 a b c) := by
     show _ = _
     unfold or3
     rcases hzz with ⟨h3, h4⟩ | ⟨h3, h4⟩ | ⟨h3, h4⟩
     ·rw [if_neg (by omega)]; exact h4
     ·rw [if_pos (ha (by omega)), if_neg (by omega)]; exact h4
     ·rw [if_pos (ha (by omega)), if_pos (hb (by omega))]; exact h4
    clear h0 hzz ha hb hc
    go_wp2
    go_ret
    exact ⟨by rw [HE.out]; rfl, rfl⟩
  ·have hk1 : ¬ ((k : Int) < 3) := by omega
   have HE : Hid ((0 : Int) = or3 a b c) := by
    show _ = _
    unfold or3
    rw [if_pos (ha (by omega)), if_pos (hb (by omega)), hc (by omega)]
   clear ha hb hc
   go_wp2
   go_ret
   exact ⟨by rw [← HE.out]; rfl, rfl⟩
theorem JZ (o o' : ByteArray) (r s r' s' : Int) (w : World) :
  Calls Tryz.prog 124 #[.agg #[.string o, int i64 r, int i64 s], .agg #[.string o', int i64 r', int i64 s']] w fun e w' => e = .returned (int i64 (or3 (Lib.compareBytes o.data.toList o'.data.toList) (KI r r') (KI s s'))) ∧ Below w.heap.size w w' := by
 obtain ⟨W, hW⟩ : ∃ W, W = (w.alloc (.cells #[.string o, int i64 r, int i64 s] 147)).alloc (.cells #[.string o', int i64 r', int i64 s'] 147) := ⟨_, rfl⟩
 have hR1 : Row W w.heap.size #[.string o, int i64 r, int i64 s] 147 := by rw [hW]; exact (Jb w _ _ rfl).alloc _
 have hR2 : Row W (w.heap.size + 1) #[.string o', int i64 r', int i64 s'] 147 := by rw [hW]; exact Jb _ _ _ (by simp)
 have hB0 : Below w.heap.size w W := by rw [hW]; exact ((Below.refl _ _).alloc (Nat.le_refl _) _).alloc (by simp) _
 have HB := Ja hB0
 have HW : Hid ((w.alloc (.cells #[.string o, int i64 r, int i64 s] 147)).alloc (.cells #[.string o', int i64 r', int i64 s'] 147) = W) := hW.symm
 obtain ⟨a, ha⟩ : ∃ a, a = Lib.compareBytes o.data.toList o'.data.toList := ⟨_, rfl⟩
 obtain ⟨b, hb⟩ : ∃ b, b = KI r r' := ⟨_, rfl⟩
 obtain ⟨c, hc⟩ : ∃ c, c = KI s s' := ⟨_, rfl⟩
 have HS : Hid (∀ wx, Calls Tryz.prog 149 #[.string o, .string o'] wx fun e w' => e = .returned (int i64 a) ∧ w' = wx) := fun wx => by rw [ha]; exact Tryz.strings_Compare o o' wx
 have H1 : Hid (∀ wx, Calls Tryz.prog 175 #[int i64 r, int i64 r'] wx fun e w' => e = .returned (int i64 b) ∧ w' = wx) := fun wx => by rw [hb]; exact VM r r' wx
 have H2 : Hid (∀ wx, Calls Tryz.prog 175 #[int i64 s, int i64 s'] wx fun e w' => e = .returned (int i64 c) ∧ w' = wx) := fun wx => by rw [hc]; exact VM s s' wx
 rw [← ha, ← hb, ← hc]
 clear hW ha hb hc hB0
 obtain ⟨x0, x1, x2⟩ : W.cell? ⟨w.heap.size, 0, none⟩ = some (.string o) ∧ W.cell? ⟨w.heap.size, 1, none⟩ = some (int i64 r) ∧ W.cell? ⟨w.heap.size, 2, none⟩ = some (int i64 s) := ⟨hR1.cell 0 rfl, hR1.cell 1 rfl, hR1.cell 2 rfl⟩
 obtain ⟨y0, y1, y2⟩ : W.cell? ⟨w.heap.size + 1, 0, none⟩ = some (.string o') ∧ W.cell? ⟨w.heap.size + 1, 1, none⟩ = some (int i64 r') ∧ W.cell? ⟨w.heap.size + 1, 2, none⟩ = some (int i64 s') := ⟨hR2.cell 0 rfl, hR2.cell 1 rfl, hR2.cell 2 rfl⟩
 have hl1 := hR1.lt
 have hl2 := hR2.lt
 have HOR : Hid (∀ wx : World, Calls Tryz.prog 148 #[.slice (some ⟨wx.heap.size, 0, none⟩) 3 3] (wx.alloc (.cells #[int i64 a, int i64 b, int i64 c] 3)) fun e w' => e = .returned (int i64 (or3 a b c)) ∧ w' = wx.alloc (.cells #[int i64 a, int i64 b, int i64 c] 3)) := fun wx => YH a b c wx.heap.size _ ((Jb wx _ _ rfl).cell 0 rfl) ((Jb wx _ _ rfl).cell 1 rfl) ((Jb wx _ _ rfl).cell 2 rfl)
 have HOQ : Hid (Calls Tryz.prog 148 #[.slice (some ⟨W.heap.size, 0, none⟩) 3 3] (W.alloc (.cells #[int i64 a, int i64 b, int i64 c] 3)).drew fun e w' => e = .returned (int i64 (or3 a b c)) ∧ w' = (W.alloc (.cells #[int i64 a, int i64 b, int i64 c] 3)).drew) := YH a b c W.heap.size _ ((Jb W _ _ rfl).cell 0 rfl) ((Jb W _ _ rfl).cell 1 rfl) ((Jb W _ _ rfl).cell 2 rfl)
 clear hR1 hR2
 go_enter Tryz.func124, Tryz.ntmps124
 go_wp2
 rw [HW.out]
 go_region_held3 (fun w' => w'.cell? ⟨w.heap.size, 0, none⟩ = some (.string o) ∧ w'.cell? ⟨w.heap.size, 1, none⟩ = some (int i64 r) ∧ w'.cell? ⟨w.heap.size, 2, none⟩ = some (int i64 s) ∧ w'.cell? ⟨w.heap.size + 1, 0, none⟩ = some (.string o') ∧ w'.cell? ⟨w.heap.size + 1, 1, none⟩ = some (int i64 r') ∧ w'.cell? ⟨w.heap.size + 1, 2, none⟩ = some (int i64 s')) (go_keep) (first
  | (go_at_call 149; refine (HS.out _).mono ?_; rintro e w1 ⟨rfl, rfl⟩; clear HS)
  | (go_at_call 148; refine HOQ.out.mono ?_; rintro e w1 ⟨rfl, rfl⟩)
  | (go_at_call 148; refine (HOR.out W.drew).mono ?_; rintro e w1 ⟨rfl, rfl⟩)
  | (go_at_call 175; refine (H1.out _).mono ?_; clear H1; rintro e w1 ⟨rfl, rfl⟩)
  | (go_at_call 175; refine (H2.out _).mono ?_; clear H2; rintro e w1 ⟨rfl, rfl⟩))
 go_wp2
 go_ret
 first | exact ⟨rfl, (HB.out.drew).alloc (by show w.heap.size ≤ W.heap.size; omega) _⟩ | exact ⟨rfl, (HB.out.alloc (by omega) _).drew⟩
theorem VI {fn : Func} {q : Tmp} (h : fn.results = #[.cell q 147]) {tmps : Array Value} {w : World} {g : Nat} {cs : Array Value} (hc : cs.size = 3) (hp : tmps.getD q undef = .pointer (some ⟨g, 0, none⟩)) (hg : Row w g cs 147) :
  (results fn tmps).run Tryz.prog w = .ok (.agg cs) w := results_cell_row h tmps w g 147 _ (0, 0) _ hp hg Tryz.underlying147 rfl (by rw [hc]; kernel_rfl)
theorem Jh5 (v : Value) (w : World) : (Instr.typeAssert (.iface 38 v) 205 38 true).run Tryz.prog w = .ok (.tuple #[v, .bool true]) w := by kernel_rfl
theorem JiV (v : Value) (w : World) : (Instr.typeAssert (.iface 40 v) 205 40 true).run Tryz.prog w = .ok (.tuple #[v, .bool true]) w := by kernel_rfl
theorem JiF (v : Value) (w : World) : (Instr.typeAssert (.iface 35 v) 205 35 true).run Tryz.prog w = .ok (.tuple #[v, .bool true]) w := by kernel_rfl
theorem Jiu (v : Value) (w : World) : (Instr.typeAssert (.iface 40 v) 205 38 true).run Tryz.prog w = .ok (.tuple #[.agg #[.string ⟨#[]⟩, int i64 0, int i64 0], .bool false]) w := by kernel_rfl
theorem Jj5 (v : Value) (w : World) : (Instr.typeAssert (.iface 35 v) 205 38 true).run Tryz.prog w = .ok (.tuple #[.agg #[.string ⟨#[]⟩, int i64 0, int i64 0], .bool false]) w := by kernel_rfl
theorem JiN (v : Value) (w : World) : (Instr.typeAssert (.iface 35 v) 205 40 true).run Tryz.prog w = .ok (.tuple #[.agg #[.bool false, .string ⟨#[]⟩, .string ⟨#[]⟩, int i64 0, int i64 0, int i64 0], .bool false]) w := by kernel_rfl
theorem Z3 (x : Ta) (w : World) :
  Calls Tryz.prog 123 #[.iface 38 (.agg #[.string x.o, int i64 x.r, int i64 x.n])] w fun e w' => e = .returned (.agg #[.string x.o, int i64 x.r, int i64 0]) ∧ Below w.heap.size w w' := by
 have h1 := Jh5
 go_enter Tryz.func123, Tryz.ntmps123
 go_wp2
 exact bodyPost_ret (VI rfl rfl rfl ((Jb _ _ _ rfl).alloc _)) rfl ⟨rfl, ((Below.refl _ _).alloc (Nat.le_refl _) _).alloc (by simp) _⟩
theorem Z5 (x : Li) (w : World) :
  Calls Tryz.prog 123 #[.iface 40 (.agg #[.bool x.m, .string x.o, .string x.y, int i64 x.v, int i64 x.r, int i64 x.s])] w fun e w' => e = .returned (.agg #[.string ⟨#[]⟩, int i64 x.r, int i64 x.s]) ∧ Below w.heap.size w w' := by
 have h1 := Jiu
 have h2 := JiV
 go_enter Tryz.func123, Tryz.ntmps123
 go_wp2
 exact bodyPost_ret (VI rfl rfl rfl ((Jb _ _ _ rfl).alloc _)) rfl ⟨rfl, ((Below.refl _ _).alloc (Nat.le_refl _) _).alloc (by simp) _⟩
theorem ZA (x : Ce) (w : World) :
  Calls Tryz.prog 123 #[.iface 35 (.agg #[.string x.o, int i64 x.r, int i64 x.s, int i64 x.t, int i64 x.x, int i64 x.z, int i64 x.v, .bool x.g])] w fun e w' => e = .returned (.agg #[.string ⟨#[]⟩, int i64 x.r, int i64 x.s]) ∧ Below w.heap.size w w' := by
 have h1 := Jj5
 have h2 := JiN
 have h3 := JiF
 go_enter Tryz.func123, Tryz.ntmps123
 go_wp2
 exact bodyPost_ret (VI rfl rfl rfl ((Jb _ _ _ rfl).alloc _)) rfl ⟨rfl, ((Below.refl _ _).alloc (Nat.le_refl _) _).alloc (by simp) _⟩
def taR (a : Ta) : Prop := (0 ≤ a.r ∧ a.r ≤ 2) ∧ (0 ≤ a.n ∧ a.n ≤ 999999)
theorem UP (x : Ta) (u : Value) (w : World) :
  Calls Tryz.prog 330 #[.agg #[.string x.o, int i64 x.r, int i64 x.n], u] w fun e w' => Tells e (taR x) ∧ Below w.heap.size w w' := by
 have hB : Hid (Below w.heap.size w (w.alloc (.cells #[.string x.o, int i64 x.r, int i64 x.n] 38))) := (Below.refl _ _).alloc (Nat.le_refl _) _
 have HV : Hid (∀ wx, Calls Tryz.prog 328 #[int i64 x.n] wx fun e w' => e = .returned (.bool (decide (0 ≤ x.n ∧ x.n ≤ 999999))) ∧ w' = wx) := fun wx => Kv x.n wx
 by_cases h1 : 0 ≤ x.r
 case neg =>
  have HN : Hid (¬ taR x) := fun h => h1 h.1.1
  go_enter Tryz.func330, Tryz.ntmps330
  go_wp2
  go_ret
  exact ⟨Tells.no HN.out, hB.out⟩
 by_cases h2 : x.r < 3
 case neg =>
  have HN : Hid (¬ taR x) := fun h => h2 (by have := h.1.2; omega)
  go_enter Tryz.func330, Tryz.ntmps330
  go_wp2
  go_ret
  exact ⟨Tells.no HN.out, hB.out⟩
 by_cases h3 : 0 ≤ x.n ∧ x.n ≤ 999999
 ·have HN : Hid (taR x) := ⟨⟨h1, by omega⟩, h3⟩
  rw [decide_eq_true h3] at HV
  clear h3
  go_enter Tryz.func330, Tryz.ntmps330
  go_wp2_with (go_at_call 328; refine (HV.out _).mono ?_; rintro e w2 ⟨rfl, rfl⟩)
  go_ret
  exact ⟨Tells.yes HN.out, hB.out⟩
 ·have HN : Hid (¬ taR x) := fun h => h3 h.2
  rw [decide_eq_false h3] at HV
  clear h3
  go_enter Tryz.func330, Tryz.ntmps330
  go_wp2_with (go_at_call 328; refine (HV.out _).mono ?_; rintro e w2 ⟨rfl, rfl⟩)
  go_ret
  exact ⟨Tells.no HN.out, hB.out⟩
theorem GQ : ∀ a b : List UInt8, (Lib.compareBytes a b = -1 ∧ a < b) ∨ (Lib.compareBytes a b = 0 ∧ a = b) ∨ (Lib.compareBytes a b = 1 ∧ b < a)
 | [], [] => .inr (.inl ⟨rfl, rfl⟩)
 | [], _ :: _ => .inl ⟨rfl, List.nil_lt_cons _ _⟩
 | _ :: _, [] => .inr (.inr ⟨rfl, List.nil_lt_cons _ _⟩)
 | x :: a, y :: b => by
  unfold Lib.compareBytes
  by_cases h : x < y
  ·rw [if_pos h]; exact .inl ⟨rfl, List.cons_lt_cons_iff.2 (.inl h)⟩
  ·rw [if_neg h]
   by_cases h2 : y < x
   ·rw [if_pos h2]; exact .inr (.inr ⟨rfl, List.cons_lt_cons_iff.2 (.inl h2)⟩)
   ·rw [if_neg h2]
    have e : x = y := by
     apply UInt8.toNat_inj.1
     have h3 : ¬ x.toNat < y.toNat := h
     have h4 : ¬ y.toNat < x.toNat := h2
     omega
    subst e
    rcases GQ a b with ⟨h3, h4⟩ | ⟨h3, h4⟩ | ⟨h3, h4⟩
    ·exact .inl ⟨h3, List.cons_lt_cons_iff.2 (.inr ⟨rfl, h4⟩)⟩
    ·exact .inr (.inl ⟨h3, by rw [h4]⟩)
    ·exact .inr (.inr ⟨h3, List.cons_lt_cons_iff.2 (.inr ⟨rfl, h4⟩)⟩)
def rkT (o o' : ByteArray) (r r' : Int) : Int := or3 (Lib.compareBytes o.data.toList o'.data.toList) (KI r r') (KI 0 0)
def rkD (r s r' s' : Int) : Int := or3 (Lib.compareBytes [] []) (KI r r') (KI s s')
theorem Jc5 (a b : Ta) : (JQ a b ∧ rkT a.o b.o a.r b.r < 0) ∨ (¬ JQ a b ∧ 0 ≤ rkT a.o b.o a.r b.r) := by
 have h0 : rkT a.o b.o a.r b.r = if Lib.compareBytes a.o.data.toList b.o.data.toList = 0 then (if KI a.r b.r = 0 then 0 else KI a.r b.r) else Lib.compareBytes a.o.data.toList b.o.data.toList := rfl
 rw [h0]
 unfold JQ
 rcases GQ a.o.data.toList b.o.data.toList with ⟨h1, h2⟩ | ⟨h1, h2⟩ | ⟨h1, h2⟩
 ·left; rw [h1]; exact ⟨.inl h2, by simp⟩
 ·have e : a.o = b.o := ByteArray.ext (Array.ext' h2)
  rw [h1, e]
  unfold KI
  by_cases h3 : a.r < b.r
  ·left; simp [h3]
  ·right
   refine ⟨fun h => ?_, ?_⟩
   ·rcases h with h | h
    ·exact List.lt_irrefl _ h
    ·exact h3 h.2
   ·simp only [if_neg h3]
    by_cases h4 : b.r < a.r <;> simp [h4]
 ·right; rw [h1]
  refine ⟨fun h => ?_, by simp⟩
  rcases h with h | h
  ·exact List.lt_irrefl _ (List.lt_trans h h2)
  ·rw [h.1] at h2; exact List.lt_irrefl _ h2
theorem ZN (r s r' s' : Int) : (Jn r s r' s' ∧ rkD r s r' s' < 0) ∨ ((r = r' ∧ s = s') ∧ rkD r s r' s' = 0) ∨ (Jn r' s' r s ∧ 0 < rkD r s r' s') := by
 have h0 : rkD r s r' s' = if KI r r' = 0 then KI s s' else KI r r' := rfl
 rw [h0]
 unfold KI Jn
 by_cases h1 : r < r'
 ·left; simp [h1]
 ·by_cases h2 : r' < r
  ·right; right; simp [h1, h2]
  ·have e : r = r' := by omega
   subst e
   by_cases h3 : s < s'
   ·left; simp [h3]
   ·by_cases h4 : s' < s
    ·right; right; simp [h3, h4]
    ·right; left; simp [h3, h4]; omega
def liR (l : List Int) (a : Li) : Prop := Jd l a.r a.s = true ∧ NOk a.o ∧ NOk a.y ∧ (0 ≤ a.v ∧ a.v ≤ 999999) ∧ (a.m = false → a.v = 0)
def ceR (l : List Int) (a : Ce) : Prop := Jd l a.r a.s = true ∧ NOk a.o ∧ (0 ≤ a.v ∧ a.v ≤ 999999) ∧ (1 ≤ a.t ∧ a.t ≤ 10000)
def Jx {α : Type} (ok : α → Prop) (lt : α → α → Prop) (l : List α) : Prop := l.length ≤ 120 ∧ Asc ok lt l
theorem Vm (x : Ce) (l : List Int) (u : Value) (w : World) (ho : x.o.size ≤ 1048576) (hu : IntsAt w u l) :
  Calls Tryz.prog 326 #[.agg #[.string x.o, int i64 x.r, int i64 x.s, int i64 x.t, int i64 x.x, int i64 x.z, int i64 x.v, .bool x.g], u] w fun e w' => Tells e ((Jd l x.r x.s = true) ∧ (NOk x.o) ∧ (0 ≤ x.v ∧ x.v ≤ 999999) ∧ (1 ≤ x.t ∧ x.t ≤ 10000)) ∧ Below w.heap.size w w' := by
 obtain ⟨W, hW⟩ : ∃ W, W = w.alloc (.cells #[.string x.o, int i64 x.r, int i64 x.s, int i64 x.t, int i64 x.x, int i64 x.z, int i64 x.v, .bool x.g] 35) := ⟨_, rfl⟩
 have hR : Row W w.heap.size #[.string x.o, int i64 x.r, int i64 x.s, int i64 x.t, int i64 x.x, int i64 x.z, int i64 x.v, .bool x.g] 35 := by rw [hW]; exact Jb w _ _ rfl
 have hB : Below w.heap.size w W := by rw [hW]; exact (Below.refl _ _).alloc (Nat.le_refl _) _
 have hI : IntsAt W u l := hu.below hB
 have HR := Ja hR
 have HW : Hid (w.alloc (.cells #[.string x.o, int i64 x.r, int i64 x.s, int i64 x.t, int i64 x.x, int i64 x.z, int i64 x.v, .bool x.g] 35) = W) := hW.symm
 have HB := Ja hB
 have HK := Ja (Kq l u x.r x.s W hI)
 have HV : Hid (∀ wx, Calls Tryz.prog 328 #[int i64 x.v] wx fun e w' => e = .returned (.bool (decide (0 ≤ x.v ∧ x.v ≤ 999999))) ∧ w' = wx) := fun wx => Kv x.v wx
 have HNO : Hid (∀ wx, Calls Tryz.prog 327 #[.string x.o] wx fun e w' => e = .returned (.bool (decide (NOk x.o))) ∧ w' = wx) := fun wx => J2 x.o (by unfold maxLen; omega) wx
 have HT : Hid (∀ wx, Calls Tryz.prog 329 #[int i64 x.t] wx fun e w' => e = .returned (.bool (decide (1 ≤ x.t ∧ x.t ≤ 10000))) ∧ w' = wx) := fun wx => Jaw x.t wx
 obtain ⟨d0, d1, d2, d3, d4, d5, d6, d7⟩ := ZF HR.out
 rw [hW] at d0 d1 d2 d3 d4 d5 d6 d7
 clear hW hR hB hI hu
 by_cases q0 : Jd l x.r x.s = true
 case neg =>
  have HN : Hid (¬ ((Jd l x.r x.s = true) ∧ (NOk x.o) ∧ (0 ≤ x.v ∧ x.v ≤ 999999) ∧ (1 ≤ x.t ∧ x.t ≤ 10000))) := fun h => q0 h.1
  rw [show Jd l x.r x.s = false by simpa using q0] at HK
  clear q0
  go_enter Tryz.func326, Tryz.ntmps326
  go_wp2_with fail
  rw [HW.out]
  refine HK.out.mono ?_
  rintro e w1 ⟨rfl, hb⟩
  have HR1 := Ja (HR.out.next hb)
  have HB1 := Ja (HB.out.trans (hb.mono HB.out.size))
  clear hb d0 d1 d2 d3 d4 d5 d6 d7
  obtain ⟨d0, d1, d2, d3, d4, d5, d6, d7⟩ := ZF HR1.out
  first | rw [hkn] | skip
  go_wp2_with (first | (go_at_call 327; refine (HNO.out _).mono ?_; rintro e w2 ⟨rfl, rfl⟩) | (go_at_call 328; refine (HV.out _).mono ?_; rintro e w2 ⟨rfl, rfl⟩) | (go_at_call 329; refine (HT.out _).mono ?_; rintro e w2 ⟨rfl, rfl⟩))
  go_ret
  exact ⟨Tells.no HN.out, HB1.out⟩
 rw [q0] at HK
 by_cases q1 : NOk x.o
 case neg =>
  have HN : Hid (¬ ((Jd l x.r x.s = true) ∧ (NOk x.o) ∧ (0 ≤ x.v ∧ x.v ≤ 999999) ∧ (1 ≤ x.t ∧ x.t ≤ 10000))) := fun h => q1 h.2.1
  rw [decide_eq_false q1] at HNO
  clear q0 q1
  go_enter Tryz.func326, Tryz.ntmps326
  go_wp2_with fail
  rw [HW.out]
  refine HK.out.mono ?_
  rintro e w1 ⟨rfl, hb⟩
  have HR1 := Ja (HR.out.next hb)
  have HB1 := Ja (HB.out.trans (hb.mono HB.out.size))
  clear hb d0 d1 d2 d3 d4 d5 d6 d7
  obtain ⟨d0, d1, d2, d3, d4, d5, d6, d7⟩ := ZF HR1.out
  go_wp2_with (first | (go_at_call 327; refine (HNO.out _).mono ?_; rintro e w2 ⟨rfl, rfl⟩) | (go_at_call 328; refine (HV.out _).mono ?_; rintro e w2 ⟨rfl, rfl⟩) | (go_at_call 329; refine (HT.out _).mono ?_; rintro e w2 ⟨rfl, rfl⟩))
  go_ret
  exact ⟨Tells.no HN.out, HB1.out⟩
 rw [decide_eq_true q1] at HNO
 by_cases q2 : 0 ≤ x.v ∧ x.v ≤ 999999
 case neg =>
  have HN : Hid (¬ ((Jd l x.r x.s = true) ∧ (NOk x.o) ∧ (0 ≤ x.v ∧ x.v ≤ 999999) ∧ (1 ≤ x.t ∧ x.t ≤ 10000))) := fun h => q2 h.2.2.1
  rw [decide_eq_false q2] at HV
  clear q0 q1 q2
  go_enter Tryz.func326, Tryz.ntmps326
  go_wp2_with fail
  rw [HW.out]
  refine HK.out.mono ?_
  rintro e w1 ⟨rfl, hb⟩
  have HR1 := Ja (HR.out.next hb)
  have HB1 := Ja (HB.out.trans (hb.mono HB.out.size))
  clear hb d0 d1 d2 d3 d4 d5 d6 d7
  obtain ⟨d0, d1, d2, d3, d4, d5, d6, d7⟩ := ZF HR1.out
  go_wp2_with (first | (go_at_call 327; refine (HNO.out _).mono ?_; rintro e w2 ⟨rfl, rfl⟩) | (go_at_call 328; refine (HV.out _).mono ?_; rintro e w2 ⟨rfl, rfl⟩) | (go_at_call 329; refine (HT.out _).mono ?_; rintro e w2 ⟨rfl, rfl⟩))
  go_ret
  exact ⟨Tells.no HN.out, HB1.out⟩
 rw [decide_eq_true q2] at HV
 by_cases q3 : 1 ≤ x.t ∧ x.t ≤ 10000
 case neg =>
  have HN : Hid (¬ ((Jd l x.r x.s = true) ∧ (NOk x.o) ∧ (0 ≤ x.v ∧ x.v ≤ 999999) ∧ (1 ≤ x.t ∧ x.t ≤ 10000))) := fun h => q3 h.2.2.2
  rw [decide_eq_false q3] at HT
  clear q0 q1 q2 q3
  go_enter Tryz.func326, Tryz.ntmps326
  go_wp2_with fail
  rw [HW.out]
  refine HK.out.mono ?_
  rintro e w1 ⟨rfl, hb⟩
  have HR1 := Ja (HR.out.next hb)
  have HB1 := Ja (HB.out.trans (hb.mono HB.out.size))
  clear hb d0 d1 d2 d3 d4 d5 d6 d7
  obtain ⟨d0, d1, d2, d3, d4, d5, d6, d7⟩ := ZF HR1.out
  go_wp2_with (first | (go_at_call 327; refine (HNO.out _).mono ?_; rintro e w2 ⟨rfl, rfl⟩) | (go_at_call 328; refine (HV.out _).mono ?_; rintro e w2 ⟨rfl, rfl⟩) | (go_at_call 329; refine (HT.out _).mono ?_; rintro e w2 ⟨rfl, rfl⟩))
  go_ret
  exact ⟨Tells.no HN.out, HB1.out⟩
 rw [decide_eq_true q3] at HT
 have HN : Hid ((Jd l x.r x.s = true) ∧ (NOk x.o) ∧ (0 ≤ x.v ∧ x.v ≤ 999999) ∧ (1 ≤ x.t ∧ x.t ≤ 10000)) := ⟨q0, q1, q2, q3⟩
 clear q0 q1 q2 q3
 go_enter Tryz.func326, Tryz.ntmps326
 go_wp2_with fail
 rw [HW.out]
 refine HK.out.mono ?_
 rintro e w1 ⟨rfl, hb⟩
 have HR1 := Ja (HR.out.next hb)
 have HB1 := Ja (HB.out.trans (hb.mono HB.out.size))
 clear hb d0 d1 d2 d3 d4 d5 d6 d7
 obtain ⟨d0, d1, d2, d3, d4, d5, d6, d7⟩ := ZF HR1.out
 go_wp2_with (first | (go_at_call 327; refine (HNO.out _).mono ?_; rintro e w2 ⟨rfl, rfl⟩) | (go_at_call 328; refine (HV.out _).mono ?_; rintro e w2 ⟨rfl, rfl⟩) | (go_at_call 329; refine (HT.out _).mono ?_; rintro e w2 ⟨rfl, rfl⟩))
 go_ret
 exact ⟨Tells.yes HN.out, HB1.out⟩
theorem Vy (x : Li) (l : List Int) (u : Value) (w : World) (ho : x.o.size ≤ 1048576) (hy : x.y.size ≤ 1048576) (hu : IntsAt w u l) :
  Calls Tryz.prog 331 #[.agg #[.bool true, .string x.o, .string x.y, int i64 x.v, int i64 x.r, int i64 x.s], u] w fun e w' => Tells e ((Jd l x.r x.s = true) ∧ (NOk x.o) ∧ (NOk x.y) ∧ (0 ≤ x.v ∧ x.v ≤ 999999)) ∧ Below w.heap.size w w' := by
 obtain ⟨W, hW⟩ : ∃ W, W = w.alloc (.cells #[.bool true, .string x.o, .string x.y, int i64 x.v, int i64 x.r, int i64 x.s] 40) := ⟨_, rfl⟩
 have hR : Row W w.heap.size #[.bool true, .string x.o, .string x.y, int i64 x.v, int i64 x.r, int i64 x.s] 40 := by rw [hW]; exact Jb w _ _ rfl
 have hB : Below w.heap.size w W := by rw [hW]; exact (Below.refl _ _).alloc (Nat.le_refl _) _
 have hI : IntsAt W u l := hu.below hB
 have HR := Ja hR
 have HW : Hid (w.alloc (.cells #[.bool true, .string x.o, .string x.y, int i64 x.v, int i64 x.r, int i64 x.s] 40) = W) := hW.symm
 have HB := Ja hB
 have HK := Ja (Kq l u x.r x.s W hI)
 have HV : Hid (∀ wx, Calls Tryz.prog 328 #[int i64 x.v] wx fun e w' => e = .returned (.bool (decide (0 ≤ x.v ∧ x.v ≤ 999999))) ∧ w' = wx) := fun wx => Kv x.v wx
 have HNO : Hid (∀ wx, Calls Tryz.prog 327 #[.string x.o] wx fun e w' => e = .returned (.bool (decide (NOk x.o))) ∧ w' = wx) := fun wx => J2 x.o (by unfold maxLen; omega) wx
 have HNY : Hid (∀ wx, Calls Tryz.prog 327 #[.string x.y] wx fun e w' => e = .returned (.bool (decide (NOk x.y))) ∧ w' = wx) := fun wx => J2 x.y (by unfold maxLen; omega) wx
 obtain ⟨d0, d1, d2, d3, d4, d5⟩ := ZT HR.out
 rw [hW] at d0 d1 d2 d3 d4 d5
 clear hW hR hB hI hu
 by_cases q0 : Jd l x.r x.s = true
 case neg =>
  have HN : Hid (¬ ((Jd l x.r x.s = true) ∧ (NOk x.o) ∧ (NOk x.y) ∧ (0 ≤ x.v ∧ x.v ≤ 999999))) := fun h => q0 h.1
  rw [show Jd l x.r x.s = false by simpa using q0] at HK
  clear q0
  go_enter Tryz.func331, Tryz.ntmps331
  go_wp2_with fail
  rw [HW.out]
  refine HK.out.mono ?_
  rintro e w1 ⟨rfl, hb⟩
  have HR1 := Ja (HR.out.next hb)
  have HB1 := Ja (HB.out.trans (hb.mono HB.out.size))
  clear hb d0 d1 d2 d3 d4 d5
  obtain ⟨d0, d1, d2, d3, d4, d5⟩ := ZT HR1.out
  first | rw [hkn] | skip
  go_wp2_with (first | (go_at_call 327; refine (HNO.out _).mono ?_; rintro e w2 ⟨rfl, rfl⟩; clear HNO) | (go_at_call 327; refine (HNY.out _).mono ?_; rintro e w2 ⟨rfl, rfl⟩) | (go_at_call 328; refine (HV.out _).mono ?_; rintro e w2 ⟨rfl, rfl⟩))
  go_ret
  exact ⟨Tells.no HN.out, HB1.out⟩
 rw [q0] at HK
 by_cases q1 : NOk x.o
 case neg =>
  have HN : Hid (¬ ((Jd l x.r x.s = true) ∧ (NOk x.o) ∧ (NOk x.y) ∧ (0 ≤ x.v ∧ x.v ≤ 999999))) := fun h => q1 h.2.1
  rw [decide_eq_false q1] at HNO
  clear q0 q1
  go_enter Tryz.func331, Tryz.ntmps331
  go_wp2_with fail
  rw [HW.out]
  refine HK.out.mono ?_
  rintro e w1 ⟨rfl, hb⟩
  have HR1 := Ja (HR.out.next hb)
  have HB1 := Ja (HB.out.trans (hb.mono HB.out.size))
  clear hb d0 d1 d2 d3 d4 d5
  obtain ⟨d0, d1, d2, d3, d4, d5⟩ := ZT HR1.out
  go_wp2_with (first | (go_at_call 327; refine (HNO.out _).mono ?_; rintro e w2 ⟨rfl, rfl⟩; clear HNO) | (go_at_call 327; refine (HNY.out _).mono ?_; rintro e w2 ⟨rfl, rfl⟩) | (go_at_call 328; refine (HV.out _).mono ?_; rintro e w2 ⟨rfl, rfl⟩))
  go_ret
  exact ⟨Tells.no HN.out, HB1.out⟩
 rw [decide_eq_true q1] at HNO
 by_cases q2 : NOk x.y
 case neg =>
  have HN : Hid (¬ ((Jd l x.r x.s = true) ∧ (NOk x.o) ∧ (NOk x.y) ∧ (0 ≤ x.v ∧ x.v ≤ 999999))) := fun h => q2 h.2.2.1
  rw [decide_eq_false q2] at HNY
  clear q0 q1 q2
  go_enter Tryz.func331, Tryz.ntmps331
  go_wp2_with fail
  rw [HW.out]
  refine HK.out.mono ?_
  rintro e w1 ⟨rfl, hb⟩
  have HR1 := Ja (HR.out.next hb)
  have HB1 := Ja (HB.out.trans (hb.mono HB.out.size))
  clear hb d0 d1 d2 d3 d4 d5
  obtain ⟨d0, d1, d2, d3, d4, d5⟩ := ZT HR1.out
  go_wp2_with (first | (go_at_call 327; refine (HNO.out _).mono ?_; rintro e w2 ⟨rfl, rfl⟩; clear HNO) | (go_at_call 327; refine (HNY.out _).mono ?_; rintro e w2 ⟨rfl, rfl⟩) | (go_at_call 328; refine (HV.out _).mono ?_; rintro e w2 ⟨rfl, rfl⟩))
  go_ret
  exact ⟨Tells.no HN.out, HB1.out⟩
 rw [decide_eq_true q2] at HNY
 by_cases q3 : 0 ≤ x.v ∧ x.v ≤ 999999
 case neg =>
  have HN : Hid (¬ ((Jd l x.r x.s = true) ∧ (NOk x.o) ∧ (NOk x.y) ∧ (0 ≤ x.v ∧ x.v ≤ 999999))) := fun h => q3 h.2.2.2
  rw [decide_eq_false q3] at HV
  clear q0 q1 q2 q3
  go_enter Tryz.func331, Tryz.ntmps331
  go_wp2_with fail
  rw [HW.out]
  refine HK.out.mono ?_
  rintro e w1 ⟨rfl, hb⟩
  have HR1 := Ja (HR.out.next hb)
  have HB1 := Ja (HB.out.trans (hb.mono HB.out.size))
  clear hb d0 d1 d2 d3 d4 d5
  obtain ⟨d0, d1, d2, d3, d4, d5⟩ := ZT HR1.out
  go_wp2_with (first | (go_at_call 327; refine (HNO.out _).mono ?_; rintro e w2 ⟨rfl, rfl⟩; clear HNO) | (go_at_call 327; refine (HNY.out _).mono ?_; rintro e w2 ⟨rfl, rfl⟩) | (go_at_call 328; refine (HV.out _).mono ?_; rintro e w2 ⟨rfl, rfl⟩))
  go_ret
  exact ⟨Tells.no HN.out, HB1.out⟩
 rw [decide_eq_true q3] at HV
 have HN : Hid ((Jd l x.r x.s = true) ∧ (NOk x.o) ∧ (NOk x.y) ∧ (0 ≤ x.v ∧ x.v ≤ 999999)) := ⟨q0, q1, q2, q3⟩
 clear q0 q1 q2 q3
 go_enter Tryz.func331, Tryz.ntmps331
 go_wp2_with fail
 rw [HW.out]
 refine HK.out.mono ?_
 rintro e w1 ⟨rfl, hb⟩
 have HR1 := Ja (HR.out.next hb)
 have HB1 := Ja (HB.out.trans (hb.mono HB.out.size))
 clear hb d0 d1 d2 d3 d4 d5
 obtain ⟨d0, d1, d2, d3, d4, d5⟩ := ZT HR1.out
 go_wp2_with (first | (go_at_call 327; refine (HNO.out _).mono ?_; rintro e w2 ⟨rfl, rfl⟩; clear HNO) | (go_at_call 327; refine (HNY.out _).mono ?_; rintro e w2 ⟨rfl, rfl⟩) | (go_at_call 328; refine (HV.out _).mono ?_; rintro e w2 ⟨rfl, rfl⟩))
 go_ret
 exact ⟨Tells.yes HN.out, HB1.out⟩
end Go.Proofs.YtdknoflkingodaaGreat
