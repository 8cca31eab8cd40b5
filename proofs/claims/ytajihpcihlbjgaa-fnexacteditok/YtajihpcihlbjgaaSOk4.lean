/- A right state, as the specification asks. -/
import Derived.Test.YtajihpcihlbjgaaSOk2
import Derived.Test.YtajihpcihlbjgaaSOk3
import Derived.Test.YtajihpcihlbjgaaTFun4
import Derived.Deep.RegionHeld3
namespace Go.Proofs.Ytajihpcihlbjgaa
set_option maxRecDepth 100000
set_option linter.unusedVariables false
open Go.RowKit

/-- What a cell stands behind is there. -/
def RefIn (C : List Ce) (a : Ce) : Prop := (a.x = 0 ∧ a.z = 0) ∨ ∃ k, ∃ h : k < C.length, cellAt C a.x a.z 0 = (k : Int) ∧ C[k].o = a.o ∧ C[k].t < a.t
def SOk (S : Sta) : Prop := KOk S.l ∧ TalOk S.T ∧ LivOk S.L ∧ CelOk S.C ∧ (∀ i (h : i < S.L.length), knows S.l S.L[i].r S.L[i].s = true) ∧ (∀ i (h : i < S.C.length), knows S.l S.C[i].r S.C[i].s = true ∧ RefIn S.C S.C[i])
def Small (S : Sta) : Prop := S.l.length ≤ 1048576 ∧ S.T.length ≤ 1048576 ∧ S.L.length ≤ 1048576 ∧ S.C.length ≤ 1048576
def Named (S : Sta) : Prop := (∀ a ∈ S.T, a.o.size ≤ 1048576) ∧ (∀ a ∈ S.L, a.o.size ≤ 1048576 ∧ a.y.size ≤ 1048576) ∧ (∀ a ∈ S.C, a.o.size ≤ 1048576)
theorem cellAt_range : ∀ (l : List Ce) (r s k : Int), 0 ≤ k → cellAt l r s k = -1 ∨ (k ≤ cellAt l r s k ∧ cellAt l r s k < k + l.length)
  | [], r, s, k, _ => .inl rfl
  | c :: l, r, s, k, hk => by
    unfold cellAt
    by_cases h : c.r = r ∧ c.s = s
    · rw [if_pos h]; right; simp only [List.length_cons]; omega
    · rw [if_neg h]
      rcases cellAt_range l r s (k + 1) (by omega) with e | e
      · exact .inl e
      · right; simp only [List.length_cons]; omega

abbrev rvo0 : Oper := { dst := some 72, op := Op.move (Operand.tmp 6), type := 3, pos := "l06_state.go:71", after := #[], guard := none }
abbrev rvo1 : Oper := { dst := some 73, op := Op.binOp BinOp.lss 3 (Operand.tmp 72) (Operand.const (Value.int IntKind.i64 0)) 3, type := 4, pos := "l06_state.go:71", after := #[{ on := 0, ground := Ground.data }], guard := none }
abbrev rvo2 : Oper := { dst := some 74, op := Op.move (Operand.tmp 73), type := 4, pos := "l06_state.go:71", after := #[{ on := 1, ground := Ground.data }], guard := none }
abbrev rvo3 : Oper := { dst := some 75, op := Op.fieldAddr 36 (Operand.tmp 1) 3, type := 0, pos := "l06_state.go:71", after := #[{ on := 2, ground := Ground.guard }], guard := some (2, false) }
abbrev rvo4 : Oper := { dst := some 76, op := Op.load 34 (Operand.tmp 75), type := 34, pos := "l06_state.go:71", after := #[{ on := 3, ground := Ground.data }, { on := 2, ground := Ground.guard }], guard := some (2, false) }
abbrev rvo5 : Oper := { dst := some 77, op := Op.move (Operand.tmp 6), type := 3, pos := "l06_state.go:71", after := #[{ on := 2, ground := Ground.guard }], guard := some (2, false) }
abbrev rvo6 : Oper := { dst := some 78, op := Op.indexAddr 34 (Operand.tmp 76) (Operand.tmp 77), type := 0, pos := "l06_state.go:71", after := #[{ on := 4, ground := Ground.data }, { on := 5, ground := Ground.data }, { on := 2, ground := Ground.guard }], guard := some (2, false) }
abbrev rvo7 : Oper := { dst := some 79, op := Op.fieldAddr 42 (Operand.tmp 78) 0, type := 0, pos := "l06_state.go:71", after := #[{ on := 6, ground := Ground.data }, { on := 2, ground := Ground.guard }], guard := some (2, false) }
abbrev rvo8 : Oper := { dst := some 80, op := Op.load 9 (Operand.tmp 79), type := 9, pos := "l06_state.go:71", after := #[{ on := 7, ground := Ground.data }, { on := 2, ground := Ground.guard }], guard := some (2, false) }
abbrev rvo9 : Oper := { dst := some 81, op := Op.fieldAddr 42 (Operand.tmp 5) 0, type := 0, pos := "l06_state.go:71", after := #[{ on := 2, ground := Ground.guard }], guard := some (2, false) }
abbrev rvo10 : Oper := { dst := some 82, op := Op.load 9 (Operand.tmp 81), type := 9, pos := "l06_state.go:71", after := #[{ on := 9, ground := Ground.data }, { on := 2, ground := Ground.guard }], guard := some (2, false) }
abbrev rvo11 : Oper := { dst := some 83, op := Op.binOp BinOp.neq 9 (Operand.tmp 80) (Operand.tmp 82) 9, type := 4, pos := "l06_state.go:71", after := #[{ on := 8, ground := Ground.data }, { on := 10, ground := Ground.data }, { on := 2, ground := Ground.guard }], guard := some (2, false) }
abbrev rvo12 : Oper := { dst := some 84, op := Op.pick (Operand.tmp 74) (Operand.const (Value.bool true)) (Operand.tmp 83), type := 4, pos := "l06_state.go:71", after := #[{ on := 2, ground := Ground.data }, { on := 11, ground := Ground.data }], guard := none }
abbrev rvo13 : Oper := { dst := some 85, op := Op.move (Operand.tmp 84), type := 4, pos := "l06_state.go:71", after := #[{ on := 12, ground := Ground.data }, { on := 2, ground := Ground.chain }], guard := none }
abbrev rvo14 : Oper := { dst := some 86, op := Op.fieldAddr 36 (Operand.tmp 1) 3, type := 0, pos := "l06_state.go:71", after := #[{ on := 13, ground := Ground.guard }], guard := some (13, false) }
abbrev rvo15 : Oper := { dst := some 87, op := Op.load 34 (Operand.tmp 86), type := 34, pos := "l06_state.go:71", after := #[{ on := 14, ground := Ground.data }, { on := 13, ground := Ground.guard }], guard := some (13, false) }
abbrev rvo16 : Oper := { dst := some 88, op := Op.move (Operand.tmp 6), type := 3, pos := "l06_state.go:71", after := #[{ on := 13, ground := Ground.guard }], guard := some (13, false) }
abbrev rvo17 : Oper := { dst := some 89, op := Op.indexAddr 34 (Operand.tmp 87) (Operand.tmp 88), type := 0, pos := "l06_state.go:71", after := #[{ on := 15, ground := Ground.data }, { on := 16, ground := Ground.data }, { on := 13, ground := Ground.guard }], guard := some (13, false) }
abbrev rvo18 : Oper := { dst := some 90, op := Op.fieldAddr 42 (Operand.tmp 89) 2, type := 0, pos := "l06_state.go:71", after := #[{ on := 17, ground := Ground.data }, { on := 13, ground := Ground.guard }], guard := some (13, false) }
abbrev rvo19 : Oper := { dst := some 91, op := Op.load 3 (Operand.tmp 90), type := 3, pos := "l06_state.go:71", after := #[{ on := 18, ground := Ground.data }, { on := 13, ground := Ground.guard }], guard := some (13, false) }
abbrev rvo20 : Oper := { dst := some 92, op := Op.fieldAddr 42 (Operand.tmp 5) 2, type := 0, pos := "l06_state.go:71", after := #[{ on := 13, ground := Ground.guard }], guard := some (13, false) }
abbrev rvo21 : Oper := { dst := some 93, op := Op.load 3 (Operand.tmp 92), type := 3, pos := "l06_state.go:71", after := #[{ on := 20, ground := Ground.data }, { on := 13, ground := Ground.guard }], guard := some (13, false) }
abbrev rvo22 : Oper := { dst := some 94, op := Op.binOp BinOp.geq 3 (Operand.tmp 91) (Operand.tmp 93) 3, type := 4, pos := "l06_state.go:71", after := #[{ on := 19, ground := Ground.data }, { on := 21, ground := Ground.data }, { on := 13, ground := Ground.guard }], guard := some (13, false) }
abbrev rvo23 : Oper := { dst := some 95, op := Op.pick (Operand.tmp 85) (Operand.const (Value.bool true)) (Operand.tmp 94), type := 4, pos := "l06_state.go:71", after := #[{ on := 13, ground := Ground.data }, { on := 22, ground := Ground.data }], guard := none }

set_option maxHeartbeats 16000000 in
theorem specStateOk_calls (S : Sta) (u0 u1 u2 u3 : Value) (w : World) (hn : Small S) (hst : Named S) (h : StAt w S u0 u1 u2 u3) :
    Calls Try.prog 22 #[.agg #[u0, u1, u2, u3]] w fun e w' => Tells e (SOk S) ∧ Below w.heap.size w w' := by
  obtain ⟨a0, c0, a1, c1, a2, c2, a3, c3, rfl, rfl, rfl, rfl⟩ := h.shape
  obtain ⟨W, hW⟩ : ∃ W, W = w.alloc (.cells #[.slice a0 S.l.length c0, .slice a1 S.T.length c1, .slice a2 S.L.length c2, .slice a3 S.C.length c3] 36) := ⟨_, rfl⟩
  have HB : Hid (Below w.heap.size w W) := by rw [hW]; exact (Below.refl _ _).alloc (Nat.le_refl _) _
  have hS : StAt W S (.slice a0 S.l.length c0) (.slice a1 S.T.length c1) (.slice a2 S.L.length c2) (.slice a3 S.C.length c3) := by rw [hW]; exact h.alloc _
  have hR : Row W w.heap.size #[.slice a0 S.l.length c0, .slice a1 S.T.length c1, .slice a2 S.L.length c2, .slice a3 S.C.length c3] 36 := by rw [hW]; exact row_new w _ _ rfl
  have HS : Hid (∀ wx, Below W.heap.size W wx → StAt wx S (.slice a0 S.l.length c0) (.slice a1 S.T.length c1) (.slice a2 S.L.length c2) (.slice a3 S.C.length c3)) := fun wx h => hS.below h
  have HR : Hid (∀ wx, Below W.heap.size W wx → wx.cell? ⟨w.heap.size, 0, none⟩ = some (.slice a0 S.l.length c0) ∧ wx.cell? ⟨w.heap.size, 1, none⟩ = some (.slice a1 S.T.length c1) ∧ wx.cell? ⟨w.heap.size, 2, none⟩ = some (.slice a2 S.L.length c2) ∧ wx.cell? ⟨w.heap.size, 3, none⟩ = some (.slice a3 S.C.length c3)) := fun wx h => Row.four (hR.next h)
  have HK : Hid (∀ wx, Below W.heap.size W wx → Calls Try.prog 55 #[.slice a0 S.l.length c0] wx fun e w' => e = .returned (.bool (decide (KOk S.l))) ∧ w' = wx) := fun wx h => specKnowOk_calls S.l _ wx hn.1 (HS.out wx h).1
  have HT : Hid (∀ wx, Below W.heap.size W wx → Calls Try.prog 56 #[.slice a1 S.T.length c1] wx fun e w' => Tells e (TalOk S.T) ∧ Below wx.heap.size wx w') := fun wx h => specTallies_calls S.T _ wx hn.2.1 hst.1 (HS.out wx h).2.1
  have HL : Hid (∀ wx, Below W.heap.size W wx → Calls Try.prog 57 #[.slice a2 S.L.length c2] wx fun e w' => Tells e (LivOk S.L) ∧ Below wx.heap.size wx w') := fun wx h => specLives_calls S.L _ wx hn.2.2.1 hst.2.1 (HS.out wx h).2.2.1
  have HC : Hid (∀ wx, Below W.heap.size W wx → Calls Try.prog 58 #[.slice a3 S.C.length c3] wx fun e w' => Tells e (CelOk S.C) ∧ Below wx.heap.size wx w') := fun wx h => specCells_calls S.C _ wx hn.2.2.2 hst.2.2 (HS.out wx h).2.2.2
  have HKN : Hid (∀ wx r s, Below W.heap.size W wx → Calls Try.prog 59 #[.slice a0 S.l.length c0, .agg #[.int .i64 r, .int .i64 s]] wx fun e w' => e = .returned (.bool (knows S.l r s)) ∧ Below wx.heap.size wx w') := fun wx r s h => specKnows_calls S.l _ r s wx hn.1 (HS.out wx h).1
  have HCA : Hid (∀ wx r s, Below W.heap.size W wx → Calls Try.prog 25 #[.agg #[.slice a0 S.l.length c0, .slice a1 S.T.length c1, .slice a2 S.L.length c2, .slice a3 S.C.length c3], .agg #[.int .i64 r, .int .i64 s]] wx fun e w' => e = .returned (.int .i64 (cellAt S.C r s 0)) ∧ Below wx.heap.size wx w') := fun wx r s h => specCellAt_calls S _ _ _ _ r s wx hn.2.2.2 (HS.out wx h)
  have HF : Hid (∀ wx, Below W.heap.size W wx → Below w.heap.size w wx) := fun wx h => HB.out.trans (h.mono HB.out.size)
  have HLG : Hid (∀ wx, Below W.heap.size W wx → LiG wx a2 S.L) := fun wx h => by
    obtain ⟨x, y, hq, hg⟩ := (HS.out wx h).2.2.1
    simp only [Value.slice.injEq] at hq
    rw [hq.1]; exact hg
  have HCG : Hid (∀ wx, Below W.heap.size W wx → CeG wx a3 S.C) := fun wx h => by
    obtain ⟨x, y, hq, hg⟩ := (HS.out wx h).2.2.2
    simp only [Value.slice.injEq] at hq
    rw [hq.1]; exact hg
  have hW0 : Below W.heap.size W W := Below.refl _ _
  have HW : Hid (w.alloc (.cells #[.slice a0 S.l.length c0, .slice a1 S.T.length c1, .slice a2 S.L.length c2, .slice a3 S.C.length c3] 36) = W) := hW.symm
  obtain ⟨d0, d1, d2, d3⟩ := HR.out W hW0
  rw [hW] at d0 d1 d2 d3
  obtain ⟨nl, hnl⟩ : ∃ n, n = S.L.length := ⟨_, rfl⟩
  obtain ⟨nc, hnc⟩ : ∃ n, n = S.C.length := ⟨_, rfl⟩
  have HNL := hidI hnl
  have HNC := hidI hnc
  have hnl2 : nl ≤ 1048576 := by rw [hnl]; exact hn.2.2.1
  have hnc2 : nc ≤ 1048576 := by rw [hnc]; exact hn.2.2.2
  clear hW h hS hR hst hnl hnc hn
  go_enter Try.func22, Try.ntmps22
  go_wp2_with fail
  rw [HW.out]
  refine (HK.out _ hW0).mono ?_
  rintro e w1 ⟨rfl, hw⟩
  replace hw := hw.symm
  subst hw
  clear d0 d1 d2 d3
  by_cases k1 : KOk S.l
  case neg =>
    rw [decide_eq_false k1]
    have HE : Hid (¬ SOk S) := fun h => k1 h.1
    have HB1 := hidI (HF.out _ hW0)
    clear k1
    go_wp2
    go_ret
    exact ⟨Tells.no HE.out, HB1.out⟩
  rw [decide_eq_true k1]
  have K1 := hidI k1
  clear k1 HK HW

  obtain ⟨d0, d1, d2, d3⟩ := HR.out _ hW0
  go_wp2_with fail
  refine (HT.out _ hW0).mono ?_
  rintro e x0 ⟨⟨q, rfl, hq⟩, hb⟩
  have hX0 : Below W.heap.size W x0 := hW0.trans (hb.mono hW0.size)
  clear hb d0 d1 d2 d3 HT
  cases q with
  | false =>
    have HE : Hid (¬ SOk S) := fun h => by have := hq.2 h.2.1; cases this
    have HB1 := hidI (HF.out _ hX0)
    clear hq
    go_wp2
    go_ret
    exact ⟨Tells.no HE.out, HB1.out⟩
  | true =>
  have K2 : Hid (TalOk S.T) := hq.1 rfl
  clear hq
  obtain ⟨d0, d1, d2, d3⟩ := HR.out _ hX0
  go_wp2_with fail
  refine (HL.out _ hX0).mono ?_
  rintro e x1 ⟨⟨q, rfl, hq⟩, hb⟩
  have hX1 : Below W.heap.size W x1 := hX0.trans (hb.mono hX0.size)
  clear hb d0 d1 d2 d3 HL
  cases q with
  | false =>
    have HE : Hid (¬ SOk S) := fun h => by have := hq.2 h.2.2.1; cases this
    have HB1 := hidI (HF.out _ hX1)
    clear hq
    go_wp2
    go_ret
    exact ⟨Tells.no HE.out, HB1.out⟩
  | true =>
  have K3 : Hid (LivOk S.L) := hq.1 rfl
  clear hq
  obtain ⟨d0, d1, d2, d3⟩ := HR.out _ hX1
  go_wp2_with fail
  refine (HC.out _ hX1).mono ?_
  rintro e x2 ⟨⟨q, rfl, hq⟩, hb⟩
  have hX2 : Below W.heap.size W x2 := hX1.trans (hb.mono hX1.size)
  clear hb d0 d1 d2 d3 HC
  cases q with
  | false =>
    have HE : Hid (¬ SOk S) := fun h => by have := hq.2 h.2.2.2.1; cases this
    have HB1 := hidI (HF.out _ hX2)
    clear hq
    go_wp2
    go_ret
    exact ⟨Tells.no HE.out, HB1.out⟩
  | true =>
  have K4 : Hid (CelOk S.C) := hq.1 rfl
  clear hq
  go_wp2
  go_loopw [3] (fun z wr => ∃ k : Nat, k ≤ nl ∧ z = .int .i64 k ∧ (∀ i (h : i < S.L.length), i < k → knows S.l S.L[i].r S.L[i].s = true) ∧ Below W.heap.size W wr) (fun z _ => nl - (intOf z).toNat)
  case atStart => exact ⟨0, Nat.zero_le _, rfl, fun i _ h => by omega, hX2⟩
  case round =>
    obtain ⟨k, hk, rfl, hall, hbel⟩ := hrel
    have HALL := hidI hall
    have HBE := hidI hbel
    obtain ⟨d0, d1, d2, d3⟩ := HR.out _ hbel
    rw [← HNL.out] at d2
    clear hall hX2
    by_cases hlt : k < nl
    · have hkl : k < S.L.length := by rw [← HNL.out]; exact hlt
      obtain ⟨g, f, rfl, hg, hcc⟩ := HLG.out W (Below.refl _ _) (by omega)
      have hk1 : (k : Int) < nl := by omega
      have hk0 : (0 : Int) ≤ k := by omega
      have HMO : Hid (knows S.l S.L[k].r S.L[k].s = true → ∀ i (h : i < S.L.length), i < k + 1 → knows S.l S.L[i].r S.L[i].s = true) := fun hx i hi hik => by
        by_cases e : i = k
        · subst e; exact hx
        · exact HALL.out i hi (by omega)
      have HNO : Hid (knows S.l S.L[k].r S.L[k].s = false → ¬ SOk S) := fun hx h => by have := h.2.2.2.2.1 k hkl; rw [hx] at this; cases this
      have HXC : Hid (∀ wx, Below W.heap.size W wx → wx.cell? ⟨g, f + k * 6 + 4, none⟩ = some (.int .i64 S.L[k].r) ∧ wx.cell? ⟨g, f + k * 6 + 5, none⟩ = some (.int .i64 S.L[k].s)) := fun wx h => by
        have := (hcc k hkl).below h hg
        exact ⟨this.2.2.2.2.1, this.2.2.2.2.2⟩
      have HKX := hidI (fun wx h => HKN.out wx S.L[k].r S.L[k].s h)
      generalize S.L[k].r = xr at *
      generalize S.L[k].s = xs at *
      generalize knows S.l xr xs = kb at *
      obtain ⟨e0, e1⟩ := HXC.out _ hbel
      have hVd : Below W.heap.size W wr.drew := hbel.drew
      have HAL : Hid (∀ wx, Below W.heap.size W wx → wx.cell? ⟨w.heap.size, 0, none⟩ = some (.slice a0 S.l.length c0) ∧ wx.cell? ⟨w.heap.size, 2, none⟩ = some (.slice (some ⟨g, f, none⟩) nl c2) ∧ wx.cell? ⟨g, f + k * 6 + 4, none⟩ = some (.int .i64 xr) ∧ wx.cell? ⟨g, f + k * 6 + 5, none⟩ = some (.int .i64 xs)) := fun wx h => by
        obtain ⟨z0, z1, z2, z3⟩ := HR.out wx h
        obtain ⟨y0, y1⟩ := HXC.out wx h
        rw [← HNL.out] at z2
        exact ⟨z0, z2, y0, y1⟩
      have SS := HAL.out _ hVd
      clear hcc hkl
      go_wp2
      go_region_held3 (fun w' => w'.cell? ⟨w.heap.size, 0, none⟩ = some (.slice a0 S.l.length c0) ∧ w'.cell? ⟨w.heap.size, 2, none⟩ = some (.slice (some ⟨g, f, none⟩) nl c2) ∧ w'.cell? ⟨g, f + k * 6 + 4, none⟩ = some (.int .i64 xr) ∧ w'.cell? ⟨g, f + k * 6 + 5, none⟩ = some (.int .i64 xs)) (first | exact SS | exact SS2 | go_keep) (first
        | (go_at_call 59; refine (HKX.out _ hVd).mono ?_; rintro e w2 ⟨rfl, hb2⟩; have hV2 : Below W.heap.size W w2 := hVd.trans (hb2.mono hVd.size); have SS2 := HAL.out _ hV2))
      have HV2 := hidI hV2
      clear SS SS2 hVd hb2 hV2 e0 e1 d0 d1 d2 d3 hbel HKX HAL HXC
      cases kb with
      | true =>
        have HE := hidI (HMO.out rfl)
        go_wp2
        go_roundw
        case rel => exact ⟨k + 1, by omega, by go_num, HE.out, HV2.out⟩
        case measure => simp [intOf]; omega
      | false =>
        have HE := hidI (HNO.out rfl)
        have HB1 := hidI (HF.out _ HV2.out)
        go_wp2
        go_ret
        exact ⟨Tells.no HE.out, HB1.out⟩
    have hk1 : ¬ ((k : Int) < nl) := by omega
    have K5 : Hid (∀ i (h : i < S.L.length), knows S.l S.L[i].r S.L[i].s = true) := fun i hi => HALL.out i hi (by have := HNL.out; omega)
    clear HALL
    go_wp2
    rename World => Z
    go_loopw [4] (fun z wr => ∃ k : Nat, k ≤ nc ∧ z = .int .i64 k ∧ (∀ i (h : i < S.C.length), i < k → knows S.l S.C[i].r S.C[i].s = true ∧ RefIn S.C S.C[i]) ∧ Below W.heap.size W wr) (fun z _ => nc - (intOf z).toNat)
    case atStart => exact ⟨0, Nat.zero_le _, rfl, fun i _ h => by omega, HBE.out⟩
    case round =>
      clear HBE
      obtain ⟨k, hk, rfl, hall, hbel⟩ := hrel
      have HALL := hidI hall
      have HBE := hidI hbel
      have hsz := hbel.size
      obtain ⟨d0, d1, d2, d3⟩ := HR.out _ hbel
      rw [← HNC.out] at d3
      clear hall
      by_cases hlt : k < nc
      · have hkl : k < S.C.length := by rw [← HNC.out]; exact hlt
        obtain ⟨g, f, rfl, hg, hcc⟩ := HCG.out W (Below.refl _ _) (by omega)
        have hk1 : (k : Int) < nc := by omega
        have hk0 : (0 : Int) ≤ k := by omega
        have q := (hcc k hkl).below hbel hg
        have HCC : Hid (∀ j (h : j < S.C.length) wx, Below W.heap.size W wx → ceC wx g (f + j * 8) S.C[j]) := fun j h wx hb => (hcc j h).below hb hg
        have HMO : Hid (knows S.l S.C[k].r S.C[k].s = true → RefIn S.C S.C[k] → ∀ i (h : i < S.C.length), i < k + 1 → knows S.l S.C[i].r S.C[i].s = true ∧ RefIn S.C S.C[i]) := fun hx hy i hi hik => by
          by_cases e : i = k
          · subst e; exact ⟨hx, hy⟩
          · exact HALL.out i hi (by omega)
        have HNO : Hid (knows S.l S.C[k].r S.C[k].s = false → ¬ SOk S) := fun hx h => by have := (h.2.2.2.2.2 k hkl).1; rw [hx] at this; cases this
        have HNR : Hid (¬ RefIn S.C S.C[k] → ¬ SOk S) := fun hx h => hx (h.2.2.2.2.2 k hkl).2
        have HKX := hidI (fun wx h => HKN.out wx S.C[k].r S.C[k].s h)
        generalize S.C[k] = x at *
        generalize hkb : knows S.l x.r x.s = kb at *
        unfold ceC at q
        obtain ⟨q0, q1, q2, q3, q4, q5, q6, q7⟩ := q
        obtain ⟨WW, hWW⟩ : ∃ WW, WW = wr.alloc (.cells #[.string x.o, .int .i64 x.r, .int .i64 x.s, .int .i64 x.t, .int .i64 x.x, .int .i64 x.z, .int .i64 x.v, .bool x.g] 42) := ⟨_, rfl⟩
        have hBW : Below W.heap.size W WW := by rw [hWW]; exact hbel.alloc hsz _
        have hRW : Row WW wr.heap.size #[.string x.o, .int .i64 x.r, .int .i64 x.s, .int .i64 x.t, .int .i64 x.x, .int .i64 x.z, .int .i64 x.v, .bool x.g] 42 := by rw [hWW]; exact row_new wr _ _ rfl
        have HRX : Hid (∀ wx, Below WW.heap.size WW wx → wx.cell? ⟨wr.heap.size, 0, none⟩ = some (.string x.o) ∧ wx.cell? ⟨wr.heap.size, 1, none⟩ = some (.int .i64 x.r) ∧ wx.cell? ⟨wr.heap.size, 2, none⟩ = some (.int .i64 x.s) ∧ wx.cell? ⟨wr.heap.size, 3, none⟩ = some (.int .i64 x.t) ∧ wx.cell? ⟨wr.heap.size, 4, none⟩ = some (.int .i64 x.x) ∧ wx.cell? ⟨wr.heap.size, 5, none⟩ = some (.int .i64 x.z)) := fun wx h => ⟨(hRW.next h).cell 0 rfl, (hRW.next h).cell 1 rfl, (hRW.next h).cell 2 rfl, (hRW.next h).cell 3 rfl, (hRW.next h).cell 4 rfl, (hRW.next h).cell 5 rfl⟩
        have HWW : Hid (wr.alloc (.cells #[.string x.o, .int .i64 x.r, .int .i64 x.s, .int .i64 x.t, .int .i64 x.x, .int .i64 x.z, .int .i64 x.v, .bool x.g] 42) = WW) := hWW.symm
        obtain ⟨n0, n1, n2, n3⟩ := HR.out _ hBW
        obtain ⟨m0, m1, m2, m3, m4, m5⟩ := HRX.out _ (Below.refl _ _)
        rw [hWW] at n0 m1 m2
        clear hcc hkl hWW hRW n1 n2 n3 m0 m3 m4 m5
        go_wp2_with fail
        rw [HWW.out]
        refine (HKX.out _ hBW).mono ?_
        rintro e w2 ⟨rfl, hb2⟩
        have hX2 : Below WW.heap.size WW w2 := hb2
        have hW2 : Below W.heap.size W w2 := hBW.trans (hb2.mono hBW.size)
        clear hb2 n0 m1 m2 HKX HWW q0 q1 q2 q3 q4 q5 q6 q7 d0 d1 d2 d3 hbel
        cases kb with
        | false =>
          have HE := hidI (HNO.out rfl)
          have HB1 := hidI (HF.out _ hW2)
          clear hkb
          go_wp2
          go_ret
          exact ⟨Tells.no HE.out, HB1.out⟩
        | true =>
        replace HMO := hidI (HMO.out rfl)
        clear hkb HNO
        have hgd := dot_guard
        obtain ⟨m0, m1, m2, m3, m4, m5⟩ := HRX.out _ hX2
        by_cases hz : x.x = 0 ∧ x.z = 0
        · have heq : ∀ wx, (Op.equalIn 10000 40 (.agg #[.int .i64 x.x, .int .i64 x.z]) (.agg #[.int .i64 0, .int .i64 0])).run Try.prog wx = .ok true wx := fun wx => by rw [eqDot_zero, decide_eq_true hz]
          have HE := hidI (HMO.out (.inl hz))
          have HW2 := hidI hW2
          clear hz hW2
          go_wp2
          go_roundw
          case rel => exact ⟨k + 1, by omega, by go_num, HE.out, HW2.out⟩
          case measure => simp [intOf]; omega
        have heq : ∀ wx, (Op.equalIn 10000 40 (.agg #[.int .i64 x.x, .int .i64 x.z]) (.agg #[.int .i64 0, .int .i64 0])).run Try.prog wx = .ok false wx := fun wx => by rw [eqDot_zero, decide_eq_false hz]
        obtain ⟨n0, n1, n2, n3⟩ := HR.out _ hW2
        have HCX := hidI (HCA.out w2 x.x x.z hW2)
        have HZ := hidI hz
        have hrg := cellAt_range S.C x.x x.z 0 (by omega)
        have HRI : Hid (∀ j (h : j < S.C.length), cellAt S.C x.x x.z 0 = (j : Int) → (RefIn S.C x ↔ S.C[j].o = x.o ∧ S.C[j].t < x.t)) := fun j h e => by
          constructor
          · rintro (h1 | ⟨i, hi, h1, h2⟩)
            · exact absurd h1 HZ.out
            · have : i = j := by omega
              subst this; exact h2
          · intro h1; exact .inr ⟨j, h, e, h1⟩
        have HRN : Hid (cellAt S.C x.x x.z 0 = -1 → ¬ RefIn S.C x) := fun e h => by
          rcases h with h | ⟨i, hi, h1, -⟩
          · exact HZ.out h
          · omega
        generalize cellAt S.C x.x x.z 0 = KK at *
        clear hz
        go_wp2_with fail
        refine HCX.out.mono ?_
        rintro e w3 ⟨rfl, hb3⟩
        have hX3 : Below WW.heap.size WW w3 := hX2.trans (hb3.mono hX2.size)
        have hW3 : Below W.heap.size W w3 := hW2.trans (hb3.mono hW2.size)
        clear hb3 heq HCX m0 m1 m2 m3 m4 m5 n0 n1 n2 n3 hX2 hW2
        obtain ⟨m0, m1, m2, m3, m4, m5⟩ := HRX.out _ hX3
        obtain ⟨n0, n1, n2, n3⟩ := HR.out _ hW3
        rw [← HNC.out] at n3
        have HW3 := hidI hW3
        clear n0 n1 n2 m1 m2 m4 m5
        rcases hrg with hk | ⟨hr1, hr2⟩
        · subst hk
          have HE := hidI (HNR.out (HRN.out rfl))
          clear HRI HRN HNR HMO hW3 hX3
          go_wp2
          go_quiet (fail)
          have HB2 := hidI (HF.out _ (below_drewN HW3.out nq))
          generalize w3.drewN nq = wq at *
          clear m0 m3 n3 HW3
          go_wp2
          go_ret
          exact ⟨Tells.no HE.out, HB2.out⟩
        obtain ⟨j, hj⟩ : ∃ j : Nat, KK = j := Int.eq_ofNat_of_zero_le hr1
        subst hj
        have hjl : j < S.C.length := by omega
        have hj1 : (j : Int) < nc := by have := HNC.out; omega
        have hj0 : (0 : Int) ≤ j := by omega
        have hjn : ¬ ((j : Int) < 0) := by omega
        have HRJ := hidI (HRI.out j hjl rfl)
        have q := HCC.out j hjl w3 hW3
        obtain ⟨y, hyy⟩ : ∃ y, y = S.C[j] := ⟨_, rfl⟩
        rw [← hyy] at q HRJ
        unfold ceC at q
        obtain ⟨q0, q1, q2, q3, q4, q5, q6, q7⟩ := q
        have HS5 : Hid (∀ wx, Below w3.heap.size w3 wx → wx.cell? ⟨w.heap.size, 3, none⟩ = some (.slice (some ⟨g, f, none⟩) nc c3) ∧ wx.cell? ⟨wr.heap.size, 0, none⟩ = some (.string x.o) ∧ wx.cell? ⟨wr.heap.size, 3, none⟩ = some (.int .i64 x.t) ∧ wx.cell? ⟨g, f + j * 8, none⟩ = some (.string y.o) ∧ wx.cell? ⟨g, f + j * 8 + 3, none⟩ = some (.int .i64 y.t)) := fun wx h => by
          have hq := HCC.out j hjl wx (HW3.out.trans (h.mono HW3.out.size))
          obtain ⟨z0, z1, z2, z3⟩ := HR.out wx (HW3.out.trans (h.mono HW3.out.size))
          obtain ⟨y0, y1, y2, y3, y4, y5⟩ := HRX.out wx (hX3.trans (h.mono hX3.size))
          rw [← HNC.out] at z3
          rw [← hyy] at hq
          exact ⟨z3, y0, y3, hq.1, hq.2.2.2.1⟩
        clear q1 q2 q4 q5 q6 q7 hjl hr1 hr2 HRI HRN hW3 hX3 hyy
        by_cases ho : y.o = x.o
        · have b1 := beq_str y.o x.o ho
          have b2 : (y.o.toList != x.o.toList) = false := by simp [bne, b1]
          by_cases ht : y.t < x.t
          · have HE := hidI (HMO.out (HRJ.out.2 ⟨ho, ht⟩))
            clear HRJ HMO HNR ho
            go_wp2
            try simp only [List.append_eq, List.cons_append, List.nil_append]
            have hBc : Below w3.heap.size w3 w3.drew := (Below.refl _ _).drew
            refine wp_region_held_drew (S := (fun w' => w'.cell? ⟨w.heap.size, 3, none⟩ = some (.slice (some ⟨g, f, none⟩) nc c3) ∧ w'.cell? ⟨wr.heap.size, 0, none⟩ = some (.string x.o) ∧ w'.cell? ⟨wr.heap.size, 3, none⟩ = some (.int .i64 x.t) ∧ w'.cell? ⟨g, f + j * 8, none⟩ = some (.string y.o) ∧ w'.cell? ⟨g, f + j * 8 + 3, none⟩ = some (.int .i64 y.t))) (by kernel_rfl) (HS5.out _ hBc) (fun _ => ?_)
            refine wpAnyH_list (l' := #[false, false, false, false, false, false, false, false, false, false, false, false, false, false, false, false, false, false, false, false, false, false, false, false]) (by as_aux_lemma => kernel_rfl) ?_
            refine wpAnyH_take (i := 0) (oi := rvo0) (v := ?v0_ra) rfl (by as_aux_lemma => kernel_rfl) (by as_aux_lemma => kernel_rfl) (by as_aux_lemma => kernel_rfl) (fun _ _ _ h => h) (Or.inl ⟨by rfl, ?hy0_ra⟩) (HS5.out _ hBc) ?_
            case hy0_ra =>
              intro w hSw
              try dsimp only at hSw
              go_simp <;> with_reducible rfl
            try simp only [Act.put, List.setIfInBounds_toArray, List.set_cons_zero, List.set_cons_succ]
            refine wpAnyH_take (i := 1) (oi := rvo1) (v := ?v1_ra) rfl (by as_aux_lemma => kernel_rfl) (by as_aux_lemma => kernel_rfl) (by as_aux_lemma => kernel_rfl) (fun _ _ _ h => h) (Or.inl ⟨by rfl, ?hy1_ra⟩) (HS5.out _ hBc) ?_
            case hy1_ra =>
              intro w hSw
              try dsimp only at hSw
              go_simp <;> with_reducible rfl
            try simp only [Act.put, List.setIfInBounds_toArray, List.set_cons_zero, List.set_cons_succ]
            refine wpAnyH_take (i := 2) (oi := rvo2) (v := ?v2_ra) rfl (by as_aux_lemma => kernel_rfl) (by as_aux_lemma => kernel_rfl) (by as_aux_lemma => kernel_rfl) (fun _ _ _ h => h) (Or.inl ⟨by rfl, ?hy2_ra⟩) (HS5.out _ hBc) ?_
            case hy2_ra =>
              intro w hSw
              try dsimp only at hSw
              go_simp <;> with_reducible rfl
            try simp only [Act.put, List.setIfInBounds_toArray, List.set_cons_zero, List.set_cons_succ]
            refine wpAnyH_take (i := 3) (oi := rvo3) (v := ?v3_ra) rfl (by as_aux_lemma => kernel_rfl) (by as_aux_lemma => kernel_rfl) (by as_aux_lemma => kernel_rfl) (fun _ _ _ h => h) (Or.inl ⟨by rfl, ?hy3_ra⟩) (HS5.out _ hBc) ?_
            case hy3_ra =>
              intro w hSw
              try dsimp only at hSw
              go_simp <;> with_reducible rfl
            try simp only [Act.put, List.setIfInBounds_toArray, List.set_cons_zero, List.set_cons_succ]
            refine wpAnyH_take (i := 4) (oi := rvo4) (v := ?v4_ra) rfl (by as_aux_lemma => kernel_rfl) (by as_aux_lemma => kernel_rfl) (by as_aux_lemma => kernel_rfl) (fun _ _ _ h => h) (Or.inl ⟨by rfl, ?hy4_ra⟩) (HS5.out _ hBc) ?_
            case hy4_ra =>
              intro w hSw
              try dsimp only at hSw
              go_simp <;> with_reducible rfl
            try simp only [Act.put, List.setIfInBounds_toArray, List.set_cons_zero, List.set_cons_succ]
            refine wpAnyH_take (i := 5) (oi := rvo5) (v := ?v5_ra) rfl (by as_aux_lemma => kernel_rfl) (by as_aux_lemma => kernel_rfl) (by as_aux_lemma => kernel_rfl) (fun _ _ _ h => h) (Or.inl ⟨by rfl, ?hy5_ra⟩) (HS5.out _ hBc) ?_
            case hy5_ra =>
              intro w hSw
              try dsimp only at hSw
              go_simp <;> with_reducible rfl
            try simp only [Act.put, List.setIfInBounds_toArray, List.set_cons_zero, List.set_cons_succ]
            refine wpAnyH_take (i := 6) (oi := rvo6) (v := ?v6_ra) rfl (by as_aux_lemma => kernel_rfl) (by as_aux_lemma => kernel_rfl) (by as_aux_lemma => kernel_rfl) (fun _ _ _ h => h) (Or.inl ⟨by rfl, ?hy6_ra⟩) (HS5.out _ hBc) ?_
            case hy6_ra =>
              intro w hSw
              try dsimp only at hSw
              go_simp <;> with_reducible rfl
            try simp only [Act.put, List.setIfInBounds_toArray, List.set_cons_zero, List.set_cons_succ]
            refine wpAnyH_take (i := 7) (oi := rvo7) (v := ?v7_ra) rfl (by as_aux_lemma => kernel_rfl) (by as_aux_lemma => kernel_rfl) (by as_aux_lemma => kernel_rfl) (fun _ _ _ h => h) (Or.inl ⟨by rfl, ?hy7_ra⟩) (HS5.out _ hBc) ?_
            case hy7_ra =>
              intro w hSw
              try dsimp only at hSw
              go_simp <;> with_reducible rfl
            try simp only [Act.put, List.setIfInBounds_toArray, List.set_cons_zero, List.set_cons_succ]
            refine wpAnyH_take (i := 8) (oi := rvo8) (v := ?v8_ra) rfl (by as_aux_lemma => kernel_rfl) (by as_aux_lemma => kernel_rfl) (by as_aux_lemma => kernel_rfl) (fun _ _ _ h => h) (Or.inl ⟨by rfl, ?hy8_ra⟩) (HS5.out _ hBc) ?_
            case hy8_ra =>
              intro w hSw
              try dsimp only at hSw
              go_simp <;> with_reducible rfl
            try simp only [Act.put, List.setIfInBounds_toArray, List.set_cons_zero, List.set_cons_succ]
            refine wpAnyH_take (i := 9) (oi := rvo9) (v := ?v9_ra) rfl (by as_aux_lemma => kernel_rfl) (by as_aux_lemma => kernel_rfl) (by as_aux_lemma => kernel_rfl) (fun _ _ _ h => h) (Or.inl ⟨by rfl, ?hy9_ra⟩) (HS5.out _ hBc) ?_
            case hy9_ra =>
              intro w hSw
              try dsimp only at hSw
              go_simp <;> with_reducible rfl
            try simp only [Act.put, List.setIfInBounds_toArray, List.set_cons_zero, List.set_cons_succ]
            refine wpAnyH_take (i := 10) (oi := rvo10) (v := ?v10_ra) rfl (by as_aux_lemma => kernel_rfl) (by as_aux_lemma => kernel_rfl) (by as_aux_lemma => kernel_rfl) (fun _ _ _ h => h) (Or.inl ⟨by rfl, ?hy10_ra⟩) (HS5.out _ hBc) ?_
            case hy10_ra =>
              intro w hSw
              try dsimp only at hSw
              go_simp <;> with_reducible rfl
            try simp only [Act.put, List.setIfInBounds_toArray, List.set_cons_zero, List.set_cons_succ]
            refine wpAnyH_take (i := 11) (oi := rvo11) (v := ?v11_ra) rfl (by as_aux_lemma => kernel_rfl) (by as_aux_lemma => kernel_rfl) (by as_aux_lemma => kernel_rfl) (fun _ _ _ h => h) (Or.inl ⟨by rfl, ?hy11_ra⟩) (HS5.out _ hBc) ?_
            case hy11_ra =>
              intro w hSw
              try dsimp only at hSw
              go_simp <;> with_reducible rfl
            try simp only [Act.put, List.setIfInBounds_toArray, List.set_cons_zero, List.set_cons_succ]
            refine wpAnyH_take (i := 12) (oi := rvo12) (v := ?v12_ra) rfl (by as_aux_lemma => kernel_rfl) (by as_aux_lemma => kernel_rfl) (by as_aux_lemma => kernel_rfl) (fun _ _ _ h => h) (Or.inl ⟨by rfl, ?hy12_ra⟩) (HS5.out _ hBc) ?_
            case hy12_ra =>
              intro w hSw
              try dsimp only at hSw
              go_simp <;> with_reducible rfl
            try simp only [Act.put, List.setIfInBounds_toArray, List.set_cons_zero, List.set_cons_succ]
            refine wpAnyH_take (i := 13) (oi := rvo13) (v := ?v13_ra) rfl (by as_aux_lemma => kernel_rfl) (by as_aux_lemma => kernel_rfl) (by as_aux_lemma => kernel_rfl) (fun _ _ _ h => h) (Or.inl ⟨by rfl, ?hy13_ra⟩) (HS5.out _ hBc) ?_
            case hy13_ra =>
              intro w hSw
              try dsimp only at hSw
              go_simp <;> with_reducible rfl
            try simp only [Act.put, List.setIfInBounds_toArray, List.set_cons_zero, List.set_cons_succ]
            refine wpAnyH_take (i := 14) (oi := rvo14) (v := ?v14_ra) rfl (by as_aux_lemma => kernel_rfl) (by as_aux_lemma => kernel_rfl) (by as_aux_lemma => kernel_rfl) (fun _ _ _ h => h) (Or.inl ⟨by rfl, ?hy14_ra⟩) (HS5.out _ hBc) ?_
            case hy14_ra =>
              intro w hSw
              try dsimp only at hSw
              go_simp <;> with_reducible rfl
            try simp only [Act.put, List.setIfInBounds_toArray, List.set_cons_zero, List.set_cons_succ]
            refine wpAnyH_take (i := 15) (oi := rvo15) (v := ?v15_ra) rfl (by as_aux_lemma => kernel_rfl) (by as_aux_lemma => kernel_rfl) (by as_aux_lemma => kernel_rfl) (fun _ _ _ h => h) (Or.inl ⟨by rfl, ?hy15_ra⟩) (HS5.out _ hBc) ?_
            case hy15_ra =>
              intro w hSw
              try dsimp only at hSw
              go_simp <;> with_reducible rfl
            try simp only [Act.put, List.setIfInBounds_toArray, List.set_cons_zero, List.set_cons_succ]
            refine wpAnyH_take (i := 16) (oi := rvo16) (v := ?v16_ra) rfl (by as_aux_lemma => kernel_rfl) (by as_aux_lemma => kernel_rfl) (by as_aux_lemma => kernel_rfl) (fun _ _ _ h => h) (Or.inl ⟨by rfl, ?hy16_ra⟩) (HS5.out _ hBc) ?_
            case hy16_ra =>
              intro w hSw
              try dsimp only at hSw
              go_simp <;> with_reducible rfl
            try simp only [Act.put, List.setIfInBounds_toArray, List.set_cons_zero, List.set_cons_succ]
            refine wpAnyH_take (i := 17) (oi := rvo17) (v := ?v17_ra) rfl (by as_aux_lemma => kernel_rfl) (by as_aux_lemma => kernel_rfl) (by as_aux_lemma => kernel_rfl) (fun _ _ _ h => h) (Or.inl ⟨by rfl, ?hy17_ra⟩) (HS5.out _ hBc) ?_
            case hy17_ra =>
              intro w hSw
              try dsimp only at hSw
              go_simp <;> with_reducible rfl
            try simp only [Act.put, List.setIfInBounds_toArray, List.set_cons_zero, List.set_cons_succ]
            refine wpAnyH_take (i := 18) (oi := rvo18) (v := ?v18_ra) rfl (by as_aux_lemma => kernel_rfl) (by as_aux_lemma => kernel_rfl) (by as_aux_lemma => kernel_rfl) (fun _ _ _ h => h) (Or.inl ⟨by rfl, ?hy18_ra⟩) (HS5.out _ hBc) ?_
            case hy18_ra =>
              intro w hSw
              try dsimp only at hSw
              go_simp <;> with_reducible rfl
            try simp only [Act.put, List.setIfInBounds_toArray, List.set_cons_zero, List.set_cons_succ]
            refine wpAnyH_take (i := 19) (oi := rvo19) (v := ?v19_ra) rfl (by as_aux_lemma => kernel_rfl) (by as_aux_lemma => kernel_rfl) (by as_aux_lemma => kernel_rfl) (fun _ _ _ h => h) (Or.inl ⟨by rfl, ?hy19_ra⟩) (HS5.out _ hBc) ?_
            case hy19_ra =>
              intro w hSw
              try dsimp only at hSw
              go_simp <;> with_reducible rfl
            try simp only [Act.put, List.setIfInBounds_toArray, List.set_cons_zero, List.set_cons_succ]
            refine wpAnyH_take (i := 20) (oi := rvo20) (v := ?v20_ra) rfl (by as_aux_lemma => kernel_rfl) (by as_aux_lemma => kernel_rfl) (by as_aux_lemma => kernel_rfl) (fun _ _ _ h => h) (Or.inl ⟨by rfl, ?hy20_ra⟩) (HS5.out _ hBc) ?_
            case hy20_ra =>
              intro w hSw
              try dsimp only at hSw
              go_simp <;> with_reducible rfl
            try simp only [Act.put, List.setIfInBounds_toArray, List.set_cons_zero, List.set_cons_succ]
            refine wpAnyH_take (i := 21) (oi := rvo21) (v := ?v21_ra) rfl (by as_aux_lemma => kernel_rfl) (by as_aux_lemma => kernel_rfl) (by as_aux_lemma => kernel_rfl) (fun _ _ _ h => h) (Or.inl ⟨by rfl, ?hy21_ra⟩) (HS5.out _ hBc) ?_
            case hy21_ra =>
              intro w hSw
              try dsimp only at hSw
              go_simp <;> with_reducible rfl
            try simp only [Act.put, List.setIfInBounds_toArray, List.set_cons_zero, List.set_cons_succ]
            refine wpAnyH_take (i := 22) (oi := rvo22) (v := ?v22_ra) rfl (by as_aux_lemma => kernel_rfl) (by as_aux_lemma => kernel_rfl) (by as_aux_lemma => kernel_rfl) (fun _ _ _ h => h) (Or.inl ⟨by rfl, ?hy22_ra⟩) (HS5.out _ hBc) ?_
            case hy22_ra =>
              intro w hSw
              try dsimp only at hSw
              go_simp <;> with_reducible rfl
            try simp only [Act.put, List.setIfInBounds_toArray, List.set_cons_zero, List.set_cons_succ]
            refine wpAnyH_take (i := 23) (oi := rvo23) (v := ?v23_ra) rfl (by as_aux_lemma => kernel_rfl) (by as_aux_lemma => kernel_rfl) (by as_aux_lemma => kernel_rfl) (fun _ _ _ h => h) (Or.inl ⟨by rfl, ?hy23_ra⟩) (HS5.out _ hBc) ?_
            case hy23_ra =>
              intro w hSw
              try dsimp only at hSw
              go_simp <;> with_reducible rfl
            try simp only [Act.put, List.setIfInBounds_toArray, List.set_cons_zero, List.set_cons_succ]
            refine wpAnyH_done (by as_aux_lemma => kernel_rfl) ?_ _
            
            have HB2 := hidI ((HW3.out.trans (hBc.mono HW3.out.size)))
            clear hBc m0 m3 n3 HW3 q0 q3 HS5
            go_wp2
            go_roundw
            case rel => exact ⟨k + 1, by omega, by go_num, HE.out, HB2.out⟩
            case measure => simp [intOf]; omega
          · have HE := hidI (HNR.out (fun h => ht (HRJ.out.1 h).2))
            clear HRJ HMO HNR ho
            go_wp2
            try simp only [List.append_eq, List.cons_append, List.nil_append]
            have hBc : Below w3.heap.size w3 w3.drew := (Below.refl _ _).drew
            refine wp_region_held_drew (S := (fun w' => w'.cell? ⟨w.heap.size, 3, none⟩ = some (.slice (some ⟨g, f, none⟩) nc c3) ∧ w'.cell? ⟨wr.heap.size, 0, none⟩ = some (.string x.o) ∧ w'.cell? ⟨wr.heap.size, 3, none⟩ = some (.int .i64 x.t) ∧ w'.cell? ⟨g, f + j * 8, none⟩ = some (.string y.o) ∧ w'.cell? ⟨g, f + j * 8 + 3, none⟩ = some (.int .i64 y.t))) (by kernel_rfl) (HS5.out _ hBc) (fun _ => ?_)
            refine wpAnyH_list (l' := #[false, false, false, false, false, false, false, false, false, false, false, false, false, false, false, false, false, false, false, false, false, false, false, false]) (by as_aux_lemma => kernel_rfl) ?_
            refine wpAnyH_take (i := 0) (oi := rvo0) (v := ?v0_rb) rfl (by as_aux_lemma => kernel_rfl) (by as_aux_lemma => kernel_rfl) (by as_aux_lemma => kernel_rfl) (fun _ _ _ h => h) (Or.inl ⟨by rfl, ?hy0_rb⟩) (HS5.out _ hBc) ?_
            case hy0_rb =>
              intro w hSw
              try dsimp only at hSw
              go_simp <;> with_reducible rfl
            try simp only [Act.put, List.setIfInBounds_toArray, List.set_cons_zero, List.set_cons_succ]
            refine wpAnyH_take (i := 1) (oi := rvo1) (v := ?v1_rb) rfl (by as_aux_lemma => kernel_rfl) (by as_aux_lemma => kernel_rfl) (by as_aux_lemma => kernel_rfl) (fun _ _ _ h => h) (Or.inl ⟨by rfl, ?hy1_rb⟩) (HS5.out _ hBc) ?_
            case hy1_rb =>
              intro w hSw
              try dsimp only at hSw
              go_simp <;> with_reducible rfl
            try simp only [Act.put, List.setIfInBounds_toArray, List.set_cons_zero, List.set_cons_succ]
            refine wpAnyH_take (i := 2) (oi := rvo2) (v := ?v2_rb) rfl (by as_aux_lemma => kernel_rfl) (by as_aux_lemma => kernel_rfl) (by as_aux_lemma => kernel_rfl) (fun _ _ _ h => h) (Or.inl ⟨by rfl, ?hy2_rb⟩) (HS5.out _ hBc) ?_
            case hy2_rb =>
              intro w hSw
              try dsimp only at hSw
              go_simp <;> with_reducible rfl
            try simp only [Act.put, List.setIfInBounds_toArray, List.set_cons_zero, List.set_cons_succ]
            refine wpAnyH_take (i := 3) (oi := rvo3) (v := ?v3_rb) rfl (by as_aux_lemma => kernel_rfl) (by as_aux_lemma => kernel_rfl) (by as_aux_lemma => kernel_rfl) (fun _ _ _ h => h) (Or.inl ⟨by rfl, ?hy3_rb⟩) (HS5.out _ hBc) ?_
            case hy3_rb =>
              intro w hSw
              try dsimp only at hSw
              go_simp <;> with_reducible rfl
            try simp only [Act.put, List.setIfInBounds_toArray, List.set_cons_zero, List.set_cons_succ]
            refine wpAnyH_take (i := 4) (oi := rvo4) (v := ?v4_rb) rfl (by as_aux_lemma => kernel_rfl) (by as_aux_lemma => kernel_rfl) (by as_aux_lemma => kernel_rfl) (fun _ _ _ h => h) (Or.inl ⟨by rfl, ?hy4_rb⟩) (HS5.out _ hBc) ?_
            case hy4_rb =>
              intro w hSw
              try dsimp only at hSw
              go_simp <;> with_reducible rfl
            try simp only [Act.put, List.setIfInBounds_toArray, List.set_cons_zero, List.set_cons_succ]
            refine wpAnyH_take (i := 5) (oi := rvo5) (v := ?v5_rb) rfl (by as_aux_lemma => kernel_rfl) (by as_aux_lemma => kernel_rfl) (by as_aux_lemma => kernel_rfl) (fun _ _ _ h => h) (Or.inl ⟨by rfl, ?hy5_rb⟩) (HS5.out _ hBc) ?_
            case hy5_rb =>
              intro w hSw
              try dsimp only at hSw
              go_simp <;> with_reducible rfl
            try simp only [Act.put, List.setIfInBounds_toArray, List.set_cons_zero, List.set_cons_succ]
            refine wpAnyH_take (i := 6) (oi := rvo6) (v := ?v6_rb) rfl (by as_aux_lemma => kernel_rfl) (by as_aux_lemma => kernel_rfl) (by as_aux_lemma => kernel_rfl) (fun _ _ _ h => h) (Or.inl ⟨by rfl, ?hy6_rb⟩) (HS5.out _ hBc) ?_
            case hy6_rb =>
              intro w hSw
              try dsimp only at hSw
              go_simp <;> with_reducible rfl
            try simp only [Act.put, List.setIfInBounds_toArray, List.set_cons_zero, List.set_cons_succ]
            refine wpAnyH_take (i := 7) (oi := rvo7) (v := ?v7_rb) rfl (by as_aux_lemma => kernel_rfl) (by as_aux_lemma => kernel_rfl) (by as_aux_lemma => kernel_rfl) (fun _ _ _ h => h) (Or.inl ⟨by rfl, ?hy7_rb⟩) (HS5.out _ hBc) ?_
            case hy7_rb =>
              intro w hSw
              try dsimp only at hSw
              go_simp <;> with_reducible rfl
            try simp only [Act.put, List.setIfInBounds_toArray, List.set_cons_zero, List.set_cons_succ]
            refine wpAnyH_take (i := 8) (oi := rvo8) (v := ?v8_rb) rfl (by as_aux_lemma => kernel_rfl) (by as_aux_lemma => kernel_rfl) (by as_aux_lemma => kernel_rfl) (fun _ _ _ h => h) (Or.inl ⟨by rfl, ?hy8_rb⟩) (HS5.out _ hBc) ?_
            case hy8_rb =>
              intro w hSw
              try dsimp only at hSw
              go_simp <;> with_reducible rfl
            try simp only [Act.put, List.setIfInBounds_toArray, List.set_cons_zero, List.set_cons_succ]
            refine wpAnyH_take (i := 9) (oi := rvo9) (v := ?v9_rb) rfl (by as_aux_lemma => kernel_rfl) (by as_aux_lemma => kernel_rfl) (by as_aux_lemma => kernel_rfl) (fun _ _ _ h => h) (Or.inl ⟨by rfl, ?hy9_rb⟩) (HS5.out _ hBc) ?_
            case hy9_rb =>
              intro w hSw
              try dsimp only at hSw
              go_simp <;> with_reducible rfl
            try simp only [Act.put, List.setIfInBounds_toArray, List.set_cons_zero, List.set_cons_succ]
            refine wpAnyH_take (i := 10) (oi := rvo10) (v := ?v10_rb) rfl (by as_aux_lemma => kernel_rfl) (by as_aux_lemma => kernel_rfl) (by as_aux_lemma => kernel_rfl) (fun _ _ _ h => h) (Or.inl ⟨by rfl, ?hy10_rb⟩) (HS5.out _ hBc) ?_
            case hy10_rb =>
              intro w hSw
              try dsimp only at hSw
              go_simp <;> with_reducible rfl
            try simp only [Act.put, List.setIfInBounds_toArray, List.set_cons_zero, List.set_cons_succ]
            refine wpAnyH_take (i := 11) (oi := rvo11) (v := ?v11_rb) rfl (by as_aux_lemma => kernel_rfl) (by as_aux_lemma => kernel_rfl) (by as_aux_lemma => kernel_rfl) (fun _ _ _ h => h) (Or.inl ⟨by rfl, ?hy11_rb⟩) (HS5.out _ hBc) ?_
            case hy11_rb =>
              intro w hSw
              try dsimp only at hSw
              go_simp <;> with_reducible rfl
            try simp only [Act.put, List.setIfInBounds_toArray, List.set_cons_zero, List.set_cons_succ]
            refine wpAnyH_take (i := 12) (oi := rvo12) (v := ?v12_rb) rfl (by as_aux_lemma => kernel_rfl) (by as_aux_lemma => kernel_rfl) (by as_aux_lemma => kernel_rfl) (fun _ _ _ h => h) (Or.inl ⟨by rfl, ?hy12_rb⟩) (HS5.out _ hBc) ?_
            case hy12_rb =>
              intro w hSw
              try dsimp only at hSw
              go_simp <;> with_reducible rfl
            try simp only [Act.put, List.setIfInBounds_toArray, List.set_cons_zero, List.set_cons_succ]
            refine wpAnyH_take (i := 13) (oi := rvo13) (v := ?v13_rb) rfl (by as_aux_lemma => kernel_rfl) (by as_aux_lemma => kernel_rfl) (by as_aux_lemma => kernel_rfl) (fun _ _ _ h => h) (Or.inl ⟨by rfl, ?hy13_rb⟩) (HS5.out _ hBc) ?_
            case hy13_rb =>
              intro w hSw
              try dsimp only at hSw
              go_simp <;> with_reducible rfl
            try simp only [Act.put, List.setIfInBounds_toArray, List.set_cons_zero, List.set_cons_succ]
            refine wpAnyH_take (i := 14) (oi := rvo14) (v := ?v14_rb) rfl (by as_aux_lemma => kernel_rfl) (by as_aux_lemma => kernel_rfl) (by as_aux_lemma => kernel_rfl) (fun _ _ _ h => h) (Or.inl ⟨by rfl, ?hy14_rb⟩) (HS5.out _ hBc) ?_
            case hy14_rb =>
              intro w hSw
              try dsimp only at hSw
              go_simp <;> with_reducible rfl
            try simp only [Act.put, List.setIfInBounds_toArray, List.set_cons_zero, List.set_cons_succ]
            refine wpAnyH_take (i := 15) (oi := rvo15) (v := ?v15_rb) rfl (by as_aux_lemma => kernel_rfl) (by as_aux_lemma => kernel_rfl) (by as_aux_lemma => kernel_rfl) (fun _ _ _ h => h) (Or.inl ⟨by rfl, ?hy15_rb⟩) (HS5.out _ hBc) ?_
            case hy15_rb =>
              intro w hSw
              try dsimp only at hSw
              go_simp <;> with_reducible rfl
            try simp only [Act.put, List.setIfInBounds_toArray, List.set_cons_zero, List.set_cons_succ]
            refine wpAnyH_take (i := 16) (oi := rvo16) (v := ?v16_rb) rfl (by as_aux_lemma => kernel_rfl) (by as_aux_lemma => kernel_rfl) (by as_aux_lemma => kernel_rfl) (fun _ _ _ h => h) (Or.inl ⟨by rfl, ?hy16_rb⟩) (HS5.out _ hBc) ?_
            case hy16_rb =>
              intro w hSw
              try dsimp only at hSw
              go_simp <;> with_reducible rfl
            try simp only [Act.put, List.setIfInBounds_toArray, List.set_cons_zero, List.set_cons_succ]
            refine wpAnyH_take (i := 17) (oi := rvo17) (v := ?v17_rb) rfl (by as_aux_lemma => kernel_rfl) (by as_aux_lemma => kernel_rfl) (by as_aux_lemma => kernel_rfl) (fun _ _ _ h => h) (Or.inl ⟨by rfl, ?hy17_rb⟩) (HS5.out _ hBc) ?_
            case hy17_rb =>
              intro w hSw
              try dsimp only at hSw
              go_simp <;> with_reducible rfl
            try simp only [Act.put, List.setIfInBounds_toArray, List.set_cons_zero, List.set_cons_succ]
            refine wpAnyH_take (i := 18) (oi := rvo18) (v := ?v18_rb) rfl (by as_aux_lemma => kernel_rfl) (by as_aux_lemma => kernel_rfl) (by as_aux_lemma => kernel_rfl) (fun _ _ _ h => h) (Or.inl ⟨by rfl, ?hy18_rb⟩) (HS5.out _ hBc) ?_
            case hy18_rb =>
              intro w hSw
              try dsimp only at hSw
              go_simp <;> with_reducible rfl
            try simp only [Act.put, List.setIfInBounds_toArray, List.set_cons_zero, List.set_cons_succ]
            refine wpAnyH_take (i := 19) (oi := rvo19) (v := ?v19_rb) rfl (by as_aux_lemma => kernel_rfl) (by as_aux_lemma => kernel_rfl) (by as_aux_lemma => kernel_rfl) (fun _ _ _ h => h) (Or.inl ⟨by rfl, ?hy19_rb⟩) (HS5.out _ hBc) ?_
            case hy19_rb =>
              intro w hSw
              try dsimp only at hSw
              go_simp <;> with_reducible rfl
            try simp only [Act.put, List.setIfInBounds_toArray, List.set_cons_zero, List.set_cons_succ]
            refine wpAnyH_take (i := 20) (oi := rvo20) (v := ?v20_rb) rfl (by as_aux_lemma => kernel_rfl) (by as_aux_lemma => kernel_rfl) (by as_aux_lemma => kernel_rfl) (fun _ _ _ h => h) (Or.inl ⟨by rfl, ?hy20_rb⟩) (HS5.out _ hBc) ?_
            case hy20_rb =>
              intro w hSw
              try dsimp only at hSw
              go_simp <;> with_reducible rfl
            try simp only [Act.put, List.setIfInBounds_toArray, List.set_cons_zero, List.set_cons_succ]
            refine wpAnyH_take (i := 21) (oi := rvo21) (v := ?v21_rb) rfl (by as_aux_lemma => kernel_rfl) (by as_aux_lemma => kernel_rfl) (by as_aux_lemma => kernel_rfl) (fun _ _ _ h => h) (Or.inl ⟨by rfl, ?hy21_rb⟩) (HS5.out _ hBc) ?_
            case hy21_rb =>
              intro w hSw
              try dsimp only at hSw
              go_simp <;> with_reducible rfl
            try simp only [Act.put, List.setIfInBounds_toArray, List.set_cons_zero, List.set_cons_succ]
            refine wpAnyH_take (i := 22) (oi := rvo22) (v := ?v22_rb) rfl (by as_aux_lemma => kernel_rfl) (by as_aux_lemma => kernel_rfl) (by as_aux_lemma => kernel_rfl) (fun _ _ _ h => h) (Or.inl ⟨by rfl, ?hy22_rb⟩) (HS5.out _ hBc) ?_
            case hy22_rb =>
              intro w hSw
              try dsimp only at hSw
              go_simp <;> with_reducible rfl
            try simp only [Act.put, List.setIfInBounds_toArray, List.set_cons_zero, List.set_cons_succ]
            refine wpAnyH_take (i := 23) (oi := rvo23) (v := ?v23_rb) rfl (by as_aux_lemma => kernel_rfl) (by as_aux_lemma => kernel_rfl) (by as_aux_lemma => kernel_rfl) (fun _ _ _ h => h) (Or.inl ⟨by rfl, ?hy23_rb⟩) (HS5.out _ hBc) ?_
            case hy23_rb =>
              intro w hSw
              try dsimp only at hSw
              go_simp <;> with_reducible rfl
            try simp only [Act.put, List.setIfInBounds_toArray, List.set_cons_zero, List.set_cons_succ]
            refine wpAnyH_done (by as_aux_lemma => kernel_rfl) ?_ _
            
            have HB2 := hidI (HF.out _ (HW3.out.trans (hBc.mono HW3.out.size)))
            clear hBc m0 m3 n3 HW3 q0 q3 HS5
            go_wp2
            go_ret
            exact ⟨Tells.no HE.out, HB2.out⟩
        · have b1 := beq_str_no y.o x.o ho
          have b2 : (y.o.toList != x.o.toList) = true := by simp [bne, b1]
          have HE := hidI (HNR.out (fun h => ho (HRJ.out.1 h).1))
          clear HRJ HMO HNR ho
          go_wp2
          try simp only [List.append_eq, List.cons_append, List.nil_append]
          have hBc : Below w3.heap.size w3 w3.drew := (Below.refl _ _).drew
          refine wp_region_held_drew (S := (fun w' => w'.cell? ⟨w.heap.size, 3, none⟩ = some (.slice (some ⟨g, f, none⟩) nc c3) ∧ w'.cell? ⟨wr.heap.size, 0, none⟩ = some (.string x.o) ∧ w'.cell? ⟨wr.heap.size, 3, none⟩ = some (.int .i64 x.t) ∧ w'.cell? ⟨g, f + j * 8, none⟩ = some (.string y.o) ∧ w'.cell? ⟨g, f + j * 8 + 3, none⟩ = some (.int .i64 y.t))) (by kernel_rfl) (HS5.out _ hBc) (fun _ => ?_)
          refine wpAnyH_list (l' := #[false, false, false, false, false, false, false, false, false, false, false, false, false, false, false, false, false, false, false, false, false, false, false, false]) (by as_aux_lemma => kernel_rfl) ?_
          refine wpAnyH_take (i := 0) (oi := rvo0) (v := ?v0_rc) rfl (by as_aux_lemma => kernel_rfl) (by as_aux_lemma => kernel_rfl) (by as_aux_lemma => kernel_rfl) (fun _ _ _ h => h) (Or.inl ⟨by rfl, ?hy0_rc⟩) (HS5.out _ hBc) ?_
          case hy0_rc =>
            intro w hSw
            try dsimp only at hSw
            go_simp <;> with_reducible rfl
          try simp only [Act.put, List.setIfInBounds_toArray, List.set_cons_zero, List.set_cons_succ]
          refine wpAnyH_take (i := 1) (oi := rvo1) (v := ?v1_rc) rfl (by as_aux_lemma => kernel_rfl) (by as_aux_lemma => kernel_rfl) (by as_aux_lemma => kernel_rfl) (fun _ _ _ h => h) (Or.inl ⟨by rfl, ?hy1_rc⟩) (HS5.out _ hBc) ?_
          case hy1_rc =>
            intro w hSw
            try dsimp only at hSw
            go_simp <;> with_reducible rfl
          try simp only [Act.put, List.setIfInBounds_toArray, List.set_cons_zero, List.set_cons_succ]
          refine wpAnyH_take (i := 2) (oi := rvo2) (v := ?v2_rc) rfl (by as_aux_lemma => kernel_rfl) (by as_aux_lemma => kernel_rfl) (by as_aux_lemma => kernel_rfl) (fun _ _ _ h => h) (Or.inl ⟨by rfl, ?hy2_rc⟩) (HS5.out _ hBc) ?_
          case hy2_rc =>
            intro w hSw
            try dsimp only at hSw
            go_simp <;> with_reducible rfl
          try simp only [Act.put, List.setIfInBounds_toArray, List.set_cons_zero, List.set_cons_succ]
          refine wpAnyH_take (i := 3) (oi := rvo3) (v := ?v3_rc) rfl (by as_aux_lemma => kernel_rfl) (by as_aux_lemma => kernel_rfl) (by as_aux_lemma => kernel_rfl) (fun _ _ _ h => h) (Or.inl ⟨by rfl, ?hy3_rc⟩) (HS5.out _ hBc) ?_
          case hy3_rc =>
            intro w hSw
            try dsimp only at hSw
            go_simp <;> with_reducible rfl
          try simp only [Act.put, List.setIfInBounds_toArray, List.set_cons_zero, List.set_cons_succ]
          refine wpAnyH_take (i := 4) (oi := rvo4) (v := ?v4_rc) rfl (by as_aux_lemma => kernel_rfl) (by as_aux_lemma => kernel_rfl) (by as_aux_lemma => kernel_rfl) (fun _ _ _ h => h) (Or.inl ⟨by rfl, ?hy4_rc⟩) (HS5.out _ hBc) ?_
          case hy4_rc =>
            intro w hSw
            try dsimp only at hSw
            go_simp <;> with_reducible rfl
          try simp only [Act.put, List.setIfInBounds_toArray, List.set_cons_zero, List.set_cons_succ]
          refine wpAnyH_take (i := 5) (oi := rvo5) (v := ?v5_rc) rfl (by as_aux_lemma => kernel_rfl) (by as_aux_lemma => kernel_rfl) (by as_aux_lemma => kernel_rfl) (fun _ _ _ h => h) (Or.inl ⟨by rfl, ?hy5_rc⟩) (HS5.out _ hBc) ?_
          case hy5_rc =>
            intro w hSw
            try dsimp only at hSw
            go_simp <;> with_reducible rfl
          try simp only [Act.put, List.setIfInBounds_toArray, List.set_cons_zero, List.set_cons_succ]
          refine wpAnyH_take (i := 6) (oi := rvo6) (v := ?v6_rc) rfl (by as_aux_lemma => kernel_rfl) (by as_aux_lemma => kernel_rfl) (by as_aux_lemma => kernel_rfl) (fun _ _ _ h => h) (Or.inl ⟨by rfl, ?hy6_rc⟩) (HS5.out _ hBc) ?_
          case hy6_rc =>
            intro w hSw
            try dsimp only at hSw
            go_simp <;> with_reducible rfl
          try simp only [Act.put, List.setIfInBounds_toArray, List.set_cons_zero, List.set_cons_succ]
          refine wpAnyH_take (i := 7) (oi := rvo7) (v := ?v7_rc) rfl (by as_aux_lemma => kernel_rfl) (by as_aux_lemma => kernel_rfl) (by as_aux_lemma => kernel_rfl) (fun _ _ _ h => h) (Or.inl ⟨by rfl, ?hy7_rc⟩) (HS5.out _ hBc) ?_
          case hy7_rc =>
            intro w hSw
            try dsimp only at hSw
            go_simp <;> with_reducible rfl
          try simp only [Act.put, List.setIfInBounds_toArray, List.set_cons_zero, List.set_cons_succ]
          refine wpAnyH_take (i := 8) (oi := rvo8) (v := ?v8_rc) rfl (by as_aux_lemma => kernel_rfl) (by as_aux_lemma => kernel_rfl) (by as_aux_lemma => kernel_rfl) (fun _ _ _ h => h) (Or.inl ⟨by rfl, ?hy8_rc⟩) (HS5.out _ hBc) ?_
          case hy8_rc =>
            intro w hSw
            try dsimp only at hSw
            go_simp <;> with_reducible rfl
          try simp only [Act.put, List.setIfInBounds_toArray, List.set_cons_zero, List.set_cons_succ]
          refine wpAnyH_take (i := 9) (oi := rvo9) (v := ?v9_rc) rfl (by as_aux_lemma => kernel_rfl) (by as_aux_lemma => kernel_rfl) (by as_aux_lemma => kernel_rfl) (fun _ _ _ h => h) (Or.inl ⟨by rfl, ?hy9_rc⟩) (HS5.out _ hBc) ?_
          case hy9_rc =>
            intro w hSw
            try dsimp only at hSw
            go_simp <;> with_reducible rfl
          try simp only [Act.put, List.setIfInBounds_toArray, List.set_cons_zero, List.set_cons_succ]
          refine wpAnyH_take (i := 10) (oi := rvo10) (v := ?v10_rc) rfl (by as_aux_lemma => kernel_rfl) (by as_aux_lemma => kernel_rfl) (by as_aux_lemma => kernel_rfl) (fun _ _ _ h => h) (Or.inl ⟨by rfl, ?hy10_rc⟩) (HS5.out _ hBc) ?_
          case hy10_rc =>
            intro w hSw
            try dsimp only at hSw
            go_simp <;> with_reducible rfl
          try simp only [Act.put, List.setIfInBounds_toArray, List.set_cons_zero, List.set_cons_succ]
          refine wpAnyH_take (i := 11) (oi := rvo11) (v := ?v11_rc) rfl (by as_aux_lemma => kernel_rfl) (by as_aux_lemma => kernel_rfl) (by as_aux_lemma => kernel_rfl) (fun _ _ _ h => h) (Or.inl ⟨by rfl, ?hy11_rc⟩) (HS5.out _ hBc) ?_
          case hy11_rc =>
            intro w hSw
            try dsimp only at hSw
            go_simp <;> with_reducible rfl
          try simp only [Act.put, List.setIfInBounds_toArray, List.set_cons_zero, List.set_cons_succ]
          refine wpAnyH_take (i := 12) (oi := rvo12) (v := ?v12_rc) rfl (by as_aux_lemma => kernel_rfl) (by as_aux_lemma => kernel_rfl) (by as_aux_lemma => kernel_rfl) (fun _ _ _ h => h) (Or.inl ⟨by rfl, ?hy12_rc⟩) (HS5.out _ hBc) ?_
          case hy12_rc =>
            intro w hSw
            try dsimp only at hSw
            go_simp <;> with_reducible rfl
          try simp only [Act.put, List.setIfInBounds_toArray, List.set_cons_zero, List.set_cons_succ]
          refine wpAnyH_take (i := 13) (oi := rvo13) (v := ?v13_rc) rfl (by as_aux_lemma => kernel_rfl) (by as_aux_lemma => kernel_rfl) (by as_aux_lemma => kernel_rfl) (fun _ _ _ h => h) (Or.inl ⟨by rfl, ?hy13_rc⟩) (HS5.out _ hBc) ?_
          case hy13_rc =>
            intro w hSw
            try dsimp only at hSw
            go_simp <;> with_reducible rfl
          try simp only [Act.put, List.setIfInBounds_toArray, List.set_cons_zero, List.set_cons_succ]
          refine wpAnyH_take (i := 14) (oi := rvo14) (v := undef) rfl (by as_aux_lemma => kernel_rfl) (by as_aux_lemma => kernel_rfl) (by as_aux_lemma => kernel_rfl) (fun _ _ _ h => h) (Or.inr ⟨by rfl, rfl⟩) (HS5.out _ hBc) ?_
          try simp only [Act.put, List.setIfInBounds_toArray, List.set_cons_zero, List.set_cons_succ]
          refine wpAnyH_take (i := 15) (oi := rvo15) (v := undef) rfl (by as_aux_lemma => kernel_rfl) (by as_aux_lemma => kernel_rfl) (by as_aux_lemma => kernel_rfl) (fun _ _ _ h => h) (Or.inr ⟨by rfl, rfl⟩) (HS5.out _ hBc) ?_
          try simp only [Act.put, List.setIfInBounds_toArray, List.set_cons_zero, List.set_cons_succ]
          refine wpAnyH_take (i := 16) (oi := rvo16) (v := undef) rfl (by as_aux_lemma => kernel_rfl) (by as_aux_lemma => kernel_rfl) (by as_aux_lemma => kernel_rfl) (fun _ _ _ h => h) (Or.inr ⟨by rfl, rfl⟩) (HS5.out _ hBc) ?_
          try simp only [Act.put, List.setIfInBounds_toArray, List.set_cons_zero, List.set_cons_succ]
          refine wpAnyH_take (i := 17) (oi := rvo17) (v := undef) rfl (by as_aux_lemma => kernel_rfl) (by as_aux_lemma => kernel_rfl) (by as_aux_lemma => kernel_rfl) (fun _ _ _ h => h) (Or.inr ⟨by rfl, rfl⟩) (HS5.out _ hBc) ?_
          try simp only [Act.put, List.setIfInBounds_toArray, List.set_cons_zero, List.set_cons_succ]
          refine wpAnyH_take (i := 18) (oi := rvo18) (v := undef) rfl (by as_aux_lemma => kernel_rfl) (by as_aux_lemma => kernel_rfl) (by as_aux_lemma => kernel_rfl) (fun _ _ _ h => h) (Or.inr ⟨by rfl, rfl⟩) (HS5.out _ hBc) ?_
          try simp only [Act.put, List.setIfInBounds_toArray, List.set_cons_zero, List.set_cons_succ]
          refine wpAnyH_take (i := 19) (oi := rvo19) (v := undef) rfl (by as_aux_lemma => kernel_rfl) (by as_aux_lemma => kernel_rfl) (by as_aux_lemma => kernel_rfl) (fun _ _ _ h => h) (Or.inr ⟨by rfl, rfl⟩) (HS5.out _ hBc) ?_
          try simp only [Act.put, List.setIfInBounds_toArray, List.set_cons_zero, List.set_cons_succ]
          refine wpAnyH_take (i := 20) (oi := rvo20) (v := undef) rfl (by as_aux_lemma => kernel_rfl) (by as_aux_lemma => kernel_rfl) (by as_aux_lemma => kernel_rfl) (fun _ _ _ h => h) (Or.inr ⟨by rfl, rfl⟩) (HS5.out _ hBc) ?_
          try simp only [Act.put, List.setIfInBounds_toArray, List.set_cons_zero, List.set_cons_succ]
          refine wpAnyH_take (i := 21) (oi := rvo21) (v := undef) rfl (by as_aux_lemma => kernel_rfl) (by as_aux_lemma => kernel_rfl) (by as_aux_lemma => kernel_rfl) (fun _ _ _ h => h) (Or.inr ⟨by rfl, rfl⟩) (HS5.out _ hBc) ?_
          try simp only [Act.put, List.setIfInBounds_toArray, List.set_cons_zero, List.set_cons_succ]
          refine wpAnyH_take (i := 22) (oi := rvo22) (v := undef) rfl (by as_aux_lemma => kernel_rfl) (by as_aux_lemma => kernel_rfl) (by as_aux_lemma => kernel_rfl) (fun _ _ _ h => h) (Or.inr ⟨by rfl, rfl⟩) (HS5.out _ hBc) ?_
          try simp only [Act.put, List.setIfInBounds_toArray, List.set_cons_zero, List.set_cons_succ]
          refine wpAnyH_take (i := 23) (oi := rvo23) (v := ?v23_rc) rfl (by as_aux_lemma => kernel_rfl) (by as_aux_lemma => kernel_rfl) (by as_aux_lemma => kernel_rfl) (fun _ _ _ h => h) (Or.inl ⟨by rfl, ?hy23_rc⟩) (HS5.out _ hBc) ?_
          case hy23_rc =>
            intro w hSw
            try dsimp only at hSw
            go_simp <;> with_reducible rfl
          try simp only [Act.put, List.setIfInBounds_toArray, List.set_cons_zero, List.set_cons_succ]
          refine wpAnyH_done (by as_aux_lemma => kernel_rfl) ?_ _
          
          have HB2 := hidI (HF.out _ (HW3.out.trans (hBc.mono HW3.out.size)))
          clear hBc m0 m3 n3 HW3 q0 q3 HS5
          go_wp2
          go_ret
          exact ⟨Tells.no HE.out, HB2.out⟩
      have hk1 : ¬ ((k : Int) < nc) := by omega
      have HE : Hid (SOk S) := ⟨K1.out, K2.out, K3.out, K4.out, K5.out, fun i hi => HALL.out i hi (by have := HNC.out; omega)⟩
      have HB1 := hidI (HF.out _ hbel)
      clear HALL
      go_wp2
      go_ret
      exact ⟨Tells.yes HE.out, HB1.out⟩

end Go.Proofs.Ytajihpcihlbjgaa
