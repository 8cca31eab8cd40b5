/- Which of two parts is ahead: what the ranks tell; when parts are right, as the program asks. A right state, as the specification asks. When a part is right for itself, as the program tells it. When a Live is right for itself, as the program tells it: of a map. -/
import Derived.Deep.RegionHeld3
import Derived.Test.YtdknoflkingodaaGreatM1
import Derived.Test.YtdknoflkingodaaGreatM2
import Derived.Test.YtdknoflkingodaaGreatM3
import Derived.Test.YtdknoflkingodaaGreatM4
import Derived.Test.YtdknoflkingodaaGreatM5
import Derived.Test.YtdknoflkingodaaGreatM6
import Derived.Test.YtdknoflkingodaaGreatM7
import Derived.Test.YtdknoflkingodaaGreatM8
import Derived.Test.YtdknoflkingodaaGreatM9
import Derived.Test.YtdknoflkingodaaGreatM10
import Derived.Test.YtdknoflkingodaaGreatM11
import Derived.Test.YtdknoflkingodaaGreatM12
import Derived.Test.YtdknoflkingodaaGreatM13
import Derived.Test.YtdknoflkingodaaGreatM14
import Derived.Test.YtdknoflkingodaaGreatM15
import Derived.Test.YtdknoflkingodaaGreatM16
import Derived.Test.YtdknoflkingodaaGreatM17
import Derived.Test.YtdknoflkingodaaGreatM18
namespace Go.Proofs.YtdknoflkingodaaGreat
set_option maxRecDepth 100000
set_option linter.unusedVariables false
theorem cmpB_cases : ∀ a b : List UInt8, (Lib.compareBytes a b = -1 ∧ a < b) ∨ (Lib.compareBytes a b = 0 ∧ a = b) ∨ (Lib.compareBytes a b = 1 ∧ b < a)
 | [], [] => .inr (.inl ⟨rfl, rfl⟩)
 | [], _ :: _ => .inl ⟨rfl, List.nil_lt_cons _ _⟩
 | _ :: _, [] => .inr (.inr ⟨rfl, List.nil_lt_cons _ _⟩)
 | x :: a, y :: b => by
  unfold Lib.compareBytes
  by_cases h : x < y
  ·rw [if_pos h]; exact .inl ⟨rfl, List.cons_lt_cons_iff.2 (.inl h)⟩
  ·rw [if_neg h]
   by_cases h2 : y < x
   ·rw [if_pos h2]; exact .inr (.inr ⟨rfl, List.cons_lt_cons_iff.2 (.inl h2)⟩)
   ·rw [if_neg h2]
    have e : x = y := by
     apply UInt8.toNat_inj.1
     have h3 : ¬ x.toNat < y.toNat := h
     have h4 : ¬ y.toNat < x.toNat := h2
     omega
    subst e
    rcases cmpB_cases a b with ⟨h3, h4⟩ | ⟨h3, h4⟩ | ⟨h3, h4⟩
    ·exact .inl ⟨h3, List.cons_lt_cons_iff.2 (.inr ⟨rfl, h4⟩)⟩
    ·exact .inr (.inl ⟨h3, by rw [h4]⟩)
    ·exact .inr (.inr ⟨h3, List.cons_lt_cons_iff.2 (.inr ⟨rfl, h4⟩)⟩)
def rkT (o o' : ByteArray) (r r' : Int) : Int := or3 (Lib.compareBytes o.data.toList o'.data.toList) (cmpI r r') (cmpI 0 0)
def rkD (r s r' s' : Int) : Int := or3 (Lib.compareBytes [] []) (cmpI r r') (cmpI s s')
theorem rkT_cases (a b : Ta) : (taLt a b ∧ rkT a.o b.o a.r b.r < 0) ∨ (¬ taLt a b ∧ 0 ≤ rkT a.o b.o a.r b.r) := by
 have h0 : rkT a.o b.o a.r b.r = if Lib.compareBytes a.o.data.toList b.o.data.toList = 0 then (if cmpI a.r b.r = 0 then 0 else cmpI a.r b.r) else Lib.compareBytes a.o.data.toList b.o.data.toList := rfl
 rw [h0]
 unfold taLt
 rcases cmpB_cases a.o.data.toList b.o.data.toList with ⟨h1, h2⟩ | ⟨h1, h2⟩ | ⟨h1, h2⟩
 ·left; rw [h1]; exact ⟨.inl h2, by simp⟩
 ·have e : a.o = b.o := ByteArray.ext (Array.ext' h2)
  rw [h1, e]
  unfold cmpI
  by_cases h3 : a.r < b.r
  ·left; simp [h3]
  ·right
   refine ⟨fun h => ?_, ?_⟩
   ·rcases h with h | h
    ·exact List.lt_irrefl _ h
    ·exact h3 h.2
   ·simp only [if_neg h3]
    by_cases h4 : b.r < a.r <;> simp [h4]
 ·right; rw [h1]
  refine ⟨fun h => ?_, by simp⟩
  rcases h with h | h
  ·exact List.lt_irrefl _ (List.lt_trans h h2)
  ·rw [h.1] at h2; exact List.lt_irrefl _ h2
theorem rkD_cases (r s r' s' : Int) : (doLt r s r' s' ∧ rkD r s r' s' < 0) ∨ ((r = r' ∧ s = s') ∧ rkD r s r' s' = 0) ∨ (doLt r' s' r s ∧ 0 < rkD r s r' s') := by
 have h0 : rkD r s r' s' = if cmpI r r' = 0 then cmpI s s' else cmpI r r' := rfl
 rw [h0]
 unfold cmpI doLt
 by_cases h1 : r < r'
 ·left; simp [h1]
 ·by_cases h2 : r' < r
  ·right; right; simp [h1, h2]
  ·have e : r = r' := by omega
   subst e
   by_cases h3 : s < s'
   ·left; simp [h3]
   ·by_cases h4 : s' < s
    ·right; right; simp [h3, h4]
    ·right; left; simp [h3, h4]; omega
def liR (l : List Int) (a : Li) : Prop := knows l a.r a.s = true ∧ NOk a.o ∧ NOk a.y ∧ (0 ≤ a.v ∧ a.v ≤ 999999) ∧ (a.m = false → a.v = 0)
def ceR (l : List Int) (a : Ce) : Prop := knows l a.r a.s = true ∧ NOk a.o ∧ (0 ≤ a.v ∧ a.v ≤ 999999) ∧ (1 ≤ a.t ∧ a.t ≤ 10000)
/-- As many as may be, each right, in order. -/
def PartsOk {α : Type} (ok : α → Prop) (lt : α → α → Prop) (l : List α) : Prop := l.length ≤ 120 ∧ Asc ok lt l
end Go.Proofs.YtdknoflkingodaaGreat
namespace Go.Proofs.YtdknoflkingodaaGreat
set_option maxRecDepth 100000
set_option linter.unusedVariables false
open Go.RowKit
/-- What a cell stands behind is there. -/
def RefIn (C : List Ce) (a : Ce) : Prop := (a.x = 0 ∧ a.z = 0) ∨ ∃ k, ∃ h : k < C.length, cellAt C a.x a.z 0 = (k : Int) ∧ C[k].o = a.o ∧ C[k].t < a.t
def SOk (S : Sta) : Prop := KOk S.l ∧ TalOk S.T ∧ LivOk S.L ∧ CelOk S.C ∧ (∀ i (h : i < S.L.length), knows S.l S.L[i].r S.L[i].s = true) ∧ (∀ i (h : i < S.C.length), knows S.l S.C[i].r S.C[i].s = true ∧ RefIn S.C S.C[i])
def Small (S : Sta) : Prop := S.l.length ≤ 1048576 ∧ S.T.length ≤ 1048576 ∧ S.L.length ≤ 1048576 ∧ S.C.length ≤ 1048576
def Named (S : Sta) : Prop := (∀ a ∈ S.T, a.o.size ≤ 1048576) ∧ (∀ a ∈ S.L, a.o.size ≤ 1048576 ∧ a.y.size ≤ 1048576) ∧ (∀ a ∈ S.C, a.o.size ≤ 1048576)
theorem cellAt_range : ∀ (l : List Ce) (r s k : Int), 0 ≤ k → cellAt l r s k = -1 ∨ (k ≤ cellAt l r s k ∧ cellAt l r s k < k + l.length)
 | [], r, s, k, _ => .inl rfl
 | c :: l, r, s, k, hk => by
  unfold cellAt
  by_cases h : c.r = r ∧ c.s = s
  ·rw [if_pos h]; right; simp only [List.length_cons]; omega
  ·rw [if_neg h]
   rcases cellAt_range l r s (k + 1) (by omega) with e | e
   ·exact .inl e
   ·right; simp only [List.length_cons]; omega
abbrev rvo0 : Oper := oq 72 (.move (.tmp 6)) 3 "l06_state.go:71" #[] none
abbrev rvo1 : Oper := oq 73 (.binOp .lss 3 (.tmp 72) (.const (.int .i64 0)) 3) 4 "l06_state.go:71" #[eD 0] none
abbrev rvo2 : Oper := oq 74 (.move (.tmp 73)) 4 "l06_state.go:71" #[eD 1] none
abbrev rvo3 : Oper := oq 75 (.fieldAddr 29 (.tmp 1) 3) 0 "l06_state.go:71" #[eG 2] (some (2, false))
abbrev rvo4 : Oper := oq 76 (.load 27 (.tmp 75)) 27 "l06_state.go:71" #[eD 3, eG 2] (some (2, false))
abbrev rvo5 : Oper := oq 77 (.move (.tmp 6)) 3 "l06_state.go:71" #[eG 2] (some (2, false))
abbrev rvo6 : Oper := oq 78 (.indexAddr 27 (.tmp 76) (.tmp 77)) 0 "l06_state.go:71" #[eD 4, eD 5, eG 2] (some (2, false))
abbrev rvo7 : Oper := oq 79 (.fieldAddr 35 (.tmp 78) 0) 0 "l06_state.go:71" #[eD 6, eG 2] (some (2, false))
abbrev rvo8 : Oper := oq 80 (.load 9 (.tmp 79)) 9 "l06_state.go:71" #[eD 7, eG 2] (some (2, false))
abbrev rvo9 : Oper := oq 81 (.fieldAddr 35 (.tmp 5) 0) 0 "l06_state.go:71" #[eG 2] (some (2, false))
abbrev rvo10 : Oper := oq 82 (.load 9 (.tmp 81)) 9 "l06_state.go:71" #[eD 9, eG 2] (some (2, false))
abbrev rvo11 : Oper := oq 83 (.binOp .neq 9 (.tmp 80) (.tmp 82) 9) 4 "l06_state.go:71" #[eD 8, eD 10, eG 2] (some (2, false))
abbrev rvo12 : Oper := oq 84 (.pick (.tmp 74) (.const (.bool true)) (.tmp 83)) 4 "l06_state.go:71" #[eD 2, eD 11] none
abbrev rvo13 : Oper := oq 85 (.move (.tmp 84)) 4 "l06_state.go:71" #[eD 12, eC 2] none
abbrev rvo14 : Oper := oq 86 (.fieldAddr 29 (.tmp 1) 3) 0 "l06_state.go:71" #[eG 13] (some (13, false))
abbrev rvo15 : Oper := oq 87 (.load 27 (.tmp 86)) 27 "l06_state.go:71" #[eD 14, eG 13] (some (13, false))
abbrev rvo16 : Oper := oq 88 (.move (.tmp 6)) 3 "l06_state.go:71" #[eG 13] (some (13, false))
abbrev rvo17 : Oper := oq 89 (.indexAddr 27 (.tmp 87) (.tmp 88)) 0 "l06_state.go:71" #[eD 15, eD 16, eG 13] (some (13, false))
abbrev rvo18 : Oper := oq 90 (.fieldAddr 35 (.tmp 89) 2) 0 "l06_state.go:71" #[eD 17, eG 13] (some (13, false))
abbrev rvo19 : Oper := oq 91 (.load 3 (.tmp 90)) 3 "l06_state.go:71" #[eD 18, eG 13] (some (13, false))
abbrev rvo20 : Oper := oq 92 (.fieldAddr 35 (.tmp 5) 2) 0 "l06_state.go:71" #[eG 13] (some (13, false))
abbrev rvo21 : Oper := oq 93 (.load 3 (.tmp 92)) 3 "l06_state.go:71" #[eD 20, eG 13] (some (13, false))
abbrev rvo22 : Oper := oq 94 (.binOp .geq 3 (.tmp 91) (.tmp 93) 3) 4 "l06_state.go:71" #[eD 19, eD 21, eG 13] (some (13, false))
abbrev rvo23 : Oper := oq 95 (.pick (.tmp 85) (.const (.bool true)) (.tmp 94)) 4 "l06_state.go:71" #[eD 13, eD 22] none
set_option maxHeartbeats 16000000 in
theorem specStateOk_calls (S : Sta) (u0 u1 u2 u3 : Value) (w : World) (hn : Small S) (hst : Named S) (h : StAt w S u0 u1 u2 u3) :
  Calls Tryz.prog 21 #[.agg #[u0, u1, u2, u3]] w fun e w' => Tells e (SOk S) ∧ Below w.heap.size w w' := by
 obtain ⟨a0, c0, a1, c1, a2, c2, a3, c3, rfl, rfl, rfl, rfl⟩ := h.shape
 obtain ⟨W, hW⟩ : ∃ W, W = w.alloc (.cells #[.slice a0 S.l.length c0, .slice a1 S.T.length c1, .slice a2 S.L.length c2, .slice a3 S.C.length c3] 29) := ⟨_, rfl⟩
 have HB : Hid (Below w.heap.size w W) := by rw [hW]; exact (Below.refl _ _).alloc (Nat.le_refl _) _
 have hS : StAt W S (.slice a0 S.l.length c0) (.slice a1 S.T.length c1) (.slice a2 S.L.length c2) (.slice a3 S.C.length c3) := by rw [hW]; exact h.alloc _
 have hR : Row W w.heap.size #[.slice a0 S.l.length c0, .slice a1 S.T.length c1, .slice a2 S.L.length c2, .slice a3 S.C.length c3] 29 := by rw [hW]; exact row_new w _ _ rfl
 have HS : Hid (∀ wx, Below W.heap.size W wx → StAt wx S (.slice a0 S.l.length c0) (.slice a1 S.T.length c1) (.slice a2 S.L.length c2) (.slice a3 S.C.length c3)) := fun wx h => hS.below h
 have HR : Hid (∀ wx, Below W.heap.size W wx → wx.cell? ⟨w.heap.size, 0, none⟩ = some (.slice a0 S.l.length c0) ∧ wx.cell? ⟨w.heap.size, 1, none⟩ = some (.slice a1 S.T.length c1) ∧ wx.cell? ⟨w.heap.size, 2, none⟩ = some (.slice a2 S.L.length c2) ∧ wx.cell? ⟨w.heap.size, 3, none⟩ = some (.slice a3 S.C.length c3)) := fun wx h => Row.four (hR.next h)
 have HK : Hid (∀ wx, Below W.heap.size W wx → Calls Tryz.prog 77 #[.slice a0 S.l.length c0] wx fun e w' => e = .returned (.bool (decide (KOk S.l))) ∧ w' = wx) := fun wx h => specKnowOk_calls S.l _ wx hn.1 (HS.out wx h).1
 have HT : Hid (∀ wx, Below W.heap.size W wx → Calls Tryz.prog 78 #[.slice a1 S.T.length c1] wx fun e w' => Tells e (TalOk S.T) ∧ Below wx.heap.size wx w') := fun wx h => specTallies_calls S.T _ wx hn.2.1 hst.1 (HS.out wx h).2.1
 have HL : Hid (∀ wx, Below W.heap.size W wx → Calls Tryz.prog 79 #[.slice a2 S.L.length c2] wx fun e w' => Tells e (LivOk S.L) ∧ Below wx.heap.size wx w') := fun wx h => specLives_calls S.L _ wx hn.2.2.1 hst.2.1 (HS.out wx h).2.2.1
 have HC : Hid (∀ wx, Below W.heap.size W wx → Calls Tryz.prog 80 #[.slice a3 S.C.length c3] wx fun e w' => Tells e (CelOk S.C) ∧ Below wx.heap.size wx w') := fun wx h => specCells_calls S.C _ wx hn.2.2.2 hst.2.2 (HS.out wx h).2.2.2
 have HKN : Hid (∀ wx r s, Below W.heap.size W wx → Calls Tryz.prog 34 #[.slice a0 S.l.length c0, .agg #[.int .i64 r, .int .i64 s]] wx fun e w' => e = .returned (.bool (knows S.l r s)) ∧ Below wx.heap.size wx w') := fun wx r s h => specKnows_calls S.l _ r s wx hn.1 (HS.out wx h).1
 have HCA : Hid (∀ wx r s, Below W.heap.size W wx → Calls Tryz.prog 24 #[.agg #[.slice a0 S.l.length c0, .slice a1 S.T.length c1, .slice a2 S.L.length c2, .slice a3 S.C.length c3], .agg #[.int .i64 r, .int .i64 s]] wx fun e w' => e = .returned (.int .i64 (cellAt S.C r s 0)) ∧ Below wx.heap.size wx w') := fun wx r s h => specCellAt_calls S _ _ _ _ r s wx hn.2.2.2 (HS.out wx h)
 have HF : Hid (∀ wx, Below W.heap.size W wx → Below w.heap.size w wx) := fun wx h => HB.out.trans (h.mono HB.out.size)
 have HLG : Hid (∀ wx, Below W.heap.size W wx → LiG wx a2 S.L) := fun wx h => by
  obtain ⟨x, y, hq, hg⟩ := (HS.out wx h).2.2.1
  simp only [Value.slice.injEq] at hq
  rw [hq.1]; exact hg
 have HCG : Hid (∀ wx, Below W.heap.size W wx → CeG wx a3 S.C) := fun wx h => by
  obtain ⟨x, y, hq, hg⟩ := (HS.out wx h).2.2.2
  simp only [Value.slice.injEq] at hq
  rw [hq.1]; exact hg
 have hW0 : Below W.heap.size W W := Below.refl _ _
 have HW : Hid (w.alloc (.cells #[.slice a0 S.l.length c0, .slice a1 S.T.length c1, .slice a2 S.L.length c2, .slice a3 S.C.length c3] 29) = W) := hW.symm
 obtain ⟨d0, d1, d2, d3⟩ := HR.out W hW0
 rw [hW] at d0 d1 d2 d3
 obtain ⟨nl, hnl⟩ : ∃ n, n = S.L.length := ⟨_, rfl⟩
 obtain ⟨nc, hnc⟩ : ∃ n, n = S.C.length := ⟨_, rfl⟩
 have HNL := hidI hnl
 have HNC := hidI hnc
 have hnl2 : nl ≤ 1048576 := by rw [hnl]; exact hn.2.2.1
 have hnc2 : nc ≤ 1048576 := by rw [hnc]; exact hn.2.2.2
 clear hW h hS hR hst hnl hnc hn
 go_enter Tryz.func21, Tryz.ntmps21
 go_wp2_with fail
 rw [HW.out]
 refine (HK.out _ hW0).mono ?_
 rintro e w1 ⟨rfl, hw⟩
 replace hw := hw.symm
 subst hw
 clear d0 d1 d2 d3
 by_cases k1 : KOk S.l
 case neg =>
  rw [decide_eq_false k1]
  have HE : Hid (¬ SOk S) := fun h => k1 h.1
  have HB1 := hidI (HF.out _ hW0)
  clear k1
  go_wp2
  go_ret
  exact ⟨Tells.no HE.out, HB1.out⟩
 rw [decide_eq_true k1]
 have K1 := hidI k1
 clear k1 HK HW

 obtain ⟨d0, d1, d2, d3⟩ := HR.out _ hW0
 go_wp2_with fail
 refine (HT.out _ hW0).mono ?_
 rintro e x0 ⟨⟨q, rfl, hq⟩, hb⟩
 have hX0 : Below W.heap.size W x0 := hW0.trans (hb.mono hW0.size)
 clear hb d0 d1 d2 d3 HT
 cases q with
 | false =>
  have HE : Hid (¬ SOk S) := fun h => by have := hq.2 h.2.1; cases this
  have HB1 := hidI (HF.out _ hX0)
  clear hq
  go_wp2
  go_ret
  exact ⟨Tells.no HE.out, HB1.out⟩
 | true =>
 have K2 : Hid (TalOk S.T) := hq.1 rfl
 clear hq
 obtain ⟨d0, d1, d2, d3⟩ := HR.out _ hX0
 go_wp2_with fail
 refine (HL.out _ hX0).mono ?_
 rintro e x1 ⟨⟨q, rfl, hq⟩, hb⟩
 have hX1 : Below W.heap.size W x1 := hX0.trans (hb.mono hX0.size)
 clear hb d0 d1 d2 d3 HL
 cases q with
 | false =>
  have HE : Hid (¬ SOk S) := fun h => by have := hq.2 h.2.2.1; cases this
  have HB1 := hidI (HF.out _ hX1)
  clear hq
  go_wp2
  go_ret
  exact ⟨Tells.no HE.out, HB1.out⟩
 | true =>
 have K3 : Hid (LivOk S.L) := hq.1 rfl
 clear hq
 obtain ⟨d0, d1, d2, d3⟩ := HR.out _ hX1
 go_wp2_with fail
 refine (HC.out _ hX1).mono ?_
 rintro e x2 ⟨⟨q, rfl, hq⟩, hb⟩
 have hX2 : Below W.heap.size W x2 := hX1.trans (hb.mono hX1.size)
 clear hb d0 d1 d2 d3 HC
 cases q with
 | false =>
  have HE : Hid (¬ SOk S) := fun h => by have := hq.2 h.2.2.2.1; cases this
  have HB1 := hidI (HF.out _ hX2)
  clear hq
  go_wp2
  go_ret
  exact ⟨Tells.no HE.out, HB1.out⟩
 | true =>
 have K4 : Hid (CelOk S.C) := hq.1 rfl
 clear hq
 go_wp2
 go_loopw [3] (fun z wr => ∃ k : Nat, k ≤ nl ∧ z = .int .i64 k ∧ (∀ i (h : i < S.L.length), i < k → knows S.l S.L[i].r S.L[i].s = true) ∧ Below W.heap.size W wr) (fun z _ => nl - (intOf z).toNat)
 case atStart => exact ⟨0, Nat.zero_le _, rfl, fun i _ h => by omega, hX2⟩
 case round =>
  obtain ⟨k, hk, rfl, hall, hbel⟩ := hrel
  have HALL := hidI hall
  have HBE := hidI hbel
  obtain ⟨d0, d1, d2, d3⟩ := HR.out _ hbel
  rw [← HNL.out] at d2
  clear hall hX2
  by_cases hlt : k < nl
  ·have hkl : k < S.L.length := by rw [← HNL.out]; exact hlt
   obtain ⟨g, f, rfl, hg, hcc⟩ := HLG.out W (Below.refl _ _) (by omega)
   have hk1 : (k : Int) < nl := by omega
   have hk0 : (0 : Int) ≤ k := by omega
   have HMO : Hid (knows S.l S.L[k].r S.L[k].s = true → ∀ i (h : i < S.L.length), i < k + 1 → knows S.l S.L[i].r S.L[i].s = true) := fun hx i hi hik => by
    by_cases e : i = k
    ·subst e; exact hx
    ·exact HALL.out i hi (by omega)
   have HNO : Hid (knows S.l S.L[k].r S.L[k].s = false → ¬ SOk S) := fun hx h => by have := h.2.2.2.2.1 k hkl; rw [hx] at this; cases this
   have HXC : Hid (∀ wx, Below W.heap.size W wx → wx.cell? ⟨g, f + k * 6 + 4, none⟩ = some (.int .i64 S.L[k].r) ∧ wx.cell? ⟨g, f + k * 6 + 5, none⟩ = some (.int .i64 S.L[k].s)) := fun wx h => by
    have := (hcc k hkl).below h hg
    exact ⟨this.2.2.2.2.1, this.2.2.2.2.2⟩
   have HKX := hidI (fun wx h => HKN.out wx S.L[k].r S.L[k].s h)
   generalize S.L[k].r = xr at *
   generalize S.L[k].s = xs at *
   generalize knows S.l xr xs = kb at *
   obtain ⟨e0, e1⟩ := HXC.out _ hbel
   have hVd : Below W.heap.size W wr.drew := hbel.drew
   have HAL : Hid (∀ wx, Below W.heap.size W wx → wx.cell? ⟨w.heap.size, 0, none⟩ = some (.slice a0 S.l.length c0) ∧ wx.cell? ⟨w.heap.size, 2, none⟩ = some (.slice (some ⟨g, f, none⟩) nl c2) ∧ wx.cell? ⟨g, f + k * 6 + 4, none⟩ = some (.int .i64 xr) ∧ wx.cell? ⟨g, f + k * 6 + 5, none⟩ = some (.int .i64 xs)) := fun wx h => by
    obtain ⟨z0, z1, z2, z3⟩ := HR.out wx h
    obtain ⟨y0, y1⟩ := HXC.out wx h
    rw [← HNL.out] at z2
    exact ⟨z0, z2, y0, y1⟩
   have SS := HAL.out _ hVd
   clear hcc hkl
   go_wp2
   go_region_held3 (fun w' => w'.cell? ⟨w.heap.size, 0, none⟩ = some (.slice a0 S.l.length c0) ∧ w'.cell? ⟨w.heap.size, 2, none⟩ = some (.slice (some ⟨g, f, none⟩) nl c2) ∧ w'.cell? ⟨g, f + k * 6 + 4, none⟩ = some (.int .i64 xr) ∧ w'.cell? ⟨g, f + k * 6 + 5, none⟩ = some (.int .i64 xs)) (first | exact SS | exact SS2 | go_keep) (first
    | (go_at_call 34; refine (HKX.out _ hVd).mono ?_; rintro e w2 ⟨rfl, hb2⟩; have hV2 : Below W.heap.size W w2 := hVd.trans (hb2.mono hVd.size); have SS2 := HAL.out _ hV2))
   have HV2 := hidI hV2
   clear SS SS2 hVd hb2 hV2 e0 e1 d0 d1 d2 d3 hbel HKX HAL HXC
   cases kb with
   | true =>
    have HE := hidI (HMO.out rfl)
    go_wp2
    go_roundw
    case rel => exact ⟨k + 1, by omega, by go_num, HE.out, HV2.out⟩
    case measure => simp [intOf]; omega
   | false =>
    have HE := hidI (HNO.out rfl)
    have HB1 := hidI (HF.out _ HV2.out)
    go_wp2
    go_ret
    exact ⟨Tells.no HE.out, HB1.out⟩
  have hk1 : ¬ ((k : Int) < nl) := by omega
  have K5 : Hid (∀ i (h : i < S.L.length), knows S.l S.L[i].r S.L[i].s = true) := fun i hi => HALL.out i hi (by have := HNL.out; omega)
  clear HALL
  go_wp2
  rename World => Z
  go_loopw [4] (fun z wr => ∃ k : Nat, k ≤ nc ∧ z = .int .i64 k ∧ (∀ i (h : i < S.C.length), i < k → knows S.l S.C[i].r S.C[i].s = true ∧ RefIn S.C S.C[i]) ∧ Below W.heap.size W wr) (fun z _ => nc - (intOf z).toNat)
  case atStart => exact ⟨0, Nat.zero_le _, rfl, fun i _ h => by omega, HBE.out⟩
  case round =>
   clear HBE
   obtain ⟨k, hk, rfl, hall, hbel⟩ := hrel
   have HALL := hidI hall
   have HBE := hidI hbel
   have hsz := hbel.size
   obtain ⟨d0, d1, d2, d3⟩ := HR.out _ hbel
   rw [← HNC.out] at d3
   clear hall
   by_cases hlt : k < nc
   ·have hkl : k < S.C.length := by rw [← HNC.out]; exact hlt
    obtain ⟨g, f, rfl, hg, hcc⟩ := HCG.out W (Below.refl _ _) (by omega)
    have hk1 : (k : Int) < nc := by omega
    have hk0 : (0 : Int) ≤ k := by omega
    have q := (hcc k hkl).below hbel hg
    have HCC : Hid (∀ j (h : j < S.C.length) wx, Below W.heap.size W wx → ceC wx g (f + j * 8) S.C[j]) := fun j h wx hb => (hcc j h).below hb hg
    have HMO : Hid (knows S.l S.C[k].r S.C[k].s = true → RefIn S.C S.C[k] → ∀ i (h : i < S.C.length), i < k + 1 → knows S.l S.C[i].r S.C[i].s = true ∧ RefIn S.C S.C[i]) := fun hx hy i hi hik => by
     by_cases e : i = k
     ·subst e; exact ⟨hx, hy⟩
     ·exact HALL.out i hi (by omega)
    have HNO : Hid (knows S.l S.C[k].r S.C[k].s = false → ¬ SOk S) := fun hx h => by have := (h.2.2.2.2.2 k hkl).1; rw [hx] at this; cases this
    have HNR : Hid (¬ RefIn S.C S.C[k] → ¬ SOk S) := fun hx h => hx (h.2.2.2.2.2 k hkl).2
    have HKX := hidI (fun wx h => HKN.out wx S.C[k].r S.C[k].s h)
    generalize S.C[k] = x at *
    generalize hkb : knows S.l x.r x.s = kb at *
    unfold ceC at q
    obtain ⟨q0, q1, q2, q3, q4, q5, q6, q7⟩ := q
    obtain ⟨WW, hWW⟩ : ∃ WW, WW = wr.alloc (.cells #[.string x.o, .int .i64 x.r, .int .i64 x.s, .int .i64 x.t, .int .i64 x.x, .int .i64 x.z, .int .i64 x.v, .bool x.g] 35) := ⟨_, rfl⟩
    have hBW : Below W.heap.size W WW := by rw [hWW]; exact hbel.alloc hsz _
    have hRW : Row WW wr.heap.size #[.string x.o, .int .i64 x.r, .int .i64 x.s, .int .i64 x.t, .int .i64 x.x, .int .i64 x.z, .int .i64 x.v, .bool x.g] 35 := by rw [hWW]; exact row_new wr _ _ rfl
    have HRX : Hid (∀ wx, Below WW.heap.size WW wx → wx.cell? ⟨wr.heap.size, 0, none⟩ = some (.string x.o) ∧ wx.cell? ⟨wr.heap.size, 1, none⟩ = some (.int .i64 x.r) ∧ wx.cell? ⟨wr.heap.size, 2, none⟩ = some (.int .i64 x.s) ∧ wx.cell? ⟨wr.heap.size, 3, none⟩ = some (.int .i64 x.t) ∧ wx.cell? ⟨wr.heap.size, 4, none⟩ = some (.int .i64 x.x) ∧ wx.cell? ⟨wr.heap.size, 5, none⟩ = some (.int .i64 x.z)) := fun wx h => ⟨(hRW.next h).cell 0 rfl, (hRW.next h).cell 1 rfl, (hRW.next h).cell 2 rfl, (hRW.next h).cell 3 rfl, (hRW.next h).cell 4 rfl, (hRW.next h).cell 5 rfl⟩
    have HWW : Hid (wr.alloc (.cells #[.string x.o, .int .i64 x.r, .int .i64 x.s, .int .i64 x.t, .int .i64 x.x, .int .i64 x.z, .int .i64 x.v, .bool x.g] 35) = WW) := hWW.symm
    obtain ⟨n0, n1, n2, n3⟩ := HR.out _ hBW
    obtain ⟨m0, m1, m2, m3, m4, m5⟩ := HRX.out _ (Below.refl _ _)
    rw [hWW] at n0 m1 m2
    clear hcc hkl hWW hRW n1 n2 n3 m0 m3 m4 m5
    go_wp2_with fail
    rw [HWW.out]
    refine (HKX.out _ hBW).mono ?_
    rintro e w2 ⟨rfl, hb2⟩
    have hX2 : Below WW.heap.size WW w2 := hb2
    have hW2 : Below W.heap.size W w2 := hBW.trans (hb2.mono hBW.size)
    clear hb2 n0 m1 m2 HKX HWW q0 q1 q2 q3 q4 q5 q6 q7 d0 d1 d2 d3 hbel
    cases kb with
    | false =>
     have HE := hidI (HNO.out rfl)
     have HB1 := hidI (HF.out _ hW2)
     clear hkb
     go_wp2
     go_ret
     exact ⟨Tells.no HE.out, HB1.out⟩
    | true =>
    replace HMO := hidI (HMO.out rfl)
    clear hkb HNO
    have hgd := dot_guard
    obtain ⟨m0, m1, m2, m3, m4, m5⟩ := HRX.out _ hX2
    by_cases hz : x.x = 0 ∧ x.z = 0
    ·have heq : ∀ wx, (Op.equalIn 10000 33 (.agg #[.int .i64 x.x, .int .i64 x.z]) (.agg #[.int .i64 0, .int .i64 0])).run Tryz.prog wx = .ok true wx := fun wx => by rw [eqDot_zero, decide_eq_true hz]
     have HE := hidI (HMO.out (.inl hz))
     have HW2 := hidI hW2
     clear hz hW2
     go_wp2
     go_roundw
     case rel => exact ⟨k + 1, by omega, by go_num, HE.out, HW2.out⟩
     case measure => simp [intOf]; omega
    have heq : ∀ wx, (Op.equalIn 10000 33 (.agg #[.int .i64 x.x, .int .i64 x.z]) (.agg #[.int .i64 0, .int .i64 0])).run Tryz.prog wx = .ok false wx := fun wx => by rw [eqDot_zero, decide_eq_false hz]
    obtain ⟨n0, n1, n2, n3⟩ := HR.out _ hW2
    have HCX := hidI (HCA.out w2 x.x x.z hW2)
    have HZ := hidI hz
    have hrg := cellAt_range S.C x.x x.z 0 (by omega)
    have HRI : Hid (∀ j (h : j < S.C.length), cellAt S.C x.x x.z 0 = (j : Int) → (RefIn S.C x ↔ S.C[j].o = x.o ∧ S.C[j].t < x.t)) := fun j h e => by
     constructor
     ·rintro (h1 | ⟨i, hi, h1, h2⟩)
      ·exact absurd h1 HZ.out
      ·have : i = j := by omega
       subst this; exact h2
     ·intro h1; exact .inr ⟨j, h, e, h1⟩
    have HRN : Hid (cellAt S.C x.x x.z 0 = -1 → ¬ RefIn S.C x) := fun e h => by
     rcases h with h | ⟨i, hi, h1, -⟩
     ·exact HZ.out h
     ·omega
    generalize cellAt S.C x.x x.z 0 = KK at *
    clear hz
    go_wp2_with fail
    refine HCX.out.mono ?_
    rintro e w3 ⟨rfl, hb3⟩
    have hX3 : Below WW.heap.size WW w3 := hX2.trans (hb3.mono hX2.size)
    have hW3 : Below W.heap.size W w3 := hW2.trans (hb3.mono hW2.size)
    clear hb3 heq HCX m0 m1 m2 m3 m4 m5 n0 n1 n2 n3 hX2 hW2
    obtain ⟨m0, m1, m2, m3, m4, m5⟩ := HRX.out _ hX3
    obtain ⟨n0, n1, n2, n3⟩ := HR.out _ hW3
    rw [← HNC.out] at n3
    have HW3 := hidI hW3
    clear n0 n1 n2 m1 m2 m4 m5
    rcases hrg with hk | ⟨hr1, hr2⟩
    ·subst hk
     have HE := hidI (HNR.out (HRN.out rfl))
     clear HRI HRN HNR HMO hW3 hX3
     go_wp2
     go_quiet (fail)
     have HB2 := hidI (HF.out _ (below_drewN HW3.out nq))
     generalize w3.drewN nq = wq at *
     clear m0 m3 n3 HW3
     go_wp2
     go_ret
     exact ⟨Tells.no HE.out, HB2.out⟩
    obtain ⟨j, hj⟩ : ∃ j : Nat, KK = j := Int.eq_ofNat_of_zero_le hr1
    subst hj
    have hjl : j < S.C.length := by omega
    have hj1 : (j : Int) < nc := by have := HNC.out; omega
    have hj0 : (0 : Int) ≤ j := by omega
    have hjn : ¬ ((j : Int) < 0) := by omega
    have HRJ := hidI (HRI.out j hjl rfl)
    have q := HCC.out j hjl w3 hW3
    obtain ⟨y, hyy⟩ : ∃ y, y = S.C[j] := ⟨_, rfl⟩
    rw [← hyy] at q HRJ
    unfold ceC at q
    obtain ⟨q0, q1, q2, q3, q4, q5, q6, q7⟩ := q
    have HS5 : Hid (∀ wx, Below w3.heap.size w3 wx → wx.cell? ⟨w.heap.size, 3, none⟩ = some (.slice (some ⟨g, f, none⟩) nc c3) ∧ wx.cell? ⟨wr.heap.size, 0, none⟩ = some (.string x.o) ∧ wx.cell? ⟨wr.heap.size, 3, none⟩ = some (.int .i64 x.t) ∧ wx.cell? ⟨g, f + j * 8, none⟩ = some (.string y.o) ∧ wx.cell? ⟨g, f + j * 8 + 3, none⟩ = some (.int .i64 y.t)) := fun wx h => by
     have hq := HCC.out j hjl wx (HW3.out.trans (h.mono HW3.out.size))
     obtain ⟨z0, z1, z2, z3⟩ := HR.out wx (HW3.out.trans (h.mono HW3.out.size))
     obtain ⟨y0, y1, y2, y3, y4, y5⟩ := HRX.out wx (hX3.trans (h.mono hX3.size))
     rw [← HNC.out] at z3
     rw [← hyy] at hq
     exact ⟨z3, y0, y3, hq.1, hq.2.2.2.1⟩
    clear q1 q2 q4 q5 q6 q7 hjl hr1 hr2 HRI HRN hW3 hX3 hyy
    by_cases ho : y.o = x.o
    ·have b1 := beq_str y.o x.o ho
     have b2 : (y.o.toList != x.o.toList) = false := by simp [bne, b1]
     by_cases ht : y.t < x.t
     ·have HE := hidI (HMO.out (HRJ.out.2 ⟨ho, ht⟩))
      clear HRJ HMO HNR ho
      go_wp2
      try simp only [List.append_eq, List.cons_append, List.nil_append]
      have hBc : Below w3.heap.size w3 w3.drew := (Below.refl _ _).drew
      refine wp_region_held_drew (S := (fun w' => w'.cell? ⟨w.heap.size, 3, none⟩ = some (.slice (some ⟨g, f, none⟩) nc c3) ∧ w'.cell? ⟨wr.heap.size, 0, none⟩ = some (.string x.o) ∧ w'.cell? ⟨wr.heap.size, 3, none⟩ = some (.int .i64 x.t) ∧ w'.cell? ⟨g, f + j * 8, none⟩ = some (.string y.o) ∧ w'.cell? ⟨g, f + j * 8 + 3, none⟩ = some (.int .i64 y.t))) (by kernel_rfl) (HS5.out _ hBc) (fun _ => ?_)
      refine wpAnyH_list (l' := #[false, false, false, false, false, false, false, false, false, false, false, false, false, false, false, false, false, false, false, false, false, false, false, false]) (by as_aux_lemma => kernel_rfl) ?_
      refine tk 0 rvo0 (HS5.out _ hBc) ?_; simp only [sq]; refine tk 1 rvo1 (HS5.out _ hBc) ?_; simp only [sq]; refine tk 2 rvo2 (HS5.out _ hBc) ?_; simp only [sq]; refine tk 3 rvo3 (HS5.out _ hBc) ?_; simp only [sq]; refine tk 4 rvo4 (HS5.out _ hBc) ?_; simp only [sq]; refine tk 5 rvo5 (HS5.out _ hBc) ?_; simp only [sq]; refine tk 6 rvo6 (HS5.out _ hBc) ?_; simp only [sq]; refine tk 7 rvo7 (HS5.out _ hBc) ?_; simp only [sq]; refine tk 8 rvo8 (HS5.out _ hBc) ?_; simp only [sq]; refine tk 9 rvo9 (HS5.out _ hBc) ?_; simp only [sq]; refine tk 10 rvo10 (HS5.out _ hBc) ?_; simp only [sq]; refine tk 11 rvo11 (HS5.out _ hBc) ?_; simp only [sq]; refine tk 12 rvo12 (HS5.out _ hBc) ?_; simp only [sq]; refine tk 13 rvo13 (HS5.out _ hBc) ?_; simp only [sq]; refine tk 14 rvo14 (HS5.out _ hBc) ?_; simp only [sq]; refine tk 15 rvo15 (HS5.out _ hBc) ?_; simp only [sq]; refine tk 16 rvo16 (HS5.out _ hBc) ?_; simp only [sq]; refine tk 17 rvo17 (HS5.out _ hBc) ?_; simp only [sq]; refine tk 18 rvo18 (HS5.out _ hBc) ?_; simp only [sq]; refine tk 19 rvo19 (HS5.out _ hBc) ?_; simp only [sq]; refine tk 20 rvo20 (HS5.out _ hBc) ?_; simp only [sq]; refine tk 21 rvo21 (HS5.out _ hBc) ?_; simp only [sq]; refine tk 22 rvo22 (HS5.out _ hBc) ?_; simp only [sq]; refine tk 23 rvo23 (HS5.out _ hBc) ?_; simp only [sq]
      refine wpAnyH_done (by as_aux_lemma => kernel_rfl) ?_ _
      
      have HB2 := hidI ((HW3.out.trans (hBc.mono HW3.out.size)))
      clear hBc m0 m3 n3 HW3 q0 q3 HS5
      go_wp2
      go_roundw
      case rel => exact ⟨k + 1, by omega, by go_num, HE.out, HB2.out⟩
      case measure => simp [intOf]; omega
     ·have HE := hidI (HNR.out (fun h => ht (HRJ.out.1 h).2))
      clear HRJ HMO HNR ho
      go_wp2
      try simp only [List.append_eq, List.cons_append, List.nil_append]
      have hBc : Below w3.heap.size w3 w3.drew := (Below.refl _ _).drew
      refine wp_region_held_drew (S := (fun w' => w'.cell? ⟨w.heap.size, 3, none⟩ = some (.slice (some ⟨g, f, none⟩) nc c3) ∧ w'.cell? ⟨wr.heap.size, 0, none⟩ = some (.string x.o) ∧ w'.cell? ⟨wr.heap.size, 3, none⟩ = some (.int .i64 x.t) ∧ w'.cell? ⟨g, f + j * 8, none⟩ = some (.string y.o) ∧ w'.cell? ⟨g, f + j * 8 + 3, none⟩ = some (.int .i64 y.t))) (by kernel_rfl) (HS5.out _ hBc) (fun _ => ?_)
      refine wpAnyH_list (l' := #[false, false, false, false, false, false, false, false, false, false, false, false, false, false, false, false, false, false, false, false, false, false, false, false]) (by as_aux_lemma => kernel_rfl) ?_
      refine tk 0 rvo0 (HS5.out _ hBc) ?_; simp only [sq]; refine tk 1 rvo1 (HS5.out _ hBc) ?_; simp only [sq]; refine tk 2 rvo2 (HS5.out _ hBc) ?_; simp only [sq]; refine tk 3 rvo3 (HS5.out _ hBc) ?_; simp only [sq]; refine tk 4 rvo4 (HS5.out _ hBc) ?_; simp only [sq]; refine tk 5 rvo5 (HS5.out _ hBc) ?_; simp only [sq]; refine tk 6 rvo6 (HS5.out _ hBc) ?_; simp only [sq]; refine tk 7 rvo7 (HS5.out _ hBc) ?_; simp only [sq]; refine tk 8 rvo8 (HS5.out _ hBc) ?_; simp only [sq]; refine tk 9 rvo9 (HS5.out _ hBc) ?_; simp only [sq]; refine tk 10 rvo10 (HS5.out _ hBc) ?_; simp only [sq]; refine tk 11 rvo11 (HS5.out _ hBc) ?_; simp only [sq]; refine tk 12 rvo12 (HS5.out _ hBc) ?_; simp only [sq]; refine tk 13 rvo13 (HS5.out _ hBc) ?_; simp only [sq]; refine tk 14 rvo14 (HS5.out _ hBc) ?_; simp only [sq]; refine tk 15 rvo15 (HS5.out _ hBc) ?_; simp only [sq]; refine tk 16 rvo16 (HS5.out _ hBc) ?_; simp only [sq]; refine tk 17 rvo17 (HS5.out _ hBc) ?_; simp only [sq]; refine tk 18 rvo18 (HS5.out _ hBc) ?_; simp only [sq]; refine tk 19 rvo19 (HS5.out _ hBc) ?_; simp only [sq]; refine tk 20 rvo20 (HS5.out _ hBc) ?_; simp only [sq]; refine tk 21 rvo21 (HS5.out _ hBc) ?_; simp only [sq]; refine tk 22 rvo22 (HS5.out _ hBc) ?_; simp only [sq]; refine tk 23 rvo23 (HS5.out _ hBc) ?_; simp only [sq]
      refine wpAnyH_done (by as_aux_lemma => kernel_rfl) ?_ _
      
      have HB2 := hidI (HF.out _ (HW3.out.trans (hBc.mono HW3.out.size)))
      clear hBc m0 m3 n3 HW3 q0 q3 HS5
      go_wp2
      go_ret
      exact ⟨Tells.no HE.out, HB2.out⟩
    ·have b1 := beq_str_no y.o x.o ho
     have b2 : (y.o.toList != x.o.toList) = true := by simp [bne, b1]
     have HE := hidI (HNR.out (fun h => ho (HRJ.out.1 h).1))
     clear HRJ HMO HNR ho
     go_wp2
     try simp only [List.append_eq, List.cons_append, List.nil_append]
     have hBc : Below w3.heap.size w3 w3.drew := (Below.refl _ _).drew
     refine wp_region_held_drew (S := (fun w' => w'.cell? ⟨w.heap.size, 3, none⟩ = some (.slice (some ⟨g, f, none⟩) nc c3) ∧ w'.cell? ⟨wr.heap.size, 0, none⟩ = some (.string x.o) ∧ w'.cell? ⟨wr.heap.size, 3, none⟩ = some (.int .i64 x.t) ∧ w'.cell? ⟨g, f + j * 8, none⟩ = some (.string y.o) ∧ w'.cell? ⟨g, f + j * 8 + 3, none⟩ = some (.int .i64 y.t))) (by kernel_rfl) (HS5.out _ hBc) (fun _ => ?_)
     refine wpAnyH_list (l' := #[false, false, false, false, false, false, false, false, false, false, false, false, false, false, false, false, false, false, false, false, false, false, false, false]) (by as_aux_lemma => kernel_rfl) ?_
     refine tk 0 rvo0 (HS5.out _ hBc) ?_; simp only [sq]; refine tk 1 rvo1 (HS5.out _ hBc) ?_; simp only [sq]; refine tk 2 rvo2 (HS5.out _ hBc) ?_; simp only [sq]; refine tk 3 rvo3 (HS5.out _ hBc) ?_; simp only [sq]; refine tk 4 rvo4 (HS5.out _ hBc) ?_; simp only [sq]; refine tk 5 rvo5 (HS5.out _ hBc) ?_; simp only [sq]; refine tk 6 rvo6 (HS5.out _ hBc) ?_; simp only [sq]; refine tk 7 rvo7 (HS5.out _ hBc) ?_; simp only [sq]; refine tk 8 rvo8 (HS5.out _ hBc) ?_; simp only [sq]; refine tk 9 rvo9 (HS5.out _ hBc) ?_; simp only [sq]; refine tk 10 rvo10 (HS5.out _ hBc) ?_; simp only [sq]; refine tk 11 rvo11 (HS5.out _ hBc) ?_; simp only [sq]; refine tk 12 rvo12 (HS5.out _ hBc) ?_; simp only [sq]; refine tk 13 rvo13 (HS5.out _ hBc) ?_; simp only [sq]; refine sk 14 rvo14 (HS5.out _ hBc) ?_; simp only [sq]; refine sk 15 rvo15 (HS5.out _ hBc) ?_; simp only [sq]; refine sk 16 rvo16 (HS5.out _ hBc) ?_; simp only [sq]; refine sk 17 rvo17 (HS5.out _ hBc) ?_; simp only [sq]; refine sk 18 rvo18 (HS5.out _ hBc) ?_; simp only [sq]; refine sk 19 rvo19 (HS5.out _ hBc) ?_; simp only [sq]; refine sk 20 rvo20 (HS5.out _ hBc) ?_; simp only [sq]; refine sk 21 rvo21 (HS5.out _ hBc) ?_; simp only [sq]; refine sk 22 rvo22 (HS5.out _ hBc) ?_; simp only [sq]; refine tk 23 rvo23 (HS5.out _ hBc) ?_; simp only [sq]
     refine wpAnyH_done (by as_aux_lemma => kernel_rfl) ?_ _
     
     have HB2 := hidI (HF.out _ (HW3.out.trans (hBc.mono HW3.out.size)))
     clear hBc m0 m3 n3 HW3 q0 q3 HS5
     go_wp2
     go_ret
     exact ⟨Tells.no HE.out, HB2.out⟩
   have hk1 : ¬ ((k : Int) < nc) := by omega
   have HE : Hid (SOk S) := ⟨K1.out, K2.out, K3.out, K4.out, K5.out, fun i hi => HALL.out i hi (by have := HNC.out; omega)⟩
   have HB1 := hidI (HF.out _ hbel)
   clear HALL
   go_wp2
   go_ret
   exact ⟨Tells.yes HE.out, HB1.out⟩
end Go.Proofs.YtdknoflkingodaaGreat
namespace Go.Proofs.YtdknoflkingodaaGreat
set_option maxRecDepth 100000
set_option linter.unusedVariables false
open Go.RowKit
set_option maxHeartbeats 4000000 in
theorem cellRight_calls (x : Ce) (l : List Int) (u : Value) (w : World) (ho : x.o.size ≤ 1048576) (hu : IntsAt w u l) :
  Calls Tryz.prog 326 #[.agg #[.string x.o, .int .i64 x.r, .int .i64 x.s, .int .i64 x.t, .int .i64 x.x, .int .i64 x.z, .int .i64 x.v, .bool x.g], u] w fun e w' => Tells e ((knows l x.r x.s = true) ∧ (NOk x.o) ∧ (0 ≤ x.v ∧ x.v ≤ 999999) ∧ (1 ≤ x.t ∧ x.t ≤ 10000)) ∧ Below w.heap.size w w' := by
 obtain ⟨W, hW⟩ : ∃ W, W = w.alloc (.cells #[.string x.o, .int .i64 x.r, .int .i64 x.s, .int .i64 x.t, .int .i64 x.x, .int .i64 x.z, .int .i64 x.v, .bool x.g] 35) := ⟨_, rfl⟩
 have hR : Row W w.heap.size #[.string x.o, .int .i64 x.r, .int .i64 x.s, .int .i64 x.t, .int .i64 x.x, .int .i64 x.z, .int .i64 x.v, .bool x.g] 35 := by rw [hW]; exact row_new w _ _ rfl
 have hB : Below w.heap.size w W := by rw [hW]; exact (Below.refl _ _).alloc (Nat.le_refl _) _
 have hI : IntsAt W u l := hu.below hB
 have HR := hidI hR
 have HW : Hid (w.alloc (.cells #[.string x.o, .int .i64 x.r, .int .i64 x.s, .int .i64 x.t, .int .i64 x.x, .int .i64 x.z, .int .i64 x.v, .bool x.g] 35) = W) := hW.symm
 have HB := hidI hB
 have HK := hidI (knows_calls l u x.r x.s W hI)
 have HV : Hid (∀ wx, Calls Tryz.prog 328 #[.int .i64 x.v] wx fun e w' => e = .returned (.bool (decide (0 ≤ x.v ∧ x.v ≤ 999999))) ∧ w' = wx) := fun wx => valOk_calls x.v wx
 have HNO : Hid (∀ wx, Calls Tryz.prog 327 #[.string x.o] wx fun e w' => e = .returned (.bool (decide (NOk x.o))) ∧ w' = wx) := fun wx => implNameOk_calls x.o (by unfold maxLen; omega) wx
 have HT : Hid (∀ wx, Calls Tryz.prog 329 #[.int .i64 x.t] wx fun e w' => e = .returned (.bool (decide (1 ≤ x.t ∧ x.t ≤ 10000))) ∧ w' = wx) := fun wx => timeOk_calls x.t wx
 have d0 := HR.out.cell 0 rfl
 have d1 := HR.out.cell 1 rfl
 have d2 := HR.out.cell 2 rfl
 have d3 := HR.out.cell 3 rfl
 have d4 := HR.out.cell 4 rfl
 have d5 := HR.out.cell 5 rfl
 have d6 := HR.out.cell 6 rfl
 have d7 := HR.out.cell 7 rfl
 rw [hW] at d0 d1 d2 d3 d4 d5 d6 d7
 clear hW hR hB hI hu
 by_cases q0 : knows l x.r x.s = true
 case neg =>
  have HN : Hid (¬ ((knows l x.r x.s = true) ∧ (NOk x.o) ∧ (0 ≤ x.v ∧ x.v ≤ 999999) ∧ (1 ≤ x.t ∧ x.t ≤ 10000))) := fun h => q0 h.1
  rw [show knows l x.r x.s = false by simpa using q0] at HK
  clear q0
  go_enter Tryz.func326, Tryz.ntmps326
  go_wp2_with fail
  rw [HW.out]
  refine HK.out.mono ?_
  rintro e w1 ⟨rfl, hb⟩
  have HR1 := hidI (HR.out.next hb)
  have HB1 := hidI (HB.out.trans (hb.mono HB.out.size))
  clear hb d0 d1 d2 d3 d4 d5 d6 d7
  have d0 := HR1.out.cell 0 rfl
  have d1 := HR1.out.cell 1 rfl
  have d2 := HR1.out.cell 2 rfl
  have d3 := HR1.out.cell 3 rfl
  have d4 := HR1.out.cell 4 rfl
  have d5 := HR1.out.cell 5 rfl
  have d6 := HR1.out.cell 6 rfl
  have d7 := HR1.out.cell 7 rfl
  first | rw [hkn] | skip
  go_wp2_with (first | (go_at_call 327; refine (HNO.out _).mono ?_; rintro e w2 ⟨rfl, rfl⟩) | (go_at_call 328; refine (HV.out _).mono ?_; rintro e w2 ⟨rfl, rfl⟩) | (go_at_call 329; refine (HT.out _).mono ?_; rintro e w2 ⟨rfl, rfl⟩))
  go_ret
  exact ⟨Tells.no HN.out, HB1.out⟩
 rw [q0] at HK
 by_cases q1 : NOk x.o
 case neg =>
  have HN : Hid (¬ ((knows l x.r x.s = true) ∧ (NOk x.o) ∧ (0 ≤ x.v ∧ x.v ≤ 999999) ∧ (1 ≤ x.t ∧ x.t ≤ 10000))) := fun h => q1 h.2.1
  rw [decide_eq_false q1] at HNO
  clear q0 q1
  go_enter Tryz.func326, Tryz.ntmps326
  go_wp2_with fail
  rw [HW.out]
  refine HK.out.mono ?_
  rintro e w1 ⟨rfl, hb⟩
  have HR1 := hidI (HR.out.next hb)
  have HB1 := hidI (HB.out.trans (hb.mono HB.out.size))
  clear hb d0 d1 d2 d3 d4 d5 d6 d7
  have d0 := HR1.out.cell 0 rfl
  have d1 := HR1.out.cell 1 rfl
  have d2 := HR1.out.cell 2 rfl
  have d3 := HR1.out.cell 3 rfl
  have d4 := HR1.out.cell 4 rfl
  have d5 := HR1.out.cell 5 rfl
  have d6 := HR1.out.cell 6 rfl
  have d7 := HR1.out.cell 7 rfl
  go_wp2_with (first | (go_at_call 327; refine (HNO.out _).mono ?_; rintro e w2 ⟨rfl, rfl⟩) | (go_at_call 328; refine (HV.out _).mono ?_; rintro e w2 ⟨rfl, rfl⟩) | (go_at_call 329; refine (HT.out _).mono ?_; rintro e w2 ⟨rfl, rfl⟩))
  go_ret
  exact ⟨Tells.no HN.out, HB1.out⟩
 rw [decide_eq_true q1] at HNO
 by_cases q2 : 0 ≤ x.v ∧ x.v ≤ 999999
 case neg =>
  have HN : Hid (¬ ((knows l x.r x.s = true) ∧ (NOk x.o) ∧ (0 ≤ x.v ∧ x.v ≤ 999999) ∧ (1 ≤ x.t ∧ x.t ≤ 10000))) := fun h => q2 h.2.2.1
  rw [decide_eq_false q2] at HV
  clear q0 q1 q2
  go_enter Tryz.func326, Tryz.ntmps326
  go_wp2_with fail
  rw [HW.out]
  refine HK.out.mono ?_
  rintro e w1 ⟨rfl, hb⟩
  have HR1 := hidI (HR.out.next hb)
  have HB1 := hidI (HB.out.trans (hb.mono HB.out.size))
  clear hb d0 d1 d2 d3 d4 d5 d6 d7
  have d0 := HR1.out.cell 0 rfl
  have d1 := HR1.out.cell 1 rfl
  have d2 := HR1.out.cell 2 rfl
  have d3 := HR1.out.cell 3 rfl
  have d4 := HR1.out.cell 4 rfl
  have d5 := HR1.out.cell 5 rfl
  have d6 := HR1.out.cell 6 rfl
  have d7 := HR1.out.cell 7 rfl
  go_wp2_with (first | (go_at_call 327; refine (HNO.out _).mono ?_; rintro e w2 ⟨rfl, rfl⟩) | (go_at_call 328; refine (HV.out _).mono ?_; rintro e w2 ⟨rfl, rfl⟩) | (go_at_call 329; refine (HT.out _).mono ?_; rintro e w2 ⟨rfl, rfl⟩))
  go_ret
  exact ⟨Tells.no HN.out, HB1.out⟩
 rw [decide_eq_true q2] at HV
 by_cases q3 : 1 ≤ x.t ∧ x.t ≤ 10000
 case neg =>
  have HN : Hid (¬ ((knows l x.r x.s = true) ∧ (NOk x.o) ∧ (0 ≤ x.v ∧ x.v ≤ 999999) ∧ (1 ≤ x.t ∧ x.t ≤ 10000))) := fun h => q3 h.2.2.2
  rw [decide_eq_false q3] at HT
  clear q0 q1 q2 q3
  go_enter Tryz.func326, Tryz.ntmps326
  go_wp2_with fail
  rw [HW.out]
  refine HK.out.mono ?_
  rintro e w1 ⟨rfl, hb⟩
  have HR1 := hidI (HR.out.next hb)
  have HB1 := hidI (HB.out.trans (hb.mono HB.out.size))
  clear hb d0 d1 d2 d3 d4 d5 d6 d7
  have d0 := HR1.out.cell 0 rfl
  have d1 := HR1.out.cell 1 rfl
  have d2 := HR1.out.cell 2 rfl
  have d3 := HR1.out.cell 3 rfl
  have d4 := HR1.out.cell 4 rfl
  have d5 := HR1.out.cell 5 rfl
  have d6 := HR1.out.cell 6 rfl
  have d7 := HR1.out.cell 7 rfl
  go_wp2_with (first | (go_at_call 327; refine (HNO.out _).mono ?_; rintro e w2 ⟨rfl, rfl⟩) | (go_at_call 328; refine (HV.out _).mono ?_; rintro e w2 ⟨rfl, rfl⟩) | (go_at_call 329; refine (HT.out _).mono ?_; rintro e w2 ⟨rfl, rfl⟩))
  go_ret
  exact ⟨Tells.no HN.out, HB1.out⟩
 rw [decide_eq_true q3] at HT
 have HN : Hid ((knows l x.r x.s = true) ∧ (NOk x.o) ∧ (0 ≤ x.v ∧ x.v ≤ 999999) ∧ (1 ≤ x.t ∧ x.t ≤ 10000)) := ⟨q0, q1, q2, q3⟩
 clear q0 q1 q2 q3
 go_enter Tryz.func326, Tryz.ntmps326
 go_wp2_with fail
 rw [HW.out]
 refine HK.out.mono ?_
 rintro e w1 ⟨rfl, hb⟩
 have HR1 := hidI (HR.out.next hb)
 have HB1 := hidI (HB.out.trans (hb.mono HB.out.size))
 clear hb d0 d1 d2 d3 d4 d5 d6 d7
 have d0 := HR1.out.cell 0 rfl
 have d1 := HR1.out.cell 1 rfl
 have d2 := HR1.out.cell 2 rfl
 have d3 := HR1.out.cell 3 rfl
 have d4 := HR1.out.cell 4 rfl
 have d5 := HR1.out.cell 5 rfl
 have d6 := HR1.out.cell 6 rfl
 have d7 := HR1.out.cell 7 rfl
 go_wp2_with (first | (go_at_call 327; refine (HNO.out _).mono ?_; rintro e w2 ⟨rfl, rfl⟩) | (go_at_call 328; refine (HV.out _).mono ?_; rintro e w2 ⟨rfl, rfl⟩) | (go_at_call 329; refine (HT.out _).mono ?_; rintro e w2 ⟨rfl, rfl⟩))
 go_ret
 exact ⟨Tells.yes HN.out, HB1.out⟩
end Go.Proofs.YtdknoflkingodaaGreat
namespace Go.Proofs.YtdknoflkingodaaGreat
set_option maxRecDepth 100000
set_option linter.unusedVariables false
open Go.RowKit
set_option maxHeartbeats 4000000 in
theorem liveRight_true (x : Li) (l : List Int) (u : Value) (w : World) (ho : x.o.size ≤ 1048576) (hy : x.y.size ≤ 1048576) (hu : IntsAt w u l) :
  Calls Tryz.prog 331 #[.agg #[.bool true, .string x.o, .string x.y, .int .i64 x.v, .int .i64 x.r, .int .i64 x.s], u] w fun e w' => Tells e ((knows l x.r x.s = true) ∧ (NOk x.o) ∧ (NOk x.y) ∧ (0 ≤ x.v ∧ x.v ≤ 999999)) ∧ Below w.heap.size w w' := by
 obtain ⟨W, hW⟩ : ∃ W, W = w.alloc (.cells #[.bool true, .string x.o, .string x.y, .int .i64 x.v, .int .i64 x.r, .int .i64 x.s] 40) := ⟨_, rfl⟩
 have hR : Row W w.heap.size #[.bool true, .string x.o, .string x.y, .int .i64 x.v, .int .i64 x.r, .int .i64 x.s] 40 := by rw [hW]; exact row_new w _ _ rfl
 have hB : Below w.heap.size w W := by rw [hW]; exact (Below.refl _ _).alloc (Nat.le_refl _) _
 have hI : IntsAt W u l := hu.below hB
 have HR := hidI hR
 have HW : Hid (w.alloc (.cells #[.bool true, .string x.o, .string x.y, .int .i64 x.v, .int .i64 x.r, .int .i64 x.s] 40) = W) := hW.symm
 have HB := hidI hB
 have HK := hidI (knows_calls l u x.r x.s W hI)
 have HV : Hid (∀ wx, Calls Tryz.prog 328 #[.int .i64 x.v] wx fun e w' => e = .returned (.bool (decide (0 ≤ x.v ∧ x.v ≤ 999999))) ∧ w' = wx) := fun wx => valOk_calls x.v wx
 have HNO : Hid (∀ wx, Calls Tryz.prog 327 #[.string x.o] wx fun e w' => e = .returned (.bool (decide (NOk x.o))) ∧ w' = wx) := fun wx => implNameOk_calls x.o (by unfold maxLen; omega) wx
 have HNY : Hid (∀ wx, Calls Tryz.prog 327 #[.string x.y] wx fun e w' => e = .returned (.bool (decide (NOk x.y))) ∧ w' = wx) := fun wx => implNameOk_calls x.y (by unfold maxLen; omega) wx
 have d0 := HR.out.cell 0 rfl
 have d1 := HR.out.cell 1 rfl
 have d2 := HR.out.cell 2 rfl
 have d3 := HR.out.cell 3 rfl
 have d4 := HR.out.cell 4 rfl
 have d5 := HR.out.cell 5 rfl
 rw [hW] at d0 d1 d2 d3 d4 d5
 clear hW hR hB hI hu
 by_cases q0 : knows l x.r x.s = true
 case neg =>
  have HN : Hid (¬ ((knows l x.r x.s = true) ∧ (NOk x.o) ∧ (NOk x.y) ∧ (0 ≤ x.v ∧ x.v ≤ 999999))) := fun h => q0 h.1
  rw [show knows l x.r x.s = false by simpa using q0] at HK
  clear q0
  go_enter Tryz.func331, Tryz.ntmps331
  go_wp2_with fail
  rw [HW.out]
  refine HK.out.mono ?_
  rintro e w1 ⟨rfl, hb⟩
  have HR1 := hidI (HR.out.next hb)
  have HB1 := hidI (HB.out.trans (hb.mono HB.out.size))
  clear hb d0 d1 d2 d3 d4 d5
  have d0 := HR1.out.cell 0 rfl
  have d1 := HR1.out.cell 1 rfl
  have d2 := HR1.out.cell 2 rfl
  have d3 := HR1.out.cell 3 rfl
  have d4 := HR1.out.cell 4 rfl
  have d5 := HR1.out.cell 5 rfl
  first | rw [hkn] | skip
  go_wp2_with (first | (go_at_call 327; refine (HNO.out _).mono ?_; rintro e w2 ⟨rfl, rfl⟩; clear HNO) | (go_at_call 327; refine (HNY.out _).mono ?_; rintro e w2 ⟨rfl, rfl⟩) | (go_at_call 328; refine (HV.out _).mono ?_; rintro e w2 ⟨rfl, rfl⟩))
  go_ret
  exact ⟨Tells.no HN.out, HB1.out⟩
 rw [q0] at HK
 by_cases q1 : NOk x.o
 case neg =>
  have HN : Hid (¬ ((knows l x.r x.s = true) ∧ (NOk x.o) ∧ (NOk x.y) ∧ (0 ≤ x.v ∧ x.v ≤ 999999))) := fun h => q1 h.2.1
  rw [decide_eq_false q1] at HNO
  clear q0 q1
  go_enter Tryz.func331, Tryz.ntmps331
  go_wp2_with fail
  rw [HW.out]
  refine HK.out.mono ?_
  rintro e w1 ⟨rfl, hb⟩
  have HR1 := hidI (HR.out.next hb)
  have HB1 := hidI (HB.out.trans (hb.mono HB.out.size))
  clear hb d0 d1 d2 d3 d4 d5
  have d0 := HR1.out.cell 0 rfl
  have d1 := HR1.out.cell 1 rfl
  have d2 := HR1.out.cell 2 rfl
  have d3 := HR1.out.cell 3 rfl
  have d4 := HR1.out.cell 4 rfl
  have d5 := HR1.out.cell 5 rfl
  go_wp2_with (first | (go_at_call 327; refine (HNO.out _).mono ?_; rintro e w2 ⟨rfl, rfl⟩; clear HNO) | (go_at_call 327; refine (HNY.out _).mono ?_; rintro e w2 ⟨rfl, rfl⟩) | (go_at_call 328; refine (HV.out _).mono ?_; rintro e w2 ⟨rfl, rfl⟩))
  go_ret
  exact ⟨Tells.no HN.out, HB1.out⟩
 rw [decide_eq_true q1] at HNO
 by_cases q2 : NOk x.y
 case neg =>
  have HN : Hid (¬ ((knows l x.r x.s = true) ∧ (NOk x.o) ∧ (NOk x.y) ∧ (0 ≤ x.v ∧ x.v ≤ 999999))) := fun h => q2 h.2.2.1
  rw [decide_eq_false q2] at HNY
  clear q0 q1 q2
  go_enter Tryz.func331, Tryz.ntmps331
  go_wp2_with fail
  rw [HW.out]
  refine HK.out.mono ?_
  rintro e w1 ⟨rfl, hb⟩
  have HR1 := hidI (HR.out.next hb)
  have HB1 := hidI (HB.out.trans (hb.mono HB.out.size))
  clear hb d0 d1 d2 d3 d4 d5
  have d0 := HR1.out.cell 0 rfl
  have d1 := HR1.out.cell 1 rfl
  have d2 := HR1.out.cell 2 rfl
  have d3 := HR1.out.cell 3 rfl
  have d4 := HR1.out.cell 4 rfl
  have d5 := HR1.out.cell 5 rfl
  go_wp2_with (first | (go_at_call 327; refine (HNO.out _).mono ?_; rintro e w2 ⟨rfl, rfl⟩; clear HNO) | (go_at_call 327; refine (HNY.out _).mono ?_; rintro e w2 ⟨rfl, rfl⟩) | (go_at_call 328; refine (HV.out _).mono ?_; rintro e w2 ⟨rfl, rfl⟩))
  go_ret
  exact ⟨Tells.no HN.out, HB1.out⟩
 rw [decide_eq_true q2] at HNY
 by_cases q3 : 0 ≤ x.v ∧ x.v ≤ 999999
 case neg =>
  have HN : Hid (¬ ((knows l x.r x.s = true) ∧ (NOk x.o) ∧ (NOk x.y) ∧ (0 ≤ x.v ∧ x.v ≤ 999999))) := fun h => q3 h.2.2.2
  rw [decide_eq_false q3] at HV
  clear q0 q1 q2 q3
  go_enter Tryz.func331, Tryz.ntmps331
  go_wp2_with fail
  rw [HW.out]
  refine HK.out.mono ?_
  rintro e w1 ⟨rfl, hb⟩
  have HR1 := hidI (HR.out.next hb)
  have HB1 := hidI (HB.out.trans (hb.mono HB.out.size))
  clear hb d0 d1 d2 d3 d4 d5
  have d0 := HR1.out.cell 0 rfl
  have d1 := HR1.out.cell 1 rfl
  have d2 := HR1.out.cell 2 rfl
  have d3 := HR1.out.cell 3 rfl
  have d4 := HR1.out.cell 4 rfl
  have d5 := HR1.out.cell 5 rfl
  go_wp2_with (first | (go_at_call 327; refine (HNO.out _).mono ?_; rintro e w2 ⟨rfl, rfl⟩; clear HNO) | (go_at_call 327; refine (HNY.out _).mono ?_; rintro e w2 ⟨rfl, rfl⟩) | (go_at_call 328; refine (HV.out _).mono ?_; rintro e w2 ⟨rfl, rfl⟩))
  go_ret
  exact ⟨Tells.no HN.out, HB1.out⟩
 rw [decide_eq_true q3] at HV
 have HN : Hid ((knows l x.r x.s = true) ∧ (NOk x.o) ∧ (NOk x.y) ∧ (0 ≤ x.v ∧ x.v ≤ 999999)) := ⟨q0, q1, q2, q3⟩
 clear q0 q1 q2 q3
 go_enter Tryz.func331, Tryz.ntmps331
 go_wp2_with fail
 rw [HW.out]
 refine HK.out.mono ?_
 rintro e w1 ⟨rfl, hb⟩
 have HR1 := hidI (HR.out.next hb)
 have HB1 := hidI (HB.out.trans (hb.mono HB.out.size))
 clear hb d0 d1 d2 d3 d4 d5
 have d0 := HR1.out.cell 0 rfl
 have d1 := HR1.out.cell 1 rfl
 have d2 := HR1.out.cell 2 rfl
 have d3 := HR1.out.cell 3 rfl
 have d4 := HR1.out.cell 4 rfl
 have d5 := HR1.out.cell 5 rfl
 go_wp2_with (first | (go_at_call 327; refine (HNO.out _).mono ?_; rintro e w2 ⟨rfl, rfl⟩; clear HNO) | (go_at_call 327; refine (HNY.out _).mono ?_; rintro e w2 ⟨rfl, rfl⟩) | (go_at_call 328; refine (HV.out _).mono ?_; rintro e w2 ⟨rfl, rfl⟩))
 go_ret
 exact ⟨Tells.yes HN.out, HB1.out⟩
end Go.Proofs.YtdknoflkingodaaGreat
