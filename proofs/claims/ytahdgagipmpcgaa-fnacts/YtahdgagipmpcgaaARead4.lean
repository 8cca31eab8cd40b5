/- The parts of a reading, one behind another. -/
import Derived.Test.YtahdgagipmpcgaaAMath
import Derived.Test.YtahdgagipmpcgaaALawA
namespace Go.Proofs.Ytahdgagipmpcgaa
set_option maxRecDepth 100000
set_option linter.unusedVariables false
open Go.RowKit

def DotC (Rd : World → Option Int → Prop) (b f : Nat) (p q : Option Int) (r s : Int) : Prop := ∀ w, Rd w p → Calls Try.prog f #[.pointer (some ⟨b, 0, none⟩)] w fun e w' => e = .returned (.agg #[.int .i64 r, .int .i64 s]) ∧ Rd w' q ∧ w.grownBy w' (some b)
def NumC (Rd : World → Option Int → Prop) (b f : Nat) (p q : Option Int) (x : Int) : Prop := ∀ w, Rd w p → Calls Try.prog f #[.pointer (some ⟨b, 0, none⟩)] w fun e w' => e = .returned (.int .i64 x) ∧ Rd w' q ∧ w.grownBy w' (some b)
def StrC (Rd : World → Option Int → Prop) (b f : Nat) (p q : Option Int) (x : ByteArray) : Prop := ∀ w, Rd w p → Calls Try.prog f #[.pointer (some ⟨b, 0, none⟩)] w fun e w' => e = .returned (.string x) ∧ Rd w' q ∧ w.grownBy w' (some b)
def KnwC (Rd : World → Option Int → Prop) (b f : Nat) (p q : Option Int) (l : List Int) : Prop := ∀ w, Rd w p → Calls Try.prog f #[.pointer (some ⟨b, 0, none⟩)] w fun e w' => ∃ aa ca, e = .returned (.slice aa 3 ca) ∧ w'.ownsRow w.heap.size 3 1 (.slice aa 3 ca) 3 (intV l) ∧ Rd w' q ∧ w.grownBy w' (some b)
def Parts (Rd : World → Option Int → Prop) (b fd fn fk fs : Nat) (p : Option Int) (A : Ac) (q : Option Int) : Prop :=
  ∃ p1 p2 p3 p4 p5 p6 p7, DotC Rd b fd p p1 A.r A.s ∧ NumC Rd b fn p1 p2 A.t ∧ KnwC Rd b fk p2 p3 A.l ∧ NumC Rd b fn p3 p4 A.k ∧ StrC Rd b fs p4 p5 A.o ∧ StrC Rd b fs p5 p6 A.y ∧ NumC Rd b fn p6 p7 A.v ∧ DotC Rd b fd p7 q A.x A.z
theorem nameM_size (s : ByteArray) (p : Option Int) : (nameM s p).1.size ≤ 1048576 := by
  cases p with
  | none => show ByteArray.empty.size ≤ _; simp
  | some a =>
    rcases rshort_cases s a with h0 | ⟨n, b, hr, hn, hb, h0⟩
    · rw [h0]; show ByteArray.empty.size ≤ _; simp
    · rw [h0]; show (s.extract b (b + n)).size ≤ _; rw [ByteArray.size_extract]; omega
theorem rdA_lim (s : ByteArray) (p : Option Int) : (rdA s p).l.length ≤ 1048576 ∧ (rdA s p).o.size ≤ 1048576 ∧ (rdA s p).y.size ≤ 1048576 := ⟨by show 3 ≤ _; omega, nameM_size _ _, nameM_size _ _⟩
theorem rdA_len (s : ByteArray) (p : Option Int) : (rdA s p).l.length = 3 := rfl
theorem implParts (s : ByteArray) (hs : s.size ≤ 1048576) (b : Nat) (p : Option Int) : Parts (fun w q => RdI w b s q) b 115 116 117 118 p (rdA s p) (rdE s p) :=
  ⟨_, _, _, _, _, _, _, fun w h => readDot_calls s hs b _ w h, fun w h => number_calls s hs b _ w h,
    fun w h => (knew_calls s hs b _ w h).mono (by
      rintro e w' ⟨u, rfl, ho, hr, hg⟩
      obtain ⟨aa, ca, hu, -⟩ := IntsAt.own (l := kn3 s _) ho rfl
      have hu' : u = .slice aa 3 ca := hu
      subst hu'
      exact ⟨aa, ca, rfl, ho, hr, hg⟩),
    fun w h => number_calls s hs b _ w h, fun w h => name_calls s hs b _ w h, fun w h => name_calls s hs b _ w h, fun w h => number_calls s hs b _ w h, fun w h => readDot_calls s hs b _ w h⟩
theorem specParts (s : ByteArray) (hs : s.size ≤ 1048576) (b : Nat) (p : Option Int) : Parts (fun w q => RdS w b s q) b 171 172 173 174 p (rdA s p) (rdE s p) :=
  ⟨_, _, _, _, _, _, _, fun w h => specReadDot_calls s hs b _ w h, fun w h => specNum_calls s hs b _ w h,
    fun w h => (specKnow_calls s hs b _ w h).mono (by
      rintro e w' ⟨u, rfl, ho, hr, hg⟩
      obtain ⟨aa, ca, hu, -⟩ := IntsAt.own (l := kn3 s _) ho rfl
      have hu' : u = .slice aa 3 ca := hu
      subst hu'
      exact ⟨aa, ca, rfl, ho, hr, hg⟩),
    fun w h => specNum_calls s hs b _ w h, fun w h => specShort_calls s hs b _ w h, fun w h => specShort_calls s hs b _ w h, fun w h => specNum_calls s hs b _ w h, fun w h => specReadDot_calls s hs b _ w h⟩
theorem store10_grown (w : World) (g : Nat) (A : Ac) (u : Value) : w.grownBy (store10 w g A u) (some g) := by
  unfold store10
  exact grownBy_trans (grownBy_trans (grownBy_trans (grownBy_trans (grownBy_trans (grownBy_trans (grownBy_trans (grownBy_trans (grownBy_trans (grown_set _ _ _ _) (grown_set _ _ _ _)) (grown_set _ _ _ _)) (grown_set _ _ _ _)) (grown_set _ _ _ _)) (grown_set _ _ _ _)) (grown_set _ _ _ _)) (grown_set _ _ _ _)) (grown_set _ _ _ _)) (grown_set _ _ _ _)
theorem store10_put {w w' : World} {r : Option Nat} {g : Nat} (h : w.grownBy w' r) (hg : w.heap.size ≤ g) (A : Ac) (u : Value) : w.grownBy (store10 w' g A u) r := by
  unfold store10
  exact grown_put (grown_put (grown_put (grown_put (grown_put (grown_put (grown_put (grown_put (grown_put (grown_put h hg _) hg _) hg _) hg _) hg _) hg _) hg _) hg _) hg _) hg _

set_option maxHeartbeats 4000000 in
theorem specAct_calls (s : ByteArray) (hs : s.size ≤ 1048576) (b : Nat) (p : Option Int) (w : World) (h : RdS w b s p) :
    Calls Try.prog 121 #[.pointer (some ⟨b, 0, none⟩)] w fun e w' => ∃ aa ca, e = .returned ((rdA s p).val (.slice aa 3 ca)) ∧ w'.ownsRow w.heap.size 3 1 (.slice aa 3 ca) 3 (intV (rdA s p).l) ∧ RdS w' b s (rdE s p) ∧ w.grownBy w' (some b) := by
  have hlt := h.lt
  have hP := specParts s hs b p
  have hlen := rdA_len s p
  generalize rdA s p = A at *
  generalize rdE s p = q at *
  obtain ⟨p1, p2, p3, p4, p5, p6, p7, h0, h1, h2, h3, h4, h5, h6, h7⟩ := hP
  have H0 := hidI h0
  have H1 := hidI h1
  have H2 := hidI h2
  have H3 := hidI h3
  have H4 := hidI h4
  have H5 := hidI h5
  have H6 := hidI h6
  have H7 := hidI h7
  clear h0 h1 h2 h3 h4 h5 h6 h7
  obtain ⟨W, hW⟩ : ∃ W, W = w.alloc (.cells zAct 75) := ⟨_, rfl⟩
  have HO : Hid (Row W w.heap.size zAct 75) := by rw [hW]; exact row_new w _ _ rfl
  have HR : Hid (RdS W b s p) := by rw [hW]; exact h.grown (grown_alloc w _ none) (by simp)
  have HG : Hid (w.grownBy W (some b)) := by rw [hW]; exact grown_alloc w _ _
  have hWs : W.heap.size = w.heap.size + 1 := by rw [hW]; simp
  have HW : Hid (w.alloc (.cells zAct 75) = W) := hW.symm
  unfold zAct at HW
  clear h hW
  go_enter Try.func121, Try.ntmps121
  go_wp2_with fail
  rw [HW.out]
  clear HW
  have hsW : W.heap.size ≤ W.heap.size := Nat.le_refl _
  refine (H0.out _ HR.out).mono ?_
  rintro e w1 ⟨rfl, hr, hg⟩
  have hs1 : w.heap.size < w1.heap.size := by have := hg.size; omega
  replace HO : Hid (Row w1 w.heap.size zAct 75) := HO.out.grown hg (by simp <;> omega)
  replace HG : Hid (w.grownBy w1 (some b)) := grownBy_trans HG.out hg
  replace HR : Hid (RdS w1 b s p1) := hr
  clear hr hg hsW
  obtain ⟨X0, hX0⟩ : ∃ X0, X0 = w1.alloc (.cells #[.int .i64 A.r, .int .i64 A.s, .int .i64 0, .slice none 0 0, .int .i64 0, .string { data := #[] }, .string { data := #[] }, .int .i64 0, .int .i64 0, .int .i64 0] 75) := ⟨_, rfl⟩
  have HT : Hid (Row X0 w1.heap.size #[.int .i64 A.r, .int .i64 A.s, .int .i64 0, .slice none 0 0, .int .i64 0, .string { data := #[] }, .string { data := #[] }, .int .i64 0, .int .i64 0, .int .i64 0] 75) := by rw [hX0]; exact row_new _ _ _ rfl
  have HO1 : Hid (Row X0 w.heap.size zAct 75) := by rw [hX0]; exact HO.out.alloc _
  have HR1 : Hid (RdS X0 b s p1) := by rw [hX0]; exact HR.out.grown (grown_alloc w1 _ none) (by simp)
  have HG1 : Hid (w.grownBy X0 (some b)) := by rw [hX0]; exact grownBy_trans HG.out (grown_alloc _ _ _)
  have HX : Hid (w1.alloc (.cells #[.int .i64 A.r, .int .i64 A.s, .int .i64 0, .slice none 0 0, .int .i64 0, .string { data := #[] }, .string { data := #[] }, .int .i64 0, .int .i64 0, .int .i64 0] 75) = X0) := hX0.symm
  clear hX0 HO HR HG
  go_wp2_with fail
  rw [HX.out]
  have HO := HO1
  have HR := HR1
  have HG := HG1
  clear HO1 HR1 HG1 HX
  refine (H1.out _ HR.out).mono ?_
  rintro e w2 ⟨rfl, hr, hg⟩
  replace HT : Hid (Row w2 w1.heap.size #[.int .i64 A.r, .int .i64 A.s, .int .i64 0, .slice none 0 0, .int .i64 0, .string { data := #[] }, .string { data := #[] }, .int .i64 0, .int .i64 0, .int .i64 0] 75) := HT.out.grown hg (by simp <;> omega)
  replace HO : Hid (Row w2 w.heap.size zAct 75) := HO.out.grown hg (by simp <;> omega)
  replace HG : Hid (w.grownBy w2 (some b)) := grownBy_trans HG.out hg
  replace HR : Hid (RdS w2 b s p2) := hr
  clear hr hg
  obtain ⟨X1, hX1⟩ : ∃ X1, X1 = w2.setCell ⟨w1.heap.size, 2, none⟩ (.int .i64 A.t) := ⟨_, rfl⟩
  have c2 := HT.out.cell 2 rfl
  have f2 := HT.out.free 2
  have HT1 : Hid (Row X1 w1.heap.size #[.int .i64 A.r, .int .i64 A.s, .int .i64 A.t, .slice none 0 0, .int .i64 0, .string { data := #[] }, .string { data := #[] }, .int .i64 0, .int .i64 0, .int .i64 0] 75) := by rw [hX1]; exact (HT.out.s2 _)
  have HO1 : Hid (Row X1 w.heap.size zAct 75) := by rw [hX1]; exact (HO.out.other (by simp <;> omega) _)
  have HR1 : Hid (RdS X1 b s p2) := by rw [hX1]; exact (HR.out.grown (grown_set _ _ _ _) (by simp <;> omega))
  have HG1 : Hid (w.grownBy X1 (some b)) := by rw [hX1]; exact (grown_put HG.out (by omega) _)
  have HX : Hid (w2.setCell ⟨w1.heap.size, 2, none⟩ (.int .i64 A.t) = X1) := hX1.symm
  clear hX1 HT HO HR HG
  go_wp2_with fail
  rw [HX.out]
  have HT := HT1
  have HO := HO1
  have HR := HR1
  have HG := HG1
  clear HT1 HO1 HR1 HG1 HX c2 f2
  refine (H2.out _ HR.out).mono ?_
  rintro e w3 ⟨ua, uc, rfl, ho, hr, hg⟩
  obtain ⟨B3, hB3⟩ : ∃ B3, B3 = X1.heap.size := ⟨_, rfl⟩
  rw [← hB3] at ho
  have HOW : Hid (w3.ownsRow B3 3 1 (.slice ua 3 uc) 3 (intV A.l)) := ho
  have hB3g : w1.heap.size < B3 := by have := HT.out.lt; omega
  clear ho hB3
  replace HT : Hid (Row w3 w1.heap.size #[.int .i64 A.r, .int .i64 A.s, .int .i64 A.t, .slice none 0 0, .int .i64 0, .string { data := #[] }, .string { data := #[] }, .int .i64 0, .int .i64 0, .int .i64 0] 75) := HT.out.grown hg (by simp <;> omega)
  replace HO : Hid (Row w3 w.heap.size zAct 75) := HO.out.grown hg (by simp <;> omega)
  replace HG : Hid (w.grownBy w3 (some b)) := grownBy_trans HG.out hg
  replace HR : Hid (RdS w3 b s p3) := hr
  clear hr hg
  obtain ⟨X2, hX2⟩ : ∃ X2, X2 = w3.setCell ⟨w1.heap.size, 3, none⟩ (.slice ua 3 uc) := ⟨_, rfl⟩
  have c3 := HT.out.cell 3 rfl
  have f3 := HT.out.free 3
  have HT1 : Hid (Row X2 w1.heap.size #[.int .i64 A.r, .int .i64 A.s, .int .i64 A.t, .slice ua 3 uc, .int .i64 0, .string { data := #[] }, .string { data := #[] }, .int .i64 0, .int .i64 0, .int .i64 0] 75) := by rw [hX2]; exact (HT.out.s3 _)
  have HO1 : Hid (Row X2 w.heap.size zAct 75) := by rw [hX2]; exact (HO.out.other (by simp <;> omega) _)
  have HR1 : Hid (RdS X2 b s p3) := by rw [hX2]; exact (HR.out.grown (grown_set _ _ _ _) (by simp <;> omega))
  have HG1 : Hid (w.grownBy X2 (some b)) := by rw [hX2]; exact (grown_put HG.out (by omega) _)
  have HOW1 : Hid (X2.ownsRow B3 3 1 (.slice ua 3 uc) 3 (intV A.l)) := by rw [hX2]; exact (own_set HOW.out hB3g)
  have HX : Hid (w3.setCell ⟨w1.heap.size, 3, none⟩ (.slice ua 3 uc) = X2) := hX2.symm
  clear hX2 HT HO HR HG HOW
  go_wp2_with fail
  rw [HX.out]
  have HT := HT1
  have HO := HO1
  have HR := HR1
  have HG := HG1
  have HOW := HOW1
  clear HT1 HO1 HR1 HG1 HX c3 f3 HOW1
  refine (H3.out _ HR.out).mono ?_
  rintro e w4 ⟨rfl, hr, hg⟩
  replace HT : Hid (Row w4 w1.heap.size #[.int .i64 A.r, .int .i64 A.s, .int .i64 A.t, .slice ua 3 uc, .int .i64 0, .string { data := #[] }, .string { data := #[] }, .int .i64 0, .int .i64 0, .int .i64 0] 75) := HT.out.grown hg (by simp <;> omega)
  replace HO : Hid (Row w4 w.heap.size zAct 75) := HO.out.grown hg (by simp <;> omega)
  replace HOW : Hid (w4.ownsRow B3 3 1 (.slice ua 3 uc) 3 (intV A.l)) := own_grown HOW.out hg (by omega)
  replace HG : Hid (w.grownBy w4 (some b)) := grownBy_trans HG.out hg
  replace HR : Hid (RdS w4 b s p4) := hr
  clear hr hg
  obtain ⟨X3, hX3⟩ : ∃ X3, X3 = w4.setCell ⟨w1.heap.size, 4, none⟩ (.int .i64 A.k) := ⟨_, rfl⟩
  have c4 := HT.out.cell 4 rfl
  have f4 := HT.out.free 4
  have HT1 : Hid (Row X3 w1.heap.size #[.int .i64 A.r, .int .i64 A.s, .int .i64 A.t, .slice ua 3 uc, .int .i64 A.k, .string { data := #[] }, .string { data := #[] }, .int .i64 0, .int .i64 0, .int .i64 0] 75) := by rw [hX3]; exact (HT.out.s4 _)
  have HO1 : Hid (Row X3 w.heap.size zAct 75) := by rw [hX3]; exact (HO.out.other (by simp <;> omega) _)
  have HR1 : Hid (RdS X3 b s p4) := by rw [hX3]; exact (HR.out.grown (grown_set _ _ _ _) (by simp <;> omega))
  have HG1 : Hid (w.grownBy X3 (some b)) := by rw [hX3]; exact (grown_put HG.out (by omega) _)
  have HOW1 : Hid (X3.ownsRow B3 3 1 (.slice ua 3 uc) 3 (intV A.l)) := by rw [hX3]; exact (own_set HOW.out hB3g)
  have HX : Hid (w4.setCell ⟨w1.heap.size, 4, none⟩ (.int .i64 A.k) = X3) := hX3.symm
  clear hX3 HT HO HR HG HOW
  go_wp2_with fail
  rw [HX.out]
  have HT := HT1
  have HO := HO1
  have HR := HR1
  have HG := HG1
  have HOW := HOW1
  clear HT1 HO1 HR1 HG1 HX c4 f4 HOW1
  refine (H4.out _ HR.out).mono ?_
  rintro e w5 ⟨rfl, hr, hg⟩
  replace HT : Hid (Row w5 w1.heap.size #[.int .i64 A.r, .int .i64 A.s, .int .i64 A.t, .slice ua 3 uc, .int .i64 A.k, .string { data := #[] }, .string { data := #[] }, .int .i64 0, .int .i64 0, .int .i64 0] 75) := HT.out.grown hg (by simp <;> omega)
  replace HO : Hid (Row w5 w.heap.size zAct 75) := HO.out.grown hg (by simp <;> omega)
  replace HOW : Hid (w5.ownsRow B3 3 1 (.slice ua 3 uc) 3 (intV A.l)) := own_grown HOW.out hg (by omega)
  replace HG : Hid (w.grownBy w5 (some b)) := grownBy_trans HG.out hg
  replace HR : Hid (RdS w5 b s p5) := hr
  clear hr hg
  obtain ⟨X4, hX4⟩ : ∃ X4, X4 = w5.setCell ⟨w1.heap.size, 5, none⟩ (.string A.o) := ⟨_, rfl⟩
  have c5 := HT.out.cell 5 rfl
  have f5 := HT.out.free 5
  have HT1 : Hid (Row X4 w1.heap.size #[.int .i64 A.r, .int .i64 A.s, .int .i64 A.t, .slice ua 3 uc, .int .i64 A.k, .string A.o, .string { data := #[] }, .int .i64 0, .int .i64 0, .int .i64 0] 75) := by rw [hX4]; exact (HT.out.s5 _)
  have HO1 : Hid (Row X4 w.heap.size zAct 75) := by rw [hX4]; exact (HO.out.other (by simp <;> omega) _)
  have HR1 : Hid (RdS X4 b s p5) := by rw [hX4]; exact (HR.out.grown (grown_set _ _ _ _) (by simp <;> omega))
  have HG1 : Hid (w.grownBy X4 (some b)) := by rw [hX4]; exact (grown_put HG.out (by omega) _)
  have HOW1 : Hid (X4.ownsRow B3 3 1 (.slice ua 3 uc) 3 (intV A.l)) := by rw [hX4]; exact (own_set HOW.out hB3g)
  have HX : Hid (w5.setCell ⟨w1.heap.size, 5, none⟩ (.string A.o) = X4) := hX4.symm
  clear hX4 HT HO HR HG HOW
  go_wp2_with fail
  rw [HX.out]
  have HT := HT1
  have HO := HO1
  have HR := HR1
  have HG := HG1
  have HOW := HOW1
  clear HT1 HO1 HR1 HG1 HX c5 f5 HOW1
  refine (H5.out _ HR.out).mono ?_
  rintro e w6 ⟨rfl, hr, hg⟩
  replace HT : Hid (Row w6 w1.heap.size #[.int .i64 A.r, .int .i64 A.s, .int .i64 A.t, .slice ua 3 uc, .int .i64 A.k, .string A.o, .string { data := #[] }, .int .i64 0, .int .i64 0, .int .i64 0] 75) := HT.out.grown hg (by simp <;> omega)
  replace HO : Hid (Row w6 w.heap.size zAct 75) := HO.out.grown hg (by simp <;> omega)
  replace HOW : Hid (w6.ownsRow B3 3 1 (.slice ua 3 uc) 3 (intV A.l)) := own_grown HOW.out hg (by omega)
  replace HG : Hid (w.grownBy w6 (some b)) := grownBy_trans HG.out hg
  replace HR : Hid (RdS w6 b s p6) := hr
  clear hr hg
  obtain ⟨X5, hX5⟩ : ∃ X5, X5 = w6.setCell ⟨w1.heap.size, 6, none⟩ (.string A.y) := ⟨_, rfl⟩
  have c6 := HT.out.cell 6 rfl
  have f6 := HT.out.free 6
  have HT1 : Hid (Row X5 w1.heap.size #[.int .i64 A.r, .int .i64 A.s, .int .i64 A.t, .slice ua 3 uc, .int .i64 A.k, .string A.o, .string A.y, .int .i64 0, .int .i64 0, .int .i64 0] 75) := by rw [hX5]; exact (HT.out.s6 _)
  have HO1 : Hid (Row X5 w.heap.size zAct 75) := by rw [hX5]; exact (HO.out.other (by simp <;> omega) _)
  have HR1 : Hid (RdS X5 b s p6) := by rw [hX5]; exact (HR.out.grown (grown_set _ _ _ _) (by simp <;> omega))
  have HG1 : Hid (w.grownBy X5 (some b)) := by rw [hX5]; exact (grown_put HG.out (by omega) _)
  have HOW1 : Hid (X5.ownsRow B3 3 1 (.slice ua 3 uc) 3 (intV A.l)) := by rw [hX5]; exact (own_set HOW.out hB3g)
  have HX : Hid (w6.setCell ⟨w1.heap.size, 6, none⟩ (.string A.y) = X5) := hX5.symm
  clear hX5 HT HO HR HG HOW
  go_wp2_with fail
  rw [HX.out]
  have HT := HT1
  have HO := HO1
  have HR := HR1
  have HG := HG1
  have HOW := HOW1
  clear HT1 HO1 HR1 HG1 HX c6 f6 HOW1
  refine (H6.out _ HR.out).mono ?_
  rintro e w7 ⟨rfl, hr, hg⟩
  replace HT : Hid (Row w7 w1.heap.size #[.int .i64 A.r, .int .i64 A.s, .int .i64 A.t, .slice ua 3 uc, .int .i64 A.k, .string A.o, .string A.y, .int .i64 0, .int .i64 0, .int .i64 0] 75) := HT.out.grown hg (by simp <;> omega)
  replace HO : Hid (Row w7 w.heap.size zAct 75) := HO.out.grown hg (by simp <;> omega)
  replace HOW : Hid (w7.ownsRow B3 3 1 (.slice ua 3 uc) 3 (intV A.l)) := own_grown HOW.out hg (by omega)
  replace HG : Hid (w.grownBy w7 (some b)) := grownBy_trans HG.out hg
  replace HR : Hid (RdS w7 b s p7) := hr
  clear hr hg
  obtain ⟨X6, hX6⟩ : ∃ X6, X6 = w7.setCell ⟨w1.heap.size, 7, none⟩ (.int .i64 A.v) := ⟨_, rfl⟩
  have c7 := HT.out.cell 7 rfl
  have f7 := HT.out.free 7
  have HT1 : Hid (Row X6 w1.heap.size #[.int .i64 A.r, .int .i64 A.s, .int .i64 A.t, .slice ua 3 uc, .int .i64 A.k, .string A.o, .string A.y, .int .i64 A.v, .int .i64 0, .int .i64 0] 75) := by rw [hX6]; exact (HT.out.s7 _)
  have HO1 : Hid (Row X6 w.heap.size zAct 75) := by rw [hX6]; exact (HO.out.other (by simp <;> omega) _)
  have HR1 : Hid (RdS X6 b s p7) := by rw [hX6]; exact (HR.out.grown (grown_set _ _ _ _) (by simp <;> omega))
  have HG1 : Hid (w.grownBy X6 (some b)) := by rw [hX6]; exact (grown_put HG.out (by omega) _)
  have HOW1 : Hid (X6.ownsRow B3 3 1 (.slice ua 3 uc) 3 (intV A.l)) := by rw [hX6]; exact (own_set HOW.out hB3g)
  have HX : Hid (w7.setCell ⟨w1.heap.size, 7, none⟩ (.int .i64 A.v) = X6) := hX6.symm
  clear hX6 HT HO HR HG HOW
  go_wp2_with fail
  rw [HX.out]
  have HT := HT1
  have HO := HO1
  have HR := HR1
  have HG := HG1
  have HOW := HOW1
  clear HT1 HO1 HR1 HG1 HX c7 f7 HOW1
  refine (H7.out _ HR.out).mono ?_
  rintro e w8 ⟨rfl, hr, hg⟩
  replace HT : Hid (Row w8 w1.heap.size #[.int .i64 A.r, .int .i64 A.s, .int .i64 A.t, .slice ua 3 uc, .int .i64 A.k, .string A.o, .string A.y, .int .i64 A.v, .int .i64 0, .int .i64 0] 75) := HT.out.grown hg (by simp <;> omega)
  replace HO : Hid (Row w8 w.heap.size zAct 75) := HO.out.grown hg (by simp <;> omega)
  replace HOW : Hid (w8.ownsRow B3 3 1 (.slice ua 3 uc) 3 (intV A.l)) := own_grown HOW.out hg (by omega)
  replace HG : Hid (w.grownBy w8 (some b)) := grownBy_trans HG.out hg
  replace HR : Hid (RdS w8 b s q) := hr
  clear hr hg
  obtain ⟨t0, t1, t2, t3, t4, t5, t6, t7, t8, t9⟩ := Row.ten HT.out
  have f8 := HT.out.free 8
  have f9 := HT.out.free 9
  obtain ⟨o0, o1, o2, o3, o4, o5, o6, o7, o8, o9⟩ := Row.ten HO.out
  obtain ⟨g0, g1, g2, g3, g4, g5, g6, g7, g8, g9⟩ := HO.out.frees
  go_wp2
  rw [store10_eq]
  have HZ0 := (HO.out.other (p := ⟨w1.heap.size, 8, none⟩) (by simp <;> omega) (.int .i64 A.x)).other (p := ⟨w1.heap.size, 9, none⟩) (by simp <;> omega) (.int .i64 A.z)
  have HS := own_set (i := 9) (x := .int .i64 A.z) (own_set (i := 8) (x := .int .i64 A.x) HOW.out hB3g) hB3g
  have HGG := grown_put (i := 9) (grown_put (g := w1.heap.size) (i := 8) HG.out (by omega) (.int .i64 A.x)) (g := w1.heap.size) (by omega) (.int .i64 A.z)
  have HRR := (HR.out.grown (grown_set _ w1.heap.size 8 (.int .i64 A.x)) (by simp <;> omega)).grown (grown_set _ w1.heap.size 9 (.int .i64 A.z)) (by simp <;> omega)
  clear t0 t1 t2 t3 t4 t5 t6 t7 t8 t9 f8 f9 o0 o1 o2 o3 o4 o5 o6 o7 o8 o9 g0 g1 g2 g3 g4 g5 g6 g7 g8 g9
  generalize (w8.setCell ⟨w1.heap.size, 8, none⟩ (.int .i64 A.x)).setCell ⟨w1.heap.size, 9, none⟩ (.int .i64 A.z) = w9 at *
  have HZ : ActAt (store10 w9 w.heap.size A (.slice ua 3 uc)) w.heap.size A (.slice ua 3 uc) := store10_at HZ0 A _
  have hb3 : w.heap.size ≤ B3 := by omega
  exact bodyPost_ret (ret_act rfl rfl HZ) rfl ⟨_, _, rfl, own_base (own_store10 HS (by omega) A _) hb3, RdS.grown HRR (store10_grown _ _ A _) (by simp <;> omega), store10_put HGG (Nat.le_refl _) A _⟩

end Go.Proofs.Ytahdgagipmpcgaa
