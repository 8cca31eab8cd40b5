/- The program reads an act. -/
import Derived.BigRegion
import Derived.Test.YtahdgagipmpcgaaARead4
namespace Go.Proofs.Ytahdgagipmpcgaa
set_option maxRecDepth 100000
set_option linter.unusedVariables false
open Go.RowKit

/-- What is read at a: the act, where it ends, and whether there is one. -/
def zAc : Ac := ⟨0, 0, 0, 0, 0, 0, 0, { data := #[] }, { data := #[] }, []⟩
def rdR (s : ByteArray) (a : Int) : Ac × Int × Bool :=
  match rdE s (some a) with
  | none => (zAc, 0, false)
  | some j => if AOk (rdA s (some a)) then (rdA s (some a), j, true) else (zAc, 0, false)
theorem rdR_none {s : ByteArray} {a : Int} (h : rdE s (some a) = none) : rdR s a = (zAc, 0, false) := by unfold rdR; rw [h]
theorem rdR_no {s : ByteArray} {a : Int} (h : ¬ AOk (rdA s (some a))) : rdR s a = (zAc, 0, false) := by unfold rdR; split; rfl; rw [if_neg h]
theorem rdR_yes {s : ByteArray} {a j : Int} (h : rdE s (some a) = some j) (h2 : AOk (rdA s (some a))) : rdR s a = (rdA s (some a), j, true) := by unfold rdR; rw [h]; show (if AOk _ then _ else _) = _; rw [if_pos h2]
theorem load_act {w : World} {g : Nat} {A : Ac} {u : Value} (hg : ActAt w g A u) : (loadVar 75 ⟨g, 0, none⟩).run Try.prog w = .ok (A.val u) w :=
  run_loadVar_row w g 75 75 _ (0, 0) _ hg Try.underlying75 rfl (by kernel_rfl)
theorem ret_act3 {fn : Func} {p q u : Tmp} (h : fn.results = #[.cell p 75, .tmp q, .tmp u]) {tmps : Array Value} {w : World} {g : Nat} {A : Ac} {x v1 v2 : Value} (hp : tmps.getD p undef = .pointer (some ⟨g, 0, none⟩)) (h1 : tmps.getD q undef = v1) (h2 : tmps.getD u undef = v2) (hg : ActAt w g A x) :
    (results fn tmps).run Try.prog w = .ok (.tuple #[A.val x, v1, v2]) w := by
  rw [Array.getD_eq_getD_getElem?] at hp h1 h2
  simp only [results, h]
  simp [hp, h1, h2, asAddr, Result.andThen, load_act hg]
theorem store10_zero (w : World) (g : Nat) : (((((((((w.setCell ⟨g, 0, none⟩ (.int .i64 0)).setCell ⟨g, 1, none⟩ (.int .i64 0)).setCell ⟨g, 2, none⟩ (.int .i64 0)).setCell ⟨g, 3, none⟩ (.slice none 0 0)).setCell ⟨g, 4, none⟩ (.int .i64 0)).setCell ⟨g, 5, none⟩ (.string { data := #[] })).setCell ⟨g, 6, none⟩ (.string { data := #[] })).setCell ⟨g, 7, none⟩ (.int .i64 0)).setCell ⟨g, 8, none⟩ (.int .i64 0)).setCell ⟨g, 9, none⟩ (.int .i64 0) = store10 w g zAc (.slice none 0 0) := rfl
theorem own_nil {w : World} {B : Nat} {e : TypeId} {s : Nat} : w.ownsRow B e s (.slice none 0 0) 0 [] := ⟨by simp, .inl ⟨rfl, rfl⟩⟩

set_option maxHeartbeats 8000000 in
theorem readAct_calls (s : ByteArray) (hs : s.size ≤ 1048576) (a : Int) (w : World) :
    Calls Try.prog 48 #[.string s, .int .i64 a] w fun e w' => ∃ aa ca, e = .returned (.tuple #[(rdR s a).1.val (.slice aa (rdR s a).1.l.length ca), .int .i64 (rdR s a).2.1, .bool (rdR s a).2.2]) ∧ w'.ownsRow w.heap.size 3 1 (.slice aa (rdR s a).1.l.length ca) (rdR s a).1.l.length (intV (rdR s a).1.l) ∧ Below w.heap.size w w' := by
  obtain ⟨b, hb⟩ : ∃ b, b = w.heap.size + 1 := ⟨_, rfl⟩
  have hP := implParts s hs b (some a)
  have hlen := rdA_len s (some a)
  have hlim := rdA_lim s (some a)
  have HN1 : Hid (rdE s (some a) = none → rdR s a = (zAc, 0, false)) := rdR_none
  have HN2 : Hid (¬ AOk (rdA s (some a)) → rdR s a = (zAc, 0, false)) := rdR_no
  have HN3 : Hid (∀ j, rdE s (some a) = some j → AOk (rdA s (some a)) → rdR s a = (rdA s (some a), j, true)) := fun j => rdR_yes
  generalize rdA s (some a) = A at *
  generalize rdE s (some a) = q at *
  generalize rdR s a = R at *
  obtain ⟨p1, p2, p3, p4, p5, p6, p7, h0, h1, h2, h3, h4, h5, h6, h7⟩ := hP
  have H0 := hidI h0
  have H1 := hidI h1
  have H2 := hidI h2
  have H3 := hidI h3
  have H4 := hidI h4
  have H5 := hidI h5
  have H6 := hidI h6
  have H7 := hidI h7
  clear h0 h1 h2 h3 h4 h5 h6 h7
  obtain ⟨W, hW⟩ : ∃ W, W = ((w.alloc (.cells zAct 75)).alloc (.cells #[.string s, .int .i64 a, .bool true] 139)).alloc (.cells zAct 75) := ⟨_, rfl⟩
  have HO : Hid (Row W w.heap.size zAct 75) := by rw [hW]; exact ((row_new w _ _ rfl).alloc _).alloc _
  have HR : Hid (RdI W b s (some a)) := by rw [hW, hb]; show Row _ _ _ _; exact (row_new _ _ _ (by simp)).alloc _
  have HT : Hid (Row W (w.heap.size + 1 + 1) zAct 75) := by rw [hW]; exact row_new _ _ _ (by simp)
  have HG : Hid (Below w.heap.size w W) := by rw [hW]; exact (((Below.refl _ _).alloc (Nat.le_refl _) _).alloc (by simp) _).alloc (by simp <;> omega) _
  have HW : Hid (((w.alloc (.cells zAct 75)).alloc (.cells #[.string s, .int .i64 a, .bool true] 139)).alloc (.cells zAct 75) = W) := hW.symm
  have HBE : Hid (b = w.heap.size + 1) := hb
  unfold zAct at HW HT
  rw [hb] at H0 H1 H2 H3 H4 H5 H6 H7 HR
  clear hW hb
  go_enter Try.func48, Try.ntmps48
  go_wp2_with fail
  rw [HW.out]
  clear HW
  refine (H0.out _ HR.out).mono ?_
  rintro e w1 ⟨rfl, hr, hg⟩
  replace HT : Hid (Row w1 (w.heap.size + 1 + 1) #[.int .i64 0, .int .i64 0, .int .i64 0, .slice none 0 0, .int .i64 0, .string { data := #[] }, .string { data := #[] }, .int .i64 0, .int .i64 0, .int .i64 0] 75) := HT.out.grown hg (by simp <;> omega)
  replace HO : Hid (Row w1 w.heap.size zAct 75) := HO.out.grown hg (by simp <;> omega)
  replace HG : Hid (Below w.heap.size w w1) := HG.out.grown hg (by have := HG.out.size; omega) (fun k hk => by cases hk; omega)
  replace HR : Hid (RdI w1 (w.heap.size + 1) s p1) := hr
  clear hr hg
  obtain ⟨X0, hX0⟩ : ∃ X0, X0 = (w1.setCell ⟨(w.heap.size + 1 + 1), 0, none⟩ (.int .i64 A.r)).setCell ⟨(w.heap.size + 1 + 1), 1, none⟩ (.int .i64 A.s) := ⟨_, rfl⟩
  have c0 := HT.out.cell 0 rfl
  have f0 := HT.out.free 0
  have c1 := HT.out.cell 1 rfl
  have f1 := HT.out.free 1
  have HT1 : Hid (Row X0 (w.heap.size + 1 + 1) #[.int .i64 A.r, .int .i64 A.s, .int .i64 0, .slice none 0 0, .int .i64 0, .string { data := #[] }, .string { data := #[] }, .int .i64 0, .int .i64 0, .int .i64 0] 75) := by rw [hX0]; exact ((HT.out.s0 _).s1 _)
  have HO1 : Hid (Row X0 w.heap.size zAct 75) := by rw [hX0]; exact ((HO.out.other (by simp <;> omega) _).other (by simp <;> omega) _)
  have HR1 : Hid (RdI X0 (w.heap.size + 1) s p1) := by rw [hX0]; exact ((HR.out.grown (grown_set _ _ _ _) (by simp <;> omega)).grown (grown_set _ _ _ _) (by simp <;> omega))
  have HG1 : Hid (Below w.heap.size w X0) := by rw [hX0]; exact ((HG.out.setCell (by simp <;> omega) _).setCell (by simp <;> omega) _)
  have HX : Hid ((w1.setCell ⟨(w.heap.size + 1 + 1), 0, none⟩ (.int .i64 A.r)).setCell ⟨(w.heap.size + 1 + 1), 1, none⟩ (.int .i64 A.s) = X0) := hX0.symm
  clear hX0 HT HO HR HG
  go_wp2_with fail
  rw [HX.out]
  have HT := HT1
  have HO := HO1
  have HR := HR1
  have HG := HG1
  clear HT1 HO1 HR1 HG1 HX c0 f0 c1 f1
  refine (H1.out _ HR.out).mono ?_
  rintro e w2 ⟨rfl, hr, hg⟩
  replace HT : Hid (Row w2 (w.heap.size + 1 + 1) #[.int .i64 A.r, .int .i64 A.s, .int .i64 0, .slice none 0 0, .int .i64 0, .string { data := #[] }, .string { data := #[] }, .int .i64 0, .int .i64 0, .int .i64 0] 75) := HT.out.grown hg (by simp <;> omega)
  replace HO : Hid (Row w2 w.heap.size zAct 75) := HO.out.grown hg (by simp <;> omega)
  replace HG : Hid (Below w.heap.size w w2) := HG.out.grown hg (by have := HG.out.size; omega) (fun k hk => by cases hk; omega)
  replace HR : Hid (RdI w2 (w.heap.size + 1) s p2) := hr
  clear hr hg
  obtain ⟨X1, hX1⟩ : ∃ X1, X1 = w2.setCell ⟨(w.heap.size + 1 + 1), 2, none⟩ (.int .i64 A.t) := ⟨_, rfl⟩
  have c2 := HT.out.cell 2 rfl
  have f2 := HT.out.free 2
  have HT1 : Hid (Row X1 (w.heap.size + 1 + 1) #[.int .i64 A.r, .int .i64 A.s, .int .i64 A.t, .slice none 0 0, .int .i64 0, .string { data := #[] }, .string { data := #[] }, .int .i64 0, .int .i64 0, .int .i64 0] 75) := by rw [hX1]; exact (HT.out.s2 _)
  have HO1 : Hid (Row X1 w.heap.size zAct 75) := by rw [hX1]; exact (HO.out.other (by simp <;> omega) _)
  have HR1 : Hid (RdI X1 (w.heap.size + 1) s p2) := by rw [hX1]; exact (HR.out.grown (grown_set _ _ _ _) (by simp <;> omega))
  have HG1 : Hid (Below w.heap.size w X1) := by rw [hX1]; exact (HG.out.setCell (by simp <;> omega) _)
  have HX : Hid (w2.setCell ⟨(w.heap.size + 1 + 1), 2, none⟩ (.int .i64 A.t) = X1) := hX1.symm
  clear hX1 HT HO HR HG
  go_wp2_with fail
  rw [HX.out]
  have HT := HT1
  have HO := HO1
  have HR := HR1
  have HG := HG1
  clear HT1 HO1 HR1 HG1 HX c2 f2
  refine (H2.out _ HR.out).mono ?_
  rintro e w3 ⟨ua, uc, rfl, ho, hr, hg⟩
  obtain ⟨B3, hB3⟩ : ∃ B3, B3 = X1.heap.size := ⟨_, rfl⟩
  rw [← hB3] at ho
  have HOW : Hid (w3.ownsRow B3 3 1 (.slice ua 3 uc) 3 (intV A.l)) := ho
  have hB3g : (w.heap.size + 1 + 1) < B3 := by have := HT.out.lt; omega
  clear ho hB3
  replace HT : Hid (Row w3 (w.heap.size + 1 + 1) #[.int .i64 A.r, .int .i64 A.s, .int .i64 A.t, .slice none 0 0, .int .i64 0, .string { data := #[] }, .string { data := #[] }, .int .i64 0, .int .i64 0, .int .i64 0] 75) := HT.out.grown hg (by simp <;> omega)
  replace HO : Hid (Row w3 w.heap.size zAct 75) := HO.out.grown hg (by simp <;> omega)
  replace HG : Hid (Below w.heap.size w w3) := HG.out.grown hg (by have := HG.out.size; omega) (fun k hk => by cases hk; omega)
  replace HR : Hid (RdI w3 (w.heap.size + 1) s p3) := hr
  clear hr hg
  obtain ⟨X2, hX2⟩ : ∃ X2, X2 = w3.setCell ⟨(w.heap.size + 1 + 1), 3, none⟩ (.slice ua 3 uc) := ⟨_, rfl⟩
  have c3 := HT.out.cell 3 rfl
  have f3 := HT.out.free 3
  have HT1 : Hid (Row X2 (w.heap.size + 1 + 1) #[.int .i64 A.r, .int .i64 A.s, .int .i64 A.t, .slice ua 3 uc, .int .i64 0, .string { data := #[] }, .string { data := #[] }, .int .i64 0, .int .i64 0, .int .i64 0] 75) := by rw [hX2]; exact (HT.out.s3 _)
  have HO1 : Hid (Row X2 w.heap.size zAct 75) := by rw [hX2]; exact (HO.out.other (by simp <;> omega) _)
  have HR1 : Hid (RdI X2 (w.heap.size + 1) s p3) := by rw [hX2]; exact (HR.out.grown (grown_set _ _ _ _) (by simp <;> omega))
  have HG1 : Hid (Below w.heap.size w X2) := by rw [hX2]; exact (HG.out.setCell (by simp <;> omega) _)
  have HOW1 : Hid (X2.ownsRow B3 3 1 (.slice ua 3 uc) 3 (intV A.l)) := by rw [hX2]; exact (own_set HOW.out hB3g)
  have HX : Hid (w3.setCell ⟨(w.heap.size + 1 + 1), 3, none⟩ (.slice ua 3 uc) = X2) := hX2.symm
  clear hX2 HT HO HR HG HOW
  go_wp2_with fail
  rw [HX.out]
  have HT := HT1
  have HO := HO1
  have HR := HR1
  have HG := HG1
  have HOW := HOW1
  clear HT1 HO1 HR1 HG1 HX c3 f3 HOW1
  refine (H3.out _ HR.out).mono ?_
  rintro e w4 ⟨rfl, hr, hg⟩
  replace HT : Hid (Row w4 (w.heap.size + 1 + 1) #[.int .i64 A.r, .int .i64 A.s, .int .i64 A.t, .slice ua 3 uc, .int .i64 0, .string { data := #[] }, .string { data := #[] }, .int .i64 0, .int .i64 0, .int .i64 0] 75) := HT.out.grown hg (by simp <;> omega)
  replace HO : Hid (Row w4 w.heap.size zAct 75) := HO.out.grown hg (by simp <;> omega)
  replace HOW : Hid (w4.ownsRow B3 3 1 (.slice ua 3 uc) 3 (intV A.l)) := own_grown HOW.out hg (by omega)
  replace HG : Hid (Below w.heap.size w w4) := HG.out.grown hg (by have := HG.out.size; omega) (fun k hk => by cases hk; omega)
  replace HR : Hid (RdI w4 (w.heap.size + 1) s p4) := hr
  clear hr hg
  obtain ⟨X3, hX3⟩ : ∃ X3, X3 = w4.setCell ⟨(w.heap.size + 1 + 1), 4, none⟩ (.int .i64 A.k) := ⟨_, rfl⟩
  have c4 := HT.out.cell 4 rfl
  have f4 := HT.out.free 4
  have HT1 : Hid (Row X3 (w.heap.size + 1 + 1) #[.int .i64 A.r, .int .i64 A.s, .int .i64 A.t, .slice ua 3 uc, .int .i64 A.k, .string { data := #[] }, .string { data := #[] }, .int .i64 0, .int .i64 0, .int .i64 0] 75) := by rw [hX3]; exact (HT.out.s4 _)
  have HO1 : Hid (Row X3 w.heap.size zAct 75) := by rw [hX3]; exact (HO.out.other (by simp <;> omega) _)
  have HR1 : Hid (RdI X3 (w.heap.size + 1) s p4) := by rw [hX3]; exact (HR.out.grown (grown_set _ _ _ _) (by simp <;> omega))
  have HG1 : Hid (Below w.heap.size w X3) := by rw [hX3]; exact (HG.out.setCell (by simp <;> omega) _)
  have HOW1 : Hid (X3.ownsRow B3 3 1 (.slice ua 3 uc) 3 (intV A.l)) := by rw [hX3]; exact (own_set HOW.out hB3g)
  have HX : Hid (w4.setCell ⟨(w.heap.size + 1 + 1), 4, none⟩ (.int .i64 A.k) = X3) := hX3.symm
  clear hX3 HT HO HR HG HOW
  go_wp2_with fail
  rw [HX.out]
  have HT := HT1
  have HO := HO1
  have HR := HR1
  have HG := HG1
  have HOW := HOW1
  clear HT1 HO1 HR1 HG1 HX c4 f4 HOW1
  refine (H4.out _ HR.out).mono ?_
  rintro e w5 ⟨rfl, hr, hg⟩
  replace HT : Hid (Row w5 (w.heap.size + 1 + 1) #[.int .i64 A.r, .int .i64 A.s, .int .i64 A.t, .slice ua 3 uc, .int .i64 A.k, .string { data := #[] }, .string { data := #[] }, .int .i64 0, .int .i64 0, .int .i64 0] 75) := HT.out.grown hg (by simp <;> omega)
  replace HO : Hid (Row w5 w.heap.size zAct 75) := HO.out.grown hg (by simp <;> omega)
  replace HOW : Hid (w5.ownsRow B3 3 1 (.slice ua 3 uc) 3 (intV A.l)) := own_grown HOW.out hg (by omega)
  replace HG : Hid (Below w.heap.size w w5) := HG.out.grown hg (by have := HG.out.size; omega) (fun k hk => by cases hk; omega)
  replace HR : Hid (RdI w5 (w.heap.size + 1) s p5) := hr
  clear hr hg
  obtain ⟨X4, hX4⟩ : ∃ X4, X4 = w5.setCell ⟨(w.heap.size + 1 + 1), 5, none⟩ (.string A.o) := ⟨_, rfl⟩
  have c5 := HT.out.cell 5 rfl
  have f5 := HT.out.free 5
  have HT1 : Hid (Row X4 (w.heap.size + 1 + 1) #[.int .i64 A.r, .int .i64 A.s, .int .i64 A.t, .slice ua 3 uc, .int .i64 A.k, .string A.o, .string { data := #[] }, .int .i64 0, .int .i64 0, .int .i64 0] 75) := by rw [hX4]; exact (HT.out.s5 _)
  have HO1 : Hid (Row X4 w.heap.size zAct 75) := by rw [hX4]; exact (HO.out.other (by simp <;> omega) _)
  have HR1 : Hid (RdI X4 (w.heap.size + 1) s p5) := by rw [hX4]; exact (HR.out.grown (grown_set _ _ _ _) (by simp <;> omega))
  have HG1 : Hid (Below w.heap.size w X4) := by rw [hX4]; exact (HG.out.setCell (by simp <;> omega) _)
  have HOW1 : Hid (X4.ownsRow B3 3 1 (.slice ua 3 uc) 3 (intV A.l)) := by rw [hX4]; exact (own_set HOW.out hB3g)
  have HX : Hid (w5.setCell ⟨(w.heap.size + 1 + 1), 5, none⟩ (.string A.o) = X4) := hX4.symm
  clear hX4 HT HO HR HG HOW
  go_wp2_with fail
  rw [HX.out]
  have HT := HT1
  have HO := HO1
  have HR := HR1
  have HG := HG1
  have HOW := HOW1
  clear HT1 HO1 HR1 HG1 HX c5 f5 HOW1
  refine (H5.out _ HR.out).mono ?_
  rintro e w6 ⟨rfl, hr, hg⟩
  replace HT : Hid (Row w6 (w.heap.size + 1 + 1) #[.int .i64 A.r, .int .i64 A.s, .int .i64 A.t, .slice ua 3 uc, .int .i64 A.k, .string A.o, .string { data := #[] }, .int .i64 0, .int .i64 0, .int .i64 0] 75) := HT.out.grown hg (by simp <;> omega)
  replace HO : Hid (Row w6 w.heap.size zAct 75) := HO.out.grown hg (by simp <;> omega)
  replace HOW : Hid (w6.ownsRow B3 3 1 (.slice ua 3 uc) 3 (intV A.l)) := own_grown HOW.out hg (by omega)
  replace HG : Hid (Below w.heap.size w w6) := HG.out.grown hg (by have := HG.out.size; omega) (fun k hk => by cases hk; omega)
  replace HR : Hid (RdI w6 (w.heap.size + 1) s p6) := hr
  clear hr hg
  obtain ⟨X5, hX5⟩ : ∃ X5, X5 = w6.setCell ⟨(w.heap.size + 1 + 1), 6, none⟩ (.string A.y) := ⟨_, rfl⟩
  have c6 := HT.out.cell 6 rfl
  have f6 := HT.out.free 6
  have HT1 : Hid (Row X5 (w.heap.size + 1 + 1) #[.int .i64 A.r, .int .i64 A.s, .int .i64 A.t, .slice ua 3 uc, .int .i64 A.k, .string A.o, .string A.y, .int .i64 0, .int .i64 0, .int .i64 0] 75) := by rw [hX5]; exact (HT.out.s6 _)
  have HO1 : Hid (Row X5 w.heap.size zAct 75) := by rw [hX5]; exact (HO.out.other (by simp <;> omega) _)
  have HR1 : Hid (RdI X5 (w.heap.size + 1) s p6) := by rw [hX5]; exact (HR.out.grown (grown_set _ _ _ _) (by simp <;> omega))
  have HG1 : Hid (Below w.heap.size w X5) := by rw [hX5]; exact (HG.out.setCell (by simp <;> omega) _)
  have HOW1 : Hid (X5.ownsRow B3 3 1 (.slice ua 3 uc) 3 (intV A.l)) := by rw [hX5]; exact (own_set HOW.out hB3g)
  have HX : Hid (w6.setCell ⟨(w.heap.size + 1 + 1), 6, none⟩ (.string A.y) = X5) := hX5.symm
  clear hX5 HT HO HR HG HOW
  go_wp2_with fail
  rw [HX.out]
  have HT := HT1
  have HO := HO1
  have HR := HR1
  have HG := HG1
  have HOW := HOW1
  clear HT1 HO1 HR1 HG1 HX c6 f6 HOW1
  refine (H6.out _ HR.out).mono ?_
  rintro e w7 ⟨rfl, hr, hg⟩
  replace HT : Hid (Row w7 (w.heap.size + 1 + 1) #[.int .i64 A.r, .int .i64 A.s, .int .i64 A.t, .slice ua 3 uc, .int .i64 A.k, .string A.o, .string A.y, .int .i64 0, .int .i64 0, .int .i64 0] 75) := HT.out.grown hg (by simp <;> omega)
  replace HO : Hid (Row w7 w.heap.size zAct 75) := HO.out.grown hg (by simp <;> omega)
  replace HOW : Hid (w7.ownsRow B3 3 1 (.slice ua 3 uc) 3 (intV A.l)) := own_grown HOW.out hg (by omega)
  replace HG : Hid (Below w.heap.size w w7) := HG.out.grown hg (by have := HG.out.size; omega) (fun k hk => by cases hk; omega)
  replace HR : Hid (RdI w7 (w.heap.size + 1) s p7) := hr
  clear hr hg
  obtain ⟨X6, hX6⟩ : ∃ X6, X6 = w7.setCell ⟨(w.heap.size + 1 + 1), 7, none⟩ (.int .i64 A.v) := ⟨_, rfl⟩
  have c7 := HT.out.cell 7 rfl
  have f7 := HT.out.free 7
  have HT1 : Hid (Row X6 (w.heap.size + 1 + 1) #[.int .i64 A.r, .int .i64 A.s, .int .i64 A.t, .slice ua 3 uc, .int .i64 A.k, .string A.o, .string A.y, .int .i64 A.v, .int .i64 0, .int .i64 0] 75) := by rw [hX6]; exact (HT.out.s7 _)
  have HO1 : Hid (Row X6 w.heap.size zAct 75) := by rw [hX6]; exact (HO.out.other (by simp <;> omega) _)
  have HR1 : Hid (RdI X6 (w.heap.size + 1) s p7) := by rw [hX6]; exact (HR.out.grown (grown_set _ _ _ _) (by simp <;> omega))
  have HG1 : Hid (Below w.heap.size w X6) := by rw [hX6]; exact (HG.out.setCell (by simp <;> omega) _)
  have HOW1 : Hid (X6.ownsRow B3 3 1 (.slice ua 3 uc) 3 (intV A.l)) := by rw [hX6]; exact (own_set HOW.out hB3g)
  have HX : Hid (w7.setCell ⟨(w.heap.size + 1 + 1), 7, none⟩ (.int .i64 A.v) = X6) := hX6.symm
  clear hX6 HT HO HR HG HOW
  go_wp2_with fail
  rw [HX.out]
  have HT := HT1
  have HO := HO1
  have HR := HR1
  have HG := HG1
  have HOW := HOW1
  clear HT1 HO1 HR1 HG1 HX c7 f7 HOW1
  refine (H7.out _ HR.out).mono ?_
  rintro e w8 ⟨rfl, hr, hg⟩
  replace HT : Hid (Row w8 (w.heap.size + 1 + 1) #[.int .i64 A.r, .int .i64 A.s, .int .i64 A.t, .slice ua 3 uc, .int .i64 A.k, .string A.o, .string A.y, .int .i64 A.v, .int .i64 0, .int .i64 0] 75) := HT.out.grown hg (by simp <;> omega)
  replace HO : Hid (Row w8 w.heap.size zAct 75) := HO.out.grown hg (by simp <;> omega)
  replace HOW : Hid (w8.ownsRow B3 3 1 (.slice ua 3 uc) 3 (intV A.l)) := own_grown HOW.out hg (by omega)
  replace HG : Hid (Below w.heap.size w w8) := HG.out.grown hg (by have := HG.out.size; omega) (fun k hk => by cases hk; omega)
  replace HR : Hid (RdI w8 (w.heap.size + 1) s q) := hr
  clear hr hg
  obtain ⟨X7, hX7⟩ : ∃ X7, X7 = (w8.setCell ⟨w.heap.size + 1 + 1, 8, none⟩ (.int .i64 A.x)).setCell ⟨w.heap.size + 1 + 1, 9, none⟩ (.int .i64 A.z) := ⟨_, rfl⟩
  have HT1 : Hid (ActAt X7 (w.heap.size + 1 + 1) A (.slice ua 3 uc)) := by rw [hX7]; exact (HT.out.s8 _).s9 _
  have HO1 : Hid (Row X7 w.heap.size zAct 75) := by rw [hX7]; exact (HO.out.other (by simp <;> omega) _).other (by simp <;> omega) _
  have HR1 : Hid (RdI X7 (w.heap.size + 1) s q) := by rw [hX7]; exact (HR.out.grown (grown_set _ _ _ _) (by simp <;> omega)).grown (grown_set _ _ _ _) (by simp <;> omega)
  have HG1 : Hid (Below w.heap.size w X7) := by rw [hX7]; exact (HG.out.setCell (by simp <;> omega) _).setCell (by simp <;> omega) _
  have HOW1 : Hid (X7.ownsRow B3 3 1 (.slice ua 3 uc) 3 (intV A.l)) := by rw [hX7]; exact own_set (own_set HOW.out hB3g) hB3g
  have HX : Hid ((w8.setCell ⟨w.heap.size + 1 + 1, 8, none⟩ (.int .i64 A.x)).setCell ⟨w.heap.size + 1 + 1, 9, none⟩ (.int .i64 A.z) = X7) := hX7.symm
  have hb3 : w.heap.size ≤ B3 := by omega
  have hO8 := HO.out
  have hT8 := HT.out
  have HR8 := HR
  clear hX7 HT HO HR HG HOW
  have HZ : Hid (∀ wx, Row wx w.heap.size zAct 75 → Below w.heap.size w wx → ActAt (store10 wx w.heap.size zAc (.slice none 0 0)) w.heap.size zAc (.slice none 0 0) ∧ Below w.heap.size w (store10 wx w.heap.size zAc (.slice none 0 0))) := fun wx h1 h2 => ⟨store10_at h1 _ _, store10_below h2 (Nat.le_refl _) _ _⟩
  have HAK : Hid (∀ wx, IntsAt wx (.slice ua 3 uc) A.l → Calls Try.prog 55 #[.agg #[.int .i64 A.r, .int .i64 A.s, .int .i64 A.t, .slice ua 3 uc, .int .i64 A.k, .string A.o, .string A.y, .int .i64 A.v, .int .i64 A.x, .int .i64 A.z]] wx fun e w' => e = .returned (.bool (decide (AOk A))) ∧ Below wx.heap.size wx w') := fun wx h => actOk_calls A _ wx hlim h
  have HLEN : Hid (A.l.length = 3) := hlen
  clear hlen hlim
  cases q with
  | none =>
    have HQ : Hid (R = (zAc, 0, false)) := HN1.out rfl
    obtain ⟨ax, hrow⟩ := HR8.out
    have d2 : w8.cell? ⟨w.heap.size + 1, 2, none⟩ = some (.bool false) := hrow.cell 2 rfl
    obtain ⟨o0, o1, o2, o3, o4, o5, o6, o7, o8, o9⟩ := Row.ten hO8
    obtain ⟨g0, g1, g2, g3, g4, g5, g6, g7, g8, g9⟩ := hO8.frees
    have c8 := hT8.cell 8 rfl
    have f8 := hT8.free 8
    have c9 := hT8.cell 9 rfl
    have f9 := hT8.free 9
    clear hrow HN1 HN2 HN3 hT8 hO8
    go_wp2
    rw [HX.out, store10_zero]
    have HS := HZ.out X7 HO1.out HG1.out
    exact bodyPost_ret (ret_act3 rfl rfl rfl rfl HS.1) rfl ⟨none, 0, by rw [HQ.out]; rfl, by rw [HQ.out]; exact own_nil, HS.2⟩
  | some j =>
    have hrow : Row w8 (w.heap.size + 1) #[.string s, .int .i64 j, .bool true] 139 := HR8.out
    have HRW : Hid (Row X7 (w.heap.size + 1) #[.string s, .int .i64 j, .bool true] 139) := HR1.out
    have d2 : w8.cell? ⟨w.heap.size + 1, 2, none⟩ = some (.bool true) := hrow.cell 2 rfl
    obtain ⟨t0, t1, t2, t3, t4, t5, t6, t7, t8, t9⟩ := Row.ten hT8
    have f8 := hT8.free 8
    have f9 := hT8.free 9
    clear hrow HN1 hT8 hO8
    go_wp2_with fail
    rw [HX.out]
    refine (HAK.out _ (IntsAt.own HOW1.out HLEN.out)).mono ?_
    rintro e wz ⟨rfl, hbz⟩
    clear HX d2 t0 t1 t2 t3 t4 t5 t6 t7 t8 t9 f8 f9
    have HO2 : Hid (Row wz w.heap.size zAct 75) := HO1.out.next hbz
    have HG2 : Hid (Below w.heap.size w wz) := HG1.out.trans (hbz.mono HG1.out.size)
    have HT2 : Hid (Row wz (w.heap.size + 1 + 1) #[.int .i64 A.r, .int .i64 A.s, .int .i64 A.t, .slice ua 3 uc, .int .i64 A.k, .string A.o, .string A.y, .int .i64 A.v, .int .i64 A.x, .int .i64 A.z] 75) := Row.next (cs := #[.int .i64 A.r, .int .i64 A.s, .int .i64 A.t, .slice ua 3 uc, .int .i64 A.k, .string A.o, .string A.y, .int .i64 A.v, .int .i64 A.x, .int .i64 A.z]) HT1.out hbz
    have HR2 : Hid (Row wz (w.heap.size + 1) #[.string s, .int .i64 j, .bool true] 139) := HRW.out.next hbz
    have HOW2 : Hid (wz.ownsRow B3 3 1 (.slice ua 3 uc) 3 (intV A.l)) := own_below HOW1.out hbz
    clear HO1 HG1 HT1 HR1 HRW HOW1 hbz HR8
    obtain ⟨o0, o1, o2, o3, o4, o5, o6, o7, o8, o9⟩ := Row.ten HO2.out
    obtain ⟨g0, g1, g2, g3, g4, g5, g6, g7, g8, g9⟩ := HO2.out.frees
    by_cases hok : AOk A
    · rw [decide_eq_true hok]
      have HQ : Hid (R = (A, j, true)) := HN3.out j rfl hok
      obtain ⟨t0, t1, t2, t3, t4, t5, t6, t7, t8, t9⟩ := Row.ten HT2.out
      have d1 : wz.cell? ⟨w.heap.size + 1, 1, none⟩ = some (.int .i64 j) := HR2.out.cell 1 rfl
      clear hok HN2 HN3
      go_wp2
      go_region
      all_goals go_wp2
      all_goals rw [store10_eq]
      have HZ1 : ActAt (store10 wz w.heap.size A (.slice ua 3 uc)).drew w.heap.size A (.slice ua 3 uc) := (show ActAt (store10 wz w.heap.size A (.slice ua 3 uc)) w.heap.size A (.slice ua 3 uc) from store10_at HO2.out A _).drew
      have HOW3 : (store10 wz w.heap.size A (.slice ua 3 uc)).drew.ownsRow B3 3 1 (.slice ua 3 uc) 3 (intV A.l) := own_below (own_store10 HOW2.out (by omega) A _) (Below.refl _ _).drew
      have HG3 : Below w.heap.size w (store10 wz w.heap.size A (.slice ua 3 uc)).drew := (store10_below HG2.out (Nat.le_refl _) A _).drew
      generalize (store10 wz w.heap.size A (.slice ua 3 uc)).drew = w9 at *
      exact bodyPost_ret (ret_act3 rfl rfl rfl rfl HZ1) rfl ⟨ua, uc, by rw [HQ.out]; show _ = Ending.returned (.tuple #[A.val (.slice ua A.l.length uc), _, _]); rw [HLEN.out]; rfl, by rw [HQ.out]; show World.ownsRow _ _ _ _ (.slice ua A.l.length uc) A.l.length (intV A.l); rw [HLEN.out]; exact own_base HOW3 hb3, HG3⟩
    · rw [decide_eq_false hok]
      have HQ : Hid (R = (zAc, 0, false)) := HN2.out hok
      clear hok HN2 HN3
      go_wp2
      rw [store10_zero]
      have HS := HZ.out wz HO2.out HG2.out
      exact bodyPost_ret (ret_act3 rfl rfl rfl rfl HS.1) rfl ⟨none, 0, by rw [HQ.out]; rfl, by rw [HQ.out]; exact own_nil, HS.2⟩

end Go.Proofs.Ytahdgagipmpcgaa
