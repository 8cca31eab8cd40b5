/- What the laws' own helpers on acts do. -/
import Derived.Test.YtjphgmknbnedhaaARow
namespace Go.Proofs.Ytjphgmknbnedhaa
set_option maxRecDepth 100000
set_option linter.unusedVariables false
open Go.RowKit

/-- How much there is in an act. -/
def Ac.sz (A : Ac) : Int := (A.l.length : Int) + A.o.size + A.y.size
/-- What is left of L. -/
def leftOf (L n : Int) : Int := if n ≤ L then L - n else -1

theorem szInts_calls (aa : Option Addr) (n ca : Nat) (L : Int) (w : World) (h0 : 0 ≤ L) (h1 : L ≤ 1048576) (hn : n ≤ maxLen) :
    Calls Try.prog 102 #[.slice aa n ca, .int .i64 L] w fun e w' => e = .returned (.int .i64 (leftOf L n)) ∧ w' = w := by
  unfold maxLen at hn
  have hwr : IntKind.i64.wrap (L - n) = L - n := by rw [IntKind.wrap_i64] <;> omega
  by_cases h : L - n < 0
  · have e : leftOf L n = -1 := by unfold leftOf; rw [if_neg (by omega)]
    rw [e]
    go_enter Try.func102, Try.ntmps102
    go_wp2
    go_ret
    exact ⟨rfl, rfl⟩
  · have e : leftOf L n = L - n := by unfold leftOf; rw [if_pos (by omega)]
    rw [e]
    go_enter Try.func102, Try.ntmps102
    go_wp2
    go_ret
    exact ⟨rfl, rfl⟩

set_option maxHeartbeats 1000000 in
theorem szAct_calls (A : Ac) (aa : Option Addr) (ca : Nat) (L : Int) (w : World) (h0 : 0 ≤ L) (h1 : L ≤ 1048576) (hn : A.l.length ≤ maxLen) (ho : A.o.size ≤ maxLen) (hy : A.y.size ≤ maxLen) :
    Calls Try.prog 61 #[A.val (.slice aa A.l.length ca), .int .i64 L] w fun e w' => e = .returned (.int .i64 (leftOf L A.sz)) ∧ Below w.heap.size w w' := by
  obtain ⟨R, hR⟩ : ∃ R, R = leftOf L A.sz := ⟨_, rfl⟩
  rw [← hR]
  have HR : Hid (R = leftOf L A.sz) := hR
  clear hR
  have hb : ∀ o1, Below w.heap.size w (w.alloc o1) := fun o1 => (Below.refl _ _).alloc (Nat.le_refl _) _
  have HC : Hid (∀ wx, Calls Try.prog 102 #[.slice aa A.l.length ca, .int .i64 L] wx fun e w' => e = .returned (.int .i64 (leftOf L A.l.length)) ∧ w' = wx) := fun wx => szInts_calls aa _ ca L wx h0 h1 hn
  unfold maxLen at hn ho hy
  unfold Ac.val
  by_cases k1 : (A.l.length : Int) ≤ L
  · have e1 : leftOf L A.l.length = L - A.l.length := by unfold leftOf; rw [if_pos k1]
    rw [e1] at HC
    have n1 : ¬ (L - (A.l.length : Int) < 0) := by omega
    have w1 : IntKind.i64.wrap (L - (A.l.length : Int) - A.o.size) = L - (A.l.length : Int) - A.o.size := by rw [IntKind.wrap_i64] <;> omega
    by_cases k2 : (A.l.length : Int) + A.o.size ≤ L
    · have n2 : ¬ (L - (A.l.length : Int) - A.o.size < 0) := by omega
      have w2 : IntKind.i64.wrap (L - (A.l.length : Int) - A.o.size - A.y.size) = L - (A.l.length : Int) - A.o.size - A.y.size := by rw [IntKind.wrap_i64] <;> omega
      by_cases k3 : (A.l.length : Int) + A.o.size + A.y.size ≤ L
      · have n3 : ¬ (L - (A.l.length : Int) - A.o.size - A.y.size < 0) := by omega
        have HE : Hid (R = L - (A.l.length : Int) - A.o.size - A.y.size) := by show _ = _; rw [HR.out]; unfold leftOf Ac.sz; rw [if_pos k3]; omega
        clear k1 k2 k3 e1
        go_enter Try.func61, Try.ntmps61
        go_wp2_with (go_at_call 102; refine (HC.out _).mono ?_; rintro e w1 ⟨rfl, rfl⟩)
        go_ret
        exact ⟨by rw [HE.out]; rfl, hb _⟩
      · have n3 : L - (A.l.length : Int) - A.o.size - A.y.size < 0 := by omega
        have HE : Hid (R = -1) := by show _ = _; rw [HR.out]; unfold leftOf Ac.sz; rw [if_neg k3]
        clear k1 k2 k3 e1
        go_enter Try.func61, Try.ntmps61
        go_wp2_with (go_at_call 102; refine (HC.out _).mono ?_; rintro e w1 ⟨rfl, rfl⟩)
        go_ret
        exact ⟨by rw [HE.out]; rfl, hb _⟩
    · have n2 : L - (A.l.length : Int) - A.o.size < 0 := by omega
      have HE : Hid (R = -1) := by show _ = _; rw [HR.out]; unfold leftOf Ac.sz; rw [if_neg (by omega)]
      clear k1 k2 e1
      go_enter Try.func61, Try.ntmps61
      go_wp2_with (go_at_call 102; refine (HC.out _).mono ?_; rintro e w1 ⟨rfl, rfl⟩)
      go_ret
      exact ⟨by rw [HE.out]; rfl, hb _⟩
  · have e1 : leftOf L A.l.length = -1 := by unfold leftOf; rw [if_neg k1]
    rw [e1] at HC
    have HE : Hid (R = -1) := by show _ = _; rw [HR.out]; unfold leftOf Ac.sz; rw [if_neg (by omega)]
    clear k1 e1
    go_enter Try.func61, Try.ntmps61
    go_wp2_with (go_at_call 102; refine (HC.out _).mono ?_; rintro e w1 ⟨rfl, rfl⟩)
    go_ret
    exact ⟨by rw [HE.out]; rfl, hb _⟩

def zAct : Array Value := #[.int .i64 0, .int .i64 0, .int .i64 0, .slice none 0 0, .int .i64 0, .string { data := #[] }, .string { data := #[] }, .int .i64 0, .int .i64 0, .int .i64 0]

set_option maxHeartbeats 2000000 in
theorem toAct_calls (A : Ac) (v : Value) (w : World) (hn : A.l.length ≤ 1048576) (ha : ArgInts w v A.l) :
    Calls Try.prog 62 #[A.val v] w fun e w' => ∃ u, e = .returned (A.val u) ∧ w'.ownsRow w.heap.size 3 1 u A.l.length (intV A.l) ∧ Below w.heap.size w w' := by
  obtain ⟨W, hW⟩ : ∃ W, W = ((w.alloc (.cells (A.cs v) 89)).alloc (.cells zAct 72)).alloc (.cells zAct 72) := ⟨_, rfl⟩
  have HP : Hid (Row W w.heap.size (A.cs v) 89) := by rw [hW]; exact ((row_new w _ _ rfl).alloc _).alloc _
  have HO : Hid (Row W (w.heap.size + 1) zAct 72) := by rw [hW]; exact (row_new _ _ _ (by simp)).alloc _
  have HT : Hid (Row W (w.heap.size + 1 + 1) zAct 72) := by rw [hW]; exact row_new _ _ _ (by simp)
  have HBW : Hid (Below w.heap.size w W) := by rw [hW]; exact (((Below.refl _ _).alloc (Nat.le_refl _) _).alloc (by simp) _).alloc (by simp; omega) _
  have HW : Hid (((w.alloc (.cells (A.cs v) 89)).alloc (.cells zAct 72)).alloc (.cells zAct 72) = W) := hW.symm
  have HA : Hid (ArgInts w v A.l) := ha
  unfold Ac.cs zAct at HW
  unfold Ac.val
  clear ha hW
  go_enter Try.func62, Try.ntmps62
  go_wp2_with fail
  rw [HW.out]
  refine (toDot_calls _ _ _).mono ?_
  rintro e w1 ⟨rfl, hb1⟩
  unfold dot
  replace HP : Hid (Row w1 w.heap.size (A.cs v) 89) := HP.out.next hb1
  replace HO : Hid (Row w1 (w.heap.size + 1) zAct 72) := HO.out.next hb1
  replace HT : Hid (Row w1 (w.heap.size + 1 + 1) zAct 72) := HT.out.next hb1
  replace HBW : Hid (Below w.heap.size w w1) := HBW.out.trans (hb1.mono HBW.out.size)
  clear hb1 HW
  clear W
  obtain ⟨-, -, p2, p3, -, -, -, -, -, -⟩ := Row.ten HP.out
  obtain ⟨o0, o1, o2, -, -, -, -, -, -, -⟩ := Row.ten HT.out
  obtain ⟨f0, f1, f2, -, -, -, -, -, -, -⟩ := HT.out.frees
  obtain ⟨w2, hw2⟩ : ∃ w2, w2 = ((w1.setCell ⟨w.heap.size + 1 + 1, 0, none⟩ (.int .i64 A.r)).setCell ⟨w.heap.size + 1 + 1, 1, none⟩ (.int .i64 A.s)).setCell ⟨w.heap.size + 1 + 1, 2, none⟩ (.int .i64 A.t) := ⟨_, rfl⟩
  have HT2 : Hid (Row w2 (w.heap.size + 1 + 1) #[.int .i64 A.r, .int .i64 A.s, .int .i64 A.t, .slice none 0 0, .int .i64 0, .string { data := #[] }, .string { data := #[] }, .int .i64 0, .int .i64 0, .int .i64 0] 72) := by
    rw [hw2]; exact Row.s2 (Row.s1 (Row.s0 HT.out _) _) _
  have HO2 : Hid (Row w2 (w.heap.size + 1) zAct 72) := by rw [hw2]; exact ((HO.out.other (by simp) _).other (by simp) _).other (by simp) _
  have HP2 : Hid (Row w2 w.heap.size (A.cs v) 89) := by rw [hw2]; exact ((HP.out.other (by simp; omega) _).other (by simp; omega) _).other (by simp; omega) _
  have HB2 : Hid (Below w.heap.size w w2) := by rw [hw2]; exact ((HBW.out.setCell (by simp; omega) _).setCell (by simp; omega) _).setCell (by simp; omega) _
  have HW2 : Hid (((w1.setCell ⟨w.heap.size + 1 + 1, 0, none⟩ (.int .i64 A.r)).setCell ⟨w.heap.size + 1 + 1, 1, none⟩ (.int .i64 A.s)).setCell ⟨w.heap.size + 1 + 1, 2, none⟩ (.int .i64 A.t) = w2) := hw2.symm
  clear hw2 HP HO HT HBW
  go_wp2_with fail
  rw [HW2.out]
  refine (toInts_calls hn _ (HA.out.below HB2.out)).mono ?_
  rintro e w3 ⟨u, rfl, hown, hb3⟩
  clear HW2 p2 p3 o0 o1 o2 f0 f1 f2
  obtain ⟨ua, uc, rfl, -⟩ := IntsAt.own hown rfl
  have HOW : Hid (w3.ownsRow w2.heap.size 3 1 (.slice ua A.l.length uc) A.l.length (intV A.l)) := hown
  replace HP2 : Hid (Row w3 w.heap.size (A.cs v) 89) := HP2.out.next hb3
  replace HO2 : Hid (Row w3 (w.heap.size + 1) zAct 72) := HO2.out.next hb3
  have hlt := HT2.out.lt
  have hlt2 : w.heap.size ≤ w2.heap.size := HB2.out.size
  replace HT2 : Hid (Row w3 (w.heap.size + 1 + 1) _ 72) := HT2.out.next hb3
  replace HB2 : Hid (Below w.heap.size w w3) := HB2.out.trans (hb3.mono HB2.out.size)
  clear hb3 hown
  obtain ⟨-, -, -, -, p4, p5, p6, p7, p8, p9⟩ := Row.ten HP2.out
  obtain ⟨-, -, -, o3, o4, o5, o6, o7, -, -⟩ := Row.ten HT2.out
  obtain ⟨-, -, -, f3, f4, f5, f6, f7, -, -⟩ := HT2.out.frees
  obtain ⟨w4, hw4⟩ : ∃ w4, w4 = ((((w3.setCell ⟨w.heap.size + 1 + 1, 3, none⟩ (.slice ua A.l.length uc)).setCell ⟨w.heap.size + 1 + 1, 4, none⟩ (.int .i64 A.k)).setCell ⟨w.heap.size + 1 + 1, 5, none⟩ (.string A.o)).setCell ⟨w.heap.size + 1 + 1, 6, none⟩ (.string A.y)).setCell ⟨w.heap.size + 1 + 1, 7, none⟩ (.int .i64 A.v) := ⟨_, rfl⟩
  have HT4 : Hid (Row w4 (w.heap.size + 1 + 1) #[.int .i64 A.r, .int .i64 A.s, .int .i64 A.t, .slice ua A.l.length uc, .int .i64 A.k, .string A.o, .string A.y, .int .i64 A.v, .int .i64 0, .int .i64 0] 72) := by
    rw [hw4]; exact ((((HT2.out.s3 _).s4 _).s5 _).s6 _).s7 _
  have HO4 : Hid (Row w4 (w.heap.size + 1) zAct 72) := by rw [hw4]; exact ((((HO2.out.other (by simp) _).other (by simp) _).other (by simp) _).other (by simp) _).other (by simp) _
  have HB4 : Hid (Below w.heap.size w w4) := by rw [hw4]; exact ((((HB2.out.setCell (by simp; omega) _).setCell (by simp; omega) _).setCell (by simp; omega) _).setCell (by simp; omega) _).setCell (by simp; omega) _
  have HOW4 : Hid (w4.ownsRow w2.heap.size 3 1 (.slice ua A.l.length uc) A.l.length (intV A.l)) := by rw [hw4]; exact own_set (own_set (own_set (own_set (own_set HOW.out hlt) hlt) hlt) hlt) hlt
  have HW4 : Hid (((((w3.setCell ⟨w.heap.size + 1 + 1, 3, none⟩ (.slice ua A.l.length uc)).setCell ⟨w.heap.size + 1 + 1, 4, none⟩ (.int .i64 A.k)).setCell ⟨w.heap.size + 1 + 1, 5, none⟩ (.string A.o)).setCell ⟨w.heap.size + 1 + 1, 6, none⟩ (.string A.y)).setCell ⟨w.heap.size + 1 + 1, 7, none⟩ (.int .i64 A.v) = w4) := hw4.symm
  clear hw4 HP2 HO2 HT2 HB2 HOW
  go_wp2_with fail
  rw [HW4.out]
  refine (toDot_calls _ _ _).mono ?_
  rintro e w5 ⟨rfl, hb5⟩
  unfold dot
  clear HW4 p4 p5 p6 p7 p8 p9 o3 o4 o5 o6 o7 f3 f4 f5 f6 f7
  replace HO4 : Hid (Row w5 (w.heap.size + 1) zAct 72) := HO4.out.next hb5
  replace HT4 : Hid (Row w5 (w.heap.size + 1 + 1) _ 72) := HT4.out.next hb5
  replace HB4 : Hid (Below w.heap.size w w5) := HB4.out.trans (hb5.mono HB4.out.size)
  replace HOW4 : Hid (w5.ownsRow w2.heap.size 3 1 (.slice ua A.l.length uc) A.l.length (intV A.l)) := own_below HOW4.out hb5
  clear hb5
  obtain ⟨t0, t1, t2, t3, t4, t5, t6, t7, t8, t9⟩ := Row.ten HT4.out
  obtain ⟨-, -, -, -, -, -, -, -, f8, f9⟩ := HT4.out.frees
  obtain ⟨o0, o1, o2, o3, o4, o5, o6, o7, o8, o9⟩ := Row.ten HO4.out
  obtain ⟨g0, g1, g2, g3, g4, g5, g6, g7, g8, g9⟩ := HO4.out.frees
  go_wp2
  rw [store10_eq]
  have HR := (HO4.out.other (p := ⟨w.heap.size + 1 + 1, 8, none⟩) (by simp) (.int .i64 A.x)).other (p := ⟨w.heap.size + 1 + 1, 9, none⟩) (by simp) (.int .i64 A.z)
  have HS := own_set (i := 9) (x := .int .i64 A.z) (own_set (i := 8) (x := .int .i64 A.x) HOW4.out hlt) hlt
  have HBB := (HB4.out.setCell (p := ⟨w.heap.size + 1 + 1, 8, none⟩) (by simp; omega) (.int .i64 A.x)).setCell (p := ⟨w.heap.size + 1 + 1, 9, none⟩) (by simp; omega) (.int .i64 A.z)
  clear t0 t1 t2 t3 t4 t5 t6 t7 t8 t9 f8 f9 o0 o1 o2 o3 o4 o5 o6 o7 o8 o9 g0 g1 g2 g3 g4 g5 g6 g7 g8 g9
  generalize (w5.setCell ⟨w.heap.size + 1 + 1, 8, none⟩ (.int .i64 A.x)).setCell ⟨w.heap.size + 1 + 1, 9, none⟩ (.int .i64 A.z) = w6 at *
  have HZ : ActAt (store10 w6 (w.heap.size + 1) A (.slice ua A.l.length uc)) (w.heap.size + 1) A (.slice ua A.l.length uc) := store10_at HR A _
  exact bodyPost_ret (ret_act rfl rfl HZ) rfl ⟨_, rfl, own_base (own_store10 HS (by omega) A _) hlt2, store10_below HBB (by omega) A _⟩

end Go.Proofs.Ytjphgmknbnedhaa
