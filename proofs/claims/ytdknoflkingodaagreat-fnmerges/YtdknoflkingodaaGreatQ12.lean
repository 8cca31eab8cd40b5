/- Whether two states are the same: both. -/
import Derived.Test.YtdknoflkingodaaGreatQ11
set_option maxHeartbeats 16000000
namespace Go.Proofs.YtdknoflkingodaaGreat
open Value (int)
open IntKind (i64)
set_option maxRecDepth 100000
set_option linter.unusedVariables false
open Go.RowKit
theorem Sta.ext' {S Z : Sta} (h0 : S.l = Z.l) (h1 : S.T = Z.T) (h2 : S.L = Z.L) (h3 : S.C = Z.C) : S = Z := by cases S; cases Z; simp_all
theorem Vk (S Z : Sta) (u0 u1 u2 u3 v0 v1 v2 v3 : Value) (w : World) (hn : S.l.length ≤ 1048576 ∧ S.T.length ≤ 1048576 ∧ S.L.length ≤ 1048576 ∧ S.C.length ≤ 1048576) (hm : Z.l.length ≤ 1048576 ∧ Z.T.length ≤ 1048576 ∧ Z.L.length ≤ 1048576 ∧ Z.C.length ≤ 1048576) (h : StAt w S u0 u1 u2 u3) (k : StAt w Z v0 v1 v2 v3) :
  Calls Tryz.prog 19 #[.agg #[u0, u1, u2, u3], .agg #[v0, v1, v2, v3]] w fun e w' => e = .returned (.bool (decide (S = Z))) ∧ Below w.heap.size w w' := by
 obtain ⟨q, hq⟩ : ∃ q, q = decide (S = Z) := ⟨_, rfl⟩
 rw [← hq]
 have HNO : Hid (¬ S = Z → q = false) := fun h => by rw [hq]; exact decide_eq_false h
 have HYES : Hid (S = Z → q = true) := fun h => by rw [hq]; exact decide_eq_true h
 obtain ⟨W, hW⟩ : ∃ W, W = (w.alloc (.cells #[u0, u1, u2, u3] 29)).alloc (.cells #[v0, v1, v2, v3] 29) := ⟨_, rfl⟩
 have HA : Hid (StAt W S u0 u1 u2 u3) := by rw [hW]; exact (h.alloc _).alloc _
 have HC : Hid (StAt W Z v0 v1 v2 v3) := by rw [hW]; exact (k.alloc _).alloc _
 have HPA : Hid (Row W w.heap.size #[u0, u1, u2, u3] 29) := by rw [hW]; exact (Jb w _ _ rfl).alloc _
 have HPB : Hid (Row W (w.heap.size + 1) #[v0, v1, v2, v3] 29) := by rw [hW]; exact Jb _ _ _ (by simp)
 have HB : Hid (Below w.heap.size w W) := by rw [hW]; exact ((Below.refl _ _).alloc (Nat.le_refl _) _).alloc (by simp) _
 have HW : Hid ((w.alloc (.cells #[u0, u1, u2, u3] 29)).alloc (.cells #[v0, v1, v2, v3] 29) = W) := hW.symm
 clear hW h k hq
 go_enter Tryz.func19, Tryz.ntmps19
 go_wp2_with fail
 rw [HW.out]
 clear HW
 refine (Ja6 hn.1 hm.1 _ HA.out.1 HC.out.1).mono ?_
 rintro e w1 ⟨rfl, hb⟩
 replace HA : Hid (StAt w1 S u0 u1 u2 u3) := HA.out.below hb
 replace HC : Hid (StAt w1 Z v0 v1 v2 v3) := HC.out.below hb
 replace HPA : Hid (Row w1 w.heap.size #[u0, u1, u2, u3] 29) := HPA.out.next hb
 replace HPB : Hid (Row w1 (w.heap.size + 1) #[v0, v1, v2, v3] 29) := HPB.out.next hb
 replace HB : Hid (Below w.heap.size w w1) := HB.out.trans (hb.mono HB.out.size)
 clear hb
 by_cases k0 : S.l = Z.l
 case neg =>
  rw [decide_eq_false k0]
  obtain rfl : q = false := HNO.out (fun h => k0 (by rw [h]))
  clear k0
  go_wp2
  go_ret
  exact ⟨rfl, HB.out⟩
 rw [decide_eq_true k0]
 have a0 := HPA.out.cell 1 rfl
 have b0 := HPB.out.cell 1 rfl
 go_wp2_with fail
 clear a0 b0
 refine (UQ hn.2.1 hm.2.1 _ HA.out.2.1 HC.out.2.1).mono ?_
 rintro e w2 ⟨rfl, hb⟩
 replace HA : Hid (StAt w2 S u0 u1 u2 u3) := HA.out.below hb
 replace HC : Hid (StAt w2 Z v0 v1 v2 v3) := HC.out.below hb
 replace HPA : Hid (Row w2 w.heap.size #[u0, u1, u2, u3] 29) := HPA.out.next hb
 replace HPB : Hid (Row w2 (w.heap.size + 1) #[v0, v1, v2, v3] 29) := HPB.out.next hb
 replace HB : Hid (Below w.heap.size w w2) := HB.out.trans (hb.mono HB.out.size)
 clear hb
 by_cases k1 : S.T = Z.T
 case neg =>
  rw [decide_eq_false k1]
  obtain rfl : q = false := HNO.out (fun h => k1 (by rw [h]))
  clear k1
  go_wp2
  go_ret
  exact ⟨rfl, HB.out⟩
 rw [decide_eq_true k1]
 have a1 := HPA.out.cell 2 rfl
 have b1 := HPB.out.cell 2 rfl
 go_wp2_with fail
 clear a1 b1
 refine (Vg hn.2.2.1 hm.2.2.1 _ HA.out.2.2.1 HC.out.2.2.1).mono ?_
 rintro e w3 ⟨rfl, hb⟩
 replace HA : Hid (StAt w3 S u0 u1 u2 u3) := HA.out.below hb
 replace HC : Hid (StAt w3 Z v0 v1 v2 v3) := HC.out.below hb
 replace HPA : Hid (Row w3 w.heap.size #[u0, u1, u2, u3] 29) := HPA.out.next hb
 replace HPB : Hid (Row w3 (w.heap.size + 1) #[v0, v1, v2, v3] 29) := HPB.out.next hb
 replace HB : Hid (Below w.heap.size w w3) := HB.out.trans (hb.mono HB.out.size)
 clear hb
 by_cases k2 : S.L = Z.L
 case neg =>
  rw [decide_eq_false k2]
  obtain rfl : q = false := HNO.out (fun h => k2 (by rw [h]))
  clear k2
  go_wp2
  go_ret
  exact ⟨rfl, HB.out⟩
 rw [decide_eq_true k2]
 have a2 := HPA.out.cell 3 rfl
 have b2 := HPB.out.cell 3 rfl
 go_wp2_with fail
 clear a2 b2
 refine (Vo hn.2.2.2 hm.2.2.2 _ HA.out.2.2.2 HC.out.2.2.2).mono ?_
 rintro e w4 ⟨rfl, hb⟩
 replace HA : Hid (StAt w4 S u0 u1 u2 u3) := HA.out.below hb
 replace HC : Hid (StAt w4 Z v0 v1 v2 v3) := HC.out.below hb
 replace HPA : Hid (Row w4 w.heap.size #[u0, u1, u2, u3] 29) := HPA.out.next hb
 replace HPB : Hid (Row w4 (w.heap.size + 1) #[v0, v1, v2, v3] 29) := HPB.out.next hb
 replace HB : Hid (Below w.heap.size w w4) := HB.out.trans (hb.mono HB.out.size)
 clear hb
 by_cases k3 : S.C = Z.C
 case neg =>
  rw [decide_eq_false k3]
  obtain rfl : q = false := HNO.out (fun h => k3 (by rw [h]))
  clear k3
  go_wp2
  go_ret
  exact ⟨rfl, HB.out⟩
 rw [decide_eq_true k3]
 obtain rfl : q = true := HYES.out (Sta.ext' k0 k1 k2 k3)
 go_wp2
 go_ret
 exact ⟨rfl, HB.out⟩
theorem JaK (S Z : Sta) (u0 u1 u2 u3 v0 v1 v2 v3 : Value) (w : World) (hn : S.l.length ≤ 1048576 ∧ S.T.length ≤ 1048576 ∧ S.L.length ≤ 1048576 ∧ S.C.length ≤ 1048576) (hm : Z.l.length ≤ 1048576 ∧ Z.T.length ≤ 1048576 ∧ Z.L.length ≤ 1048576 ∧ Z.C.length ≤ 1048576) (h : StAt w S u0 u1 u2 u3) (k : StAt w Z v0 v1 v2 v3) (hno : ¬ (S.l = Z.l ∧ S.T.length = Z.T.length ∧ S.L.length = Z.L.length ∧ S.C.length = Z.C.length)) :
  Calls Tryz.prog 20 #[.agg #[u0, u1, u2, u3], .agg #[v0, v1, v2, v3]] w fun e w' => e = .returned (.bool false) ∧ Below w.heap.size w w' := by
 obtain ⟨a0, c0, a1, c1, a2, c2, a3, c3, rfl, rfl, rfl, rfl⟩ := h.shape
 obtain ⟨b0, d0, b1, d1, b2, d2, b3, d3, rfl, rfl, rfl, rfl⟩ := k.shape
 obtain ⟨W, hW⟩ : ∃ W, W = (w.alloc (.cells #[.slice a0 S.l.length c0, .slice a1 S.T.length c1, .slice a2 S.L.length c2, .slice a3 S.C.length c3] 29)).alloc (.cells #[.slice b0 Z.l.length d0, .slice b1 Z.T.length d1, .slice b2 Z.L.length d2, .slice b3 Z.C.length d3] 29) := ⟨_, rfl⟩
 have HA := Ja ((h.alloc (.cells #[.slice a0 S.l.length c0, .slice a1 S.T.length c1, .slice a2 S.L.length c2, .slice a3 S.C.length c3] 29)).alloc (.cells #[.slice b0 Z.l.length d0, .slice b1 Z.T.length d1, .slice b2 Z.L.length d2, .slice b3 Z.C.length d3] 29))
 have HC := Ja ((k.alloc (.cells #[.slice a0 S.l.length c0, .slice a1 S.T.length c1, .slice a2 S.L.length c2, .slice a3 S.C.length c3] 29)).alloc (.cells #[.slice b0 Z.l.length d0, .slice b1 Z.T.length d1, .slice b2 Z.L.length d2, .slice b3 Z.C.length d3] 29))
 rw [← hW] at HA HC
 have HPA : Hid (Row W w.heap.size #[.slice a0 S.l.length c0, .slice a1 S.T.length c1, .slice a2 S.L.length c2, .slice a3 S.C.length c3] 29) := by rw [hW]; exact (Jb w _ _ rfl).alloc _
 have HPB : Hid (Row W (w.heap.size + 1) #[.slice b0 Z.l.length d0, .slice b1 Z.T.length d1, .slice b2 Z.L.length d2, .slice b3 Z.C.length d3] 29) := by rw [hW]; exact Jb _ _ _ (by simp)
 have HB : Hid (Below w.heap.size w W) := by rw [hW]; exact ((Below.refl _ _).alloc (Nat.le_refl _) _).alloc (by simp) _
 have HW : Hid ((w.alloc (.cells #[.slice a0 S.l.length c0, .slice a1 S.T.length c1, .slice a2 S.L.length c2, .slice a3 S.C.length c3] 29)).alloc (.cells #[.slice b0 Z.l.length d0, .slice b1 Z.T.length d1, .slice b2 Z.L.length d2, .slice b3 Z.C.length d3] 29) = W) := hW.symm
 clear hW h k
 go_enter Tryz.func20, Tryz.ntmps20
 go_wp2_with fail
 rw [HW.out]
 clear HW
 refine (U7 hn.1 hm.1 _ HA.out.1 HC.out.1).mono ?_
 rintro e w1 ⟨rfl, hb⟩
 obtain ⟨p0, p1, p2, p3⟩ := Row.four (HPA.out.next hb)
 obtain ⟨q0, q1, q2, q3⟩ := Row.four (HPB.out.next hb)
 replace HB : Hid (Below w.heap.size w w1) := HB.out.trans (hb.mono HB.out.size)
 clear hb HA HC HPA HPB
 by_cases k0 : S.l = Z.l
 case neg =>
  rw [decide_eq_false k0]
  go_wp2
  go_ret
  exact ⟨rfl, HB.out⟩
 rw [decide_eq_true k0]
 by_cases k1 : S.T.length = Z.T.length
 case neg =>
  have e1 : ((S.T.length : Int) != Z.T.length) = true := by simp; omega
  clear k1
  go_wp2
  go_ret
  exact ⟨rfl, HB.out⟩
 have e1 : ((S.T.length : Int) != Z.T.length) = false := by simp; omega
 by_cases k2 : S.L.length = Z.L.length
 case neg =>
  have e2 : ((S.L.length : Int) != Z.L.length) = true := by simp; omega
  clear k2
  go_wp2
  go_ret
  exact ⟨rfl, HB.out⟩
 have e2 : ((S.L.length : Int) != Z.L.length) = false := by simp; omega
 by_cases k3 : S.C.length = Z.C.length
 case neg =>
  have e3 : ((S.C.length : Int) != Z.C.length) = true := by simp; omega
  clear k3
  go_wp2
  go_ret
  exact ⟨rfl, HB.out⟩
 have e3 : ((S.C.length : Int) != Z.C.length) = false := by simp; omega
 exact absurd ⟨k0, k1, k2, k3⟩ hno
theorem VH (S Z : Sta) (u0 u1 u2 u3 v0 v1 v2 v3 : Value) (w : World) (hn : S.l.length ≤ 1048576 ∧ S.T.length ≤ 1048576 ∧ S.L.length ≤ 1048576 ∧ S.C.length ≤ 1048576) (hm : Z.l.length ≤ 1048576 ∧ Z.T.length ≤ 1048576 ∧ Z.L.length ≤ 1048576 ∧ Z.C.length ≤ 1048576) (h : StAt w S u0 u1 u2 u3) (k : StAt w Z v0 v1 v2 v3) (e0 : S.l = Z.l) (e1 : S.T.length = Z.T.length) (e2 : S.L.length = Z.L.length) (e3 : S.C.length = Z.C.length) :
  Calls Tryz.prog 20 #[.agg #[u0, u1, u2, u3], .agg #[v0, v1, v2, v3]] w fun e w' => e = .returned (.bool (decide (S = Z))) ∧ Below w.heap.size w w' := by
 obtain ⟨q, hq⟩ : ∃ q, q = decide (S = Z) := ⟨_, rfl⟩
 rw [← hq]
 have HNO : Hid (¬ S = Z → q = false) := fun h => by rw [hq]; exact decide_eq_false h
 have HYES : Hid (S = Z → q = true) := fun h => by rw [hq]; exact decide_eq_true h
 clear hq
 obtain ⟨a0, c0, a1, c1, a2, c2, a3, c3, rfl, rfl, rfl, rfl⟩ := h.shape
 obtain ⟨b0, d0, b1, d1, b2, d2, b3, d3, rfl, rfl, rfl, rfl⟩ := k.shape
 have HG1 : Hid (TaG w a1 S.T ∧ TaG w b1 Z.T) := by
  obtain ⟨x, y, hq, hg⟩ := h.2.1
  obtain ⟨x', y', hq', hg'⟩ := k.2.1
  simp only [Value.slice.injEq] at hq hq'
  rw [hq.1, hq'.1]; exact ⟨hg, hg'⟩
 have HG2 : Hid (LiG w a2 S.L ∧ LiG w b2 Z.L) := by
  obtain ⟨x, y, hq, hg⟩ := h.2.2.1
  obtain ⟨x', y', hq', hg'⟩ := k.2.2.1
  simp only [Value.slice.injEq] at hq hq'
  rw [hq.1, hq'.1]; exact ⟨hg, hg'⟩
 have HG3 : Hid (CeG w a3 S.C ∧ CeG w b3 Z.C) := by
  obtain ⟨x, y, hq, hg⟩ := h.2.2.2
  obtain ⟨x', y', hq', hg'⟩ := k.2.2.2
  simp only [Value.slice.injEq] at hq hq'
  rw [hq.1, hq'.1]; exact ⟨hg, hg'⟩
 have HSM : Hid (∀ wx, Below w.heap.size w wx → Calls Tryz.prog 76 #[.slice a0 S.l.length c0, .slice b0 Z.l.length d0] wx fun e w' => e = .returned (.bool true) ∧ Below wx.heap.size wx w') := fun wx hb => by
  have := U7 hn.1 hm.1 wx (h.1.below hb) (k.1.below hb)
  rwa [decide_eq_true e0] at this
 have HE0 : Hid (S.l = Z.l) := e0
 obtain ⟨n1, hn1⟩ : ∃ n, n = S.T.length := ⟨_, rfl⟩
 have HL1 : Hid (n1 = S.T.length ∧ n1 = Z.T.length) := ⟨hn1, hn1.trans e1⟩
 rw [← e1, ← hn1]
 have hnn1 : ((n1 : Int) != n1) = false := by simp
 have hb1 : n1 ≤ 1048576 := by have := hn.2; omega
 obtain ⟨n2, hn2⟩ : ∃ n, n = S.L.length := ⟨_, rfl⟩
 have HL2 : Hid (n2 = S.L.length ∧ n2 = Z.L.length) := ⟨hn2, hn2.trans e2⟩
 rw [← e2, ← hn2]
 have hnn2 : ((n2 : Int) != n2) = false := by simp
 have hb2 : n2 ≤ 1048576 := by have := hn.2; omega
 obtain ⟨n3, hn3⟩ : ∃ n, n = S.C.length := ⟨_, rfl⟩
 have HL3 : Hid (n3 = S.C.length ∧ n3 = Z.C.length) := ⟨hn3, hn3.trans e3⟩
 rw [← e3, ← hn3]
 have hnn3 : ((n3 : Int) != n3) = false := by simp
 have hb3 : n3 ≤ 1048576 := by have := hn.2; omega
 obtain ⟨n0, hn0⟩ : ∃ n, n = S.l.length := ⟨_, rfl⟩
 obtain ⟨m0, hm0⟩ : ∃ n, n = Z.l.length := ⟨_, rfl⟩
 rw [← hn0, ← hm0]
 rw [← hn0, ← hm0] at HSM
 have G1 := U1
 have G2 := GN
 have G3 := V8
 clear hn1 hn2 hn3 hn0 hm0 e1 e2 e3 e0 h k hn hm
 obtain ⟨W, hW⟩ : ∃ W, W = (w.alloc (.cells #[.slice a0 n0 c0, .slice a1 n1 c1, .slice a2 n2 c2, .slice a3 n3 c3] 29)).alloc (.cells #[.slice b0 m0 d0, .slice b1 n1 d1, .slice b2 n2 d2, .slice b3 n3 d3] 29) := ⟨_, rfl⟩
 have hBW : Below w.heap.size w W := by rw [hW]; exact ((Below.refl _ _).alloc (Nat.le_refl _) _).alloc (by simp) _
 have hPA : Row W w.heap.size #[.slice a0 n0 c0, .slice a1 n1 c1, .slice a2 n2 c2, .slice a3 n3 c3] 29 := by rw [hW]; exact (Jb w _ _ rfl).alloc _
 have hPB : Row W (w.heap.size + 1) #[.slice b0 m0 d0, .slice b1 n1 d1, .slice b2 n2 d2, .slice b3 n3 d3] 29 := by rw [hW]; exact Jb _ _ _ (by simp)
 have HP : Hid (∀ wx, Below W.heap.size W wx → Row wx w.heap.size #[.slice a0 n0 c0, .slice a1 n1 c1, .slice a2 n2 c2, .slice a3 n3 c3] 29 ∧ Row wx (w.heap.size + 1) #[.slice b0 m0 d0, .slice b1 n1 d1, .slice b2 n2 d2, .slice b3 n3 d3] 29) := fun wx h => ⟨hPA.next h, hPB.next h⟩
 have HF : Hid (∀ wx, Below W.heap.size W wx → Below w.heap.size w wx) := fun wx h => hBW.trans (h.mono hBW.size)
 have HW : Hid ((w.alloc (.cells #[.slice a0 n0 c0, .slice a1 n1 c1, .slice a2 n2 c2, .slice a3 n3 c3] 29)).alloc (.cells #[.slice b0 m0 d0, .slice b1 n1 d1, .slice b2 n2 d2, .slice b3 n3 d3] 29) = W) := hW.symm
 clear hW hPA hPB hBW
 go_enter Tryz.func20, Tryz.ntmps20
 go_wp2_with fail
 rw [HW.out]
 clear HW
 refine (HSM.out _ (HF.out _ (Below.refl _ _))).mono ?_
 rintro e w1 ⟨rfl, hb⟩
 have HB : Hid (Below W.heap.size W w1) := hb
 obtain ⟨p0, p1, p2, p3⟩ := Row.four (HP.out _ hb).1
 obtain ⟨q0, q1, q2, q3⟩ := Row.four (HP.out _ hb).2
 clear hb HSM
 go_wp2
 clear p0 p1 p2 p3 q0 q1 q2 q3
 go_loopw [5] (fun z wr => ∃ k : Nat, k ≤ n1 ∧ z = int i64 k ∧ S.T.take k = Z.T.take k ∧ Below W.heap.size W wr) (fun z _ => n1 - (intOf z).toNat)
 case atStart => exact ⟨0, Nat.zero_le _, rfl, rfl, HB.out⟩
 case round =>
  clear HB
  obtain ⟨k, hk, rfl, htk, hbel⟩ := hrel
  have HTK : Hid (S.T.take k = Z.T.take k) := htk
  have HB : Hid (Below W.heap.size W wr) := hbel
  have hfb := HF.out _ hbel
  obtain ⟨p0, p1, p2, p3⟩ := Row.four (HP.out _ hbel).1
  obtain ⟨q0, q1, q2, q3⟩ := Row.four (HP.out _ hbel).2
  clear htk hbel
  by_cases hlt : k < n1
  ·have hkl : k < S.T.length := by rw [← HL1.out.1]; exact hlt
   have hkm : k < Z.T.length := by rw [← HL1.out.2]; exact hlt
   obtain ⟨g1, f1, rfl, hg1, ho1⟩ := HG1.out.1 (by omega)
   obtain ⟨g2, f2, rfl, hg2, ho2⟩ := HG1.out.2 (by omega)
   have cc1 := (ho1 k hkl).below hfb hg1
   have cc2 := (ho2 k hkm).below hfb hg2
   have hk1 : (k : Int) < n1 := by omega
   have hk0 : (0 : Int) ≤ k := by omega
   have HT : Hid (S.T[k] = Z.T[k] → S.T.take (k + 1) = Z.T.take (k + 1)) := fun hxy => by
    rw [List.take_succ_eq_append_getElem hkl, List.take_succ_eq_append_getElem hkm, HTK.out, hxy]
   have HN : Hid (¬ S.T[k] = Z.T[k] → q = false) := fun hxy => HNO.out (fun h => hxy (by subst h; rfl))
   generalize Z.T[k] = y at *
   generalize S.T[k] = x at *
   unfold taC at cc1 cc2
   obtain ⟨x0, x1, x2⟩ := cc1
   obtain ⟨y0, y1, y2⟩ := cc2
   clear ho1 ho2 hkl hkm hfb
   have heq := U5 x y
   by_cases hxy : x = y
   ·rw [decide_eq_true hxy] at heq
    have HT2 : Hid (S.T.take (k + 1) = Z.T.take (k + 1)) := HT.out hxy
    clear hxy HT HN
    go_wp2
    go_quiet (fail)
    have hbq := Jh HB.out nq
    clear x0 y0 x1 y1 x2 y2 p0 p1 p2 p3 q0 q1 q2 q3 HB heq
    generalize wr.drewN nq = wq at *
    go_wp2
    go_roundw
    case rel => exact ⟨k + 1, by omega, by go_num, HT2.out, hbq⟩
    case measure => simp [intOf]; omega
   ·rw [decide_eq_false hxy] at heq
    obtain rfl : q = false := HN.out hxy
    clear hxy HT HN
    go_wp2
    go_quiet (fail)
    have hbq := HF.out _ (Jh HB.out nq)
    clear x0 y0 x1 y1 x2 y2 p0 p1 p2 p3 q0 q1 q2 q3 HB heq
    generalize wr.drewN nq = wq at *
    go_wp2
    go_ret
    exact ⟨rfl, hbq⟩
  ·have hk1 : ¬ ((k : Int) < n1) := by omega
   have HE1 : Hid (S.T = Z.T) := by
    have := HTK.out
    have h1 := HL1.out.1
    have h2 := HL1.out.2
    rwa [List.take_of_length_le (by omega), List.take_of_length_le (by omega)] at this
   clear hfb HTK hlt hk
   go_wp2
   clear p0 p1 p2 p3 q0 q1 q2 q3
   go_loopw [6] (fun z wr => ∃ k : Nat, k ≤ n2 ∧ z = int i64 k ∧ S.L.take k = Z.L.take k ∧ Below W.heap.size W wr) (fun z _ => n2 - (intOf z).toNat)
   case atStart => exact ⟨0, Nat.zero_le _, rfl, rfl, HB.out⟩
   case round =>
    clear HB
    obtain ⟨k, hk, rfl, htk, hbel⟩ := hrel
    have HTK : Hid (S.L.take k = Z.L.take k) := htk
    have HB : Hid (Below W.heap.size W wr) := hbel
    have hfb := HF.out _ hbel
    obtain ⟨p0, p1, p2, p3⟩ := Row.four (HP.out _ hbel).1
    obtain ⟨q0, q1, q2, q3⟩ := Row.four (HP.out _ hbel).2
    clear htk hbel
    by_cases hlt : k < n2
    ·have hkl : k < S.L.length := by rw [← HL2.out.1]; exact hlt
     have hkm : k < Z.L.length := by rw [← HL2.out.2]; exact hlt
     obtain ⟨g1, f1, rfl, hg1, ho1⟩ := HG2.out.1 (by omega)
     obtain ⟨g2, f2, rfl, hg2, ho2⟩ := HG2.out.2 (by omega)
     have cc1 := (ho1 k hkl).below hfb hg1
     have cc2 := (ho2 k hkm).below hfb hg2
     have hk1 : (k : Int) < n2 := by omega
     have hk0 : (0 : Int) ≤ k := by omega
     have HT : Hid (S.L[k] = Z.L[k] → S.L.take (k + 1) = Z.L.take (k + 1)) := fun hxy => by
      rw [List.take_succ_eq_append_getElem hkl, List.take_succ_eq_append_getElem hkm, HTK.out, hxy]
     have HN : Hid (¬ S.L[k] = Z.L[k] → q = false) := fun hxy => HNO.out (fun h => hxy (by subst h; rfl))
     generalize Z.L[k] = y at *
     generalize S.L[k] = x at *
     unfold liC at cc1 cc2
     obtain ⟨x0, x1, x2, x3, x4, x5⟩ := cc1
     obtain ⟨y0, y1, y2, y3, y4, y5⟩ := cc2
     clear ho1 ho2 hkl hkm hfb
     have heq := GH x y
     by_cases hxy : x = y
     ·rw [decide_eq_true hxy] at heq
      have HT2 : Hid (S.L.take (k + 1) = Z.L.take (k + 1)) := HT.out hxy
      clear hxy HT HN
      go_wp2
      go_quiet (fail)
      have hbq := Jh HB.out nq
      clear x0 y0 x1 y1 x2 y2 x3 y3 x4 y4 x5 y5 p0 p1 p2 p3 q0 q1 q2 q3 HB heq
      generalize wr.drewN nq = wq at *
      go_wp2
      go_roundw
      case rel => exact ⟨k + 1, by omega, by go_num, HT2.out, hbq⟩
      case measure => simp [intOf]; omega
     ·rw [decide_eq_false hxy] at heq
      obtain rfl : q = false := HN.out hxy
      clear hxy HT HN
      go_wp2
      go_quiet (fail)
      have hbq := HF.out _ (Jh HB.out nq)
      clear x0 y0 x1 y1 x2 y2 x3 y3 x4 y4 x5 y5 p0 p1 p2 p3 q0 q1 q2 q3 HB heq
      generalize wr.drewN nq = wq at *
      go_wp2
      go_ret
      exact ⟨rfl, hbq⟩
    ·have hk1 : ¬ ((k : Int) < n2) := by omega
     have HE2 : Hid (S.L = Z.L) := by
      have := HTK.out
      have h1 := HL2.out.1
      have h2 := HL2.out.2
      rwa [List.take_of_length_le (by omega), List.take_of_length_le (by omega)] at this
     clear hfb HTK hlt hk
     go_wp2
     clear p0 p1 p2 p3 q0 q1 q2 q3
     go_loopw [7] (fun z wr => ∃ k : Nat, k ≤ n3 ∧ z = int i64 k ∧ S.C.take k = Z.C.take k ∧ Below W.heap.size W wr) (fun z _ => n3 - (intOf z).toNat)
     case atStart => exact ⟨0, Nat.zero_le _, rfl, rfl, HB.out⟩
     case round =>
      clear HB
      obtain ⟨k, hk, rfl, htk, hbel⟩ := hrel
      have HTK : Hid (S.C.take k = Z.C.take k) := htk
      have HB : Hid (Below W.heap.size W wr) := hbel
      have hfb := HF.out _ hbel
      obtain ⟨p0, p1, p2, p3⟩ := Row.four (HP.out _ hbel).1
      obtain ⟨q0, q1, q2, q3⟩ := Row.four (HP.out _ hbel).2
      clear htk hbel
      by_cases hlt : k < n3
      ·have hkl : k < S.C.length := by rw [← HL3.out.1]; exact hlt
       have hkm : k < Z.C.length := by rw [← HL3.out.2]; exact hlt
       obtain ⟨g1, f1, rfl, hg1, ho1⟩ := HG3.out.1 (by omega)
       obtain ⟨g2, f2, rfl, hg2, ho2⟩ := HG3.out.2 (by omega)
       have cc1 := (ho1 k hkl).below hfb hg1
       have cc2 := (ho2 k hkm).below hfb hg2
       have hk1 : (k : Int) < n3 := by omega
       have hk0 : (0 : Int) ≤ k := by omega
       have HT : Hid (S.C[k] = Z.C[k] → S.C.take (k + 1) = Z.C.take (k + 1)) := fun hxy => by
        rw [List.take_succ_eq_append_getElem hkl, List.take_succ_eq_append_getElem hkm, HTK.out, hxy]
       have HN : Hid (¬ S.C[k] = Z.C[k] → q = false) := fun hxy => HNO.out (fun h => hxy (by subst h; rfl))
       generalize Z.C[k] = y at *
       generalize S.C[k] = x at *
       unfold ceC at cc1 cc2
       obtain ⟨x0, x1, x2, x3, x4, x5, x6, x7⟩ := cc1
       obtain ⟨y0, y1, y2, y3, y4, y5, y6, y7⟩ := cc2
       clear ho1 ho2 hkl hkm hfb
       have heq := VA x y
       by_cases hxy : x = y
       ·rw [decide_eq_true hxy] at heq
        have HT2 : Hid (S.C.take (k + 1) = Z.C.take (k + 1)) := HT.out hxy
        clear hxy HT HN
        go_wp2
        go_quiet (fail)
        have hbq := Jh HB.out nq
        clear x0 y0 x1 y1 x2 y2 x3 y3 x4 y4 x5 y5 x6 y6 x7 y7 p0 p1 p2 p3 q0 q1 q2 q3 HB heq
        generalize wr.drewN nq = wq at *
        go_wp2
        go_roundw
        case rel => exact ⟨k + 1, by omega, by go_num, HT2.out, hbq⟩
        case measure => simp [intOf]; omega
       ·rw [decide_eq_false hxy] at heq
        obtain rfl : q = false := HN.out hxy
        clear hxy HT HN
        go_wp2
        go_quiet (fail)
        have hbq := HF.out _ (Jh HB.out nq)
        clear x0 y0 x1 y1 x2 y2 x3 y3 x4 y4 x5 y5 x6 y6 x7 y7 p0 p1 p2 p3 q0 q1 q2 q3 HB heq
        generalize wr.drewN nq = wq at *
        go_wp2
        go_ret
        exact ⟨rfl, hbq⟩
      ·have hk1 : ¬ ((k : Int) < n3) := by omega
       have HE3 : Hid (S.C = Z.C) := by
        have := HTK.out
        have h1 := HL3.out.1
        have h2 := HL3.out.2
        rwa [List.take_of_length_le (by omega), List.take_of_length_le (by omega)] at this
       clear hfb HTK hlt hk
       obtain rfl : q = true := HYES.out (Sta.ext' HE0.out HE1.out HE2.out HE3.out)
       go_wp2
       go_ret
       exact ⟨rfl, HF.out _ HB.out⟩
theorem GD (S Z : Sta) (u0 u1 u2 u3 v0 v1 v2 v3 : Value) (w : World) (hn : S.l.length ≤ 1048576 ∧ S.T.length ≤ 1048576 ∧ S.L.length ≤ 1048576 ∧ S.C.length ≤ 1048576) (hm : Z.l.length ≤ 1048576 ∧ Z.T.length ≤ 1048576 ∧ Z.L.length ≤ 1048576 ∧ Z.C.length ≤ 1048576) (h : StAt w S u0 u1 u2 u3) (k : StAt w Z v0 v1 v2 v3) :
  Calls Tryz.prog 20 #[.agg #[u0, u1, u2, u3], .agg #[v0, v1, v2, v3]] w fun e w' => e = .returned (.bool (decide (S = Z))) ∧ Below w.heap.size w w' := by
 by_cases hc : S.l = Z.l ∧ S.T.length = Z.T.length ∧ S.L.length = Z.L.length ∧ S.C.length = Z.C.length
 ·exact VH S Z u0 u1 u2 u3 v0 v1 v2 v3 w hn hm h k hc.1 hc.2.1 hc.2.2.1 hc.2.2.2
 ·rw [decide_eq_false (fun e : S = Z => hc (by rw [e]; exact ⟨rfl, rfl, rfl, rfl⟩))]
  exact JaK S Z u0 u1 u2 u3 v0 v1 v2 v3 w hn hm h k hc
def AOk (A : Ac) : Prop := DOk A.r A.s ∧ KOk A.l ∧ A.l.getD A.r.toNat 0 = A.s - 1 ∧ (1 ≤ A.t ∧ A.t ≤ 10000) ∧ J6 A.k A.o A.y A.v ∧ KN A.l A.k A.x A.z
instance (A : Ac) : Decidable (AOk A) := by unfold AOk; infer_instance
theorem U0 {P : Program} {md : Region.Mode} {ops : Array Oper} {Q : Exit → Act → World → Prop} {S : World → Prop} {fuel : Nat} {l l' : Array Bool} {a : Act} {w : World} (h : l = l') (H : wpAnyH P md ops Q S fuel l' a w) : wpAnyH P md ops Q S fuel l a w := h ▸ H
end Go.Proofs.YtdknoflkingodaaGreat
