/- The laws on acts whose answers are plain values: for every argument they come out true and write into no memory that was there. -/
import Derived.Test.YtihcbgldpmpoeaaALaw2
namespace Go.Proofs.Ytihcbgldpmpoeaa
set_option maxRecDepth 100000
set_option linter.unusedVariables false
open Go.RowKit

theorem leftOf_yes {L n : Int} (h : n ≤ L) : leftOf L n = L - n := by unfold leftOf; rw [if_pos h]
theorem leftOf_no {L n : Int} (h : ¬ n ≤ L) : leftOf L n = -1 := by unfold leftOf; rw [if_neg h]
theorem Ac.sz_nonneg (A : Ac) : 0 ≤ A.sz := by unfold Ac.sz; omega
theorem Ac.len_le {A : Ac} {L : Int} (h : A.sz ≤ L) (hL : L ≤ 1048576) : A.l.length ≤ 1048576 ∧ A.o.size ≤ 1048576 ∧ A.y.size ≤ 1048576 := by unfold Ac.sz at h; omega

set_option maxHeartbeats 6000000 in
theorem fnExactLater_walk (A : Ac) (va : Value) (B : Ac) (vb : Value) (w : World) (hA : ArgAct w A va) (hB : ArgAct w B vb) :
    Calls Try.prog 9 #[A.val va, B.val vb] w fun e w' => e = .returned (.bool true) ∧ Below w.heap.size w w' := by
  have HA : Hid (ArgAct w A va) := hA
  have HB : Hid (ArgAct w B vb) := hB
  obtain ⟨sA, cA, rfl⟩ := hA.split
  obtain ⟨sB, cB, rfl⟩ := hB.split
  obtain ⟨W, hW⟩ : ∃ W, W = ((w.alloc (.cells (A.cs (.slice sA A.l.length cA)) 44)).alloc (.cells (B.cs (.slice sB B.l.length cB)) 44)) := ⟨_, rfl⟩
  have hB0 : Below w.heap.size w W := by rw [hW]; exact ((Below.refl _ _).alloc (Nat.le_refl _) _).alloc (by simp) _
  have HRA : Hid (Row W w.heap.size (A.cs (.slice sA A.l.length cA)) 44) := by rw [hW]; exact (row_new w _ _ rfl).alloc _
  have HRB : Hid (Row W (w.heap.size + 1) (B.cs (.slice sB B.l.length cB)) 44) := by rw [hW]; exact row_new _ _ _ (by simp)
  have HDA : Hid (∀ wx, Below W.heap.size W wx → ActC wx w.heap.size A (.slice sA A.l.length cA)) := fun wx h => Row.ten (HRA.out.next h)
  have HDB : Hid (∀ wx, Below W.heap.size W wx → ActC wx (w.heap.size + 1) B (.slice sB B.l.length cB)) := fun wx h => Row.ten (HRB.out.next h)
  have HW : Hid (((w.alloc (.cells (A.cs (.slice sA A.l.length cA)) 44)).alloc (.cells (B.cs (.slice sB B.l.length cB)) 44)) = W) := hW.symm
  unfold Ac.cs at HW
  unfold Ac.val
  have hW0 : Below W.heap.size W W := Below.refl _ _
  have hgW : w.heap.size + 1 < W.heap.size := HRB.out.lt
  clear hW HRA HRB hA hB
  have HZA : Hid (∀ wx, Calls Try.prog 27 #[.agg #[.int .i64 A.r, .int .i64 A.s, .int .i64 A.t, (.slice sA A.l.length cA), .int .i64 A.k, .string A.o, .string A.y, .int .i64 A.v, .int .i64 A.x, .int .i64 A.z], .int .i64 1048576] wx fun e w' => e = .returned (.int .i64 (leftOf 1048576 A.sz)) ∧ Below wx.heap.size wx w') := fun wx => szAct_at A _ _ wx w HA.out (by omega) (by omega)
  by_cases k1 : A.sz ≤ 1048576
  case neg =>
    rw [leftOf_no k1] at HZA
    go_enter Try.func9, Try.ntmps9
    go_wp2_with fail
    rw [HW.out]
    refine (HZA.out _).mono ?_
    rintro e w1 ⟨rfl, hb1⟩
    have hW1 : Below W.heap.size W w1 := hW0.trans (hb1.mono hW0.size)
    have HF : Hid (Below w.heap.size w w1) := hB0.trans (hW1.mono hB0.size)
    clear hb1 hW1
    go_wp2
    go_ret
    exact ⟨rfl, HF.out⟩
  rw [leftOf_yes k1] at HZA
  have lA := A.len_le k1 (by omega)
  have nA := A.sz_nonneg
  have q1 : ¬ ((1048576 : Int) - A.sz < 0) := by omega
  have HZB : Hid (∀ wx, Calls Try.prog 27 #[.agg #[.int .i64 B.r, .int .i64 B.s, .int .i64 B.t, (.slice sB B.l.length cB), .int .i64 B.k, .string B.o, .string B.y, .int .i64 B.v, .int .i64 B.x, .int .i64 B.z], .int .i64 (1048576 - A.sz)] wx fun e w' => e = .returned (.int .i64 (leftOf (1048576 - A.sz) B.sz)) ∧ Below wx.heap.size wx w') := fun wx => szAct_at B _ _ wx w HB.out (by omega) (by omega)
  by_cases k2 : B.sz ≤ 1048576 - A.sz
  case neg =>
    rw [leftOf_no k2] at HZB
    go_enter Try.func9, Try.ntmps9
    go_wp2_with fail
    rw [HW.out]
    refine (HZA.out _).mono ?_
    rintro e w1 ⟨rfl, hb1⟩
    have hW1 : Below W.heap.size W w1 := hW0.trans (hb1.mono hW0.size)
    obtain ⟨b0, b1, b2, b3, b4, b5, b6, b7, b8, b9⟩ := HDB.out _ hW1
    clear hb1
    go_wp2_with fail
    refine (HZB.out _).mono ?_
    rintro e w2 ⟨rfl, hb2⟩
    have hW2 : Below W.heap.size W w2 := hW1.trans (hb2.mono hW1.size)
    clear b0 b1 b2 b3 b4 b5 b6 b7 b8 b9 hb2 hW1
    have HF : Hid (Below w.heap.size w w2) := hB0.trans (hW2.mono hB0.size)
    go_wp2
    go_ret
    exact ⟨rfl, HF.out⟩
  rw [leftOf_yes k2] at HZB
  have lB := B.len_le k2 (by omega)
  have q2 : ¬ ((1048576 : Int) - A.sz - B.sz < 0) := by omega
  have HTA : Hid (∀ wx, Below w.heap.size w wx → Calls Try.prog 28 #[.agg #[.int .i64 A.r, .int .i64 A.s, .int .i64 A.t, (.slice sA A.l.length cA), .int .i64 A.k, .string A.o, .string A.y, .int .i64 A.v, .int .i64 A.x, .int .i64 A.z]] wx fun e w' => ∃ aa ca, e = .returned (.agg #[.int .i64 A.r, .int .i64 A.s, .int .i64 A.t, .slice aa A.l.length ca, .int .i64 A.k, .string A.o, .string A.y, .int .i64 A.v, .int .i64 A.x, .int .i64 A.z]) ∧ IntsAt w' (.slice aa A.l.length ca) A.l ∧ Below wx.heap.size wx w') := fun wx h => (toAct_calls A _ wx lA.1 (HA.out.1.below h)).mono (by rintro e w' ⟨u, rfl, ho, hb⟩; have hi := IntsAt.own ho rfl; obtain ⟨aa, ca, rfl, -⟩ := id hi; exact ⟨aa, ca, rfl, hi, hb⟩)
  have HEA : Hid (∀ wx u v, IntsAt wx u A.l → IntsAt wx v A.l → Calls Try.prog 29 #[.agg #[.int .i64 A.r, .int .i64 A.s, .int .i64 A.t, u, .int .i64 A.k, .string A.o, .string A.y, .int .i64 A.v, .int .i64 A.x, .int .i64 A.z], .agg #[.int .i64 A.r, .int .i64 A.s, .int .i64 A.t, v, .int .i64 A.k, .string A.o, .string A.y, .int .i64 A.v, .int .i64 A.x, .int .i64 A.z]] wx fun e w' => e = .returned (.bool true) ∧ Below wx.heap.size wx w') := fun wx u v h1 h2 => eqAct_calls A u v wx lA.1 h1 h2
  have HTB : Hid (∀ wx, Below w.heap.size w wx → Calls Try.prog 28 #[.agg #[.int .i64 B.r, .int .i64 B.s, .int .i64 B.t, (.slice sB B.l.length cB), .int .i64 B.k, .string B.o, .string B.y, .int .i64 B.v, .int .i64 B.x, .int .i64 B.z]] wx fun e w' => ∃ aa ca, e = .returned (.agg #[.int .i64 B.r, .int .i64 B.s, .int .i64 B.t, .slice aa B.l.length ca, .int .i64 B.k, .string B.o, .string B.y, .int .i64 B.v, .int .i64 B.x, .int .i64 B.z]) ∧ IntsAt w' (.slice aa B.l.length ca) B.l ∧ Below wx.heap.size wx w') := fun wx h => (toAct_calls B _ wx lB.1 (HB.out.1.below h)).mono (by rintro e w' ⟨u, rfl, ho, hb⟩; have hi := IntsAt.own ho rfl; obtain ⟨aa, ca, rfl, -⟩ := id hi; exact ⟨aa, ca, rfl, hi, hb⟩)
  have HEB : Hid (∀ wx u v, IntsAt wx u B.l → IntsAt wx v B.l → Calls Try.prog 29 #[.agg #[.int .i64 B.r, .int .i64 B.s, .int .i64 B.t, u, .int .i64 B.k, .string B.o, .string B.y, .int .i64 B.v, .int .i64 B.x, .int .i64 B.z], .agg #[.int .i64 B.r, .int .i64 B.s, .int .i64 B.t, v, .int .i64 B.k, .string B.o, .string B.y, .int .i64 B.v, .int .i64 B.x, .int .i64 B.z]] wx fun e w' => e = .returned (.bool true) ∧ Below wx.heap.size wx w') := fun wx u v h1 h2 => eqAct_calls B u v wx lB.1 h1 h2
  obtain ⟨q, hq⟩ : ∃ q, q = later A B := ⟨_, rfl⟩
  have HS : Hid (∀ wx u v, IntsAt wx u A.l → IntsAt wx v B.l → Calls Try.prog 24 #[.agg #[.int .i64 A.r, .int .i64 A.s, .int .i64 A.t, u, .int .i64 A.k, .string A.o, .string A.y, .int .i64 A.v, .int .i64 A.x, .int .i64 A.z], .agg #[.int .i64 B.r, .int .i64 B.s, .int .i64 B.t, v, .int .i64 B.k, .string B.o, .string B.y, .int .i64 B.v, .int .i64 B.x, .int .i64 B.z]] wx fun e w' => e = .returned (.bool q) ∧ Below wx.heap.size wx w') := fun wx u v hx1 hx2 => by rw [hq]; exact specLater_calls A B u v wx
  have HI : Hid (∀ wx u v, IntsAt wx u A.l → IntsAt wx v B.l → Calls Try.prog 23 #[.agg #[.int .i64 A.r, .int .i64 A.s, .int .i64 A.t, u, .int .i64 A.k, .string A.o, .string A.y, .int .i64 A.v, .int .i64 A.x, .int .i64 A.z], .agg #[.int .i64 B.r, .int .i64 B.s, .int .i64 B.t, v, .int .i64 B.k, .string B.o, .string B.y, .int .i64 B.v, .int .i64 B.x, .int .i64 B.z]] wx fun e w' => e = .returned (.bool q) ∧ Below wx.heap.size wx w') := fun wx u v hx1 hx2 => by rw [hq]; exact later_calls A B u v wx
  clear hq
  have hne : (q != q) = false := by simp
  clear k1 k2 nA lA lB
  go_enter Try.func9, Try.ntmps9
  go_wp2_with fail
  rw [HW.out]
  refine (HZA.out _).mono ?_
  rintro e w1 ⟨rfl, hb1⟩
  have hW1 : Below W.heap.size W w1 := hW0.trans (hb1.mono hW0.size)
  obtain ⟨b0, b1, b2, b3, b4, b5, b6, b7, b8, b9⟩ := HDB.out _ hW1
  clear hb1
  go_wp2_with fail
  refine (HZB.out _).mono ?_
  rintro e w2 ⟨rfl, hb2⟩
  have hW2 : Below W.heap.size W w2 := hW1.trans (hb2.mono hW1.size)
  clear b0 b1 b2 b3 b4 b5 b6 b7 b8 b9 hb2 hW1
  clear HW
  clear HZA HZB
  obtain ⟨a0, a1, a2, a3, a4, a5, a6, a7, a8, a9⟩ := HDA.out _ hW2
  obtain ⟨b0, b1, b2, b3, b4, b5, b6, b7, b8, b9⟩ := HDB.out _ hW2
  have hB2 : Below w.heap.size w w2.drew := (hB0.trans (hW2.mono hB0.size)).drew
  have hV2 : Below W.heap.size W w2.drew := hW2.drew
  have SS := And.intro (HDA.out _ hV2) (HDB.out _ hV2)
  have tok : True := trivial
  go_wp2
  go_region_held3 (fun w' => (w'.cell? ⟨w.heap.size, 0, none⟩ = some (.int .i64 A.r) ∧ w'.cell? ⟨w.heap.size, 1, none⟩ = some (.int .i64 A.s) ∧ w'.cell? ⟨w.heap.size, 2, none⟩ = some (.int .i64 A.t) ∧ w'.cell? ⟨w.heap.size, 3, none⟩ = some ((.slice sA A.l.length cA)) ∧ w'.cell? ⟨w.heap.size, 4, none⟩ = some (.int .i64 A.k) ∧ w'.cell? ⟨w.heap.size, 5, none⟩ = some (.string A.o) ∧ w'.cell? ⟨w.heap.size, 6, none⟩ = some (.string A.y) ∧ w'.cell? ⟨w.heap.size, 7, none⟩ = some (.int .i64 A.v) ∧ w'.cell? ⟨w.heap.size, 8, none⟩ = some (.int .i64 A.x) ∧ w'.cell? ⟨w.heap.size, 9, none⟩ = some (.int .i64 A.z)) ∧ (w'.cell? ⟨w.heap.size + 1, 0, none⟩ = some (.int .i64 B.r) ∧ w'.cell? ⟨w.heap.size + 1, 1, none⟩ = some (.int .i64 B.s) ∧ w'.cell? ⟨w.heap.size + 1, 2, none⟩ = some (.int .i64 B.t) ∧ w'.cell? ⟨w.heap.size + 1, 3, none⟩ = some ((.slice sB B.l.length cB)) ∧ w'.cell? ⟨w.heap.size + 1, 4, none⟩ = some (.int .i64 B.k) ∧ w'.cell? ⟨w.heap.size + 1, 5, none⟩ = some (.string B.o) ∧ w'.cell? ⟨w.heap.size + 1, 6, none⟩ = some (.string B.y) ∧ w'.cell? ⟨w.heap.size + 1, 7, none⟩ = some (.int .i64 B.v) ∧ w'.cell? ⟨w.heap.size + 1, 8, none⟩ = some (.int .i64 B.x) ∧ w'.cell? ⟨w.heap.size + 1, 9, none⟩ = some (.int .i64 B.z))) (first | exact SS | exact SS3 | exact SS4 | exact SS5 | go_keep) (first
    | (go_at_call 28; refine (HTA.out _ hB2).mono ?_; rintro e w3 ⟨xa, xc, rfl, kA, hb3⟩; have hV3 : Below W.heap.size W w3 := hV2.trans (hb3.mono hV2.size); have hB3 : Below w.heap.size w w3 := hB0.trans (hV3.mono hB0.size); have SS3 := And.intro (HDA.out _ hV3) (HDB.out _ hV3); clear hB2 hb3)
    | (go_at_call 28; refine (HTB.out _ hB3).mono ?_; rintro e w4 ⟨ya, yc, rfl, kB, hb4⟩; replace kA := kA.below hb4; have hV4 : Below W.heap.size W w4 := hV3.trans (hb4.mono hV3.size); have SS4 := And.intro (HDA.out _ hV4) (HDB.out _ hV4); clear hB3 hb4)
    | (go_at_call 24; refine (HS.out _ _ _ kA kB).mono ?_; rintro e w5 ⟨rfl, hb5⟩; have hV5 : Below W.heap.size W w5 := hV4.trans (hb5.mono hV4.size); have SS5 := And.intro (HDA.out _ hV5) (HDB.out _ hV5); clear hb5))
  clear a0 a1 a2 a3 a4 a5 a6 a7 a8 a9 b0 b1 b2 b3 b4 b5 b6 b7 b8 b9 SS SS3 SS4 SS5 hV2 hV3 hV4 hW2 kA kB
  have hBc : Below w.heap.size w w5 := hB0.trans (hV5.mono hB0.size)
  obtain ⟨a0, a1, a2, a3, a4, a5, a6, a7, a8, a9⟩ := HDA.out _ hV5
  go_wp2_with fail
  refine (HTA.out _ hBc).mono ?_
  rintro e mA ⟨uA, dA, rfl, kA, hb⟩
  have hVm : Below W.heap.size W mA := hV5.trans (hb.mono hV5.size)
  clear a0 a1 a2 a3 a4 a5 a6 a7 a8 a9 hb hBc hV5
  obtain ⟨XA, hX⟩ : ∃ X, X = mA.alloc (.cells (A.cs (.slice uA A.l.length dA)) 28) := ⟨_, rfl⟩
  have hmX : Below mA.heap.size mA XA := by rw [hX]; exact (Below.refl _ _).alloc (Nat.le_refl _) _
  have hrA : Row XA mA.heap.size (A.cs (.slice uA A.l.length dA)) 28 := by rw [hX]; exact row_new _ _ _ rfl
  have kiA : IntsAt XA (.slice uA A.l.length dA) A.l := kA.below hmX
  have HXA : Hid (∀ wx, Below XA.heap.size XA wx → ActC wx mA.heap.size A (.slice uA A.l.length dA) ∧ IntsAt wx (.slice uA A.l.length dA) A.l) := fun wx h => ⟨Row.ten (hrA.next h), kiA.below h⟩
  have hVA : Below W.heap.size W XA := hVm.trans (hmX.mono hVm.size)
  have hXA : Below XA.heap.size XA XA := Below.refl _ _
  have HWXA : Hid (mA.alloc (.cells (A.cs (.slice uA A.l.length dA)) 28) = XA) := hX.symm
  unfold Ac.cs at HWXA
  have n0 : w.heap.size + 1 < mA.heap.size := Nat.lt_of_lt_of_le hgW hVm.size
  have n1 : (w.heap.size + 1 = mA.heap.size) = False := by simp; omega
  have n2 : (mA.heap.size = w.heap.size + 1) = False := by simp; omega
  obtain ⟨a0, a1, a2, a3, a4, a5, a6, a7, a8, a9⟩ := HDB.out _ hVm
  clear hX hmX hVm kA kiA
  have hBc : Below w.heap.size w XA := hB0.trans (hVA.mono hB0.size)
  go_wp2_with fail
  rw [HWXA.out]
  refine (HTB.out _ hBc).mono ?_
  rintro e mB ⟨uB, dB, rfl, kB, hb⟩
  have hVm : Below W.heap.size W mB := hVA.trans (hb.mono hVA.size)
  replace hXA : Below XA.heap.size XA mB := hXA.trans (hb.mono hXA.size)
  have hXAm := hXA
  clear a0 a1 a2 a3 a4 a5 a6 a7 a8 a9 hb hBc hVA HWXA
  obtain ⟨XB, hX⟩ : ∃ X, X = mB.alloc (.cells (B.cs (.slice uB B.l.length dB)) 28) := ⟨_, rfl⟩
  have hmX : Below mB.heap.size mB XB := by rw [hX]; exact (Below.refl _ _).alloc (Nat.le_refl _) _
  have hrB : Row XB mB.heap.size (B.cs (.slice uB B.l.length dB)) 28 := by rw [hX]; exact row_new _ _ _ rfl
  have kiB : IntsAt XB (.slice uB B.l.length dB) B.l := kB.below hmX
  have HXB : Hid (∀ wx, Below XB.heap.size XB wx → ActC wx mB.heap.size B (.slice uB B.l.length dB) ∧ IntsAt wx (.slice uB B.l.length dB) B.l) := fun wx h => ⟨Row.ten (hrB.next h), kiB.below h⟩
  have hVB : Below W.heap.size W XB := hVm.trans (hmX.mono hVm.size)
  have hXB : Below XB.heap.size XB XB := Below.refl _ _
  replace hXA : Below XA.heap.size XA XB := hXA.trans (hmX.mono hXA.size)
  have HWXB : Hid (mB.alloc (.cells (B.cs (.slice uB B.l.length dB)) 28) = XB) := hX.symm
  unfold Ac.cs at HWXB
  clear n0 n1 n2
  have n0 : mA.heap.size < mB.heap.size := Nat.lt_of_lt_of_le hrA.lt hXAm.size
  have n1 : (mA.heap.size = mB.heap.size) = False := by simp; omega
  have n2 : (mB.heap.size = mA.heap.size) = False := by simp; omega
  obtain ⟨⟨a0, a1, a2, a3, a4, a5, a6, a7, a8, a9⟩, -⟩ := HXA.out _ hXAm
  clear hX hmX hVm kB kiB
  have kA := (HXA.out _ hXA).2
  have kB := (HXB.out _ hXB).2
  go_wp2_with (fail)
  rw [HWXB.out]
  refine (HI.out _ _ _ kA kB).mono ?_
  rintro e c1 ⟨rfl, hb⟩
  have hVc : Below W.heap.size W c1 := hVB.trans (hb.mono hVB.size)
  replace hXA : Below XA.heap.size XA c1 := hXA.trans (hb.mono hXA.size)
  replace hXB : Below XB.heap.size XB c1 := hXB.trans (hb.mono hXB.size)
  clear a0 a1 a2 a3 a4 a5 a6 a7 a8 a9 n0 n1 n2 hXAm hb kA kB HWXB hrA hrB
  have hVd : Below W.heap.size W c1.drew := hVc.drew
  have hBd : Below w.heap.size w c1.drew := hB0.trans (hVd.mono hB0.size)
  have hXd : Below XA.heap.size XA c1.drew := hXA.drew
  obtain ⟨a0, a1, a2, a3, a4, a5, a6, a7, a8, a9⟩ := HDA.out _ hVc
  obtain ⟨⟨b0, b1, b2, b3, b4, b5, b6, b7, b8, b9⟩, -⟩ := HXA.out _ hXA
  have SS := And.intro (HXA.out _ hXd).1 (HDA.out _ hVd)
  go_wp2
  go_region_held3 (fun w' => (w'.cell? ⟨mA.heap.size, 0, none⟩ = some (.int .i64 A.r) ∧ w'.cell? ⟨mA.heap.size, 1, none⟩ = some (.int .i64 A.s) ∧ w'.cell? ⟨mA.heap.size, 2, none⟩ = some (.int .i64 A.t) ∧ w'.cell? ⟨mA.heap.size, 3, none⟩ = some ((.slice uA A.l.length dA)) ∧ w'.cell? ⟨mA.heap.size, 4, none⟩ = some (.int .i64 A.k) ∧ w'.cell? ⟨mA.heap.size, 5, none⟩ = some (.string A.o) ∧ w'.cell? ⟨mA.heap.size, 6, none⟩ = some (.string A.y) ∧ w'.cell? ⟨mA.heap.size, 7, none⟩ = some (.int .i64 A.v) ∧ w'.cell? ⟨mA.heap.size, 8, none⟩ = some (.int .i64 A.x) ∧ w'.cell? ⟨mA.heap.size, 9, none⟩ = some (.int .i64 A.z)) ∧ (w'.cell? ⟨w.heap.size, 0, none⟩ = some (.int .i64 A.r) ∧ w'.cell? ⟨w.heap.size, 1, none⟩ = some (.int .i64 A.s) ∧ w'.cell? ⟨w.heap.size, 2, none⟩ = some (.int .i64 A.t) ∧ w'.cell? ⟨w.heap.size, 3, none⟩ = some ((.slice sA A.l.length cA)) ∧ w'.cell? ⟨w.heap.size, 4, none⟩ = some (.int .i64 A.k) ∧ w'.cell? ⟨w.heap.size, 5, none⟩ = some (.string A.o) ∧ w'.cell? ⟨w.heap.size, 6, none⟩ = some (.string A.y) ∧ w'.cell? ⟨w.heap.size, 7, none⟩ = some (.int .i64 A.v) ∧ w'.cell? ⟨w.heap.size, 8, none⟩ = some (.int .i64 A.x) ∧ w'.cell? ⟨w.heap.size, 9, none⟩ = some (.int .i64 A.z))) (first | exact SS | exact SS3 | exact SS4 | go_keep) (first
    | (go_at_call 28; refine (HTA.out _ hBd).mono ?_; rintro e n0 ⟨ya, yc, rfl, kY, hb3⟩; have hV3 : Below W.heap.size W n0 := hVd.trans (hb3.mono hVd.size); have hX3 : Below XA.heap.size XA n0 := hXd.trans (hb3.mono hXd.size); have SS3 := And.intro (HXA.out _ hX3).1 (HDA.out _ hV3))
    | (go_at_call 29; refine (HEA.out _ _ _ (HXA.out _ hX3).2 kY).mono ?_; rintro e o0 ⟨rfl, hb4⟩; have hV4 : Below W.heap.size W o0 := hV3.trans (hb4.mono hV3.size); have hX4 : Below XA.heap.size XA o0 := hX3.trans (hb4.mono hX3.size); have SS4 := And.intro (HXA.out _ hX4).1 (HDA.out _ hV4)))
  replace hXB : Below XB.heap.size XB o0 := (hXB.drew.trans (hb3.mono (by first | exact hXB.drew.size))).trans (hb4.mono (Nat.le_trans hXB.size hb3.size))
  clear hVc
  have hVc := hV4
  clear a0 a1 a2 a3 a4 a5 a6 a7 a8 a9 b0 b1 b2 b3 b4 b5 b6 b7 b8 b9 SS SS3 SS4 hVd hBd hXd hV3 hX3 hV4 hX4 kY hb3 hb4
  have hVd : Below W.heap.size W o0.drew := hVc.drew
  have hBd : Below w.heap.size w o0.drew := hB0.trans (hVd.mono hB0.size)
  have hXd : Below XB.heap.size XB o0.drew := hXB.drew
  obtain ⟨a0, a1, a2, a3, a4, a5, a6, a7, a8, a9⟩ := HDB.out _ hVc
  obtain ⟨⟨b0, b1, b2, b3, b4, b5, b6, b7, b8, b9⟩, -⟩ := HXB.out _ hXB
  have SS := And.intro (HXB.out _ hXd).1 (HDB.out _ hVd)
  go_wp2
  go_region_held3 (fun w' => (w'.cell? ⟨mB.heap.size, 0, none⟩ = some (.int .i64 B.r) ∧ w'.cell? ⟨mB.heap.size, 1, none⟩ = some (.int .i64 B.s) ∧ w'.cell? ⟨mB.heap.size, 2, none⟩ = some (.int .i64 B.t) ∧ w'.cell? ⟨mB.heap.size, 3, none⟩ = some ((.slice uB B.l.length dB)) ∧ w'.cell? ⟨mB.heap.size, 4, none⟩ = some (.int .i64 B.k) ∧ w'.cell? ⟨mB.heap.size, 5, none⟩ = some (.string B.o) ∧ w'.cell? ⟨mB.heap.size, 6, none⟩ = some (.string B.y) ∧ w'.cell? ⟨mB.heap.size, 7, none⟩ = some (.int .i64 B.v) ∧ w'.cell? ⟨mB.heap.size, 8, none⟩ = some (.int .i64 B.x) ∧ w'.cell? ⟨mB.heap.size, 9, none⟩ = some (.int .i64 B.z)) ∧ (w'.cell? ⟨w.heap.size + 1, 0, none⟩ = some (.int .i64 B.r) ∧ w'.cell? ⟨w.heap.size + 1, 1, none⟩ = some (.int .i64 B.s) ∧ w'.cell? ⟨w.heap.size + 1, 2, none⟩ = some (.int .i64 B.t) ∧ w'.cell? ⟨w.heap.size + 1, 3, none⟩ = some ((.slice sB B.l.length cB)) ∧ w'.cell? ⟨w.heap.size + 1, 4, none⟩ = some (.int .i64 B.k) ∧ w'.cell? ⟨w.heap.size + 1, 5, none⟩ = some (.string B.o) ∧ w'.cell? ⟨w.heap.size + 1, 6, none⟩ = some (.string B.y) ∧ w'.cell? ⟨w.heap.size + 1, 7, none⟩ = some (.int .i64 B.v) ∧ w'.cell? ⟨w.heap.size + 1, 8, none⟩ = some (.int .i64 B.x) ∧ w'.cell? ⟨w.heap.size + 1, 9, none⟩ = some (.int .i64 B.z))) (first | exact SS | exact SS3 | exact SS4 | go_keep) (first
    | (go_at_call 28; refine (HTB.out _ hBd).mono ?_; rintro e n1 ⟨ya, yc, rfl, kY, hb3⟩; have hV3 : Below W.heap.size W n1 := hVd.trans (hb3.mono hVd.size); have hX3 : Below XB.heap.size XB n1 := hXd.trans (hb3.mono hXd.size); have SS3 := And.intro (HXB.out _ hX3).1 (HDB.out _ hV3))
    | (go_at_call 29; refine (HEB.out _ _ _ (HXB.out _ hX3).2 kY).mono ?_; rintro e o1 ⟨rfl, hb4⟩; have hV4 : Below W.heap.size W o1 := hV3.trans (hb4.mono hV3.size); have hX4 : Below XB.heap.size XB o1 := hX3.trans (hb4.mono hX3.size); have SS4 := And.intro (HXB.out _ hX4).1 (HDB.out _ hV4)))
  clear hVc
  have hVc := hV4
  clear a0 a1 a2 a3 a4 a5 a6 a7 a8 a9 b0 b1 b2 b3 b4 b5 b6 b7 b8 b9 SS SS3 SS4 hVd hBd hXd hV3 hX3 hV4 hX4 kY hb3 hb4
  have HF : Hid (Below w.heap.size w o1) := hB0.trans (hVc.mono hB0.size)
  go_wp2
  go_ret
  exact ⟨rfl, HF.out⟩

set_option maxHeartbeats 6000000 in
theorem fnExactSameAct_walk (A : Ac) (va : Value) (B : Ac) (vb : Value) (w : World) (hA : ArgAct w A va) (hB : ArgAct w B vb) :
    Calls Try.prog 8 #[A.val va, B.val vb] w fun e w' => e = .returned (.bool true) ∧ Below w.heap.size w w' := by
  have HA : Hid (ArgAct w A va) := hA
  have HB : Hid (ArgAct w B vb) := hB
  obtain ⟨sA, cA, rfl⟩ := hA.split
  obtain ⟨sB, cB, rfl⟩ := hB.split
  obtain ⟨W, hW⟩ : ∃ W, W = ((w.alloc (.cells (A.cs (.slice sA A.l.length cA)) 44)).alloc (.cells (B.cs (.slice sB B.l.length cB)) 44)) := ⟨_, rfl⟩
  have hB0 : Below w.heap.size w W := by rw [hW]; exact ((Below.refl _ _).alloc (Nat.le_refl _) _).alloc (by simp) _
  have HRA : Hid (Row W w.heap.size (A.cs (.slice sA A.l.length cA)) 44) := by rw [hW]; exact (row_new w _ _ rfl).alloc _
  have HRB : Hid (Row W (w.heap.size + 1) (B.cs (.slice sB B.l.length cB)) 44) := by rw [hW]; exact row_new _ _ _ (by simp)
  have HDA : Hid (∀ wx, Below W.heap.size W wx → ActC wx w.heap.size A (.slice sA A.l.length cA)) := fun wx h => Row.ten (HRA.out.next h)
  have HDB : Hid (∀ wx, Below W.heap.size W wx → ActC wx (w.heap.size + 1) B (.slice sB B.l.length cB)) := fun wx h => Row.ten (HRB.out.next h)
  have HW : Hid (((w.alloc (.cells (A.cs (.slice sA A.l.length cA)) 44)).alloc (.cells (B.cs (.slice sB B.l.length cB)) 44)) = W) := hW.symm
  unfold Ac.cs at HW
  unfold Ac.val
  have hW0 : Below W.heap.size W W := Below.refl _ _
  have hgW : w.heap.size + 1 < W.heap.size := HRB.out.lt
  clear hW HRA HRB hA hB
  have HZA : Hid (∀ wx, Calls Try.prog 27 #[.agg #[.int .i64 A.r, .int .i64 A.s, .int .i64 A.t, (.slice sA A.l.length cA), .int .i64 A.k, .string A.o, .string A.y, .int .i64 A.v, .int .i64 A.x, .int .i64 A.z], .int .i64 1048576] wx fun e w' => e = .returned (.int .i64 (leftOf 1048576 A.sz)) ∧ Below wx.heap.size wx w') := fun wx => szAct_at A _ _ wx w HA.out (by omega) (by omega)
  by_cases k1 : A.sz ≤ 1048576
  case neg =>
    rw [leftOf_no k1] at HZA
    go_enter Try.func8, Try.ntmps8
    go_wp2_with fail
    rw [HW.out]
    refine (HZA.out _).mono ?_
    rintro e w1 ⟨rfl, hb1⟩
    have hW1 : Below W.heap.size W w1 := hW0.trans (hb1.mono hW0.size)
    have HF : Hid (Below w.heap.size w w1) := hB0.trans (hW1.mono hB0.size)
    clear hb1 hW1
    go_wp2
    go_ret
    exact ⟨rfl, HF.out⟩
  rw [leftOf_yes k1] at HZA
  have lA := A.len_le k1 (by omega)
  have nA := A.sz_nonneg
  have q1 : ¬ ((1048576 : Int) - A.sz < 0) := by omega
  have HZB : Hid (∀ wx, Calls Try.prog 27 #[.agg #[.int .i64 B.r, .int .i64 B.s, .int .i64 B.t, (.slice sB B.l.length cB), .int .i64 B.k, .string B.o, .string B.y, .int .i64 B.v, .int .i64 B.x, .int .i64 B.z], .int .i64 (1048576 - A.sz)] wx fun e w' => e = .returned (.int .i64 (leftOf (1048576 - A.sz) B.sz)) ∧ Below wx.heap.size wx w') := fun wx => szAct_at B _ _ wx w HB.out (by omega) (by omega)
  by_cases k2 : B.sz ≤ 1048576 - A.sz
  case neg =>
    rw [leftOf_no k2] at HZB
    go_enter Try.func8, Try.ntmps8
    go_wp2_with fail
    rw [HW.out]
    refine (HZA.out _).mono ?_
    rintro e w1 ⟨rfl, hb1⟩
    have hW1 : Below W.heap.size W w1 := hW0.trans (hb1.mono hW0.size)
    obtain ⟨b0, b1, b2, b3, b4, b5, b6, b7, b8, b9⟩ := HDB.out _ hW1
    clear hb1
    go_wp2_with fail
    refine (HZB.out _).mono ?_
    rintro e w2 ⟨rfl, hb2⟩
    have hW2 : Below W.heap.size W w2 := hW1.trans (hb2.mono hW1.size)
    clear b0 b1 b2 b3 b4 b5 b6 b7 b8 b9 hb2 hW1
    have HF : Hid (Below w.heap.size w w2) := hB0.trans (hW2.mono hB0.size)
    go_wp2
    go_ret
    exact ⟨rfl, HF.out⟩
  rw [leftOf_yes k2] at HZB
  have lB := B.len_le k2 (by omega)
  have q2 : ¬ ((1048576 : Int) - A.sz - B.sz < 0) := by omega
  have HTA : Hid (∀ wx, Below w.heap.size w wx → Calls Try.prog 28 #[.agg #[.int .i64 A.r, .int .i64 A.s, .int .i64 A.t, (.slice sA A.l.length cA), .int .i64 A.k, .string A.o, .string A.y, .int .i64 A.v, .int .i64 A.x, .int .i64 A.z]] wx fun e w' => ∃ aa ca, e = .returned (.agg #[.int .i64 A.r, .int .i64 A.s, .int .i64 A.t, .slice aa A.l.length ca, .int .i64 A.k, .string A.o, .string A.y, .int .i64 A.v, .int .i64 A.x, .int .i64 A.z]) ∧ IntsAt w' (.slice aa A.l.length ca) A.l ∧ Below wx.heap.size wx w') := fun wx h => (toAct_calls A _ wx lA.1 (HA.out.1.below h)).mono (by rintro e w' ⟨u, rfl, ho, hb⟩; have hi := IntsAt.own ho rfl; obtain ⟨aa, ca, rfl, -⟩ := id hi; exact ⟨aa, ca, rfl, hi, hb⟩)
  have HEA : Hid (∀ wx u v, IntsAt wx u A.l → IntsAt wx v A.l → Calls Try.prog 29 #[.agg #[.int .i64 A.r, .int .i64 A.s, .int .i64 A.t, u, .int .i64 A.k, .string A.o, .string A.y, .int .i64 A.v, .int .i64 A.x, .int .i64 A.z], .agg #[.int .i64 A.r, .int .i64 A.s, .int .i64 A.t, v, .int .i64 A.k, .string A.o, .string A.y, .int .i64 A.v, .int .i64 A.x, .int .i64 A.z]] wx fun e w' => e = .returned (.bool true) ∧ Below wx.heap.size wx w') := fun wx u v h1 h2 => eqAct_calls A u v wx lA.1 h1 h2
  have HTB : Hid (∀ wx, Below w.heap.size w wx → Calls Try.prog 28 #[.agg #[.int .i64 B.r, .int .i64 B.s, .int .i64 B.t, (.slice sB B.l.length cB), .int .i64 B.k, .string B.o, .string B.y, .int .i64 B.v, .int .i64 B.x, .int .i64 B.z]] wx fun e w' => ∃ aa ca, e = .returned (.agg #[.int .i64 B.r, .int .i64 B.s, .int .i64 B.t, .slice aa B.l.length ca, .int .i64 B.k, .string B.o, .string B.y, .int .i64 B.v, .int .i64 B.x, .int .i64 B.z]) ∧ IntsAt w' (.slice aa B.l.length ca) B.l ∧ Below wx.heap.size wx w') := fun wx h => (toAct_calls B _ wx lB.1 (HB.out.1.below h)).mono (by rintro e w' ⟨u, rfl, ho, hb⟩; have hi := IntsAt.own ho rfl; obtain ⟨aa, ca, rfl, -⟩ := id hi; exact ⟨aa, ca, rfl, hi, hb⟩)
  have HEB : Hid (∀ wx u v, IntsAt wx u B.l → IntsAt wx v B.l → Calls Try.prog 29 #[.agg #[.int .i64 B.r, .int .i64 B.s, .int .i64 B.t, u, .int .i64 B.k, .string B.o, .string B.y, .int .i64 B.v, .int .i64 B.x, .int .i64 B.z], .agg #[.int .i64 B.r, .int .i64 B.s, .int .i64 B.t, v, .int .i64 B.k, .string B.o, .string B.y, .int .i64 B.v, .int .i64 B.x, .int .i64 B.z]] wx fun e w' => e = .returned (.bool true) ∧ Below wx.heap.size wx w') := fun wx u v h1 h2 => eqAct_calls B u v wx lB.1 h1 h2
  obtain ⟨q, hq⟩ : ∃ q, q = decide (A = B) := ⟨_, rfl⟩
  have HS : Hid (∀ wx u v, IntsAt wx u A.l → IntsAt wx v B.l → Calls Try.prog 21 #[.agg #[.int .i64 A.r, .int .i64 A.s, .int .i64 A.t, u, .int .i64 A.k, .string A.o, .string A.y, .int .i64 A.v, .int .i64 A.x, .int .i64 A.z], .agg #[.int .i64 B.r, .int .i64 B.s, .int .i64 B.t, v, .int .i64 B.k, .string B.o, .string B.y, .int .i64 B.v, .int .i64 B.x, .int .i64 B.z]] wx fun e w' => e = .returned (.bool q) ∧ Below wx.heap.size wx w') := fun wx u v hx1 hx2 => by rw [hq]; exact specSameAct_calls A B u v wx lA.1 lB.1 hx1 hx2
  have HI : Hid (∀ wx u v, IntsAt wx u A.l → IntsAt wx v B.l → Calls Try.prog 22 #[.agg #[.int .i64 A.r, .int .i64 A.s, .int .i64 A.t, u, .int .i64 A.k, .string A.o, .string A.y, .int .i64 A.v, .int .i64 A.x, .int .i64 A.z], .agg #[.int .i64 B.r, .int .i64 B.s, .int .i64 B.t, v, .int .i64 B.k, .string B.o, .string B.y, .int .i64 B.v, .int .i64 B.x, .int .i64 B.z]] wx fun e w' => e = .returned (.bool q) ∧ Below wx.heap.size wx w') := fun wx u v hx1 hx2 => by rw [hq]; exact sameAct_calls A B u v wx lA.1 lB.1 hx1 hx2
  clear hq
  have hne : (q != q) = false := by simp
  clear k1 k2 nA lA lB
  go_enter Try.func8, Try.ntmps8
  go_wp2_with fail
  rw [HW.out]
  refine (HZA.out _).mono ?_
  rintro e w1 ⟨rfl, hb1⟩
  have hW1 : Below W.heap.size W w1 := hW0.trans (hb1.mono hW0.size)
  obtain ⟨b0, b1, b2, b3, b4, b5, b6, b7, b8, b9⟩ := HDB.out _ hW1
  clear hb1
  go_wp2_with fail
  refine (HZB.out _).mono ?_
  rintro e w2 ⟨rfl, hb2⟩
  have hW2 : Below W.heap.size W w2 := hW1.trans (hb2.mono hW1.size)
  clear b0 b1 b2 b3 b4 b5 b6 b7 b8 b9 hb2 hW1
  clear HW
  clear HZA HZB
  obtain ⟨a0, a1, a2, a3, a4, a5, a6, a7, a8, a9⟩ := HDA.out _ hW2
  obtain ⟨b0, b1, b2, b3, b4, b5, b6, b7, b8, b9⟩ := HDB.out _ hW2
  have hB2 : Below w.heap.size w w2.drew := (hB0.trans (hW2.mono hB0.size)).drew
  have hV2 : Below W.heap.size W w2.drew := hW2.drew
  have SS := And.intro (HDA.out _ hV2) (HDB.out _ hV2)
  have tok : True := trivial
  go_wp2
  go_region_held3 (fun w' => (w'.cell? ⟨w.heap.size, 0, none⟩ = some (.int .i64 A.r) ∧ w'.cell? ⟨w.heap.size, 1, none⟩ = some (.int .i64 A.s) ∧ w'.cell? ⟨w.heap.size, 2, none⟩ = some (.int .i64 A.t) ∧ w'.cell? ⟨w.heap.size, 3, none⟩ = some ((.slice sA A.l.length cA)) ∧ w'.cell? ⟨w.heap.size, 4, none⟩ = some (.int .i64 A.k) ∧ w'.cell? ⟨w.heap.size, 5, none⟩ = some (.string A.o) ∧ w'.cell? ⟨w.heap.size, 6, none⟩ = some (.string A.y) ∧ w'.cell? ⟨w.heap.size, 7, none⟩ = some (.int .i64 A.v) ∧ w'.cell? ⟨w.heap.size, 8, none⟩ = some (.int .i64 A.x) ∧ w'.cell? ⟨w.heap.size, 9, none⟩ = some (.int .i64 A.z)) ∧ (w'.cell? ⟨w.heap.size + 1, 0, none⟩ = some (.int .i64 B.r) ∧ w'.cell? ⟨w.heap.size + 1, 1, none⟩ = some (.int .i64 B.s) ∧ w'.cell? ⟨w.heap.size + 1, 2, none⟩ = some (.int .i64 B.t) ∧ w'.cell? ⟨w.heap.size + 1, 3, none⟩ = some ((.slice sB B.l.length cB)) ∧ w'.cell? ⟨w.heap.size + 1, 4, none⟩ = some (.int .i64 B.k) ∧ w'.cell? ⟨w.heap.size + 1, 5, none⟩ = some (.string B.o) ∧ w'.cell? ⟨w.heap.size + 1, 6, none⟩ = some (.string B.y) ∧ w'.cell? ⟨w.heap.size + 1, 7, none⟩ = some (.int .i64 B.v) ∧ w'.cell? ⟨w.heap.size + 1, 8, none⟩ = some (.int .i64 B.x) ∧ w'.cell? ⟨w.heap.size + 1, 9, none⟩ = some (.int .i64 B.z))) (first | exact SS | exact SS3 | exact SS4 | exact SS5 | go_keep) (first
    | (go_at_call 28; refine (HTA.out _ hB2).mono ?_; rintro e w3 ⟨xa, xc, rfl, kA, hb3⟩; have hV3 : Below W.heap.size W w3 := hV2.trans (hb3.mono hV2.size); have hB3 : Below w.heap.size w w3 := hB0.trans (hV3.mono hB0.size); have SS3 := And.intro (HDA.out _ hV3) (HDB.out _ hV3); clear hB2 hb3)
    | (go_at_call 28; refine (HTB.out _ hB3).mono ?_; rintro e w4 ⟨ya, yc, rfl, kB, hb4⟩; replace kA := kA.below hb4; have hV4 : Below W.heap.size W w4 := hV3.trans (hb4.mono hV3.size); have SS4 := And.intro (HDA.out _ hV4) (HDB.out _ hV4); clear hB3 hb4)
    | (go_at_call 21; refine (HS.out _ _ _ kA kB).mono ?_; rintro e w5 ⟨rfl, hb5⟩; have hV5 : Below W.heap.size W w5 := hV4.trans (hb5.mono hV4.size); have SS5 := And.intro (HDA.out _ hV5) (HDB.out _ hV5); clear hb5))
  clear a0 a1 a2 a3 a4 a5 a6 a7 a8 a9 b0 b1 b2 b3 b4 b5 b6 b7 b8 b9 SS SS3 SS4 SS5 hV2 hV3 hV4 hW2 kA kB
  have hBc : Below w.heap.size w w5 := hB0.trans (hV5.mono hB0.size)
  obtain ⟨a0, a1, a2, a3, a4, a5, a6, a7, a8, a9⟩ := HDA.out _ hV5
  go_wp2_with fail
  refine (HTA.out _ hBc).mono ?_
  rintro e mA ⟨uA, dA, rfl, kA, hb⟩
  have hVm : Below W.heap.size W mA := hV5.trans (hb.mono hV5.size)
  clear a0 a1 a2 a3 a4 a5 a6 a7 a8 a9 hb hBc hV5
  obtain ⟨XA, hX⟩ : ∃ X, X = mA.alloc (.cells (A.cs (.slice uA A.l.length dA)) 28) := ⟨_, rfl⟩
  have hmX : Below mA.heap.size mA XA := by rw [hX]; exact (Below.refl _ _).alloc (Nat.le_refl _) _
  have hrA : Row XA mA.heap.size (A.cs (.slice uA A.l.length dA)) 28 := by rw [hX]; exact row_new _ _ _ rfl
  have kiA : IntsAt XA (.slice uA A.l.length dA) A.l := kA.below hmX
  have HXA : Hid (∀ wx, Below XA.heap.size XA wx → ActC wx mA.heap.size A (.slice uA A.l.length dA) ∧ IntsAt wx (.slice uA A.l.length dA) A.l) := fun wx h => ⟨Row.ten (hrA.next h), kiA.below h⟩
  have hVA : Below W.heap.size W XA := hVm.trans (hmX.mono hVm.size)
  have hXA : Below XA.heap.size XA XA := Below.refl _ _
  have HWXA : Hid (mA.alloc (.cells (A.cs (.slice uA A.l.length dA)) 28) = XA) := hX.symm
  unfold Ac.cs at HWXA
  have n0 : w.heap.size + 1 < mA.heap.size := Nat.lt_of_lt_of_le hgW hVm.size
  have n1 : (w.heap.size + 1 = mA.heap.size) = False := by simp; omega
  have n2 : (mA.heap.size = w.heap.size + 1) = False := by simp; omega
  obtain ⟨a0, a1, a2, a3, a4, a5, a6, a7, a8, a9⟩ := HDB.out _ hVm
  clear hX hmX hVm kA kiA
  have hBc : Below w.heap.size w XA := hB0.trans (hVA.mono hB0.size)
  go_wp2_with fail
  rw [HWXA.out]
  refine (HTB.out _ hBc).mono ?_
  rintro e mB ⟨uB, dB, rfl, kB, hb⟩
  have hVm : Below W.heap.size W mB := hVA.trans (hb.mono hVA.size)
  replace hXA : Below XA.heap.size XA mB := hXA.trans (hb.mono hXA.size)
  have hXAm := hXA
  clear a0 a1 a2 a3 a4 a5 a6 a7 a8 a9 hb hBc hVA HWXA
  obtain ⟨XB, hX⟩ : ∃ X, X = mB.alloc (.cells (B.cs (.slice uB B.l.length dB)) 28) := ⟨_, rfl⟩
  have hmX : Below mB.heap.size mB XB := by rw [hX]; exact (Below.refl _ _).alloc (Nat.le_refl _) _
  have hrB : Row XB mB.heap.size (B.cs (.slice uB B.l.length dB)) 28 := by rw [hX]; exact row_new _ _ _ rfl
  have kiB : IntsAt XB (.slice uB B.l.length dB) B.l := kB.below hmX
  have HXB : Hid (∀ wx, Below XB.heap.size XB wx → ActC wx mB.heap.size B (.slice uB B.l.length dB) ∧ IntsAt wx (.slice uB B.l.length dB) B.l) := fun wx h => ⟨Row.ten (hrB.next h), kiB.below h⟩
  have hVB : Below W.heap.size W XB := hVm.trans (hmX.mono hVm.size)
  have hXB : Below XB.heap.size XB XB := Below.refl _ _
  replace hXA : Below XA.heap.size XA XB := hXA.trans (hmX.mono hXA.size)
  have HWXB : Hid (mB.alloc (.cells (B.cs (.slice uB B.l.length dB)) 28) = XB) := hX.symm
  unfold Ac.cs at HWXB
  clear n0 n1 n2
  have n0 : mA.heap.size < mB.heap.size := Nat.lt_of_lt_of_le hrA.lt hXAm.size
  have n1 : (mA.heap.size = mB.heap.size) = False := by simp; omega
  have n2 : (mB.heap.size = mA.heap.size) = False := by simp; omega
  obtain ⟨⟨a0, a1, a2, a3, a4, a5, a6, a7, a8, a9⟩, -⟩ := HXA.out _ hXAm
  clear hX hmX hVm kB kiB
  have kA := (HXA.out _ hXA).2
  have kB := (HXB.out _ hXB).2
  go_wp2_with (fail)
  rw [HWXB.out]
  refine (HI.out _ _ _ kA kB).mono ?_
  rintro e c1 ⟨rfl, hb⟩
  have hVc : Below W.heap.size W c1 := hVB.trans (hb.mono hVB.size)
  replace hXA : Below XA.heap.size XA c1 := hXA.trans (hb.mono hXA.size)
  replace hXB : Below XB.heap.size XB c1 := hXB.trans (hb.mono hXB.size)
  clear a0 a1 a2 a3 a4 a5 a6 a7 a8 a9 n0 n1 n2 hXAm hb kA kB HWXB hrA hrB
  have hVd : Below W.heap.size W c1.drew := hVc.drew
  have hBd : Below w.heap.size w c1.drew := hB0.trans (hVd.mono hB0.size)
  have hXd : Below XA.heap.size XA c1.drew := hXA.drew
  obtain ⟨a0, a1, a2, a3, a4, a5, a6, a7, a8, a9⟩ := HDA.out _ hVc
  obtain ⟨⟨b0, b1, b2, b3, b4, b5, b6, b7, b8, b9⟩, -⟩ := HXA.out _ hXA
  have SS := And.intro (HXA.out _ hXd).1 (HDA.out _ hVd)
  go_wp2
  go_region_held3 (fun w' => (w'.cell? ⟨mA.heap.size, 0, none⟩ = some (.int .i64 A.r) ∧ w'.cell? ⟨mA.heap.size, 1, none⟩ = some (.int .i64 A.s) ∧ w'.cell? ⟨mA.heap.size, 2, none⟩ = some (.int .i64 A.t) ∧ w'.cell? ⟨mA.heap.size, 3, none⟩ = some ((.slice uA A.l.length dA)) ∧ w'.cell? ⟨mA.heap.size, 4, none⟩ = some (.int .i64 A.k) ∧ w'.cell? ⟨mA.heap.size, 5, none⟩ = some (.string A.o) ∧ w'.cell? ⟨mA.heap.size, 6, none⟩ = some (.string A.y) ∧ w'.cell? ⟨mA.heap.size, 7, none⟩ = some (.int .i64 A.v) ∧ w'.cell? ⟨mA.heap.size, 8, none⟩ = some (.int .i64 A.x) ∧ w'.cell? ⟨mA.heap.size, 9, none⟩ = some (.int .i64 A.z)) ∧ (w'.cell? ⟨w.heap.size, 0, none⟩ = some (.int .i64 A.r) ∧ w'.cell? ⟨w.heap.size, 1, none⟩ = some (.int .i64 A.s) ∧ w'.cell? ⟨w.heap.size, 2, none⟩ = some (.int .i64 A.t) ∧ w'.cell? ⟨w.heap.size, 3, none⟩ = some ((.slice sA A.l.length cA)) ∧ w'.cell? ⟨w.heap.size, 4, none⟩ = some (.int .i64 A.k) ∧ w'.cell? ⟨w.heap.size, 5, none⟩ = some (.string A.o) ∧ w'.cell? ⟨w.heap.size, 6, none⟩ = some (.string A.y) ∧ w'.cell? ⟨w.heap.size, 7, none⟩ = some (.int .i64 A.v) ∧ w'.cell? ⟨w.heap.size, 8, none⟩ = some (.int .i64 A.x) ∧ w'.cell? ⟨w.heap.size, 9, none⟩ = some (.int .i64 A.z))) (first | exact SS | exact SS3 | exact SS4 | go_keep) (first
    | (go_at_call 28; refine (HTA.out _ hBd).mono ?_; rintro e n0 ⟨ya, yc, rfl, kY, hb3⟩; have hV3 : Below W.heap.size W n0 := hVd.trans (hb3.mono hVd.size); have hX3 : Below XA.heap.size XA n0 := hXd.trans (hb3.mono hXd.size); have SS3 := And.intro (HXA.out _ hX3).1 (HDA.out _ hV3))
    | (go_at_call 29; refine (HEA.out _ _ _ (HXA.out _ hX3).2 kY).mono ?_; rintro e o0 ⟨rfl, hb4⟩; have hV4 : Below W.heap.size W o0 := hV3.trans (hb4.mono hV3.size); have hX4 : Below XA.heap.size XA o0 := hX3.trans (hb4.mono hX3.size); have SS4 := And.intro (HXA.out _ hX4).1 (HDA.out _ hV4)))
  replace hXB : Below XB.heap.size XB o0 := (hXB.drew.trans (hb3.mono (by first | exact hXB.drew.size))).trans (hb4.mono (Nat.le_trans hXB.size hb3.size))
  clear hVc
  have hVc := hV4
  clear a0 a1 a2 a3 a4 a5 a6 a7 a8 a9 b0 b1 b2 b3 b4 b5 b6 b7 b8 b9 SS SS3 SS4 hVd hBd hXd hV3 hX3 hV4 hX4 kY hb3 hb4
  have hVd : Below W.heap.size W o0.drew := hVc.drew
  have hBd : Below w.heap.size w o0.drew := hB0.trans (hVd.mono hB0.size)
  have hXd : Below XB.heap.size XB o0.drew := hXB.drew
  obtain ⟨a0, a1, a2, a3, a4, a5, a6, a7, a8, a9⟩ := HDB.out _ hVc
  obtain ⟨⟨b0, b1, b2, b3, b4, b5, b6, b7, b8, b9⟩, -⟩ := HXB.out _ hXB
  have SS := And.intro (HXB.out _ hXd).1 (HDB.out _ hVd)
  go_wp2
  go_region_held3 (fun w' => (w'.cell? ⟨mB.heap.size, 0, none⟩ = some (.int .i64 B.r) ∧ w'.cell? ⟨mB.heap.size, 1, none⟩ = some (.int .i64 B.s) ∧ w'.cell? ⟨mB.heap.size, 2, none⟩ = some (.int .i64 B.t) ∧ w'.cell? ⟨mB.heap.size, 3, none⟩ = some ((.slice uB B.l.length dB)) ∧ w'.cell? ⟨mB.heap.size, 4, none⟩ = some (.int .i64 B.k) ∧ w'.cell? ⟨mB.heap.size, 5, none⟩ = some (.string B.o) ∧ w'.cell? ⟨mB.heap.size, 6, none⟩ = some (.string B.y) ∧ w'.cell? ⟨mB.heap.size, 7, none⟩ = some (.int .i64 B.v) ∧ w'.cell? ⟨mB.heap.size, 8, none⟩ = some (.int .i64 B.x) ∧ w'.cell? ⟨mB.heap.size, 9, none⟩ = some (.int .i64 B.z)) ∧ (w'.cell? ⟨w.heap.size + 1, 0, none⟩ = some (.int .i64 B.r) ∧ w'.cell? ⟨w.heap.size + 1, 1, none⟩ = some (.int .i64 B.s) ∧ w'.cell? ⟨w.heap.size + 1, 2, none⟩ = some (.int .i64 B.t) ∧ w'.cell? ⟨w.heap.size + 1, 3, none⟩ = some ((.slice sB B.l.length cB)) ∧ w'.cell? ⟨w.heap.size + 1, 4, none⟩ = some (.int .i64 B.k) ∧ w'.cell? ⟨w.heap.size + 1, 5, none⟩ = some (.string B.o) ∧ w'.cell? ⟨w.heap.size + 1, 6, none⟩ = some (.string B.y) ∧ w'.cell? ⟨w.heap.size + 1, 7, none⟩ = some (.int .i64 B.v) ∧ w'.cell? ⟨w.heap.size + 1, 8, none⟩ = some (.int .i64 B.x) ∧ w'.cell? ⟨w.heap.size + 1, 9, none⟩ = some (.int .i64 B.z))) (first | exact SS | exact SS3 | exact SS4 | go_keep) (first
    | (go_at_call 28; refine (HTB.out _ hBd).mono ?_; rintro e n1 ⟨ya, yc, rfl, kY, hb3⟩; have hV3 : Below W.heap.size W n1 := hVd.trans (hb3.mono hVd.size); have hX3 : Below XB.heap.size XB n1 := hXd.trans (hb3.mono hXd.size); have SS3 := And.intro (HXB.out _ hX3).1 (HDB.out _ hV3))
    | (go_at_call 29; refine (HEB.out _ _ _ (HXB.out _ hX3).2 kY).mono ?_; rintro e o1 ⟨rfl, hb4⟩; have hV4 : Below W.heap.size W o1 := hV3.trans (hb4.mono hV3.size); have hX4 : Below XB.heap.size XB o1 := hX3.trans (hb4.mono hX3.size); have SS4 := And.intro (HXB.out _ hX4).1 (HDB.out _ hV4)))
  clear hVc
  have hVc := hV4
  clear a0 a1 a2 a3 a4 a5 a6 a7 a8 a9 b0 b1 b2 b3 b4 b5 b6 b7 b8 b9 SS SS3 SS4 hVd hBd hXd hV3 hX3 hV4 hX4 kY hb3 hb4
  have HF : Hid (Below w.heap.size w o1) := hB0.trans (hVc.mono hB0.size)
  go_wp2
  go_ret
  exact ⟨rfl, HF.out⟩


end Go.Proofs.Ytihcbgldpmpoeaa
