/- The laws on acts whose answers are plain values: for every argument they come out true and write into no memory that was there. -/
import Derived.Test.YtjphgmknbnedhaaALaw3
import Derived.Test.YtjphgmknbnedhaaAText5
namespace Go.Proofs.Ytjphgmknbnedhaa
set_option maxRecDepth 100000
set_option linter.unusedVariables false
open Go.RowKit

set_option maxHeartbeats 6000000 in
theorem fnExactActText_walk (A : Ac) (va : Value) (w : World) (hA : ArgAct w A va) :
    Calls Try.prog 13 #[A.val va] w fun e w' => e = .returned (.bool true) ∧ Below w.heap.size w w' := by
  have HA : Hid (ArgAct w A va) := hA
  obtain ⟨sA, cA, rfl⟩ := hA.split
  obtain ⟨W, hW⟩ : ∃ W, W = (w.alloc (.cells (A.cs (.slice sA A.l.length cA)) 89)) := ⟨_, rfl⟩
  have hB0 : Below w.heap.size w W := by rw [hW]; exact (Below.refl _ _).alloc (Nat.le_refl _) _
  have HRA : Hid (Row W w.heap.size (A.cs (.slice sA A.l.length cA)) 89) := by rw [hW]; exact row_new w _ _ rfl
  have HDA : Hid (∀ wx, Below W.heap.size W wx → ActC wx w.heap.size A (.slice sA A.l.length cA)) := fun wx h => Row.ten (HRA.out.next h)
  have HW : Hid ((w.alloc (.cells (A.cs (.slice sA A.l.length cA)) 89)) = W) := hW.symm
  unfold Ac.cs at HW
  unfold Ac.val
  have hW0 : Below W.heap.size W W := Below.refl _ _
  clear hW HRA hA
  have HZA : Hid (∀ wx, Calls Try.prog 61 #[.agg #[.int .i64 A.r, .int .i64 A.s, .int .i64 A.t, (.slice sA A.l.length cA), .int .i64 A.k, .string A.o, .string A.y, .int .i64 A.v, .int .i64 A.x, .int .i64 A.z], .int .i64 1048576] wx fun e w' => e = .returned (.int .i64 (leftOf 1048576 A.sz)) ∧ Below wx.heap.size wx w') := fun wx => szAct_at A _ _ wx w HA.out (by omega) (by omega)
  by_cases k1 : A.sz ≤ 1048576
  case neg =>
    rw [leftOf_no k1] at HZA
    go_enter Try.func13, Try.ntmps13
    go_wp2_with fail
    rw [HW.out]
    refine (HZA.out _).mono ?_
    rintro e w1 ⟨rfl, hb1⟩
    have hW1 : Below W.heap.size W w1 := hW0.trans (hb1.mono hW0.size)
    have HF : Hid (Below w.heap.size w w1) := hB0.trans (hW1.mono hB0.size)
    clear hb1 hW1
    go_wp2
    go_ret
    exact ⟨rfl, HF.out⟩
  rw [leftOf_yes k1] at HZA
  have lA := A.len_le k1 (by omega)
  have nA := A.sz_nonneg
  have q1 : ¬ ((1048576 : Int) - A.sz < 0) := by omega
  have HTA : Hid (∀ wx, Below w.heap.size w wx → Calls Try.prog 62 #[.agg #[.int .i64 A.r, .int .i64 A.s, .int .i64 A.t, (.slice sA A.l.length cA), .int .i64 A.k, .string A.o, .string A.y, .int .i64 A.v, .int .i64 A.x, .int .i64 A.z]] wx fun e w' => ∃ aa ca, e = .returned (.agg #[.int .i64 A.r, .int .i64 A.s, .int .i64 A.t, .slice aa A.l.length ca, .int .i64 A.k, .string A.o, .string A.y, .int .i64 A.v, .int .i64 A.x, .int .i64 A.z]) ∧ IntsAt w' (.slice aa A.l.length ca) A.l ∧ Below wx.heap.size wx w') := fun wx h => (toAct_calls A _ wx lA.1 (HA.out.1.below h)).mono (by rintro e w' ⟨u, rfl, ho, hb⟩; have hi := IntsAt.own ho rfl; obtain ⟨aa, ca, rfl, -⟩ := id hi; exact ⟨aa, ca, rfl, hi, hb⟩)
  have HEA : Hid (∀ wx u v, IntsAt wx u A.l → IntsAt wx v A.l → Calls Try.prog 44 #[.agg #[.int .i64 A.r, .int .i64 A.s, .int .i64 A.t, u, .int .i64 A.k, .string A.o, .string A.y, .int .i64 A.v, .int .i64 A.x, .int .i64 A.z], .agg #[.int .i64 A.r, .int .i64 A.s, .int .i64 A.t, v, .int .i64 A.k, .string A.o, .string A.y, .int .i64 A.v, .int .i64 A.x, .int .i64 A.z]] wx fun e w' => e = .returned (.bool true) ∧ Below wx.heap.size wx w') := fun wx u v h1 h2 => eqAct_calls A u v wx lA.1 h1 h2
  obtain ⟨q1, h1⟩ : ∃ q1, q1 = (actT A).1 := ⟨_, rfl⟩
  obtain ⟨q2, h2⟩ : ∃ q2, q2 = (actT A).2 := ⟨_, rfl⟩
  have HS : Hid (∀ wx u, IntsAt wx u A.l → Calls Try.prog 63 #[.agg #[.int .i64 A.r, .int .i64 A.s, .int .i64 A.t, u, .int .i64 A.k, .string A.o, .string A.y, .int .i64 A.v, .int .i64 A.x, .int .i64 A.z]] wx fun e w' => e = .returned (.tuple #[.string q1, .bool q2]) ∧ Below wx.heap.size wx w') := fun wx u hx1 => by rw [h1, h2]; exact specActText_calls A u wx lA hx1
  have HI : Hid (∀ wx u, IntsAt wx u A.l → Calls Try.prog 48 #[.agg #[.int .i64 A.r, .int .i64 A.s, .int .i64 A.t, u, .int .i64 A.k, .string A.o, .string A.y, .int .i64 A.v, .int .i64 A.x, .int .i64 A.z]] wx fun e w' => e = .returned (.tuple #[.string q1, .bool q2]) ∧ Below wx.heap.size wx w') := fun wx u hx1 => by rw [h1, h2]; exact actText_calls A u wx lA hx1
  clear h1 h2
  have hne : (q2 != q2) = false := by simp
  have hns := beq_str q1 q1 rfl
  clear k1 nA lA
  go_enter Try.func13, Try.ntmps13
  go_wp2_with fail
  rw [HW.out]
  refine (HZA.out _).mono ?_
  rintro e w1 ⟨rfl, hb1⟩
  have hW1 : Below W.heap.size W w1 := hW0.trans (hb1.mono hW0.size)
  clear HW hb1
  clear HZA
  obtain ⟨a0, a1, a2, a3, a4, a5, a6, a7, a8, a9⟩ := HDA.out _ hW1
  have hB1 : Below w.heap.size w w1 := hB0.trans (hW1.mono hB0.size)
  go_wp2_with fail
  refine (HTA.out _ hB1).mono ?_
  rintro e w2 ⟨xa, xc, rfl, kA, hb2⟩
  have hW2 : Below W.heap.size W w2 := hW1.trans (hb2.mono hW1.size)
  clear a0 a1 a2 a3 a4 a5 a6 a7 a8 a9 hb2 hB1 hW1
  go_wp2_with fail
  refine (HS.out _ _ kA).mono ?_
  rintro e w3 ⟨rfl, hb3⟩
  have hV3 : Below W.heap.size W w3 := hW2.trans (hb3.mono hW2.size)
  clear hb3 hW2 kA
  have hBc : Below w.heap.size w w3 := hB0.trans (hV3.mono hB0.size)
  obtain ⟨a0, a1, a2, a3, a4, a5, a6, a7, a8, a9⟩ := HDA.out _ hV3
  go_wp2_with fail
  refine (HTA.out _ hBc).mono ?_
  rintro e mA ⟨uA, dA, rfl, kA, hb⟩
  have hVm : Below W.heap.size W mA := hV3.trans (hb.mono hV3.size)
  clear a0 a1 a2 a3 a4 a5 a6 a7 a8 a9 hb hBc hV3
  obtain ⟨XA, hX⟩ : ∃ X, X = mA.alloc (.cells (A.cs (.slice uA A.l.length dA)) 72) := ⟨_, rfl⟩
  have hmX : Below mA.heap.size mA XA := by rw [hX]; exact (Below.refl _ _).alloc (Nat.le_refl _) _
  have hrA : Row XA mA.heap.size (A.cs (.slice uA A.l.length dA)) 72 := by rw [hX]; exact row_new _ _ _ rfl
  have kiA : IntsAt XA (.slice uA A.l.length dA) A.l := kA.below hmX
  have HXA : Hid (∀ wx, Below XA.heap.size XA wx → ActC wx mA.heap.size A (.slice uA A.l.length dA) ∧ IntsAt wx (.slice uA A.l.length dA) A.l) := fun wx h => ⟨Row.ten (hrA.next h), kiA.below h⟩
  have hVA : Below W.heap.size W XA := hVm.trans (hmX.mono hVm.size)
  have hXA : Below XA.heap.size XA XA := Below.refl _ _
  have HWXA : Hid (mA.alloc (.cells (A.cs (.slice uA A.l.length dA)) 72) = XA) := hX.symm
  unfold Ac.cs at HWXA
  clear hX hmX hVm kA kiA
  have kA := (HXA.out _ hXA).2
  go_wp2_with (fail)
  rw [HWXA.out]
  refine (HI.out _ _ kA).mono ?_
  rintro e c1 ⟨rfl, hb⟩
  have hVc : Below W.heap.size W c1 := hVA.trans (hb.mono hVA.size)
  replace hXA : Below XA.heap.size XA c1 := hXA.trans (hb.mono hXA.size)
  clear  hb kA HWXA hrA
  have hVd : Below W.heap.size W c1.drew := hVc.drew
  have hBd : Below w.heap.size w c1.drew := hB0.trans (hVd.mono hB0.size)
  have hXd : Below XA.heap.size XA c1.drew := hXA.drew
  obtain ⟨a0, a1, a2, a3, a4, a5, a6, a7, a8, a9⟩ := HDA.out _ hVc
  obtain ⟨⟨b0, b1, b2, b3, b4, b5, b6, b7, b8, b9⟩, -⟩ := HXA.out _ hXA
  have SS := And.intro (HXA.out _ hXd).1 (HDA.out _ hVd)
  go_wp2
  go_region_held3 (fun w' => (w'.cell? ⟨mA.heap.size, 0, none⟩ = some (.int .i64 A.r) ∧ w'.cell? ⟨mA.heap.size, 1, none⟩ = some (.int .i64 A.s) ∧ w'.cell? ⟨mA.heap.size, 2, none⟩ = some (.int .i64 A.t) ∧ w'.cell? ⟨mA.heap.size, 3, none⟩ = some ((.slice uA A.l.length dA)) ∧ w'.cell? ⟨mA.heap.size, 4, none⟩ = some (.int .i64 A.k) ∧ w'.cell? ⟨mA.heap.size, 5, none⟩ = some (.string A.o) ∧ w'.cell? ⟨mA.heap.size, 6, none⟩ = some (.string A.y) ∧ w'.cell? ⟨mA.heap.size, 7, none⟩ = some (.int .i64 A.v) ∧ w'.cell? ⟨mA.heap.size, 8, none⟩ = some (.int .i64 A.x) ∧ w'.cell? ⟨mA.heap.size, 9, none⟩ = some (.int .i64 A.z)) ∧ (w'.cell? ⟨w.heap.size, 0, none⟩ = some (.int .i64 A.r) ∧ w'.cell? ⟨w.heap.size, 1, none⟩ = some (.int .i64 A.s) ∧ w'.cell? ⟨w.heap.size, 2, none⟩ = some (.int .i64 A.t) ∧ w'.cell? ⟨w.heap.size, 3, none⟩ = some ((.slice sA A.l.length cA)) ∧ w'.cell? ⟨w.heap.size, 4, none⟩ = some (.int .i64 A.k) ∧ w'.cell? ⟨w.heap.size, 5, none⟩ = some (.string A.o) ∧ w'.cell? ⟨w.heap.size, 6, none⟩ = some (.string A.y) ∧ w'.cell? ⟨w.heap.size, 7, none⟩ = some (.int .i64 A.v) ∧ w'.cell? ⟨w.heap.size, 8, none⟩ = some (.int .i64 A.x) ∧ w'.cell? ⟨w.heap.size, 9, none⟩ = some (.int .i64 A.z))) (first | exact SS | exact SS3 | exact SS4 | go_keep) (first
    | (go_at_call 62; refine (HTA.out _ hBd).mono ?_; rintro e n0 ⟨ya, yc, rfl, kY, hb3⟩; have hV3 : Below W.heap.size W n0 := hVd.trans (hb3.mono hVd.size); have hX3 : Below XA.heap.size XA n0 := hXd.trans (hb3.mono hXd.size); have SS3 := And.intro (HXA.out _ hX3).1 (HDA.out _ hV3))
    | (go_at_call 44; refine (HEA.out _ _ _ (HXA.out _ hX3).2 kY).mono ?_; rintro e o0 ⟨rfl, hb4⟩; have hV4 : Below W.heap.size W o0 := hV3.trans (hb4.mono hV3.size); have hX4 : Below XA.heap.size XA o0 := hX3.trans (hb4.mono hX3.size); have SS4 := And.intro (HXA.out _ hX4).1 (HDA.out _ hV4)))
  clear hVc
  have hVc := hV4
  clear a0 a1 a2 a3 a4 a5 a6 a7 a8 a9 b0 b1 b2 b3 b4 b5 b6 b7 b8 b9 SS SS3 SS4 hVd hBd hXd hV3 hX3 hV4 hX4 kY hb3 hb4
  have HF : Hid (Below w.heap.size w o0) := hB0.trans (hVc.mono hB0.size)
  go_wp2
  go_ret
  exact ⟨rfl, HF.out⟩


end Go.Proofs.Ytjphgmknbnedhaa
