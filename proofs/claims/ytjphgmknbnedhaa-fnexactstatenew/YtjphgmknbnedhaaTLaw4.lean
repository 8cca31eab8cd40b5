/- The law on a new state. -/
import Derived.Test.YtjphgmknbnedhaaTMark6
namespace Go.Proofs.Ytjphgmknbnedhaa
set_option maxRecDepth 100000
set_option linter.unusedVariables false
open Go.RowKit

/-- A new state. -/
def nSt : Sta := ⟨[0, 0, 0], [], [], []⟩
theorem nSt_at {w : World} {u : Value} (h : IntsAt w u [0, 0, 0]) : StAt w nSt u (.slice none 0 0) (.slice none 0 0) (.slice none 0 0) :=
  ⟨h, ⟨none, 0, rfl, fun h => by simp [nSt] at h⟩, ⟨none, 0, rfl, fun h => by simp [nSt] at h⟩, ⟨none, 0, rfl, fun h => by simp [nSt] at h⟩⟩
theorem own_nil2 {w : World} {B : Nat} {e : TypeId} {s : Nat} : w.ownsRow B e s (.slice none 0 0) 0 [] := ⟨by simp, .inl ⟨rfl, rfl⟩⟩
theorem nSt_own {w : World} {lo hi : Nat} {u : Value} (h : Rw w lo hi 3 1 u 3 (intV [0, 0, 0])) (hl : lo ≤ hi) : OwnSt w lo hi nSt u (.slice none 0 0) (.slice none 0 0) (.slice none 0 0) :=
  ⟨hi, hi, hi, hl, Nat.le_refl _, Nat.le_refl _, Nat.le_refl _, h, ⟨own_nil2, fun k hk => by cases hk⟩, ⟨own_nil2, fun k hk => by cases hk⟩, ⟨own_nil2, fun k hk => by cases hk⟩⟩

set_option maxHeartbeats 2000000 in
theorem stateNew_calls (w : World) : Calls Try.prog 31 #[] w fun e w' => ∃ aa ca, e = .returned (.agg #[.slice aa 3 ca, .slice none 0 0, .slice none 0 0, .slice none 0 0]) ∧ Rw w' w.heap.size w'.heap.size 3 1 (.slice aa 3 ca) 3 (intV [0, 0, 0]) ∧ Below w.heap.size w w' := by
  obtain ⟨W, hW⟩ : ∃ W, W = w.alloc (.cells zState 29) := ⟨_, rfl⟩
  have HP : Hid (Row W w.heap.size zState 29) := by rw [hW]; exact row_new w _ _ rfl
  have HB : Hid (Below w.heap.size w W) := by rw [hW]; exact (Below.refl _ _).alloc (Nat.le_refl _) _
  have hWs : W.heap.size = w.heap.size + 1 := by rw [hW]; simp
  have HW : Hid (w.alloc (.cells zState 29) = W) := hW.symm
  unfold zState at HW
  clear hW
  go_enter Try.func31, Try.ntmps31
  go_wp2_with fail
  rw [HW.out]
  clear HW
  refine (knowNew_calls W).mono ?_
  rintro e w1 ⟨u, rfl, ho, hb⟩
  obtain ⟨aa, ca, hu, -⟩ := IntsAt.own (l := [0, 0, 0]) ho rfl
  replace hu : u = .slice aa 3 ca := hu
  subst hu
  have HR : Hid (Rw w1 W.heap.size w1.heap.size 3 1 (.slice aa 3 ca) 3 (intV [0, 0, 0])) := Rw.new ho
  replace HP : Hid (Row w1 w.heap.size zState 29) := HP.out.next hb
  replace HB : Hid (Below w.heap.size w w1) := HB.out.trans (hb.mono HB.out.size)
  have hsz := hb.size
  clear hb ho
  obtain ⟨o0, o1, o2, o3⟩ := Row.four HP.out
  have g0 := HP.out.free 0
  have g1 := HP.out.free 1
  have g2 := HP.out.free 2
  have g3 := HP.out.free 3
  go_wp2
  have HZ := (((HP.out.st0 (.slice aa 3 ca)).st1 (.slice none 0 0)).st2 (.slice none 0 0)).st3 (.slice none 0 0)
  have HBB := (((HB.out.setCell (p := ⟨w.heap.size, 0, none⟩) (Nat.le_refl _) (.slice aa 3 ca)).setCell (p := ⟨w.heap.size, 1, none⟩) (Nat.le_refl _) (.slice none 0 0)).setCell (p := ⟨w.heap.size, 2, none⟩) (Nat.le_refl _) (.slice none 0 0)).setCell (p := ⟨w.heap.size, 3, none⟩) (Nat.le_refl _) (.slice none 0 0)
  have HRR := (((HR.out.set (g := w.heap.size) (i := 0) (x := .slice aa 3 ca) (by omega)).set (g := w.heap.size) (i := 1) (x := .slice none 0 0) (by omega)).set (g := w.heap.size) (i := 2) (x := .slice none 0 0) (by omega)).set (g := w.heap.size) (i := 3) (x := .slice none 0 0) (by omega)
  exact bodyPost_ret (retState rfl rfl rfl HZ) rfl ⟨aa, ca, rfl, (HRR.lo (by omega)).wide (by simp [World.setCell]), HBB⟩

set_option maxHeartbeats 2000000 in
theorem specStateNew_calls (w : World) : Calls Try.prog 32 #[] w fun e w' => ∃ aa ca, e = .returned (.agg #[.slice aa 3 ca, .slice none 0 0, .slice none 0 0, .slice none 0 0]) ∧ Rw w' w.heap.size w'.heap.size 3 1 (.slice aa 3 ca) 3 (intV [0, 0, 0]) ∧ Below w.heap.size w w' := by
  obtain ⟨W, hW⟩ : ∃ W, W = w.alloc (.cells zState 29) := ⟨_, rfl⟩
  have HP : Hid (Row W w.heap.size zState 29) := by rw [hW]; exact row_new w _ _ rfl
  have HB : Hid (Below w.heap.size w W) := by rw [hW]; exact (Below.refl _ _).alloc (Nat.le_refl _) _
  have hWs : W.heap.size = w.heap.size + 1 := by rw [hW]; simp
  have HW : Hid (w.alloc (.cells zState 29) = W) := hW.symm
  unfold zState at HW
  clear hW
  go_enter Try.func32, Try.ntmps32
  go_wp2_with fail
  rw [HW.out]
  clear HW
  refine (specKnowNew_calls W).mono ?_
  rintro e w1 ⟨u, rfl, ho, hb⟩
  obtain ⟨aa, ca, hu, -⟩ := IntsAt.own (l := [0, 0, 0]) ho rfl
  replace hu : u = .slice aa 3 ca := hu
  subst hu
  have HR : Hid (Rw w1 W.heap.size w1.heap.size 3 1 (.slice aa 3 ca) 3 (intV [0, 0, 0])) := Rw.new ho
  replace HP : Hid (Row w1 w.heap.size zState 29) := HP.out.next hb
  replace HB : Hid (Below w.heap.size w w1) := HB.out.trans (hb.mono HB.out.size)
  have hsz := hb.size
  clear hb ho
  obtain ⟨o0, o1, o2, o3⟩ := Row.four HP.out
  have g0 := HP.out.free 0
  have g1 := HP.out.free 1
  have g2 := HP.out.free 2
  have g3 := HP.out.free 3
  go_wp2
  have HZ := (((HP.out.st0 (.slice aa 3 ca)).st1 (.slice none 0 0)).st2 (.slice none 0 0)).st3 (.slice none 0 0)
  have HBB := (((HB.out.setCell (p := ⟨w.heap.size, 0, none⟩) (Nat.le_refl _) (.slice aa 3 ca)).setCell (p := ⟨w.heap.size, 1, none⟩) (Nat.le_refl _) (.slice none 0 0)).setCell (p := ⟨w.heap.size, 2, none⟩) (Nat.le_refl _) (.slice none 0 0)).setCell (p := ⟨w.heap.size, 3, none⟩) (Nat.le_refl _) (.slice none 0 0)
  have HRR := (((HR.out.set (g := w.heap.size) (i := 0) (x := .slice aa 3 ca) (by omega)).set (g := w.heap.size) (i := 1) (x := .slice none 0 0) (by omega)).set (g := w.heap.size) (i := 2) (x := .slice none 0 0) (by omega)).set (g := w.heap.size) (i := 3) (x := .slice none 0 0) (by omega)
  exact bodyPost_ret (retState rfl rfl rfl HZ) rfl ⟨aa, ca, rfl, (HRR.lo (by omega)).wide (by simp [World.setCell]), HBB⟩

set_option maxHeartbeats 8000000 in
theorem fnExactStateNew_walk (w : World) :
    Calls Try.prog 4 #[] w fun e w' => e = .returned (.bool true) ∧ Below w.heap.size w w' := by
  have HEQ : Hid (∀ wx u v, IntsAt wx u [0, 0, 0] → IntsAt wx v [0, 0, 0] → Calls Try.prog 33 #[.agg #[u, .slice none 0 0, .slice none 0 0, .slice none 0 0], .agg #[v, .slice none 0 0, .slice none 0 0, .slice none 0 0]] wx fun e w' => e = .returned (.bool true) ∧ Below wx.heap.size wx w') := fun wx u v h1 h2 => eqState_calls nSt _ _ _ _ _ _ _ _ wx ⟨by show 3 ≤ _; omega, by simp [nSt], by simp [nSt], by simp [nSt]⟩ (nSt_at h1) (nSt_at h2)
  have HMK : Hid (∀ wx u lo hi, lo ≤ hi → hi ≤ wx.heap.size → Rw wx lo hi 3 1 u 3 (intV [0, 0, 0]) → Calls Try.prog 34 #[.agg #[u, .slice none 0 0, .slice none 0 0, .slice none 0 0], .int .i64 1] wx fun e w' => e = .returned (.int .i64 4) ∧ IntsAt w' u (mkI 1 3) ∧ Within lo hi wx w') := fun wx u lo hi h1 h2 h3 => markState_calls nSt lo hi _ _ _ _ wx ⟨by show 3 ≤ _; omega, by simp [nSt], by simp [nSt], by simp [nSt]⟩ h2 (nSt_own h3 h1)
  go_enter Try.func4, Try.ntmps4
  go_wp2_with fail
  refine (specStateNew_calls w).mono ?_
  rintro e w1 ⟨aa, ca, rfl, hr, hb⟩
  have HB0 : Hid (Below w.heap.size w w1) := hb
  have HI1 : Hid (IntsAt w1 (.slice aa 3 ca) [0, 0, 0]) := IntsAt.own hr.1 rfl
  obtain ⟨X1, hX1⟩ : ∃ X1, X1 = w1.alloc (.cells #[.slice aa 3 ca, .slice none 0 0, .slice none 0 0, .slice none 0 0] 29) := ⟨_, rfl⟩
  have A1 : Hid (Row X1 w1.heap.size #[.slice aa 3 ca, .slice none 0 0, .slice none 0 0, .slice none 0 0] 29) := by rw [hX1]; exact row_new _ _ _ rfl
  have HB1 : Hid (Below w1.heap.size w1 X1) := by rw [hX1]; exact (Below.refl _ _).alloc (Nat.le_refl _) _
  have hs1 : X1.heap.size = w1.heap.size + 1 := by rw [hX1]; simp
  have HX : Hid (w1.alloc (.cells #[.slice aa 3 ca, .slice none 0 0, .slice none 0 0, .slice none 0 0] 29) = X1) := hX1.symm
  clear hX1 hb hr
  go_wp2_with fail
  rw [HX.out]
  clear HX
  refine (stateNew_calls X1).mono ?_
  rintro e w2 ⟨ga, gc, rfl, hr, hb⟩
  obtain ⟨X2, hX2⟩ : ∃ X2, X2 = w2.alloc (.cells #[.slice ga 3 gc, .slice none 0 0, .slice none 0 0, .slice none 0 0] 29) := ⟨_, rfl⟩
  have hb2 : Below w2.heap.size w2 X2 := by rw [hX2]; exact (Below.refl _ _).alloc (Nat.le_refl _) _
  have HR : Hid (Rw X2 X1.heap.size w2.heap.size 3 1 (.slice ga 3 gc) 3 (intV [0, 0, 0])) := hr.below hb2
  have A2 : Hid (Row X2 w1.heap.size #[.slice aa 3 ca, .slice none 0 0, .slice none 0 0, .slice none 0 0] 29) := (A1.out.next hb).next hb2
  have G2 : Hid (Row X2 w2.heap.size #[.slice ga 3 gc, .slice none 0 0, .slice none 0 0, .slice none 0 0] 29) := by rw [hX2]; exact row_new _ _ _ rfl
  have HB2 : Hid (Below w1.heap.size w1 X2) := (HB1.out.trans (hb.mono HB1.out.size)).trans (hb2.mono (by have := hb.size; omega))
  have hs2 : X1.heap.size ≤ w2.heap.size := hb.size
  have hs3 : X2.heap.size = w2.heap.size + 1 := by rw [hX2]; simp
  have HX : Hid (w2.alloc (.cells #[.slice ga 3 gc, .slice none 0 0, .slice none 0 0, .slice none 0 0] 29) = X2) := hX2.symm
  clear hX2 hb hb2 hr A1 HB1
  obtain ⟨a0, a1, a2, a3⟩ := Row.four A2.out
  obtain ⟨b0, b1, b2, b3⟩ := Row.four G2.out
  rw [← HX.out] at a0 a1 a2 a3 b0 b1 b2 b3
  go_wp2_with fail
  rw [HX.out]
  clear HX a0 a1 a2 a3 b0 b1 b2 b3
  refine (HEQ.out _ _ _ (IntsAt.own HR.out.1 rfl) (HI1.out.below HB2.out)).mono ?_
  rintro e w3 ⟨rfl, hb⟩
  have HR3 : Hid (Rw w3 X1.heap.size w2.heap.size 3 1 (.slice ga 3 gc) 3 (intV [0, 0, 0])) := HR.out.below hb
  have A3 : Hid (Row w3 w1.heap.size #[.slice aa 3 ca, .slice none 0 0, .slice none 0 0, .slice none 0 0] 29) := A2.out.next hb
  have G3 : Hid (Row w3 w2.heap.size #[.slice ga 3 gc, .slice none 0 0, .slice none 0 0, .slice none 0 0] 29) := G2.out.next hb
  have HB3 : Hid (Below w1.heap.size w1 w3) := HB2.out.trans (hb.mono HB2.out.size)
  have hs4 : X2.heap.size ≤ w3.heap.size := hb.size
  clear hb HR A2 G2 HB2
  obtain ⟨b0, b1, b2, b3⟩ := Row.four G3.out
  go_wp2_with fail
  refine (HMK.out _ _ X1.heap.size w2.heap.size hs2 (by omega) HR3.out).mono ?_
  rintro e w4 ⟨rfl, hi, hw⟩
  have HI4 : Hid (IntsAt w4 (.slice ga 3 gc) (mkI 1 3)) := hi
  have A4 : Hid (Row w4 w1.heap.size #[.slice aa 3 ca, .slice none 0 0, .slice none 0 0, .slice none 0 0] 29) := A3.out.within hw (.inl (by omega))
  have G4 : Hid (Row w4 w2.heap.size #[.slice ga 3 gc, .slice none 0 0, .slice none 0 0, .slice none 0 0] 29) := G3.out.within hw (.inr (Nat.le_refl _))
  have HB4 : Hid (Below w1.heap.size w1 w4) := Below.within HB3.out hw (by omega) HB3.out.size
  clear hi hw HR3 A3 G3 HB3 b0 b1 b2 b3
  obtain ⟨b0, b1, b2, b3⟩ := Row.four G4.out
  go_wp2_with fail
  refine (heldState_nil _ _ HI4.out).mono ?_
  rintro e w5 ⟨rfl, hb⟩
  have HI5 : Hid (IntsAt w5 (.slice ga 3 gc) (mkI 1 3)) := HI4.out.below hb
  have A5 : Hid (Row w5 w1.heap.size #[.slice aa 3 ca, .slice none 0 0, .slice none 0 0, .slice none 0 0] 29) := A4.out.next hb
  have G5 : Hid (Row w5 w2.heap.size #[.slice ga 3 gc, .slice none 0 0, .slice none 0 0, .slice none 0 0] 29) := G4.out.next hb
  have HB5 : Hid (Below w1.heap.size w1 w5) := HB4.out.trans (hb.mono HB4.out.size)
  clear hb HI4 A4 G4 HB4 b0 b1 b2 b3
  go_wp2_with fail
  refine (stateNew_calls w5).mono ?_
  rintro e w6 ⟨ha, hc, rfl, hr, hb⟩
  obtain ⟨X6, hX6⟩ : ∃ X6, X6 = w6.alloc (.cells #[.slice ha 3 hc, .slice none 0 0, .slice none 0 0, .slice none 0 0] 29) := ⟨_, rfl⟩
  have hb6 : Below w6.heap.size w6 X6 := by rw [hX6]; exact (Below.refl _ _).alloc (Nat.le_refl _) _
  have hbb : Below w5.heap.size w5 X6 := hb.trans (hb6.mono hb.size)
  have HR6 : Hid (Rw X6 w5.heap.size w6.heap.size 3 1 (.slice ha 3 hc) 3 (intV [0, 0, 0])) := hr.below hb6
  have D6 : Hid (Row X6 w6.heap.size #[.slice ha 3 hc, .slice none 0 0, .slice none 0 0, .slice none 0 0] 29) := by rw [hX6]; exact row_new _ _ _ rfl
  have A6 : Hid (Row X6 w1.heap.size #[.slice aa 3 ca, .slice none 0 0, .slice none 0 0, .slice none 0 0] 29) := A5.out.next hbb
  have G6 : Hid (Row X6 w2.heap.size #[.slice ga 3 gc, .slice none 0 0, .slice none 0 0, .slice none 0 0] 29) := G5.out.next hbb
  have HI6 : Hid (IntsAt X6 (.slice ga 3 gc) (mkI 1 3)) := HI5.out.below hbb
  have HB6 : Hid (Below w1.heap.size w1 X6) := HB5.out.trans (hbb.mono HB5.out.size)
  have HX : Hid (w6.alloc (.cells #[.slice ha 3 hc, .slice none 0 0, .slice none 0 0, .slice none 0 0] 29) = X6) := hX6.symm
  clear hX6 hb hb6 hbb hr A5 G5 HI5 HB5
  obtain ⟨a0, a1, a2, a3⟩ := Row.four A6.out
  obtain ⟨b0, b1, b2, b3⟩ := Row.four D6.out
  rw [← HX.out] at a0 a1 a2 a3 b0 b1 b2 b3
  go_wp2_with fail
  rw [HX.out]
  clear HX a0 a1 a2 a3 b0 b1 b2 b3
  refine (HEQ.out _ _ _ (IntsAt.own HR6.out.1 rfl) (HI1.out.below HB6.out)).mono ?_
  rintro e w7 ⟨rfl, hb⟩
  have G7 : Hid (Row w7 w2.heap.size #[.slice ga 3 gc, .slice none 0 0, .slice none 0 0, .slice none 0 0] 29) := G6.out.next hb
  have HI7 : Hid (IntsAt w7 (.slice ga 3 gc) (mkI 1 3)) := HI6.out.below hb
  have HB7 : Hid (Below w1.heap.size w1 w7) := HB6.out.trans (hb.mono HB6.out.size)
  clear hb HR6 D6 A6 G6 HI6 HB6
  obtain ⟨b0, b1, b2, b3⟩ := Row.four G7.out
  go_wp2_with fail
  refine (heldState_nil _ _ HI7.out).mono ?_
  rintro e w8 ⟨rfl, hb⟩
  have HF : Hid (Below w.heap.size w w8) := HB0.out.trans ((HB7.out.trans (hb.mono HB7.out.size)).mono HB0.out.size)
  clear hb G7 HI7 HB7 b0 b1 b2 b3
  go_wp2
  go_ret
  exact ⟨rfl, HF.out⟩
end Go.Proofs.Ytjphgmknbnedhaa
