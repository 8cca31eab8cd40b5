/- A state is copied, its texts too. -/
import Derived.Test.YtdknoflkingodaaGreatQ41
import Derived.Test.YtdknoflkingodaaGreatQ44
set_option maxHeartbeats 16000000
namespace Go.Proofs.YtdknoflkingodaaGreat
open Value (int)
open IntKind (i64)
set_option maxRecDepth 100000
set_option linter.unusedVariables false
open Go.RowKit
theorem JW {w : World} {g i : Nat} {v : Value} {cs : Array Value} {T : TypeId} (h : Row w g cs T) (hv : cs[i]? = some v) : w.setCell ⟨g, i, none⟩ v = w := by
 have hg : w.heap[g]? = some (.cells cs T (0, 0)) := h
 obtain ⟨hl, hge⟩ := Array.getElem?_eq_some_iff.1 hg
 obtain ⟨hi, hvi⟩ := Array.getElem?_eq_some_iff.1 hv
 have e : (w.setCell ⟨g, i, none⟩ v).heap = w.heap := by
  unfold World.setCell
  apply Array.ext
  ·simp
  ·intro j h1 h2
   by_cases hj : g = j
   ·subst hj
    simp only [Array.getElem_modify_self, hge, Option.isSome_none, Bool.false_eq_true, if_false]
    congr 1
    apply Array.ext
    ·simp
    ·intro q q1 q2
     by_cases hq : i = q
     ·subst hq; rw [Array.getElem_setIfInBounds_self, hvi]
     ·rw [Array.getElem_setIfInBounds_ne _ hq]
   ·simp only [Array.getElem_modify_of_ne hj]
 exact congrArg (fun hh => ({ w with heap := hh } : World)) e
theorem Jb4 {w : World} {B n s : Nat} {e : TypeId} {v : Value} {xs : List Value} (h : w.ownsRow B e s v n xs) (hn : 0 < n) : ∃ (g cap : Nat) (cur : Array Value), v = .slice (some ⟨g, 0, none⟩) n cap ∧ B ≤ g ∧ g < w.heap.size ∧ Row w g cur e ∧ ∀ (j : Nat) x, xs[j]? = some x → cur[j]? = some x := by
 have h' := h
 rcases h.2 with ⟨rfl, h0⟩ | ⟨g, cap, cur, rfl, hb, hg, -⟩
 ·omega
 ·refine ⟨g, cap, cur, rfl, hb, (Array.getElem?_eq_some_iff.1 hg).1, hg, fun j x hx => ?_⟩
  have := h'.cells (g := g) rfl j x hx
  rw [KF, cell_of_row w g j cur e (0, 0) hg] at this
  exact this
theorem GS (S : Sta) (u0 u1 u2 u3 : Value) (w : World) (hS : SOk S) (h : StAt w S u0 u1 u2 u3) :
  Calls Tryz.prog 84 #[.agg #[u0, u1, u2, u3]] w fun e w' => ∃ v0 v1 v2 v3, e = .returned (.agg #[v0, v1, v2, v3]) ∧ OwnS w' w.heap.size S v0 v1 v2 v3 ∧ Below w.heap.size w w' := by
 obtain ⟨a0, c0, a1, c1, a2, c2, a3, c3, rfl, rfl, rfl, rfl⟩ := h.shape
 have HS := Ja hS
 obtain ⟨W, hW⟩ : ∃ W, W = (w.alloc (.cells #[.slice a0 S.l.length c0, .slice a1 S.T.length c1, .slice a2 S.L.length c2, .slice a3 S.C.length c3] 29)).alloc (.cells #[.slice none 0 0, .slice none 0 0, .slice none 0 0, .slice none 0 0] 29) := ⟨_, rfl⟩
 have HP : Hid (Row W w.heap.size #[.slice a0 S.l.length c0, .slice a1 S.T.length c1, .slice a2 S.L.length c2, .slice a3 S.C.length c3] 29) := by rw [hW]; exact (Jb w _ _ rfl).alloc _
 have HZ : Hid (Row W (w.heap.size + 1) #[.slice none 0 0, .slice none 0 0, .slice none 0 0, .slice none 0 0] 29) := by rw [hW]; exact Jb _ _ _ (by simp)
 have HB : Hid (Below w.heap.size w W) := by rw [hW]; exact ((Below.refl _ _).alloc (Nat.le_refl _) _).alloc (by simp) _
 have HWW : Hid ((w.alloc (.cells #[.slice a0 S.l.length c0, .slice a1 S.T.length c1, .slice a2 S.L.length c2, .slice a3 S.C.length c3] 29)).alloc (.cells #[.slice none 0 0, .slice none 0 0, .slice none 0 0, .slice none 0 0] 29) = W) := hW.symm
 have HST := Ja h
 have HWS : Hid (w.heap.size + 2 ≤ W.heap.size) := by show _ ≤ _; rw [hW]; simp
 have hl0 : S.l.length ≤ 120 := by rw [hS.1.1]; omega
 have hl1 : S.T.length ≤ 120 := hS.2.1.1
 have hl2 : S.L.length ≤ 120 := hS.2.2.1.1
 have hl3 : S.C.length ≤ 120 := hS.2.2.2.1.1
 clear hW h hS
 have HC0 := Ja (Yl S.l (.slice a0 S.l.length c0) W (by omega) (HST.out.below HB.out).1)
 have r0 : W.cell? ⟨w.heap.size, 0, none⟩ = some (.slice a0 S.l.length c0) := HP.out.cell 0 rfl
 go_enter Tryz.func84, Tryz.ntmps84
 go_wp2_with fail
 rw [HWW.out]
 clear HWW
 try go_wp2_with fail
 refine HC0.out.mono ?_
 rintro e y0 ⟨qq, rfl, hown, hb⟩
 have hsh : IntsAt y0 qq S.l := IntsAt.own hown rfl
 obtain ⟨q0, d0, rfl, -⟩ := hsh
 have hp := HP.out.next hb
 have hz := HZ.out.next hb
 have hlt0 : ∀ j, (Value.slice q0 S.l.length d0).ownBlock = some j → W.heap.size ≤ j := fun j hj => (hown.lt j hj).1
 obtain ⟨X1, hX⟩ : ∃ X, X = y0.setCell ⟨w.heap.size, 0, none⟩ (.slice q0 S.l.length d0) := ⟨_, rfl⟩
 have HX : Hid (y0.setCell ⟨w.heap.size, 0, none⟩ (.slice q0 S.l.length d0) = X1) := hX.symm
 have HP1 : Hid (Row X1 w.heap.size #[.slice q0 S.l.length d0, .slice a1 S.T.length c1, .slice a2 S.L.length c2, .slice a3 S.C.length c3] 29) := by rw [hX]; exact hp.st0 _
 have HZ1 : Hid (Row X1 (w.heap.size + 1) #[.slice none 0 0, .slice none 0 0, .slice none 0 0, .slice none 0 0] 29) := by rw [hX]; exact hz.other (by simp) _
 have HB1 : Hid (Below w.heap.size w X1) := by rw [hX]; exact (HB.out.trans (hb.mono HB.out.size)).setCell (p := ⟨w.heap.size, 0, none⟩) (Nat.le_refl _) _
 have HW1 : Hid (w.heap.size + 2 ≤ X1.heap.size) := by
  show _ ≤ _
  have h1 : y0.heap.size ≤ X1.heap.size := by rw [hX]; exact ((Below.refl 0 y0).setCell (p := ⟨w.heap.size, 0, none⟩) (Nat.zero_le _) _).size
  have := HWS.out; have := hb.size; omega
 have HOO0 : Hid (X1.ownsRow (w.heap.size + 2) 3 1 (.slice q0 S.l.length d0) S.l.length (Jj S.l)) := by
  show World.ownsRow _ _ _ _ _ _ _
  rw [hX]; exact Jo (Jc hown (fun j hj => by have := hlt0 j hj; have := HWS.out; omega)) HWS.out
 have bd0_1 : ∀ k, (Value.slice q0 S.l.length d0).ownBlock = some k → k < X1.heap.size := fun k hk => (HOO0.out.lt k hk).2
 obtain ⟨t0, t1, t2, t3⟩ := Row.four hp
 have f0 := hp.free 0
 have HC1 := Ja (Yo S.T (.slice a1 S.T.length c1) X1 (by omega) (HST.out.below HB1.out).2.1)
 have r1 : (y0.setCell ⟨w.heap.size, 0, none⟩ (.slice q0 S.l.length d0)).cell? ⟨w.heap.size, 1, none⟩ = some (.slice a1 S.T.length c1) := by rw [HX.out]; exact HP1.out.cell 1 rfl
 clear hX hp hz hown hb HP HZ HB HWS HC0 r0
 go_wp2_with fail
 rw [HX.out]
 clear HX t0 t1 t2 t3 f0
 refine HC1.out.mono ?_
 rintro e y1 ⟨qq, rfl, hown, hb⟩
 have hsh : TaAt y1 qq S.T := TaAt.own hown rfl
 obtain ⟨q1, d1, rfl, -⟩ := hsh
 have hp := HP1.out.next hb
 have hz := HZ1.out.next hb
 have hlt1 : ∀ j, (Value.slice q1 S.T.length d1).ownBlock = some j → X1.heap.size ≤ j := fun j hj => (hown.lt j hj).1
 obtain ⟨X2, hX⟩ : ∃ X, X = y1.setCell ⟨w.heap.size, 1, none⟩ (.slice q1 S.T.length d1) := ⟨_, rfl⟩
 have HX : Hid (y1.setCell ⟨w.heap.size, 1, none⟩ (.slice q1 S.T.length d1) = X2) := hX.symm
 have HP2 : Hid (Row X2 w.heap.size #[.slice q0 S.l.length d0, .slice q1 S.T.length d1, .slice a2 S.L.length c2, .slice a3 S.C.length c3] 29) := by rw [hX]; exact hp.st1 _
 have HZ2 : Hid (Row X2 (w.heap.size + 1) #[.slice none 0 0, .slice none 0 0, .slice none 0 0, .slice none 0 0] 29) := by rw [hX]; exact hz.other (by simp) _
 have HB2 : Hid (Below w.heap.size w X2) := by rw [hX]; exact (HB1.out.trans (hb.mono HB1.out.size)).setCell (p := ⟨w.heap.size, 1, none⟩) (Nat.le_refl _) _
 have HW2 : Hid (w.heap.size + 2 ≤ X2.heap.size) := by
  show _ ≤ _
  have h1 : y1.heap.size ≤ X2.heap.size := by rw [hX]; exact ((Below.refl 0 y1).setCell (p := ⟨w.heap.size, 1, none⟩) (Nat.zero_le _) _).size
  have := HW1.out; have := hb.size; omega
 have HOO1 : Hid (X2.ownsRow (w.heap.size + 2) 38 3 (.slice q1 S.T.length d1) S.T.length (taV S.T)) := by
  show World.ownsRow _ _ _ _ _ _ _
  rw [hX]; exact Jo (Jc hown (fun j hj => by have := hlt1 j hj; have := HW1.out; omega)) HW1.out
 replace HOO0 : Hid (X2.ownsRow (w.heap.size + 2) 3 1 (.slice q0 S.l.length d0) S.l.length (Jj S.l)) := by
  show World.ownsRow _ _ _ _ _ _ _
  rw [hX]; exact Jc (Jf HOO0.out hb) (fun k hk => by have := (HOO0.out.lt k hk).1; omega)
 have ap01 : ∀ k, (Value.slice q0 S.l.length d0).ownBlock = some k → (Value.slice q1 S.T.length d1).ownBlock ≠ some k := fun k hk e => by have := hlt1 k e; have := bd0_1 k hk; omega
 have bd0_2 : ∀ k, (Value.slice q0 S.l.length d0).ownBlock = some k → k < X2.heap.size := fun k hk => (HOO0.out.lt k hk).2
 have bd1_2 : ∀ k, (Value.slice q1 S.T.length d1).ownBlock = some k → k < X2.heap.size := fun k hk => (HOO1.out.lt k hk).2
 obtain ⟨t0, t1, t2, t3⟩ := Row.four hp
 have f0 := hp.free 1
 have HC2 := Ja (Yi S.L (.slice a2 S.L.length c2) X2 (by omega) (HST.out.below HB2.out).2.2.1)
 have r2 : (y1.setCell ⟨w.heap.size, 1, none⟩ (.slice q1 S.T.length d1)).cell? ⟨w.heap.size, 2, none⟩ = some (.slice a2 S.L.length c2) := by rw [HX.out]; exact HP2.out.cell 2 rfl
 clear hX hp hz hown hb HP1 HZ1 HB1 HW1 HC1 r1
 go_wp2_with fail
 rw [HX.out]
 clear HX t0 t1 t2 t3 f0
 refine HC2.out.mono ?_
 rintro e y2 ⟨qq, rfl, hown, hb⟩
 have hsh : LiAt y2 qq S.L := LiAt.own hown rfl
 obtain ⟨q2, d2, rfl, -⟩ := hsh
 have hp := HP2.out.next hb
 have hz := HZ2.out.next hb
 have hlt2 : ∀ j, (Value.slice q2 S.L.length d2).ownBlock = some j → X2.heap.size ≤ j := fun j hj => (hown.lt j hj).1
 obtain ⟨X3, hX⟩ : ∃ X, X = y2.setCell ⟨w.heap.size, 2, none⟩ (.slice q2 S.L.length d2) := ⟨_, rfl⟩
 have HX : Hid (y2.setCell ⟨w.heap.size, 2, none⟩ (.slice q2 S.L.length d2) = X3) := hX.symm
 have HP3 : Hid (Row X3 w.heap.size #[.slice q0 S.l.length d0, .slice q1 S.T.length d1, .slice q2 S.L.length d2, .slice a3 S.C.length c3] 29) := by rw [hX]; exact hp.st2 _
 have HZ3 : Hid (Row X3 (w.heap.size + 1) #[.slice none 0 0, .slice none 0 0, .slice none 0 0, .slice none 0 0] 29) := by rw [hX]; exact hz.other (by simp) _
 have HB3 : Hid (Below w.heap.size w X3) := by rw [hX]; exact (HB2.out.trans (hb.mono HB2.out.size)).setCell (p := ⟨w.heap.size, 2, none⟩) (Nat.le_refl _) _
 have HW3 : Hid (w.heap.size + 2 ≤ X3.heap.size) := by
  show _ ≤ _
  have h1 : y2.heap.size ≤ X3.heap.size := by rw [hX]; exact ((Below.refl 0 y2).setCell (p := ⟨w.heap.size, 2, none⟩) (Nat.zero_le _) _).size
  have := HW2.out; have := hb.size; omega
 have HOO2 : Hid (X3.ownsRow (w.heap.size + 2) 40 6 (.slice q2 S.L.length d2) S.L.length (liV S.L)) := by
  show World.ownsRow _ _ _ _ _ _ _
  rw [hX]; exact Jo (Jc hown (fun j hj => by have := hlt2 j hj; have := HW2.out; omega)) HW2.out
 replace HOO0 : Hid (X3.ownsRow (w.heap.size + 2) 3 1 (.slice q0 S.l.length d0) S.l.length (Jj S.l)) := by
  show World.ownsRow _ _ _ _ _ _ _
  rw [hX]; exact Jc (Jf HOO0.out hb) (fun k hk => by have := (HOO0.out.lt k hk).1; omega)
 have ap02 : ∀ k, (Value.slice q0 S.l.length d0).ownBlock = some k → (Value.slice q2 S.L.length d2).ownBlock ≠ some k := fun k hk e => by have := hlt2 k e; have := bd0_2 k hk; omega
 replace HOO1 : Hid (X3.ownsRow (w.heap.size + 2) 38 3 (.slice q1 S.T.length d1) S.T.length (taV S.T)) := by
  show World.ownsRow _ _ _ _ _ _ _
  rw [hX]; exact Jc (Jf HOO1.out hb) (fun k hk => by have := (HOO1.out.lt k hk).1; omega)
 have ap12 : ∀ k, (Value.slice q1 S.T.length d1).ownBlock = some k → (Value.slice q2 S.L.length d2).ownBlock ≠ some k := fun k hk e => by have := hlt2 k e; have := bd1_2 k hk; omega
 have bd0_3 : ∀ k, (Value.slice q0 S.l.length d0).ownBlock = some k → k < X3.heap.size := fun k hk => (HOO0.out.lt k hk).2
 have bd1_3 : ∀ k, (Value.slice q1 S.T.length d1).ownBlock = some k → k < X3.heap.size := fun k hk => (HOO1.out.lt k hk).2
 have bd2_3 : ∀ k, (Value.slice q2 S.L.length d2).ownBlock = some k → k < X3.heap.size := fun k hk => (HOO2.out.lt k hk).2
 obtain ⟨t0, t1, t2, t3⟩ := Row.four hp
 have f0 := hp.free 2
 have HC3 := Ja (Yp S.C (.slice a3 S.C.length c3) X3 (by omega) (HST.out.below HB3.out).2.2.2)
 have r3 : (y2.setCell ⟨w.heap.size, 2, none⟩ (.slice q2 S.L.length d2)).cell? ⟨w.heap.size, 3, none⟩ = some (.slice a3 S.C.length c3) := by rw [HX.out]; exact HP3.out.cell 3 rfl
 clear hX hp hz hown hb HP2 HZ2 HB2 HW2 HC2 r2
 go_wp2_with fail
 rw [HX.out]
 clear HX t0 t1 t2 t3 f0
 refine HC3.out.mono ?_
 rintro e y3 ⟨qq, rfl, hown, hb⟩
 have hsh : CeAt y3 qq S.C := CeAt.own hown rfl
 obtain ⟨q3, d3, rfl, -⟩ := hsh
 have hp := HP3.out.next hb
 have hz := HZ3.out.next hb
 have hlt3 : ∀ j, (Value.slice q3 S.C.length d3).ownBlock = some j → X3.heap.size ≤ j := fun j hj => (hown.lt j hj).1
 obtain ⟨X4, hX⟩ : ∃ X, X = y3.setCell ⟨w.heap.size, 3, none⟩ (.slice q3 S.C.length d3) := ⟨_, rfl⟩
 have HX : Hid (y3.setCell ⟨w.heap.size, 3, none⟩ (.slice q3 S.C.length d3) = X4) := hX.symm
 have HP4 : Hid (Row X4 w.heap.size #[.slice q0 S.l.length d0, .slice q1 S.T.length d1, .slice q2 S.L.length d2, .slice q3 S.C.length d3] 29) := by rw [hX]; exact hp.st3 _
 have HZ4 : Hid (Row X4 (w.heap.size + 1) #[.slice none 0 0, .slice none 0 0, .slice none 0 0, .slice none 0 0] 29) := by rw [hX]; exact hz.other (by simp) _
 have HB4 : Hid (Below w.heap.size w X4) := by rw [hX]; exact (HB3.out.trans (hb.mono HB3.out.size)).setCell (p := ⟨w.heap.size, 3, none⟩) (Nat.le_refl _) _
 have HW4 : Hid (w.heap.size + 2 ≤ X4.heap.size) := by
  show _ ≤ _
  have h1 : y3.heap.size ≤ X4.heap.size := by rw [hX]; exact ((Below.refl 0 y3).setCell (p := ⟨w.heap.size, 3, none⟩) (Nat.zero_le _) _).size
  have := HW3.out; have := hb.size; omega
 have HOO3 : Hid (X4.ownsRow (w.heap.size + 2) 35 8 (.slice q3 S.C.length d3) S.C.length (ceV S.C)) := by
  show World.ownsRow _ _ _ _ _ _ _
  rw [hX]; exact Jo (Jc hown (fun j hj => by have := hlt3 j hj; have := HW3.out; omega)) HW3.out
 replace HOO0 : Hid (X4.ownsRow (w.heap.size + 2) 3 1 (.slice q0 S.l.length d0) S.l.length (Jj S.l)) := by
  show World.ownsRow _ _ _ _ _ _ _
  rw [hX]; exact Jc (Jf HOO0.out hb) (fun k hk => by have := (HOO0.out.lt k hk).1; omega)
 have ap03 : ∀ k, (Value.slice q0 S.l.length d0).ownBlock = some k → (Value.slice q3 S.C.length d3).ownBlock ≠ some k := fun k hk e => by have := hlt3 k e; have := bd0_3 k hk; omega
 replace HOO1 : Hid (X4.ownsRow (w.heap.size + 2) 38 3 (.slice q1 S.T.length d1) S.T.length (taV S.T)) := by
  show World.ownsRow _ _ _ _ _ _ _
  rw [hX]; exact Jc (Jf HOO1.out hb) (fun k hk => by have := (HOO1.out.lt k hk).1; omega)
 have ap13 : ∀ k, (Value.slice q1 S.T.length d1).ownBlock = some k → (Value.slice q3 S.C.length d3).ownBlock ≠ some k := fun k hk e => by have := hlt3 k e; have := bd1_3 k hk; omega
 replace HOO2 : Hid (X4.ownsRow (w.heap.size + 2) 40 6 (.slice q2 S.L.length d2) S.L.length (liV S.L)) := by
  show World.ownsRow _ _ _ _ _ _ _
  rw [hX]; exact Jc (Jf HOO2.out hb) (fun k hk => by have := (HOO2.out.lt k hk).1; omega)
 have ap23 : ∀ k, (Value.slice q2 S.L.length d2).ownBlock = some k → (Value.slice q3 S.C.length d3).ownBlock ≠ some k := fun k hk e => by have := hlt3 k e; have := bd2_3 k hk; omega
 have bd0_4 : ∀ k, (Value.slice q0 S.l.length d0).ownBlock = some k → k < X4.heap.size := fun k hk => (HOO0.out.lt k hk).2
 have bd1_4 : ∀ k, (Value.slice q1 S.T.length d1).ownBlock = some k → k < X4.heap.size := fun k hk => (HOO1.out.lt k hk).2
 have bd2_4 : ∀ k, (Value.slice q2 S.L.length d2).ownBlock = some k → k < X4.heap.size := fun k hk => (HOO2.out.lt k hk).2
 have bd3_4 : ∀ k, (Value.slice q3 S.C.length d3).ownBlock = some k → k < X4.heap.size := fun k hk => (HOO3.out.lt k hk).2
 obtain ⟨t0, t1, t2, t3⟩ := Row.four hp
 have f0 := hp.free 3
 clear hX hp hz hown hb HP3 HZ3 HB3 HW3 HC3 r3
 go_wp2_with fail
 rw [HX.out]
 clear HX t0 t1 t2 t3 f0
 have HOS : Hid (OwnS X4 (w.heap.size + 2) S (.slice q0 S.l.length d0) (.slice q1 S.T.length d1) (.slice q2 S.L.length d2) (.slice q3 S.C.length d3)) := ⟨⟨HOO0.out, HOO1.out, HOO2.out, HOO3.out⟩, ap01, ap02, ap03, ap12, ap13, ap23⟩
 clear ap01 ap02 ap03 ap12 ap13 ap23 hlt0 hlt1 hlt2 hlt3 bd0_1 bd0_2 bd0_3 bd0_4 bd1_2 bd1_3 bd1_4 bd2_3 bd2_4 bd3_4 HOO0
 have HNX : Hid (∀ wx, Below X4.heap.size X4 wx → Below w.heap.size w wx) := fun wx h => HB4.out.trans (h.mono HB4.out.size)
 have l1 : X4.cell? ⟨w.heap.size, 1, none⟩ = some (.slice q1 S.T.length d1) := HP4.out.cell 1 rfl
 go_wp2
 clear l1
 
 
 
 go_loopw [25] (fun z wr => ∃ k : Nat, k ≤ S.T.length ∧ z = int i64 k ∧ Below X4.heap.size X4 wr) (fun z _ => S.T.length - (intOf z).toNat)
 case atStart => exact ⟨0, Nat.zero_le _, rfl, Below.refl _ _⟩
 case round =>
  obtain ⟨k1, hk1, rfl, hbx⟩ := hrel
  have HBZ1 := Ja hbx
  clear hbx
  by_cases hkn1 : k1 < S.T.length
  ·have hk1 : (k1 : Int) < S.T.length := by omega
   have hkl : k1 < S.T.length := hkn1
   obtain ⟨g, cap, cur, hq, hg1, hg2, hrow, hcells⟩ := Jb4 HOO1.out (by omega)
   simp only [Value.slice.injEq] at hq
   obtain ⟨rfl, -, rfl⟩ := hq
   have hat : ∀ j, j < 3 → (taV S.T)[k1 * 3 + j]? = (S.T[k1].cs)[j]? := fun j hj => by unfold taV; rw [Uq (Vp S.T) k1 (by simpa using hkl) j hj, List.getElem_map]
   have hsz := (HS.out.2.1.2.mem _ (List.getElem_mem hkl)).1.size
   generalize S.T[k1] = x at *
   have c0 : cur[k1 * 3]? = some (.string x.o) := hcells _ _ (by have := hat 0 (by omega); simpa [Ta.cs] using this)
   have HCL : Hid (∀ wx, Calls Tryz.prog 121 #[.string x.o] wx fun e w' => e = .returned (.string x.o) ∧ Below wx.heap.size wx w') := fun wx => Kw x.o wx (by omega)
   have HRG : Hid (∀ wx, Below X4.heap.size X4 wx → Row wx g cur 38) := fun wx hx => (hx.block g hg2).trans hrow
   have HRP : Hid (∀ wx, Below X4.heap.size X4 wx → wx.cell? ⟨w.heap.size, 1, none⟩ = some (.slice (some ⟨g, 0, none⟩) S.T.length d1)) := fun wx hx => (HP4.out.next hx).cell 1 rfl
   have HC : Hid (cur[k1 * 3]? = some (.string x.o)) := c0
   have l0 := HRP.out wr HBZ1.out
   have e0 : wr.cell? ⟨g, k1 * 3, none⟩ = some (.string x.o) := by rw [cell_of_row wr g _ cur _ (0, 0) (HRG.out wr HBZ1.out)]; exact c0
   clear hat hcells hrow hsz c0
   go_wp2_with fail
   go_region_with (first | (go_at_call 121; refine (HCL.out _).mono ?_; rintro e w4 ⟨rfl, hb4⟩; have HB5 := Ja (HBZ1.out.drew.trans (hb4.mono HBZ1.out.drew.size)); have L0 := HRP.out w4 HB5.out; have E0 : w4.cell? ⟨g, k1 * 3, none⟩ = some (.string x.o) := (cell_of_row w4 g _ cur _ (0, 0) (HRG.out w4 HB5.out)).trans HC.out; have F0 := (HRG.out w4 HB5.out).free (k1 * 3); have M0 := JW (HRG.out w4 HB5.out) HC.out))
   all_goals go_wp2
   all_goals go_roundw
   all_goals first
    | exact ⟨k1 + 1, by omega, by go_num, HB5.out⟩
    | (simp [intOf]; omega)
  ·have hk1 : ¬ ((k1 : Int) < S.T.length) := by omega
   have l2 : wr.cell? ⟨w.heap.size, 2, none⟩ = some (.slice q2 S.L.length d2) := (HP4.out.next HBZ1.out).cell 2 rfl
   go_wp2
   clear l2
   obtain ⟨Y1, hYY⟩ : ∃ Z, Z = wr := ⟨_, rfl⟩
   rw [← hYY] at HBZ1 ⊢
   clear hYY hk1
   go_loopw [44] (fun z wr => ∃ k : Nat, k ≤ S.L.length ∧ z = int i64 k ∧ Below X4.heap.size X4 wr) (fun z _ => S.L.length - (intOf z).toNat)
   case atStart => exact ⟨0, Nat.zero_le _, rfl, HBZ1.out⟩
   case round =>
    obtain ⟨k2, hk2, rfl, hbx⟩ := hrel
    have HBZ2 := Ja hbx
    clear hbx HBZ1
    by_cases hkn2 : k2 < S.L.length
    ·have hk1 : (k2 : Int) < S.L.length := by omega
     have hkl : k2 < S.L.length := hkn2
     obtain ⟨g, cap, cur, hq, hg1, hg2, hrow, hcells⟩ := Jb4 HOO2.out (by omega)
     simp only [Value.slice.injEq] at hq
     obtain ⟨rfl, -, rfl⟩ := hq
     have hat : ∀ j, j < 6 → (liV S.L)[k2 * 6 + j]? = (S.L[k2].cs)[j]? := fun j hj => by unfold liV; rw [Uq (Vq S.L) k2 (by simpa using hkl) j hj, List.getElem_map]
     have hsz := (HS.out.2.2.1.2.mem _ (List.getElem_mem hkl)).2
     generalize S.L[k2] = x at *
     have c0 : cur[k2 * 6]? = some (.bool x.m) := hcells _ _ (by have := hat 0 (by omega); simpa [Li.cs] using this)
     have c1 : cur[k2 * 6 + 1]? = some (.string x.o) := hcells _ _ (by have := hat 1 (by omega); simpa [Li.cs] using this)
     have c2 : cur[k2 * 6 + 2]? = some (.string x.y) := hcells _ _ (by have := hat 2 (by omega); simpa [Li.cs] using this)
     have c3 : cur[k2 * 6 + 3]? = some (int i64 x.v) := hcells _ _ (by have := hat 3 (by omega); simpa [Li.cs] using this)
     have c4 : cur[k2 * 6 + 4]? = some (int i64 x.r) := hcells _ _ (by have := hat 4 (by omega); simpa [Li.cs] using this)
     have c5 : cur[k2 * 6 + 5]? = some (int i64 x.s) := hcells _ _ (by have := hat 5 (by omega); simpa [Li.cs] using this)
     have HCL : Hid (∀ wx, Calls Tryz.prog 59 #[.agg #[.bool x.m, .string x.o, .string x.y, int i64 x.v, int i64 x.r, int i64 x.s]] wx fun e w' => e = .returned (.agg #[.bool x.m, .string x.o, .string x.y, int i64 x.v, int i64 x.r, int i64 x.s]) ∧ Below wx.heap.size wx w') := fun wx => UE x wx (by have := hsz.1.size; omega) (by have := hsz.2.1.size; omega)
     have HRG : Hid (∀ wx, Below X4.heap.size X4 wx → Row wx g cur 40) := fun wx hx => (hx.block g hg2).trans hrow
     have HRP : Hid (∀ wx, Below X4.heap.size X4 wx → wx.cell? ⟨w.heap.size, 2, none⟩ = some (.slice (some ⟨g, 0, none⟩) S.L.length d2)) := fun wx hx => (HP4.out.next hx).cell 2 rfl
     have HC : Hid (cur[k2 * 6]? = some (.bool x.m) ∧ cur[k2 * 6 + 1]? = some (.string x.o) ∧ cur[k2 * 6 + 2]? = some (.string x.y) ∧ cur[k2 * 6 + 3]? = some (int i64 x.v) ∧ cur[k2 * 6 + 4]? = some (int i64 x.r) ∧ cur[k2 * 6 + 5]? = some (int i64 x.s)) := ⟨c0, c1, c2, c3, c4, c5⟩
     have l0 := HRP.out wr HBZ2.out
     have e0 : wr.cell? ⟨g, k2 * 6, none⟩ = some (.bool x.m) := by rw [cell_of_row wr g _ cur _ (0, 0) (HRG.out wr HBZ2.out)]; exact c0
     have e1 : wr.cell? ⟨g, k2 * 6 + 1, none⟩ = some (.string x.o) := by rw [cell_of_row wr g _ cur _ (0, 0) (HRG.out wr HBZ2.out)]; exact c1
     have e2 : wr.cell? ⟨g, k2 * 6 + 2, none⟩ = some (.string x.y) := by rw [cell_of_row wr g _ cur _ (0, 0) (HRG.out wr HBZ2.out)]; exact c2
     have e3 : wr.cell? ⟨g, k2 * 6 + 3, none⟩ = some (int i64 x.v) := by rw [cell_of_row wr g _ cur _ (0, 0) (HRG.out wr HBZ2.out)]; exact c3
     have e4 : wr.cell? ⟨g, k2 * 6 + 4, none⟩ = some (int i64 x.r) := by rw [cell_of_row wr g _ cur _ (0, 0) (HRG.out wr HBZ2.out)]; exact c4
     have e5 : wr.cell? ⟨g, k2 * 6 + 5, none⟩ = some (int i64 x.s) := by rw [cell_of_row wr g _ cur _ (0, 0) (HRG.out wr HBZ2.out)]; exact c5
     clear hat hcells hrow hsz c0 c1 c2 c3 c4 c5
     go_wp2_with fail
     go_region_with (first | (go_at_call 59; refine (HCL.out _).mono ?_; rintro e w4 ⟨rfl, hb4⟩; have HB5 := Ja (HBZ2.out.drew.trans (hb4.mono HBZ2.out.drew.size)); have L0 := HRP.out w4 HB5.out; have E0 : w4.cell? ⟨g, k2 * 6, none⟩ = some (.bool x.m) := (cell_of_row w4 g _ cur _ (0, 0) (HRG.out w4 HB5.out)).trans HC.out.1; have F0 := (HRG.out w4 HB5.out).free (k2 * 6); have M0 := JW (HRG.out w4 HB5.out) HC.out.1; have E1 : w4.cell? ⟨g, k2 * 6 + 1, none⟩ = some (.string x.o) := (cell_of_row w4 g _ cur _ (0, 0) (HRG.out w4 HB5.out)).trans HC.out.2.1; have F1 := (HRG.out w4 HB5.out).free (k2 * 6 + 1); have M1 := JW (HRG.out w4 HB5.out) HC.out.2.1; have E2 : w4.cell? ⟨g, k2 * 6 + 2, none⟩ = some (.string x.y) := (cell_of_row w4 g _ cur _ (0, 0) (HRG.out w4 HB5.out)).trans HC.out.2.2.1; have F2 := (HRG.out w4 HB5.out).free (k2 * 6 + 2); have M2 := JW (HRG.out w4 HB5.out) HC.out.2.2.1; have E3 : w4.cell? ⟨g, k2 * 6 + 3, none⟩ = some (int i64 x.v) := (cell_of_row w4 g _ cur _ (0, 0) (HRG.out w4 HB5.out)).trans HC.out.2.2.2.1; have F3 := (HRG.out w4 HB5.out).free (k2 * 6 + 3); have M3 := JW (HRG.out w4 HB5.out) HC.out.2.2.2.1; have E4 : w4.cell? ⟨g, k2 * 6 + 4, none⟩ = some (int i64 x.r) := (cell_of_row w4 g _ cur _ (0, 0) (HRG.out w4 HB5.out)).trans HC.out.2.2.2.2.1; have F4 := (HRG.out w4 HB5.out).free (k2 * 6 + 4); have M4 := JW (HRG.out w4 HB5.out) HC.out.2.2.2.2.1; have E5 : w4.cell? ⟨g, k2 * 6 + 5, none⟩ = some (int i64 x.s) := (cell_of_row w4 g _ cur _ (0, 0) (HRG.out w4 HB5.out)).trans HC.out.2.2.2.2.2; have F5 := (HRG.out w4 HB5.out).free (k2 * 6 + 5); have M5 := JW (HRG.out w4 HB5.out) HC.out.2.2.2.2.2))
     all_goals go_wp2
     all_goals go_roundw
     all_goals first
      | exact ⟨k2 + 1, by omega, by go_num, HB5.out⟩
      | (simp [intOf]; omega)
    ·have hk1 : ¬ ((k2 : Int) < S.L.length) := by omega
     have l3 : wr.cell? ⟨w.heap.size, 3, none⟩ = some (.slice q3 S.C.length d3) := (HP4.out.next HBZ2.out).cell 3 rfl
     go_wp2
     clear l3
     obtain ⟨Y2, hYY⟩ : ∃ Z, Z = wr := ⟨_, rfl⟩
     rw [← hYY] at HBZ2 ⊢
     clear hYY hk1
     go_loopw [61] (fun z wr => ∃ k : Nat, k ≤ S.C.length ∧ z = int i64 k ∧ Below X4.heap.size X4 wr) (fun z _ => S.C.length - (intOf z).toNat)
     case atStart => exact ⟨0, Nat.zero_le _, rfl, HBZ2.out⟩
     case round =>
      obtain ⟨k3, hk3, rfl, hbx⟩ := hrel
      have HBZ3 := Ja hbx
      clear hbx HBZ2
      by_cases hkn3 : k3 < S.C.length
      ·have hk1 : (k3 : Int) < S.C.length := by omega
       have hkl : k3 < S.C.length := hkn3
       obtain ⟨g, cap, cur, hq, hg1, hg2, hrow, hcells⟩ := Jb4 HOO3.out (by omega)
       simp only [Value.slice.injEq] at hq
       obtain ⟨rfl, -, rfl⟩ := hq
       have hat : ∀ j, j < 8 → (ceV S.C)[k3 * 8 + j]? = (S.C[k3].cs)[j]? := fun j hj => by unfold ceV; rw [Uq (Vs S.C) k3 (by simpa using hkl) j hj, List.getElem_map]
       have hsz := (HS.out.2.2.2.1.2.mem _ (List.getElem_mem hkl)).2.1.size
       generalize S.C[k3] = x at *
       have c0 : cur[k3 * 8]? = some (.string x.o) := hcells _ _ (by have := hat 0 (by omega); simpa [Ce.cs] using this)
       have HCL : Hid (∀ wx, Calls Tryz.prog 121 #[.string x.o] wx fun e w' => e = .returned (.string x.o) ∧ Below wx.heap.size wx w') := fun wx => Kw x.o wx (by omega)
       have HRG : Hid (∀ wx, Below X4.heap.size X4 wx → Row wx g cur 35) := fun wx hx => (hx.block g hg2).trans hrow
       have HRP : Hid (∀ wx, Below X4.heap.size X4 wx → wx.cell? ⟨w.heap.size, 3, none⟩ = some (.slice (some ⟨g, 0, none⟩) S.C.length d3)) := fun wx hx => (HP4.out.next hx).cell 3 rfl
       have HC : Hid (cur[k3 * 8]? = some (.string x.o)) := c0
       have l0 := HRP.out wr HBZ3.out
       have e0 : wr.cell? ⟨g, k3 * 8, none⟩ = some (.string x.o) := by rw [cell_of_row wr g _ cur _ (0, 0) (HRG.out wr HBZ3.out)]; exact c0
       clear hat hcells hrow hsz c0
       go_wp2_with fail
       go_region_with (first | (go_at_call 121; refine (HCL.out _).mono ?_; rintro e w4 ⟨rfl, hb4⟩; have HB5 := Ja (HBZ3.out.drew.trans (hb4.mono HBZ3.out.drew.size)); have L0 := HRP.out w4 HB5.out; have E0 : w4.cell? ⟨g, k3 * 8, none⟩ = some (.string x.o) := (cell_of_row w4 g _ cur _ (0, 0) (HRG.out w4 HB5.out)).trans HC.out; have F0 := (HRG.out w4 HB5.out).free (k3 * 8); have M0 := JW (HRG.out w4 HB5.out) HC.out))
       all_goals go_wp2
       all_goals go_roundw
       all_goals first
        | exact ⟨k3 + 1, by omega, by go_num, HB5.out⟩
        | (simp [intOf]; omega)
      ·have hk1 : ¬ ((k3 : Int) < S.C.length) := by omega
       have hzf := HZ4.out.next HBZ3.out
       obtain ⟨p0, p1, p2, p3⟩ := Row.four (HP4.out.next HBZ3.out)
       obtain ⟨z0, z1, z2, z3⟩ := Row.four hzf
       have k0 := hzf.free 0
       have k1 := hzf.free 1
       have k2 := hzf.free 2
       have k3 := hzf.free 3
       have HZF := Ja hzf
       have HOF : Hid (OwnS wr (w.heap.size + 2) S (.slice q0 S.l.length d0) (.slice q1 S.T.length d1) (.slice q2 S.L.length d2) (.slice q3 S.C.length d3)) := Own4.next HOS.out HBZ3.out
       have HBF := Ja (HNX.out wr HBZ3.out)
       have HXF : Hid (Zp (w.heap.size + 1) (.slice q0 S.l.length d0) (.slice q1 S.T.length d1) (.slice q2 S.L.length d2) (.slice q3 S.C.length d3)) := HOF.out.off (.inl (by omega))
       clear hzf HOS HOO1 HOO2 HOO3 HNX HBZ3 HP4 HZ4 HB4 HS HST
       go_wp2
       exact bodyPost_ret (Kf rfl rfl rfl ((((HZF.out.st0 _).st1 _).st2 _).st3 _)) rfl ⟨_, _, _, _, rfl, Own4.base ((((OwnS.put HOF.out HXF.out).put HXF.out).put HXF.out).put HXF.out) (by omega), (((HBF.out.setCell (p := ⟨w.heap.size + 1, 0, none⟩) (by simp) _).setCell (p := ⟨w.heap.size + 1, 1, none⟩) (by simp) _).setCell (p := ⟨w.heap.size + 1, 2, none⟩) (by simp) _).setCell (p := ⟨w.heap.size + 1, 3, none⟩) (by simp) _⟩
theorem KD (S R : Sta) (u0 u1 u2 u3 v0 v1 v2 v3 : Value) (w : World) (hS : SOk S) (hR : SOk R) (hM : SOk (Jm S R)) (hu : StAt w S u0 u1 u2 u3) (hv : StAt w R v0 v1 v2 v3) (cu : Kl u1 u2 u3) (cv : Kl v1 v2 v3) :
  Calls Tryz.prog 27 #[.agg #[u0, u1, u2, u3], .agg #[v0, v1, v2, v3]] w fun e w' => ∃ q0 q1 q2 q3, e = .returned (.agg #[q0, q1, q2, q3]) ∧ OwnS w' w.heap.size (Jm S R) q0 q1 q2 q3 ∧ Below w.heap.size w w' := by
 obtain ⟨a0, c0, a1, c1, a2, c2, a3, c3, rfl, rfl, rfl, rfl⟩ := hu.shape
 obtain ⟨b0, d0, b1, d1, b2, d2, b3, d3, rfl, rfl, rfl, rfl⟩ := hv.shape
 obtain ⟨W, hW⟩ : ∃ W, W = ((w.alloc (.cells #[.slice a0 S.l.length c0, .slice a1 S.T.length c1, .slice a2 S.L.length c2, .slice a3 S.C.length c3] 29)).alloc (.cells #[.slice b0 R.l.length d0, .slice b1 R.T.length d1, .slice b2 R.L.length d2, .slice b3 R.C.length d3] 29)).alloc (.cells #[.slice none 0 0, .slice none 0 0, .slice none 0 0, .slice none 0 0] 29) := ⟨_, rfl⟩
 have HP : Hid (Row W w.heap.size #[.slice a0 S.l.length c0, .slice a1 S.T.length c1, .slice a2 S.L.length c2, .slice a3 S.C.length c3] 29) := by rw [hW]; exact ((Jb w _ _ rfl).alloc _).alloc _
 have HQ : Hid (Row W (w.heap.size + 1) #[.slice b0 R.l.length d0, .slice b1 R.T.length d1, .slice b2 R.L.length d2, .slice b3 R.C.length d3] 29) := by rw [hW]; exact (Jb _ _ _ (by simp)).alloc _
 have HZ : Hid (Row W (w.heap.size + 1 + 1) #[.slice none 0 0, .slice none 0 0, .slice none 0 0, .slice none 0 0] 29) := by rw [hW]; exact Jb _ _ _ (by simp)
 have HB : Hid (Below w.heap.size w W) := by rw [hW]; exact (((Below.refl _ _).alloc (Nat.le_refl _) _).alloc (by simp) _).alloc (by simp; omega) _
 have HWS : Hid (w.heap.size + 1 + 1 < W.heap.size) := by show _ < _; rw [hW]; simp
 have HWW : Hid (((w.alloc (.cells #[.slice a0 S.l.length c0, .slice a1 S.T.length c1, .slice a2 S.L.length c2, .slice a3 S.C.length c3] 29)).alloc (.cells #[.slice b0 R.l.length d0, .slice b1 R.T.length d1, .slice b2 R.L.length d2, .slice b3 R.C.length d3] 29)).alloc (.cells #[.slice none 0 0, .slice none 0 0, .slice none 0 0, .slice none 0 0] 29) = W) := hW.symm
 have HMS := Ja (Km S R _ _ _ _ _ _ _ _ W hS hR hM (by rw [hW]; exact ((hu.alloc _).alloc _).alloc _) (by rw [hW]; exact ((hv.alloc _).alloc _).alloc _) cu cv)
 clear hW hu hv cu cv
 obtain ⟨p0, p1, p2, p3⟩ := Row.four HP.out
 obtain ⟨q0, q1, q2, q3⟩ := Row.four HQ.out
 go_enter Tryz.func27, Tryz.ntmps27
 go_wp2_with fail
 rw [HWW.out]
 clear HWW
 try go_wp2_with fail
 refine HMS.out.mono ?_
 rintro e w2 ⟨m0, m1, m2, m3, rfl, hst, hb2⟩
 obtain ⟨e0, f0, e1, f1, e2, f2, e3, f3, rfl, rfl, rfl, rfl⟩ := hst.shape
 obtain ⟨W3, hW3⟩ : ∃ W3, W3 = w2.alloc (.cells #[.slice e0 (Jm S R).l.length f0, .slice e1 (Jm S R).T.length f1, .slice e2 (Jm S R).L.length f2, .slice e3 (Jm S R).C.length f3] 29) := ⟨_, rfl⟩
 have hb3 : Below W.heap.size W W3 := by rw [hW3]; exact hb2.alloc hb2.size _
 have HB3 : Hid (Below w.heap.size w W3) := HB.out.trans (hb3.mono HB.out.size)
 have HZ3 := Ja (HZ.out.next hb3)
 have HW3 : Hid (w2.alloc (.cells #[.slice e0 (Jm S R).l.length f0, .slice e1 (Jm S R).T.length f1, .slice e2 (Jm S R).L.length f2, .slice e3 (Jm S R).C.length f3] 29) = W3) := hW3.symm
 have HCS := Ja (GS (Jm S R) _ _ _ _ W3 hM (by rw [hW3]; exact hst.alloc _))
 have hs3 : W.heap.size ≤ W3.heap.size := hb3.size
 clear hst hW3 hb2 hb3 HP HQ HZ HB HMS p0 p1 p2 p3 q0 q1 q2 q3
 go_wp2_with fail
 rw [HW3.out]
 clear HW3
 try go_wp2_with fail
 refine HCS.out.mono ?_
 rintro e w4 ⟨v0, v1, v2, v3, rfl, hos, hb4⟩
 obtain ⟨e0, f0, e1, f1, e2, f2, e3, f3, rfl, rfl, rfl, rfl⟩ := hos.at.shape
 have hz4 := HZ3.out.next hb4
 have HX : Hid (Zp (w.heap.size + 1 + 1) (.slice e0 (Jm S R).l.length f0) (.slice e1 (Jm S R).T.length f1) (.slice e2 (Jm S R).L.length f2) (.slice e3 (Jm S R).C.length f3)) := hos.off (.inl (by have := HWS.out; omega))
 have HOS := Ja (Own4.base hos (show w.heap.size ≤ W3.heap.size by have := HWS.out; omega))
 have HB4 : Hid (Below w.heap.size w w4) := HB3.out.trans (hb4.mono HB3.out.size)
 obtain ⟨z0, z1, z2, z3⟩ := Row.four hz4
 have k0 := hz4.free 0
 have k1 := hz4.free 1
 have k2 := hz4.free 2
 have k3 := hz4.free 3
 have HZ4 := Ja hz4
 clear hz4 hos hb4 HZ3 HB3 HCS
 go_wp2
 exact bodyPost_ret (Kf rfl rfl rfl ((((HZ4.out.st0 _).st1 _).st2 _).st3 _)) rfl ⟨_, _, _, _, rfl, (((OwnS.put HOS.out HX.out).put HX.out).put HX.out).put HX.out, (((HB4.out.setCell (p := ⟨w.heap.size + 1 + 1, 0, none⟩) (by simp; omega) _).setCell (p := ⟨w.heap.size + 1 + 1, 1, none⟩) (by simp; omega) _).setCell (p := ⟨w.heap.size + 1 + 1, 2, none⟩) (by simp; omega) _).setCell (p := ⟨w.heap.size + 1 + 1, 3, none⟩) (by simp; omega) _⟩
theorem KW (S R : Sta) (u0 u1 u2 u3 v0 v1 v2 v3 : Value) (w : World) (hS : SOk S) (hR : SOk R) (hM : Jm S R = R) (hu : StAt w S u0 u1 u2 u3) (hv : StAt w R v0 v1 v2 v3) (cu : Kl u1 u2 u3) (cv : Kl v1 v2 v3) :
  Calls Tryz.prog 28 #[.agg #[u0, u1, u2, u3], .agg #[v0, v1, v2, v3]] w fun e w' => e = .returned (.bool true) ∧ Below w.heap.size w w' := by
 obtain ⟨a0, c0, a1, c1, a2, c2, a3, c3, rfl, rfl, rfl, rfl⟩ := hu.shape
 obtain ⟨b0, d0, b1, d1, b2, d2, b3, d3, rfl, rfl, rfl, rfl⟩ := hv.shape
 obtain ⟨W, hW⟩ : ∃ W, W = (w.alloc (.cells #[.slice a0 S.l.length c0, .slice a1 S.T.length c1, .slice a2 S.L.length c2, .slice a3 S.C.length c3] 29)).alloc (.cells #[.slice b0 R.l.length d0, .slice b1 R.T.length d1, .slice b2 R.L.length d2, .slice b3 R.C.length d3] 29) := ⟨_, rfl⟩
 have HP : Hid (Row W w.heap.size #[.slice a0 S.l.length c0, .slice a1 S.T.length c1, .slice a2 S.L.length c2, .slice a3 S.C.length c3] 29) := by rw [hW]; exact (Jb w _ _ rfl).alloc _
 have HQ : Hid (Row W (w.heap.size + 1) #[.slice b0 R.l.length d0, .slice b1 R.T.length d1, .slice b2 R.L.length d2, .slice b3 R.C.length d3] 29) := by rw [hW]; exact Jb _ _ _ (by simp)
 have HB : Hid (Below w.heap.size w W) := by rw [hW]; exact ((Below.refl _ _).alloc (Nat.le_refl _) _).alloc (by simp) _
 have HWW : Hid ((w.alloc (.cells #[.slice a0 S.l.length c0, .slice a1 S.T.length c1, .slice a2 S.L.length c2, .slice a3 S.C.length c3] 29)).alloc (.cells #[.slice b0 R.l.length d0, .slice b1 R.T.length d1, .slice b2 R.L.length d2, .slice b3 R.C.length d3] 29) = W) := hW.symm
 have HV : Hid (StAt W R (.slice b0 R.l.length d0) (.slice b1 R.T.length d1) (.slice b2 R.L.length d2) (.slice b3 R.C.length d3)) := by rw [hW]; exact (hv.alloc _).alloc _
 have HMS := Ja (Km S R _ _ _ _ _ _ _ _ W hS hR (by rw [hM]; exact hR) (by rw [hW]; exact (hu.alloc _).alloc _) HV.out cu cv)
 rw [hM] at HMS
 clear hW hu hv cu cv
 obtain ⟨p0, p1, p2, p3⟩ := Row.four HP.out
 obtain ⟨q0, q1, q2, q3⟩ := Row.four HQ.out
 go_enter Tryz.func28, Tryz.ntmps28
 go_wp2_with fail
 rw [HWW.out]
 clear HWW
 try go_wp2_with fail
 refine HMS.out.mono ?_
 rintro e w2 ⟨m0, m1, m2, m3, rfl, hst, hb2⟩
 obtain ⟨e0, f0, e1, f1, e2, f2, e3, f3, rfl, rfl, rfl, rfl⟩ := hst.shape
 obtain ⟨W3, hW3⟩ : ∃ W3, W3 = w2.alloc (.cells #[.slice e0 R.l.length f0, .slice e1 R.T.length f1, .slice e2 R.L.length f2, .slice e3 R.C.length f3] 29) := ⟨_, rfl⟩
 have hb3 : Below W.heap.size W W3 := by rw [hW3]; exact hb2.alloc hb2.size _
 have HB3 : Hid (Below w.heap.size w W3) := HB.out.trans (hb3.mono HB.out.size)
 have HW3 : Hid (w2.alloc (.cells #[.slice e0 R.l.length f0, .slice e1 R.T.length f1, .slice e2 R.L.length f2, .slice e3 R.C.length f3] 29) = W3) := hW3.symm
 have HST : Hid (StAt W3 R (.slice e0 R.l.length f0) (.slice e1 R.T.length f1) (.slice e2 R.L.length f2) (.slice e3 R.C.length f3)) := by rw [hW3]; exact hst.alloc _
 have HV3 := Ja (HV.out.below hb3)
 obtain ⟨q0, q1, q2, q3⟩ := Row.four (HQ.out.next hb3)
 rw [← HW3.out] at q0 q1 q2 q3
 have HSS := Ja (Vk R R _ _ _ _ _ _ _ _ W3 hR.small hR.small HST.out HV3.out)
 rw [decide_eq_true (rfl : R = R)] at HSS
 clear hst hW3 hb2 hb3 HP HB HMS p0 p1 p2 p3
 go_wp2_with fail
 rw [HW3.out]
 clear HW3
 try go_wp2_with fail
 refine HSS.out.mono ?_
 rintro e w4 ⟨rfl, hb4⟩
 have HB4 : Hid (Below w.heap.size w w4) := HB3.out.trans (hb4.mono HB3.out.size)
 clear hb4 HB3 HSS HST HV3 q0 q1 q2 q3
 go_wp2
 go_ret
 exact ⟨rfl, HB4.out⟩
end Go.Proofs.YtdknoflkingodaaGreat
