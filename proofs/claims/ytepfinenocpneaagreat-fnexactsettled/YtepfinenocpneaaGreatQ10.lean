/- The dots that one knowledge has and another has not, as the . -/
import Derived.Laws.StructEq
import Derived.Maps.AppendAt
import Derived.Test.YtepfinenocpneaaGreatQ8
set_option maxHeartbeats 16000000
namespace Go.Proofs.YtepfinenocpneaaGreat
open Value (int)
open IntKind (i64)
set_option maxRecDepth 100000
set_option linter.unusedVariables false
open Go.RowKit
def at3 (a b c : Int) : Nat → Int
 | 0 => a
 | 1 => b
 | _ => c
theorem JaU : Tryz.prog.underlying 42 = some (.struct (Tryz.prog.fieldsOf 42)) := by kernel_rfl
theorem JcG : Tryz.prog.stoodInHeld 42 = false := by kernel_rfl
theorem Zl : Tryz.prog.eqGuardType Tryz.prog.depth 42 = false := by kernel_rfl
theorem UU (r s r' s' : Int) (w : World) : (Op.equalIn 10000 42 (.agg #[int i64 r, int i64 s]) (.agg #[int i64 r', int i64 s'])).run Tryz.prog w = .ok (decide (r = r') && decide (s = s')) w := by
 rw [run_equalIn_struct w 9999 42 _ _ JaU JcG]
 simp only [Program.fieldsOf, Tryz.underlying42]
 by_cases h1 : r = r' <;> by_cases h2 : s = s' <;> simp [Op.eqFields, go_sem, h1, h2]
theorem UT {w : World} {v : Value} {a b c : Int} (h : IntsAt w v [a, b, c]) : ∃ g k : Nat, v = .slice (some ⟨g, 0, none⟩) 3 k ∧ g < w.heap.size ∧ ∀ j, j < 3 → w.cell? ⟨g, j, none⟩ = some (int i64 (at3 a b c j)) := by
 obtain ⟨aa, k, rfl, hg⟩ := h
 obtain ⟨g, rfl, h1, h2⟩ := hg (by simp)
 refine ⟨g, k, rfl, h1, fun j hj => ?_⟩
 have := h2 j hj
 match j, hj with
 | 0, _ => exact this
 | 1, _ => exact this
 | 2, _ => exact this
theorem Gn (w : World) : Calls Tryz.prog 64 #[] w fun r w' => ∃ x, r = .returned x ∧ w'.ownsRow w.heap.size 3 1 x 3 (Je [0, 0, 0]) ∧ Below w.heap.size w w' := by
 have hmk : (Instr.makeSlice 24 (int i64 3) (int i64 3)).run Tryz.prog w = .ok (.slice (some ⟨w.heap.size, 0, none⟩) 3 3) (w.alloc (.cells (Je (List.replicate 3 0)).toArray 3)) := GZ w 3 (by omega)
 have HO : Hid ((w.alloc (.cells (Je (List.replicate 3 0)).toArray 3)).ownsRow w.heap.size 3 1 (.slice (some ⟨w.heap.size, 0, none⟩) 3 3) 3 (Je [0, 0, 0])) := GP (xs := Je [0, 0, 0]) (MapKept.heap_alloc w _).1 (Nat.le_refl _) rfl (by decide)
 have HB : Hid (Below w.heap.size w (w.alloc (.cells (Je (List.replicate 3 0)).toArray 3))) := (Below.refl _ _).alloc (Nat.le_refl _) _
 generalize w.alloc (.cells (Je (List.replicate 3 0)).toArray 3) = w1 at *
 go_enter Tryz.func64, Tryz.ntmps64
 go_wp2
 go_ret
 exact ⟨_, rfl, HO.out, HB.out⟩
theorem GQ (l m : List Int) (u v : Value) (w : World) (hnl : l.length ≤ 1048576) (hnm : m.length ≤ 1048576) (hl : IntsAt w u l) (hm : IntsAt w v m) :
  Calls Tryz.prog 52 #[u, v] w fun r w' => r = .returned (.bool (kin l m)) ∧ Below w.heap.size w w' := by
 have HC1 : Hid (∀ wx, Below w.heap.size w wx → Calls Tryz.prog 57 #[u] wx fun e w' => e = .returned (.bool (decide (KOk l))) ∧ w' = wx) := fun wx hb => JG l u _ hnl (hl.below hb)
 have HC2 : Hid (∀ wx, Below w.heap.size w wx → Calls Tryz.prog 57 #[v] wx fun e w' => e = .returned (.bool (decide (KOk m))) ∧ w' = wx) := fun wx hb => JG m v _ hnm (hm.below hb)
 have HL : Hid (IntsAt w u l) := hl
 have HM : Hid (IntsAt w v m) := hm
 have hb0 := Below.refl w.heap.size w
 clear hl hm hnl hnm
 cases hq1 : decide (KOk l)
 ·have hk : kin l m = false := by unfold kin; rw [hq1]; rfl
  rw [hk]
  rw [hq1] at HC1
  clear hk
  go_enter Tryz.func52, Tryz.ntmps52
  go_wp2_with (go_at_call 57; refine (HC1.out _ hb0).mono ?_; rintro e w1 ⟨rfl, rfl⟩)
  go_ret
  exact ⟨rfl, hb0⟩
 ·rw [hq1] at HC1
  have tok : True := trivial
  cases hq2 : decide (KOk m)
  ·have hk : kin l m = false := by unfold kin; rw [hq2, Bool.and_false]; rfl
   rw [hk]
   rw [hq2] at HC2
   clear hk
   go_enter Tryz.func52, Tryz.ntmps52
   go_wp2_with (first
    | (go_at_call 57; have _t := tok; refine (HC1.out _ hb0).mono ?_; clear tok; rintro e w1 ⟨rfl, rfl⟩)
    | (go_at_call 57; refine (HC2.out _ hb0).mono ?_; rintro e w1 ⟨rfl, rfl⟩))
   go_ret
   exact ⟨rfl, hb0⟩
  ·rw [hq2] at HC2
   obtain ⟨a, b, c, e1, -⟩ := (of_decide_eq_true hq1).split
   obtain ⟨d, e, f, e2, -⟩ := (of_decide_eq_true hq2).split
   have hk := YS (of_decide_eq_true hq1) (of_decide_eq_true hq2) e1 e2
   rw [e1] at HL
   rw [e2] at HM
   obtain ⟨g1, k1, rfl, hg1, hc1⟩ := UT HL.out
   obtain ⟨g2, k2, rfl, hg2, hc2⟩ := UT HM.out
   have HG1 : Hid (∀ j, j < 3 → w.cell? ⟨g1, j, none⟩ = some (int i64 (at3 a b c j))) := hc1
   have HG2 : Hid (∀ j, j < 3 → w.cell? ⟨g2, j, none⟩ = some (int i64 (at3 d e f j))) := hc2
   clear hc1 hc2 hq1 hq2 e1 e2 HL HM
   generalize kin l m = r at *
   have HY : Hid ((∀ j, j < 3 → at3 a b c j ≤ at3 d e f j) → r = true) := by
    intro h
    have h0 : a ≤ d := h 0 (by omega)
    have h1 : b ≤ e := h 1 (by omega)
    have h2 : c ≤ f := h 2 (by omega)
    rw [hk]; simp [h0, h1, h2]
   have HN : Hid (∀ j, j < 3 → ¬ at3 a b c j ≤ at3 d e f j → r = false) := by
    intro j hj h
    rw [hk]
    match j, hj with
    | 0, _ => have h' : ¬ a ≤ d := h; simp [h']
    | 1, _ => have h' : ¬ b ≤ e := h; simp [h']
    | 2, _ => have h' : ¬ c ≤ f := h; simp [h']
   clear hk
   generalize at3 a b c = p at *
   generalize at3 d e f = q at *
   go_enter Tryz.func52, Tryz.ntmps52
   go_wp2_with (first
    | (go_at_call 57; have _t := tok; refine (HC1.out _ hb0).mono ?_; clear tok; rintro e w1 ⟨rfl, rfl⟩)
    | (go_at_call 57; refine (HC2.out _ hb0).mono ?_; rintro e w1 ⟨rfl, rfl⟩))
   go_loopw [5] (fun z wr => ∃ j : Nat, j ≤ 3 ∧ z = int i64 j ∧ (∀ i, i < j → p i ≤ q i) ∧ Below w1.heap.size w1 wr) (fun z _ => 3 - (intOf z).toNat)
   case atStart => exact ⟨0, Nat.zero_le _, rfl, fun i h => absurd h (by omega), hb0⟩
   case round =>
    clear hb0 HC1 HC2
    obtain ⟨j, hj, rfl, hpq, hbel⟩ := hrel
    have HPQ : Hid (∀ i, i < j → p i ≤ q i) := hpq
    clear hpq
    by_cases hlt : j < 3
    ·have hj1 : (j : Int) < 3 := by omega
     have hj0 : (0 : Int) ≤ j := by omega
     have c1 : wr.cell? ⟨g1, j, none⟩ = some (int i64 (p j)) := (hbel.cell (p := ⟨g1, j, none⟩) hg1).trans (HG1.out j hlt)
     have c2 : wr.cell? ⟨g2, j, none⟩ = some (int i64 (q j)) := (hbel.cell (p := ⟨g2, j, none⟩) hg2).trans (HG2.out j hlt)
     by_cases hc : p j ≤ q j
     ·have hc' : ¬ (q j < p j) := by omega
      have HS : Hid (∀ i, i < j + 1 → p i ≤ q i) := by
       intro i hi
       rcases Nat.lt_or_ge i j with h | h
       ·exact HPQ.out i h
       ·obtain rfl : i = j := by omega
        exact hc
      clear HPQ hc
      generalize p j = pj at *
      generalize q j = qj at *
      go_wp2
      go_quiet (fail)
      have hbq := Ji hbel nq
      clear c1 c2 hbel
      generalize wr.drewN nq = wq at *
      go_wp2
      go_roundw
      case rel => exact ⟨j + 1, by omega, by go_num, HS.out, hbq⟩
      case measure => simp [intOf]; omega
     ·have hc' : q j < p j := by omega
      have hr := HN.out j hlt (by omega)
      subst hr
      generalize p j = pj at *
      generalize q j = qj at *
      go_wp2
      go_quiet (fail)
      have hbq := Ji hbel nq
      clear c1 c2 hbel
      generalize wr.drewN nq = wq at *
      go_wp2
      go_ret
      exact ⟨rfl, hbq⟩
    ·have hj1 : ¬ ((j : Int) < 3) := by omega
     obtain rfl : j = 3 := by omega
     have hr := HY.out HPQ.out
     subst hr
     go_wp2
     go_ret
     exact ⟨rfl, hbel⟩
def Kd (w w1 : World) (r s : Int) : Prop := DotAt w1 w.heap.size r s ∧ Below w.heap.size w w1
theorem Kd.next {w w1 w2 : World} {r s : Int} (h : Kd w w1 r s) (hb : Below w1.heap.size w1 w2) : Kd w w2 r s :=
 ⟨h.1.below hb h.1.lt, h.2.trans (hb.mono h.2.size)⟩
theorem Kd.five {w w1 : World} {g : Nat} {a b c r s : Int} (h : Kd w w1 r s) (hg : g < w.heap.size) (hc : ∀ j, j < 3 → w.cell? ⟨g, j, none⟩ = some (int i64 (at3 a b c j))) : w1.cell? ⟨w.heap.size, 0, none⟩ = some (int i64 r) ∧ w1.cell? ⟨w.heap.size, 1, none⟩ = some (int i64 s) ∧ w1.cell? ⟨g, 0, none⟩ = some (int i64 a) ∧ w1.cell? ⟨g, 1, none⟩ = some (int i64 b) ∧ w1.cell? ⟨g, 2, none⟩ = some (int i64 c) :=
 ⟨h.1.c0, h.1.c1, (h.2.cell (p := ⟨g, 0, none⟩) hg).trans (hc 0 (by omega)), (h.2.cell (p := ⟨g, 1, none⟩) hg).trans (hc 1 (by omega)), (h.2.cell (p := ⟨g, 2, none⟩) hg).trans (hc 2 (by omega))⟩
theorem Zc (l : List Int) (v : Value) (r s : Int) (w : World) (hnl : l.length ≤ 1048576) (hl : IntsAt w v l) :
  Calls Tryz.prog 20 #[v, .agg #[int i64 r, int i64 s]] w fun q w' => q = .returned (.bool (Jf l r s)) ∧ Below w.heap.size w w' := by
 obtain ⟨W, hW⟩ : ∃ W, W = w.alloc (.cells #[int i64 r, int i64 s] 42) := ⟨_, rfl⟩
 have hD : DotAt W w.heap.size r s := by rw [hW]; exact GG w r s rfl
 have hbW : Below w.heap.size w W := by rw [hW]; exact (Below.refl _ _).alloc (Nat.le_refl _) _
 have HC : Hid (∀ n, Calls Tryz.prog 57 #[v] (W.drewN n) fun e w' => e = .returned (.bool (decide (KOk l))) ∧ w' = W.drewN n) := fun n => JG l v _ hnl (hl.below (Ji hbW n))
 have HC0 : Hid (Calls Tryz.prog 57 #[v] W.drew fun e w' => e = .returned (.bool (decide (KOk l))) ∧ w' = W.drew) := JG l v _ hnl (hl.below hbW.drew)
 have HW : Hid (w.alloc (.cells #[int i64 r, int i64 s] 42) = W) := hW.symm
 have HDC : Hid (∀ wx, Calls Tryz.prog 58 #[.agg #[int i64 r, int i64 s]] wx fun e w' => e = .returned (.bool (decide (DOk r s))) ∧ Below wx.heap.size wx w') := fun wx => JU r s wx
 have HL : Hid (IntsAt w v l) := hl
 have HKd : Hid (Kd w W.drew r s) := ⟨hD.drew, hbW.drew⟩
 have c0 := hD.c0
 have c1 := hD.c1
 clear hW hl hnl
 cases hq : decide (KOk l)
 ·have hk : Jf l r s = false := by unfold Jf; rw [hq]; rfl
  rw [hk]
  rw [hq] at HC
  clear hk
  go_enter Tryz.func20, Tryz.ntmps20
  go_wp2
  rw [HW.out]
  go_quiet ((go_at_call 57; exact Calls.quiet_of_same (HC.out _)))
  go_wp2
  go_ret
  exact ⟨rfl, Ji hbW _⟩
 ·rw [hq] at HC0
  have HK : Hid (KOk l) := of_decide_eq_true (p := KOk l) hq
  cases hd : decide (DOk r s)
  ·have hk : Jf l r s = false := by unfold Jf; rw [hq, hd]; rfl
   rw [hk]
   rw [hd] at HDC
   clear hk
   go_enter Tryz.func20, Tryz.ntmps20
   go_wp2
   rw [HW.out]
   first
    | go_region_with (first | (go_at_call 57; refine HC0.out.mono ?_; rintro e w3 ⟨rfl, rfl⟩) | (go_at_call 58; refine (HDC.out _).mono ?_; rintro e w3 ⟨rfl, hb3⟩; have hT1 := HKd.out.next hb3))
    | fail
   all_goals go_wp2
   all_goals go_ret
   all_goals exact ⟨rfl, hT1.2⟩
  ·have HD0 : Hid (DOk r s) := of_decide_eq_true (p := DOk r s) hd
   rw [hd] at HDC
   obtain ⟨a, b, c, hla, -⟩ := HK.out.split
   rw [hla] at HL
   obtain ⟨g, k, rfl, hg, hgc⟩ := UT HL.out
   have HG : Hid (∀ j, j < 3 → w.cell? ⟨g, j, none⟩ = some (int i64 (at3 a b c j))) := hgc
   obtain ⟨kq, hkq⟩ : ∃ kq, kq = Jf l r s := ⟨_, rfl⟩
   rw [← hkq]
   have HKQ : Hid (kq = Jf l r s) := hkq
   have HLA : Hid (l = [a, b, c]) := hla
   have hKW : Kd w W r s := ⟨hD, hbW⟩
   have cc := hKW.five hg hgc
   obtain ⟨-, -, c2, c3, c4⟩ := cc
   have cc := hKW.five hg hgc
   clear hkq hgc hla hKW
   have hr : r = 0 ∨ r = 1 ∨ r = 2 := by have := HD0.out.1; have := HD0.out.2.1; omega
   rcases hr with rfl | rfl | rfl
   ·have HKE : Hid (kq = decide (s ≤ a)) := by
     show _ = _
     rw [HKQ.out]
     unfold Jf
     rw [hq, hd, HLA.out]
     rfl
    go_enter Tryz.func20, Tryz.ntmps20
    go_wp2
    rw [HW.out]
    go_region_held3 (fun w' => w'.cell? ⟨w.heap.size, 0, none⟩ = some (int i64 0) ∧ w'.cell? ⟨w.heap.size, 1, none⟩ = some (int i64 s) ∧ w'.cell? ⟨g, 0, none⟩ = some (int i64 a) ∧ w'.cell? ⟨g, 1, none⟩ = some (int i64 b) ∧ w'.cell? ⟨g, 2, none⟩ = some (int i64 c)) (first | exact cc | exact kk | go_keep) (first | (go_at_call 57; refine HC0.out.mono ?_; rintro e w3 ⟨rfl, rfl⟩) | (go_at_call 58; refine (HDC.out _).mono ?_; rintro e w3 ⟨rfl, hb3⟩; have hT1 := HKd.out.next hb3; have kk := hT1.five hg HG.out))
    all_goals go_wp2
    all_goals go_ret
    all_goals exact ⟨by rw [HKE.out]; rfl, hT1.2⟩
   ·have HKE : Hid (kq = decide (s ≤ b)) := by
     show _ = _
     rw [HKQ.out]
     unfold Jf
     rw [hq, hd, HLA.out]
     rfl
    go_enter Tryz.func20, Tryz.ntmps20
    go_wp2
    rw [HW.out]
    go_region_held3 (fun w' => w'.cell? ⟨w.heap.size, 0, none⟩ = some (int i64 1) ∧ w'.cell? ⟨w.heap.size, 1, none⟩ = some (int i64 s) ∧ w'.cell? ⟨g, 0, none⟩ = some (int i64 a) ∧ w'.cell? ⟨g, 1, none⟩ = some (int i64 b) ∧ w'.cell? ⟨g, 2, none⟩ = some (int i64 c)) (first | exact cc | exact kk | go_keep) (first | (go_at_call 57; refine HC0.out.mono ?_; rintro e w3 ⟨rfl, rfl⟩) | (go_at_call 58; refine (HDC.out _).mono ?_; rintro e w3 ⟨rfl, hb3⟩; have hT1 := HKd.out.next hb3; have kk := hT1.five hg HG.out))
    all_goals go_wp2
    all_goals go_ret
    all_goals exact ⟨by rw [HKE.out]; rfl, hT1.2⟩
   ·have HKE : Hid (kq = decide (s ≤ c)) := by
     show _ = _
     rw [HKQ.out]
     unfold Jf
     rw [hq, hd, HLA.out]
     rfl
    go_enter Tryz.func20, Tryz.ntmps20
    go_wp2
    rw [HW.out]
    go_region_held3 (fun w' => w'.cell? ⟨w.heap.size, 0, none⟩ = some (int i64 2) ∧ w'.cell? ⟨w.heap.size, 1, none⟩ = some (int i64 s) ∧ w'.cell? ⟨g, 0, none⟩ = some (int i64 a) ∧ w'.cell? ⟨g, 1, none⟩ = some (int i64 b) ∧ w'.cell? ⟨g, 2, none⟩ = some (int i64 c)) (first | exact cc | exact kk | go_keep) (first | (go_at_call 57; refine HC0.out.mono ?_; rintro e w3 ⟨rfl, rfl⟩) | (go_at_call 58; refine (HDC.out _).mono ?_; rintro e w3 ⟨rfl, hb3⟩; have hT1 := HKd.out.next hb3; have kk := hT1.five hg HG.out))
    all_goals go_wp2
    all_goals go_ret
    all_goals exact ⟨by rw [HKE.out]; rfl, hT1.2⟩
end Go.Proofs.YtepfinenocpneaaGreat
