/- A dot, and what was known, read one number behind another: both readers. -/
import Derived.Test.YtahdgagipmpcgaaARead2
import Derived.Test.YtahdgagipmpcgaaKSpec
namespace Go.Proofs.Ytahdgagipmpcgaa
set_option maxRecDepth 100000
set_option linter.unusedVariables false
open Go.RowKit

/-- Where one stands behind a number, a name, three numbers; the number, the three. -/
def at1 (s : ByteArray) (p : Option Int) : Option Int := (numM s.data.toList p).2
def atS (s : ByteArray) (p : Option Int) : Option Int := (nameM s p).2
def n0 (s : ByteArray) (p : Option Int) : Int := (numM s.data.toList p).1
def ps (s : ByteArray) (p : Option Int) : Nat → Option Int
  | 0 => p
  | j + 1 => at1 s (ps s p j)
def kn (s : ByteArray) (p : Option Int) (j : Nat) : Int := n0 s (ps s p j)
def knL (s : ByteArray) (p : Option Int) (j : Nat) : List Int := (List.range 3).map fun i => if i < j then kn s p i else 0
def kn3 (s : ByteArray) (p : Option Int) : List Int := [n0 s p, n0 s (at1 s p), n0 s (at1 s (at1 s p))]
theorem knL_zero (s : ByteArray) (p : Option Int) : knL s p 0 = [0, 0, 0] := rfl
theorem knL_three (s : ByteArray) (p : Option Int) : knL s p 3 = kn3 s p := rfl
theorem knL_set (s : ByteArray) (p : Option Int) (j : Nat) (h : j < 3) : (intV (knL s p j)).set j (.int .i64 (kn s p j)) = intV (knL s p (j + 1)) := by
  match j, h with
  | 0, _ => rfl
  | 1, _ => rfl
  | 2, _ => rfl
theorem knL_at (s : ByteArray) (p : Option Int) (j : Nat) (h : j < 3) : (intV (knL s p j))[j]? = some (.int .i64 0) := by
  match j, h with
  | 0, _ => rfl
  | 1, _ => rfl
  | 2, _ => rfl

theorem grown_alloc (w : World) (o : Obj) (r : Option Nat) : w.grownBy (w.alloc o) r := grownBy_below ((Below.refl _ _).alloc (Nat.le_refl _) _) r
theorem grown_put {w w' : World} {r : Option Nat} {g i : Nat} (h : w.grownBy w' r) (hg : w.heap.size ≤ g) (x : Value) : w.grownBy (w'.setCell ⟨g, i, none⟩ x) r :=
  ⟨h.os, h.tape, h.output, by simpa [World.setCell] using h.size, fun k hk hne => (Below.heap_setCell w' _ x k (by simp; omega)).trans (h.block k hk hne)⟩
theorem own_grown {w w' : World} {B n b : Nat} {e : TypeId} {s : Nat} {u : Value} {xs : List Value} (h : w.ownsRow B e s u n xs) (hg : w.grownBy w' (some b)) (hb : b < B) : w'.ownsRow B e s u n xs := by
  refine h.kept hg ?_
  cases hv : u.ownBlock with
  | none => exact .inl rfl
  | some k => exact .inr (by have := (h.lt k hv).1; simp; omega)
theorem RdI.lt {w : World} {b : Nat} {s : ByteArray} {p : Option Int} (h : RdI w b s p) : b < w.heap.size := by
  cases p with
  | none => obtain ⟨a, h⟩ := h; exact Row.lt h
  | some a => exact Row.lt h
theorem RdS.lt {w : World} {b : Nat} {s : ByteArray} {p : Option Int} (h : RdS w b s p) : b < w.heap.size := by
  cases p with
  | none => obtain ⟨a, h⟩ := h; exact Row.lt h
  | some a => exact Row.lt h

set_option maxHeartbeats 2000000 in
theorem readDot_calls (s : ByteArray) (hs : s.size ≤ 1048576) (b : Nat) (p : Option Int) (w : World) (h : RdI w b s p) :
    Calls Try.prog 115 #[.pointer (some ⟨b, 0, none⟩)] w fun e w' => e = .returned (dot (n0 s p) (n0 s (at1 s p))) ∧ RdI w' b s (at1 s (at1 s p)) ∧ w.grownBy w' (some b) := by
  have hlt := h.lt
  obtain ⟨W, hW⟩ : ∃ W, W = w.alloc (.cells #[.int .i64 0, .int .i64 0] 47) := ⟨_, rfl⟩
  have HD : Hid (DotAt W w.heap.size 0 0) := by rw [hW]; exact dotAt_new w 0 0 rfl
  have HR : Hid (RdI W b s p) := by rw [hW]; exact h.grown (grown_alloc w _ none) (by simp)
  have HG : Hid (w.grownBy W (some b)) := by rw [hW]; exact grown_alloc w _ _
  have HW : Hid (w.alloc (.cells #[.int .i64 0, .int .i64 0] 47) = W) := hW.symm
  clear h hW
  go_enter Try.func115, Try.ntmps115
  go_wp2_with fail
  rw [HW.out]
  refine (number_calls s hs b p W HR.out).mono ?_
  rintro e w1 ⟨rfl, hr1, hg1⟩
  replace HD : Hid (DotAt w1 w.heap.size 0 0) := HD.out.grown hg1 (by simp; omega)
  replace HG : Hid (w.grownBy w1 (some b)) := grownBy_trans HG.out hg1
  replace HR : Hid (RdI w1 b s (at1 s p)) := hr1
  clear hr1 hg1 HW
  go_wp2_with fail
  refine (number_calls s hs b (at1 s p) w1 HR.out).mono ?_
  rintro e w2 ⟨rfl, hr2, hg2⟩
  replace HD : Hid (DotAt w2 w.heap.size 0 0) := HD.out.grown hg2 (by simp; omega)
  replace HG : Hid (w.grownBy w2 (some b)) := grownBy_trans HG.out hg2
  replace HR : Hid (RdI w2 b s (at1 s (at1 s p))) := hr2
  clear hr2 hg2
  have c0 := HD.out.c0
  have c1 := HD.out.c1
  have f0 := HD.out.free 0
  have f1 := HD.out.free 1
  go_wp2
  exact bodyPost_ret (ret_dot rfl rfl ((HD.out.set0 _).set1 _)) rfl ⟨rfl, (HR.out.grown (grown_set _ _ _ _) (by simp; omega)).grown (grown_set _ _ _ _) (by simp; omega), grown_put (grown_put HG.out (Nat.le_refl _) _) (Nat.le_refl _) _⟩

set_option maxHeartbeats 2000000 in
theorem specReadDot_calls (s : ByteArray) (hs : s.size ≤ 1048576) (b : Nat) (p : Option Int) (w : World) (h : RdS w b s p) :
    Calls Try.prog 171 #[.pointer (some ⟨b, 0, none⟩)] w fun e w' => e = .returned (dot (n0 s p) (n0 s (at1 s p))) ∧ RdS w' b s (at1 s (at1 s p)) ∧ w.grownBy w' (some b) := by
  have hlt := h.lt
  obtain ⟨W, hW⟩ : ∃ W, W = w.alloc (.cells #[.int .i64 0, .int .i64 0] 47) := ⟨_, rfl⟩
  have HD : Hid (DotAt W w.heap.size 0 0) := by rw [hW]; exact dotAt_new w 0 0 rfl
  have HR : Hid (RdS W b s p) := by rw [hW]; exact h.grown (grown_alloc w _ none) (by simp)
  have HG : Hid (w.grownBy W (some b)) := by rw [hW]; exact grown_alloc w _ _
  have HW : Hid (w.alloc (.cells #[.int .i64 0, .int .i64 0] 47) = W) := hW.symm
  clear h hW
  go_enter Try.func171, Try.ntmps171
  go_wp2_with fail
  rw [HW.out]
  refine (specNum_calls s hs b p W HR.out).mono ?_
  rintro e w1 ⟨rfl, hr1, hg1⟩
  replace HD : Hid (DotAt w1 w.heap.size 0 0) := HD.out.grown hg1 (by simp; omega)
  replace HG : Hid (w.grownBy w1 (some b)) := grownBy_trans HG.out hg1
  replace HR : Hid (RdS w1 b s (at1 s p)) := hr1
  clear hr1 hg1 HW
  go_wp2_with fail
  refine (specNum_calls s hs b (at1 s p) w1 HR.out).mono ?_
  rintro e w2 ⟨rfl, hr2, hg2⟩
  replace HD : Hid (DotAt w2 w.heap.size 0 0) := HD.out.grown hg2 (by simp; omega)
  replace HG : Hid (w.grownBy w2 (some b)) := grownBy_trans HG.out hg2
  replace HR : Hid (RdS w2 b s (at1 s (at1 s p))) := hr2
  clear hr2 hg2
  have c0 := HD.out.c0
  have c1 := HD.out.c1
  have f0 := HD.out.free 0
  have f1 := HD.out.free 1
  go_wp2
  exact bodyPost_ret (ret_dot rfl rfl ((HD.out.set0 _).set1 _)) rfl ⟨rfl, (HR.out.grown (grown_set _ _ _ _) (by simp; omega)).grown (grown_set _ _ _ _) (by simp; omega), grown_put (grown_put HG.out (Nat.le_refl _) _) (Nat.le_refl _) _⟩

set_option maxHeartbeats 2000000 in
theorem knew_calls (s : ByteArray) (hs : s.size ≤ 1048576) (b : Nat) (p : Option Int) (w : World) (h : RdI w b s p) :
    Calls Try.prog 117 #[.pointer (some ⟨b, 0, none⟩)] w fun e w' => ∃ u, e = .returned u ∧ w'.ownsRow w.heap.size 3 1 u 3 (intV (kn3 s p)) ∧ RdI w' b s (at1 s (at1 s (at1 s p))) ∧ w.grownBy w' (some b) := by
  have hlt := h.lt
  have HR0 : Hid (RdI w b s p) := h
  clear h
  go_enter Try.func117, Try.ntmps117
  go_wp2_with fail
  refine (knowNew_calls w).mono ?_
  rintro e w1 ⟨u, rfl, hown, hb1⟩
  obtain ⟨aa, ca, hu, ga⟩ := IntsAt.own (l := [0, 0, 0]) hown rfl
  replace hu : u = .slice aa 3 ca := hu
  subst hu
  obtain ⟨g, rfl, hg1, -⟩ := ga (by decide)
  have HO : Hid (w1.ownsRow w.heap.size 3 1 (.slice (some ⟨g, 0, none⟩) 3 ca) 3 (intV (knL s p 0))) := hown
  have HR : Hid (RdI w1 b s (ps s p 0)) := HR0.out.grown (grownBy_below hb1 none) (by simp)
  have HG : Hid (w.grownBy w1 (some b)) := grownBy_below hb1 _
  have hgB : w.heap.size ≤ g := (hown.lt g rfl).1
  clear hown hb1 HR0 hg1
  go_wp2
  try rw [show ((3 : Nat) : Int) = 3 from rfl]
  go_loopw [8] (fun z wr => ∃ j : Nat, j ≤ 3 ∧ z = .int .i64 j ∧ wr.ownsRow w.heap.size 3 1 (.slice (some ⟨g, 0, none⟩) 3 ca) 3 (intV (knL s p j)) ∧ RdI wr b s (ps s p j) ∧ w.grownBy wr (some b)) (fun z _ => 3 - (intOf z).toNat)
  case atStart => exact ⟨0, Nat.zero_le _, rfl, HO.out, HR.out, HG.out⟩
  case round =>
    clear HO HR HG
    obtain ⟨j, hj, rfl, hown, hr, hgr⟩ := hrel
    have HO : Hid (wr.ownsRow w.heap.size 3 1 (.slice (some ⟨g, 0, none⟩) 3 ca) 3 (intV (knL s p j))) := hown
    have HR : Hid (RdI wr b s (ps s p j)) := hr
    have HG : Hid (w.grownBy wr (some b)) := hgr
    clear hown hr hgr
    by_cases hlt3 : j < 3
    · have hj1 : (j : Int) < 3 := by omega
      have hj0 : (0 : Int) ≤ j := by omega
      go_wp2_with fail
      refine (number_calls s hs b _ wr HR.out).mono ?_
      rintro e w2 ⟨rfl, hr2, hg2⟩
      have hown2 := own_grown HO.out hg2 hlt
      have hc : w2.cell? ⟨g, j, none⟩ = some (.int .i64 0) := by rw [hown2.cellAt j (by omega)]; exact knL_at s p j hlt3
      have hf := hown2.frozenAt j
      have hst := hown2.stored j (Value.int .i64 (kn s p j))
      rw [knL_set s p j hlt3] at hst
      have HST : Hid ((w2.setCell ⟨g, j, none⟩ (Value.int .i64 (kn s p j))).ownsRow w.heap.size 3 1 (.slice (some ⟨g, 0, none⟩) 3 ca) 3 (intV (knL s p (j + 1)))) := hst.1
      have HR2 : Hid (RdI (w2.setCell ⟨g, j, none⟩ (Value.int .i64 (kn s p j))) b s (ps s p (j + 1))) := RdI.grown (p := ps s p (j + 1)) hr2 (grown_set _ _ _ _) (by simp; omega)
      have HG2 : Hid (w.grownBy (w2.setCell ⟨g, j, none⟩ (Value.int .i64 (kn s p j))) (some b)) := grown_put (grownBy_trans HG.out hg2) hgB _
      clear hst hown2 hr2 hg2 HO HR HG
      unfold kn n0 at HST HR2 HG2
      generalize (numM s.data.toList (ps s p j)).1 = x at *
      go_wp2
      go_roundw
      case rel => exact ⟨j + 1, by omega, by go_num, HST.out, HR2.out, HG2.out⟩
      case measure => simp [intOf]; omega
    · have hj1 : ¬ ((j : Int) < 3) := by omega
      obtain rfl : j = 3 := by omega
      go_wp2
      go_ret
      exact ⟨_, rfl, HO.out, HR.out, HG.out⟩

set_option maxHeartbeats 2000000 in
theorem specKnow_calls (s : ByteArray) (hs : s.size ≤ 1048576) (b : Nat) (p : Option Int) (w : World) (h : RdS w b s p) :
    Calls Try.prog 173 #[.pointer (some ⟨b, 0, none⟩)] w fun e w' => ∃ u, e = .returned u ∧ w'.ownsRow w.heap.size 3 1 u 3 (intV (kn3 s p)) ∧ RdS w' b s (at1 s (at1 s (at1 s p))) ∧ w.grownBy w' (some b) := by
  have hlt := h.lt
  obtain ⟨i0, hi, hz0, hz1, hz2⟩ := info_parts infoInt
  have HO : Hid ((w.alloc (.cells #[] 3)).ownsRow w.heap.size 3 1 (.slice (some ⟨w.heap.size, 0, none⟩) 0 0) 0 (intV ((List.range 0).map (kn s p)))) := own_none w 3 1 rfl (Nat.le_refl _)
  have HR : Hid (RdS (w.alloc (.cells #[] 3)) b s (ps s p 0)) := RdS.grown (p := ps s p 0) h (grown_alloc w _ none) (by simp)
  have HG : Hid (w.grownBy (w.alloc (.cells #[] 3)) (some b)) := grown_alloc w _ _
  clear h
  go_enter Try.func173, Try.ntmps173
  go_wp2
  go_loopw [3, 4] (fun x z wr => ∃ j : Nat, j ≤ 3 ∧ z = .int .i64 j ∧ wr.ownsRow w.heap.size 3 1 x j (intV ((List.range j).map (kn s p))) ∧ RdS wr b s (ps s p j) ∧ w.grownBy wr (some b)) (fun _ z _ => 3 - (intOf z).toNat)
  case atStart => exact ⟨0, Nat.zero_le _, rfl, HO.out, HR.out, HG.out⟩
  case round =>
    clear HO HR HG
    obtain ⟨j, hj, rfl, hown, hr, hgr⟩ := hrel
    have HR : Hid (RdS wr b s (ps s p j)) := hr
    have HG : Hid (w.grownBy wr (some b)) := hgr
    by_cases hlt3 : j < 3
    · have hj1 : (j : Int) < 3 := by omega
      have hj0 : (0 : Int) ≤ j := by omega
      have HO : Hid (wr.ownsRow w.heap.size 3 1 u3 j (intV ((List.range j).map (kn s p)))) := hown
      clear hown hr hgr
      go_wp2_with fail
      refine (specNum_calls s hs b _ wr HR.out).mono ?_
      rintro e w2 ⟨rfl, hr2, hg2⟩
      have hown2 := own_grown HO.out hg2 hlt
      have HS : Hid (intV ((List.range (j + 1)).map (kn s p)) = intV ((List.range j).map (kn s p)) ++ [Value.int .i64 (numM s.data.toList (ps s p j)).1]) := by
        show _ = _
        simp [intV, List.range_succ, kn, n0]
      have HR2 : Hid (RdS w2 b s (ps s p (j + 1))) := hr2
      have HG2 : Hid (w.grownBy w2 (some b)) := grownBy_trans HG.out hg2
      have hsz := HG2.out.size
      clear HO HR HG hr2 hg2
      generalize (numM s.data.toList (ps s p j)).1 = y at *
      go_wp2_with (at_builtin; refine wpList_append_own _ rfl _ _ 22 rfl w.heap.size 3 i0 (.int .i64 0) 1 8 Try.underlying22 hi hz0 hz1 hz2 rfl (by decide) _ _ _ rfl (hown2.alloc _) ⟨w2.heap.size, 0, none⟩ 1 1 [Value.int .i64 y] rfl rfl (one_new _ _ _) (by intro u' hu'; simp at hu'; subst hu'; rfl) (by unfold maxLen; omega) (by omega) (by simp; omega) ?_)
      intro v2 w4 hown4 hgrow hne2
      have HO4 : Hid (w4.ownsRow w.heap.size 3 1 v2 (j + 1) (intV ((List.range (j + 1)).map (kn s p)))) := by
        show World.ownsRow _ _ _ _ _ _ _
        rw [HS.out]; exact hown4
      have hox : ∀ k, u3.ownBlock = some k → w.heap.size ≤ k := fun k hk => (hown2.lt k hk).1
      have HR4 : Hid (RdS w4 b s (ps s p (j + 1))) := (HR2.out.grown (grown_alloc w2 _ none) (by simp)).grown hgrow (fun e => by have := hox b e; omega)
      have HG4 : Hid (w.grownBy w4 (some b)) := by
        have h1 := grownBy_trans HG2.out (grown_alloc w2 (.cells #[.int .i64 y] 3) (some b))
        exact ⟨hgrow.os.trans h1.os, hgrow.tape.trans h1.tape, hgrow.output.trans h1.output, Nat.le_trans h1.size hgrow.size, fun k hk hne => (hgrow.block k (Nat.lt_of_lt_of_le hk h1.size) (fun e => by have := hox k e.symm; omega)).trans (h1.block k hk hne)⟩
      clear hown2 hown4 hgrow hne2 HS HR2 HG2
      go_wp2
      go_roundw
      case rel => exact ⟨j + 1, by omega, by go_num, HO4.out, HR4.out, HG4.out⟩
      case measure => simp [intOf]; omega
    · have hj1 : ¬ ((j : Int) < 3) := by omega
      obtain rfl : j = 3 := by omega
      have HO : Hid (wr.ownsRow w.heap.size 3 1 u3 3 (intV (kn3 s p))) := hown
      clear hown hr hgr
      go_wp2
      go_ret
      exact ⟨_, rfl, HO.out, HR.out, HG.out⟩
end Go.Proofs.Ytahdgagipmpcgaa
