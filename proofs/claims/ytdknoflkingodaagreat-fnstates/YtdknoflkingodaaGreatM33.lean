/- The greatest time of a state's cells, and right edits, as the specification tells them. -/
import Derived.Test.YtdknoflkingodaaGreatM1
import Derived.Test.YtdknoflkingodaaGreatM2
import Derived.Test.YtdknoflkingodaaGreatM3
import Derived.Test.YtdknoflkingodaaGreatM4
import Derived.Test.YtdknoflkingodaaGreatM5
import Derived.Test.YtdknoflkingodaaGreatM6
import Derived.Test.YtdknoflkingodaaGreatM7
import Derived.Test.YtdknoflkingodaaGreatM8
import Derived.Test.YtdknoflkingodaaGreatM9
import Derived.Test.YtdknoflkingodaaGreatM10
import Derived.Test.YtdknoflkingodaaGreatM11
import Derived.Test.YtdknoflkingodaaGreatM12
import Derived.Test.YtdknoflkingodaaGreatM13
import Derived.Test.YtdknoflkingodaaGreatM14
import Derived.Test.YtdknoflkingodaaGreatM15
import Derived.Test.YtdknoflkingodaaGreatM16
import Derived.Test.YtdknoflkingodaaGreatM17
import Derived.Test.YtdknoflkingodaaGreatM18
import Derived.Test.YtdknoflkingodaaGreatM19
namespace Go.Proofs.YtdknoflkingodaaGreat
set_option maxRecDepth 100000
set_option linter.unusedVariables false
open Go.RowKit
theorem Row.e0 {w : World} {g : Nat} {T : TypeId} {c0 c1 c2 c3 c4 : Value} (h : Row w g #[c0, c1, c2, c3, c4] T) (x : Value) : Row (w.setCell ⟨g, 0, none⟩ x) g #[x, c1, c2, c3, c4] T := h.set 0 x
theorem Row.e1 {w : World} {g : Nat} {T : TypeId} {c0 c1 c2 c3 c4 : Value} (h : Row w g #[c0, c1, c2, c3, c4] T) (x : Value) : Row (w.setCell ⟨g, 1, none⟩ x) g #[c0, x, c2, c3, c4] T := h.set 1 x
theorem Row.e2 {w : World} {g : Nat} {T : TypeId} {c0 c1 c2 c3 c4 : Value} (h : Row w g #[c0, c1, c2, c3, c4] T) (x : Value) : Row (w.setCell ⟨g, 2, none⟩ x) g #[c0, c1, x, c3, c4] T := h.set 2 x
theorem Row.e3 {w : World} {g : Nat} {T : TypeId} {c0 c1 c2 c3 c4 : Value} (h : Row w g #[c0, c1, c2, c3, c4] T) (x : Value) : Row (w.setCell ⟨g, 3, none⟩ x) g #[c0, c1, c2, x, c4] T := h.set 3 x
theorem Row.e4 {w : World} {g : Nat} {T : TypeId} {c0 c1 c2 c3 c4 : Value} (h : Row w g #[c0, c1, c2, c3, c4] T) (x : Value) : Row (w.setCell ⟨g, 4, none⟩ x) g #[c0, c1, c2, c3, x] T := h.set 4 x
theorem Row.fiveC {w : World} {g : Nat} {T : TypeId} {c0 c1 c2 c3 c4 : Value} (h : Row w g #[c0, c1, c2, c3, c4] T) :
  w.cell? ⟨g, 0, none⟩ = some c0 ∧ w.cell? ⟨g, 1, none⟩ = some c1 ∧ w.cell? ⟨g, 2, none⟩ = some c2 ∧ w.cell? ⟨g, 3, none⟩ = some c3 ∧ w.cell? ⟨g, 4, none⟩ = some c4 := ⟨h.cell 0 rfl, h.cell 1 rfl, h.cell 2 rfl, h.cell 3 rfl, h.cell 4 rfl⟩
theorem ret_edit {fn : Func} {q : Tmp} (h : fn.results = #[.cell q 113]) {tmps : Array Value} {w : World} {g : Nat} {cs : Array Value} (hc : cs.size = 5) (hp : tmps.getD q undef = .pointer (some ⟨g, 0, none⟩)) (hg : Row w g cs 113) :
  (results fn tmps).run Tryz.prog w = .ok (.agg cs) w := results_cell_row h tmps w g 113 _ (0, 0) _ hp hg Tryz.underlying113 rfl (by rw [hc]; kernel_rfl)
def timeOf (C : List Ce) : Int := C.foldl (fun n c => if n < c.t then c.t else n) 0
theorem timeOf_snoc (C : List Ce) (c : Ce) : timeOf (C ++ [c]) = if timeOf C < c.t then c.t else timeOf C := by unfold timeOf; rw [List.foldl_append]; rfl
/-- A right edit. -/
def EOk (k : Int) (o y : ByteArray) (v p : Int) : Prop := PlainOk k o y v ∧ 0 ≤ p ∧ (k = 6 ∨ k = 7 ∨ p = 0)
set_option maxHeartbeats 4000000 in
theorem specTimeOf_calls (S : Sta) (u0 u1 u2 u3 : Value) (w : World) (hn : S.C.length ≤ 1048576) (h : StAt w S u0 u1 u2 u3) :
  Calls Tryz.prog 90 #[.agg #[u0, u1, u2, u3]] w fun e w' => e = .returned (.int .i64 (timeOf S.C)) ∧ Below w.heap.size w w' := by
 obtain ⟨a0, c0, a1, c1, a2, c2, a3, c3, rfl, rfl, rfl, rfl⟩ := h.shape
 obtain ⟨W, hW⟩ : ∃ W, W = w.alloc (.cells #[.slice a0 S.l.length c0, .slice a1 S.T.length c1, .slice a2 S.L.length c2, .slice a3 S.C.length c3] 29) := ⟨_, rfl⟩
 have hR : Row W w.heap.size #[.slice a0 S.l.length c0, .slice a1 S.T.length c1, .slice a2 S.L.length c2, .slice a3 S.C.length c3] 29 := by rw [hW]; exact row_new w _ _ rfl
 have HB : Hid (Below w.heap.size w W) := by rw [hW]; exact (Below.refl _ _).alloc (Nat.le_refl _) _
 have hS : StAt W S (.slice a0 S.l.length c0) (.slice a1 S.T.length c1) (.slice a2 S.L.length c2) (.slice a3 S.C.length c3) := by rw [hW]; exact h.alloc _
 have HW : Hid (w.alloc (.cells #[.slice a0 S.l.length c0, .slice a1 S.T.length c1, .slice a2 S.L.length c2, .slice a3 S.C.length c3] 29) = W) := hW.symm
 obtain ⟨l, hl⟩ : ∃ l, l = S.C := ⟨_, rfl⟩
 have HGA : Hid (CeG W a3 l) := by
  obtain ⟨x, y, hq, hg⟩ := hS.2.2.2
  simp only [Value.slice.injEq] at hq
  rw [hl, hq.1]; exact hg
 obtain ⟨n, hnl⟩ : ∃ n, n = l.length := ⟨_, rfl⟩
 have HL : Hid (n = l.length) := hnl
 rw [← hl] at hn ⊢ hR HW
 rw [← hnl] at hn ⊢ hR HW
 have HALL : Hid (timeOf (l.take n) = timeOf l) := by show _ = _; rw [hnl, List.take_length]
 have d3 := hR.cell 3 rfl
 have HD := hidI d3
 clear hW h hS hl hnl hR d3
 go_enter Tryz.func90, Tryz.ntmps90
 go_wp2
 rw [HW.out]
 clear HW
 go_loopw [3, 4] (fun x z wr => ∃ k : Nat, k ≤ n ∧ z = .int .i64 k ∧ x = .int .i64 (timeOf (l.take k)) ∧ wr = W) (fun _ z _ => n - (intOf z).toNat)
 case atStart => exact ⟨0, Nat.zero_le _, rfl, rfl, rfl⟩
 case round =>
  obtain ⟨k, hk, rfl, rfl, hw⟩ := hrel
  replace hw := hw.symm
  subst hw
  have d3 := HD.out
  by_cases hlt : k < n
  ·have hkl : k < l.length := by rw [← HL.out]; exact hlt
   obtain ⟨g, f, rfl, hg, hcc⟩ := HGA.out (by omega)
   have hk1 : (k : Int) < n := by omega
   have hk0 : (0 : Int) ≤ k := by omega
   have q3 := (hcc k hkl).2.2.2.1
   have HTK : Hid (timeOf (l.take (k + 1)) = if timeOf (l.take k) < l[k].t then l[k].t else timeOf (l.take k)) := by show _ = _; rw [take_snoc l k hkl, timeOf_snoc]
   generalize l[k].t = x at *
   generalize timeOf (l.take k) = m at *
   clear hcc hkl
   by_cases hx : m < x
   ·have HE : Hid (timeOf (l.take (k + 1)) = x) := by show _ = _; rw [HTK.out, if_pos hx]
    go_wp2
    go_roundw
    case rel => exact ⟨k + 1, by omega, by go_num, by rw [HE.out], by trivial⟩
    case measure => simp [intOf]; omega
   ·have HE : Hid (timeOf (l.take (k + 1)) = m) := by show _ = _; rw [HTK.out, if_neg hx]
    go_wp2
    go_roundw
    case rel => exact ⟨k + 1, by omega, by go_num, by rw [HE.out], by trivial⟩
    case measure => simp [intOf]; omega
  ·have hk1 : ¬ ((k : Int) < n) := by omega
   have HE : Hid (timeOf (l.take k) = timeOf l) := by have e : k = n := (by omega); show _ = _; rw [e]; exact HALL.out
   generalize timeOf (l.take k) = m at *
   go_wp2
   go_ret
   exact ⟨by rw [← HE.out]; rfl, HB.out⟩
set_option maxHeartbeats 4000000 in
theorem specEditOk_calls (k : Int) (o y : ByteArray) (v p : Int) (w : World) (ho : o.size ≤ 1048576) (hy : y.size ≤ 1048576) :
  Calls Tryz.prog 143 #[.agg #[.int .i64 k, .string o, .string y, .int .i64 v, .int .i64 p]] w fun e w' => Tells e (EOk k o y v p) ∧ Below w.heap.size w w' := by
 obtain ⟨W, hW⟩ : ∃ W, W = w.alloc (.cells #[.int .i64 k, .string o, .string y, .int .i64 v, .int .i64 p] 113) := ⟨_, rfl⟩
 have hR : Row W w.heap.size #[.int .i64 k, .string o, .string y, .int .i64 v, .int .i64 p] 113 := by rw [hW]; exact row_new w _ _ rfl
 have HB : Hid (Below w.heap.size w W) := by rw [hW]; exact (Below.refl _ _).alloc (Nat.le_refl _) _
 have HW : Hid (w.alloc (.cells #[.int .i64 k, .string o, .string y, .int .i64 v, .int .i64 p] 113) = W) := hW.symm
 have HPC : Hid (∀ wx, Calls Tryz.prog 192 #[.int .i64 k, .string o, .string y, .int .i64 v] wx fun e w' => e = .returned (.bool (decide (PlainOk k o y v))) ∧ w' = wx) := fun wx => specPlain_calls k o y v (by unfold maxLen; omega) (by unfold maxLen; omega) wx
 have d0 := hR.cell 0 rfl
 have d1 := hR.cell 1 rfl
 have d2 := hR.cell 2 rfl
 have d3 := hR.cell 3 rfl
 have d4 := hR.cell 4 rfl
 rw [hW] at d0 d1 d2 d3 d4
 have HNO : Hid (¬ EOk k o y v p → ∀ q, q = false → Tells (.returned (.bool q)) (EOk k o y v p)) := fun h q e => by subst e; exact Tells.no h
 have HYE : Hid (EOk k o y v p → ∀ q, q = true → Tells (.returned (.bool q)) (EOk k o y v p)) := fun h q e => by subst e; exact Tells.yes h
 clear hW hR ho hy
 by_cases hp : PlainOk k o y v
 case neg =>
  rw [decide_eq_false hp] at HPC
  have HE : Hid (¬ EOk k o y v p) := fun h => hp h.1
  clear hp
  by_cases h6 : k = 6
  ·have b6 : (k == 6) = true := by simp [h6]
   clear h6
   go_enter Tryz.func143, Tryz.ntmps143
   go_wp2_with (go_at_call 192; refine (HPC.out _).mono ?_; rintro e w1 ⟨rfl, rfl⟩)
   rw [HW.out]
   go_ret
   exact ⟨Tells.no HE.out, HB.out⟩
  ·have b6 : (k == 6) = false := by simp [h6]
   clear h6
   go_enter Tryz.func143, Tryz.ntmps143
   go_wp2_with (go_at_call 192; refine (HPC.out _).mono ?_; rintro e w1 ⟨rfl, rfl⟩)
   rw [HW.out]
   go_ret
   exact ⟨Tells.no HE.out, HB.out⟩
 rw [decide_eq_true hp] at HPC
 have HPP := hidI hp
 clear hp
 by_cases h0 : 0 ≤ p
 case neg =>
  have HE : Hid (¬ EOk k o y v p) := fun h => h0 h.2.1
  have h0' : p < 0 := by omega
  by_cases h6 : k = 6
  ·have b6 : (k == 6) = true := by simp [h6]
   clear h6
   go_enter Tryz.func143, Tryz.ntmps143
   go_wp2_with (go_at_call 192; refine (HPC.out _).mono ?_; rintro e w1 ⟨rfl, rfl⟩)
   rw [HW.out]
   go_ret
   exact ⟨Tells.no HE.out, HB.out⟩
  ·have b6 : (k == 6) = false := by simp [h6]
   clear h6
   go_enter Tryz.func143, Tryz.ntmps143
   go_wp2_with (go_at_call 192; refine (HPC.out _).mono ?_; rintro e w1 ⟨rfl, rfl⟩)
   rw [HW.out]
   go_ret
   exact ⟨Tells.no HE.out, HB.out⟩
 by_cases h6 : k = 6
 ·have b6 : (k == 6) = true := by simp [h6]
  have HE : Hid (EOk k o y v p) := ⟨HPP.out, h0, .inl h6⟩
  clear h6
  go_enter Tryz.func143, Tryz.ntmps143
  go_wp2_with (go_at_call 192; refine (HPC.out _).mono ?_; rintro e w1 ⟨rfl, rfl⟩)
  rw [HW.out]
  go_ret
  exact ⟨Tells.yes HE.out, HB.out⟩
 have b6 : (k == 6) = false := by simp [h6]
 by_cases h7 : k = 7
 ·have b7 : (k == 7) = true := by simp [h7]
  have HE : Hid (EOk k o y v p) := ⟨HPP.out, h0, .inr (.inl h7)⟩
  clear h6 h7
  go_enter Tryz.func143, Tryz.ntmps143
  go_wp2_with (go_at_call 192; refine (HPC.out _).mono ?_; rintro e w1 ⟨rfl, rfl⟩)
  rw [HW.out]
  go_ret
  exact ⟨Tells.yes HE.out, HB.out⟩
 have b7 : (k == 7) = false := by simp [h7]
 by_cases hz : p = 0
 ·have bz : (p == 0) = true := by simp [hz]
  have HE : Hid (EOk k o y v p) := ⟨HPP.out, h0, .inr (.inr hz)⟩
  clear h6 h7 hz
  go_enter Tryz.func143, Tryz.ntmps143
  go_wp2_with (go_at_call 192; refine (HPC.out _).mono ?_; rintro e w1 ⟨rfl, rfl⟩)
  rw [HW.out]
  go_ret
  exact ⟨Tells.yes HE.out, HB.out⟩
 ·have bz : (p == 0) = false := by simp [hz]
  have HE : Hid (¬ EOk k o y v p) := fun h => h.2.2.elim h6 (fun h => h.elim h7 hz)
  clear h6 h7 hz
  go_enter Tryz.func143, Tryz.ntmps143
  go_wp2_with (go_at_call 192; refine (HPC.out _).mono ?_; rintro e w1 ⟨rfl, rfl⟩)
  rw [HW.out]
  go_ret
  exact ⟨Tells.no HE.out, HB.out⟩
end Go.Proofs.YtdknoflkingodaaGreat
