/- Lists of numbers that one may read; a right knowledge, and a. -/
import Derived.BigCall
import Derived.BigQuiet
import Derived.Deep.LoopGhost
import Derived.Deep.QuietTactic
import Derived.Deep.RegionHeld3
import Derived.Laws.ResultCell
import Derived.Laws.Rows
import Derived.WalkMore
import Derived.Test.YtepfinenocpneaaGreatQ3
import Derived.Test.YtepfinenocpneaaGreatQ5
set_option maxHeartbeats 16000000
namespace Go.Proofs.YtepfinenocpneaaGreat
open Value (int)
open IntKind (i64)
set_option maxRecDepth 100000
set_option linter.unusedVariables false
open Go.RowKit
def Je (l : List Int) : List Value := l.map (Value.int .i64)
theorem JdX (l : List Int) : (Je l).length = l.length := by simp [Je]
theorem Jbh (l : List Int) (j : Nat) (h : j < l.length) : (Je l)[j]? = some (Value.int .i64 (l[j])) := by simp [Je, h]
def IntsAt (w : World) (v : Value) (l : List Int) : Prop :=
 ∃ (aa : Option Addr) (ca : Nat), v = .slice aa l.length ca ∧ (0 < l.length → ∃ g, aa = some ⟨g, 0, none⟩ ∧ g < w.heap.size ∧ ∀ j (h : j < l.length), w.cell? ⟨g, j, none⟩ = some (int i64 (l[j])))
theorem IntsAt.below {w w' : World} {v : Value} {l : List Int} (h : IntsAt w v l) (hb : Below w.heap.size w w') : IntsAt w' v l := by
 obtain ⟨aa, ca, rfl, hg⟩ := h
 refine ⟨aa, ca, rfl, fun h0 => ?_⟩
 obtain ⟨g, rfl, h1, h2⟩ := hg h0
 exact ⟨g, rfl, Nat.lt_of_lt_of_le h1 hb.size, fun j hj => (hb.cell (p := ⟨g, j, none⟩) h1).trans (h2 j hj)⟩
theorem IntsAt.alloc {w : World} {v : Value} {l : List Int} (h : IntsAt w v l) (o : Obj) : IntsAt (w.alloc o) v l := h.below ((Below.refl _ _).alloc (Nat.le_refl _) o)
theorem IntsAt.own {w : World} {B n : Nat} {v : Value} {l : List Int} (h : w.ownsRow B 3 1 v n (Je l)) (hl : l.length = n) : IntsAt w v l := by
 subst hl
 rcases h.2 with ⟨rfl, h0⟩ | ⟨g, cap, cur, rfl, hb, hg, -, -, -, -⟩
 ·exact ⟨none, 0, by rw [h0], fun h => by omega⟩
 ·refine ⟨_, _, rfl, fun _ => ⟨g, rfl, (Array.getElem?_eq_some_iff.1 hg).1, fun j hj => ?_⟩⟩
  have := h.cells (g := g) rfl j _ (Jbh l j hj)
  rwa [Jw] at this
def KOk (l : List Int) : Prop := l.length = 3 ∧ ∀ x ∈ l, 0 ≤ x ∧ x ≤ 1000
instance (l : List Int) : Decidable (KOk l) := by unfold KOk; infer_instance
theorem KOk.split {l : List Int} (h : KOk l) : ∃ a b c : Int, l = [a, b, c] ∧ 0 ≤ a ∧ a ≤ 1000 ∧ 0 ≤ b ∧ b ≤ 1000 ∧ 0 ≤ c ∧ c ≤ 1000 := by
 obtain ⟨h1, h2⟩ := h
 match l, h1 with
 | [a, b, c], _ => exact ⟨a, b, c, rfl, (h2 a (by simp)).1, (h2 a (by simp)).2, (h2 b (by simp)).1, (h2 b (by simp)).2, (h2 c (by simp)).1, (h2 c (by simp)).2⟩
def DOk (r s : Int) : Prop := 0 ≤ r ∧ r < 3 ∧ 1 ≤ s ∧ s ≤ 1000
instance (r s : Int) : Decidable (DOk r s) := by unfold DOk; infer_instance
theorem Jbp {l : List Int} {k : Nat} (hk : k < l.length) (h : ∀ x ∈ l.take k, 0 ≤ x ∧ x ≤ 1000) (h0 : 0 ≤ l[k]) (h1 : l[k] ≤ 1000) : ∀ x ∈ l.take (k + 1), 0 ≤ x ∧ x ≤ 1000 := by
 intro x hx
 rw [List.take_succ_eq_append_getElem hk, List.mem_append, List.mem_singleton] at hx
 rcases hx with hx | rfl
 ·exact h x hx
 ·exact ⟨h0, h1⟩
theorem J8 (l : List Int) (v : Value) (w : World) (h : IntsAt w v l) :
  Calls Tryz.prog 96 #[v] w fun e w' => e = .returned (.bool (decide (KOk l))) ∧ w' = w := by
 obtain ⟨aa, ca, rfl, hg⟩ := h
 obtain ⟨n, hl⟩ : ∃ n, n = l.length := ⟨_, rfl⟩
 rw [← hl]
 have HL : Hid (n = l.length) := hl
 have HG : Hid (0 < l.length → ∃ g, aa = some ⟨g, 0, none⟩ ∧ g < w.heap.size ∧ ∀ j (h : j < l.length), w.cell? ⟨g, j, none⟩ = some (int i64 (l[j]))) := hg
 obtain ⟨r, hr⟩ : ∃ r, r = decide (KOk l) := ⟨_, rfl⟩
 rw [← hr]
 have HR : Hid (r = decide (KOk l)) := hr
 clear hg hr
 by_cases h3 : (n : Int) = 3
 ·have hn3 : n = 3 := by omega
  subst hn3
  clear hl
  go_enter Tryz.func96, Tryz.ntmps96
  go_wp2
  go_loopw [10] (fun z wr => ∃ k : Nat, k ≤ 3 ∧ z = int i64 k ∧ (∀ x ∈ l.take k, 0 ≤ x ∧ x ≤ 1000) ∧ wr = w) (fun z _ => 3 - (intOf z).toNat)
  case atStart => exact ⟨0, Nat.zero_le _, rfl, by simp, rfl⟩
  case round =>
   obtain ⟨k, hk, rfl, hin, rfl⟩ := hrel
   have HIN : Hid (∀ x ∈ l.take k, 0 ≤ x ∧ x ≤ 1000) := hin
   clear hin
   by_cases hlt : k < 3
   ·obtain ⟨g, rfl, hg1, hc⟩ := HG.out (by rw [← HL.out]; omega)
    have hkl : k < l.length := by rw [← HL.out]; exact hlt
    have hc1 := hc k hkl
    obtain ⟨x, hx⟩ : ∃ x, x = l[k] := ⟨_, rfl⟩
    rw [← hx] at hc1
    have HX : Hid (x = l[k]) := hx
    have hk1 : (k : Int) < 3 := by omega
    have hk0 : (0 : Int) ≤ k := by omega
    have HNO : Hid (¬ (0 ≤ x ∧ x ≤ 1000) → r = false) := by
     intro hno
     rw [HR.out]
     exact decide_eq_false fun hk => hno (by rw [hx]; exact hk.2 _ (List.getElem_mem hkl))
    clear hc hx
    by_cases h0 : x < 0
    ·obtain rfl : r = false := HNO.out (by omega)
     go_wp2
     go_ret
     exact ⟨rfl, rfl⟩
    ·by_cases h1 : 1000 < x
     ·obtain rfl : r = false := HNO.out (by omega)
      go_wp2
      go_ret
      exact ⟨rfl, rfl⟩
     ·go_wp2
      go_roundw
      case rel => exact ⟨k + 1, by omega, by go_num, Jbp hkl HIN.out (by rw [← HX.out]; omega) (by rw [← HX.out]; omega), trivial⟩
      case measure => simp [intOf]; omega
   ·have hk1 : ¬ ((k : Int) < 3) := by omega
    have hk3 : k = 3 := by omega
    have ht : r = true := by
     rw [HR.out]
     refine decide_eq_true ⟨HL.out.symm, ?_⟩
     have := HIN.out
     rw [hk3, List.take_of_length_le (by rw [← HL.out]; omega)] at this
     exact this
    subst ht
    clear hk3
    go_wp2
    go_ret
    exact ⟨rfl, rfl⟩
 ·obtain rfl : r = false := by
   rw [HR.out]
   exact decide_eq_false fun hk => h3 (by have := hk.1; omega)
  have h3' : decide ((n : Int) = 3) = false := decide_eq_false h3
  clear hl
  go_enter Tryz.func96, Tryz.ntmps96
  go_wp2
  go_ret
  exact ⟨rfl, rfl⟩
theorem JG (l : List Int) (v : Value) (w : World) (hn : l.length ≤ 1048576) (h : IntsAt w v l) :
  Calls Tryz.prog 57 #[v] w fun e w' => e = .returned (.bool (decide (KOk l))) ∧ w' = w := by
 obtain ⟨aa, ca, rfl, hg⟩ := h
 obtain ⟨n, hl⟩ : ∃ n, n = l.length := ⟨_, rfl⟩
 rw [← hl]
 have hnn : n ≤ 1048576 := by omega
 have HL : Hid (n = l.length) := hl
 have HG : Hid (0 < l.length → ∃ g, aa = some ⟨g, 0, none⟩ ∧ g < w.heap.size ∧ ∀ j (h : j < l.length), w.cell? ⟨g, j, none⟩ = some (int i64 (l[j]))) := hg
 obtain ⟨r, hr⟩ : ∃ r, r = decide (KOk l) := ⟨_, rfl⟩
 rw [← hr]
 have HR : Hid (r = decide (KOk l)) := hr
 clear hg hr hl hn
 go_enter Tryz.func57, Tryz.ntmps57
 go_wp2
 go_loopw [3] (fun z wr => ∃ k : Nat, k ≤ n ∧ z = int i64 k ∧ (∀ x ∈ l.take k, 0 ≤ x ∧ x ≤ 1000) ∧ wr = w) (fun z _ => n - (intOf z).toNat)
 case atStart => exact ⟨0, Nat.zero_le _, rfl, by simp, rfl⟩
 case round =>
  obtain ⟨k, hk, rfl, hin, rfl⟩ := hrel
  have HIN : Hid (∀ x ∈ l.take k, 0 ≤ x ∧ x ≤ 1000) := hin
  clear hin
  by_cases hlt : k < n
  ·obtain ⟨g, rfl, hg1, hc⟩ := HG.out (by rw [← HL.out]; omega)
   have hkl : k < l.length := by rw [← HL.out]; exact hlt
   have hc1 := hc k hkl
   obtain ⟨x, hx⟩ : ∃ x, x = l[k] := ⟨_, rfl⟩
   rw [← hx] at hc1
   have HX : Hid (x = l[k]) := hx
   have hk1 : (k : Int) < n := by omega
   have hk0 : (0 : Int) ≤ k := by omega
   have HNO : Hid (¬ (0 ≤ x ∧ x ≤ 1000) → r = false) := by
    intro hno
    rw [HR.out]
    exact decide_eq_false fun hk => hno (by rw [hx]; exact hk.2 _ (List.getElem_mem hkl))
   clear hc hx
   by_cases h0 : 0 ≤ x ∧ x ≤ 1000
   ·have hq : (decide (0 ≤ x) && decide (x ≤ 1000)) = true := by simp [h0.1, h0.2]
    go_wp2_with (go_at_call 84; refine (JK _ _ _ _).mono ?_; rw [hq]; rintro e w1 ⟨rfl, rfl⟩)
    go_roundw
    case rel => exact ⟨k + 1, by omega, by go_num, Jbp hkl HIN.out (by rw [← HX.out]; omega) (by rw [← HX.out]; omega), trivial⟩
    case measure => simp [intOf]; omega
   ·have hq : (decide (0 ≤ x) && decide (x ≤ 1000)) = false := by simp; omega
    obtain rfl : r = false := HNO.out (by omega)
    clear h0
    go_wp2_with (go_at_call 84; refine (JK _ _ _ _).mono ?_; rw [hq]; rintro e w1 ⟨rfl, rfl⟩)
    go_ret
    exact ⟨rfl, rfl⟩
  ·have hk1 : ¬ ((k : Int) < n) := by omega
   have hk3 : k = n := by omega
   have ht : decide ((n : Int) = 3) = r := by
    rw [HR.out]
    refine decide_eq_decide.2 ⟨fun h => ⟨by rw [← HL.out]; omega, ?_⟩, fun h => by have := h.1; rw [← HL.out] at this; omega⟩
    have := HIN.out
    rw [hk3, List.take_of_length_le (by rw [← HL.out]; omega)] at this
    exact this
   have HT : Hid (((n : Int) == 3) = r) := by
    rw [← ht]; show _ = _; by_cases h : (n : Int) = 3 <;> simp [h]
   clear hk3 ht
   go_wp2
   go_ret
   exact ⟨by show Ending.returned (.bool ((n : Int) == 3)) = _; rw [HT.out], rfl⟩
theorem Zu (r s : Int) (w : World) :
  Calls Tryz.prog 111 #[.agg #[int i64 r, int i64 s]] w fun e w' => e = .returned (.bool (decide (DOk r s))) ∧ Below w.heap.size w w' := by
 have hb := (Below.refl w.heap.size w).alloc (Nat.le_refl _) (Obj.cells #[Value.int .i64 r, Value.int .i64 s] 42)
 obtain ⟨q, hq⟩ : ∃ q, q = decide (DOk r s) := ⟨_, rfl⟩
 rw [← hq]
 have hno : ¬ (0 ≤ r ∧ r < 3 ∧ 1 ≤ s ∧ s ≤ 1000) → q = false := fun h => by rw [hq]; exact decide_eq_false h
 have hyes : (0 ≤ r ∧ r < 3 ∧ 1 ≤ s ∧ s ≤ 1000) → q = true := fun h => by rw [hq]; exact decide_eq_true h
 clear hq
 by_cases h1 : 0 ≤ r
 ·by_cases h2 : r < 3
  ·by_cases h3 : 1 ≤ s
   ·by_cases h4 : s ≤ 1000
    ·obtain rfl : q = true := hyes ⟨h1, h2, h3, h4⟩
     clear hno hyes
     go_enter Tryz.func111, Tryz.ntmps111
     go_wp2
     go_ret
     exact ⟨rfl, hb⟩
    ·obtain rfl : q = false := hno (by omega)
     clear hno hyes
     go_enter Tryz.func111, Tryz.ntmps111
     go_wp2
     go_ret
     exact ⟨rfl, hb⟩
   ·obtain rfl : q = false := hno (by omega)
    clear hno hyes
    go_enter Tryz.func111, Tryz.ntmps111
    go_wp2
    go_ret
    exact ⟨rfl, hb⟩
  ·obtain rfl : q = false := hno (by omega)
   clear hno hyes
   go_enter Tryz.func111, Tryz.ntmps111
   go_wp2
   go_ret
   exact ⟨rfl, hb⟩
 ·obtain rfl : q = false := hno (by omega)
  clear hno hyes
  go_enter Tryz.func111, Tryz.ntmps111
  go_wp2
  go_ret
  exact ⟨rfl, hb⟩
theorem JU (r s : Int) (w : World) :
  Calls Tryz.prog 58 #[.agg #[int i64 r, int i64 s]] w fun e w' => e = .returned (.bool (decide (DOk r s))) ∧ Below w.heap.size w w' := by
 have hb := (Below.refl w.heap.size w).alloc (Nat.le_refl _) (Obj.cells #[Value.int .i64 r, Value.int .i64 s] 42)
 obtain ⟨q, hq⟩ : ∃ q, q = decide (DOk r s) := ⟨_, rfl⟩
 rw [← hq]
 have hno : ¬ (0 ≤ r ∧ r < 3 ∧ 1 ≤ s ∧ s ≤ 1000) → q = false := fun h => by rw [hq]; exact decide_eq_false h
 have hyes : (0 ≤ r ∧ r < 3 ∧ 1 ≤ s ∧ s ≤ 1000) → q = true := fun h => by rw [hq]; exact decide_eq_true h
 clear hq
 by_cases h1 : 0 ≤ r ∧ r ≤ 2
 ·have e1 : (decide (0 ≤ r) && decide (r ≤ 2)) = true := by simp [h1.1, h1.2]
  by_cases h3 : 1 ≤ s ∧ s ≤ 1000
  ·have e2 : (decide (1 ≤ s) && decide (s ≤ 1000)) = true := by simp [h3.1, h3.2]
   obtain rfl : q = true := hyes (by omega)
   have tok : True := trivial
   clear hno hyes h1 h3
   go_enter Tryz.func58, Tryz.ntmps58
   go_wp2_with (first
    | (go_at_call 84; have _t := tok; refine (JK _ _ _ _).mono ?_; clear tok; rw [e1]; rintro e w1 ⟨rfl, rfl⟩)
    | (go_at_call 84; refine (JK _ _ _ _).mono ?_; rw [e2]; rintro e w1 ⟨rfl, rfl⟩))
   go_ret
   exact ⟨rfl, hb⟩
  ·have e2 : (decide (1 ≤ s) && decide (s ≤ 1000)) = false := by simp; omega
   obtain rfl : q = false := hno (by omega)
   have tok : True := trivial
   clear hno hyes h1 h3
   go_enter Tryz.func58, Tryz.ntmps58
   go_wp2_with (first
    | (go_at_call 84; have _t := tok; refine (JK _ _ _ _).mono ?_; clear tok; rw [e1]; rintro e w1 ⟨rfl, rfl⟩)
    | (go_at_call 84; refine (JK _ _ _ _).mono ?_; rw [e2]; rintro e w1 ⟨rfl, rfl⟩))
   go_ret
   exact ⟨rfl, hb⟩
 ·have e1 : (decide (0 ≤ r) && decide (r ≤ 2)) = false := by simp; omega
  obtain rfl : q = false := hno (by omega)
  clear hno hyes h1
  go_enter Tryz.func58, Tryz.ntmps58
  go_wp2_with (go_at_call 84; refine (JK _ _ _ _).mono ?_; rw [e1]; rintro e w1 ⟨rfl, rfl⟩)
  go_ret
  exact ⟨rfl, hb⟩
end Go.Proofs.YtepfinenocpneaaGreat
