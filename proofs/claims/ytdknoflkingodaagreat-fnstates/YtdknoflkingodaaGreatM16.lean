/- A text is put into a list of texts, as the specification does it; the keys of the lives, as it tells them. Right tallies, as the specification asks. Which of two parts is ahead: the program's ranks. The ranks of parts. When a Tally is right for itself, as the program tells it. When a Live is right for itself, as the program tells it: of a set. -/
import Derived.Laws.Cover1
import Derived.Sort.Walk0
import Derived.Test.YtdknoflkingodaaGreatM2
import Derived.Test.YtdknoflkingodaaGreatM3
import Derived.Test.YtdknoflkingodaaGreatM4
import Derived.Test.YtdknoflkingodaaGreatM5
import Derived.Test.YtdknoflkingodaaGreatM6
import Derived.Test.YtdknoflkingodaaGreatM7
import Derived.Test.YtdknoflkingodaaGreatM8
import Derived.Test.YtdknoflkingodaaGreatM9
import Derived.Test.YtdknoflkingodaaGreatM10
import Derived.Test.YtdknoflkingodaaGreatM11
import Derived.Test.YtdknoflkingodaaGreatM12
import Derived.Test.YtdknoflkingodaaGreatM13
import Derived.Test.YtdknoflkingodaaGreatM14
import Derived.Test.YtdknoflkingodaaGreatM15
namespace Go.Proofs.YtdknoflkingodaaGreat
set_option maxRecDepth 100000
set_option linter.unusedVariables false
open Go.RowKit
theorem toList_of (s : ByteArray) : s.toList = s.data.toList := ByteArray.toList_eq s
theorem len_snoc {α : Type} (l : List α) (x : α) : (l ++ [x]).length = l.length + 1 := by simp
theorem take_snoc {α : Type} (l : List α) (k : Nat) (h : k < l.length) : l.take (k + 1) = l.take k ++ [l[k]] := List.take_succ_eq_append_getElem h
theorem less_yes (x s : List UInt8) (h : s < x) : Op.bytesLess x s = false := by
 rw [bytesLess_eq]; exact decide_eq_false (fun k => List.lt_irrefl _ (List.lt_trans h k))
theorem less_no (x s : List UInt8) (h : ¬ s < x) (hne : x ≠ s) : Op.bytesLess x s = true := by
 rw [bytesLess_eq]; exact decide_eq_true (by_lt (List.not_lt.1 h) hne)
end Go.Proofs.YtdknoflkingodaaGreat
namespace Go.Proofs.YtdknoflkingodaaGreat
set_option maxRecDepth 100000
set_option linter.unusedVariables false
open Go.RowKit
/-- One after another: each right, and behind the one ahead of it. -/
def Asc {α : Type} (ok : α → Prop) (lt : α → α → Prop) (l : List α) : Prop := ∀ i (h : i < l.length), ok l[i] ∧ (∀ (h0 : 0 < i), lt (l[i - 1]'(by omega)) l[i])
def AscTo {α : Type} (ok : α → Prop) (lt : α → α → Prop) (l : List α) (k : Nat) : Prop := ∀ i (h : i < l.length), i < k → ok l[i] ∧ (∀ (h0 : 0 < i), lt (l[i - 1]'(by omega)) l[i])
theorem asc_all {α : Type} {ok : α → Prop} {lt : α → α → Prop} {l : List α} {k : Nat} (h : AscTo ok lt l k) (hk : l.length ≤ k) : Asc ok lt l := fun i hi => h i hi (by omega)
theorem asc_zero {α : Type} (ok : α → Prop) (lt : α → α → Prop) (l : List α) : AscTo ok lt l 0 := fun i _ h => by omega
theorem asc_more {α : Type} {ok : α → Prop} {lt : α → α → Prop} {l : List α} {k : Nat} (h : AscTo ok lt l k) (hk : k < l.length) (h1 : ok l[k]) (h2 : ∀ (h0 : 0 < k), lt (l[k - 1]'(by omega)) l[k]) : AscTo ok lt l (k + 1) := fun i hi hik => by
 by_cases e : i = k
 ·subst e; exact ⟨h1, h2⟩
 ·exact h i hi (by omega)
theorem Asc.mem {α : Type} {ok : α → Prop} {lt : α → α → Prop} {l : List α} (h : Asc ok lt l) : ∀ a ∈ l, ok a := fun a ha => by
 obtain ⟨i, hi, rfl⟩ := List.mem_iff_getElem.1 ha
 exact (h i hi).1
theorem Asc.pair {α : Type} {ok : α → Prop} {lt : α → α → Prop} {l : List α} (ht : ∀ a b c, lt a b → lt b c → lt a c) (h : Asc ok lt l) : l.Pairwise lt := by
 rw [List.pairwise_iff_getElem]
 intro i j hi hj hij
 induction j with
 | zero => omega
 | succ j ih =>
  have h1 := (h (j + 1) hj).2 (by omega)
  simp only [Nat.add_sub_cancel] at h1
  by_cases e : i = j
  ·subst e; exact h1
  ·exact ht _ _ _ (ih (by omega) (by omega)) h1
theorem Asc.of_pair {α : Type} {ok : α → Prop} {lt : α → α → Prop} {l : List α} (h1 : ∀ a ∈ l, ok a) (h2 : l.Pairwise lt) : Asc ok lt l := fun i hi =>
 ⟨h1 _ (List.getElem_mem hi), fun h0 => List.pairwise_iff_getElem.1 h2 (i - 1) i (by omega) hi (by omega)⟩
/-- A flag is told, just when something holds. -/
def Tells (e : Ending) (P : Prop) : Prop := ∃ q : Bool, e = .returned (.bool q) ∧ (q = true ↔ P)
theorem Tells.no {P : Prop} (h : ¬ P) : Tells (.returned (.bool false)) P := ⟨false, rfl, fun e => (by cases e), fun k => absurd k h⟩
theorem Tells.yes {P : Prop} (h : P) : Tells (.returned (.bool true)) P := ⟨true, rfl, fun _ => h, fun _ => rfl⟩
def taLt (a b : Ta) : Prop := a.o.data.toList < b.o.data.toList ∨ (a.o = b.o ∧ a.r < b.r)
def taOk (a : Ta) : Prop := NOk a.o ∧ (0 ≤ a.r ∧ a.r ≤ 2) ∧ (0 ≤ a.n ∧ a.n ≤ 999999)
def TalOk (l : List Ta) : Prop := l.length ≤ 120 ∧ Asc taOk taLt l
def doLt (r s r' s' : Int) : Prop := r < r' ∨ (r = r' ∧ s < s')
instance (r s r' s' : Int) : Decidable (doLt r s r' s') := by unfold doLt; infer_instance
theorem before_calls (r s r' s' : Int) (w : World) :
  Calls Tryz.prog 128 #[.agg #[.int .i64 r, .int .i64 s], .agg #[.int .i64 r', .int .i64 s']] w fun e w' => e = .returned (.bool (decide (doLt r s r' s'))) ∧ Below w.heap.size w w' := by
 have hB : Below w.heap.size w ((w.alloc (.cells #[.int .i64 r, .int .i64 s] 33)).alloc (.cells #[.int .i64 r', .int .i64 s'] 33)) := ((Below.refl _ _).alloc (Nat.le_refl _) _).alloc (by simp) _
 have HB := hidI hB
 have HQ : Hid (∀ b : Bool, (b = true ↔ doLt r s r' s') → b = decide (doLt r s r' s')) := fun b h => by
  cases b with
  | true => exact (decide_eq_true (h.1 rfl)).symm
  | false => exact (decide_eq_false (fun k => by have := h.2 k; cases this)).symm
 clear hB
 by_cases h1 : r < r'
 ·have HE := hidI (HQ.out true ⟨fun _ => .inl h1, fun _ => rfl⟩)
  rw [← HE.out]
  go_enter Tryz.func128, Tryz.ntmps128
  go_wp2
  go_ret
  exact ⟨rfl, HB.out⟩
 ·by_cases h2 : r = r'
  ·have b2 : (r == r') = true := by simp [h2]
   by_cases h3 : s < s'
   ·have HE := hidI (HQ.out true ⟨fun _ => .inr ⟨h2, h3⟩, fun _ => rfl⟩)
    rw [← HE.out]
    clear h2
    go_enter Tryz.func128, Tryz.ntmps128
    go_wp2
    go_ret
    exact ⟨rfl, HB.out⟩
   ·have HE := hidI (HQ.out false ⟨fun h => (by cases h), fun h => absurd h (by unfold doLt; omega)⟩)
    rw [← HE.out]
    clear h2
    go_enter Tryz.func128, Tryz.ntmps128
    go_wp2
    go_ret
    exact ⟨rfl, HB.out⟩
  ·have b2 : (r == r') = false := by simp [h2]
   have HE := hidI (HQ.out false ⟨fun h => (by cases h), fun h => absurd h (by unfold doLt; omega)⟩)
   rw [← HE.out]
   clear h2
   go_enter Tryz.func128, Tryz.ntmps128
   go_wp2
   go_ret
   exact ⟨rfl, HB.out⟩
theorem cases_str (a b : ByteArray) : (Op.bytesLess a.toList b.toList = false ∧ (a.toList == b.toList) = false ∧ b.data.toList < a.data.toList) ∨ (Op.bytesLess a.toList b.toList = false ∧ (a.toList == b.toList) = true ∧ a = b) ∨ (Op.bytesLess a.toList b.toList = true ∧ (a.toList == b.toList) = false ∧ a.data.toList < b.data.toList) := by
 rw [toList_of a, toList_of b]
 have hab : a.data.toList = b.data.toList → a = b := fun h => ByteArray.ext (Array.ext' h)
 by_cases h1 : b.data.toList < a.data.toList
 ·refine .inl ⟨less_yes _ _ h1, ?_, h1⟩
  simp only [beq_eq_false_iff_ne, ne_eq]
  intro e; rw [e] at h1; exact List.lt_irrefl _ h1
 ·by_cases h2 : a.data.toList = b.data.toList
  ·refine .inr (.inl ⟨?_, by simp [h2], hab h2⟩)
   rw [bytesLess_eq, h2]; exact decide_eq_false (List.lt_irrefl _)
  ·exact .inr (.inr ⟨less_no _ _ h1 h2, by simpa using h2, by_lt (List.not_lt.1 h1) h2⟩)
theorem lt_ne {a b : ByteArray} (h : a.data.toList < b.data.toList) : ¬ a = b := fun e => by rw [e] at h; exact List.lt_irrefl _ h
set_option maxHeartbeats 8000000 in
theorem specTallies_calls (l : List Ta) (u : Value) (w : World) (hn : l.length ≤ 1048576) (hst : ∀ a ∈ l, a.o.size ≤ 1048576) (h : TaAt w u l) :
  Calls Tryz.prog 78 #[u] w fun e w' => Tells e (TalOk l) ∧ Below w.heap.size w w' := by
 obtain ⟨aa, ca, rfl, hga⟩ := h
 have HGA : Hid (TaG w aa l) := hga
 have HST := hidI hst
 obtain ⟨n, hnl⟩ : ∃ n, n = l.length := ⟨_, rfl⟩
 have HL : Hid (n = l.length) := hnl
 have HNO : Hid (¬ Asc taOk taLt l → (false = true ↔ TalOk l)) := fun h => ⟨fun e => (by cases e), fun k => absurd k.2 h⟩
 have HYES : Hid (AscTo taOk taLt l n → (decide ((n : Int) ≤ 120) = true ↔ TalOk l)) := fun h => by
  rw [hnl] at h ⊢
  constructor
  ·intro k; exact ⟨by have := of_decide_eq_true k; omega, asc_all h (Nat.le_refl _)⟩
  ·intro k; exact decide_eq_true (by have := k.1; omega)
 rw [← hnl] at hn ⊢
 clear hnl hga hst
 go_enter Tryz.func78, Tryz.ntmps78
 go_wp2
 go_loopw [3] (fun z wr => ∃ k : Nat, k ≤ n ∧ z = .int .i64 k ∧ AscTo taOk taLt l k ∧ Below w.heap.size w wr) (fun z _ => n - (intOf z).toNat)
 case atStart => exact ⟨0, Nat.zero_le _, rfl, asc_zero _ _ _, Below.refl _ _⟩
 case round =>
  obtain ⟨k, hk, rfl, hasc, hbel⟩ := hrel
  have HBE := hidI hbel
  have HAS := hidI hasc
  have hsz := hbel.size
  clear hasc
  by_cases hlt : k < n
  ·have hkl : k < l.length := by rw [← HL.out]; exact hlt
   obtain ⟨g, f, rfl, hg, hcc⟩ := HGA.out (by omega)
   have hk1 : (k : Int) < n := by omega
   have hk0 : (0 : Int) ≤ k := by omega
   have q := (hcc k hkl).below hbel hg
   have hp1 : k - 1 < l.length := by omega
   have HPC : Hid (∀ wx, Below w.heap.size w wx → taC wx g (f + (k - 1) * 3) l[k - 1]) := fun wx h => (hcc (k - 1) hp1).below h hg
   have HF1 : Hid (¬ taOk l[k] → (false = true ↔ TalOk l)) := fun h => HNO.out (fun a => h (a k hkl).1)
   have HF2 : Hid (0 < k → ¬ taLt l[k - 1] l[k] → (false = true ↔ TalOk l)) := fun h0 h => HNO.out (fun a => h ((a k hkl).2 h0))
   have HMO : Hid (taOk l[k] → (0 < k → taLt l[k - 1] l[k]) → AscTo taOk taLt l (k + 1)) := fun h1 h2 => asc_more HAS.out hkl h1 h2
   have hsx := HST.out l[k] (List.getElem_mem hkl)
   generalize l[k - 1] = p at *
   generalize l[k] = x at *
   unfold taC at q
   obtain ⟨q0, q1, q2⟩ := q
   have HBA : Hid (Below w.heap.size w (wr.alloc (.cells #[.string x.o, .int .i64 x.r, .int .i64 x.n] 38))) := HBE.out.alloc hsz _
   have hW : Row (wr.alloc (.cells #[.string x.o, .int .i64 x.r, .int .i64 x.n] 38)) wr.heap.size #[.string x.o, .int .i64 x.r, .int .i64 x.n] 38 := row_new wr _ _ rfl
   have HN : Hid (∀ wx, Calls Tryz.prog 127 #[.string x.o] wx fun e w' => e = .returned (.bool (decide (NOk x.o))) ∧ w' = wx) := fun wx => specNameOk_calls x.o (by unfold maxLen; omega) wx
   have HI1 : Hid (∀ wx, Calls Tryz.prog 126 #[.int .i64 x.r, .int .i64 0, .int .i64 2] wx fun e w' => e = .returned (.bool (decide (0 ≤ x.r) && decide (x.r ≤ 2))) ∧ w' = wx) := fun wx => in_calls x.r 0 2 wx
   have HI2 : Hid (∀ wx, Calls Tryz.prog 126 #[.int .i64 x.n, .int .i64 0, .int .i64 999999] wx fun e w' => e = .returned (.bool (decide (0 ≤ x.n) && decide (x.n ≤ 999999))) ∧ w' = wx) := fun wx => in_calls x.n 0 999999 wx
   have HWR := hidI hW
   clear hcc hbel hkl hp1 hsx hW HAS HNO
   by_cases h1 : NOk x.o
   case neg =>
    rw [decide_eq_false h1] at HN
    have HE := hidI (HF1.out (fun h => h1 h.1))
    clear h1 HF1 HF2 HMO HPC
    go_wp2_with fail
    refine (HN.out _).mono ?_
    rintro e w1 ⟨rfl, rfl⟩
    go_wp2
    go_ret
    exact ⟨⟨false, rfl, HE.out⟩, HBA.out⟩
   rw [decide_eq_true h1] at HN
   by_cases h2 : 0 ≤ x.r ∧ x.r ≤ 2
   case neg =>
    have hb : (decide (0 ≤ x.r) && decide (x.r ≤ 2)) = false := by
     by_cases ha : 0 ≤ x.r <;> by_cases hb : x.r ≤ 2 <;> simp [ha, hb] <;> exact h2 ⟨ha, hb⟩
    rw [hb] at HI1
    have HE := hidI (HF1.out (fun h => h2 h.2.1))
    clear h1 h2 hb HF1 HF2 HMO HPC
    go_wp2_with fail
    refine (HN.out _).mono ?_
    rintro e w1 ⟨rfl, rfl⟩
    go_wp2_with fail
    refine (HI1.out _).mono ?_
    rintro e w1 ⟨rfl, rfl⟩
    go_wp2
    go_ret
    exact ⟨⟨false, rfl, HE.out⟩, HBA.out⟩
   have hb1 : (decide (0 ≤ x.r) && decide (x.r ≤ 2)) = true := by simp [h2]
   rw [hb1] at HI1
   by_cases h3 : 0 ≤ x.n ∧ x.n ≤ 999999
   case neg =>
    have hb : (decide (0 ≤ x.n) && decide (x.n ≤ 999999)) = false := by
     by_cases ha : 0 ≤ x.n <;> by_cases hb : x.n ≤ 999999 <;> simp [ha, hb] <;> exact h3 ⟨ha, hb⟩
    rw [hb] at HI2
    have HE := hidI (HF1.out (fun h => h3 h.2.2))
    clear h1 h2 h3 hb hb1 HF1 HF2 HMO HPC
    go_wp2_with fail
    refine (HN.out _).mono ?_
    rintro e w1 ⟨rfl, rfl⟩
    go_wp2_with fail
    refine (HI1.out _).mono ?_
    rintro e w1 ⟨rfl, rfl⟩
    clear HI1
    go_wp2_with fail
    refine (HI2.out _).mono ?_
    rintro e w1 ⟨rfl, rfl⟩
    go_wp2
    go_ret
    exact ⟨⟨false, rfl, HE.out⟩, HBA.out⟩
   have hb2 : (decide (0 ≤ x.n) && decide (x.n ≤ 999999)) = true := by simp [h3]
   rw [hb2] at HI2
   have HOX : Hid (taOk x) := ⟨h1, h2, h3⟩
   clear h1 h2 h3 hb1 hb2 HF1
   go_wp2_with fail
   refine (HN.out _).mono ?_
   rintro e w1 ⟨rfl, rfl⟩
   go_wp2_with fail
   refine (HI1.out _).mono ?_
   rintro e w1 ⟨rfl, rfl⟩
   clear HI1
   go_wp2_with fail
   refine (HI2.out _).mono ?_
   rintro e w1 ⟨rfl, rfl⟩
   clear HI2 HN
   generalize hWW : wr.alloc (.cells #[.string x.o, .int .i64 x.r, .int .i64 x.n] 38) = WW at *
   have m0 := HWR.out.cell 0 rfl
   have m1 := HWR.out.cell 1 rfl
   by_cases hkz : k = 0
   ·subst hkz
    have HE := hidI (HMO.out HOX.out (fun h0 => by omega))
    clear HMO HF2 HPC hWW
    go_wp2
    go_quiet (fail)
    have HB2 := hidI (below_drewN HBA.out nq)
    generalize WW.drewN nq = wq at *
    clear HBA HWR m0 m1 q0 q1 q2
    go_wp2
    go_roundw
    case rel => exact ⟨0 + 1, by omega, by go_num, HE.out, HB2.out⟩
    case measure => simp [intOf]; omega
   ·have hkp : 0 < k := by omega
    have hkp1 : (0 : Int) < k := by omega
    have hq1 : (0 : Int) ≤ (k : Int) - 1 := by omega
    have hq2 : (k : Int) - 1 < n := by omega
    have hwk : IntKind.i64.wrap ((k : Int) - 1) = (k : Int) - 1 := by rw [IntKind.wrap_i64] <;> omega
    have hnt : ((k : Int) - 1).toNat = k - 1 := by omega
    obtain ⟨r0, r1, r2⟩ := HPC.out WW HBA.out
    rcases cases_str p.o x.o with ⟨s1, s2, s3⟩ | ⟨s1, s2, s3⟩ | ⟨s1, s2, s3⟩
    ·have HE := hidI (HF2.out hkp (fun h => by
      rcases h with h | h
      ·exact List.lt_irrefl _ (List.lt_trans h s3)
      ·exact lt_ne s3 h.1.symm))
     clear HMO HF2 HPC hWW s3
     go_wp2
     go_quiet (fail)
     have HB2 := hidI (below_drewN HBA.out nq)
     generalize WW.drewN nq = wq at *
     clear HBA HWR m0 m1 q0 q1 q2 r0 r1 r2
     go_wp2
     go_ret
     exact ⟨⟨false, rfl, HE.out⟩, HB2.out⟩
    ·by_cases hpr : p.r < x.r
     ·have HE := hidI (HMO.out HOX.out (fun _ => .inr ⟨s3, hpr⟩))
      clear HMO HF2 HPC hWW s3
      go_wp2
      go_quiet (fail)
      have HB2 := hidI (below_drewN HBA.out nq)
      generalize WW.drewN nq = wq at *
      clear HBA HWR m0 m1 q0 q1 q2 r0 r1 r2
      go_wp2
      go_roundw
      case rel => exact ⟨k + 1, by omega, by go_num, HE.out, HB2.out⟩
      case measure => simp [intOf]; omega
     ·have HE := hidI (HF2.out hkp (fun h => by
       rcases h with h | h
       ·exact lt_ne h s3
       ·exact hpr h.2))
      clear HMO HF2 HPC hWW s3
      go_wp2
      go_quiet (fail)
      have HB2 := hidI (below_drewN HBA.out nq)
      generalize WW.drewN nq = wq at *
      clear HBA HWR m0 m1 q0 q1 q2 r0 r1 r2
      go_wp2
      go_ret
      exact ⟨⟨false, rfl, HE.out⟩, HB2.out⟩
    ·have HE := hidI (HMO.out HOX.out (fun _ => .inl s3))
     clear HMO HF2 HPC hWW s3
     go_wp2
     go_quiet (fail)
     have HB2 := hidI (below_drewN HBA.out nq)
     generalize WW.drewN nq = wq at *
     clear HBA HWR m0 m1 q0 q1 q2 r0 r1 r2
     go_wp2
     go_roundw
     case rel => exact ⟨k + 1, by omega, by go_num, HE.out, HB2.out⟩
     case measure => simp [intOf]; omega
  ·have hk1 : ¬ ((k : Int) < n) := by omega
   have HE := hidI (HYES.out (by have e : k = n := (by omega); rw [← e]; exact HAS.out))
   go_wp2
   go_ret
   exact ⟨⟨_, rfl, HE.out⟩, HBE.out⟩
end Go.Proofs.YtdknoflkingodaaGreat
namespace Go.Proofs.YtdknoflkingodaaGreat
set_option maxRecDepth 100000
set_option linter.unusedVariables false
open Go.RowKit
def cmpI (a b : Int) : Int := if a < b then -1 else if b < a then 1 else 0
theorem isNaN_calls (x : Int) (w : World) : Calls Tryz.prog 208 #[.int .i64 x] w fun e w' => e = .returned (.bool false) ∧ w' = w := by
 go_enter Tryz.func208, Tryz.ntmps208
 go_wp2
 go_ret
 exact ⟨by simp, rfl⟩
theorem cmpI_calls (a b : Int) (w : World) : Calls Tryz.prog 175 #[.int .i64 a, .int .i64 b] w fun e w' => e = .returned (.int .i64 (cmpI a b)) ∧ w' = w := by
 unfold cmpI
 by_cases h1 : a < b
 ·rw [if_pos h1]
  go_enter Tryz.func175, Tryz.ntmps175
  go_wp2_with (go_at_call 208; refine (isNaN_calls _ _).mono ?_; rintro e w1 ⟨rfl, rfl⟩)
  go_ret
  exact ⟨rfl, rfl⟩
 ·by_cases h2 : b < a
  ·rw [if_neg h1, if_pos h2]
   go_enter Tryz.func175, Tryz.ntmps175
   go_wp2_with (go_at_call 208; refine (isNaN_calls _ _).mono ?_; rintro e w1 ⟨rfl, rfl⟩)
   go_ret
   exact ⟨rfl, rfl⟩
  ·rw [if_neg h1, if_neg h2]
   go_enter Tryz.func175, Tryz.ntmps175
   go_wp2_with (go_at_call 208; refine (isNaN_calls _ _).mono ?_; rintro e w1 ⟨rfl, rfl⟩)
   go_ret
   exact ⟨rfl, rfl⟩
/-- The first of three that is not 0. -/
def or3 (a b c : Int) : Int := if a = 0 then (if b = 0 then c else b) else a
theorem or3_calls (a b c : Int) (g : Nat) (w : World) (h0 : w.cell? ⟨g, 0, none⟩ = some (.int .i64 a)) (h1 : w.cell? ⟨g, 1, none⟩ = some (.int .i64 b)) (h2 : w.cell? ⟨g, 2, none⟩ = some (.int .i64 c)) :
  Calls Tryz.prog 148 #[.slice (some ⟨g, 0, none⟩) 3 3] w fun e w' => e = .returned (.int .i64 (or3 a b c)) ∧ w' = w := by
 have HR : Hid (∀ r, r = or3 a b c → r = or3 a b c) := fun r h => h
 have cell : ∀ k : Nat, k < 3 → ∃ z : Int, w.cell? ⟨g, k, none⟩ = some (.int .i64 z) ∧ ((k = 0 ∧ z = a) ∨ (k = 1 ∧ z = b) ∨ (k = 2 ∧ z = c)) := fun k hk => by
  match k, hk with
  | 0, _ => exact ⟨a, h0, .inl ⟨rfl, rfl⟩⟩
  | 1, _ => exact ⟨b, h1, .inr (.inl ⟨rfl, rfl⟩)⟩
  | 2, _ => exact ⟨c, h2, .inr (.inr ⟨rfl, rfl⟩)⟩
 have HC := hidI cell
 clear cell h0 h1 h2
 go_enter Tryz.func148, Tryz.ntmps148
 go_wp2
 go_loopw [8] (fun z wr => ∃ k : Nat, k ≤ 3 ∧ z = .int .i64 k ∧ (0 < k → a = 0) ∧ (1 < k → b = 0) ∧ (2 < k → c = 0) ∧ wr = w) (fun z _ => 3 - (intOf z).toNat)
 case atStart => exact ⟨0, by omega, rfl, by omega, by omega, by omega, rfl⟩
 case round =>
  obtain ⟨k, hk, rfl, ha, hb, hc, hw⟩ := hrel
  replace hw := hw.symm
  subst hw
  by_cases hlt : k < 3
  ·obtain ⟨z, hz, hzz⟩ := HC.out k hlt
   have hk1 : (k : Int) < 3 := by omega
   have hk0 : (0 : Int) ≤ k := by omega
   by_cases h0 : z = 0
   ·have b0 : (z != 0) = false := by simp [h0]
    have HE : Hid ((0 < k + 1 → a = 0) ∧ (1 < k + 1 → b = 0) ∧ (2 < k + 1 → c = 0)) := by
     refine ⟨fun _ => ?_, fun _ => ?_, fun _ => ?_⟩ <;> rcases hzz with ⟨h3, h4⟩ | ⟨h3, h4⟩ | ⟨h3, h4⟩ <;> first | omega | (exact ha (by omega)) | (exact hb (by omega))
    clear h0 hzz ha hb hc
    go_wp2
    go_roundw
    case rel => exact ⟨k + 1, by omega, by go_num, HE.out.1, HE.out.2.1, HE.out.2.2, by trivial⟩
    case measure => simp [intOf]; omega
   ·have b0 : (z != 0) = true := by simp [h0]
    have HE : Hid (z = or3 a b c) := by
     show _ = _
     unfold or3
     rcases hzz with ⟨h3, h4⟩ | ⟨h3, h4⟩ | ⟨h3, h4⟩
     ·rw [if_neg (by omega)]; exact h4
     ·rw [if_pos (ha (by omega)), if_neg (by omega)]; exact h4
     ·rw [if_pos (ha (by omega)), if_pos (hb (by omega))]; exact h4
    clear h0 hzz ha hb hc
    go_wp2
    go_ret
    exact ⟨by rw [HE.out]; rfl, rfl⟩
  ·have hk1 : ¬ ((k : Int) < 3) := by omega
   have HE : Hid ((0 : Int) = or3 a b c) := by
    show _ = _
    unfold or3
    rw [if_pos (ha (by omega)), if_pos (hb (by omega)), hc (by omega)]
   clear ha hb hc
   go_wp2
   go_ret
   exact ⟨by rw [← HE.out]; rfl, rfl⟩
set_option maxHeartbeats 4000000 in
theorem rankCmp_calls (o o' : ByteArray) (r s r' s' : Int) (w : World) :
  Calls Tryz.prog 124 #[.agg #[.string o, .int .i64 r, .int .i64 s], .agg #[.string o', .int .i64 r', .int .i64 s']] w fun e w' => e = .returned (.int .i64 (or3 (Lib.compareBytes o.data.toList o'.data.toList) (cmpI r r') (cmpI s s'))) ∧ Below w.heap.size w w' := by
 obtain ⟨W, hW⟩ : ∃ W, W = (w.alloc (.cells #[.string o, .int .i64 r, .int .i64 s] 147)).alloc (.cells #[.string o', .int .i64 r', .int .i64 s'] 147) := ⟨_, rfl⟩
 have hR1 : Row W w.heap.size #[.string o, .int .i64 r, .int .i64 s] 147 := by rw [hW]; exact (row_new w _ _ rfl).alloc _
 have hR2 : Row W (w.heap.size + 1) #[.string o', .int .i64 r', .int .i64 s'] 147 := by rw [hW]; exact row_new _ _ _ (by simp)
 have hB0 : Below w.heap.size w W := by rw [hW]; exact ((Below.refl _ _).alloc (Nat.le_refl _) _).alloc (by simp) _
 have HB := hidI hB0
 have HW : Hid ((w.alloc (.cells #[.string o, .int .i64 r, .int .i64 s] 147)).alloc (.cells #[.string o', .int .i64 r', .int .i64 s'] 147) = W) := hW.symm
 obtain ⟨a, ha⟩ : ∃ a, a = Lib.compareBytes o.data.toList o'.data.toList := ⟨_, rfl⟩
 obtain ⟨b, hb⟩ : ∃ b, b = cmpI r r' := ⟨_, rfl⟩
 obtain ⟨c, hc⟩ : ∃ c, c = cmpI s s' := ⟨_, rfl⟩
 have HS : Hid (∀ wx, Calls Tryz.prog 149 #[.string o, .string o'] wx fun e w' => e = .returned (.int .i64 a) ∧ w' = wx) := fun wx => by rw [ha]; exact Tryz.strings_Compare o o' wx
 have H1 : Hid (∀ wx, Calls Tryz.prog 175 #[.int .i64 r, .int .i64 r'] wx fun e w' => e = .returned (.int .i64 b) ∧ w' = wx) := fun wx => by rw [hb]; exact cmpI_calls r r' wx
 have H2 : Hid (∀ wx, Calls Tryz.prog 175 #[.int .i64 s, .int .i64 s'] wx fun e w' => e = .returned (.int .i64 c) ∧ w' = wx) := fun wx => by rw [hc]; exact cmpI_calls s s' wx
 rw [← ha, ← hb, ← hc]
 clear hW ha hb hc hB0
 obtain ⟨x0, x1, x2⟩ : W.cell? ⟨w.heap.size, 0, none⟩ = some (.string o) ∧ W.cell? ⟨w.heap.size, 1, none⟩ = some (.int .i64 r) ∧ W.cell? ⟨w.heap.size, 2, none⟩ = some (.int .i64 s) := ⟨hR1.cell 0 rfl, hR1.cell 1 rfl, hR1.cell 2 rfl⟩
 obtain ⟨y0, y1, y2⟩ : W.cell? ⟨w.heap.size + 1, 0, none⟩ = some (.string o') ∧ W.cell? ⟨w.heap.size + 1, 1, none⟩ = some (.int .i64 r') ∧ W.cell? ⟨w.heap.size + 1, 2, none⟩ = some (.int .i64 s') := ⟨hR2.cell 0 rfl, hR2.cell 1 rfl, hR2.cell 2 rfl⟩
 have hl1 := hR1.lt
 have hl2 := hR2.lt
 have HOR : Hid (∀ wx : World, Calls Tryz.prog 148 #[.slice (some ⟨wx.heap.size, 0, none⟩) 3 3] (wx.alloc (.cells #[.int .i64 a, .int .i64 b, .int .i64 c] 3)) fun e w' => e = .returned (.int .i64 (or3 a b c)) ∧ w' = wx.alloc (.cells #[.int .i64 a, .int .i64 b, .int .i64 c] 3)) := fun wx => or3_calls a b c wx.heap.size _ ((row_new wx _ _ rfl).cell 0 rfl) ((row_new wx _ _ rfl).cell 1 rfl) ((row_new wx _ _ rfl).cell 2 rfl)
 have HOQ : Hid (Calls Tryz.prog 148 #[.slice (some ⟨W.heap.size, 0, none⟩) 3 3] (W.alloc (.cells #[.int .i64 a, .int .i64 b, .int .i64 c] 3)).drew fun e w' => e = .returned (.int .i64 (or3 a b c)) ∧ w' = (W.alloc (.cells #[.int .i64 a, .int .i64 b, .int .i64 c] 3)).drew) := or3_calls a b c W.heap.size _ ((row_new W _ _ rfl).cell 0 rfl) ((row_new W _ _ rfl).cell 1 rfl) ((row_new W _ _ rfl).cell 2 rfl)
 clear hR1 hR2
 go_enter Tryz.func124, Tryz.ntmps124
 go_wp2
 rw [HW.out]
 go_region_held3 (fun w' => w'.cell? ⟨w.heap.size, 0, none⟩ = some (.string o) ∧ w'.cell? ⟨w.heap.size, 1, none⟩ = some (.int .i64 r) ∧ w'.cell? ⟨w.heap.size, 2, none⟩ = some (.int .i64 s) ∧ w'.cell? ⟨w.heap.size + 1, 0, none⟩ = some (.string o') ∧ w'.cell? ⟨w.heap.size + 1, 1, none⟩ = some (.int .i64 r') ∧ w'.cell? ⟨w.heap.size + 1, 2, none⟩ = some (.int .i64 s')) (go_keep) (first
  | (go_at_call 149; refine (HS.out _).mono ?_; rintro e w1 ⟨rfl, rfl⟩; clear HS)
  | (go_at_call 148; refine HOQ.out.mono ?_; rintro e w1 ⟨rfl, rfl⟩)
  | (go_at_call 148; refine (HOR.out W.drew).mono ?_; rintro e w1 ⟨rfl, rfl⟩)
  | (go_at_call 175; refine (H1.out _).mono ?_; clear H1; rintro e w1 ⟨rfl, rfl⟩)
  | (go_at_call 175; refine (H2.out _).mono ?_; clear H2; rintro e w1 ⟨rfl, rfl⟩))
 go_wp2
 go_ret
 first | exact ⟨rfl, (HB.out.drew).alloc (by show w.heap.size ≤ W.heap.size; omega) _⟩ | exact ⟨rfl, (HB.out.alloc (by omega) _).drew⟩
end Go.Proofs.YtdknoflkingodaaGreat
namespace Go.Proofs.YtdknoflkingodaaGreat
set_option maxRecDepth 100000
set_option linter.unusedVariables false
open Go.RowKit
theorem ret_rank {fn : Func} {q : Tmp} (h : fn.results = #[.cell q 147]) {tmps : Array Value} {w : World} {g : Nat} {cs : Array Value} (hc : cs.size = 3) (hp : tmps.getD q undef = .pointer (some ⟨g, 0, none⟩)) (hg : Row w g cs 147) :
  (results fn tmps).run Tryz.prog w = .ok (.agg cs) w := results_cell_row h tmps w g 147 _ (0, 0) _ hp hg Tryz.underlying147 rfl (by rw [hc]; kernel_rfl)
theorem as_tt (v : Value) (w : World) : (Instr.typeAssert (.iface 38 v) 205 38 true).run Tryz.prog w = .ok (.tuple #[v, .bool true]) w := by kernel_rfl
theorem as_ll (v : Value) (w : World) : (Instr.typeAssert (.iface 40 v) 205 40 true).run Tryz.prog w = .ok (.tuple #[v, .bool true]) w := by kernel_rfl
theorem as_cc (v : Value) (w : World) : (Instr.typeAssert (.iface 35 v) 205 35 true).run Tryz.prog w = .ok (.tuple #[v, .bool true]) w := by kernel_rfl
theorem as_lt (v : Value) (w : World) : (Instr.typeAssert (.iface 40 v) 205 38 true).run Tryz.prog w = .ok (.tuple #[.agg #[.string { data := #[] }, .int .i64 0, .int .i64 0], .bool false]) w := by kernel_rfl
theorem as_ct (v : Value) (w : World) : (Instr.typeAssert (.iface 35 v) 205 38 true).run Tryz.prog w = .ok (.tuple #[.agg #[.string { data := #[] }, .int .i64 0, .int .i64 0], .bool false]) w := by kernel_rfl
theorem as_cl (v : Value) (w : World) : (Instr.typeAssert (.iface 35 v) 205 40 true).run Tryz.prog w = .ok (.tuple #[.agg #[.bool false, .string { data := #[] }, .string { data := #[] }, .int .i64 0, .int .i64 0, .int .i64 0], .bool false]) w := by kernel_rfl
theorem rankTa_calls (x : Ta) (w : World) :
  Calls Tryz.prog 123 #[.iface 38 (.agg #[.string x.o, .int .i64 x.r, .int .i64 x.n])] w fun e w' => e = .returned (.agg #[.string x.o, .int .i64 x.r, .int .i64 0]) ∧ Below w.heap.size w w' := by
 have h1 := as_tt
 go_enter Tryz.func123, Tryz.ntmps123
 go_wp2
 exact bodyPost_ret (ret_rank rfl rfl rfl ((row_new _ _ _ rfl).alloc _)) rfl ⟨rfl, ((Below.refl _ _).alloc (Nat.le_refl _) _).alloc (by simp) _⟩
theorem rankLi_calls (x : Li) (w : World) :
  Calls Tryz.prog 123 #[.iface 40 (.agg #[.bool x.m, .string x.o, .string x.y, .int .i64 x.v, .int .i64 x.r, .int .i64 x.s])] w fun e w' => e = .returned (.agg #[.string { data := #[] }, .int .i64 x.r, .int .i64 x.s]) ∧ Below w.heap.size w w' := by
 have h1 := as_lt
 have h2 := as_ll
 go_enter Tryz.func123, Tryz.ntmps123
 go_wp2
 exact bodyPost_ret (ret_rank rfl rfl rfl ((row_new _ _ _ rfl).alloc _)) rfl ⟨rfl, ((Below.refl _ _).alloc (Nat.le_refl _) _).alloc (by simp) _⟩
theorem rankCe_calls (x : Ce) (w : World) :
  Calls Tryz.prog 123 #[.iface 35 (.agg #[.string x.o, .int .i64 x.r, .int .i64 x.s, .int .i64 x.t, .int .i64 x.x, .int .i64 x.z, .int .i64 x.v, .bool x.g])] w fun e w' => e = .returned (.agg #[.string { data := #[] }, .int .i64 x.r, .int .i64 x.s]) ∧ Below w.heap.size w w' := by
 have h1 := as_ct
 have h2 := as_cl
 have h3 := as_cc
 go_enter Tryz.func123, Tryz.ntmps123
 go_wp2
 exact bodyPost_ret (ret_rank rfl rfl rfl ((row_new _ _ _ rfl).alloc _)) rfl ⟨rfl, ((Below.refl _ _).alloc (Nat.le_refl _) _).alloc (by simp) _⟩
end Go.Proofs.YtdknoflkingodaaGreat
namespace Go.Proofs.YtdknoflkingodaaGreat
set_option maxRecDepth 100000
set_option linter.unusedVariables false
open Go.RowKit
def taR (a : Ta) : Prop := (0 ≤ a.r ∧ a.r ≤ 2) ∧ (0 ≤ a.n ∧ a.n ≤ 999999)
theorem tallyRight_calls (x : Ta) (u : Value) (w : World) :
  Calls Tryz.prog 330 #[.agg #[.string x.o, .int .i64 x.r, .int .i64 x.n], u] w fun e w' => Tells e (taR x) ∧ Below w.heap.size w w' := by
 have hB : Hid (Below w.heap.size w (w.alloc (.cells #[.string x.o, .int .i64 x.r, .int .i64 x.n] 38))) := (Below.refl _ _).alloc (Nat.le_refl _) _
 have HV : Hid (∀ wx, Calls Tryz.prog 328 #[.int .i64 x.n] wx fun e w' => e = .returned (.bool (decide (0 ≤ x.n ∧ x.n ≤ 999999))) ∧ w' = wx) := fun wx => valOk_calls x.n wx
 by_cases h1 : 0 ≤ x.r
 case neg =>
  have HN : Hid (¬ taR x) := fun h => h1 h.1.1
  go_enter Tryz.func330, Tryz.ntmps330
  go_wp2
  go_ret
  exact ⟨Tells.no HN.out, hB.out⟩
 by_cases h2 : x.r < 3
 case neg =>
  have HN : Hid (¬ taR x) := fun h => h2 (by have := h.1.2; omega)
  go_enter Tryz.func330, Tryz.ntmps330
  go_wp2
  go_ret
  exact ⟨Tells.no HN.out, hB.out⟩
 by_cases h3 : 0 ≤ x.n ∧ x.n ≤ 999999
 ·have HN : Hid (taR x) := ⟨⟨h1, by omega⟩, h3⟩
  rw [decide_eq_true h3] at HV
  clear h3
  go_enter Tryz.func330, Tryz.ntmps330
  go_wp2_with (go_at_call 328; refine (HV.out _).mono ?_; rintro e w2 ⟨rfl, rfl⟩)
  go_ret
  exact ⟨Tells.yes HN.out, hB.out⟩
 ·have HN : Hid (¬ taR x) := fun h => h3 h.2
  rw [decide_eq_false h3] at HV
  clear h3
  go_enter Tryz.func330, Tryz.ntmps330
  go_wp2_with (go_at_call 328; refine (HV.out _).mono ?_; rintro e w2 ⟨rfl, rfl⟩)
  go_ret
  exact ⟨Tells.no HN.out, hB.out⟩
end Go.Proofs.YtdknoflkingodaaGreat
namespace Go.Proofs.YtdknoflkingodaaGreat
set_option maxRecDepth 100000
set_option linter.unusedVariables false
open Go.RowKit
set_option maxHeartbeats 4000000 in
theorem liveRight_false (x : Li) (l : List Int) (u : Value) (w : World) (ho : x.o.size ≤ 1048576) (hy : x.y.size ≤ 1048576) (hu : IntsAt w u l) :
  Calls Tryz.prog 331 #[.agg #[.bool false, .string x.o, .string x.y, .int .i64 x.v, .int .i64 x.r, .int .i64 x.s], u] w fun e w' => Tells e ((knows l x.r x.s = true) ∧ (NOk x.o) ∧ (NOk x.y) ∧ (0 ≤ x.v ∧ x.v ≤ 999999) ∧ (x.v = 0)) ∧ Below w.heap.size w w' := by
 obtain ⟨W, hW⟩ : ∃ W, W = w.alloc (.cells #[.bool false, .string x.o, .string x.y, .int .i64 x.v, .int .i64 x.r, .int .i64 x.s] 40) := ⟨_, rfl⟩
 have hR : Row W w.heap.size #[.bool false, .string x.o, .string x.y, .int .i64 x.v, .int .i64 x.r, .int .i64 x.s] 40 := by rw [hW]; exact row_new w _ _ rfl
 have hB : Below w.heap.size w W := by rw [hW]; exact (Below.refl _ _).alloc (Nat.le_refl _) _
 have hI : IntsAt W u l := hu.below hB
 have HR := hidI hR
 have HW : Hid (w.alloc (.cells #[.bool false, .string x.o, .string x.y, .int .i64 x.v, .int .i64 x.r, .int .i64 x.s] 40) = W) := hW.symm
 have HB := hidI hB
 have HK := hidI (knows_calls l u x.r x.s W hI)
 have HV : Hid (∀ wx, Calls Tryz.prog 328 #[.int .i64 x.v] wx fun e w' => e = .returned (.bool (decide (0 ≤ x.v ∧ x.v ≤ 999999))) ∧ w' = wx) := fun wx => valOk_calls x.v wx
 have HNO : Hid (∀ wx, Calls Tryz.prog 327 #[.string x.o] wx fun e w' => e = .returned (.bool (decide (NOk x.o))) ∧ w' = wx) := fun wx => implNameOk_calls x.o (by unfold maxLen; omega) wx
 have HNY : Hid (∀ wx, Calls Tryz.prog 327 #[.string x.y] wx fun e w' => e = .returned (.bool (decide (NOk x.y))) ∧ w' = wx) := fun wx => implNameOk_calls x.y (by unfold maxLen; omega) wx
 have d0 := HR.out.cell 0 rfl
 have d1 := HR.out.cell 1 rfl
 have d2 := HR.out.cell 2 rfl
 have d3 := HR.out.cell 3 rfl
 have d4 := HR.out.cell 4 rfl
 have d5 := HR.out.cell 5 rfl
 rw [hW] at d0 d1 d2 d3 d4 d5
 clear hW hR hB hI hu
 by_cases q0 : knows l x.r x.s = true
 case neg =>
  have HN : Hid (¬ ((knows l x.r x.s = true) ∧ (NOk x.o) ∧ (NOk x.y) ∧ (0 ≤ x.v ∧ x.v ≤ 999999) ∧ (x.v = 0))) := fun h => q0 h.1
  rw [show knows l x.r x.s = false by simpa using q0] at HK
  clear q0
  go_enter Tryz.func331, Tryz.ntmps331
  go_wp2_with fail
  rw [HW.out]
  refine HK.out.mono ?_
  rintro e w1 ⟨rfl, hb⟩
  have HR1 := hidI (HR.out.next hb)
  have HB1 := hidI (HB.out.trans (hb.mono HB.out.size))
  clear hb d0 d1 d2 d3 d4 d5
  have d0 := HR1.out.cell 0 rfl
  have d1 := HR1.out.cell 1 rfl
  have d2 := HR1.out.cell 2 rfl
  have d3 := HR1.out.cell 3 rfl
  have d4 := HR1.out.cell 4 rfl
  have d5 := HR1.out.cell 5 rfl
  first | rw [hkn] | skip
  go_wp2_with (first | (go_at_call 327; refine (HNO.out _).mono ?_; rintro e w2 ⟨rfl, rfl⟩; clear HNO) | (go_at_call 327; refine (HNY.out _).mono ?_; rintro e w2 ⟨rfl, rfl⟩) | (go_at_call 328; refine (HV.out _).mono ?_; rintro e w2 ⟨rfl, rfl⟩))
  go_ret
  exact ⟨Tells.no HN.out, HB1.out⟩
 rw [q0] at HK
 by_cases q1 : NOk x.o
 case neg =>
  have HN : Hid (¬ ((knows l x.r x.s = true) ∧ (NOk x.o) ∧ (NOk x.y) ∧ (0 ≤ x.v ∧ x.v ≤ 999999) ∧ (x.v = 0))) := fun h => q1 h.2.1
  rw [decide_eq_false q1] at HNO
  clear q0 q1
  go_enter Tryz.func331, Tryz.ntmps331
  go_wp2_with fail
  rw [HW.out]
  refine HK.out.mono ?_
  rintro e w1 ⟨rfl, hb⟩
  have HR1 := hidI (HR.out.next hb)
  have HB1 := hidI (HB.out.trans (hb.mono HB.out.size))
  clear hb d0 d1 d2 d3 d4 d5
  have d0 := HR1.out.cell 0 rfl
  have d1 := HR1.out.cell 1 rfl
  have d2 := HR1.out.cell 2 rfl
  have d3 := HR1.out.cell 3 rfl
  have d4 := HR1.out.cell 4 rfl
  have d5 := HR1.out.cell 5 rfl
  go_wp2_with (first | (go_at_call 327; refine (HNO.out _).mono ?_; rintro e w2 ⟨rfl, rfl⟩; clear HNO) | (go_at_call 327; refine (HNY.out _).mono ?_; rintro e w2 ⟨rfl, rfl⟩) | (go_at_call 328; refine (HV.out _).mono ?_; rintro e w2 ⟨rfl, rfl⟩))
  go_ret
  exact ⟨Tells.no HN.out, HB1.out⟩
 rw [decide_eq_true q1] at HNO
 by_cases q2 : NOk x.y
 case neg =>
  have HN : Hid (¬ ((knows l x.r x.s = true) ∧ (NOk x.o) ∧ (NOk x.y) ∧ (0 ≤ x.v ∧ x.v ≤ 999999) ∧ (x.v = 0))) := fun h => q2 h.2.2.1
  rw [decide_eq_false q2] at HNY
  clear q0 q1 q2
  go_enter Tryz.func331, Tryz.ntmps331
  go_wp2_with fail
  rw [HW.out]
  refine HK.out.mono ?_
  rintro e w1 ⟨rfl, hb⟩
  have HR1 := hidI (HR.out.next hb)
  have HB1 := hidI (HB.out.trans (hb.mono HB.out.size))
  clear hb d0 d1 d2 d3 d4 d5
  have d0 := HR1.out.cell 0 rfl
  have d1 := HR1.out.cell 1 rfl
  have d2 := HR1.out.cell 2 rfl
  have d3 := HR1.out.cell 3 rfl
  have d4 := HR1.out.cell 4 rfl
  have d5 := HR1.out.cell 5 rfl
  go_wp2_with (first | (go_at_call 327; refine (HNO.out _).mono ?_; rintro e w2 ⟨rfl, rfl⟩; clear HNO) | (go_at_call 327; refine (HNY.out _).mono ?_; rintro e w2 ⟨rfl, rfl⟩) | (go_at_call 328; refine (HV.out _).mono ?_; rintro e w2 ⟨rfl, rfl⟩))
  go_ret
  exact ⟨Tells.no HN.out, HB1.out⟩
 rw [decide_eq_true q2] at HNY
 by_cases q3 : 0 ≤ x.v ∧ x.v ≤ 999999
 case neg =>
  have HN : Hid (¬ ((knows l x.r x.s = true) ∧ (NOk x.o) ∧ (NOk x.y) ∧ (0 ≤ x.v ∧ x.v ≤ 999999) ∧ (x.v = 0))) := fun h => q3 h.2.2.2.1
  rw [decide_eq_false q3] at HV
  clear q0 q1 q2 q3
  go_enter Tryz.func331, Tryz.ntmps331
  go_wp2_with fail
  rw [HW.out]
  refine HK.out.mono ?_
  rintro e w1 ⟨rfl, hb⟩
  have HR1 := hidI (HR.out.next hb)
  have HB1 := hidI (HB.out.trans (hb.mono HB.out.size))
  clear hb d0 d1 d2 d3 d4 d5
  have d0 := HR1.out.cell 0 rfl
  have d1 := HR1.out.cell 1 rfl
  have d2 := HR1.out.cell 2 rfl
  have d3 := HR1.out.cell 3 rfl
  have d4 := HR1.out.cell 4 rfl
  have d5 := HR1.out.cell 5 rfl
  go_wp2_with (first | (go_at_call 327; refine (HNO.out _).mono ?_; rintro e w2 ⟨rfl, rfl⟩; clear HNO) | (go_at_call 327; refine (HNY.out _).mono ?_; rintro e w2 ⟨rfl, rfl⟩) | (go_at_call 328; refine (HV.out _).mono ?_; rintro e w2 ⟨rfl, rfl⟩))
  go_ret
  exact ⟨Tells.no HN.out, HB1.out⟩
 rw [decide_eq_true q3] at HV
 by_cases q4 : x.v = 0
 case neg =>
  have HN : Hid (¬ ((knows l x.r x.s = true) ∧ (NOk x.o) ∧ (NOk x.y) ∧ (0 ≤ x.v ∧ x.v ≤ 999999) ∧ (x.v = 0))) := fun h => q4 h.2.2.2.2
  have b4 : (x.v == 0) = false := by simp [q4]
  clear q0 q1 q2 q3 q4
  go_enter Tryz.func331, Tryz.ntmps331
  go_wp2_with fail
  rw [HW.out]
  refine HK.out.mono ?_
  rintro e w1 ⟨rfl, hb⟩
  have HR1 := hidI (HR.out.next hb)
  have HB1 := hidI (HB.out.trans (hb.mono HB.out.size))
  clear hb d0 d1 d2 d3 d4 d5
  have d0 := HR1.out.cell 0 rfl
  have d1 := HR1.out.cell 1 rfl
  have d2 := HR1.out.cell 2 rfl
  have d3 := HR1.out.cell 3 rfl
  have d4 := HR1.out.cell 4 rfl
  have d5 := HR1.out.cell 5 rfl
  go_wp2_with (first | (go_at_call 327; refine (HNO.out _).mono ?_; rintro e w2 ⟨rfl, rfl⟩; clear HNO) | (go_at_call 327; refine (HNY.out _).mono ?_; rintro e w2 ⟨rfl, rfl⟩) | (go_at_call 328; refine (HV.out _).mono ?_; rintro e w2 ⟨rfl, rfl⟩))
  go_ret
  exact ⟨Tells.no HN.out, HB1.out⟩
 have b4 : (x.v == 0) = true := by simp [q4]
 have HN : Hid ((knows l x.r x.s = true) ∧ (NOk x.o) ∧ (NOk x.y) ∧ (0 ≤ x.v ∧ x.v ≤ 999999) ∧ (x.v = 0)) := ⟨q0, q1, q2, q3, q4⟩
 clear q0 q1 q2 q3 q4
 go_enter Tryz.func331, Tryz.ntmps331
 go_wp2_with fail
 rw [HW.out]
 refine HK.out.mono ?_
 rintro e w1 ⟨rfl, hb⟩
 have HR1 := hidI (HR.out.next hb)
 have HB1 := hidI (HB.out.trans (hb.mono HB.out.size))
 clear hb d0 d1 d2 d3 d4 d5
 have d0 := HR1.out.cell 0 rfl
 have d1 := HR1.out.cell 1 rfl
 have d2 := HR1.out.cell 2 rfl
 have d3 := HR1.out.cell 3 rfl
 have d4 := HR1.out.cell 4 rfl
 have d5 := HR1.out.cell 5 rfl
 go_wp2_with (first | (go_at_call 327; refine (HNO.out _).mono ?_; rintro e w2 ⟨rfl, rfl⟩; clear HNO) | (go_at_call 327; refine (HNY.out _).mono ?_; rintro e w2 ⟨rfl, rfl⟩) | (go_at_call 328; refine (HV.out _).mono ?_; rintro e w2 ⟨rfl, rfl⟩))
 go_ret
 exact ⟨Tells.yes HN.out, HB1.out⟩
end Go.Proofs.YtdknoflkingodaaGreat
