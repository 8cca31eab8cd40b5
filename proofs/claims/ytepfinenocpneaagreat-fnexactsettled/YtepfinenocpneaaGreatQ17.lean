/- A text is put into a list of texts, as the specification doe. -/
import Derived.Laws.Cover1
import Derived.Sort.Walk0
import Derived.Test.YtepfinenocpneaaGreatQ2
import Derived.Test.YtepfinenocpneaaGreatQ16
set_option maxHeartbeats 16000000
namespace Go.Proofs.YtepfinenocpneaaGreat
open Value (int)
open IntKind (i64)
set_option maxRecDepth 100000
set_option linter.unusedVariables false
open Go.RowKit
theorem Yh (s : ByteArray) : s.toList = s.data.toList := ByteArray.toList_eq s
theorem Jq {α : Type} (l : List α) (x : α) : (l ++ [x]).length = l.length + 1 := by simp
theorem GI {α : Type} (l : List α) (k : Nat) (h : k < l.length) : l.take (k + 1) = l.take k ++ [l[k]] := List.take_succ_eq_append_getElem h
theorem Jc4 (x s : List UInt8) (h : s < x) : Op.bytesLess x s = false := by
 rw [bytesLess_eq]; exact decide_eq_false (fun k => List.lt_irrefl _ (List.lt_trans h k))
theorem Jd8 (x s : List UInt8) (h : ¬ s < x) (hne : x ≠ s) : Op.bytesLess x s = true := by
 rw [bytesLess_eq]; exact decide_eq_true (JcU (List.not_lt.1 h) hne)
def Asc {α : Type} (ok : α → Prop) (lt : α → α → Prop) (l : List α) : Prop := ∀ i (h : i < l.length), ok l[i] ∧ (∀ (h0 : 0 < i), lt (l[i - 1]'(by omega)) l[i])
def ZW {α : Type} (ok : α → Prop) (lt : α → α → Prop) (l : List α) (k : Nat) : Prop := ∀ i (h : i < l.length), i < k → ok l[i] ∧ (∀ (h0 : 0 < i), lt (l[i - 1]'(by omega)) l[i])
theorem YP {α : Type} {ok : α → Prop} {lt : α → α → Prop} {l : List α} {k : Nat} (h : ZW ok lt l k) (hk : l.length ≤ k) : Asc ok lt l := fun i hi => h i hi (by omega)
theorem U8 {α : Type} (ok : α → Prop) (lt : α → α → Prop) (l : List α) : ZW ok lt l 0 := fun i _ h => by omega
theorem Uy {α : Type} {ok : α → Prop} {lt : α → α → Prop} {l : List α} {k : Nat} (h : ZW ok lt l k) (hk : k < l.length) (h1 : ok l[k]) (h2 : ∀ (h0 : 0 < k), lt (l[k - 1]'(by omega)) l[k]) : ZW ok lt l (k + 1) := fun i hi hik => by
 by_cases e : i = k
 ·subst e; exact ⟨h1, h2⟩
 ·exact h i hi (by omega)
theorem Asc.mem {α : Type} {ok : α → Prop} {lt : α → α → Prop} {l : List α} (h : Asc ok lt l) : ∀ a ∈ l, ok a := fun a ha => by
 obtain ⟨i, hi, rfl⟩ := List.mem_iff_getElem.1 ha
 exact (h i hi).1
theorem Asc.pair {α : Type} {ok : α → Prop} {lt : α → α → Prop} {l : List α} (ht : ∀ a b c, lt a b → lt b c → lt a c) (h : Asc ok lt l) : l.Pairwise lt := by
 rw [List.pairwise_iff_getElem]
 intro i j hi hj hij
 induction j with
 | zero => omega
 | succ j ih =>
  have h1 := (h (j + 1) hj).2 (by omega)
  simp only [Nat.add_sub_cancel] at h1
  by_cases e : i = j
  ·subst e; exact h1
  ·exact ht _ _ _ (ih (by omega) (by omega)) h1
theorem Asc.of_pair {α : Type} {ok : α → Prop} {lt : α → α → Prop} {l : List α} (h1 : ∀ a ∈ l, ok a) (h2 : l.Pairwise lt) : Asc ok lt l := fun i hi =>
 ⟨h1 _ (List.getElem_mem hi), fun h0 => List.pairwise_iff_getElem.1 h2 (i - 1) i (by omega) hi (by omega)⟩
def Tells (e : Ending) (P : Prop) : Prop := ∃ q : Bool, e = .returned (.bool q) ∧ (q = true ↔ P)
theorem Tells.no {P : Prop} (h : ¬ P) : Tells (.returned (.bool false)) P := ⟨false, rfl, fun e => (by cases e), fun k => absurd k h⟩
theorem Tells.yes {P : Prop} (h : P) : Tells (.returned (.bool true)) P := ⟨true, rfl, fun _ => h, fun _ => rfl⟩
def Z3 (a b : Ta) : Prop := a.o.data.toList < b.o.data.toList ∨ (a.o = b.o ∧ a.r < b.r)
def Vr (a : Ta) : Prop := NOk a.o ∧ (0 ≤ a.r ∧ a.r ≤ 2) ∧ (0 ≤ a.n ∧ a.n ≤ 999999)
def KV (l : List Ta) : Prop := l.length ≤ 120 ∧ Asc Vr Z3 l
def Jo (r s r' s' : Int) : Prop := r < r' ∨ (r = r' ∧ s < s')
instance (r s r' s' : Int) : Decidable (Jo r s r' s') := by unfold Jo; infer_instance
theorem ZA (r s r' s' : Int) (w : World) :
  Calls Tryz.prog 109 #[.agg #[int i64 r, int i64 s], .agg #[int i64 r', int i64 s']] w fun e w' => e = .returned (.bool (decide (Jo r s r' s'))) ∧ Below w.heap.size w w' := by
 have hB : Below w.heap.size w ((w.alloc (.cells #[int i64 r, int i64 s] 42)).alloc (.cells #[int i64 r', int i64 s'] 42)) := ((Below.refl _ _).alloc (Nat.le_refl _) _).alloc (by simp) _
 have HB := Ja hB
 have HQ : Hid (∀ b : Bool, (b = true ↔ Jo r s r' s') → b = decide (Jo r s r' s')) := fun b h => by
  cases b with
  | true => exact (decide_eq_true (h.1 rfl)).symm
  | false => exact (decide_eq_false (fun k => by have := h.2 k; cases this)).symm
 clear hB
 by_cases h1 : r < r'
 ·have HE := Ja (HQ.out true ⟨fun _ => .inl h1, fun _ => rfl⟩)
  rw [← HE.out]
  go_enter Tryz.func109, Tryz.ntmps109
  go_wp2
  go_ret
  exact ⟨rfl, HB.out⟩
 ·by_cases h2 : r = r'
  ·have b2 : (r == r') = true := by simp [h2]
   by_cases h3 : s < s'
   ·have HE := Ja (HQ.out true ⟨fun _ => .inr ⟨h2, h3⟩, fun _ => rfl⟩)
    rw [← HE.out]
    clear h2
    go_enter Tryz.func109, Tryz.ntmps109
    go_wp2
    go_ret
    exact ⟨rfl, HB.out⟩
   ·have HE := Ja (HQ.out false ⟨fun h => (by cases h), fun h => absurd h (by unfold Jo; omega)⟩)
    rw [← HE.out]
    clear h2
    go_enter Tryz.func109, Tryz.ntmps109
    go_wp2
    go_ret
    exact ⟨rfl, HB.out⟩
  ·have b2 : (r == r') = false := by simp [h2]
   have HE := Ja (HQ.out false ⟨fun h => (by cases h), fun h => absurd h (by unfold Jo; omega)⟩)
   rw [← HE.out]
   clear h2
   go_enter Tryz.func109, Tryz.ntmps109
   go_wp2
   go_ret
   exact ⟨rfl, HB.out⟩
theorem VU (a b : ByteArray) : (Op.bytesLess a.toList b.toList = false ∧ (a.toList == b.toList) = false ∧ b.data.toList < a.data.toList) ∨ (Op.bytesLess a.toList b.toList = false ∧ (a.toList == b.toList) = true ∧ a = b) ∨ (Op.bytesLess a.toList b.toList = true ∧ (a.toList == b.toList) = false ∧ a.data.toList < b.data.toList) := by
 rw [Yh a, Yh b]
 have hab : a.data.toList = b.data.toList → a = b := fun h => ByteArray.ext (Array.ext' h)
 by_cases h1 : b.data.toList < a.data.toList
 ·refine .inl ⟨Jc4 _ _ h1, ?_, h1⟩
  simp only [beq_eq_false_iff_ne, ne_eq]
  intro e; rw [e] at h1; exact List.lt_irrefl _ h1
 ·by_cases h2 : a.data.toList = b.data.toList
  ·refine .inr (.inl ⟨?_, by simp [h2], hab h2⟩)
   rw [bytesLess_eq, h2]; exact decide_eq_false (List.lt_irrefl _)
  ·exact .inr (.inr ⟨Jd8 _ _ h1 h2, by simpa using h2, JcU (List.not_lt.1 h1) h2⟩)
theorem Jbr {a b : ByteArray} (h : a.data.toList < b.data.toList) : ¬ a = b := fun e => by rw [e] at h; exact List.lt_irrefl _ h
theorem KU (l : List Ta) (u : Value) (w : World) (hn : l.length ≤ 1048576) (hst : ∀ a ∈ l, a.o.size ≤ 1048576) (h : TaAt w u l) :
  Calls Tryz.prog 59 #[u] w fun e w' => Tells e (KV l) ∧ Below w.heap.size w w' := by
 obtain ⟨aa, ca, rfl, hga⟩ := h
 have HGA : Hid (TaG w aa l) := hga
 have HST := Ja hst
 obtain ⟨n, hnl⟩ : ∃ n, n = l.length := ⟨_, rfl⟩
 have HL : Hid (n = l.length) := hnl
 have HNO : Hid (¬ Asc Vr Z3 l → (false = true ↔ KV l)) := fun h => ⟨fun e => (by cases e), fun k => absurd k.2 h⟩
 have HYES : Hid (ZW Vr Z3 l n → (decide ((n : Int) ≤ 120) = true ↔ KV l)) := fun h => by
  rw [hnl] at h ⊢
  constructor
  ·intro k; exact ⟨by have := of_decide_eq_true k; omega, YP h (Nat.le_refl _)⟩
  ·intro k; exact decide_eq_true (by have := k.1; omega)
 rw [← hnl] at hn ⊢
 clear hnl hga hst
 go_enter Tryz.func59, Tryz.ntmps59
 go_wp2
 go_loopw [3] (fun z wr => ∃ k : Nat, k ≤ n ∧ z = int i64 k ∧ ZW Vr Z3 l k ∧ Below w.heap.size w wr) (fun z _ => n - (intOf z).toNat)
 case atStart => exact ⟨0, Nat.zero_le _, rfl, U8 _ _ _, Below.refl _ _⟩
 case round =>
  obtain ⟨k, hk, rfl, hasc, hbel⟩ := hrel
  have HBE := Ja hbel
  have HAS := Ja hasc
  have hsz := hbel.size
  clear hasc
  by_cases hlt : k < n
  ·have hkl : k < l.length := by rw [← HL.out]; exact hlt
   obtain ⟨g, f, rfl, hg, hcc⟩ := HGA.out (by omega)
   have hk1 : (k : Int) < n := by omega
   have hk0 : (0 : Int) ≤ k := by omega
   have q := (hcc k hkl).below hbel hg
   have hp1 : k - 1 < l.length := by omega
   have HPC : Hid (∀ wx, Below w.heap.size w wx → taC wx g (f + (k - 1) * 3) l[k - 1]) := fun wx h => (hcc (k - 1) hp1).below h hg
   have HF1 : Hid (¬ Vr l[k] → (false = true ↔ KV l)) := fun h => HNO.out (fun a => h (a k hkl).1)
   have HF2 : Hid (0 < k → ¬ Z3 l[k - 1] l[k] → (false = true ↔ KV l)) := fun h0 h => HNO.out (fun a => h ((a k hkl).2 h0))
   have HMO : Hid (Vr l[k] → (0 < k → Z3 l[k - 1] l[k]) → ZW Vr Z3 l (k + 1)) := fun h1 h2 => Uy HAS.out hkl h1 h2
   have hsx := HST.out l[k] (List.getElem_mem hkl)
   generalize l[k - 1] = p at *
   generalize l[k] = x at *
   unfold taC at q
   obtain ⟨q0, q1, q2⟩ := q
   have HBA : Hid (Below w.heap.size w (wr.alloc (.cells #[.string x.o, int i64 x.r, int i64 x.n] 86))) := HBE.out.alloc hsz _
   have hW : Row (wr.alloc (.cells #[.string x.o, int i64 x.r, int i64 x.n] 86)) wr.heap.size #[.string x.o, int i64 x.r, int i64 x.n] 86 := Jb wr _ _ rfl
   have HN : Hid (∀ wx, Calls Tryz.prog 108 #[.string x.o] wx fun e w' => e = .returned (.bool (decide (NOk x.o))) ∧ w' = wx) := fun wx => JO x.o (by unfold maxLen; omega) wx
   have HI1 : Hid (∀ wx, Calls Tryz.prog 84 #[int i64 x.r, int i64 0, int i64 2] wx fun e w' => e = .returned (.bool (decide (0 ≤ x.r) && decide (x.r ≤ 2))) ∧ w' = wx) := fun wx => JK x.r 0 2 wx
   have HI2 : Hid (∀ wx, Calls Tryz.prog 84 #[int i64 x.n, int i64 0, int i64 999999] wx fun e w' => e = .returned (.bool (decide (0 ≤ x.n) && decide (x.n ≤ 999999))) ∧ w' = wx) := fun wx => JK x.n 0 999999 wx
   have HWR := Ja hW
   clear hcc hbel hkl hp1 hsx hW HAS HNO
   by_cases h1 : NOk x.o
   case neg =>
    rw [decide_eq_false h1] at HN
    have HE := Ja (HF1.out (fun h => h1 h.1))
    clear h1 HF1 HF2 HMO HPC
    go_wp2_with fail
    refine (HN.out _).mono ?_
    rintro e w1 ⟨rfl, rfl⟩
    go_wp2
    go_ret
    exact ⟨⟨false, rfl, HE.out⟩, HBA.out⟩
   rw [decide_eq_true h1] at HN
   by_cases h2 : 0 ≤ x.r ∧ x.r ≤ 2
   case neg =>
    have hb : (decide (0 ≤ x.r) && decide (x.r ≤ 2)) = false := by
     by_cases ha : 0 ≤ x.r <;> by_cases hb : x.r ≤ 2 <;> simp [ha, hb] <;> exact h2 ⟨ha, hb⟩
    rw [hb] at HI1
    have HE := Ja (HF1.out (fun h => h2 h.2.1))
    clear h1 h2 hb HF1 HF2 HMO HPC
    go_wp2_with fail
    refine (HN.out _).mono ?_
    rintro e w1 ⟨rfl, rfl⟩
    go_wp2_with fail
    refine (HI1.out _).mono ?_
    rintro e w1 ⟨rfl, rfl⟩
    go_wp2
    go_ret
    exact ⟨⟨false, rfl, HE.out⟩, HBA.out⟩
   have hb1 : (decide (0 ≤ x.r) && decide (x.r ≤ 2)) = true := by simp [h2]
   rw [hb1] at HI1
   by_cases h3 : 0 ≤ x.n ∧ x.n ≤ 999999
   case neg =>
    have hb : (decide (0 ≤ x.n) && decide (x.n ≤ 999999)) = false := by
     by_cases ha : 0 ≤ x.n <;> by_cases hb : x.n ≤ 999999 <;> simp [ha, hb] <;> exact h3 ⟨ha, hb⟩
    rw [hb] at HI2
    have HE := Ja (HF1.out (fun h => h3 h.2.2))
    clear h1 h2 h3 hb hb1 HF1 HF2 HMO HPC
    go_wp2_with fail
    refine (HN.out _).mono ?_
    rintro e w1 ⟨rfl, rfl⟩
    go_wp2_with fail
    refine (HI1.out _).mono ?_
    rintro e w1 ⟨rfl, rfl⟩
    clear HI1
    go_wp2_with fail
    refine (HI2.out _).mono ?_
    rintro e w1 ⟨rfl, rfl⟩
    go_wp2
    go_ret
    exact ⟨⟨false, rfl, HE.out⟩, HBA.out⟩
   have hb2 : (decide (0 ≤ x.n) && decide (x.n ≤ 999999)) = true := by simp [h3]
   rw [hb2] at HI2
   have HOX : Hid (Vr x) := ⟨h1, h2, h3⟩
   clear h1 h2 h3 hb1 hb2 HF1
   go_wp2_with fail
   refine (HN.out _).mono ?_
   rintro e w1 ⟨rfl, rfl⟩
   go_wp2_with fail
   refine (HI1.out _).mono ?_
   rintro e w1 ⟨rfl, rfl⟩
   clear HI1
   go_wp2_with fail
   refine (HI2.out _).mono ?_
   rintro e w1 ⟨rfl, rfl⟩
   clear HI2 HN
   generalize hWW : wr.alloc (.cells #[.string x.o, int i64 x.r, int i64 x.n] 86) = WW at *
   have m0 := HWR.out.cell 0 rfl
   have m1 := HWR.out.cell 1 rfl
   by_cases hkz : k = 0
   ·subst hkz
    have HE := Ja (HMO.out HOX.out (fun h0 => by omega))
    clear HMO HF2 HPC hWW
    go_wp2
    go_quiet (fail)
    have HB2 := Ja (Ji HBA.out nq)
    generalize WW.drewN nq = wq at *
    clear HBA HWR m0 m1 q0 q1 q2
    go_wp2
    go_roundw
    case rel => exact ⟨0 + 1, by omega, by go_num, HE.out, HB2.out⟩
    case measure => simp [intOf]; omega
   ·have hkp : 0 < k := by omega
    have hkp1 : (0 : Int) < k := by omega
    have hq1 : (0 : Int) ≤ (k : Int) - 1 := by omega
    have hq2 : (k : Int) - 1 < n := by omega
    have hwk : IntKind.i64.wrap ((k : Int) - 1) = (k : Int) - 1 := by rw [IntKind.wrap_i64] <;> omega
    have hnt : ((k : Int) - 1).toNat = k - 1 := by omega
    obtain ⟨r0, r1, r2⟩ := HPC.out WW HBA.out
    rcases VU p.o x.o with ⟨s1, s2, s3⟩ | ⟨s1, s2, s3⟩ | ⟨s1, s2, s3⟩
    ·have HE := Ja (HF2.out hkp (fun h => by
      rcases h with h | h
      ·exact List.lt_irrefl _ (List.lt_trans h s3)
      ·exact Jbr s3 h.1.symm))
     clear HMO HF2 HPC hWW s3
     go_wp2
     go_quiet (fail)
     have HB2 := Ja (Ji HBA.out nq)
     generalize WW.drewN nq = wq at *
     clear HBA HWR m0 m1 q0 q1 q2 r0 r1 r2
     go_wp2
     go_ret
     exact ⟨⟨false, rfl, HE.out⟩, HB2.out⟩
    ·by_cases hpr : p.r < x.r
     ·have HE := Ja (HMO.out HOX.out (fun _ => .inr ⟨s3, hpr⟩))
      clear HMO HF2 HPC hWW s3
      go_wp2
      go_quiet (fail)
      have HB2 := Ja (Ji HBA.out nq)
      generalize WW.drewN nq = wq at *
      clear HBA HWR m0 m1 q0 q1 q2 r0 r1 r2
      go_wp2
      go_roundw
      case rel => exact ⟨k + 1, by omega, by go_num, HE.out, HB2.out⟩
      case measure => simp [intOf]; omega
     ·have HE := Ja (HF2.out hkp (fun h => by
       rcases h with h | h
       ·exact Jbr h s3
       ·exact hpr h.2))
      clear HMO HF2 HPC hWW s3
      go_wp2
      go_quiet (fail)
      have HB2 := Ja (Ji HBA.out nq)
      generalize WW.drewN nq = wq at *
      clear HBA HWR m0 m1 q0 q1 q2 r0 r1 r2
      go_wp2
      go_ret
      exact ⟨⟨false, rfl, HE.out⟩, HB2.out⟩
    ·have HE := Ja (HMO.out HOX.out (fun _ => .inl s3))
     clear HMO HF2 HPC hWW s3
     go_wp2
     go_quiet (fail)
     have HB2 := Ja (Ji HBA.out nq)
     generalize WW.drewN nq = wq at *
     clear HBA HWR m0 m1 q0 q1 q2 r0 r1 r2
     go_wp2
     go_roundw
     case rel => exact ⟨k + 1, by omega, by go_num, HE.out, HB2.out⟩
     case measure => simp [intOf]; omega
  ·have hk1 : ¬ ((k : Int) < n) := by omega
   have HE := Ja (HYES.out (by have e : k = n := (by omega); rw [← e]; exact HAS.out))
   go_wp2
   go_ret
   exact ⟨⟨_, rfl, HE.out⟩, HBE.out⟩
end Go.Proofs.YtepfinenocpneaaGreat
