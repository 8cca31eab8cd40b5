/- A right state stays right behind an act that is done: its li. -/
import Derived.Test.YtepfinenocpneaaGreatQ28
set_option maxHeartbeats 16000000
namespace Go.Proofs.YtepfinenocpneaaGreat
open Value (int)
open IntKind (i64)
set_option maxRecDepth 100000
set_option linter.unusedVariables false
theorem KJ (a b c : Ta) (h : Z3 a b) (k : Z3 b c) : Z3 a c := by
 rcases h with h | ⟨h1, h2⟩
 ·rcases k with k | ⟨k1, k2⟩
  ·exact .inl (List.lt_trans h k)
  ·exact .inl (k1 ▸ h)
 ·rcases k with k | ⟨k1, k2⟩
  ·exact .inl (h1 ▸ k)
  ·exact .inr ⟨h1.trans k1, by omega⟩
theorem Z5 {a b c d e f : Int} (h : Jo a b c d) (k : Jo c d e f) : Jo a b e f := by unfold Jo at *; omega
theorem Uz {a b c d : Int} (h : ¬ (a = c ∧ b = d)) (k : ¬ Jo a b c d) : Jo c d a b := by unfold Jo at *; omega
theorem KQ (a b c : Li) (h : KD a b) (k : KD b c) : KD a c := Z5 h k
theorem Z9 (a b c : Ce) (h : Zv a b) (k : Zv b c) : Zv a c := Z5 h k
theorem YI {α : Type} {ok : α → Prop} {lt : α → α → Prop} (ht : ∀ a b c, lt a b → lt b c → lt a c) (r : α → Bool) (x : α) (l : List α) (h : Asc ok lt l) (hx : ok x) (h1 : ∀ a ∈ l, r a = true → lt x a) (h2 : ∀ a ∈ l, r a = false → lt a x) : Asc ok lt (ins r x l) := by
 refine Asc.of_pair (fun a ha => ?_) (Jd1 lt ht r x l (h.pair ht) h1 h2)
 rcases (ZO r x l a).1 ha with e | e
 ·exact e ▸ hx
 ·exact h.mem a e
theorem Ja9 {α : Type} {ok : α → Prop} {lt : α → α → Prop} (ht : ∀ a b c, lt a b → lt b c → lt a c) (f : α → Bool) (l : List α) (h : Asc ok lt l) : Asc ok lt (l.filter f) :=
 Asc.of_pair (fun a ha => h.mem a (List.mem_filter.1 ha).1) ((h.pair ht).filter f)
theorem JbF (l : List Li) (x : Li) (h : Asc GA KD l) (hx : GA x) (hd : ∀ a ∈ l, ¬ (x.r = a.r ∧ x.s = a.s)) : Asc GA KD (JE x l) :=
 YI KQ _ x l h hx (fun a _ e => (of_decide_eq_true e : Jo x.r x.s a.r a.s)) (fun a ha e => Uz (hd a ha) (of_decide_eq_false e : ¬ Jo x.r x.s a.r a.s))
theorem Jek (l : List Ce) (x : Ce) (h : Asc KT Zv l) (hx : KT x) (hd : ∀ a ∈ l, ¬ (x.r = a.r ∧ x.s = a.s)) : Asc KT Zv (Zg x l) :=
 YI Z9 _ x l h hx (fun a _ e => (of_decide_eq_true e : Jo x.r x.s a.r a.s)) (fun a ha e => Uz (hd a ha) (of_decide_eq_false e : ¬ Jo x.r x.s a.r a.s))
theorem KP (l : List Li) (m : Bool) (o y : ByteArray) (kl : List Int) (h : Asc GA KD l) : Asc GA KD (Jd l m o y kl) := Ja9 KQ _ l h
theorem Jbc (T : List Ta) (o : ByteArray) (r v : Int) (h : Asc Vr Z3 T) (ho : NOk o) (hr : 0 ≤ r ∧ r ≤ 2) (hv : 0 ≤ v ∧ v ≤ 999999) : Asc Vr Z3 (Jv T o r v) := by
 unfold Jv
 cases e : T.findIdx? (Z1 o r) with
 | some i =>
  obtain ⟨hi, h1, -⟩ := List.findIdx?_eq_some_iff_getElem.1 e
  simp only [List.getElem?_eq_getElem hi]
  intro j hj
  rw [List.length_set] at hj
  have key : ∀ q (hq : q < T.length), ∃ n, 0 ≤ n ∧ n ≤ 999999 ∧ (T.set i { T[i] with n := (T[i].n + v) % 1000000 })[q]'(by rw [List.length_set]; exact hq) = { T[q] with n := n } := by
   intro q hq
   by_cases hqi : i = q
   ·subst hqi
    exact ⟨(T[i].n + v) % 1000000, by omega, by omega, by rw [List.getElem_set_self]⟩
   ·have := (h q hq).1.2.2
    exact ⟨T[q].n, this.1, this.2, by rw [List.getElem_set_ne hqi]⟩
  obtain ⟨n, n1, n2, e1⟩ := key j hj
  rw [e1]
  have hjj := h j hj
  refine ⟨⟨hjj.1.1, hjj.1.2.1, n1, n2⟩, fun h0 => ?_⟩
  obtain ⟨m, -, -, e2⟩ := key (j - 1) (by omega)
  rw [e2]
  exact hjj.2 h0
 | none =>
  have hno := List.findIdx?_eq_none_iff.1 e
  refine YI KJ _ _ T h ⟨ho, hr, hv⟩ (fun a _ hg => ?_) (fun a ha hg => ?_)
  ·rcases of_decide_eq_true hg with e | ⟨e1, e2⟩
   ·exact .inl e
   ·exact .inr ⟨e1.symm, e2⟩
  ·have hn := hno a ha
   have hg' := of_decide_eq_false hg
   by_cases hao : a.o = o
   ·right
    refine ⟨hao, ?_⟩
    have h3 : ¬ a.r = r := fun e => by
     have : Z1 o r a = true := by unfold Z1; exact decide_eq_true ⟨hao, e⟩
     rw [this] at hn; cases hn
    have h4 : ¬ r < a.r := fun e => hg' (.inr ⟨hao, e⟩)
    show a.r < r
    omega
   ·left
    have h5 : ¬ o.data.toList < a.o.data.toList := fun e => hg' (.inl e)
    exact JcU (List.not_lt.1 h5) (fun e => hao (ByteArray.ext (Array.ext' e)))
theorem JdL (C : List Ce) (k : Nat) (h : Asc KT Zv C) : Asc KT Zv (Zw C k) := by
 unfold Zw
 cases e : C[k]? with
 | none => exact h
 | some c =>
  obtain ⟨hk, e1⟩ := List.getElem?_eq_some_iff.1 e
  have key : ∀ q (hq : q < C.length), ∃ g, (C.set k { c with g := true })[q]'(by rw [List.length_set]; exact hq) = { C[q] with g := g } := by
   intro q hq
   by_cases hqi : k = q
   ·subst hqi
    exact ⟨true, by rw [List.getElem_set_self, e1]⟩
   ·exact ⟨C[q].g, by rw [List.getElem_set_ne hqi]⟩
  intro j hj
  have hj' : j < C.length := by simpa using hj
  obtain ⟨g, e2⟩ := key j hj'
  show KT (C.set k { c with g := true })[j] ∧ _
  rw [e2]
  refine ⟨(h j hj').1, fun h0 => ?_⟩
  obtain ⟨g', e3⟩ := key (j - 1) (by omega)
  show Zv (C.set k { c with g := true })[j - 1] _
  rw [e3]
  exact (h j hj').2 h0
theorem YU {l : List Int} (h : KOk l) (rn : Nat) {s : Int} (hs : 0 ≤ s ∧ s ≤ 1000) : KOk (l.set rn s) :=
 ⟨by rw [List.length_set]; exact h.1, fun x hx => (List.mem_or_eq_of_mem_set hx).elim (h.2 x) (fun e => e ▸ hs)⟩
theorem Ye {l : List Int} (h : KOk l) (rn : Nat) {s r' s' : Int} (hs : 0 ≤ s ∧ s ≤ 1000) (hge : l.getD rn 0 ≤ s) (hk : Jf l r' s' = true) : Jf (l.set rn s) r' s' = true := by
 unfold Jf at *
 simp only [Bool.and_eq_true, decide_eq_true_eq] at *
 refine ⟨⟨YU h rn hs, hk.1.2⟩, ?_⟩
 have h2 := hk.2
 by_cases e : rn = r'.toNat
 ·subst e
  by_cases hl : r'.toNat < l.length
  ·rw [show (l.set r'.toNat s).getD r'.toNat 0 = s by simp [List.getD, hl]]; omega
  ·rw [List.set_eq_of_length_le (by omega)]; exact h2
 ·rw [show (l.set rn s).getD r'.toNat 0 = l.getD r'.toNat 0 by simp [List.getD, e]]; exact h2
theorem VL {l : List Int} (h : KOk l) {rn : Nat} {s : Int} (hd : DOk (rn : Int) s) : Jf (l.set rn s) (rn : Int) s = true := by
 unfold Jf
 simp only [Bool.and_eq_true, decide_eq_true_eq]
 have hl := h.1
 have h3 := hd.2.1
 refine ⟨⟨YU h rn ⟨by have := hd.2.2.1; omega, hd.2.2.2⟩, hd⟩, ?_⟩
 rw [show ((rn : Int)).toNat = rn by omega, show (l.set rn s).getD rn 0 = s by simp [List.getD, show rn < l.length by omega]]
 exact Int.le_refl _
theorem Jbj {l m : List Int} {rn : Nat} {s : Int} (hm : KOk m) (hl : KOk l) (hd : DOk (rn : Int) s) (hk : Jf m (rn : Int) s = false) : m.getD rn 0 ≤ s := by
 unfold Jf at hk
 rw [decide_eq_true hm, decide_eq_true hd] at hk
 simp only [Bool.true_and, decide_eq_false_iff_not] at hk
 rw [show ((rn : Int)).toNat = rn by omega] at hk
 omega
theorem Us {l : List Int} {r s r' s' : Int} (h : Jf l r s = false) (k : Jf l r' s' = true) : ¬ (r = r' ∧ s = s') := fun e => by rw [e.1, e.2, k] at h; cases h
theorem Kw : ∀ (C : List Ce) (k0 : Int) (b : Ce), C.Pairwise Zv → b ∈ C → ∃ k, ∃ h : k < C.length, cellAt C b.r b.s k0 = k0 + (k : Int) ∧ C[k] = b
 | [], _, _, _, h => by cases h
 | c :: l, k0, b, hp, hb => by
  by_cases e : c.r = b.r ∧ c.s = b.s
  ·rcases List.mem_cons.1 hb with rfl | hb
   ·exact ⟨0, by simp, by unfold cellAt; rw [if_pos e]; simp, rfl⟩
   ·have := List.rel_of_pairwise_cons hp hb
    unfold Zv Jo at this; omega
  ·rcases List.mem_cons.1 hb with rfl | hb
   ·exact absurd ⟨rfl, rfl⟩ e
   ·obtain ⟨k, hk, h1, h2⟩ := Kw l (k0 + 1) b (List.Pairwise.of_cons hp) hb
    refine ⟨k + 1, by simpa using hk, ?_, by simpa using h2⟩
    unfold cellAt; rw [if_neg e, h1]; omega
theorem U9 : ∀ (l : List Ce) (r s k : Int), cellAt l r s k = -1 ∨ k ≤ cellAt l r s k
 | [], _, _, _ => .inl rfl
 | c :: l, r, s, k => by
  unfold cellAt
  by_cases hc : c.r = r ∧ c.s = s
  ·rw [if_pos hc]; exact .inr (Int.le_refl _)
  ·rw [if_neg hc]
   rcases U9 l r s (k + 1) with h | h
   ·exact .inl h
   ·right; omega
theorem ZG : ∀ (C : List Ce) (r s k0 : Int) (k : Nat) (h : k < C.length), 0 ≤ k0 → cellAt C r s k0 = k0 + (k : Int) → C[k].r = r ∧ C[k].s = s
 | [], _, _, _, k, h, _, _ => by simp at h
 | c :: l, r, s, k0, k, h, h0, e => by
  unfold cellAt at e
  by_cases hc : c.r = r ∧ c.s = s
  ·rw [if_pos hc] at e
   obtain rfl : k = 0 := by omega
   exact hc
  ·rw [if_neg hc] at e
   cases k with
   | zero =>
    exfalso
    have := U9 l r s (k0 + 1)
    simp only [Int.ofNat_zero] at e
    omega
   | succ k => exact ZG l r s (k0 + 1) k (by simpa using h) (by omega) (by rw [e]; push_cast; omega)
theorem Yb {C : List Ce} (hp : C.Pairwise Zv) (a : Ce) : G7 C a ↔ (a.x = 0 ∧ a.z = 0) ∨ ∃ b ∈ C, b.r = a.x ∧ b.s = a.z ∧ b.o = a.o ∧ b.t < a.t := by
 constructor
 ·rintro (h | ⟨k, h, h1, h2, h3⟩)
  ·exact .inl h
  ·have := ZG C a.x a.z 0 k h (Int.le_refl _) (by omega)
   exact .inr ⟨C[k], List.getElem_mem h, this.1, this.2, h2, h3⟩
 ·rintro (h | ⟨b, hb, h1, h2, h3, h4⟩)
  ·exact .inl h
  ·obtain ⟨k, hk, e1, e2⟩ := Kw C 0 b hp hb
   exact .inr ⟨k, hk, by rw [← h1, ← h2, e1]; omega, by rw [e2]; exact h3, by rw [e2]; exact h4⟩
def JbG (a b : Ce) : Prop := a.o = b.o ∧ a.r = b.r ∧ a.s = b.s ∧ a.t = b.t ∧ a.x = b.x ∧ a.z = b.z
theorem KS (C : List Ce) (k : Nat) : ∀ a ∈ Zw C k, ∃ b ∈ C, JbG a b := by
 intro a ha
 unfold Zw at ha
 cases e : C[k]? with
 | none => rw [e] at ha; exact ⟨a, ha, rfl, rfl, rfl, rfl, rfl, rfl⟩
 | some c =>
  rw [e] at ha
  obtain ⟨hk, e1⟩ := List.getElem?_eq_some_iff.1 e
  rcases List.mem_or_eq_of_mem_set ha with h | h
  ·exact ⟨a, h, rfl, rfl, rfl, rfl, rfl, rfl⟩
  ·exact ⟨c, e1 ▸ List.getElem_mem hk, by rw [h], by rw [h], by rw [h], by rw [h], by rw [h], by rw [h]⟩
theorem JcC (C : List Ce) (k : Nat) : ∀ b ∈ C, ∃ a ∈ Zw C k, JbG a b := by
 intro b hb
 unfold Zw
 cases e : C[k]? with
 | none => exact ⟨b, hb, rfl, rfl, rfl, rfl, rfl, rfl⟩
 | some c =>
  obtain ⟨hk, e1⟩ := List.getElem?_eq_some_iff.1 e
  obtain ⟨j, hj, e2⟩ := List.mem_iff_getElem.1 hb
  by_cases hjk : k = j
  ·subst hjk
   have hbc : b = c := by rw [← e2, e1]
   refine ⟨{ c with g := true }, List.mem_iff_getElem.2 ⟨k, by simpa using hk, by simp⟩, ?_⟩
   rw [hbc]; exact ⟨rfl, rfl, rfl, rfl, rfl, rfl⟩
  ·refine ⟨b, List.mem_iff_getElem.2 ⟨j, by simpa using hj, ?_⟩, rfl, rfl, rfl, rfl, rfl, rfl⟩
   rw [List.getElem_set_ne hjk]; exact e2
theorem SOk.of {l : List Int} {T : List Ta} {L : List Li} {C : List Ce} (h1 : KOk l) (h2 : KV T) (h3 : GF L) (h4 : Gj C) (h5 : ∀ a ∈ L, Jf l a.r a.s = true) (h6 : ∀ a ∈ C, Jf l a.r a.s = true) (h7 : ∀ a ∈ C, (a.x = 0 ∧ a.z = 0) ∨ ∃ b ∈ C, b.r = a.x ∧ b.s = a.z ∧ b.o = a.o ∧ b.t < a.t) : SOk ⟨l, T, L, C⟩ :=
 ⟨h1, h2, h3, h4, fun i hi => h5 _ (List.getElem_mem hi), fun i hi => ⟨h6 _ (List.getElem_mem hi), (Yb (h4.2.pair Z9) _).2 (h7 _ (List.getElem_mem hi))⟩⟩
theorem SOk.lives {S : Sta} (h : SOk S) : ∀ a ∈ S.L, Jf S.l a.r a.s = true := fun a ha => by
 obtain ⟨i, hi, rfl⟩ := List.mem_iff_getElem.1 ha
 exact h.2.2.2.2.1 i hi
theorem SOk.cells {S : Sta} (h : SOk S) : ∀ a ∈ S.C, Jf S.l a.r a.s = true := fun a ha => by
 obtain ⟨i, hi, rfl⟩ := List.mem_iff_getElem.1 ha
 exact (h.2.2.2.2.2 i hi).1
theorem SOk.refs {S : Sta} (h : SOk S) : ∀ a ∈ S.C, (a.x = 0 ∧ a.z = 0) ∨ ∃ b ∈ S.C, b.r = a.x ∧ b.s = a.z ∧ b.o = a.o ∧ b.t < a.t := fun a ha => by
 obtain ⟨i, hi, rfl⟩ := List.mem_iff_getElem.1 ha
 exact (Yb (h.2.2.2.1.2.pair Z9) _).1 (h.2.2.2.2.2 i hi).2
theorem JdA {k : Int} {o y : ByteArray} {v : Int} (h : JL k o y v) (hk : 2 ≤ k ∧ k ≤ 5) : NOk y := by
 have h2 := h.2.2.1
 unfold Zf at h2
 rwa [if_pos hk] at h2
theorem SOk.step {S : Sta} {A : Ac} (hS : SOk S) (hA : AOk A) (hk : Jf S.l A.r A.s = false) (hr : Jt S A) (hf : (doS S A).T.length ≤ 120 ∧ (doS S A).L.length ≤ 120 ∧ (doS S A).C.length ≤ 120) : SOk (doS S A) := by
 obtain ⟨rn, hrn⟩ : ∃ rn : Nat, A.r = rn := Int.eq_ofNat_of_zero_le hA.1.1
 have hn : A.r.toNat = rn := by omega
 have hd : DOk (rn : Int) A.s := hrn ▸ hA.1
 have hs : 0 ≤ A.s ∧ A.s ≤ 1000 := ⟨by have := hA.1.2.2.1; omega, hA.1.2.2.2⟩
 have hk' : Jf S.l (rn : Int) A.s = false := hrn ▸ hk
 have hge := Jbj hS.1 hS.1 hd hk'
 have hl' : KOk (S.l.set rn A.s) := YU hS.1 rn hs
 have mono : ∀ r s, Jf S.l r s = true → Jf (S.l.set rn A.s) r s = true := fun r s h => Ye hS.1 rn hs hge h
 have hnew : Jf (S.l.set rn A.s) A.r A.s = true := by rw [hrn]; exact VL hS.1 hd
 have hP := hA.2.2.2.2.1
 have hNo : NOk A.o := hP.2.1
 have m5 : ∀ a ∈ S.L, Jf (S.l.set rn A.s) a.r a.s = true := fun a ha => mono _ _ (hS.lives a ha)
 have m6 : ∀ a ∈ S.C, Jf (S.l.set rn A.s) a.r a.s = true := fun a ha => mono _ _ (hS.cells a ha)
 have hc : A.k = 1 ∨ A.k = 2 ∨ A.k = 3 ∨ A.k = 4 ∨ A.k = 5 ∨ A.k = 6 ∨ A.k = 7 := by have := hP.1; omega
 have mc : ∀ m, ∀ a ∈ Jd S.L m A.o A.y A.l, a ∈ S.L := fun m a ha => (List.mem_filter.1 ha).1
 rcases hc with h | h | h | h | h | h | h
 ·have e : doS S A = ⟨S.l.set rn A.s, Jv S.T A.o A.r A.v, S.L, S.C⟩ := by unfold doS; rw [hn, h]; rfl
  rw [e] at hf ⊢
  exact SOk.of hl' ⟨hf.1, Jbc S.T A.o A.r A.v hS.2.1.2 hNo ⟨by omega, by have := hd.2.1; omega⟩ (Z0 hP (.inl h))⟩ hS.2.2.1 hS.2.2.2.1 m5 m6 hS.refs
 ·have e : doS S A = ⟨S.l.set rn A.s, S.T, JE (Jj false 0 A) S.L, S.C⟩ := by unfold doS; rw [hn, h]; rfl
  rw [e] at hf ⊢
  refine SOk.of hl' hS.2.1 ⟨hf.2.1, JbF _ _ hS.2.2.1.2 ⟨hA.1, hNo, JdA hP (by omega), by show (0 : Int) ≤ 0 ∧ (0 : Int) ≤ 999999; omega, fun _ => rfl⟩ (fun a ha => Us hk (hS.lives a ha))⟩ hS.2.2.2.1 (fun a ha => ?_) m6 hS.refs
  rcases (ZO _ _ _ a).1 ha with e | e
  ·rw [e]; exact hnew
  ·exact m5 a e
 ·have e : doS S A = ⟨S.l.set rn A.s, S.T, Jd S.L false A.o A.y A.l, S.C⟩ := by unfold doS; rw [hn, h]; rfl
  rw [e] at hf ⊢
  exact SOk.of hl' hS.2.1 ⟨hf.2.1, KP _ _ _ _ _ hS.2.2.1.2⟩ hS.2.2.2.1 (fun a ha => m5 a (mc _ a ha)) m6 hS.refs
 ·have e : doS S A = ⟨S.l.set rn A.s, S.T, JE (Jj true A.v A) (Jd S.L true A.o A.y A.l), S.C⟩ := by unfold doS; rw [hn, h]; rfl
  rw [e] at hf ⊢
  refine SOk.of hl' hS.2.1 ⟨hf.2.1, JbF _ _ (KP _ _ _ _ _ hS.2.2.1.2) ⟨hA.1, hNo, JdA hP (by omega), Z0 hP (.inr (.inl h)), fun e => by cases e⟩ (fun a ha => Us hk (hS.lives a (mc _ a ha)))⟩ hS.2.2.2.1 (fun a ha => ?_) m6 hS.refs
  rcases (ZO _ _ _ a).1 ha with e | e
  ·rw [e]; exact hnew
  ·exact m5 a (mc _ a e)
 ·have e : doS S A = ⟨S.l.set rn A.s, S.T, Jd S.L true A.o A.y A.l, S.C⟩ := by unfold doS; rw [hn, h]; rfl
  rw [e] at hf ⊢
  exact SOk.of hl' hS.2.1 ⟨hf.2.1, KP _ _ _ _ _ hS.2.2.1.2⟩ hS.2.2.2.1 (fun a ha => m5 a (mc _ a ha)) m6 hS.refs
 ·have e : doS S A = ⟨S.l.set rn A.s, S.T, S.L, Zg (JI A) S.C⟩ := by unfold doS; rw [hn, h]; rfl
  rw [e] at hf ⊢
  have hro := hA.2.2.2.2.2
  unfold JP at hro
  rw [if_neg (by omega), if_pos h] at hro
  have hre : (A.x = 0 ∧ A.z = 0) ∨ DOk A.x A.z := hro.elim .inl (fun e => .inr (by unfold Jf at e; simp only [Bool.and_eq_true, decide_eq_true_eq] at e; exact e.1.2))
  refine SOk.of hl' hS.2.1 hS.2.2.1 ⟨hf.2.2, Jek _ _ hS.2.2.2.1.2 ⟨hA.1, hNo, hA.2.2.2.1, Z0 hP (.inr (.inr h)), hre⟩ (fun a ha => Us hk (hS.cells a ha))⟩ m5 (fun a ha => ?_) (fun a ha => ?_)
  ·rcases (ZO _ _ _ a).1 ha with e | e
   ·rw [e]; exact hnew
   ·exact m6 a e
  ·rcases (ZO _ _ _ a).1 ha with e | e
   ·rcases hr with ⟨-, hr⟩ | ⟨k, hk1, h1, h2, h3⟩
    ·rw [e]; exact .inl (hr.resolve_left (fun e => e h))
    ·have := ZG S.C A.x A.z 0 k hk1 (Int.le_refl _) (by omega)
     rw [e]
     exact .inr ⟨S.C[k], (ZO _ _ _ _).2 (.inr (List.getElem_mem hk1)), this.1, this.2, h2, h3.resolve_left (by omega)⟩
   ·rcases hS.refs a e with h0 | ⟨b, hb, h1⟩
    ·exact .inl h0
    ·exact .inr ⟨b, (ZO _ _ _ _).2 (.inr hb), h1⟩
 ·have e : doS S A = ⟨S.l.set rn A.s, S.T, S.L, Zw S.C (cellAt S.C A.x A.z 0).toNat⟩ := by unfold doS; rw [hn, h]; rfl
  rw [e] at hf ⊢
  refine SOk.of hl' hS.2.1 hS.2.2.1 ⟨hf.2.2, JdL _ _ hS.2.2.2.1.2⟩ m5 (fun a ha => ?_) (fun a ha => ?_)
  ·obtain ⟨b, hb, e⟩ := KS _ _ a ha
   rw [e.2.1, e.2.2.1]; exact m6 b hb
  ·obtain ⟨b, hb, e⟩ := KS _ _ a ha
   rcases hS.refs b hb with h0 | ⟨c, hc, h1, h2, h3, h4⟩
   ·left; rw [e.2.2.2.2.1, e.2.2.2.2.2]; exact h0
   ·obtain ⟨d, hd2, f⟩ := JcC S.C (cellAt S.C A.x A.z 0).toNat c hc
    refine .inr ⟨d, hd2, ?_, ?_, ?_, ?_⟩
    ·rw [f.2.1, h1, e.2.2.2.2.1]
    ·rw [f.2.2.1, h2, e.2.2.2.2.2]
    ·rw [f.1, h3, e.1]
    ·rw [f.2.2.2.1, e.2.2.2.1]; exact h4
theorem JdF {l : List Li} (h : l.Pairwise KD) (r s : Int) : Gw (J6 r s) l := fun i j hi hj hij hk => by
 have h1 := List.pairwise_iff_getElem.1 h i j hi hj hij
 unfold J6 at hk ⊢
 have h2 : Jo l[j].r l[j].s r s := by
  rcases J4 l[j].r l[j].s r s with ⟨h2, h3⟩ | ⟨h2, h3⟩ | ⟨h2, h3⟩
  ·exact h2
  ·omega
  ·omega
 have h4 : Jo l[i].r l[i].s r s := Z5 h1 h2
 rcases J4 l[i].r l[i].s r s with ⟨h5, h3⟩ | ⟨h5, h3⟩ | ⟨h5, h3⟩
 ·exact h3
 ·unfold Jo at h4; omega
 ·unfold Jo at h4 h5; omega
theorem JaX {l : List Ce} (h : l.Pairwise Zv) (r s : Int) : Gw (J0 r s) l := fun i j hi hj hij hk => by
 have h1 := List.pairwise_iff_getElem.1 h i j hi hj hij
 unfold J0 at hk ⊢
 have h2 : Jo l[j].r l[j].s r s := by
  rcases J4 l[j].r l[j].s r s with ⟨h2, h3⟩ | ⟨h2, h3⟩ | ⟨h2, h3⟩
  ·exact h2
  ·omega
  ·omega
 have h4 : Jo l[i].r l[i].s r s := Z5 h1 h2
 rcases J4 l[i].r l[i].s r s with ⟨h5, h3⟩ | ⟨h5, h3⟩ | ⟨h5, h3⟩
 ·exact h3
 ·unfold Jo at h4; omega
 ·unfold Jo at h4 h5; omega
theorem Up (o : ByteArray) (r : Int) (a : Ta) : J5 o r a < 0 ↔ Z3 a ⟨o, r, 0⟩ := by
 unfold J5
 rcases JbZ a ⟨o, r, 0⟩ with ⟨h1, h2⟩ | ⟨h1, h2⟩
 ·exact ⟨fun _ => h1, fun _ => h2⟩
 ·exact ⟨fun h => by simp only at h2; omega, fun h => absurd h h1⟩
theorem JeL {l : List Ta} (h : l.Pairwise Z3) (o : ByteArray) (r : Int) : Gw (J5 o r) l := fun i j hi hj hij hk => by
 have h1 := List.pairwise_iff_getElem.1 h i j hi hj hij
 exact (Up o r _).2 (KJ _ _ _ h1 ((Up o r _).1 hk))
theorem Jb3 {r s : Int} {y : Li} (h : J6 r s y = 0) : y.r = r ∧ y.s = s := by
 unfold J6 at h
 rcases J4 y.r y.s r s with ⟨h1, h2⟩ | ⟨h1, h2⟩ | ⟨h1, h2⟩
 ·omega
 ·exact h1
 ·omega
theorem GT {r s : Int} {y : Ce} : J0 r s y = 0 ↔ y.r = r ∧ y.s = s := by
 unfold J0
 rcases J4 y.r y.s r s with ⟨h1, h2⟩ | ⟨h1, h2⟩ | ⟨h1, h2⟩
 ·exact ⟨fun h => by omega, fun h => by unfold Jo at h1; omega⟩
 ·exact ⟨fun _ => h1, fun _ => h2⟩
 ·exact ⟨fun h => by omega, fun h => by unfold Jo at h1; omega⟩
theorem SOk.pairL {S : Sta} (h : SOk S) : S.L.Pairwise KD := h.2.2.1.2.pair KQ
theorem SOk.pairC {S : Sta} (h : SOk S) : S.C.Pairwise Zv := h.2.2.2.1.2.pair Z9
theorem SOk.pairT {S : Sta} (h : SOk S) : S.T.Pairwise Z3 := h.2.1.2.pair KJ
theorem SOk.noL {S : Sta} (h : SOk S) {r s : Int} (hk : ¬ Jf S.l r s = true) : ∀ y ∈ S.L, ¬ J6 r s y = 0 := fun y hy e => by
 obtain ⟨i, hi, rfl⟩ := List.getElem_of_mem hy
 obtain ⟨e1, e2⟩ := Jb3 e
 have := h.2.2.2.2.1 i hi
 rw [e1, e2] at this
 exact hk this
theorem SOk.noC {S : Sta} (h : SOk S) {r s : Int} (hk : ¬ Jf S.l r s = true) : ∀ y ∈ S.C, ¬ J0 r s y = 0 := fun y hy e => by
 obtain ⟨i, hi, rfl⟩ := List.getElem_of_mem hy
 obtain ⟨e1, e2⟩ := GT.1 e
 have := (h.2.2.2.2.2 i hi).1
 rw [e1, e2] at this
 exact hk this
theorem SOk.len {S : Sta} (h : SOk S) : S.l.length = 3 ∧ S.T.length ≤ 120 ∧ S.L.length ≤ 120 ∧ S.C.length ≤ 120 := ⟨h.1.1, h.2.1.1, h.2.2.1.1, h.2.2.2.1.1⟩
open Go.RowKit
def Jgr (a b : Ce) : Bool := if a.t = b.t then (if a.r = b.r then decide (b.s < a.s) else decide (b.r < a.r)) else decide (b.t < a.t)
def Jib (o : ByteArray) (x z : Int) (c : Ce) : Bool := decide (c.o = o ∧ c.x = x ∧ c.z = z)
def JjE (C : List Ce) (o : ByteArray) (x z : Int) : List Ce := C.foldl (fun l c => if Jib o x z c then ins (fun y => Jgr c y) c l else l) []
def below (C : List Ce) (o : ByteArray) : Nat → Int → Int → List Ce
 | 0, _, _ => []
 | n + 1, x, z => (JjE C o x z).flatMap fun k => k :: below C o n k.r k.s
theorem Asc.all {α : Type} {ok : α → Prop} {lt : α → α → Prop} {l : List α} (h : Asc ok lt l) : ∀ a ∈ l, ok a := fun a ha => by
 obtain ⟨i, hi, rfl⟩ := List.getElem_of_mem ha
 exact (h i hi).1
theorem NOk.size {o : ByteArray} (h : NOk o) : o.size ≤ 8 := h.1.2
theorem SOk.small {S : Sta} (h : SOk S) : Small S := ⟨by have := h.1.1; omega, by have := h.2.1.1; omega, by have := h.2.2.1.1; omega, by have := h.2.2.2.1.1; omega⟩
theorem SOk.named {S : Sta} (h : SOk S) : JdR S := by
 refine ⟨fun a ha => ?_, fun a ha => ⟨?_, ?_⟩, fun a ha => ?_⟩
 ·have := ((h.2.1.2.all a ha).1).size; omega
 ·have := ((h.2.2.1.2.all a ha).2.1).size; omega
 ·have := ((h.2.2.1.2.all a ha).2.2.1).size; omega
 ·have := ((h.2.2.2.1.2.all a ha).2.1).size; omega
theorem Jcf {l : List Int} {r s : Int} (h : Jf l r s = true) : DOk r s := by
 unfold Jf at h
 simp only [Bool.and_eq_true, decide_eq_true_eq] at h
 exact h.1.2
def Cut (C : List Ce) (r s : Int) (k : Nat) : Prop := (∀ i (h : i < C.length), i < k → Jo C[i].r C[i].s r s) ∧ (∀ i (h : i < C.length), k ≤ i → ¬ Jo C[i].r C[i].s r s)
theorem JdD {C : List Ce} (hp : C.Pairwise Zv) {j k : Nat} (hj : j < C.length) (hk : k < C.length) (e : C[j].r = C[k].r ∧ C[j].s = C[k].s) : j = k := by
 rcases Nat.lt_trichotomy j k with h | h | h
 ·have h5 := List.pairwise_iff_getElem.1 hp j k hj hk h
  unfold Zv Jo at h5; omega
 ·exact h
 ·have h5 := List.pairwise_iff_getElem.1 hp k j hk hj h
  unfold Zv Jo at h5; omega
theorem Jee {C : List Ce} {r s : Int} {k : Nat} (hp : C.Pairwise Zv) (hk : k < C.length) (e : C[k].r = r ∧ C[k].s = s) : cellAt C r s 0 = (k : Int) := by
 obtain ⟨j, hj, h1, h2⟩ := Kw C 0 C[k] hp (List.getElem_mem hk)
 have h3 := JdD hp hj hk ⟨by rw [h2], by rw [h2]⟩
 rw [e.1, e.2] at h1
 omega
theorem JdV {C : List Ce} {r s : Int} {k : Nat} (h : Cut C r s k) (e : ∀ (hk : k < C.length), ¬ (C[k].r = r ∧ C[k].s = s)) (hp : C.Pairwise Zv) : ¬ ∃ j, ∃ hj : j < C.length, cellAt C r s 0 = (j : Int) := by
 rintro ⟨j, hj, h1⟩
 have e2 := ZG C r s 0 j hj (by omega) (by omega)
 have h3 : ¬ j < k := fun hjk => by
  have := h.1 j hj hjk
  rw [e2.1, e2.2] at this; unfold Jo at this; omega
 by_cases hjk : j = k
 ·subst hjk; exact e hj e2
 ·have hkl : k < C.length := by omega
  have h5 := List.pairwise_iff_getElem.1 hp k j hkl hj (by omega)
  have h6 := h.2 k hkl (Nat.le_refl _)
  unfold Zv at h5
  rw [e2.1, e2.2] at h5
  exact h6 h5
abbrev kc0 : Oper := oq 5 (.load 90 (.tmp 2)) 90 "l06_state.go:88" #[] none
abbrev kc1 : Oper := oq 6 (.makeInterface 90 (.tmp 5)) 170 "l06_state.go:88" #[eD 0] none
abbrev kc2 : Oper := oq 7 (.call ⟨.value (.func 135), #[.tmp 6], #[170]⟩) 150 "l06_state.go:88" #[eD 1] none
abbrev kc3 : Oper := oq 8 (.load 150 (.tmp 3)) 150 "l06_state.go:88" #[] none
abbrev kc4 : Oper := oq 9 (.call ⟨.value (.func 136), #[.tmp 7, .tmp 8], #[150, 150]⟩) 3 "l06_state.go:88" #[eD 2, eD 3, eC 2] none
abbrev kc5 : Oper := oq 4 (.assign (.tmp 9)) 3 "l06_state.go:88" #[eD 4, eC 4, eP 0, eP 1, eP 2, eP 3, eP 4] none
abbrev ka0 : Oper := oq 24 (.move (.tmp 2)) 163 "sort.go:160" #[] none
abbrev ka1 : Oper := oq 25 (.move (.tmp 0)) 27 "sort.go:160" #[] none
abbrev ka2 : Oper := oq 26 (.move (.tmp 11)) 3 "sort.go:160" #[] none
abbrev ka3 : Oper := oq 27 (.indexAddr 27 (.tmp 25) (.tmp 26)) 0 "sort.go:160" #[eD 1, eD 2] none
abbrev ka4 : Oper := oq 28 (.load 90 (.tmp 27)) 90 "sort.go:160" #[eD 3] none
abbrev ka5 : Oper := oq 29 (.load 150 (.tmp 4)) 150 "sort.go:160" #[] none
abbrev ka6 : Oper := oq 30 (.call ⟨.value (.tmp 24), #[.tmp 28, .tmp 29], #[90, 150]⟩) 3 "sort.go:160" #[eD 0, eD 4, eD 5] none
abbrev ka7 : Oper := oq 31 (.binOp .lss 3 (.tmp 30) (.const (int i64 0)) 3) 4 "sort.go:160" #[eD 6] none
abbrev kb4 : Oper := oq 39 (.move (.tmp 38)) 4 "sort.go:167" #[eD 3] none
theorem Row.setL {w : World} {g : Nat} {l : List Value} {T : TypeId} (h : Row w g l.toArray T) (i : Nat) (x : Value) : Row (w.setCell ⟨g, i, none⟩ x) g (l.set i x).toArray T := by
 have := Row.set h i x
 simpa using this
theorem Z2 {S : Sta} (A : Ac) (h : SOk S) : SOk (Jc S A) := by
 unfold Jc
 by_cases hc : Jm S A = 0
 ·rw [if_pos hc]
  unfold Jm at hc
  by_cases h1 : SOk S ∧ AOk A
  ·rw [if_neg (by simpa using h1)] at hc
   by_cases h2 : Jf S.l A.r A.s = true
   ·rw [if_pos h2] at hc; cases hc
   rw [if_neg h2] at hc
   by_cases h3 : kin A.l S.l = false
   ·rw [if_pos h3] at hc; cases hc
   rw [if_neg h3] at hc
   by_cases h4 : ¬ Jt S A
   ·rw [if_pos h4] at hc; cases hc
   rw [if_neg h4] at hc
   by_cases h5 : 120 < (doS S A).T.length ∨ 120 < (doS S A).L.length ∨ 120 < (doS S A).C.length
   ·rw [if_pos h5] at hc; cases hc
   exact SOk.step h h1.2 (by simpa using h2) (Classical.not_not.1 h4) ⟨by omega, by omega, by omega⟩
  ·rw [if_pos (by simpa using h1)] at hc; cases hc
 ·rw [if_neg hc]; exact h
end Go.Proofs.YtepfinenocpneaaGreat
