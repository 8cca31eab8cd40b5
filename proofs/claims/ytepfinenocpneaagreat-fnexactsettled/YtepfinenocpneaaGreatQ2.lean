/- A thing is put into a list in its place; lists that ascend; . -/
import Derived.Lib.SlicesCompact
set_option maxHeartbeats 16000000
namespace Go.Proofs.YtepfinenocpneaaGreat
open Value (int)
open IntKind (i64)
set_option maxRecDepth 100000
set_option linter.unusedVariables false
open Go.Lib
def ins {α : Type} (r : α → Bool) (s : α) (l : List α) : List α := l.takeWhile (fun x => !r x) ++ s :: l.dropWhile (fun x => !r x)
def Zh {α : Type} (r : α → Bool) (s : α) (l : List α) : List α × Bool :=
 l.foldl (fun p x => if p.2 = false ∧ r x = true then (p.1 ++ [s] ++ [x], true) else (p.1 ++ [x], p.2)) ([], false)
theorem KB {α : Type} (r : α → Bool) (s : α) (l : List α) (x : α) : Zh r s (l ++ [x]) = if (Zh r s l).2 = false ∧ r x = true then ((Zh r s l).1 ++ [s] ++ [x], true) else ((Zh r s l).1 ++ [x], (Zh r s l).2) := by
 unfold Zh; rw [List.foldl_append]; rfl
theorem G3 {α : Type} (r : α → Bool) (l : List α) (h : l.any r = false) : l.takeWhile (fun x => !r x) = l ∧ l.dropWhile (fun x => !r x) = [] := by
 induction l with
 | nil => exact ⟨rfl, rfl⟩
 | cons a l ih =>
  rw [List.any_cons, Bool.or_eq_false_iff] at h
  obtain ⟨h1, h2⟩ := ih h.2
  constructor
  ·rw [List.takeWhile_cons, h.1, h1]; rfl
  ·rw [List.dropWhile_cons, h.1]; simpa using h2
theorem JdU {α : Type} (r : α → Bool) (l : List α) (x : α) (h : l.any r = true) : (l ++ [x]).takeWhile (fun x => !r x) = l.takeWhile (fun x => !r x) ∧ (l ++ [x]).dropWhile (fun x => !r x) = l.dropWhile (fun x => !r x) ++ [x] := by
 induction l with
 | nil => cases h
 | cons a l ih =>
  by_cases ha : r a = true
  ·constructor
   ·rw [List.cons_append, List.takeWhile_cons, List.takeWhile_cons, ha]; rfl
   ·rw [List.cons_append, List.dropWhile_cons, List.dropWhile_cons, ha]; rfl
  ·have ha' : r a = false := by simpa using ha
   rw [List.any_cons, ha', Bool.false_or] at h
   obtain ⟨h1, h2⟩ := ih h
   constructor
   ·rw [List.cons_append, List.takeWhile_cons, List.takeWhile_cons, ha', h1]
   ·rw [List.cons_append, List.dropWhile_cons, List.dropWhile_cons, ha', h2]; rfl
theorem JcO {α : Type} (r : α → Bool) (s : α) (l : List α) (h : l.any r = false) : ins r s l = l ++ [s] := by
 obtain ⟨h1, h2⟩ := G3 r l h
 unfold ins; rw [h1, h2]
theorem Jd6 {α : Type} (r : α → Bool) (s : α) (l : List α) : Zh r s l = if l.any r then (ins r s l, true) else (l, false) := by
 obtain ⟨k, hk⟩ : ∃ k, k = l.reverse := ⟨_, rfl⟩
 have hl : l = k.reverse := by rw [hk, List.reverse_reverse]
 clear hk; subst hl
 induction k with
 | nil => rfl
 | cons x k ih =>
  rw [List.reverse_cons, KB, ih]
  generalize k.reverse = l
  by_cases ha : l.any r = true
  ·have e : (l ++ [x]).any r = true := by rw [List.any_append, ha]; rfl
   obtain ⟨h1, h2⟩ := JdU r l x ha
   rw [if_pos ha, if_pos e]
   simp only [Bool.true_eq_false, false_and, if_false]
   unfold ins; rw [h1, h2]; simp
  ·have ha' : l.any r = false := by simpa using ha
   rw [if_neg ha]
   by_cases hx : r x = true
   ·have e : (l ++ [x]).any r = true := by simp [hx]
    rw [if_pos e, if_pos ⟨rfl, hx⟩]
    obtain ⟨h1, h2⟩ := G3 r l ha'
    have g1 : (l ++ [x]).takeWhile (fun x => !r x) = l := by
     rw [List.takeWhile_append, h1]; simp [hx]
    have g2 : (l ++ [x]).dropWhile (fun x => !r x) = [x] := by
     rw [List.dropWhile_append, h2]; simp [hx]
    unfold ins; rw [g1, g2]; simp
   ·have hx' : r x = false := by simpa using hx
    have e : (l ++ [x]).any r = false := by rw [List.any_append, ha']; simp [hx']
    rw [if_neg (c := _ ∧ _) (by simp [hx']), e]; rfl
theorem Ve {α : Type} (r : α → Bool) (s : α) (l : List α) : (if (Zh r s l).2 then (Zh r s l).1 else (Zh r s l).1 ++ [s]) = ins r s l := by
 rw [Jd6]
 by_cases ha : l.any r = true
 ·rw [if_pos ha]; rfl
 ·rw [if_neg ha, JcO r s l (by simpa using ha)]; rfl
theorem Jc2 {α : Type} (r : α → Bool) (s : α) (l : List α) : (ins r s l).Perm (s :: l) := by
 unfold ins
 refine List.perm_middle.trans ?_
 rw [List.takeWhile_append_dropWhile]
theorem ZO {α : Type} (r : α → Bool) (s : α) (l : List α) (a : α) : a ∈ ins r s l ↔ a = s ∨ a ∈ l := by
 rw [(Jc2 r s l).mem_iff, List.mem_cons]
theorem JdB {α : Type} (p : α → Bool) (l : List α) : ∀ a ∈ l.takeWhile p, p a = true := by
 induction l with
 | nil => intro a h; cases h
 | cons b l ih =>
  intro a h
  rw [List.takeWhile_cons] at h
  by_cases hb : p b = true
  ·rw [if_pos hb] at h
   rcases List.mem_cons.1 h with rfl | h
   ·exact hb
   ·exact ih a h
  ·rw [if_neg hb] at h; cases h
theorem Jcm {α : Type} (p : α → Bool) (l : List α) : ∀ x k, l.dropWhile p = x :: k → p x = false := by
 induction l with
 | nil => intro x k h; cases h
 | cons b l ih =>
  intro x k h
  rw [List.dropWhile_cons] at h
  by_cases hb : p b = true
  ·rw [if_pos hb] at h; exact ih x k h
  ·rw [if_neg hb] at h; injection h with h1 h2; subst h1; simpa using hb
theorem Jd1 {α : Type} (R : α → α → Prop) (ht : ∀ a b c, R a b → R b c → R a c) (r : α → Bool) (s : α) (l : List α) (h : l.Pairwise R) (h1 : ∀ a ∈ l, r a = true → R s a) (h2 : ∀ a ∈ l, r a = false → R a s) : (ins r s l).Pairwise R := by
 have hw : (l.takeWhile (fun x => !r x) ++ l.dropWhile (fun x => !r x)).Pairwise R := by rw [List.takeWhile_append_dropWhile]; exact h
 have ht1 := JdB (fun x => !r x) l
 have hd := Jcm (fun x => !r x) l
 have m1 : ∀ a ∈ l.takeWhile (fun x => !r x), a ∈ l := fun a ha => (List.takeWhile_sublist _).mem ha
 have m2 : ∀ a ∈ l.dropWhile (fun x => !r x), a ∈ l := fun a ha => (List.dropWhile_sublist _).mem ha
 unfold ins
 generalize l.takeWhile (fun x => !r x) = A at *
 generalize l.dropWhile (fun x => !r x) = B at *
 rw [List.pairwise_append] at hw
 obtain ⟨p1, p2, p3⟩ := hw
 have hB : ∀ b ∈ B, R s b := by
  cases B with
  | nil => intro b hb; cases hb
  | cons x k =>
   have hx : R s x := h1 x (m2 x (by simp)) (by simpa using hd x k rfl)
   intro b hb
   rcases List.mem_cons.1 hb with rfl | hb
   ·exact hx
   ·exact ht _ _ _ hx (List.rel_of_pairwise_cons p2 hb)
 rw [List.pairwise_append]
 refine ⟨p1, List.pairwise_cons.2 ⟨hB, p2⟩, fun a ha b hb => ?_⟩
 rcases List.mem_cons.1 hb with rfl | hb
 ·exact h2 a (m1 a ha) (by simpa using ht1 a ha)
 ·exact p3 a ha b hb
theorem JcU {a b : List UInt8} (h : a ≤ b) (k : a ≠ b) : a < b := by
 by_cases h2 : a < b
 ·exact h2
 ·exact absurd (List.le_antisymm h (List.not_lt.1 h2)) k
end Go.Proofs.YtepfinenocpneaaGreat
