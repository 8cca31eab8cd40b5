/- A thing is put into a list in its place; lists that ascend; keys and values in their order. -/
import Derived.Lib.SlicesCompact
namespace Go.Proofs.Ytajihpcihlbjgaa
set_option maxRecDepth 100000
set_option linter.unusedVariables false
open Go.Lib

/-- Ahead of the first one that it stands ahead of. -/
def ins {α : Type} (r : α → Bool) (s : α) (l : List α) : List α := l.takeWhile (fun x => !r x) ++ s :: l.dropWhile (fun x => !r x)
/-- One after another, and whether it was put already. -/
def insP {α : Type} (r : α → Bool) (s : α) (l : List α) : List α × Bool :=
  l.foldl (fun p x => if p.2 = false ∧ r x = true then (p.1 ++ [s] ++ [x], true) else (p.1 ++ [x], p.2)) ([], false)
theorem insP_snoc {α : Type} (r : α → Bool) (s : α) (l : List α) (x : α) : insP r s (l ++ [x]) = if (insP r s l).2 = false ∧ r x = true then ((insP r s l).1 ++ [s] ++ [x], true) else ((insP r s l).1 ++ [x], (insP r s l).2) := by
  unfold insP; rw [List.foldl_append]; rfl
theorem any_of_take {α : Type} (r : α → Bool) (l : List α) (h : l.any r = false) : l.takeWhile (fun x => !r x) = l ∧ l.dropWhile (fun x => !r x) = [] := by
  induction l with
  | nil => exact ⟨rfl, rfl⟩
  | cons a l ih =>
    rw [List.any_cons, Bool.or_eq_false_iff] at h
    obtain ⟨h1, h2⟩ := ih h.2
    constructor
    · rw [List.takeWhile_cons, h.1, h1]; rfl
    · rw [List.dropWhile_cons, h.1]; simpa using h2
theorem any_snoc {α : Type} (r : α → Bool) (l : List α) (x : α) (h : l.any r = true) : (l ++ [x]).takeWhile (fun x => !r x) = l.takeWhile (fun x => !r x) ∧ (l ++ [x]).dropWhile (fun x => !r x) = l.dropWhile (fun x => !r x) ++ [x] := by
  induction l with
  | nil => cases h
  | cons a l ih =>
    by_cases ha : r a = true
    · constructor
      · rw [List.cons_append, List.takeWhile_cons, List.takeWhile_cons, ha]; rfl
      · rw [List.cons_append, List.dropWhile_cons, List.dropWhile_cons, ha]; rfl
    · have ha' : r a = false := by simpa using ha
      rw [List.any_cons, ha', Bool.false_or] at h
      obtain ⟨h1, h2⟩ := ih h
      constructor
      · rw [List.cons_append, List.takeWhile_cons, List.takeWhile_cons, ha', h1]
      · rw [List.cons_append, List.dropWhile_cons, List.dropWhile_cons, ha', h2]; rfl
theorem ins_none {α : Type} (r : α → Bool) (s : α) (l : List α) (h : l.any r = false) : ins r s l = l ++ [s] := by
  obtain ⟨h1, h2⟩ := any_of_take r l h
  unfold ins; rw [h1, h2]
theorem insP_eq {α : Type} (r : α → Bool) (s : α) (l : List α) : insP r s l = if l.any r then (ins r s l, true) else (l, false) := by
  obtain ⟨k, hk⟩ : ∃ k, k = l.reverse := ⟨_, rfl⟩
  have hl : l = k.reverse := by rw [hk, List.reverse_reverse]
  clear hk; subst hl
  induction k with
  | nil => rfl
  | cons x k ih =>
    rw [List.reverse_cons, insP_snoc, ih]
    generalize k.reverse = l
    by_cases ha : l.any r = true
    · have e : (l ++ [x]).any r = true := by rw [List.any_append, ha]; rfl
      obtain ⟨h1, h2⟩ := any_snoc r l x ha
      rw [if_pos ha, if_pos e]
      simp only [Bool.true_eq_false, false_and, if_false]
      unfold ins; rw [h1, h2]; simp
    · have ha' : l.any r = false := by simpa using ha
      rw [if_neg ha]
      by_cases hx : r x = true
      · have e : (l ++ [x]).any r = true := by simp [hx]
        rw [if_pos e, if_pos ⟨rfl, hx⟩]
        obtain ⟨h1, h2⟩ := any_of_take r l ha'
        have g1 : (l ++ [x]).takeWhile (fun x => !r x) = l := by
          rw [List.takeWhile_append, h1]; simp [hx]
        have g2 : (l ++ [x]).dropWhile (fun x => !r x) = [x] := by
          rw [List.dropWhile_append, h2]; simp [hx]
        unfold ins; rw [g1, g2]; simp
      · have hx' : r x = false := by simpa using hx
        have e : (l ++ [x]).any r = false := by rw [List.any_append, ha']; simp [hx']
        rw [if_neg (c := _ ∧ _) (by simp [hx']), e]; rfl
theorem insP_end {α : Type} (r : α → Bool) (s : α) (l : List α) : (if (insP r s l).2 then (insP r s l).1 else (insP r s l).1 ++ [s]) = ins r s l := by
  rw [insP_eq]
  by_cases ha : l.any r = true
  · rw [if_pos ha]; rfl
  · rw [if_neg ha, ins_none r s l (by simpa using ha)]; rfl
theorem insP_len {α : Type} (r : α → Bool) (s : α) (l : List α) : (insP r s l).1.length ≤ l.length + 1 := by
  rw [insP_eq]
  by_cases ha : l.any r = true
  · rw [if_pos ha]; show (ins r s l).length ≤ _; unfold ins
    have := congrArg List.length (List.takeWhile_append_dropWhile (p := fun x => !r x) (l := l))
    simp only [List.length_append, List.length_cons] at *
    omega
  · rw [if_neg ha]; exact Nat.le_succ _
theorem ins_len {α : Type} (r : α → Bool) (s : α) (l : List α) : (ins r s l).length = l.length + 1 := by
  unfold ins
  have := congrArg List.length (List.takeWhile_append_dropWhile (p := fun x => !r x) (l := l))
  simp only [List.length_append, List.length_cons] at *
  omega
theorem ins_perm {α : Type} (r : α → Bool) (s : α) (l : List α) : (ins r s l).Perm (s :: l) := by
  unfold ins
  refine List.perm_middle.trans ?_
  rw [List.takeWhile_append_dropWhile]
theorem ins_mem {α : Type} (r : α → Bool) (s : α) (l : List α) (a : α) : a ∈ ins r s l ↔ a = s ∨ a ∈ l := by
  rw [(ins_perm r s l).mem_iff, List.mem_cons]
theorem take_all {α : Type} (p : α → Bool) (l : List α) : ∀ a ∈ l.takeWhile p, p a = true := by
  induction l with
  | nil => intro a h; cases h
  | cons b l ih =>
    intro a h
    rw [List.takeWhile_cons] at h
    by_cases hb : p b = true
    · rw [if_pos hb] at h
      rcases List.mem_cons.1 h with rfl | h
      · exact hb
      · exact ih a h
    · rw [if_neg hb] at h; cases h
theorem drop_head {α : Type} (p : α → Bool) (l : List α) : ∀ x k, l.dropWhile p = x :: k → p x = false := by
  induction l with
  | nil => intro x k h; cases h
  | cons b l ih =>
    intro x k h
    rw [List.dropWhile_cons] at h
    by_cases hb : p b = true
    · rw [if_pos hb] at h; exact ih x k h
    · rw [if_neg hb] at h; injection h with h1 h2; subst h1; simpa using hb
/-- Where all that stand ahead and behind stand so to what is put, the list stays in order. -/
theorem ins_pair {α : Type} (R : α → α → Prop) (ht : ∀ a b c, R a b → R b c → R a c) (r : α → Bool) (s : α) (l : List α) (h : l.Pairwise R) (h1 : ∀ a ∈ l, r a = true → R s a) (h2 : ∀ a ∈ l, r a = false → R a s) : (ins r s l).Pairwise R := by
  have hw : (l.takeWhile (fun x => !r x) ++ l.dropWhile (fun x => !r x)).Pairwise R := by rw [List.takeWhile_append_dropWhile]; exact h
  have ht1 := take_all (fun x => !r x) l
  have hd := drop_head (fun x => !r x) l
  have m1 : ∀ a ∈ l.takeWhile (fun x => !r x), a ∈ l := fun a ha => (List.takeWhile_sublist _).mem ha
  have m2 : ∀ a ∈ l.dropWhile (fun x => !r x), a ∈ l := fun a ha => (List.dropWhile_sublist _).mem ha
  unfold ins
  generalize l.takeWhile (fun x => !r x) = A at *
  generalize l.dropWhile (fun x => !r x) = B at *
  rw [List.pairwise_append] at hw
  obtain ⟨p1, p2, p3⟩ := hw
  have hB : ∀ b ∈ B, R s b := by
    cases B with
    | nil => intro b hb; cases hb
    | cons x k =>
      have hx : R s x := h1 x (m2 x (by simp)) (by simpa using hd x k rfl)
      intro b hb
      rcases List.mem_cons.1 hb with rfl | hb
      · exact hx
      · exact ht _ _ _ hx (List.rel_of_pairwise_cons p2 hb)
  rw [List.pairwise_append]
  refine ⟨p1, List.pairwise_cons.2 ⟨hB, p2⟩, fun a ha b hb => ?_⟩
  rcases List.mem_cons.1 hb with rfl | hb
  · exact h2 a (m1 a ha) (by simpa using ht1 a ha)
  · exact p3 a ha b hb

theorem by_lt {a b : List UInt8} (h : a ≤ b) (k : a ≠ b) : a < b := by
  by_cases h2 : a < b
  · exact h2
  · exact absurd (List.le_antisymm h (List.not_lt.1 h2)) k
/-- A text that is put into its place, unless it is there. -/
def putS (l : List (List UInt8)) (s : List UInt8) : List (List UInt8) := if s ∈ l then l else ins (fun x => decide (s < x)) s l
theorem putS_asc (l : List (List UInt8)) (s : List UInt8) (h : l.Pairwise (· < ·)) : (putS l s).Pairwise (· < ·) := by
  unfold putS
  by_cases hs : s ∈ l
  · rw [if_pos hs]; exact h
  · rw [if_neg hs]
    refine ins_pair (· < ·) (fun a b c h k => List.lt_trans h k) _ s l h (fun a _ ha => of_decide_eq_true ha) (fun a ha ha2 => ?_)
    exact by_lt (List.not_lt.1 (of_decide_eq_false ha2)) (fun e => hs (e ▸ ha))
theorem putS_mem (l : List (List UInt8)) (s a : List UInt8) : a ∈ putS l s ↔ a = s ∨ a ∈ l := by
  unfold putS
  by_cases hs : s ∈ l
  · rw [if_pos hs]
    exact ⟨.inr, fun h => h.elim (fun e => e ▸ hs) id⟩
  · rw [if_neg hs, ins_mem]
theorem putS_len (l : List (List UInt8)) (s : List UInt8) : (putS l s).length ≤ l.length + 1 := by
  unfold putS
  by_cases hs : s ∈ l
  · rw [if_pos hs]; omega
  · rw [if_neg hs, ins_len]; omega
def keysS (ss : List (List UInt8)) : List (List UInt8) := ss.foldl putS []
theorem keysS_snoc (ss : List (List UInt8)) (s : List UInt8) : keysS (ss ++ [s]) = putS (keysS ss) s := by unfold keysS; rw [List.foldl_append]; rfl
theorem keysS_all (ss : List (List UInt8)) : (keysS ss).Pairwise (· < ·) ∧ (∀ a, a ∈ keysS ss ↔ a ∈ ss) ∧ (keysS ss).length ≤ ss.length := by
  obtain ⟨k, hk⟩ : ∃ k, k = ss.reverse := ⟨_, rfl⟩
  have hl : ss = k.reverse := by rw [hk, List.reverse_reverse]
  clear hk; subst hl
  induction k with
  | nil => exact ⟨List.Pairwise.nil, fun a => Iff.rfl, Nat.le_refl _⟩
  | cons x k ih =>
    rw [List.reverse_cons, keysS_snoc]
    obtain ⟨h1, h2, h3⟩ := ih
    refine ⟨putS_asc _ _ h1, fun a => ?_, ?_⟩
    · rw [putS_mem, h2]; simp [or_comm]
    · have := putS_len (keysS k.reverse) x
      rw [List.length_append]
      simp only [List.length_cons, List.length_nil] at *
      omega
theorem asc_ext : ∀ (l k : List (List UInt8)), l.Pairwise (· < ·) → k.Pairwise (· < ·) → (∀ a, a ∈ l ↔ a ∈ k) → l = k
  | [], [], _, _, _ => rfl
  | [], b :: k, _, _, h => by have := (h b).2 (by simp); cases this
  | a :: l, [], _, _, h => by have := (h a).1 (by simp); cases this
  | a :: l, b :: k, h1, h2, h => by
    have hab : a = b := by
      rcases List.mem_cons.1 ((h a).1 (by simp)) with e | e
      · exact e
      · rcases List.mem_cons.1 ((h b).2 (by simp)) with e2 | e2
        · exact e2.symm
        · exact absurd (List.lt_trans (List.rel_of_pairwise_cons h2 e) (List.rel_of_pairwise_cons h1 e2)) (List.lt_irrefl _)
    subst hab
    congr 1
    refine asc_ext l k (List.Pairwise.of_cons h1) (List.Pairwise.of_cons h2) fun x => ?_
    constructor
    · intro hx
      rcases List.mem_cons.1 ((h x).1 (by simp [hx])) with e | e
      · subst e; exact absurd (List.rel_of_pairwise_cons h1 hx) (List.lt_irrefl _)
      · exact e
    · intro hx
      rcases List.mem_cons.1 ((h x).2 (by simp [hx])) with e | e
      · subst e; exact absurd (List.rel_of_pairwise_cons h2 hx) (List.lt_irrefl _)
      · exact e
theorem compact_asc (zs : List (List UInt8)) (h : zs.Pairwise (· ≤ ·)) : (compact zs).Pairwise (· < ·) ∧ ∀ a, a ∈ compact zs ↔ a ∈ zs := by
  have hs : ∀ i j, i ≤ j → j < zs.length → zs.toArray[i]! ≤ zs.toArray[j]! := by
    intro i j hij hj
    have e1 : zs.toArray[i]! = zs[i]'(by omega) := by simp [show i < zs.length by omega]
    have e2 : zs.toArray[j]! = zs[j] := by simp [hj]
    rw [e1, e2]
    rcases Nat.lt_or_eq_of_le hij with hlt | rfl
    · exact List.pairwise_iff_getElem.1 h i j (by omega) hj hlt
    · exact List.le_refl _
  have key : ∀ m, m ≤ zs.length → (compactUpTo zs.toArray m).Pairwise (· < ·) ∧ ∀ a, a ∈ compactUpTo zs.toArray m ↔ ∃ j, j < m ∧ zs.toArray[j]! = a := by
    intro m
    induction m with
    | zero => intro _; exact ⟨List.Pairwise.nil, fun a => ⟨fun h => (by cases h), fun ⟨j, hj, _⟩ => (by omega)⟩⟩
    | succ m ih =>
      intro hm
      obtain ⟨h1, h2⟩ := ih (by omega)
      rw [compactUpTo_succ]
      by_cases hk : keeps zs.toArray m = true
      · rw [if_pos hk]
        constructor
        · rw [List.pairwise_append]
          refine ⟨h1, List.pairwise_singleton _ _, fun a ha b hb => ?_⟩
          rw [List.mem_singleton] at hb; subst hb
          obtain ⟨j, hj, rfl⟩ := (h2 a).1 ha
          have hne : zs.toArray[m]! ≠ zs.toArray[m - 1]! := by
            intro e
            rw [keeps_neg (by omega) e] at hk; cases hk
          have l1 := hs j (m - 1) (by omega) (by omega)
          have l2 := hs (m - 1) m (by omega) (by omega)
          have l3 := by_lt l2 (Ne.symm hne)
          by_cases e : zs.toArray[j]! = zs.toArray[m - 1]!
          · rw [e]; exact l3
          · exact List.lt_trans (by_lt l1 e) l3
        · intro a
          rw [List.mem_append, h2, List.mem_singleton]
          constructor
          · rintro (⟨j, hj, e⟩ | e)
            · exact ⟨j, by omega, e⟩
            · exact ⟨m, by omega, e.symm⟩
          · rintro ⟨j, hj, e⟩
            by_cases hjm : j = m
            · subst hjm; exact .inr e.symm
            · exact .inl ⟨j, by omega, e⟩
      · rw [if_neg hk, List.append_nil]
        refine ⟨h1, fun a => ?_⟩
        rw [h2]
        have h0 : 0 < m := by
          rcases Nat.eq_zero_or_pos m with e | e
          · exact absurd (keeps_lt_one zs.toArray m (by omega)) hk
          · exact e
        have heq : zs.toArray[m]! = zs.toArray[m - 1]! := by
          by_cases e : zs.toArray[m]! = zs.toArray[m - 1]!
          · exact e
          · exact absurd (keeps_pos e) hk
        constructor
        · rintro ⟨j, hj, e⟩; exact ⟨j, by omega, e⟩
        · rintro ⟨j, hj, e⟩
          by_cases hjm : j = m
          · subst hjm; exact ⟨j - 1, by omega, by rw [← heq, e]⟩
          · exact ⟨j, by omega, e⟩
  obtain ⟨k1, k2⟩ := key zs.length (Nat.le_refl _)
  refine ⟨k1, fun a => ?_⟩
  show a ∈ compactUpTo zs.toArray zs.length ↔ _
  rw [k2, List.mem_iff_getElem]
  constructor
  · rintro ⟨j, hj, e⟩; exact ⟨j, hj, by rw [← e]; simp [hj]⟩
  · rintro ⟨j, hj, e⟩; exact ⟨j, hj, by rw [← e]; simp [hj]⟩
/-- Sorted, and each once: as put one by one. -/
theorem keys_same (ss : List (List UInt8)) : compact (ss.mergeSort fun x y => decide (x ≤ y)) = keysS ss := by
  have hp : (ss.mergeSort fun x y => decide (x ≤ y)).Pairwise (· ≤ ·) := by
    have := List.pairwise_mergeSort (le := fun x y : List UInt8 => decide (x ≤ y)) (fun a b c h k => decide_eq_true (List.le_trans (of_decide_eq_true h) (of_decide_eq_true k))) (fun a b => by rcases List.le_total a b with h | h <;> simp [h]) ss
    exact this.imp (fun h => of_decide_eq_true h)
  obtain ⟨h1, h2⟩ := compact_asc _ hp
  obtain ⟨k1, k2, -⟩ := keysS_all ss
  refine asc_ext _ _ h1 k1 fun a => ?_
  rw [h2, k2, (List.mergeSort_perm ss _).mem_iff]

/-- Numbers, each put into its place. -/
def valsI (vs : List Int) : List Int := vs.foldl (fun l v => ins (fun x => decide (v < x)) v l) []
theorem valsI_snoc (vs : List Int) (v : Int) : valsI (vs ++ [v]) = ins (fun x => decide (v < x)) v (valsI vs) := by unfold valsI; rw [List.foldl_append]; rfl
theorem valsI_all (vs : List Int) : (valsI vs).Pairwise (· ≤ ·) ∧ (valsI vs).Perm vs := by
  obtain ⟨k, hk⟩ : ∃ k, k = vs.reverse := ⟨_, rfl⟩
  have hl : vs = k.reverse := by rw [hk, List.reverse_reverse]
  clear hk; subst hl
  induction k with
  | nil => exact ⟨List.Pairwise.nil, List.Perm.refl _⟩
  | cons x k ih =>
    rw [List.reverse_cons, valsI_snoc]
    obtain ⟨h1, h2⟩ := ih
    refine ⟨ins_pair (· ≤ ·) (fun a b c h k => Int.le_trans h k) _ _ _ h1 (fun a _ ha => Int.le_of_lt (of_decide_eq_true ha)) (fun a _ ha => Int.not_lt.1 (of_decide_eq_false ha)), ?_⟩
    refine (ins_perm _ _ _).trans ?_
    exact ((List.Perm.cons x h2).trans (List.perm_append_singleton x _).symm)
theorem vals_len (vs : List Int) : (valsI vs).length = vs.length := (valsI_all vs).2.length_eq
theorem asc_perm : ∀ (l k : List Int), l.Pairwise (· ≤ ·) → k.Pairwise (· ≤ ·) → l.Perm k → l = k
  | [], k, _, _, h => by have := h.length_eq; cases k with
    | nil => rfl
    | cons b k => simp at this
  | a :: l, [], _, _, h => by have := h.length_eq; simp at this
  | a :: l, b :: k, h1, h2, h => by
    have hab : a = b := by
      have m1 : a ∈ b :: k := h.mem_iff.1 (by simp)
      have m2 : b ∈ a :: l := h.mem_iff.2 (by simp)
      rcases List.mem_cons.1 m1 with e | e
      · exact e
      · rcases List.mem_cons.1 m2 with e2 | e2
        · exact e2.symm
        · exact Int.le_antisymm (List.rel_of_pairwise_cons h1 e2) (List.rel_of_pairwise_cons h2 e)
    subst hab
    congr 1
    exact asc_perm l k (List.Pairwise.of_cons h1) (List.Pairwise.of_cons h2) (List.Perm.cons_inv h)
theorem vals_same (vs : List Int) : (vs.mergeSort fun x y => decide (x ≤ y)) = valsI vs := by
  have hp : (vs.mergeSort fun x y => decide (x ≤ y)).Pairwise (· ≤ ·) := by
    have := List.pairwise_mergeSort (le := fun x y : Int => decide (x ≤ y)) (fun a b c h k => decide_eq_true (Int.le_trans (of_decide_eq_true h) (of_decide_eq_true k))) (fun a b => by rcases Int.le_total a b with h | h <;> simp [h]) vs
    exact this.imp (fun h => of_decide_eq_true h)
  obtain ⟨k1, k2⟩ := valsI_all vs
  exact asc_perm _ _ hp k1 ((List.mergeSort_perm vs _).trans k2.symm)
end Go.Proofs.Ytajihpcihlbjgaa
