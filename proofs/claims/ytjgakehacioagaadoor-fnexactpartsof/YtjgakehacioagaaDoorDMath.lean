/- Plain facts on figures to the base 10, with nothing of the program in them. -/
import Derived.Test.YtjgakehacioagaaDoorUMath
namespace Go.Proofs.YtjgakehacioagaaDoor

/-- The figures of a number, ahead of others. -/
def decGo (n : Nat) (acc : List UInt8) : List UInt8 := if n = 0 then acc else decGo (n / 10) (UInt8.ofNat (48 + n % 10) :: acc)
termination_by n
decreasing_by omega

theorem decGo_zero (acc : List UInt8) : decGo 0 acc = acc := by rw [decGo, if_pos rfl]
theorem decGo_step {n : Nat} (h : n ≠ 0) (acc : List UInt8) : decGo n acc = decGo (n / 10) (UInt8.ofNat (48 + n % 10) :: acc) := by rw [decGo, if_neg h]
theorem decGo_app (n : Nat) : ∀ acc, decGo n acc = decGo n [] ++ acc := by
  induction n using Nat.strongRecOn with
  | _ n ih =>
    intro acc
    by_cases h : n = 0
    · subst h; rw [decGo_zero, decGo_zero]; rfl
    · rw [decGo_step h, decGo_step h, ih (n / 10) (by omega), ih (n / 10) (by omega) [_]]; simp

/-- The figures of a number that is not below 0. -/
def decB (n : Nat) : List UInt8 := if n = 0 then [48] else decGo n []

/-- The number that figures tell. -/
def valN (d : List Nat) : Nat := d.foldl (fun n x => 10 * n + x) 0
theorem valN_snoc (d : List Nat) (x : Nat) : valN (d ++ [x]) = 10 * valN d + x := by simp [valN]
theorem valN_nil : valN [] = 0 := rfl

theorem snoc_cases {α : Type} (l : List α) : l = [] ∨ ∃ r x, l = r ++ [x] := by
  rcases List.eq_nil_or_concat l with h | ⟨r, x, h⟩
  · exact .inl h
  · exact .inr ⟨r, x, by simpa using h⟩

theorem valN_lt (d : List Nat) (h : ∀ x ∈ d, x < 10) : valN d < 10 ^ d.length := by
  generalize hn : d.length = n
  induction n generalizing d with
  | zero => have := List.length_eq_zero_iff.1 hn; subst this; decide
  | succ n ih =>
    rcases snoc_cases d with rfl | ⟨r, x, rfl⟩
    · simp at hn
    · have h1 := ih r (fun y hy => h y (by simp [hy])) (by simp at hn; omega)
      have h2 := h x (by simp)
      rw [valN_snoc, Nat.pow_succ]; omega
theorem valN_le (d : List Nat) (h : ∀ x ∈ d, x < 10) (hl : d.length ≤ 10) : valN d < 10000000000 :=
  Nat.lt_of_lt_of_le (valN_lt d h) (Nat.pow_le_pow_right (by omega) hl)
theorem valN_le9 (d : List Nat) (h : ∀ x ∈ d, x < 10) (hl : d.length ≤ 9) : valN d < 1000000000 :=
  Nat.lt_of_lt_of_le (valN_lt d h) (Nat.pow_le_pow_right (by omega) hl)

theorem Vals.bytes {l : List UInt8} {d : List Nat} (h : Vals 10 l d) : l = d.map fun x => UInt8.ofNat (48 + x) := by
  have hb : ∀ b ∈ l, ∀ x, figVal 10 b.toNat = some x → UInt8.ofNat (48 + x) = b := by
    intro b _ x hx
    rw [figVal10_at] at hx
    split at hx
    · cases hx
      rw [show 48 + (b.toNat - 48) = b.toNat by omega]; simp
    · cases hx
  unfold Vals at h
  induction l generalizing d with
  | nil => cases d with
    | nil => rfl
    | cons x r => simp at h
  | cons b r ih => cases d with
    | nil => simp at h
    | cons x e =>
      simp only [List.map_cons, List.cons.injEq] at h
      rw [List.map_cons, hb b List.mem_cons_self x h.1, ← ih h.2 (fun b' hb' => hb b' (List.mem_cons_of_mem _ hb'))]

/-- Figures without a needless nought ahead are the figures of their number. -/
theorem decGo_valN (d : List Nat) (h : ∀ x ∈ d, x < 10) (h0 : ∀ x ∈ d.head?, x ≠ 0) : decGo (valN d) [] = d.map (fun x => UInt8.ofNat (48 + x)) ∧ (d ≠ [] → valN d ≠ 0) := by
  generalize hn : d.length = n
  induction n generalizing d with
  | zero => have := List.length_eq_zero_iff.1 hn; subst this; exact ⟨by rw [valN_nil, decGo_zero]; rfl, fun h => absurd rfl h⟩
  | succ n ih =>
    rcases snoc_cases d with rfl | ⟨r, x, rfl⟩
    · simp at hn
    · have hx := h x (by simp)
      have h1 := ih r (fun y hy => h y (by simp [hy])) (fun y hy => h0 y (by cases r with
        | nil => simp at hy
        | cons a t => simpa using hy)) (by simp at hn; omega)
      have hnz : 10 * valN r + x ≠ 0 := by
        by_cases hr : r = []
        · subst hr
          have := h0 x (by simp)
          omega
        · have := h1.2 hr; omega
      refine ⟨?_, fun _ => by rw [valN_snoc]; exact hnz⟩
      rw [valN_snoc, decGo_step hnz, show (10 * valN r + x) / 10 = valN r by omega, show (10 * valN r + x) % 10 = x by omega, decGo_app, h1.1]
      simp

theorem decGo_head (n : Nat) : n ≠ 0 → ∀ acc, ∃ b r, decGo n acc = b :: r ∧ b.toNat ≠ 48 := by
  induction n using Nat.strongRecOn with
  | _ n ih =>
    intro h acc
    rw [decGo_step h]
    by_cases h10 : n / 10 = 0
    · rw [h10, decGo_zero]
      exact ⟨_, _, rfl, by rw [UInt8.toNat_ofNat_of_lt' (by show _ < 256; omega)]; omega⟩
    · exact ih (n / 10) (by omega) h10 _

/-- What ReadDecimal takes. -/
def RdOk (l : List UInt8) (d : List Nat) : Prop := valN d ≤ 1000000000 ∧ decB (valN d) = l

theorem rd_nil : ∀ d, Vals 10 [] d → ¬ RdOk [] d := by
  rintro d - ⟨-, h⟩
  unfold decB at h
  split at h
  · cases h
  · obtain ⟨b, r, e, -⟩ := decGo_head (valN d) ‹_› []
    rw [e] at h; cases h

theorem rd_nought {b : UInt8} {r : List UInt8} (hb : b.toNat = 48) (hr : r ≠ []) : ∀ d, Vals 10 (b :: r) d → ¬ RdOk (b :: r) d := by
  rintro d - ⟨-, h⟩
  unfold decB at h
  split at h
  · simp only [List.cons.injEq] at h; exact hr h.2.symm
  · obtain ⟨b', r', e, hb'⟩ := decGo_head (valN d) ‹_› []
    rw [e] at h
    simp only [List.cons.injEq] at h
    exact hb' (by rw [h.1]; exact hb)

theorem rd_plain {l : List UInt8} {d : List Nat} (h : Vals 10 l d) (hne : l ≠ []) (h0 : ∀ b ∈ l.head?, b.toNat = 48 → l.length = 1) : decB (valN d) = l := by
  have hb := h.bytes
  have hlt := h.lt
  cases d with
  | nil => exact absurd (by simpa using hb) hne
  | cons x e =>
    have hx := hlt x List.mem_cons_self
    by_cases hx0 : x = 0
    · subst hx0
      have := h0 (UInt8.ofNat (48 + 0)) (by rw [hb]; rfl) (by decide)
      rw [hb] at this
      simp at this
      subst this
      rw [hb]; decide
    · have := decGo_valN (x :: e) hlt (by intro y hy; simp at hy; subst hy; exact hx0)
      unfold decB
      rw [if_neg (this.2 (by simp)), this.1, ← hb]

end Go.Proofs.YtjgakehacioagaaDoor
