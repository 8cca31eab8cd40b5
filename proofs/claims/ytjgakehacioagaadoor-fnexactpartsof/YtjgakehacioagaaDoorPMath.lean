/- Plain facts on the words of a line, with nothing of the program in them. -/
import Derived.Test.YtjgakehacioagaaDoorDMath
import Derived.Lib.Fields
namespace Go.Proofs.YtjgakehacioagaaDoor

def plainB (b : UInt8) : Prop := 32 ≤ b.toNat ∧ b.toNat ≤ 126

theorem isSp_plain : ∀ b : Fin 256, (32 ≤ b.val ∧ b.val ≤ 126) → Lib.isSp (UInt8.ofNat b.val) = decide (b.val = 32) := by decide +kernel
theorem isSp_of {b : UInt8} (h : plainB b) : Lib.isSp b = decide (b.toNat = 32) := by
  have := isSp_plain ⟨b.toNat, b.toNat_lt⟩ h
  simpa using this

/-- What is left of a line at place i, where the last word began at b. -/
def partsAt (s : ByteArray) (i b : Nat) (out : List (List UInt8)) : Prop :=
  if i ≤ s.size then b ≤ i ∧ out ++ Lib.fieldsGo (s.extract b i).data.toList (s.data.toList.drop i) = Lib.fields s.data.toList else out = Lib.fields s.data.toList

theorem ext_snoc (s : ByteArray) (a i : Nat) (h1 : a ≤ i) (h : i < s.size) : (s.extract a (i + 1)).data.toList = (s.extract a i).data.toList ++ [s[i]] := by
  have h' : i < s.data.toList.length := by simpa using h
  simp only [ByteArray.data_extract, Array.toList_extract, List.extract_eq_take_drop]
  rw [show i + 1 - a = (i - a) + 1 by omega, List.take_succ_eq_append_getElem (by simp; omega)]
  congr 1
  simp [show a + (i - a) = i by omega]
  rfl
theorem ext_nil (s : ByteArray) (a : Nat) : (s.extract a a).data.toList = [] := by
  simp only [ByteArray.data_extract, Array.toList_extract, List.extract_eq_take_drop]; simp
theorem ext_empty (s : ByteArray) (a i : Nat) (hi : i ≤ s.size) : (s.extract a i).data.toList.isEmpty = decide (i ≤ a) := by
  rw [Bool.eq_iff_iff, List.isEmpty_iff, ← List.length_eq_zero_iff]
  simp; omega
theorem dropAt (s : ByteArray) (i : Nat) (h : i < s.size) : s.data.toList.drop i = s[i] :: s.data.toList.drop (i + 1) := by
  rw [List.drop_eq_getElem_cons (by simpa using h)]; rfl

theorem parts_start (s : ByteArray) : partsAt s 0 0 [] := by
  unfold partsAt
  rw [if_pos (Nat.zero_le _), ext_nil]
  exact ⟨Nat.le_refl _, rfl⟩

/-- A byte that is no blank. -/
theorem parts_on {s : ByteArray} {i b : Nat} {out : List (List UInt8)} (h : partsAt s i b out) (hi : i < s.size) (hp : plainB s[i]) (hn : s[i].toNat ≠ 32) : partsAt s (i + 1) b out := by
  unfold partsAt at *
  rw [if_pos (by omega)] at h ⊢
  obtain ⟨hb, he⟩ := h
  refine ⟨by omega, ?_⟩
  rw [dropAt s i hi, Lib.fieldsGo, isSp_of hp] at he
  rw [ext_snoc s b i hb hi, ← he]
  simp [hn]

/-- A blank, or the end. -/
theorem parts_cut {s : ByteArray} {i b : Nat} {out : List (List UInt8)} (h : partsAt s i b out) (hi : i ≤ s.size) (hp : ∀ (h : i < s.size), plainB s[i] ∧ s[i].toNat = 32) :
    (b < i → partsAt s (i + 1) (i + 1) (out ++ [(s.extract b i).data.toList])) ∧ (¬ b < i → partsAt s (i + 1) (i + 1) out) := by
  unfold partsAt at *
  rw [if_pos hi] at h
  obtain ⟨hb, he⟩ := h
  have hemp := ext_empty s b i hi
  by_cases hlt : i < s.size
  · obtain ⟨hpl, h32⟩ := hp hlt
    rw [dropAt s i hlt, Lib.fieldsGo, isSp_of hpl, if_pos (by simp [h32]), hemp] at he
    rw [if_pos (show i + 1 ≤ s.size by omega), if_pos (show i + 1 ≤ s.size by omega), ext_nil]
    constructor
    · intro hbi
      rw [if_neg (by simp; omega)] at he
      exact ⟨Nat.le_refl _, by rw [← he]; simp⟩
    · intro hbi
      rw [if_pos (by simp; omega)] at he
      exact ⟨Nat.le_refl _, he⟩
  · have : i = s.size := by omega
    rw [List.drop_of_length_le (by simp; omega), Lib.fieldsGo, hemp] at he
    rw [if_neg (show ¬ i + 1 ≤ s.size by omega), if_neg (show ¬ i + 1 ≤ s.size by omega)]
    constructor
    · intro hbi
      rw [if_neg (by simp; omega)] at he
      exact he
    · intro hbi
      rw [if_pos (by simp; omega)] at he
      simpa using he

theorem parts_end {s : ByteArray} {i b : Nat} {out : List (List UInt8)} (h : partsAt s i b out) (hi : s.size < i) : out = Lib.fields s.data.toList := by
  unfold partsAt at h
  rwa [if_neg (by omega)] at h

/-- How many words there may be. -/
theorem parts_len {s : ByteArray} {i b : Nat} {out : List (List UInt8)} (h : partsAt s i b out) : out.length ≤ (Lib.fields s.data.toList).length := by
  unfold partsAt at h
  split at h
  · rw [← h.2]; simp
  · rw [h]; exact Nat.le_refl _

theorem fieldsGo_le : ∀ (l cur : List UInt8), (Lib.fieldsGo cur l).length ≤ l.length + 1
  | [], cur => by rw [Lib.fieldsGo]; split <;> simp
  | b :: l, cur => by
    rw [Lib.fieldsGo]
    split
    · split
      · have := fieldsGo_le l []; simp; omega
      · have := fieldsGo_le l []; simp; omega
    · have := fieldsGo_le l (cur ++ [b]); simp; omega

/-- Are all bytes of the line plain? -/
def allPlain (s : ByteArray) : Bool := s.data.toList.all fun b => decide (32 ≤ b.toNat) && decide (b.toNat ≤ 126)
theorem allPlain_at {s : ByteArray} (h : allPlain s = true) (i : Nat) (hi : i < s.size) : plainB s[i] := by
  have hm : s[i] ∈ s.data.toList := mem_at s i hi
  have := List.all_eq_true.1 h _ hm
  simpa [plainB] using this
theorem not_allPlain {s : ByteArray} {i : Nat} (hi : i < s.size) (h : ¬ plainB s[i]) : allPlain s = false := by
  cases hc : allPlain s with
  | false => rfl
  | true => exact absurd (allPlain_at hc i hi) h
theorem allPlain_of {s : ByteArray} (h : ∀ i (hi : i < s.size), plainB s[i]) : allPlain s = true := by
  refine List.all_eq_true.2 fun b hb => ?_
  obtain ⟨i, hi, rfl⟩ := List.mem_iff_getElem.1 hb
  have := h i (by simpa using hi)
  have e : s.data.toList[i] = s[i]'(by simpa using hi) := rfl
  rw [e]
  simpa [plainB] using this

/-- What PartsOf tells. -/
def partsR (s : ByteArray) : List (List UInt8) × Bool :=
  if s.size ≤ 600 ∧ allPlain s = true ∧ (Lib.fields s.data.toList).length ≤ 10 then (Lib.fields s.data.toList, true) else ([], false)

end Go.Proofs.YtjgakehacioagaaDoor
