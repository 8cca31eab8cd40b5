/- Plain facts on reading a number back from its bytes, with nothing of the program in them. -/
import Derived.Test.YtajihpcihlbjgaaWMath
namespace Go.Proofs.Ytajihpcihlbjgaa
set_option maxRecDepth 100000
set_option linter.unusedVariables false

/-- The bytes d, each with its high bit, stand ahead of whatever number comes behind. -/
def Pre (d : List UInt8) (n sc : Nat) : Prop := ∀ m, (1 ≤ m ∨ d = []) → varB (n + sc * m) = d ++ varB m

theorem pre_nil : Pre [] 0 1 := by intro m _; simp

theorem u8_of (b : UInt8) : UInt8.ofNat b.toNat = b := by simp

theorem pre_snoc {d : List UInt8} {n sc : Nat} (h : Pre d n sc) (b : UInt8) (hb : 128 ≤ b.toNat) : Pre (d ++ [b]) (n + b.toNat % 128 * sc) (sc * 128) := by
  have hl := b.toNat_lt
  intro m hm
  have h1 : 1 ≤ m := by rcases hm with h | h; exact h; simp at h
  have e : n + b.toNat % 128 * sc + sc * 128 * m = n + sc * (b.toNat % 128 + 128 * m) := by
    rw [Nat.mul_add, Nat.mul_comm (b.toNat % 128) sc, Nat.mul_assoc]; omega
  rw [e, h _ (.inl (by omega)), varB_big (by omega)]
  have e1 : (b.toNat % 128 + 128 * m) % 128 + 128 = b.toNat := by omega
  have e2 : (b.toNat % 128 + 128 * m) / 128 = m := by omega
  rw [e1, e2, u8_of]; simp

theorem pre_end {d : List UInt8} {n sc : Nat} (h : Pre d n sc) (b : UInt8) (hb : b.toNat < 128) (hz : b.toNat ≠ 0 ∨ d = []) : varB (n + b.toNat % 128 * sc) = d ++ [b] := by
  have e : n + b.toNat % 128 * sc = n + sc * b.toNat := by rw [Nat.mod_eq_of_lt hb, Nat.mul_comm]
  rw [e, h _ (by rcases hz with h | h; exact .inl (by omega); exact .inr h), varB_small hb, u8_of]

theorem varB_last (n : Nat) : ∀ d b, varB n = d ++ [b] → b.toNat = 0 → d = [] := by
  induction n using Nat.strongRecOn with
  | _ n ih =>
    intro d b h hb
    by_cases hn : n < 128
    · rw [varB_small hn] at h
      cases d with
      | nil => rfl
      | cons x r => simp at h
    · rw [varB_big hn] at h
      cases d with
      | nil =>
        rfl
      | cons x r =>
        simp at h
        have h2 := ih (n / 128) (by omega) r b h.2 hb
        subst h2
        have hv := h.2
        by_cases hq : n / 128 < 128
        · rw [varB_small hq] at hv
          simp at hv
          have : (UInt8.ofNat (n / 128)).toNat = b.toNat := by rw [hv]
          simp [Nat.mod_eq_of_lt (show n / 128 < 256 by omega)] at this
          omega
        · rw [varB_big hq] at hv
          have := varB_len (n / 128 / 128)
          simp at hv
          rw [hv.2] at this
          simp at this

/-- What is read from the bytes l at place i on, at most k of them. -/
def rvGo : Nat → List UInt8 → Nat → Nat → Nat → Bool → Option (Nat × Nat)
  | 0, _, _, _, _, _ => none
  | _ + 1, [], _, _, _, _ => none
  | k + 1, b :: r, n, sc, i, first =>
    if b.toNat < 128 then (if 1000000000 < n + b.toNat % 128 * sc ∨ (b.toNat = 0 ∧ first = false) then none else some (n + b.toNat % 128 * sc, i + 1))
    else rvGo k r (n + b.toNat % 128 * sc) (sc * 128) (i + 1) false

/-- What ReadVar tells of the bytes l at place a. -/
def rv (l : List UInt8) (a : Int) : Option (Nat × Nat) := if 0 ≤ a ∧ a ≤ l.length then rvGo 5 (l.drop a.toNat) 0 1 a.toNat true else none

def rvRes : Option (Nat × Nat) → Value
  | none => .tuple #[.int .i64 0, .int .i64 0, .bool false]
  | some (n, i) => .tuple #[.int .i64 (n : Int), .int .i64 (i : Int), .bool true]

theorem drop_at (s : ByteArray) (i : Nat) (h : i < s.size) : s.data.toList.drop i = s[i] :: s.data.toList.drop (i + 1) := by
  rw [List.drop_eq_getElem_cons (by simpa using h)]; rfl

/-- What the loop has still to read, from place i on, when it began at a. -/
def rvAt (s : ByteArray) (a i n sc : Nat) : Option (Nat × Nat) := rvGo (a + 5 - i) (s.data.toList.drop i) n sc i (i == a)

theorem rvAt_more {s : ByteArray} {a i n sc : Nat} (h : i < s.size) (h5 : i < a + 5) (ha : a ≤ i) (hb : 128 ≤ s[i].toNat) :
    rvAt s a i n sc = rvAt s a (i + 1) (n + s[i].toNat % 128 * sc) (sc * 128) := by
  unfold rvAt
  rw [drop_at s i h, show a + 5 - i = (a + 5 - (i + 1)) + 1 by omega]
  have e : (i + 1 == a) = false := by simp; omega
  rw [rvGo, if_neg (by omega), e]

theorem rvAt_end {s : ByteArray} {a i n sc : Nat} (h : i < s.size) (h5 : i < a + 5) (hb : s[i].toNat < 128) :
    rvAt s a i n sc = if 1000000000 < n + s[i].toNat % 128 * sc ∨ (s[i].toNat = 0 ∧ i ≠ a) then none else some (n + s[i].toNat % 128 * sc, i + 1) := by
  unfold rvAt
  rw [drop_at s i h, show a + 5 - i = (a + 5 - (i + 1)) + 1 by omega, rvGo, if_pos hb]
  simp

theorem rvAt_out {s : ByteArray} {a i n sc : Nat} (h : s.size ≤ i ∨ a + 5 ≤ i) : rvAt s a i n sc = none := by
  unfold rvAt
  rcases h with h | h
  · rw [List.drop_of_length_le (by simpa using h)]
    cases a + 5 - i <;> rfl
  · rw [show a + 5 - i = 0 by omega]; rfl

theorem rv_at (s : ByteArray) (a : Nat) (h : a ≤ s.size) : rv s.data.toList a = rvAt s a a 0 1 := by
  unfold rv rvAt
  rw [if_pos ⟨by omega, by simpa using h⟩, show a + 5 - a = 5 by omega]
  simp

theorem rv_no {l : List UInt8} {a : Int} (h : a < 0 ∨ l.length < a) : rv l a = none := by
  unfold rv; rw [if_neg (by omega)]

theorem rvGo_some : ∀ k l n sc i f m j, rvGo k l n sc i f = some (m, j) → m ≤ 1000000000 ∧ i < j ∧ j ≤ i + l.length := by
  intro k
  induction k with
  | zero => intro l n sc i f m j h; cases h
  | succ k ih =>
    intro l n sc i f m j h
    cases l with
    | nil => cases h
    | cons b r =>
      rw [rvGo] at h
      split at h
      · split at h
        · cases h
        · simp at h; simp only [List.length_cons]; omega
      · have := ih _ _ _ _ _ _ _ h; simp only [List.length_cons]; omega

theorem rv_some {l : List UInt8} {a : Int} {m j : Nat} (h : rv l a = some (m, j)) : m ≤ 1000000000 ∧ a < j ∧ j ≤ l.length := by
  unfold rv at h
  split at h
  · have := rvGo_some _ _ _ _ _ _ _ _ h
    simp at this; omega
  · cases h

theorem extract_snoc (s : ByteArray) (a i : Nat) (h1 : a ≤ i) (h : i < s.size) : (s.extract a (i + 1)).data.toList = (s.extract a i).data.toList ++ [s[i]] := by
  have h' : i < s.data.toList.length := by simpa using h
  simp only [ByteArray.data_extract, Array.toList_extract, List.extract_eq_take_drop]
  rw [show i + 1 - a = (i - a) + 1 by omega, List.take_succ_eq_append_getElem (by simp; omega)]
  congr 1
  simp [show a + (i - a) = i by omega]
  rfl

theorem read_dec {s : ByteArray} {a i n sc : Nat} (h1 : a ≤ i) (h : i < s.size) (hpre : Pre (s.extract a i).data.toList n sc) (hb : s[i].toNat < 128) :
    varB (n + s[i].toNat % 128 * sc) = (s.extract a (i + 1)).data.toList ↔ ¬ (s[i].toNat = 0 ∧ i ≠ a) := by
  rw [extract_snoc s a i h1 h]
  have hd : (s.extract a i).data.toList = [] ↔ i = a := by
    rw [← List.length_eq_zero_iff]; simp; omega
  constructor
  · rintro he ⟨hz, hia⟩
    exact hia (hd.1 (varB_last _ _ _ he hz))
  · intro hn
    refine pre_end hpre _ hb ?_
    by_cases hz : s[i].toNat = 0
    · exact .inr (hd.2 (by omega))
    · exact .inl hz

/-- How great the scale is at place i, when the reading began at a. -/
def ScB (a i sc : Nat) : Prop := (i < a + 1 → sc ≤ 1) ∧ (i < a + 2 → sc ≤ 128) ∧ (i < a + 3 → sc ≤ 16384) ∧ (i < a + 4 → sc ≤ 2097152) ∧ (i < a + 5 → sc ≤ 268435456) ∧ sc ≤ 34359738368
theorem ScB.start (a : Nat) : ScB a a 1 := by unfold ScB; omega
theorem ScB.step {a i sc : Nat} (h : ScB a i sc) (ha : a ≤ i) (h8 : i < a + 5) : ScB a (i + 1) (sc * 128) := by unfold ScB at *; omega
theorem ScB.le {a i sc : Nat} (h : ScB a i sc) (h8 : i < a + 5) : sc ≤ 268435456 := h.2.2.2.2.1 h8
theorem cast_part (x sc : Nat) : ((x % 128 * sc : Nat) : Int) = (x : Int) % 128 * sc := by simp

end Go.Proofs.Ytajihpcihlbjgaa
