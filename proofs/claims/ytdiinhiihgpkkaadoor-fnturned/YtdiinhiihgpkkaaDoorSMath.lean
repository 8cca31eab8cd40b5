/- Plain facts on the sum of a text: what one bit, four bits and a byte make of it; nothing of the program. -/
import Derived.Laws.BitsAllLaws
namespace Go.Proofs.YtdiinhiihgpkkaaDoor

/-- One bit goes out. -/
def sumBit (s : Nat) : Nat := if s % 2 = 1 then s / 2 ^^^ 3558460437 else s / 2
def sumHalf (s : Nat) : Nat := sumBit (sumBit (sumBit (sumBit s)))
def sumByte (s b : Nat) : Nat := sumHalf (sumHalf (s ^^^ b))
/-- A text goes in. -/
def sumMore (s : Nat) (l : List UInt8) : Nat := l.foldl (fun s b => sumByte s b.toNat) s
def halfTab : List Int := [0, 1166650509, 2333301018, 3466261911, 3189058079, 4221339282, 889615109, 1888477064, 3558460437, 2442158232, 1594529039, 444807554, 1779230218, 797264519, 3776954128, 2761298845]

theorem xor_can {a b c : Nat} (h : a ^^^ c = b ^^^ c) : a = b := by
  have h2 : a ^^^ c ^^^ c = b ^^^ c ^^^ c := by rw [h]
  simpa [Nat.xor_assoc] using h2
theorem xor_can' {a b c : Nat} (h : c ^^^ a = c ^^^ b) : a = b := by
  rw [Nat.xor_comm c a, Nat.xor_comm c b] at h
  exact xor_can h
theorem xor_half (a b : Nat) : (a ^^^ b) / 2 = a / 2 ^^^ b / 2 := by
  simpa [Nat.shiftRight_eq_div_pow] using Nat.shiftRight_xor_distrib (a := a) (b := b) (i := 1)

theorem xor_odd (a b : Nat) : (a ^^^ b) % 2 = 1 ↔ ¬ (a % 2 = 1 ↔ b % 2 = 1) := by
  have h := Nat.testBit_xor a b 0
  simp only [Nat.testBit_zero] at h
  have h2 : (decide ((a ^^^ b) % 2 = 1) = true) ↔ ((decide (a % 2 = 1) ^^ decide (b % 2 = 1)) = true) := by rw [h]
  simp only [decide_eq_true_eq] at h2
  rw [h2]
  by_cases ha : a % 2 = 1 <;> by_cases hb : b % 2 = 1 <;> simp [ha, hb]

theorem sumBit_xor (a b : Nat) : sumBit (a ^^^ b) = sumBit a ^^^ sumBit b := by
  have h := xor_odd a b
  unfold sumBit
  rw [xor_half]
  by_cases ha : a % 2 = 1 <;> by_cases hb : b % 2 = 1
  · rw [if_neg (by rw [h]; simp [ha, hb]), if_pos ha, if_pos hb]
    rw [Nat.xor_assoc, Nat.xor_comm 3558460437 (b / 2 ^^^ 3558460437), Nat.xor_assoc (b / 2), Nat.xor_self, Nat.xor_zero]
  · rw [if_pos (by rw [h]; simp [ha, hb]), if_pos ha, if_neg hb]
    rw [Nat.xor_assoc, Nat.xor_comm (b / 2), ← Nat.xor_assoc]
  · rw [if_pos (by rw [h]; simp [ha, hb]), if_neg ha, if_pos hb]
    rw [Nat.xor_assoc]
  · rw [if_neg (by rw [h]; simp [ha, hb]), if_neg ha, if_neg hb]

theorem sumBit_even (q : Nat) : sumBit (2 * q) = q := by unfold sumBit; rw [if_neg (by omega)]; omega

theorem sumHalf_xor (a b : Nat) : sumHalf (a ^^^ b) = sumHalf a ^^^ sumHalf b := by unfold sumHalf; simp only [sumBit_xor]
theorem sumHalf_high (q : Nat) : sumHalf (16 * q) = q := by
  unfold sumHalf
  rw [show 16 * q = 2 * (2 * (2 * (2 * q))) by omega]
  simp only [sumBit_even]

theorem high_low (s : Nat) : 16 * (s / 16) ^^^ s % 16 = s := by
  apply Nat.eq_of_testBit_eq
  intro i
  rw [Nat.testBit_xor, show (16 : Nat) = 2 ^ 4 from rfl, Nat.testBit_two_pow_mul, Nat.testBit_mod_two_pow, Nat.testBit_div_two_pow]
  by_cases hi : i < 4
  · simp [hi, show ¬ 4 ≤ i by omega]
  · simp [hi, show 4 ≤ i by omega, show i - 4 + 4 = i by omega]

theorem half_low (r : Nat) (h : r < 16) : ((sumHalf r : Nat) : Int) = halfTab.getD r 0 := by
  have : ∀ r : Fin 16, ((sumHalf r.1 : Nat) : Int) = halfTab.getD r.1 0 := by decide
  exact this ⟨r, h⟩

theorem sumHalf_tab (s : Nat) : sumHalf s = s / 16 ^^^ (halfTab.getD (s % 16) 0).toNat := by
  have h : sumHalf s = sumHalf (16 * (s / 16)) ^^^ sumHalf (s % 16) := by rw [← sumHalf_xor, high_low]
  rw [h, sumHalf_high, ← half_low _ (by omega)]
  simp

theorem tab_lt (r : Nat) (h : r < 16) : 0 ≤ halfTab.getD r 0 ∧ halfTab.getD r 0 < 4294967296 := by
  have : ∀ r : Fin 16, 0 ≤ halfTab.getD r.1 0 ∧ halfTab.getD r.1 0 < 4294967296 := by decide
  exact this ⟨r, h⟩

theorem sumBit_lt {s : Nat} (h : s < 4294967296) : sumBit s < 4294967296 := by
  unfold sumBit
  split
  · exact Nat.xor_lt_two_pow (n := 32) (by omega) (by omega)
  · omega
theorem sumHalf_lt {s : Nat} (h : s < 4294967296) : sumHalf s < 4294967296 := sumBit_lt (sumBit_lt (sumBit_lt (sumBit_lt h)))
theorem xor_byte_lt {s b : Nat} (h : s < 4294967296) (hb : b < 256) : s ^^^ b < 4294967296 := Nat.xor_lt_two_pow (n := 32) (by omega) (by omega)
theorem sumByte_lt {s b : Nat} (h : s < 4294967296) (hb : b < 256) : sumByte s b < 4294967296 := sumHalf_lt (sumHalf_lt (xor_byte_lt h hb))
theorem sumMore_lt {l : List UInt8} : ∀ {s : Nat}, s < 4294967296 → sumMore s l < 4294967296 := by
  induction l with
  | nil => intro s h; exact h
  | cons b t ih => intro s h; exact ih (s := sumByte s b.toNat) (sumByte_lt h (UInt8.toNat_lt b))

theorem sumMore_app (s : Nat) (a b : List UInt8) : sumMore s (a ++ b) = sumMore (sumMore s a) b := by unfold sumMore; rw [List.foldl_append]

/-- A bit that is lost can be told from what is left. -/
theorem sumBit_inj {a b : Nat} (ha : a < 4294967296) (hb : b < 4294967296) (h : sumBit a = sumBit b) : a = b := by
  have key : ∀ x : Nat, x < 4294967296 → ((sumBit x).testBit 31 = decide (x % 2 = 1)) := by
    intro x hx
    have hz : (x / 2).testBit 31 = false := Nat.testBit_lt_two_pow (by omega)
    unfold sumBit
    split <;> rename_i hc
    · rw [Nat.testBit_xor, hz, hc]; decide
    · rw [hz]; simp; omega
  have h1 : decide (a % 2 = 1) = decide (b % 2 = 1) := by rw [← key a ha, ← key b hb, h]
  have h2 : a % 2 = 1 ↔ b % 2 = 1 := by simpa using h1
  unfold sumBit at h
  by_cases hc : a % 2 = 1
  · rw [if_pos hc, if_pos (h2.1 hc)] at h
    have := xor_can h
    have := h2.1 hc
    omega
  · rw [if_neg hc, if_neg (fun x => hc (h2.2 x))] at h
    have := mt h2.2 hc
    omega
theorem sumHalf_inj {a b : Nat} (ha : a < 4294967296) (hb : b < 4294967296) (h : sumHalf a = sumHalf b) : a = b :=
  sumBit_inj ha hb (sumBit_inj (sumBit_lt ha) (sumBit_lt hb) (sumBit_inj (sumBit_lt (sumBit_lt ha)) (sumBit_lt (sumBit_lt hb)) (sumBit_inj (sumBit_lt (sumBit_lt (sumBit_lt ha))) (sumBit_lt (sumBit_lt (sumBit_lt hb))) h)))
theorem sumMore_inj {l : List UInt8} : ∀ {a b : Nat}, a < 4294967296 → b < 4294967296 → sumMore a l = sumMore b l → a = b := by
  induction l with
  | nil => intro a b _ _ h; exact h
  | cons c t ih =>
    intro a b ha hb h
    have hc := UInt8.toNat_lt c
    have h1 := ih (a := sumByte a c.toNat) (b := sumByte b c.toNat) (sumByte_lt ha hc) (sumByte_lt hb hc) h
    have h2 := sumHalf_inj (xor_byte_lt ha hc) (xor_byte_lt hb hc) (sumHalf_inj (sumHalf_lt (xor_byte_lt ha hc)) (sumHalf_lt (xor_byte_lt hb hc)) h1)
    exact xor_can h2
/-- A text whose one byte is another has another sum. -/
theorem sumMore_turned {s : Nat} (hs : s < 4294967296) (p t : List UInt8) {x y : UInt8} (h : x ≠ y) : sumMore s (p ++ x :: t) ≠ sumMore s (p ++ y :: t) := by
  intro he
  rw [sumMore_app, sumMore_app] at he
  have hp := sumMore_lt (l := p) hs
  have hx := UInt8.toNat_lt x
  have hy := UInt8.toNat_lt y
  have h1 := sumMore_inj (l := t) (a := sumByte (sumMore s p) x.toNat) (b := sumByte (sumMore s p) y.toNat) (sumByte_lt hp hx) (sumByte_lt hp hy) he
  have h2 := sumHalf_inj (xor_byte_lt hp hx) (xor_byte_lt hp hy) (sumHalf_inj (sumHalf_lt (xor_byte_lt hp hx)) (sumHalf_lt (xor_byte_lt hp hy)) h1)
  exact h (UInt8.toNat_inj.1 (xor_can' h2))

/-- The four bytes of a sum, the highest first. -/
def four (s : Nat) : List UInt8 := [UInt8.ofNat (s / 16777216), UInt8.ofNat (s / 65536 % 256), UInt8.ofNat (s / 256 % 256), UInt8.ofNat (s % 256)]
theorem four_len (s : Nat) : (four s).length = 4 := rfl
theorem four_inj {a b : Nat} (ha : a < 4294967296) (hb : b < 4294967296) (h : four a = four b) : a = b := by
  unfold four at h
  simp only [List.cons.injEq, and_true] at h
  obtain ⟨h1, h2, h3, h4⟩ := h
  have e : ∀ x y : Nat, x < 256 → y < 256 → UInt8.ofNat x = UInt8.ofNat y → x = y := by
    intro x y hx hy hxy
    have := congrArg UInt8.toNat hxy
    simpa [Nat.mod_eq_of_lt hx, Nat.mod_eq_of_lt hy] using this
  have := e _ _ (by omega) (by omega) h1
  have := e _ _ (by omega) (by omega) h2
  have := e _ _ (by omega) (by omega) h3
  have := e _ _ (by omega) (by omega) h4
  omega
end Go.Proofs.YtdiinhiihgpkkaaDoor
