/- Plain facts on the values of figures, with nothing of the program in them. -/
import Derived.Test.YtjgakehacioagaaDoorHMath
namespace Go.Proofs.YtjgakehacioagaaDoor

/-- The value of the figure b to that base, if it is one. -/
def figVal (base b : Nat) : Option Nat := (List.range base).find? fun x => figN x == b

theorem figVal_none {base b : Nat} (h : ∀ x, x < base → b ≠ figN x) : figVal base b = none := by
  unfold figVal
  rw [List.find?_eq_none]
  intro x hx
  simp at hx
  simpa using fun e => h x hx e.symm

theorem figVal_some {base b c : Nat} (hc : c < base) (h : ∀ x, x < c → b ≠ figN x) (he : b = figN c) : figVal base b = some c := by
  unfold figVal
  rw [List.find?_eq_some_iff_append]
  refine ⟨by simp [he], List.range c, (List.range' (c + 1) (base - (c + 1))), ?_, ?_⟩
  · rw [List.range_eq_range', List.range_eq_range']
    have e : List.range' 0 base = List.range' 0 c ++ List.range' c (base - c) := by
      have := List.range'_append_1 (s := 0) (m := c) (n := base - c)
      rw [Nat.zero_add] at this
      rw [this, show c + (base - c) = base by omega]
    rw [e, show base - c = (base - (c + 1)) + 1 by omega, List.range'_succ]
  · intro x hx
    simp at hx
    simpa using fun e => h x hx e.symm

theorem figVal16 : ∀ b : Fin 256, figVal 16 b.val = if 48 ≤ b.val ∧ b.val ≤ 57 then some (b.val - 48) else if 97 ≤ b.val ∧ b.val ≤ 102 then some (b.val - 87) else none := by decide +kernel
theorem figVal10 : ∀ b : Fin 256, figVal 10 b.val = if 48 ≤ b.val ∧ b.val ≤ 57 then some (b.val - 48) else none := by decide +kernel

theorem figVal16_at (b : UInt8) : figVal 16 b.toNat = if 48 ≤ b.toNat ∧ b.toNat ≤ 57 then some (b.toNat - 48) else if 97 ≤ b.toNat ∧ b.toNat ≤ 102 then some (b.toNat - 87) else none := figVal16 ⟨b.toNat, b.toNat_lt⟩
theorem figVal10_at (b : UInt8) : figVal 10 b.toNat = if 48 ≤ b.toNat ∧ b.toNat ≤ 57 then some (b.toNat - 48) else none := figVal10 ⟨b.toNat, b.toNat_lt⟩

theorem figVal_lt {base b x : Nat} (h : figVal base b = some x) : x < base := by
  unfold figVal at h
  have := List.mem_of_find?_eq_some h
  simpa using this

/-- The figures l have the values d. -/
def Vals (base : Nat) (l : List UInt8) (d : List Nat) : Prop := l.map (fun b => figVal base b.toNat) = d.map some

theorem Vals.nil (base : Nat) : Vals base [] [] := rfl
theorem Vals.len {base : Nat} {l : List UInt8} {d : List Nat} (h : Vals base l d) : d.length = l.length := by
  have := congrArg List.length h; simpa using this.symm
theorem Vals.snoc {base : Nat} {s : ByteArray} {k : Nat} {d : List Nat} {x : Nat} (h : Vals base (s.data.toList.take k) d) (hk : k < s.size) (hx : figVal base s[k].toNat = some x) : Vals base (s.data.toList.take (k + 1)) (d ++ [x]) := by
  unfold Vals at *
  rw [take_snoc s k hk, List.map_append, h]
  simp [hx]
theorem Vals.inj {base : Nat} {l : List UInt8} {d e : List Nat} (h : Vals base l d) (h' : Vals base l e) : d = e := by
  unfold Vals at *
  rw [h] at h'
  have := congrArg (List.map (fun o : Option Nat => o.getD 0)) h'
  have e1 : ((fun o : Option Nat => o.getD 0) ∘ some) = id := rfl
  simpa [e1] using this
theorem Vals.no {base : Nat} {l : List UInt8} {d : List Nat} (h : Vals base l d) {b : UInt8} (hb : b ∈ l) : figVal base b.toNat ≠ none := by
  intro hn
  have : figVal base b.toNat ∈ d.map some := by rw [← h]; exact List.mem_map.2 ⟨b, hb, rfl⟩
  rw [hn] at this
  simp at this
theorem Vals.lt {base : Nat} {l : List UInt8} {d : List Nat} (h : Vals base l d) : ∀ x ∈ d, x < base := by
  intro x hx
  have : some x ∈ l.map (fun b => figVal base b.toNat) := by rw [h]; exact List.mem_map.2 ⟨x, hx, rfl⟩
  obtain ⟨b, _, hb⟩ := List.mem_map.1 this
  exact figVal_lt hb

/-- Bytes out of figures, two a byte. -/
def unhexB : List Nat → List UInt8
  | x :: y :: r => UInt8.ofNat (16 * x + y) :: unhexB r
  | _ => []

theorem unhexB_snoc (d : List Nat) (n : Nat) (h : d.length = 2 * n) (x y : Nat) : unhexB (d ++ [x, y]) = unhexB d ++ [UInt8.ofNat (16 * x + y)] := by
  induction n generalizing d with
  | zero => have := List.length_eq_zero_iff.1 (show d.length = 0 by omega); subst this; rfl
  | succ n ih =>
    match d, h with
    | a :: b :: r, h =>
      simp only [List.length_cons] at h
      show unhexB (a :: b :: (r ++ [x, y])) = _
      simp [unhexB, ih r (by omega)]
theorem unhexB_len (d : List Nat) (n : Nat) (h : d.length = 2 * n) : (unhexB d).length = n := by
  induction n generalizing d with
  | zero => have := List.length_eq_zero_iff.1 (show d.length = 0 by omega); subst this; rfl
  | succ n ih =>
    match d, h with
    | a :: b :: r, h =>
      simp only [List.length_cons] at h
      simp [unhexB, ih r (by omega)]

/-- The cells of whole numbers. -/
def intCells (d : List Nat) : List Value := d.map fun x : Nat => Value.int .i64 (x : Int)
theorem mem_at (s : ByteArray) (k : Nat) (h : k < s.size) : s[k] ∈ s.data.toList := by
  have : s.data.toList[k]'(by simpa using h) = s[k] := rfl
  rw [← this]; exact List.getElem_mem _

theorem take_two (d : List Nat) (k : Nat) (h : k + 1 < d.length) : d.take (k + 2) = d.take k ++ [d[k], d[k + 1]] := by
  rw [List.take_succ_eq_append_getElem h, List.take_succ_eq_append_getElem (by omega), List.append_assoc]; rfl
theorem unhexB_two (d : List Nat) (j k : Nat) (hk : k = 2 * j) (h : k + 1 < d.length) : unhexB (d.take (k + 2)) = unhexB (d.take k) ++ [UInt8.ofNat (16 * d[k] + d[k + 1])] := by
  rw [take_two d k h]
  exact unhexB_snoc _ j (by rw [List.length_take]; omega) _ _

end Go.Proofs.YtjgakehacioagaaDoor
