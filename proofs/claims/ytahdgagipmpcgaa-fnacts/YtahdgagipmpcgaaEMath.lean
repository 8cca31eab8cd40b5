/- What was written is read back: plain facts. -/
import Derived.Test.YtahdgagipmpcgaaARead5
import Derived.Test.YtahdgagipmpcgaaAText4
namespace Go.Proofs.Ytahdgagipmpcgaa
set_option maxRecDepth 100000
set_option linter.unusedVariables false

theorem rvGo_back (post : List UInt8) (m : Nat) : ∀ k n0 sc i f, (varB m).length ≤ k → n0 + sc * m ≤ 1000000000 → (m ≠ 0 ∨ f = true) → rvGo k (varB m ++ post) n0 sc i f = some (n0 + sc * m, i + (varB m).length) := by
  induction m using Nat.strongRecOn with
  | _ m ih =>
    intro k n0 sc i f hk hb hf
    by_cases hm : m < 128
    · rw [varB_small hm] at hk ⊢
      cases k with
      | zero => simp at hk
      | succ k =>
        have e : (UInt8.ofNat m).toNat = m := by simp; omega
        have e2 : m % 128 * sc = sc * m := by rw [Nat.mod_eq_of_lt hm, Nat.mul_comm]
        simp only [List.cons_append, List.nil_append, rvGo, e, e2]
        rw [if_pos hm, if_neg]
        · simp
        · rintro (h | ⟨h, h'⟩)
          · omega
          · rcases hf with hf | hf
            · exact hf h
            · rw [h'] at hf; cases hf
    · rw [varB_big hm] at hk ⊢
      cases k with
      | zero => simp at hk
      | succ k =>
        have e : (UInt8.ofNat (m % 128 + 128)).toNat = m % 128 + 128 := by simp; omega
        have e3 : (m % 128 + 128) % 128 * sc = sc * (m % 128) := by rw [Nat.mul_comm]; congr 1; omega
        have e4 : sc * m = sc * (m % 128) + sc * 128 * (m / 128) := by
          rw [Nat.mul_assoc, ← Nat.mul_add]; congr 1; omega
        simp only [List.cons_append, rvGo, e, e3]
        rw [if_neg (by omega), ih (m / 128) (by omega) k _ _ _ false (by simpa using hk) (by omega) (.inl (by omega))]
        simp only [List.length_cons, Option.some.injEq, Prod.mk.injEq]
        omega

/-- The bytes L stand at a. -/
def At (s : ByteArray) (a : Nat) (L : List UInt8) : Prop := a ≤ s.size ∧ s.data.toList.drop a = L
theorem At.skip {s : ByteArray} {a : Nat} {X L : List UInt8} (h : At s a (X ++ L)) : At s (a + X.length) L := by
  obtain ⟨h1, h2⟩ := h
  have hl : s.data.toList.length = s.size := by simp
  have hlen : (s.data.toList.drop a).length = X.length + L.length := by rw [h2, List.length_append]
  rw [List.length_drop, hl] at hlen
  refine ⟨by omega, ?_⟩
  rw [← List.drop_drop, h2]; simp
theorem At.num {s : ByteArray} {a n : Nat} {L : List UInt8} (h : At s a (varB n ++ L)) (hn : n ≤ 1000000000) : numM s.data.toList (some (a : Int)) = ((n : Int), some ((a + (varB n).length : Nat) : Int)) := by
  have hl : s.data.toList.length = s.size := by simp
  have hr : rv s.data.toList (a : Int) = some (n, a + (varB n).length) := by
    unfold rv
    rw [if_pos ⟨by omega, by have := h.1; omega⟩, Int.toNat_natCast, h.2, rvGo_back L n 5 0 1 a true (varB_len5 hn) (by omega) (.inr rfl)]
    simp
  simp only [numM, hr]
theorem At.int {s : ByteArray} {a : Nat} {x : Int} {L : List UInt8} (h : At s a (varB x.toNat ++ L)) (h0 : 0 ≤ x) (h1 : x ≤ 1000000000) : n0 s (some (a : Int)) = x ∧ at1 s (some (a : Int)) = some ((a + (varB x.toNat).length : Nat) : Int) := by
  have := h.num (by omega)
  unfold n0 at1
  rw [this]
  exact ⟨by simp; omega, rfl⟩
theorem At.name {s : ByteArray} {a : Nat} {o : ByteArray} {L : List UInt8} (h : At s a (varB o.size ++ (o.data.toList ++ L))) (ho : o.size ≤ 20000) : (nameM s (some (a : Int))).1 = o ∧ atS s (some (a : Int)) = some ((a + (varB o.size).length + o.data.toList.length : Nat) : Int) := by
  have h2 := h.skip
  have h3 := h2.skip
  have hl : s.data.toList.length = s.size := by simp
  have hr : rv s.data.toList (a : Int) = some (o.size, a + (varB o.size).length) := by
    unfold rv
    rw [if_pos ⟨by omega, by have := h.1; omega⟩, Int.toNat_natCast, h.2, rvGo_back _ o.size 5 0 1 a true (varB_len5 (by omega)) (by omega) (.inr rfl)]
    simp
  have hol : o.data.toList.length = o.size := by simp
  have hsz := h3.1
  rw [hol] at hsz
  unfold atS
  simp only [nameM, hr]
  rw [if_pos ⟨ho, hsz⟩, hol]
  refine ⟨?_, rfl⟩
  apply ByteArray.ext
  apply Array.ext'
  rw [extract_list]
  unfold seg
  rw [h2.2, show a + (varB o.size).length + o.size - (a + (varB o.size).length) = o.data.toList.length by omega, List.take_left']
  rfl

theorem rd_back {s : ByteArray} {a : Nat} {A : Ac} {L : List UInt8} (hA : AOk A) (h : At s a (actB A ++ L)) : rdA s (some (a : Int)) = A ∧ rdE s (some (a : Int)) = some ((a + (actB A).length : Nat) : Int) := by
  have hL := hA.lim
  obtain ⟨r, s', t, k, v, x, z, o, y, l⟩ := A
  have hl3 := hL.n
  match l, hl3 with
  | [l0, l1, l2], _ =>
    have b0 := hL.l l0 (by simp)
    have b1 := hL.l l1 (by simp)
    have b2 := hL.l l2 (by simp)
    have br := hL.r
    have bs := hL.s
    have bt := hL.t
    have bk := hL.k
    have bv := hL.v
    have bx := hL.x
    have bz := hL.z
    have bo := hL.o
    have by' := hL.y
    simp only at br bs bt bk bv bx bz bo by'
    have e : actB ⟨r, s', t, k, v, x, z, o, y, [l0, l1, l2]⟩ ++ L = varB r.toNat ++ (varB s'.toNat ++ (varB t.toNat ++ (varB l0.toNat ++ (varB l1.toNat ++ (varB l2.toNat ++ (varB k.toNat ++ (varB o.size ++ (o.data.toList ++ (varB y.size ++ (y.data.toList ++ (varB v.toNat ++ (varB x.toNat ++ (varB z.toNat ++ L))))))))))))) := by
      simp [actB, numsB, List.append_assoc]
    rw [e] at h
    obtain ⟨p1, q1⟩ := h.int br.1 (by omega)
    have h1 := h.skip
    obtain ⟨p2, q2⟩ := h1.int bs.1 (by omega)
    have h2 := h1.skip
    obtain ⟨p3, q3⟩ := h2.int bt.1 (by omega)
    have h3 := h2.skip
    obtain ⟨p4, q4⟩ := h3.int b0.1 (by omega)
    have h4 := h3.skip
    obtain ⟨p5, q5⟩ := h4.int b1.1 (by omega)
    have h5 := h4.skip
    obtain ⟨p6, q6⟩ := h5.int b2.1 (by omega)
    have h6 := h5.skip
    obtain ⟨p7, q7⟩ := h6.int bk.1 (by omega)
    have h7 := h6.skip
    obtain ⟨p8, q8⟩ := h7.name (by omega)
    have h8 := h7.skip.skip
    obtain ⟨p9, q9⟩ := h8.name (by omega)
    have h9 := h8.skip.skip
    obtain ⟨p10, q10⟩ := h9.int bv.1 (by omega)
    have h10 := h9.skip
    obtain ⟨p11, q11⟩ := h10.int bx.1 (by omega)
    have h11 := h10.skip
    obtain ⟨p12, q12⟩ := h11.int bz.1 (by omega)
    constructor
    · unfold rdA kn3 atK
      simp only [q1, q2, q3, q4, q5, q6, q7, q8, q9, q10, q11, p1, p2, p3, p4, p5, p6, p7, p8, p9, p10, p11, p12]
    · unfold rdE atK
      rw [q1, q2, q3, q4, q5, q6, q7, q8, q9, q10, q11, q12]
      simp only [Option.some.injEq, Int.natCast_inj]
      have := congrArg List.length e
      simp only [List.length_append] at this ⊢
      omega
theorem rdR_back {s : ByteArray} {a : Nat} {A : Ac} {L : List UInt8} (hA : AOk A) (h : At s a (actB A ++ L)) : rdR s (a : Int) = (A, ((a + (actB A).length : Nat) : Int), true) := by
  obtain ⟨h1, h2⟩ := rd_back hA h
  have := rdR_yes h2 (by rw [h1]; exact hA)
  rw [h1] at this
  exact this
end Go.Proofs.Ytahdgagipmpcgaa
