/- What was read is what stands there: plain facts. -/
import Derived.Test.YtahdgagipmpcgaaARead3
import Derived.Test.YtahdgagipmpcgaaAText4
namespace Go.Proofs.Ytahdgagipmpcgaa
set_option maxRecDepth 100000
set_option linter.unusedVariables false

/-- The bytes from a to j. -/
def seg (l : List UInt8) (a j : Nat) : List UInt8 := (l.drop a).take (j - a)
theorem seg_app (l : List UInt8) {a b c : Nat} (h1 : a ≤ b) (h2 : b ≤ c) : seg l a b ++ seg l b c = seg l a c := by
  unfold seg
  have e : l.drop b = (l.drop a).drop (b - a) := by rw [List.drop_drop]; congr 1; omega
  have e2 : c - a = (b - a) + (c - b) := by omega
  rw [e, e2, List.take_add]

theorem rvGo_bytes : ∀ k l n sc i f m j, rvGo k l n sc i f = some (m, j) → ∀ d, Pre d n sc → (f = true → d = []) → varB m = d ++ l.take (j - i) := by
  intro k
  induction k with
  | zero => intro l n sc i f m j h; cases h
  | succ k ih =>
    intro l n sc i f m j h d hp hf
    cases l with
    | nil => cases h
    | cons b r =>
      have hs := rvGo_some _ _ _ _ _ _ _ _ h
      rw [rvGo] at h
      split at h
      · rename_i hb
        split at h
        · cases h
        · rename_i hn
          simp only [Option.some.injEq, Prod.mk.injEq] at h
          obtain ⟨rfl, rfl⟩ := h
          rw [show i + 1 - i = 1 by omega]
          simp only [List.take_succ_cons, List.take_zero]
          refine pre_end hp b hb ?_
          by_cases hz : b.toNat = 0
          · right
            apply hf
            cases f with
            | true => rfl
            | false => exact absurd (.inr ⟨hz, rfl⟩) hn
          · exact .inl hz
      · rename_i hb
        have hs2 := rvGo_some _ _ _ _ _ _ _ _ h
        have := ih _ _ _ _ _ _ _ h (d ++ [b]) (pre_snoc hp b (by omega)) (fun e => by cases e)
        rw [this, show j - i = (j - (i + 1)) + 1 by omega, List.take_succ_cons, List.append_assoc]
        rfl

theorem rv_bytes {l : List UInt8} {a : Int} {m j : Nat} (h : rv l a = some (m, j)) : varB m = seg l a.toNat j := by
  unfold rv at h
  split at h
  · have := rvGo_bytes _ _ _ _ _ _ _ _ h [] pre_nil (fun _ => rfl)
    simpa [seg] using this
  · cases h
theorem rv_pos {l : List UInt8} {a : Int} {q : Nat × Nat} (h : rv l a = some q) : 0 ≤ a := by
  unfold rv at h
  split at h
  · omega
  · cases h

theorem numM_some {l : List UInt8} {p : Option Int} {j : Int} (h : (numM l p).2 = some j) : ∃ a : Nat, p = some (a : Int) ∧ (0 ≤ (numM l p).1 ∧ (numM l p).1 ≤ 1000000000) ∧ ∃ b : Nat, j = b ∧ a ≤ b ∧ b ≤ l.length ∧ varB (numM l p).1.toNat = seg l a b := by
  cases p with
  | none => simp [numM] at h
  | some a =>
    cases hr : rv l a with
    | none => simp [numM, hr] at h
    | some q =>
      obtain ⟨n, b⟩ := q
      have h0 := rv_pos hr
      have h1 := rv_some hr
      have h2 := rv_bytes hr
      simp only [numM, hr, Option.some.injEq] at h ⊢
      refine ⟨a.toNat, by omega, by omega, b, h.symm, by omega, h1.2.2, ?_⟩
      simpa using h2

theorem extract_list (s : ByteArray) (a b : Nat) : (s.extract a b).data.toList = seg s.data.toList a b := by
  simp only [ByteArray.data_extract, Array.toList_extract, List.extract_eq_take_drop]; rfl

theorem nameM_some {s : ByteArray} {p : Option Int} {j : Int} (h : (nameM s p).2 = some j) : ∃ a : Nat, p = some (a : Int) ∧ (nameM s p).1.size ≤ 20000 ∧ ∃ b : Nat, j = b ∧ a ≤ b ∧ b ≤ s.data.toList.length ∧ varB (nameM s p).1.size ++ (nameM s p).1.data.toList = seg s.data.toList a b := by
  cases p with
  | none => simp [nameM] at h
  | some a =>
    rcases rshort_cases s a with h0 | ⟨n, b, hr, hn, hb, h0⟩
    · rw [h0] at h; cases h
    · have h3 := rv_pos hr
      have h1 := rv_some hr
      have h2 := rv_bytes hr
      rw [h0] at h ⊢
      simp only [Option.some.injEq] at h ⊢
      have hsz : (s.extract b (b + n)).size = n := by rw [ByteArray.size_extract]; omega
      have hl : s.data.toList.length = s.size := by simp
      refine ⟨a.toNat, by omega, by omega, b + n, h.symm, by omega, by omega, ?_⟩
      rw [hsz, h2, extract_list]
      exact seg_app _ (by omega) (by omega)

def atK (s : ByteArray) (p : Option Int) : Option Int := at1 s (at1 s (at1 s p))

/-- The act that is read at p, right or not. -/
def rdA (s : ByteArray) (p : Option Int) : Ac :=
  let p2 := at1 s (at1 s p)
  let p3 := at1 s p2
  let p6 := atK s p3
  let p7 := at1 s p6
  let p8 := atS s p7
  let p9 := atS s p8
  let p10 := at1 s p9
  { r := n0 s p, s := n0 s (at1 s p), t := n0 s p2, l := kn3 s p3, k := n0 s p6, o := (nameM s p7).1, y := (nameM s p8).1, v := n0 s p9, x := n0 s p10, z := n0 s (at1 s p10) }
/-- Where it ends. -/
def rdE (s : ByteArray) (p : Option Int) : Option Int := at1 s (at1 s (at1 s (atS s (atS s (at1 s (atK s (at1 s (at1 s (at1 s p)))))))))

theorem rdE_some {s : ByteArray} {p : Option Int} {j : Int} (h : rdE s p = some j) : ∃ a b : Nat, p = some (a : Int) ∧ j = b ∧ a ≤ b ∧ b ≤ s.size ∧ actB (rdA s p) = seg s.data.toList a b := by
  unfold rdE atK at h
  obtain ⟨a11, e11, l11, b11, rfl, h11, m11, s11⟩ := numM_some h
  obtain ⟨a10, e10, l10, b10, f10, h10, m10, s10⟩ := numM_some e11
  obtain ⟨a9, e9, l9, b9, f9, h9, m9, s9⟩ := numM_some e10
  obtain ⟨a8, e8, l8, b8, f8, h8, m8, s8⟩ := nameM_some e9
  obtain ⟨a7, e7, l7, b7, f7, h7, m7, s7⟩ := nameM_some e8
  obtain ⟨a6, e6, l6, b6, f6, h6, m6, s6⟩ := numM_some e7
  obtain ⟨a5, e5, l5, b5, f5, h5, m5, s5⟩ := numM_some e6
  obtain ⟨a4, e4, l4, b4, f4, h4, m4, s4⟩ := numM_some e5
  obtain ⟨a3, e3, l3, b3, f3, h3, m3, s3⟩ := numM_some e4
  obtain ⟨a2, e2, l2, b2, f2, h2, m2, s2⟩ := numM_some e3
  obtain ⟨a1, e1, l1, b1, f1, h1, m1, s1⟩ := numM_some e2
  obtain ⟨a0, e0, l0, b0, f0, h0, m0, s0⟩ := numM_some e1
  obtain rfl : a1 = b0 := by omega
  obtain rfl : a2 = b1 := by omega
  obtain rfl : a3 = b2 := by omega
  obtain rfl : a4 = b3 := by omega
  obtain rfl : a5 = b4 := by omega
  obtain rfl : a6 = b5 := by omega
  obtain rfl : a7 = b6 := by omega
  obtain rfl : a8 = b7 := by omega
  obtain rfl : a9 = b8 := by omega
  obtain rfl : a10 = b9 := by omega
  obtain rfl : a11 = b10 := by omega
  have hl : s.data.toList.length = s.size := by simp
  refine ⟨a0, b11, e0, rfl, by omega, by omega, ?_⟩
  have G : actB (rdA s p) = seg s.data.toList a0 a1 ++ (seg s.data.toList a1 a2 ++ (seg s.data.toList a2 a3 ++ (seg s.data.toList a3 a4 ++ (seg s.data.toList a4 a5 ++ (seg s.data.toList a5 a6 ++ (seg s.data.toList a6 a7 ++ (seg s.data.toList a7 a8 ++ (seg s.data.toList a8 a9 ++ (seg s.data.toList a9 a10 ++ (seg s.data.toList a10 a11 ++ seg s.data.toList a11 b11)))))))))) := by
    rw [← s0, ← s1, ← s2, ← s3, ← s4, ← s5, ← s6, ← s7, ← s8, ← s9, ← s10, ← s11]
    unfold rdA actB kn3 n0 atK at1 atS
    simp [numsB, List.append_assoc]
  rw [G, seg_app _ (by omega) (by omega), seg_app _ (by omega) (by omega), seg_app _ (by omega) (by omega), seg_app _ (by omega) (by omega), seg_app _ (by omega) (by omega), seg_app _ (by omega) (by omega), seg_app _ (by omega) (by omega), seg_app _ (by omega) (by omega), seg_app _ (by omega) (by omega), seg_app _ (by omega) (by omega), seg_app _ (by omega) (by omega)]
end Go.Proofs.Ytahdgagipmpcgaa
