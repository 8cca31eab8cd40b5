/- What the program's writer of figures to the base 10 does, by the library's contract; and that both write the same. -/
import Derived.Test.YtjgakehacioagaaDoorDDec
import Derived.Test.YtjgakehacioagaaDoorShelf
import Derived.Lib.ItoaNum
namespace Go.Proofs.YtjgakehacioagaaDoor
open Go.RowKit

theorem decDigits_eq (u : Nat) : Lib.decDigits u = decB u := by
  have h : ∀ u, u ≠ 0 → decGo u [] = Lib.decDigits u := by
    intro u
    induction u using Nat.strongRecOn with
    | _ u ih =>
      intro h
      rw [decGo_step h, decGo_app, Lib.decDigits]
      by_cases h10 : u < 10
      · rw [dif_pos h10, show u / 10 = 0 by omega, decGo_zero, show u % 10 = u by omega]; rfl
      · rw [dif_neg h10, ih (u / 10) (by omega) (by omega)]
  by_cases h0 : u = 0
  · subst h0; rw [Lib.decDigits]; rfl
  · rw [decB, if_neg h0, h u h0]

theorem itoa_plus (N : Nat) : Lib.itoa (N : Int) = decB N := by
  rw [Lib.itoa, if_neg (by omega), Int.toNat_natCast, decDigits_eq]
theorem itoa_minus (N : Nat) (h : N ≠ 0) : Lib.itoa (-(N : Int)) = 45 :: decGo N [] := by
  rw [Lib.itoa, if_pos (by omega), decDigits_eq, Int.natAbs_neg, Int.natAbs_natCast, decB, if_neg h]

/-- What the specification's Decimal writes. -/
theorem specDec (n : Int) (h0 : -9223372036854775808 ≤ n) (h1 : n ≤ 9223372036854775807) (w : World) :
    Calls Tryd.prog 5 #[.int .i64 n] w fun e w' => e = .returned (.string ⟨(Lib.itoa n).toArray⟩) ∧ Below w.heap.size w w' := by
  by_cases hn : n < 0
  · obtain ⟨N, rfl⟩ : ∃ N : Nat, n = -(N : Int) := ⟨n.natAbs, by omega⟩
    rw [itoa_minus N (by omega)]
    exact decMinus N (by omega) (by omega) w
  · obtain ⟨N, rfl⟩ := Int.eq_ofNat_of_zero_le (show 0 ≤ n by omega)
    rw [itoa_plus]
    by_cases hN : N = 0
    · subst hN
      refine (decNought w).mono ?_
      rintro e w' ⟨he, rfl⟩
      exact ⟨he, Below.refl _ _⟩
    · refine (decPlus N hN (by omega) w).mono ?_
      rintro e w' ⟨he, hb⟩
      refine ⟨?_, hb⟩
      rw [he, decB, if_neg hN]

theorem below_grow (w : World) (k : Nat) (os : Array Obj) : Below w.heap.size w (Go.Sort.grow (w.drewN k) os) := by
  refine ⟨rfl, rfl, rfl, ?_, ?_⟩
  · show w.heap.size ≤ (w.heap ++ os).size; simp
  · intro j hj
    show (w.heap ++ os)[j]? = w.heap[j]?
    rw [Array.getElem?_append_left hj]

set_option maxHeartbeats 400000 in
theorem implDec (n : Int) (h0 : -9223372036854775808 ≤ n) (h1 : n ≤ 9223372036854775807) (w : World) (htab : Lib.TabIs Tryd.prog w "internal/strconv.uint64pow10" .u64 Lib.pow10Tab) :
    Calls Tryd.prog 6 #[.int .i64 n] w fun e w' => e = .returned (.string ⟨(Lib.itoa n).toArray⟩) ∧ Below w.heap.size w w' := by
  have HT : Hid (Lib.TabIs Tryd.prog w "internal/strconv.uint64pow10" .u64 Lib.pow10Tab) := htab
  clear htab
  obtain ⟨L, hL⟩ : ∃ L : ByteArray, L = ⟨(Lib.itoa n).toArray⟩ := ⟨_, rfl⟩
  have hc : Calls Tryd.prog 13 #[.int .i64 n] w fun e w' => e = .returned (.string L) ∧ Below w.heap.size w w' := by
    rw [hL]
    refine (Tryd.strconv_Itoa n h0 h1 w HT.out).mono ?_
    rintro e w' ⟨he, k, os, rfl⟩
    exact ⟨he, below_grow w k os⟩
  have HL : Hid (L = ⟨(Lib.itoa n).toArray⟩) := hL
  clear hL
  go_enter Tryd.func6, Tryd.ntmps6
  go_wp2_with (go_at_call 13; refine hc.mono ?_; rintro e w1 ⟨rfl, hb1⟩)
  go_ret
  exact ⟨by rw [← HL.out]; rfl, hb1⟩

/-- A table stands below what a call makes. -/
theorem tab_below {n : String} {g : Nat} {k : IntKind} {zs : List Int} {w w' : World} (hg : Tryd.prog.globalNamed n = some g) (h : Lib.TabIs Tryd.prog w n k zs) (hb : Below w.heap.size w w') : Lib.TabIs Tryd.prog w' n k zs := by
  unfold Lib.TabIs World.var? at h ⊢
  rw [hg] at h ⊢
  simp only [Option.bind_some] at h ⊢
  have hlt : g < w.heap.size := by
    rcases Nat.lt_or_ge g w.heap.size with h' | h'
    · exact h'
    · rw [Array.getElem?_eq_none h'] at h; cases h
  rw [hb.block g hlt]
  exact h
end Go.Proofs.YtjgakehacioagaaDoor
