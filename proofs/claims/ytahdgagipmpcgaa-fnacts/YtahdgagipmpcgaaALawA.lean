/- What the laws' own helpers on acts do. An act is like itself, as the laws' helper tells it; the laws on names, on acts that are the same, and on the later of two. The laws on acts whose answers are plain values: for every argument they come out true and write into no memory that was there. -/
import Derived.Test.YtahdgagipmpcgaaARow
import Derived.Test.YtahdgagipmpcgaaASam2
namespace Go.Proofs.Ytahdgagipmpcgaa
set_option maxRecDepth 100000
set_option linter.unusedVariables false
open Go.RowKit

/-- How much there is in an act. -/
def Ac.sz (A : Ac) : Int := (A.l.length : Int) + A.o.size + A.y.size
/-- What is left of L. -/
def leftOf (L n : Int) : Int := if n ≤ L then L - n else -1

theorem szInts_calls (aa : Option Addr) (n ca : Nat) (L : Int) (w : World) (h0 : 0 ≤ L) (h1 : L ≤ 1048576) (hn : n ≤ maxLen) :
    Calls Try.prog 62 #[.slice aa n ca, .int .i64 L] w fun e w' => e = .returned (.int .i64 (leftOf L n)) ∧ w' = w := by
  unfold maxLen at hn
  have hwr : IntKind.i64.wrap (L - n) = L - n := by rw [IntKind.wrap_i64] <;> omega
  by_cases h : L - n < 0
  · have e : leftOf L n = -1 := by unfold leftOf; rw [if_neg (by omega)]
    rw [e]
    go_enter Try.func62, Try.ntmps62
    go_wp2
    go_ret
    exact ⟨rfl, rfl⟩
  · have e : leftOf L n = L - n := by unfold leftOf; rw [if_pos (by omega)]
    rw [e]
    go_enter Try.func62, Try.ntmps62
    go_wp2
    go_ret
    exact ⟨rfl, rfl⟩

def zAct : Array Value := #[.int .i64 0, .int .i64 0, .int .i64 0, .slice none 0 0, .int .i64 0, .string { data := #[] }, .string { data := #[] }, .int .i64 0, .int .i64 0, .int .i64 0]

open Go.RowKit

set_option maxHeartbeats 1000000 in
theorem eqDot_calls (r s : Int) (w : World) :
    Calls Try.prog 27 #[.agg #[.int .i64 r, .int .i64 s], .agg #[.int .i64 r, .int .i64 s]] w fun e w' => e = .returned (.bool true) ∧ Below w.heap.size w w' := by
  have h1 : (r != r) = false := by simp
  have h2 : (s != s) = false := by simp
  have hb : ∀ o1 o2, Below w.heap.size w ((w.alloc o1).alloc o2) := fun o1 o2 => ((Below.refl _ _).alloc (Nat.le_refl _) _).alloc (by simp) _
  go_enter Try.func27, Try.ntmps27
  go_wp2
  go_ret
  exact ⟨rfl, hb _ _⟩

/-- An act that was handed in. -/
def ArgAct (w : World) (A : Ac) (v : Value) : Prop := ArgInts w v A.l ∧ A.o.size ≤ maxLen ∧ A.y.size ≤ maxLen
theorem ArgAct.split {w : World} {A : Ac} {v : Value} (h : ArgAct w A v) : ∃ aa ca, v = .slice aa A.l.length ca := by
  obtain ⟨⟨-, aa, ca, rfl, -⟩, -, -⟩ := h; exact ⟨aa, ca, rfl⟩
open Go.RowKit

theorem leftOf_yes {L n : Int} (h : n ≤ L) : leftOf L n = L - n := by unfold leftOf; rw [if_pos h]
theorem leftOf_no {L n : Int} (h : ¬ n ≤ L) : leftOf L n = -1 := by unfold leftOf; rw [if_neg h]
theorem Ac.sz_nonneg (A : Ac) : 0 ≤ A.sz := by unfold Ac.sz; omega
theorem Ac.len_le {A : Ac} {L : Int} (h : A.sz ≤ L) (hL : L ≤ 1048576) : A.l.length ≤ 1048576 ∧ A.o.size ≤ 1048576 ∧ A.y.size ≤ 1048576 := by unfold Ac.sz at h; omega

end Go.Proofs.Ytahdgagipmpcgaa
