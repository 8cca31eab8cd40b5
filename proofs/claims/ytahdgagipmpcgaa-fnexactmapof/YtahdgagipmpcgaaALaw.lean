/- What the laws' own helpers on acts do. -/
import Derived.Test.YtahdgagipmpcgaaARow
namespace Go.Proofs.Ytahdgagipmpcgaa
set_option maxRecDepth 100000
set_option linter.unusedVariables false
open Go.RowKit

/-- How much there is in an act. -/
def Ac.sz (A : Ac) : Int := (A.l.length : Int) + A.o.size + A.y.size
/-- What is left of L. -/
def leftOf (L n : Int) : Int := if n ≤ L then L - n else -1

theorem szInts_calls (aa : Option Addr) (n ca : Nat) (L : Int) (w : World) (h0 : 0 ≤ L) (h1 : L ≤ 1048576) (hn : n ≤ maxLen) :
    Calls Try.prog 62 #[.slice aa n ca, .int .i64 L] w fun e w' => e = .returned (.int .i64 (leftOf L n)) ∧ w' = w := by
  unfold maxLen at hn
  have hwr : IntKind.i64.wrap (L - n) = L - n := by rw [IntKind.wrap_i64] <;> omega
  by_cases h : L - n < 0
  · have e : leftOf L n = -1 := by unfold leftOf; rw [if_neg (by omega)]
    rw [e]
    go_enter Try.func62, Try.ntmps62
    go_wp2
    go_ret
    exact ⟨rfl, rfl⟩
  · have e : leftOf L n = L - n := by unfold leftOf; rw [if_pos (by omega)]
    rw [e]
    go_enter Try.func62, Try.ntmps62
    go_wp2
    go_ret
    exact ⟨rfl, rfl⟩

def zAct : Array Value := #[.int .i64 0, .int .i64 0, .int .i64 0, .slice none 0 0, .int .i64 0, .string { data := #[] }, .string { data := #[] }, .int .i64 0, .int .i64 0, .int .i64 0]

end Go.Proofs.Ytahdgagipmpcgaa
