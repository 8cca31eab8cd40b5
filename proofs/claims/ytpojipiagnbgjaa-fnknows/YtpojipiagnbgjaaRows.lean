/-
  No cell of these rows narrows 'for every input' (looked for: loops, veiled, ifaces, maps, wideKeys, modest, calm, conditions, laid).
  DERIVED. THE GIVEN ROWS OF THIS SEAT. 9 by the template 'for every input the law returns true; each argument reads behind the call as it read before'; 0 by the template 'total and deterministic' (their statements: YtpojipiagnbgjaaTotals.lean).
  GIVEN WITH THE SEED: the statements are not yours to turn. If you find one false, say at which input.
  Laid BY PROGRAM, IN A SANDBOX (cutbox-rows.mjs): the forced cells as the released guide's own fill.sh prints them over the translation 93f8fb967adece8b… (all of the seat's roots in one cut). By AI agents, Wed Nov 11 2026. No macro, syntax, notation, axiom, sorry.
-/
import Derived.Test.YtpojipiagnbgjaaChecked
import GoSem.Claim
import GoSem.ClaimJoined
import GoSem.ClaimMapViews
import Derived.JoinedTies
import Derived.KernelRfl
namespace Go.Proofs.Ytpojipiagnbgjaa
/- THE CELL 'sum', in the pinned program and in every row, IS THE sha256 OF THE DUMP (.gsa) THAT YtpojipiagnbgjaaProg.lean LOADS. Nothing in Lean hashes anything: it is a label: what it is worth is what the hold of that sum in a sandbox is worth. -/
noncomputable def Try.pinned : Pinned := { name := "ytpojipiagnbgjaa", sum := "93f8fb967adece8beac1d281f3cdf161be31e73df06120dfcb0acadaf72ebfef", checked := Try.checked }
namespace Rows
def none {H : Type} : Left H := { results := [], args := [] }

/-- 'laws.FnKnows': WHATEVER THE INPUT: true; the input reads as it did. -/
def fnKnowsSpec : ChangeSpec := { name := "fnKnows", fn := fun _ => fun
  | [d] => { results := [.lit (.bool true)], args := [d] }
  | _ => none }
def fnKnowsRow : OpenClaim := { program := "ytpojipiagnbgjaa", sum := "93f8fb967adece8beac1d281f3cdf161be31e73df06120dfcb0acadaf72ebfef", func := "loop.example/g00463/laws.FnKnows", spec := "fnKnows", apart := false }
def FnKnowsSaid : Prop := fnKnowsRow.holds Try.pinned (OpenSpec.ofChange fnKnowsSpec)

/-- ITS FALSE NEIGHBOUR: 'it returns false'. Refute it at one input. -/
def fnKnowsWrong : ChangeSpec := { name := "fnKnows", fn := fun _ => fun
  | [d] => { results := [.lit (.bool false)], args := [d] }
  | _ => none }
def FnKnowsWrongFalsely : Prop := fnKnowsRow.holds Try.pinned (OpenSpec.ofChange fnKnowsWrong)

/-- 'laws.FnExactKnowOk': WHATEVER THE INPUT: true; the input reads as it did. -/
def fnExactKnowOkSpec : ChangeSpec := { name := "fnExactKnowOk", fn := fun _ => fun
  | [d] => { results := [.lit (.bool true)], args := [d] }
  | _ => none }
def fnExactKnowOkRow : OpenClaim := { program := "ytpojipiagnbgjaa", sum := "93f8fb967adece8beac1d281f3cdf161be31e73df06120dfcb0acadaf72ebfef", func := "loop.example/g00463/laws.FnExactKnowOk", spec := "fnExactKnowOk", apart := false }
def FnExactKnowOkSaid : Prop := fnExactKnowOkRow.holds Try.pinned (OpenSpec.ofChange fnExactKnowOkSpec)

/-- ITS FALSE NEIGHBOUR: 'it returns false'. Refute it at one input. -/
def fnExactKnowOkWrong : ChangeSpec := { name := "fnExactKnowOk", fn := fun _ => fun
  | [d] => { results := [.lit (.bool false)], args := [d] }
  | _ => none }
def FnExactKnowOkWrongFalsely : Prop := fnExactKnowOkRow.holds Try.pinned (OpenSpec.ofChange fnExactKnowOkWrong)

/-- 'laws.FnExactKnowNew': WHATEVER THE INPUT: true; the input reads as it did. -/
def fnExactKnowNewSpec : ChangeSpec := { name := "fnExactKnowNew", fn := fun _ => fun
  | [] => { results := [.lit (.bool true)], args := [] }
  | _ => none }
def fnExactKnowNewRow : OpenClaim := { program := "ytpojipiagnbgjaa", sum := "93f8fb967adece8beac1d281f3cdf161be31e73df06120dfcb0acadaf72ebfef", func := "loop.example/g00463/laws.FnExactKnowNew", spec := "fnExactKnowNew", apart := false }
def FnExactKnowNewSaid : Prop := fnExactKnowNewRow.holds Try.pinned (OpenSpec.ofChange fnExactKnowNewSpec)

/-- ITS FALSE NEIGHBOUR: 'it returns false'. Refute it at one input. -/
def fnExactKnowNewWrong : ChangeSpec := { name := "fnExactKnowNew", fn := fun _ => fun
  | [] => { results := [.lit (.bool false)], args := [] }
  | _ => none }
def FnExactKnowNewWrongFalsely : Prop := fnExactKnowNewRow.holds Try.pinned (OpenSpec.ofChange fnExactKnowNewWrong)

/-- 'laws.FnExactDotOk': WHATEVER THE INPUT: true; the input reads as it did. -/
def fnExactDotOkSpec : ChangeSpec := { name := "fnExactDotOk", fn := fun _ => fun
  | [d] => { results := [.lit (.bool true)], args := [d] }
  | _ => none }
def fnExactDotOkRow : OpenClaim := { program := "ytpojipiagnbgjaa", sum := "93f8fb967adece8beac1d281f3cdf161be31e73df06120dfcb0acadaf72ebfef", func := "loop.example/g00463/laws.FnExactDotOk", spec := "fnExactDotOk", apart := false }
def FnExactDotOkSaid : Prop := fnExactDotOkRow.holds Try.pinned (OpenSpec.ofChange fnExactDotOkSpec)

/-- ITS FALSE NEIGHBOUR: 'it returns false'. Refute it at one input. -/
def fnExactDotOkWrong : ChangeSpec := { name := "fnExactDotOk", fn := fun _ => fun
  | [d] => { results := [.lit (.bool false)], args := [d] }
  | _ => none }
def FnExactDotOkWrongFalsely : Prop := fnExactDotOkRow.holds Try.pinned (OpenSpec.ofChange fnExactDotOkWrong)

/-- 'laws.FnExactKnows': WHATEVER THE INPUT: true; the input reads as it did. -/
def fnExactKnowsSpec : ChangeSpec := { name := "fnExactKnows", fn := fun _ => fun
  | [d1, d2] => { results := [.lit (.bool true)], args := [d1, d2] }
  | _ => none }
def fnExactKnowsRow : OpenClaim := { program := "ytpojipiagnbgjaa", sum := "93f8fb967adece8beac1d281f3cdf161be31e73df06120dfcb0acadaf72ebfef", func := "loop.example/g00463/laws.FnExactKnows", spec := "fnExactKnows", apart := false }
def FnExactKnowsSaid : Prop := fnExactKnowsRow.holds Try.pinned (OpenSpec.ofChange fnExactKnowsSpec)

/-- ITS FALSE NEIGHBOUR: 'it returns false'. Refute it at one input. -/
def fnExactKnowsWrong : ChangeSpec := { name := "fnExactKnows", fn := fun _ => fun
  | [d1, d2] => { results := [.lit (.bool false)], args := [d1, d2] }
  | _ => none }
def FnExactKnowsWrongFalsely : Prop := fnExactKnowsRow.holds Try.pinned (OpenSpec.ofChange fnExactKnowsWrong)

/-- 'laws.FnExactKnowMax': WHATEVER THE INPUT: true; the input reads as it did. -/
def fnExactKnowMaxSpec : ChangeSpec := { name := "fnExactKnowMax", fn := fun _ => fun
  | [d1, d2] => { results := [.lit (.bool true)], args := [d1, d2] }
  | _ => none }
def fnExactKnowMaxRow : OpenClaim := { program := "ytpojipiagnbgjaa", sum := "93f8fb967adece8beac1d281f3cdf161be31e73df06120dfcb0acadaf72ebfef", func := "loop.example/g00463/laws.FnExactKnowMax", spec := "fnExactKnowMax", apart := false }
def FnExactKnowMaxSaid : Prop := fnExactKnowMaxRow.holds Try.pinned (OpenSpec.ofChange fnExactKnowMaxSpec)

/-- ITS FALSE NEIGHBOUR: 'it returns false'. Refute it at one input. -/
def fnExactKnowMaxWrong : ChangeSpec := { name := "fnExactKnowMax", fn := fun _ => fun
  | [d1, d2] => { results := [.lit (.bool false)], args := [d1, d2] }
  | _ => none }
def FnExactKnowMaxWrongFalsely : Prop := fnExactKnowMaxRow.holds Try.pinned (OpenSpec.ofChange fnExactKnowMaxWrong)

/-- 'laws.FnExactKnowMin': WHATEVER THE INPUT: true; the input reads as it did. -/
def fnExactKnowMinSpec : ChangeSpec := { name := "fnExactKnowMin", fn := fun _ => fun
  | [d1, d2] => { results := [.lit (.bool true)], args := [d1, d2] }
  | _ => none }
def fnExactKnowMinRow : OpenClaim := { program := "ytpojipiagnbgjaa", sum := "93f8fb967adece8beac1d281f3cdf161be31e73df06120dfcb0acadaf72ebfef", func := "loop.example/g00463/laws.FnExactKnowMin", spec := "fnExactKnowMin", apart := false }
def FnExactKnowMinSaid : Prop := fnExactKnowMinRow.holds Try.pinned (OpenSpec.ofChange fnExactKnowMinSpec)

/-- ITS FALSE NEIGHBOUR: 'it returns false'. Refute it at one input. -/
def fnExactKnowMinWrong : ChangeSpec := { name := "fnExactKnowMin", fn := fun _ => fun
  | [d1, d2] => { results := [.lit (.bool false)], args := [d1, d2] }
  | _ => none }
def FnExactKnowMinWrongFalsely : Prop := fnExactKnowMinRow.holds Try.pinned (OpenSpec.ofChange fnExactKnowMinWrong)

/-- 'laws.FnExactKnowIn': WHATEVER THE INPUT: true; the input reads as it did. -/
def fnExactKnowInSpec : ChangeSpec := { name := "fnExactKnowIn", fn := fun _ => fun
  | [d1, d2] => { results := [.lit (.bool true)], args := [d1, d2] }
  | _ => none }
def fnExactKnowInRow : OpenClaim := { program := "ytpojipiagnbgjaa", sum := "93f8fb967adece8beac1d281f3cdf161be31e73df06120dfcb0acadaf72ebfef", func := "loop.example/g00463/laws.FnExactKnowIn", spec := "fnExactKnowIn", apart := false }
def FnExactKnowInSaid : Prop := fnExactKnowInRow.holds Try.pinned (OpenSpec.ofChange fnExactKnowInSpec)

/-- ITS FALSE NEIGHBOUR: 'it returns false'. Refute it at one input. -/
def fnExactKnowInWrong : ChangeSpec := { name := "fnExactKnowIn", fn := fun _ => fun
  | [d1, d2] => { results := [.lit (.bool false)], args := [d1, d2] }
  | _ => none }
def FnExactKnowInWrongFalsely : Prop := fnExactKnowInRow.holds Try.pinned (OpenSpec.ofChange fnExactKnowInWrong)

/-- 'laws.FnExactDotsIn': WHATEVER THE INPUT: true; the input reads as it did. -/
def fnExactDotsInSpec : ChangeSpec := { name := "fnExactDotsIn", fn := fun _ => fun
  | [d1, d2] => { results := [.lit (.bool true)], args := [d1, d2] }
  | _ => none }
def fnExactDotsInRow : OpenClaim := { program := "ytpojipiagnbgjaa", sum := "93f8fb967adece8beac1d281f3cdf161be31e73df06120dfcb0acadaf72ebfef", func := "loop.example/g00463/laws.FnExactDotsIn", spec := "fnExactDotsIn", apart := false }
def FnExactDotsInSaid : Prop := fnExactDotsInRow.holds Try.pinned (OpenSpec.ofChange fnExactDotsInSpec)

/-- ITS FALSE NEIGHBOUR: 'it returns false'. Refute it at one input. -/
def fnExactDotsInWrong : ChangeSpec := { name := "fnExactDotsIn", fn := fun _ => fun
  | [d1, d2] => { results := [.lit (.bool false)], args := [d1, d2] }
  | _ => none }
def FnExactDotsInWrongFalsely : Prop := fnExactDotsInRow.holds Try.pinned (OpenSpec.ofChange fnExactDotsInWrong)

/- THE SECOND FORM. 'bulk': how many values and letters a reading holds, each counted each time it is reached (what is shared counts as often as it is met; a slice's spare places count too). A statement '..UptoSaid' is the law's where the arguments, and the package variables that the reading takes, are together of bulk at most 1048576: NARROWER than '..Said'. Prove '..Said' where nothing that the law and all that it calls make is longer than what came in: it says more and counts as full. Else prove '..UptoSaid'. A law counts once. -/
mutual
def uptoBulk {H : Type} : DataW H → Nat
  | .lit (.string bytes) => bytes.length + 1
  | .lit _ => 1
  | .nil => 1
  | .ptr d => uptoBulk d + 1
  | .slice elems spare => uptoBulkAll elems + uptoBulkAll spare + 1
  | .agg parts => uptoBulkAll parts + 1
  | .iface _ d => uptoBulk d + 1
  | .map entries => uptoBulkEntries entries + 1
  | .held _ => 1
def uptoBulkAll {H : Type} : List (DataW H) → Nat
  | [] => 0
  | d :: r => uptoBulk d + uptoBulkAll r
def uptoBulkEntries {H : Type} : List (Lit × DataW H) → Nat
  | [] => 0
  | x :: r => uptoBulkEntry x + uptoBulkEntries r
def uptoBulkEntry {H : Type} : Lit × DataW H → Nat
  | (.string bytes, d) => bytes.length + uptoBulk d + 1
  | (_, d) => uptoBulk d + 1
 end
def uptoSmall : (H : Type) → List (DataW H) → Bool := fun _ ds => decide (uptoBulkAll ds ≤ 1048576)
def OpenSpec.upto (s : _root_.Go.ChangeSpec) : _root_.Go.OpenSpec := { _root_.Go.OpenSpec.ofChange s with cond := some uptoSmall }

/-- 'laws.FnKnows', WHERE WHAT IT READS IS OF BULK AT MOST 1048576: true; the input reads as it did. -/
def fnKnowsUptoRow : OpenClaim := { program := "ytpojipiagnbgjaa", sum := "93f8fb967adece8beac1d281f3cdf161be31e73df06120dfcb0acadaf72ebfef", func := "loop.example/g00463/laws.FnKnows", spec := "fnKnows", apart := false, narrowed := true }
def FnKnowsUptoSaid : Prop := fnKnowsUptoRow.holds Try.pinned (OpenSpec.upto fnKnowsSpec)

/-- 'laws.FnExactKnowOk', WHERE WHAT IT READS IS OF BULK AT MOST 1048576: true; the input reads as it did. -/
def fnExactKnowOkUptoRow : OpenClaim := { program := "ytpojipiagnbgjaa", sum := "93f8fb967adece8beac1d281f3cdf161be31e73df06120dfcb0acadaf72ebfef", func := "loop.example/g00463/laws.FnExactKnowOk", spec := "fnExactKnowOk", apart := false, narrowed := true }
def FnExactKnowOkUptoSaid : Prop := fnExactKnowOkUptoRow.holds Try.pinned (OpenSpec.upto fnExactKnowOkSpec)

/-- 'laws.FnExactKnowNew', WHERE WHAT IT READS IS OF BULK AT MOST 1048576: true; the input reads as it did. -/
def fnExactKnowNewUptoRow : OpenClaim := { program := "ytpojipiagnbgjaa", sum := "93f8fb967adece8beac1d281f3cdf161be31e73df06120dfcb0acadaf72ebfef", func := "loop.example/g00463/laws.FnExactKnowNew", spec := "fnExactKnowNew", apart := false, narrowed := true }
def FnExactKnowNewUptoSaid : Prop := fnExactKnowNewUptoRow.holds Try.pinned (OpenSpec.upto fnExactKnowNewSpec)

/-- 'laws.FnExactDotOk', WHERE WHAT IT READS IS OF BULK AT MOST 1048576: true; the input reads as it did. -/
def fnExactDotOkUptoRow : OpenClaim := { program := "ytpojipiagnbgjaa", sum := "93f8fb967adece8beac1d281f3cdf161be31e73df06120dfcb0acadaf72ebfef", func := "loop.example/g00463/laws.FnExactDotOk", spec := "fnExactDotOk", apart := false, narrowed := true }
def FnExactDotOkUptoSaid : Prop := fnExactDotOkUptoRow.holds Try.pinned (OpenSpec.upto fnExactDotOkSpec)

/-- 'laws.FnExactKnows', WHERE WHAT IT READS IS OF BULK AT MOST 1048576: true; the input reads as it did. -/
def fnExactKnowsUptoRow : OpenClaim := { program := "ytpojipiagnbgjaa", sum := "93f8fb967adece8beac1d281f3cdf161be31e73df06120dfcb0acadaf72ebfef", func := "loop.example/g00463/laws.FnExactKnows", spec := "fnExactKnows", apart := false, narrowed := true }
def FnExactKnowsUptoSaid : Prop := fnExactKnowsUptoRow.holds Try.pinned (OpenSpec.upto fnExactKnowsSpec)

/-- 'laws.FnExactKnowMax', WHERE WHAT IT READS IS OF BULK AT MOST 1048576: true; the input reads as it did. -/
def fnExactKnowMaxUptoRow : OpenClaim := { program := "ytpojipiagnbgjaa", sum := "93f8fb967adece8beac1d281f3cdf161be31e73df06120dfcb0acadaf72ebfef", func := "loop.example/g00463/laws.FnExactKnowMax", spec := "fnExactKnowMax", apart := false, narrowed := true }
def FnExactKnowMaxUptoSaid : Prop := fnExactKnowMaxUptoRow.holds Try.pinned (OpenSpec.upto fnExactKnowMaxSpec)

/-- 'laws.FnExactKnowMin', WHERE WHAT IT READS IS OF BULK AT MOST 1048576: true; the input reads as it did. -/
def fnExactKnowMinUptoRow : OpenClaim := { program := "ytpojipiagnbgjaa", sum := "93f8fb967adece8beac1d281f3cdf161be31e73df06120dfcb0acadaf72ebfef", func := "loop.example/g00463/laws.FnExactKnowMin", spec := "fnExactKnowMin", apart := false, narrowed := true }
def FnExactKnowMinUptoSaid : Prop := fnExactKnowMinUptoRow.holds Try.pinned (OpenSpec.upto fnExactKnowMinSpec)

/-- 'laws.FnExactKnowIn', WHERE WHAT IT READS IS OF BULK AT MOST 1048576: true; the input reads as it did. -/
def fnExactKnowInUptoRow : OpenClaim := { program := "ytpojipiagnbgjaa", sum := "93f8fb967adece8beac1d281f3cdf161be31e73df06120dfcb0acadaf72ebfef", func := "loop.example/g00463/laws.FnExactKnowIn", spec := "fnExactKnowIn", apart := false, narrowed := true }
def FnExactKnowInUptoSaid : Prop := fnExactKnowInUptoRow.holds Try.pinned (OpenSpec.upto fnExactKnowInSpec)

/-- 'laws.FnExactDotsIn', WHERE WHAT IT READS IS OF BULK AT MOST 1048576: true; the input reads as it did. -/
def fnExactDotsInUptoRow : OpenClaim := { program := "ytpojipiagnbgjaa", sum := "93f8fb967adece8beac1d281f3cdf161be31e73df06120dfcb0acadaf72ebfef", func := "loop.example/g00463/laws.FnExactDotsIn", spec := "fnExactDotsIn", apart := false, narrowed := true }
def FnExactDotsInUptoSaid : Prop := fnExactDotsInUptoRow.holds Try.pinned (OpenSpec.upto fnExactDotsInSpec)

end Rows
end Go.Proofs.Ytpojipiagnbgjaa
