/-
  No cell of these rows narrows 'for every input' (looked for: loops, veiled, ifaces, maps, wideKeys, modest, calm, conditions, laid).
  DERIVED. THE GIVEN ROWS OF THIS SEAT. 5 by the template 'for every input the law returns true; each argument reads behind the call as it read before'; 0 by the template 'total and deterministic' (their statements: YtbnnmlfammeobaaTotals.lean).
  GIVEN WITH THE SEED: the statements are not yours to turn. If you find one false, say at which input.
  Laid BY PROGRAM, IN A SANDBOX (cutbox-rows.mjs): the forced cells as the released guide's own fill.sh prints them over the translation b9170b5d273b19fa… (all of the seat's roots in one cut). By AI agents, Wed Nov 11 2026. No macro, syntax, notation, axiom, sorry.
-/
import Derived.Test.YtbnnmlfammeobaaChecked
import GoSem.Claim
import GoSem.ClaimJoined
import GoSem.ClaimMapViews
import Derived.JoinedTies
import Derived.KernelRfl
namespace Go.Proofs.Ytbnnmlfammeobaa
/- THE CELL 'sum', in the pinned program and in every row, IS THE sha256 OF THE DUMP (.gsa) THAT YtbnnmlfammeobaaProg.lean LOADS. Nothing in Lean hashes anything: it is a label: what it is worth is what the hold of that sum in a sandbox is worth. -/
noncomputable def Try.pinned : Pinned := { name := "ytbnnmlfammeobaa", sum := "b9170b5d273b19fa75f135464e4a72d4f1974943221c5a41ef19baf973c1804c", checked := Try.checked }
namespace Rows
def none {H : Type} : Left H := { results := [], args := [] }

/-- 'laws.FnFiles': WHATEVER THE INPUT: true; the input reads as it did. -/
def fnFilesSpec : ChangeSpec := { name := "fnFiles", fn := fun _ => fun
  | [d] => { results := [.lit (.bool true)], args := [d] }
  | _ => none }
def fnFilesRow : OpenClaim := { program := "ytbnnmlfammeobaa", sum := "b9170b5d273b19fa75f135464e4a72d4f1974943221c5a41ef19baf973c1804c", func := "loop.example/g00463/laws.FnFiles", spec := "fnFiles", apart := false }
def FnFilesSaid : Prop := fnFilesRow.holds Try.pinned (OpenSpec.ofChange fnFilesSpec)

/-- ITS FALSE NEIGHBOUR: 'it returns false'. Refute it at one input. -/
def fnFilesWrong : ChangeSpec := { name := "fnFiles", fn := fun _ => fun
  | [d] => { results := [.lit (.bool false)], args := [d] }
  | _ => none }
def FnFilesWrongFalsely : Prop := fnFilesRow.holds Try.pinned (OpenSpec.ofChange fnFilesWrong)

/-- 'laws.FnExactFileOk': WHATEVER THE INPUT: true; the input reads as it did. -/
def fnExactFileOkSpec : ChangeSpec := { name := "fnExactFileOk", fn := fun _ => fun
  | [d] => { results := [.lit (.bool true)], args := [d] }
  | _ => none }
def fnExactFileOkRow : OpenClaim := { program := "ytbnnmlfammeobaa", sum := "b9170b5d273b19fa75f135464e4a72d4f1974943221c5a41ef19baf973c1804c", func := "loop.example/g00463/laws.FnExactFileOk", spec := "fnExactFileOk", apart := false }
def FnExactFileOkSaid : Prop := fnExactFileOkRow.holds Try.pinned (OpenSpec.ofChange fnExactFileOkSpec)

/-- ITS FALSE NEIGHBOUR: 'it returns false'. Refute it at one input. -/
def fnExactFileOkWrong : ChangeSpec := { name := "fnExactFileOk", fn := fun _ => fun
  | [d] => { results := [.lit (.bool false)], args := [d] }
  | _ => none }
def FnExactFileOkWrongFalsely : Prop := fnExactFileOkRow.holds Try.pinned (OpenSpec.ofChange fnExactFileOkWrong)

/-- 'laws.FnExactAppended': WHATEVER THE INPUT: true; the input reads as it did. -/
def fnExactAppendedSpec : ChangeSpec := { name := "fnExactAppended", fn := fun _ => fun
  | [d1, d2] => { results := [.lit (.bool true)], args := [d1, d2] }
  | _ => none }
def fnExactAppendedRow : OpenClaim := { program := "ytbnnmlfammeobaa", sum := "b9170b5d273b19fa75f135464e4a72d4f1974943221c5a41ef19baf973c1804c", func := "loop.example/g00463/laws.FnExactAppended", spec := "fnExactAppended", apart := false }
def FnExactAppendedSaid : Prop := fnExactAppendedRow.holds Try.pinned (OpenSpec.ofChange fnExactAppendedSpec)

/-- ITS FALSE NEIGHBOUR: 'it returns false'. Refute it at one input. -/
def fnExactAppendedWrong : ChangeSpec := { name := "fnExactAppended", fn := fun _ => fun
  | [d1, d2] => { results := [.lit (.bool false)], args := [d1, d2] }
  | _ => none }
def FnExactAppendedWrongFalsely : Prop := fnExactAppendedRow.holds Try.pinned (OpenSpec.ofChange fnExactAppendedWrong)

/-- 'laws.FnExactSyncedFile': WHATEVER THE INPUT: true; the input reads as it did. -/
def fnExactSyncedFileSpec : ChangeSpec := { name := "fnExactSyncedFile", fn := fun _ => fun
  | [d] => { results := [.lit (.bool true)], args := [d] }
  | _ => none }
def fnExactSyncedFileRow : OpenClaim := { program := "ytbnnmlfammeobaa", sum := "b9170b5d273b19fa75f135464e4a72d4f1974943221c5a41ef19baf973c1804c", func := "loop.example/g00463/laws.FnExactSyncedFile", spec := "fnExactSyncedFile", apart := false }
def FnExactSyncedFileSaid : Prop := fnExactSyncedFileRow.holds Try.pinned (OpenSpec.ofChange fnExactSyncedFileSpec)

/-- ITS FALSE NEIGHBOUR: 'it returns false'. Refute it at one input. -/
def fnExactSyncedFileWrong : ChangeSpec := { name := "fnExactSyncedFile", fn := fun _ => fun
  | [d] => { results := [.lit (.bool false)], args := [d] }
  | _ => none }
def FnExactSyncedFileWrongFalsely : Prop := fnExactSyncedFileRow.holds Try.pinned (OpenSpec.ofChange fnExactSyncedFileWrong)

/-- 'laws.FnExactCrashed': WHATEVER THE INPUT: true; the input reads as it did. -/
def fnExactCrashedSpec : ChangeSpec := { name := "fnExactCrashed", fn := fun _ => fun
  | [d1, d2] => { results := [.lit (.bool true)], args := [d1, d2] }
  | _ => none }
def fnExactCrashedRow : OpenClaim := { program := "ytbnnmlfammeobaa", sum := "b9170b5d273b19fa75f135464e4a72d4f1974943221c5a41ef19baf973c1804c", func := "loop.example/g00463/laws.FnExactCrashed", spec := "fnExactCrashed", apart := false }
def FnExactCrashedSaid : Prop := fnExactCrashedRow.holds Try.pinned (OpenSpec.ofChange fnExactCrashedSpec)

/-- ITS FALSE NEIGHBOUR: 'it returns false'. Refute it at one input. -/
def fnExactCrashedWrong : ChangeSpec := { name := "fnExactCrashed", fn := fun _ => fun
  | [d1, d2] => { results := [.lit (.bool false)], args := [d1, d2] }
  | _ => none }
def FnExactCrashedWrongFalsely : Prop := fnExactCrashedRow.holds Try.pinned (OpenSpec.ofChange fnExactCrashedWrong)

/- THE SECOND FORM. 'bulk': how many values and letters a reading holds, each counted each time it is reached (what is shared counts as often as it is met; a slice's spare places count too). A statement '..UptoSaid' is the law's where the arguments, and the package variables that the reading takes, are together of bulk at most 1048576: NARROWER than '..Said'. Prove '..Said' where nothing that the law and all that it calls make is longer than what came in: it says more and counts as full. Else prove '..UptoSaid'. A law counts once. -/
mutual
def uptoBulk {H : Type} : DataW H → Nat
  | .lit (.string bytes) => bytes.length + 1
  | .lit _ => 1
  | .nil => 1
  | .ptr d => uptoBulk d + 1
  | .slice elems spare => uptoBulkAll elems + uptoBulkAll spare + 1
  | .agg parts => uptoBulkAll parts + 1
  | .iface _ d => uptoBulk d + 1
  | .map entries => uptoBulkEntries entries + 1
  | .held _ => 1
def uptoBulkAll {H : Type} : List (DataW H) → Nat
  | [] => 0
  | d :: r => uptoBulk d + uptoBulkAll r
def uptoBulkEntries {H : Type} : List (Lit × DataW H) → Nat
  | [] => 0
  | x :: r => uptoBulkEntry x + uptoBulkEntries r
def uptoBulkEntry {H : Type} : Lit × DataW H → Nat
  | (.string bytes, d) => bytes.length + uptoBulk d + 1
  | (_, d) => uptoBulk d + 1
 end
def uptoSmall : (H : Type) → List (DataW H) → Bool := fun _ ds => decide (uptoBulkAll ds ≤ 1048576)
def OpenSpec.upto (s : _root_.Go.ChangeSpec) : _root_.Go.OpenSpec := { _root_.Go.OpenSpec.ofChange s with cond := some uptoSmall }

/-- 'laws.FnFiles', WHERE WHAT IT READS IS OF BULK AT MOST 1048576: true; the input reads as it did. -/
def fnFilesUptoRow : OpenClaim := { program := "ytbnnmlfammeobaa", sum := "b9170b5d273b19fa75f135464e4a72d4f1974943221c5a41ef19baf973c1804c", func := "loop.example/g00463/laws.FnFiles", spec := "fnFiles", apart := false, narrowed := true }
def FnFilesUptoSaid : Prop := fnFilesUptoRow.holds Try.pinned (OpenSpec.upto fnFilesSpec)

/-- 'laws.FnExactFileOk', WHERE WHAT IT READS IS OF BULK AT MOST 1048576: true; the input reads as it did. -/
def fnExactFileOkUptoRow : OpenClaim := { program := "ytbnnmlfammeobaa", sum := "b9170b5d273b19fa75f135464e4a72d4f1974943221c5a41ef19baf973c1804c", func := "loop.example/g00463/laws.FnExactFileOk", spec := "fnExactFileOk", apart := false, narrowed := true }
def FnExactFileOkUptoSaid : Prop := fnExactFileOkUptoRow.holds Try.pinned (OpenSpec.upto fnExactFileOkSpec)

/-- 'laws.FnExactAppended', WHERE WHAT IT READS IS OF BULK AT MOST 1048576: true; the input reads as it did. -/
def fnExactAppendedUptoRow : OpenClaim := { program := "ytbnnmlfammeobaa", sum := "b9170b5d273b19fa75f135464e4a72d4f1974943221c5a41ef19baf973c1804c", func := "loop.example/g00463/laws.FnExactAppended", spec := "fnExactAppended", apart := false, narrowed := true }
def FnExactAppendedUptoSaid : Prop := fnExactAppendedUptoRow.holds Try.pinned (OpenSpec.upto fnExactAppendedSpec)

/-- 'laws.FnExactSyncedFile', WHERE WHAT IT READS IS OF BULK AT MOST 1048576: true; the input reads as it did. -/
def fnExactSyncedFileUptoRow : OpenClaim := { program := "ytbnnmlfammeobaa", sum := "b9170b5d273b19fa75f135464e4a72d4f1974943221c5a41ef19baf973c1804c", func := "loop.example/g00463/laws.FnExactSyncedFile", spec := "fnExactSyncedFile", apart := false, narrowed := true }
def FnExactSyncedFileUptoSaid : Prop := fnExactSyncedFileUptoRow.holds Try.pinned (OpenSpec.upto fnExactSyncedFileSpec)

/-- 'laws.FnExactCrashed', WHERE WHAT IT READS IS OF BULK AT MOST 1048576: true; the input reads as it did. -/
def fnExactCrashedUptoRow : OpenClaim := { program := "ytbnnmlfammeobaa", sum := "b9170b5d273b19fa75f135464e4a72d4f1974943221c5a41ef19baf973c1804c", func := "loop.example/g00463/laws.FnExactCrashed", spec := "fnExactCrashed", apart := false, narrowed := true }
def FnExactCrashedUptoSaid : Prop := fnExactCrashedUptoRow.holds Try.pinned (OpenSpec.upto fnExactCrashedSpec)

end Rows
end Go.Proofs.Ytbnnmlfammeobaa
