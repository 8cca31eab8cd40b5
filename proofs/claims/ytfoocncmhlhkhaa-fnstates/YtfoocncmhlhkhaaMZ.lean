/- For every slice of bytes the law on states returns true and leaves its argument as it was. -/
import Derived.Test.YtfoocncmhlhkhaaM1
import Derived.Test.YtfoocncmhlhkhaaM2
import Derived.Test.YtfoocncmhlhkhaaM3
import Derived.Test.YtfoocncmhlhkhaaM4
import Derived.Test.YtfoocncmhlhkhaaM5
import Derived.Test.YtfoocncmhlhkhaaM6
import Derived.Test.YtfoocncmhlhkhaaM7
import Derived.Test.YtfoocncmhlhkhaaM8
import Derived.Test.YtfoocncmhlhkhaaM9
import Derived.Test.YtfoocncmhlhkhaaM10
import Derived.Test.YtfoocncmhlhkhaaM11
import Derived.Test.YtfoocncmhlhkhaaM12
import Derived.Test.YtfoocncmhlhkhaaM13
import Derived.Test.YtfoocncmhlhkhaaM14
import Derived.Test.YtfoocncmhlhkhaaM15
import Derived.Test.YtfoocncmhlhkhaaM16
import Derived.Test.YtfoocncmhlhkhaaM17
import Derived.Test.YtfoocncmhlhkhaaM18
import Derived.Test.YtfoocncmhlhkhaaM19
import Derived.Test.YtfoocncmhlhkhaaM20
import Derived.Test.YtfoocncmhlhkhaaM21
import Derived.Test.YtfoocncmhlhkhaaM22
import Derived.Test.YtfoocncmhlhkhaaM23
import Derived.Test.YtfoocncmhlhkhaaM24
import Derived.Test.YtfoocncmhlhkhaaM25
import Derived.Test.YtfoocncmhlhkhaaM26
import Derived.Test.YtfoocncmhlhkhaaM27
import Derived.Test.YtfoocncmhlhkhaaM28
import Derived.Test.YtfoocncmhlhkhaaM29
import Derived.Test.YtfoocncmhlhkhaaM30
import Derived.Test.YtfoocncmhlhkhaaM31
import Derived.Test.YtfoocncmhlhkhaaM32
import Derived.Test.YtfoocncmhlhkhaaM33
import Derived.Test.YtfoocncmhlhkhaaM34
import Derived.Test.YtfoocncmhlhkhaaM35
import Derived.Test.YtfoocncmhlhkhaaM36
import Derived.Test.YtfoocncmhlhkhaaM37
import Derived.Test.YtfoocncmhlhkhaaM38
import Derived.Test.YtfoocncmhlhkhaaM39
import Derived.Test.YtfoocncmhlhkhaaM40
import Derived.Test.YtfoocncmhlhkhaaM41
import Derived.Test.YtfoocncmhlhkhaaM42
import Derived.Test.YtfoocncmhlhkhaaM43
import Derived.Test.YtfoocncmhlhkhaaM44
import Derived.Test.YtfoocncmhlhkhaaRows
import Derived.WalkKit
import Derived.ProofKit
import Derived.OpenShut
import Derived.ShutString
import Derived.ChangeOld
import Derived.Below
import Derived.Carry
namespace Go.Proofs.Ytfoocncmhlhkhaa.fnStates
open Go.ChangeShapes Go.WideShapes Go.ChangeAt Go.RowKit
open Go.ChangeMaps (open_string shut_string)
set_option linter.unusedVariables false

theorem own : ownKnob Try.prog.godebug = none := by kernel_rfl
theorem laidOut : laidOutB Try.prog = true := by kernel_rfl

set_option maxRecDepth 100000 in
theorem lifted (os : Os) (started : os.Started) (H : Type) (enc : TypeId × Value → H) :
    ReturnsInHanded {} Try.checked os 3 .any (Rows.fnStatesSpec.pre6 enc Try.prog Try.f3 Rows.fnStatesRow.domain false) (Rows.fnStatesSpec.post enc Try.prog Try.f3 false true false false) := by
  refine returnsInHanded_of_change (C := Try.checked) own started (by kernel_rfl) Try.func3
    (ChangeSpec.witness6 (enc := enc) (C := Try.checked) false ⟨#[], #[.slice none 0 0], []⟩ 8 (by kernel_rfl) (by kernel_rfl) (by kernel_rfl) (by kernel_rfl)) ?_
  intro W base args ds gs before hval0 hW hcnd _
  have hval : ∀ (j : Nat) t v, Try.f3.params[j]? = some t → args[j]? = some v → Value.okWide Try.prog W .any base t v := hval0
  have hW' := hW
  obtain ⟨p, q, hA0, hV, rfl, hfz, hnd⟩ := hW
  have hA : DataW.TrodAll enc Try.prog W 0 (fun _ => true) true Try.f3.params.toList args.toList ds p := hA0
  rw [Try.params3] at hA hval
  obtain ⟨v0, vs0, d0, ds0, p0, q0, hargs, rfl, rfl, h0, r0⟩ := trodAll_cons hA
  obtain ⟨rfl, rfl, rfl⟩ := trodAll_nil r0
  obtain rfl : args = #[v0] := by cases args; simp_all
  obtain ⟨rfl, rfl⟩ := trodVars_none hV
  have k0 := h0
  have lt0 : ∀ x ∈ p0, x.block < W.heap.size := by obtain ⟨m, hm⟩ := k0; exact DataW.trod_lt m _ _ _ hm
  obtain ⟨n0, m0, c0⟩ := code_of (hval 0 22 v0 rfl rfl) h0
  clear hA0 hval0
  refine (fnStates_walk v0 n0 m0 W c0).mono fun e W' ⟨he, bel⟩ => ?_
  subst he
  exact ⟨_, rfl, _, _, _, [], _, [], hW', trodAll_mk1 (shut_bool Try.underlying4 _), (trodAll_cons_mk (Below.trod laidOut (by kernel_rfl) (of_decide_eq_true (by kernel_rfl)) k0 bel lt0) trodAll_mk0), rfl, bel.frame _, fun h => by cases h⟩

theorem over : Rows.fnStatesRow.holds Try.pinned (OpenSpec.ofChange Rows.fnStatesSpec) :=
  OpenClaim.holds_of_wide 3 Try.f3 rfl rfl rfl rfl rfl rfl rfl ⟨rfl, rfl, rfl, rfl, rfl⟩ rfl rfl rfl rfl rfl (by kernel_rfl) Try.func3 (by kernel_rfl)
    (of_decide_eq_true (by kernel_rfl)) (by unfold Func.isWrapper; first | (rw [if_pos (by decide +kernel)]; kernel_rfl) | (rw [if_neg (by decide +kernel)]; exact ⟨rfl, rfl⟩))
    (fun os started H enc _ => lifted os started H enc)
end Go.Proofs.Ytfoocncmhlhkhaa.fnStates
namespace Go.Proofs.Ytfoocncmhlhkhaa
set_option maxRecDepth 100000
set_option linter.unusedVariables false
theorem FnStates_holds : Rows.FnStatesSaid := fnStates.over
#print axioms FnStates_holds
end Go.Proofs.Ytfoocncmhlhkhaa
