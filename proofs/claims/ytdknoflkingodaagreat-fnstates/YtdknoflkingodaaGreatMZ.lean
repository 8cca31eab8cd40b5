/- For every slice of bytes the law on states returns true and leaves its argument as it was. -/
import Derived.Test.YtdknoflkingodaaGreatM1
import Derived.Test.YtdknoflkingodaaGreatM2
import Derived.Test.YtdknoflkingodaaGreatM3
import Derived.Test.YtdknoflkingodaaGreatM4
import Derived.Test.YtdknoflkingodaaGreatM5
import Derived.Test.YtdknoflkingodaaGreatM6
import Derived.Test.YtdknoflkingodaaGreatM7
import Derived.Test.YtdknoflkingodaaGreatM8
import Derived.Test.YtdknoflkingodaaGreatM9
import Derived.Test.YtdknoflkingodaaGreatM10
import Derived.Test.YtdknoflkingodaaGreatM11
import Derived.Test.YtdknoflkingodaaGreatM12
import Derived.Test.YtdknoflkingodaaGreatM13
import Derived.Test.YtdknoflkingodaaGreatM14
import Derived.Test.YtdknoflkingodaaGreatM15
import Derived.Test.YtdknoflkingodaaGreatM16
import Derived.Test.YtdknoflkingodaaGreatM17
import Derived.Test.YtdknoflkingodaaGreatM18
import Derived.Test.YtdknoflkingodaaGreatM19
import Derived.Test.YtdknoflkingodaaGreatM20
import Derived.Test.YtdknoflkingodaaGreatM21
import Derived.Test.YtdknoflkingodaaGreatM22
import Derived.Test.YtdknoflkingodaaGreatM23
import Derived.Test.YtdknoflkingodaaGreatM24
import Derived.Test.YtdknoflkingodaaGreatM25
import Derived.Test.YtdknoflkingodaaGreatM26
import Derived.Test.YtdknoflkingodaaGreatM27
import Derived.Test.YtdknoflkingodaaGreatM28
import Derived.Test.YtdknoflkingodaaGreatM29
import Derived.Test.YtdknoflkingodaaGreatM30
import Derived.Test.YtdknoflkingodaaGreatM31
import Derived.Test.YtdknoflkingodaaGreatM32
import Derived.Test.YtdknoflkingodaaGreatM33
import Derived.Test.YtdknoflkingodaaGreatM34
import Derived.Test.YtdknoflkingodaaGreatM35
import Derived.Test.YtdknoflkingodaaGreatM36
import Derived.Test.YtdknoflkingodaaGreatM37
import Derived.Test.YtdknoflkingodaaGreatM38
import Derived.Test.YtdknoflkingodaaGreatM39
import Derived.Test.YtdknoflkingodaaGreatM40
import Derived.Test.YtdknoflkingodaaGreatM41
import Derived.Test.YtdknoflkingodaaGreatM42
import Derived.Test.YtdknoflkingodaaGreatM43
import Derived.Test.YtdknoflkingodaaGreatM44
import Derived.Test.YtdknoflkingodaaGreatRows
import Derived.WalkKit
import Derived.ProofKit
import Derived.OpenShut
import Derived.ShutString
import Derived.ChangeOld
import Derived.Below
import Derived.Carry
namespace Go.Proofs.YtdknoflkingodaaGreat.fnStates
open Go.ChangeShapes Go.WideShapes Go.ChangeAt Go.RowKit
open Go.ChangeMaps (open_string shut_string)
set_option linter.unusedVariables false

theorem own : ownKnob Tryz.prog.godebug = none := by kernel_rfl
theorem laidOut : laidOutB Tryz.prog = true := by kernel_rfl

set_option maxRecDepth 100000 in
theorem lifted (os : Os) (started : os.Started) (H : Type) (enc : TypeId × Value → H) :
    ReturnsInHanded {} Tryz.checked os 3 .any (Rows.fnStatesSpec.pre6 enc Tryz.prog Tryz.f3 Rows.fnStatesRow.domain false) (Rows.fnStatesSpec.post enc Tryz.prog Tryz.f3 false true false false) := by
  refine returnsInHanded_of_change (C := Tryz.checked) own started (by kernel_rfl) Tryz.func3
    (ChangeSpec.witness6 (enc := enc) (C := Tryz.checked) false ⟨#[], #[.slice none 0 0], []⟩ 8 (by kernel_rfl) (by kernel_rfl) (by kernel_rfl) (by kernel_rfl)) ?_
  intro W base args ds gs before hval0 hW hcnd _
  have hval : ∀ (j : Nat) t v, Tryz.f3.params[j]? = some t → args[j]? = some v → Value.okWide Tryz.prog W .any base t v := hval0
  have hW' := hW
  obtain ⟨p, q, hA0, hV, rfl, hfz, hnd⟩ := hW
  have hA : DataW.TrodAll enc Tryz.prog W 0 (fun _ => true) true Tryz.f3.params.toList args.toList ds p := hA0
  rw [Tryz.params3] at hA hval
  obtain ⟨v0, vs0, d0, ds0, p0, q0, hargs, rfl, rfl, h0, r0⟩ := trodAll_cons hA
  obtain ⟨rfl, rfl, rfl⟩ := trodAll_nil r0
  obtain rfl : args = #[v0] := by cases args; simp_all
  obtain ⟨rfl, rfl⟩ := trodVars_none hV
  have k0 := h0
  have lt0 : ∀ x ∈ p0, x.block < W.heap.size := by obtain ⟨m, hm⟩ := k0; exact DataW.trod_lt m _ _ _ hm
  obtain ⟨n0, m0, c0⟩ := code_of (hval 0 22 v0 rfl rfl) h0
  clear hA0 hval0
  refine (fnStates_walk v0 n0 m0 W c0).mono fun e W' ⟨he, bel⟩ => ?_
  subst he
  exact ⟨_, rfl, _, _, _, [], _, [], hW', trodAll_mk1 (shut_bool Tryz.underlying4 _), (trodAll_cons_mk (Below.trod laidOut (by kernel_rfl) (of_decide_eq_true (by kernel_rfl)) k0 bel lt0) trodAll_mk0), rfl, bel.frame _, fun h => by cases h⟩

theorem over : Rows.fnStatesRow.holds Tryz.pinned (OpenSpec.ofChange Rows.fnStatesSpec) :=
  OpenClaim.holds_of_wide 3 Tryz.f3 rfl rfl rfl rfl rfl rfl rfl ⟨rfl, rfl, rfl, rfl, rfl⟩ rfl rfl rfl rfl rfl (by kernel_rfl) Tryz.func3 (by kernel_rfl)
    (of_decide_eq_true (by kernel_rfl)) (by unfold Func.isWrapper; first | (rw [if_pos (by decide +kernel)]; kernel_rfl) | (rw [if_neg (by decide +kernel)]; exact ⟨rfl, rfl⟩))
    (fun os started H enc _ => lifted os started H enc)
end Go.Proofs.YtdknoflkingodaaGreat.fnStates
namespace Go.Proofs.YtdknoflkingodaaGreat
set_option maxRecDepth 100000
set_option linter.unusedVariables false
theorem FnStates_holds : Rows.FnStatesSaid := fnStates.over
#print axioms FnStates_holds
end Go.Proofs.YtdknoflkingodaaGreat
