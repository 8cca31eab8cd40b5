/- FnExactSettled: for every list of acts the law comes out true, and nothing that was there is written into; no condition. -/
import Derived.Test.YtepfinenocpneaaGreatQ1
import Derived.Test.YtepfinenocpneaaGreatQ2
import Derived.Test.YtepfinenocpneaaGreatQ3
import Derived.Test.YtepfinenocpneaaGreatQ4
import Derived.Test.YtepfinenocpneaaGreatQ5
import Derived.Test.YtepfinenocpneaaGreatQ6
import Derived.Test.YtepfinenocpneaaGreatQ7
import Derived.Test.YtepfinenocpneaaGreatQ8
import Derived.Test.YtepfinenocpneaaGreatQ9
import Derived.Test.YtepfinenocpneaaGreatQ10
import Derived.Test.YtepfinenocpneaaGreatQ11
import Derived.Test.YtepfinenocpneaaGreatQ12
import Derived.Test.YtepfinenocpneaaGreatQ13
import Derived.Test.YtepfinenocpneaaGreatQ14
import Derived.Test.YtepfinenocpneaaGreatQ15
import Derived.Test.YtepfinenocpneaaGreatQ16
import Derived.Test.YtepfinenocpneaaGreatQ17
import Derived.Test.YtepfinenocpneaaGreatQ18
import Derived.Test.YtepfinenocpneaaGreatQ19
import Derived.Test.YtepfinenocpneaaGreatQ20
import Derived.Test.YtepfinenocpneaaGreatQ21
import Derived.Test.YtepfinenocpneaaGreatQ22
import Derived.Test.YtepfinenocpneaaGreatQ23
import Derived.Test.YtepfinenocpneaaGreatQ24
import Derived.Test.YtepfinenocpneaaGreatQ25
import Derived.Test.YtepfinenocpneaaGreatQ26
import Derived.Test.YtepfinenocpneaaGreatQ27
import Derived.Test.YtepfinenocpneaaGreatQ28
import Derived.Test.YtepfinenocpneaaGreatQ29
import Derived.Test.YtepfinenocpneaaGreatQ30
import Derived.Test.YtepfinenocpneaaGreatQ31
import Derived.Test.YtepfinenocpneaaGreatQ32
import Derived.Test.YtepfinenocpneaaGreatQ33
import Derived.Test.YtepfinenocpneaaGreatQ34
import Derived.Test.YtepfinenocpneaaGreatQ35
import Derived.Test.YtepfinenocpneaaGreatQ36
import Derived.Test.YtepfinenocpneaaGreatQ37
import Derived.Test.YtepfinenocpneaaGreatQ38
import Derived.Test.YtepfinenocpneaaGreatQ39
import Derived.Test.YtepfinenocpneaaGreatQ40
import Derived.Test.YtepfinenocpneaaGreatQ41
import Derived.Test.YtepfinenocpneaaGreatQ42
import Derived.Test.YtepfinenocpneaaGreatQ43
import Derived.Test.YtepfinenocpneaaGreatRows
import Derived.WalkKit
import Derived.ProofKit
import Derived.OpenShut
import Derived.ShutString
import Derived.ChangeOld
import Derived.Below
import Derived.Carry
namespace Go.Proofs.YtepfinenocpneaaGreat.fnExactSettled
open Go.ChangeShapes Go.WideShapes Go.ChangeAt Go.RowKit
open Go.ChangeMaps (open_string shut_string)
set_option linter.unusedVariables false

theorem own : ownKnob Tryz.prog.godebug = none := by kernel_rfl
theorem laidOut : laidOutB Tryz.prog = true := by kernel_rfl

set_option maxRecDepth 100000 in
theorem lifted (os : Os) (started : os.Started) (H : Type) (enc : TypeId × Value → H) :
    ReturnsInHanded {} Tryz.checked os 3 .any (Rows.fnExactSettledSpec.pre6 enc Tryz.prog Tryz.f3 Rows.fnExactSettledRow.domain false) (Rows.fnExactSettledSpec.post enc Tryz.prog Tryz.f3 false true false false) := by
  refine returnsInHanded_of_change (C := Tryz.checked) own started (by kernel_rfl) Tryz.func3
    (ChangeSpec.witness6 (enc := enc) (C := Tryz.checked) false ⟨#[], #[.slice none 0 0], []⟩ 8 (by kernel_rfl) (by kernel_rfl) (by kernel_rfl) (by kernel_rfl)) ?_
  intro W base args ds gs before hval0 hW hcnd _
  have hval : ∀ (j : Nat) t v, Tryz.f3.params[j]? = some t → args[j]? = some v → Value.okWide Tryz.prog W .any base t v := hval0
  have hW' := hW
  obtain ⟨p, q, hA0, hV, rfl, hfz, hnd⟩ := hW
  have hA : DataW.TrodAll enc Tryz.prog W 0 (fun _ => true) true Tryz.f3.params.toList args.toList ds p := hA0
  rw [Tryz.params3] at hA hval
  obtain ⟨v0, vs0, d0, ds0, p0, q0, hargs, rfl, rfl, h0, r0⟩ := trodAll_cons hA
  obtain ⟨rfl, rfl, rfl⟩ := trodAll_nil r0
  obtain rfl : args = #[v0] := by cases args; simp_all
  obtain ⟨rfl, rfl⟩ := trodVars_none hV
  have k0 := h0
  have lt0 : ∀ x ∈ p0, x.block < W.heap.size := by obtain ⟨m, hm⟩ := k0; exact DataW.trod_lt m _ _ _ hm
  obtain ⟨l0, c0⟩ := Jf2 (hval 0 22 v0 rfl rfl) h0
  clear hA0 hval0
  refine (KC v0 l0 W c0).mono fun e W' ⟨he, bel⟩ => ?_
  subst he
  exact ⟨_, rfl, _, _, _, [], _, [], hW', trodAll_mk1 (shut_bool Tryz.underlying4 _), (trodAll_cons_mk (Below.trod laidOut (by kernel_rfl) (of_decide_eq_true (by kernel_rfl)) k0 bel lt0) trodAll_mk0), rfl, bel.frame _, fun h => by cases h⟩

theorem over : Rows.fnExactSettledRow.holds Tryz.pinned (OpenSpec.ofChange Rows.fnExactSettledSpec) :=
  OpenClaim.holds_of_wide 3 Tryz.f3 rfl rfl rfl rfl rfl rfl rfl ⟨rfl, rfl, rfl, rfl, rfl⟩ rfl rfl rfl rfl rfl (by kernel_rfl) Tryz.func3 (by kernel_rfl)
    (of_decide_eq_true (by kernel_rfl)) (by unfold Func.isWrapper; first | (rw [if_pos (by decide +kernel)]; kernel_rfl) | (rw [if_neg (by decide +kernel)]; exact ⟨rfl, rfl⟩))
    (fun os started H enc _ => lifted os started H enc)
end Go.Proofs.YtepfinenocpneaaGreat.fnExactSettled
namespace Go.Proofs.YtepfinenocpneaaGreat
set_option maxRecDepth 100000
set_option linter.unusedVariables false
theorem FnExactSettled_holds : Rows.FnExactSettledSaid := fnExactSettled.over
#print axioms FnExactSettled_holds
end Go.Proofs.YtepfinenocpneaaGreat
