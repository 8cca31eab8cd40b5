/- For every slice of bytes the law on merges returns true and leaves its argument as it was. -/
import Derived.Test.YtdknoflkingodaaGreatQ1
import Derived.Test.YtdknoflkingodaaGreatQ2
import Derived.Test.YtdknoflkingodaaGreatQ3
import Derived.Test.YtdknoflkingodaaGreatQ4
import Derived.Test.YtdknoflkingodaaGreatQ5
import Derived.Test.YtdknoflkingodaaGreatQ6
import Derived.Test.YtdknoflkingodaaGreatQ7
import Derived.Test.YtdknoflkingodaaGreatQ8
import Derived.Test.YtdknoflkingodaaGreatQ9
import Derived.Test.YtdknoflkingodaaGreatQ10
import Derived.Test.YtdknoflkingodaaGreatQ11
import Derived.Test.YtdknoflkingodaaGreatQ12
import Derived.Test.YtdknoflkingodaaGreatQ13
import Derived.Test.YtdknoflkingodaaGreatQ14
import Derived.Test.YtdknoflkingodaaGreatQ15
import Derived.Test.YtdknoflkingodaaGreatQ16
import Derived.Test.YtdknoflkingodaaGreatQ17
import Derived.Test.YtdknoflkingodaaGreatQ18
import Derived.Test.YtdknoflkingodaaGreatQ19
import Derived.Test.YtdknoflkingodaaGreatQ20
import Derived.Test.YtdknoflkingodaaGreatQ21
import Derived.Test.YtdknoflkingodaaGreatQ22
import Derived.Test.YtdknoflkingodaaGreatQ23
import Derived.Test.YtdknoflkingodaaGreatQ24
import Derived.Test.YtdknoflkingodaaGreatQ25
import Derived.Test.YtdknoflkingodaaGreatQ26
import Derived.Test.YtdknoflkingodaaGreatQ27
import Derived.Test.YtdknoflkingodaaGreatQ28
import Derived.Test.YtdknoflkingodaaGreatQ29
import Derived.Test.YtdknoflkingodaaGreatQ30
import Derived.Test.YtdknoflkingodaaGreatQ31
import Derived.Test.YtdknoflkingodaaGreatQ32
import Derived.Test.YtdknoflkingodaaGreatQ33
import Derived.Test.YtdknoflkingodaaGreatQ34
import Derived.Test.YtdknoflkingodaaGreatQ35
import Derived.Test.YtdknoflkingodaaGreatQ36
import Derived.Test.YtdknoflkingodaaGreatQ37
import Derived.Test.YtdknoflkingodaaGreatQ38
import Derived.Test.YtdknoflkingodaaGreatQ39
import Derived.Test.YtdknoflkingodaaGreatQ40
import Derived.Test.YtdknoflkingodaaGreatQ41
import Derived.Test.YtdknoflkingodaaGreatQ42
import Derived.Test.YtdknoflkingodaaGreatQ43
import Derived.Test.YtdknoflkingodaaGreatQ44
import Derived.Test.YtdknoflkingodaaGreatQ45
import Derived.Test.YtdknoflkingodaaGreatQ46
import Derived.Test.YtdknoflkingodaaGreatQ47
import Derived.Test.YtdknoflkingodaaGreatRows
import Derived.WalkKit
import Derived.ProofKit
import Derived.OpenShut
import Derived.ShutString
import Derived.ChangeOld
import Derived.Below
import Derived.Carry
namespace Go.Proofs.YtdknoflkingodaaGreat.fnMerges
open Go.ChangeShapes Go.WideShapes Go.ChangeAt Go.RowKit
open Go.ChangeMaps (open_string shut_string)
set_option linter.unusedVariables false

theorem own : ownKnob Tryz.prog.godebug = none := by kernel_rfl
theorem laidOut : laidOutB Tryz.prog = true := by kernel_rfl

set_option maxRecDepth 100000 in
theorem lifted (os : Os) (started : os.Started) (H : Type) (enc : TypeId × Value → H) :
    ReturnsInHanded {} Tryz.checked os 4 .any (Rows.fnMergesSpec.pre6 enc Tryz.prog Tryz.f4 Rows.fnMergesRow.domain false) (Rows.fnMergesSpec.post enc Tryz.prog Tryz.f4 false true false false) := by
  refine returnsInHanded_of_change (C := Tryz.checked) own started (by kernel_rfl) Tryz.func4
    (ChangeSpec.witness6 (enc := enc) (C := Tryz.checked) false ⟨#[], #[.slice none 0 0], []⟩ 8 (by kernel_rfl) (by kernel_rfl) (by kernel_rfl) (by kernel_rfl)) ?_
  intro W base args ds gs before hval0 hW hcnd _
  have hval : ∀ (j : Nat) t v, Tryz.f4.params[j]? = some t → args[j]? = some v → Value.okWide Tryz.prog W .any base t v := hval0
  have hW' := hW
  obtain ⟨p, q, hA0, hV, rfl, hfz, hnd⟩ := hW
  have hA : DataW.TrodAll enc Tryz.prog W 0 (fun _ => true) true Tryz.f4.params.toList args.toList ds p := hA0
  rw [Tryz.params4] at hA hval
  obtain ⟨v0, vs0, d0, ds0, p0, q0, hargs, rfl, rfl, h0, r0⟩ := trodAll_cons hA
  obtain ⟨rfl, rfl, rfl⟩ := trodAll_nil r0
  obtain rfl : args = #[v0] := by cases args; simp_all
  obtain ⟨rfl, rfl⟩ := trodVars_none hV
  have k0 := h0
  have lt0 : ∀ x ∈ p0, x.block < W.heap.size := by obtain ⟨m, hm⟩ := k0; exact DataW.trod_lt m _ _ _ hm
  obtain ⟨n0, m0, c0⟩ := JeE (hval 0 22 v0 rfl rfl) h0
  clear hA0 hval0
  refine (Yj v0 n0 m0 W c0).mono fun e W' ⟨he, bel⟩ => ?_
  subst he
  exact ⟨_, rfl, _, _, _, [], _, [], hW', trodAll_mk1 (shut_bool Tryz.underlying4 _), (trodAll_cons_mk (Below.trod laidOut (by kernel_rfl) (of_decide_eq_true (by kernel_rfl)) k0 bel lt0) trodAll_mk0), rfl, bel.frame _, fun h => by cases h⟩

theorem over : Rows.fnMergesRow.holds Tryz.pinned (OpenSpec.ofChange Rows.fnMergesSpec) :=
  OpenClaim.holds_of_wide 4 Tryz.f4 rfl rfl rfl rfl rfl rfl rfl ⟨rfl, rfl, rfl, rfl, rfl⟩ rfl rfl rfl rfl rfl (by kernel_rfl) Tryz.func4 (by kernel_rfl)
    (of_decide_eq_true (by kernel_rfl)) (by unfold Func.isWrapper; first | (rw [if_pos (by decide +kernel)]; kernel_rfl) | (rw [if_neg (by decide +kernel)]; exact ⟨rfl, rfl⟩))
    (fun os started H enc _ => lifted os started H enc)
end Go.Proofs.YtdknoflkingodaaGreat.fnMerges
namespace Go.Proofs.YtdknoflkingodaaGreat
set_option maxRecDepth 100000
set_option linter.unusedVariables false
theorem FnMerges_holds : Rows.FnMergesSaid := fnMerges.over
#print axioms FnMerges_holds
end Go.Proofs.YtdknoflkingodaaGreat
