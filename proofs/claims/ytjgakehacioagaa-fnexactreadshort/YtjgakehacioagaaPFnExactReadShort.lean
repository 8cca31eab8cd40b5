/- For every argument the Go function laws.FnExactReadShort returns true and leaves its arguments as they were. -/
import Derived.Test.YtjgakehacioagaaRows
import Derived.WalkKit
import Derived.ProofKit
import Derived.OpenShut
import Derived.ShutString
import Derived.ChangeOld
import Derived.Below
import Derived.Test.YtjgakehacioagaaRShort
import Derived.BigCall
import Derived.WalkSpells
namespace Go.Proofs.Ytjgakehacioagaa.fnExactReadShort
open Go.ChangeShapes Go.WideShapes Go.ChangeAt Go.RowKit
open Go.ChangeMaps (open_string shut_string)
set_option linter.unusedVariables false      -- a walk need not use every 'w<i>' (that an integer argument fits its kind)

theorem own : ownKnob Try.prog.godebug = none := by kernel_rfl

theorem walk (a0 : ByteArray) (a1 : Int) (w0 : a0.size ≤ maxLen) (w1 : (Lit.int .i64 a1).wf = true) (w : World) :
    Calls Try.prog 6 #[.string a0, .int .i64 a1] w fun e w' => e = .returned (.bool true) ∧ Below w.heap.size w w' := by
  unfold maxLen at w0
  by_cases hbig : (1048576 : Int) < a0.size
  · go_enter Try.func6, Try.ntmps6
    go_wp2
    go_ret
    exact ⟨rfl, Below.refl _ _⟩
  · have hs : a0.size ≤ 1048576 := by omega
    rcases hR : rv a0.data.toList a1 with _ | ⟨n, j⟩
    · have HR : Hid (rv a0.data.toList a1 = none) := hR
      clear hR
      go_enter Try.func6, Try.ntmps6
      go_wp2_with (first | (go_at_call 16; refine (specRShort_no a0 a1 hs HR.out _).mono ?_; rintro e wa ⟨rfl, hba⟩) | (go_at_call 17; refine (implRShort_no a0 a1 hs HR.out _).mono ?_; rintro e wb ⟨rfl, hbb⟩))
      go_ret
      exact ⟨rfl, hba.trans (hbb.mono hba.size)⟩
    · have hb := rv_some hR
      have hj : j ≤ a0.size := by simpa using hb.2.2
      have hn := hb.1
      have HR : Hid (rv a0.data.toList a1 = some (n, j)) := hR
      clear hR hb
      by_cases hf : 20000 < n ∨ a0.size < j + n
      · have HF : Hid (20000 < n ∨ a0.size < j + n) := hf
        clear hf
        go_enter Try.func6, Try.ntmps6
        go_wp2_with (first | (go_at_call 16; refine (specRShort_far a0 a1 n j hs HR.out hn hj HF.out _).mono ?_; rintro e wa ⟨rfl, hba⟩) | (go_at_call 17; refine (implRShort_far a0 a1 n j hs HR.out hn hj HF.out _).mono ?_; rintro e wb ⟨rfl, hbb⟩))
        go_ret
        exact ⟨rfl, hba.trans (hbb.mono hba.size)⟩
      · have h2 : n ≤ 20000 := by omega
        have h3 : j + n ≤ a0.size := by omega
        clear hf
        go_enter Try.func6, Try.ntmps6
        go_wp2_with (first | (go_at_call 16; refine (specRShort_yes a0 a1 n j hs HR.out h2 h3 _).mono ?_; rintro e wa ⟨rfl, hba⟩) | (go_at_call 17; refine (implRShort_yes a0 a1 n j hs HR.out h2 h3 _).mono ?_; rintro e wb ⟨rfl, hbb⟩))
        go_ret
        exact ⟨rfl, hba.trans (hbb.mono hba.size)⟩

set_option maxRecDepth 100000 in
theorem lifted (os : Os) (started : os.Started) (H : Type) (enc : TypeId × Value → H) :
    ReturnsInHanded {} Try.checked os 6 .any (Rows.fnExactReadShortSpec.pre6 enc Try.prog Try.f6 Rows.fnExactReadShortRow.domain false) (Rows.fnExactReadShortSpec.post enc Try.prog Try.f6 false true false false) := by
  refine returnsInHanded_of_change (C := Try.checked) own started (by kernel_rfl) Try.func6
    (ChangeSpec.witness6 (enc := enc) (C := Try.checked) false ⟨#[], #[.string ByteArray.empty, .int .i64 0], []⟩ 8 (by kernel_rfl) (by kernel_rfl) (by kernel_rfl) (by kernel_rfl)) ?_
  intro W base args ds gs before hval0 hW hcnd _
  have hval : ∀ (j : Nat) t v, Try.f6.params[j]? = some t → args[j]? = some v → Value.okWide Try.prog W .any base t v := hval0
  have hW' := hW
  obtain ⟨p, q, hA0, hV, rfl, hfz, hnd⟩ := hW
  have hA : DataW.TrodAll enc Try.prog W 0 (fun _ => true) true Try.f6.params.toList args.toList ds p := hA0
  rw [Try.params6] at hA hval
  obtain ⟨v0, vs0, d0, ds0, p0, q0, hargs, rfl, rfl, h0, r0⟩ := trodAll_cons hA
  obtain ⟨v1, vs1, d1, ds1, p1, q1, rfl, rfl, rfl, h1, r1⟩ := trodAll_cons r0
  obtain ⟨rfl, rfl, rfl⟩ := trodAll_nil r1
  obtain rfl : args = #[v0, v1] := by cases args; simp_all
  obtain ⟨rfl, rfl⟩ := trodVars_none hV
  obtain ⟨a0, rfl, rfl, rfl, w0⟩ := open_string Try.underlying9 (hval 0 9 v0 rfl rfl) h0
  obtain ⟨a1, rfl, rfl, rfl, w1⟩ := open_int Try.underlying3 (hval 1 3 v1 rfl rfl) h1
  clear hA0 hval0
  refine (walk a0 a1 w0 w1 W).mono fun e W' ⟨he, hg⟩ => ?_
  subst he
  exact ⟨_, rfl, _, _, _, [], _, [], hW', (trodAll_cons_mk (shut_bool Try.underlying4 _) trodAll_mk0), (trodAll_cons_mk (shut_string Try.underlying9 w0) (trodAll_cons_mk (shut_int Try.underlying3 w1) trodAll_mk0)), rfl, hg.frame _, fun h => by cases h⟩

theorem over : Rows.fnExactReadShortRow.holds Try.pinned (OpenSpec.ofChange Rows.fnExactReadShortSpec) :=
  OpenClaim.holds_of_wide 6 Try.f6 rfl rfl rfl rfl rfl rfl rfl ⟨rfl, rfl, rfl, rfl, rfl⟩ rfl rfl rfl rfl rfl (by kernel_rfl) Try.func6 (by kernel_rfl)
    (of_decide_eq_true (by kernel_rfl)) (by unfold Func.isWrapper; first | (rw [if_pos (by decide +kernel)]; kernel_rfl) | (rw [if_neg (by decide +kernel)]; exact ⟨rfl, rfl⟩))
    (fun os started H enc _ => lifted os started H enc)

theorem proved : Rows.FnExactReadShortSaid :=
  over
#print axioms proved
end Go.Proofs.Ytjgakehacioagaa.fnExactReadShort
namespace Go.Proofs.Ytjgakehacioagaa
theorem FnExactReadShort_holds : Rows.FnExactReadShortSaid := fnExactReadShort.proved
end Go.Proofs.Ytjgakehacioagaa
