/- For every argument the Go function laws.FnExactReadDecimal returns true and leaves its arguments as they were. -/
import Derived.Test.YtjgakehacioagaaRows
import Derived.WalkKit
import Derived.ProofKit
import Derived.OpenShut
import Derived.ShutString
import Derived.ChangeOld
import Derived.Below
import Derived.Test.YtjgakehacioagaaDRead
import Derived.BigCall
import Derived.WalkSpells
namespace Go.Proofs.Ytjgakehacioagaa.fnExactReadDecimal
open Go.ChangeShapes Go.WideShapes Go.ChangeAt Go.RowKit
open Go.ChangeMaps (open_string shut_string)
set_option linter.unusedVariables false      -- a walk need not use every 'w<i>' (that an integer argument fits its kind)

theorem own : ownKnob Try.prog.godebug = none := by kernel_rfl

theorem walk (a0 : ByteArray) (w0 : a0.size ≤ maxLen) (w : World) :
    Calls Try.prog 9 #[.string a0] w fun e w' => e = .returned (.bool true) ∧ Below w.heap.size w w' := by
  unfold maxLen at w0
  by_cases hbig : (1048576 : Int) < a0.size
  · go_enter Try.func9, Try.ntmps9
    go_wp2
    go_ret
    exact ⟨rfl, Below.refl _ _⟩
  · by_cases hs : a0.size ≤ 10
    · have hi : ∀ wx, Calls Try.prog 23 #[.string a0] wx (RdPost a0 wx) := by
        intro wx
        by_cases h0 : a0.size = 0
        · have he : a0 = ⟨#[]⟩ := by apply ByteArray.ext; exact Array.eq_empty_of_size_eq_zero h0
          subst he
          refine (implRd_nil wx).mono ?_
          rintro e w' ⟨rfl, rfl⟩
          exact .inr ⟨rd_nil, rfl, Below.refl _ _⟩
        · exact implRd_some a0 hs (by omega) wx
      by_cases hok : ∃ d, Vals 10 a0.data.toList d ∧ RdOk a0.data.toList d
      · obtain ⟨d, hd, hr⟩ := hok
        obtain ⟨V, hV⟩ : ∃ V, V = valN d := ⟨_, rfl⟩
        have h1 : ∀ wx, Calls Try.prog 22 #[.string a0] wx fun e w' => e = .returned (.tuple #[.int .i64 (V : Int), .bool true]) ∧ Below wx.heap.size wx w' := by
          intro wx
          refine (specRd a0 hs wx).mono ?_
          rintro e w' (⟨d', hd', -, he, hb⟩ | ⟨hn, -, -⟩)
          · obtain rfl := hd.inj hd'
            exact ⟨by rw [hV]; exact he, hb⟩
          · exact absurd hr (hn d hd)
        have h2 : ∀ wx, Calls Try.prog 23 #[.string a0] wx fun e w' => e = .returned (.tuple #[.int .i64 (V : Int), .bool true]) ∧ Below wx.heap.size wx w' := by
          intro wx
          refine (hi wx).mono ?_
          rintro e w' (⟨d', hd', -, he, hb⟩ | ⟨hn, -, -⟩)
          · obtain rfl := hd.inj hd'
            exact ⟨by rw [hV]; exact he, hb⟩
          · exact absurd hr (hn d hd)
        clear hi hd hr hV
        go_enter Try.func9, Try.ntmps9
        go_wp2_with (first | (go_at_call 22; refine (h1 _).mono ?_; rintro e wa ⟨rfl, hba⟩) | (go_at_call 23; refine (h2 _).mono ?_; rintro e wb ⟨rfl, hbb⟩))
        go_ret
        exact ⟨rfl, hba.trans (hbb.mono hba.size)⟩
      · have h1 : ∀ wx, Calls Try.prog 22 #[.string a0] wx fun e w' => e = .returned (.tuple #[.int .i64 0, .bool false]) ∧ Below wx.heap.size wx w' := by
          intro wx
          refine (specRd a0 hs wx).mono ?_
          rintro e w' (⟨d', hd', hr, -, -⟩ | ⟨-, he, hb⟩)
          · exact absurd ⟨d', hd', hr⟩ hok
          · exact ⟨he, hb⟩
        have h2 : ∀ wx, Calls Try.prog 23 #[.string a0] wx fun e w' => e = .returned (.tuple #[.int .i64 0, .bool false]) ∧ Below wx.heap.size wx w' := by
          intro wx
          refine (hi wx).mono ?_
          rintro e w' (⟨d', hd', hr, -, -⟩ | ⟨-, he, hb⟩)
          · exact absurd ⟨d', hd', hr⟩ hok
          · exact ⟨he, hb⟩
        clear hi hok
        go_enter Try.func9, Try.ntmps9
        go_wp2_with (first | (go_at_call 22; refine (h1 _).mono ?_; rintro e wa ⟨rfl, hba⟩) | (go_at_call 23; refine (h2 _).mono ?_; rintro e wb ⟨rfl, hbb⟩))
        go_ret
        exact ⟨rfl, hba.trans (hbb.mono hba.size)⟩
    · have hm : a0.size ≤ maxLen := by unfold maxLen; omega
      go_enter Try.func9, Try.ntmps9
      go_wp2_with (first | (go_at_call 22; refine (specRd_long a0 hm (by omega) _).mono ?_; rintro e wa ⟨rfl, rfl⟩) | (go_at_call 23; refine (implRd_long a0 hm (by omega) _).mono ?_; rintro e wb ⟨rfl, rfl⟩))
      go_ret
      exact ⟨rfl, Below.refl _ _⟩

set_option maxRecDepth 100000 in
theorem lifted (os : Os) (started : os.Started) (H : Type) (enc : TypeId × Value → H) :
    ReturnsInHanded {} Try.checked os 9 .any (Rows.fnExactReadDecimalSpec.pre6 enc Try.prog Try.f9 Rows.fnExactReadDecimalRow.domain false) (Rows.fnExactReadDecimalSpec.post enc Try.prog Try.f9 false true false false) := by
  refine returnsInHanded_of_change (C := Try.checked) own started (by kernel_rfl) Try.func9
    (ChangeSpec.witness6 (enc := enc) (C := Try.checked) false ⟨#[], #[.string ByteArray.empty], []⟩ 8 (by kernel_rfl) (by kernel_rfl) (by kernel_rfl) (by kernel_rfl)) ?_
  intro W base args ds gs before hval0 hW hcnd _
  have hval : ∀ (j : Nat) t v, Try.f9.params[j]? = some t → args[j]? = some v → Value.okWide Try.prog W .any base t v := hval0
  have hW' := hW
  obtain ⟨p, q, hA0, hV, rfl, hfz, hnd⟩ := hW
  have hA : DataW.TrodAll enc Try.prog W 0 (fun _ => true) true Try.f9.params.toList args.toList ds p := hA0
  rw [Try.params9] at hA hval
  obtain ⟨v0, vs0, d0, ds0, p0, q0, hargs, rfl, rfl, h0, r0⟩ := trodAll_cons hA
  obtain ⟨rfl, rfl, rfl⟩ := trodAll_nil r0
  obtain rfl : args = #[v0] := by cases args; simp_all
  obtain ⟨rfl, rfl⟩ := trodVars_none hV
  obtain ⟨a0, rfl, rfl, rfl, w0⟩ := open_string Try.underlying9 (hval 0 9 v0 rfl rfl) h0
  clear hA0 hval0
  refine (walk a0 w0 W).mono fun e W' ⟨he, hg⟩ => ?_
  subst he
  exact ⟨_, rfl, _, _, _, [], _, [], hW', (trodAll_cons_mk (shut_bool Try.underlying4 _) trodAll_mk0), (trodAll_cons_mk (shut_string Try.underlying9 w0) trodAll_mk0), rfl, hg.frame _, fun h => by cases h⟩

theorem over : Rows.fnExactReadDecimalRow.holds Try.pinned (OpenSpec.ofChange Rows.fnExactReadDecimalSpec) :=
  OpenClaim.holds_of_wide 9 Try.f9 rfl rfl rfl rfl rfl rfl rfl ⟨rfl, rfl, rfl, rfl, rfl⟩ rfl rfl rfl rfl rfl (by kernel_rfl) Try.func9 (by kernel_rfl)
    (of_decide_eq_true (by kernel_rfl)) (by unfold Func.isWrapper; first | (rw [if_pos (by decide +kernel)]; kernel_rfl) | (rw [if_neg (by decide +kernel)]; exact ⟨rfl, rfl⟩))
    (fun os started H enc _ => lifted os started H enc)

theorem proved : Rows.FnExactReadDecimalSaid :=
  over
#print axioms proved
end Go.Proofs.Ytjgakehacioagaa.fnExactReadDecimal
namespace Go.Proofs.Ytjgakehacioagaa
theorem FnExactReadDecimal_holds : Rows.FnExactReadDecimalSaid := fnExactReadDecimal.proved
end Go.Proofs.Ytjgakehacioagaa
