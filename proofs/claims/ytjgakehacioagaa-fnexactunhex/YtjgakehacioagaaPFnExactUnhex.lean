/- For every argument the Go function laws.FnExactUnhex returns true and leaves its arguments as they were. -/
import Derived.Test.YtjgakehacioagaaRows
import Derived.WalkKit
import Derived.ProofKit
import Derived.OpenShut
import Derived.ShutString
import Derived.ChangeOld
import Derived.Below
import Derived.Test.YtjgakehacioagaaUUn
import Derived.BigCall
import Derived.WalkSpells
namespace Go.Proofs.Ytjgakehacioagaa.fnExactUnhex
open Go.ChangeShapes Go.WideShapes Go.ChangeAt Go.RowKit
open Go.ChangeMaps (open_string shut_string)
set_option linter.unusedVariables false      -- a walk need not use every 'w<i>' (that an integer argument fits its kind)

theorem own : ownKnob Try.prog.godebug = none := by kernel_rfl

theorem walk (a0 : ByteArray) (w0 : a0.size ≤ maxLen) (w : World) :
    Calls Try.prog 8 #[.string a0] w fun e w' => e = .returned (.bool true) ∧ Below w.heap.size w w' := by
  unfold maxLen at w0
  by_cases hbig : (1048576 : Int) < a0.size
  · go_enter Try.func8, Try.ntmps8
    go_wp2
    go_ret
    exact ⟨rfl, Below.refl _ _⟩
  · have hm : a0.size ≤ maxLen := by unfold maxLen; omega
    by_cases hno : 40000 < a0.size ∨ a0.size % 2 = 1
    · have HN : Hid (40000 < a0.size ∨ a0.size % 2 = 1) := hno
      clear hno
      go_enter Try.func8, Try.ntmps8
      go_wp2_with (first | (go_at_call 20; refine (specUnhex_no a0 hm HN.out _).mono ?_; rintro e wa ⟨rfl, rfl⟩) | (go_at_call 21; refine (implUnhex_no a0 hm HN.out _).mono ?_; rintro e wb ⟨rfl, rfl⟩))
      go_ret
      exact ⟨rfl, Below.refl _ _⟩
    · have hs : a0.size ≤ 40000 := by omega
      obtain ⟨n, hn⟩ : ∃ n, a0.size = 2 * n := ⟨a0.size / 2, by omega⟩
      clear hno hm
      by_cases hf : ∃ b ∈ a0.data.toList, figVal 16 b.toNat = none
      · have h1 : ∀ wx, Calls Try.prog 20 #[.string a0] wx fun e w' => e = .returned (.tuple #[.string ByteArray.empty, .bool false]) ∧ Below wx.heap.size wx w' := by
          intro wx
          refine (specUnhex_even a0 n hn hs wx).mono ?_
          rintro e w' (⟨d, hd, -, -⟩ | ⟨-, he, hb⟩)
          · obtain ⟨b, hb, hx⟩ := hf
            exact absurd hx (hd.no hb)
          · exact ⟨he, hb⟩
        have h2 := fun wx => implUnhex_bad a0 n hn hs hf wx
        clear hf hn
        go_enter Try.func8, Try.ntmps8
        go_wp2_with (first | (go_at_call 20; refine (h1 _).mono ?_; rintro e wa ⟨rfl, hba⟩) | (go_at_call 21; refine (h2 _).mono ?_; rintro e wb ⟨rfl, hbb⟩))
        go_ret
        exact ⟨rfl, hba.trans (hbb.mono hba.size)⟩
      · obtain ⟨d, hd⟩ : ∃ d, Vals 16 a0.data.toList d := vals_all _ (fun b hb hx => hf ⟨b, hb, hx⟩)
        obtain ⟨L, hL⟩ : ∃ L : ByteArray, L = ⟨(unhexB d).toArray⟩ := ⟨_, rfl⟩
        have h1 : ∀ wx, Calls Try.prog 20 #[.string a0] wx fun e w' => e = .returned (.tuple #[.string L, .bool true]) ∧ Below wx.heap.size wx w' := by
          intro wx
          refine (specUnhex_even a0 n hn hs wx).mono ?_
          rintro e w' (⟨d', hd', he, hb⟩ | ⟨hx, -, -⟩)
          · obtain rfl := hd.inj hd'
            exact ⟨by rw [hL]; exact he, hb⟩
          · exact absurd hx hf
        have h2 : ∀ wx, Calls Try.prog 21 #[.string a0] wx fun e w' => e = .returned (.tuple #[.string L, .bool true]) ∧ Below wx.heap.size wx w' := by
          intro wx; rw [hL]; exact implUnhex_good a0 n hn hs d hd wx
        clear hL hd hf hn
        go_enter Try.func8, Try.ntmps8
        go_wp2_with (first | (go_at_call 20; refine (h1 _).mono ?_; rintro e wa ⟨rfl, hba⟩) | (go_at_call 21; refine (h2 _).mono ?_; rintro e wb ⟨rfl, hbb⟩))
        go_ret
        exact ⟨rfl, hba.trans (hbb.mono hba.size)⟩

set_option maxRecDepth 100000 in
theorem lifted (os : Os) (started : os.Started) (H : Type) (enc : TypeId × Value → H) :
    ReturnsInHanded {} Try.checked os 8 .any (Rows.fnExactUnhexSpec.pre6 enc Try.prog Try.f8 Rows.fnExactUnhexRow.domain false) (Rows.fnExactUnhexSpec.post enc Try.prog Try.f8 false true false false) := by
  refine returnsInHanded_of_change (C := Try.checked) own started (by kernel_rfl) Try.func8
    (ChangeSpec.witness6 (enc := enc) (C := Try.checked) false ⟨#[], #[.string ByteArray.empty], []⟩ 8 (by kernel_rfl) (by kernel_rfl) (by kernel_rfl) (by kernel_rfl)) ?_
  intro W base args ds gs before hval0 hW hcnd _
  have hval : ∀ (j : Nat) t v, Try.f8.params[j]? = some t → args[j]? = some v → Value.okWide Try.prog W .any base t v := hval0
  have hW' := hW
  obtain ⟨p, q, hA0, hV, rfl, hfz, hnd⟩ := hW
  have hA : DataW.TrodAll enc Try.prog W 0 (fun _ => true) true Try.f8.params.toList args.toList ds p := hA0
  rw [Try.params8] at hA hval
  obtain ⟨v0, vs0, d0, ds0, p0, q0, hargs, rfl, rfl, h0, r0⟩ := trodAll_cons hA
  obtain ⟨rfl, rfl, rfl⟩ := trodAll_nil r0
  obtain rfl : args = #[v0] := by cases args; simp_all
  obtain ⟨rfl, rfl⟩ := trodVars_none hV
  obtain ⟨a0, rfl, rfl, rfl, w0⟩ := open_string Try.underlying9 (hval 0 9 v0 rfl rfl) h0
  clear hA0 hval0
  refine (walk a0 w0 W).mono fun e W' ⟨he, hg⟩ => ?_
  subst he
  exact ⟨_, rfl, _, _, _, [], _, [], hW', (trodAll_cons_mk (shut_bool Try.underlying4 _) trodAll_mk0), (trodAll_cons_mk (shut_string Try.underlying9 w0) trodAll_mk0), rfl, hg.frame _, fun h => by cases h⟩

theorem over : Rows.fnExactUnhexRow.holds Try.pinned (OpenSpec.ofChange Rows.fnExactUnhexSpec) :=
  OpenClaim.holds_of_wide 8 Try.f8 rfl rfl rfl rfl rfl rfl rfl ⟨rfl, rfl, rfl, rfl, rfl⟩ rfl rfl rfl rfl rfl (by kernel_rfl) Try.func8 (by kernel_rfl)
    (of_decide_eq_true (by kernel_rfl)) (by unfold Func.isWrapper; first | (rw [if_pos (by decide +kernel)]; kernel_rfl) | (rw [if_neg (by decide +kernel)]; exact ⟨rfl, rfl⟩))
    (fun os started H enc _ => lifted os started H enc)

theorem proved : Rows.FnExactUnhexSaid :=
  over
#print axioms proved
end Go.Proofs.Ytjgakehacioagaa.fnExactUnhex
namespace Go.Proofs.Ytjgakehacioagaa
theorem FnExactUnhex_holds : Rows.FnExactUnhexSaid := fnExactUnhex.proved
end Go.Proofs.Ytjgakehacioagaa
