/- For every line the Go function laws.FnExactPartsOf returns true and leaves its argument as it was, where the package tables that it reads start as the program's text lays them. -/
import Derived.Test.YtjgakehacioagaaDoorRows
import Derived.Test.YtjgakehacioagaaDoorTie
import Derived.Test.YtjgakehacioagaaDoorCards
import Derived.Test.YtjgakehacioagaaDoorPParts
import Derived.Test.YtjgakehacioagaaDoorDItoa
import Derived.WalkKit
import Derived.ProofKit
import Derived.LaidMore
import Derived.OpenShut
import Derived.ShutString
import Derived.ChangeOld
import Derived.Below
import Derived.Stop.Joined
import Derived.Stop.LaidErr
import Derived.Lib.LaidTab
namespace Go.Proofs.YtjgakehacioagaaDoor.fnExactPartsOf
open Go.ChangeShapes Go.WideShapes Go.ChangeAt Go.RowKit
open Go.ChangeMaps (open_string shut_string)
set_option linter.unusedVariables false

theorem own : ownKnob Tryd.prog.godebug = none := by kernel_rfl

set_option maxHeartbeats 1000000 in
set_option maxRecDepth 100000 in
theorem walk (a0 : ByteArray) (w0 : a0.size ≤ maxLen) (w : World) (htab : Lib.TabIs Tryd.prog w "strings.asciiSpace" .u8 Lib.asciiSpaceTab) :
    Calls Tryd.prog 4 #[.string a0] w fun e w' => e = .returned (.bool true) ∧ Below w.heap.size w w' := by
  have hm := w0
  unfold maxLen at w0
  by_cases hbig : (1048576 : Int) < a0.size
  · go_enter Tryd.func4, Tryd.ntmps4
    go_wp2
    go_ret
    exact ⟨rfl, Below.refl _ _⟩
  · have hlen := partsR_len a0
    obtain ⟨L, hL⟩ : ∃ L, L = (partsR a0).1 := ⟨_, rfl⟩
    obtain ⟨ok, hok⟩ : ∃ ok, ok = (partsR a0).2 := ⟨_, rfl⟩
    obtain ⟨n, hn⟩ : ∃ n, n = L.length := ⟨_, rfl⟩
    have H1 : Hid (∀ wx, Calls Tryd.prog 7 #[.string a0] wx fun e w' => ∃ v, e = .returned (.tuple #[v, .bool ok]) ∧ w'.ownsRow wx.heap.size 9 1 v n (strC L) ∧ Below wx.heap.size wx w') := by
      intro wx; rw [hn, hok, hL]; exact specPartsAll a0 hm wx
    have H2 : Hid (∀ wx, Below w.heap.size w wx → Calls Tryd.prog 8 #[.string a0] wx fun e w' => ∃ v, e = .returned (.tuple #[v, .bool ok]) ∧ w'.ownsRow wx.heap.size 9 1 v n (strC L) ∧ Below wx.heap.size wx w') := by
      intro wx hbel; rw [hn, hok, hL]; exact implParts a0 hm wx (tab_below (g := 0) (by kernel_rfl) htab hbel)
    have HLn : Hid (L.length = n) := hn.symm
    have hnb : n ≤ 10 := by rw [hn, hL]; exact hlen
    clear hlen hL hok hn htab hm
    go_enter Tryd.func4, Tryd.ntmps4
    go_wp2_with fail
    refine (H1.out _).mono ?_
    rintro e wa ⟨va, rfl, hoa, hba⟩
    go_wp2_with fail
    refine (H2.out _ hba).mono ?_
    rintro e wb ⟨vb, rfl, hob, hbb⟩
    have hbB : Below w.heap.size w wb := hba.trans (hbb.mono hba.size)
    have hoa2 := own_below hoa hbb
    have hne : va.ownBlock = none ∨ va.ownBlock ≠ vb.ownBlock := by
      cases hv : va.ownBlock with
      | none => exact .inl rfl
      | some g =>
        refine .inr fun h => ?_
        have h1 := (hoa.lt g hv).2
        have h2 := (hob.lt g h.symm).1
        omega
    have HNE : Hid (va.ownBlock = none ∨ va.ownBlock ≠ vb.ownBlock) := hne
    have HVB : Hid (∀ k, vb.ownBlock = some k → w.heap.size ≤ k) := fun k hk => by have := (hob.lt k hk).1; have := hba.size; omega
    clear hoa hba hbb hne
    go_wp2_with fail
    refine (eqS_calls HLn.out (by omega) _ hob hoa2).mono ?_
    rintro e wc ⟨rfl, hbc⟩
    have hob3 := own_below hob hbc
    have hoa3 := own_below hoa2 hbc
    have hbC : Below w.heap.size w wc := hbB.trans (hbc.mono hbB.size)
    clear hob hoa2 hbc hbB
    go_wp2_with fail
    refine (markS_one HLn.out (by omega) _ hob3).mono ?_
    rintro e wd ⟨rfl, hobd, hgd⟩
    have hoad := hoa3.kept hgd HNE.out
    have hbD : Below w.heap.size w wd := hbC.grown hgd hbC.size HVB.out
    clear hob3 hoa3 hgd hbC
    go_wp2_with fail
    refine (heldS_one (by omega) _ hobd).mono ?_
    rintro e we ⟨rfl, hbe⟩
    have hobe := own_below hobd hbe
    have hoae := own_below hoad hbe
    have hbE : Below w.heap.size w we := hbD.trans (hbe.mono hbD.size)
    clear hobd hoad hbe hbD
    go_wp2_with fail
    refine (H2.out _ hbE).mono ?_
    rintro e wf ⟨vf, rfl, hof, hbf⟩
    have hobf := own_below hobe hbf
    have hoaf := own_below hoae hbf
    have hbF : Below w.heap.size w wf := hbE.trans (hbf.mono hbE.size)
    clear hobe hoae hbf hbE
    go_wp2_with fail
    refine (eqS_calls HLn.out (by omega) _ hof hoaf).mono ?_
    rintro e wg ⟨rfl, hbg⟩
    have hobg := own_below hobf hbg
    have hbG : Below w.heap.size w wg := hbF.trans (hbg.mono hbF.size)
    clear hobf hoaf hof hbg hbF
    go_wp2_with fail
    refine (heldS_one (by omega) _ hobg).mono ?_
    rintro e wh ⟨rfl, hbh⟩
    have hbH : Below w.heap.size w wh := hbG.trans (hbh.mono hbG.size)
    clear hobg hbh hbG
    go_wp2_with fail
    go_ret
    exact ⟨rfl, hbH⟩

theorem door_met (os : Os) (args : Array Value) : laidMetH Tryd.prog Rows.fnExactPartsOfRow.laid ((World.doorLaid Tryd.prog 48 os).forCall (fun _ _ => 0) ⟨#[], args, []⟩).memory :=
  laidMetH_of_parts3 (fuel := 8) (laidMet_of_run' 8 (by kernel_rfl) (by kernel_rfl)) (by kernel_rfl) (by kernel_rfl)

theorem of_laid {W : World} (h : laidMetH Tryd.prog Rows.fnExactPartsOfRow.laid W) : Lib.TabIs Tryd.prog W "strings.asciiSpace" .u8 Lib.asciiSpaceTab := by
  rw [MakeChecks.laidMetH_plain _ _ _ (by kernel_rfl)] at h
  have h2 := h.tail
  have e : (Rows.laid_strings_asciiSpace : DataW Unit) = Lib.tabData .u8 Lib.asciiSpaceTab := by kernel_rfl
  rw [e] at h2
  exact Lib.tabIs_of_head (g := 0) (by kernel_rfl) (by kernel_rfl) Tryd.underlying34 Tryd.underlying5 (by kernel_rfl) (by kernel_rfl) h2

set_option maxRecDepth 100000 in
theorem lifted (os : Os) (started : os.Started) (H : Type) (enc : TypeId × Value → H) :
    ReturnsInHanded {} Tryd.checked os 4 .any (fun w args => (Rows.fnExactPartsOfSpec.pre enc Tryd.prog Tryd.f4 [] false w args ∧ laidMetH Tryd.prog Rows.fnExactPartsOfRow.laid w) ∧ sizedMet enc Tryd.prog Tryd.f4 (OpenSpec.ofChange Rows.fnExactPartsOfSpec) false w args)
      (Rows.fnExactPartsOfSpec.post enc Tryd.prog Tryd.f4 false true false false) := by
  refine returnsInHanded_of_change_and (C := Tryd.checked) (X := fun w _ => laidMetH Tryd.prog Rows.fnExactPartsOfRow.laid w) (fun _ _ _ hh h => h.of_heap hh) own started (by kernel_rfl) Tryd.func4
    (ChangeSpec.witness_shaped (enc := enc) (C := Tryd.checked) (os := os) (X := fun w _ => laidMetH Tryd.prog Rows.fnExactPartsOfRow.laid w) false (World.doorLaid Tryd.prog 48 os) #[.string ByteArray.empty] 8 rfl (World.shaped_of_RefB (by kernel_rfl) (by kernel_rfl)) (by kernel_rfl) (by kernel_rfl) (by kernel_rfl) (door_met os _)) ?_
  intro W base args ds gs before hval0 hW _ _ hL _
  have hval : ∀ (j : Nat) t v, Tryd.f4.params[j]? = some t → args[j]? = some v → Value.okWide Tryd.prog W .any base t v := hval0
  have hW' := hW
  obtain ⟨p, q, hA0, hV, rfl, hfz, hnd⟩ := hW
  have hA : DataW.TrodAll enc Tryd.prog W 0 (fun _ => true) true Tryd.f4.params.toList args.toList ds p := hA0
  rw [Tryd.params4] at hA hval
  obtain ⟨v0, vs0, d0, ds0, p0, q0, hargs, rfl, rfl, h0, r0⟩ := trodAll_cons hA
  obtain ⟨rfl, rfl, rfl⟩ := trodAll_nil r0
  obtain rfl : args = #[v0] := by cases args; simp_all
  obtain ⟨rfl, rfl⟩ := trodVars_none hV
  obtain ⟨a0, rfl, rfl, rfl, w0⟩ := open_string Tryd.underlying9 (hval 0 9 v0 rfl rfl) h0
  clear hA0 hval0
  refine (walk a0 w0 W (of_laid hL)).mono fun e W' ⟨he, hg⟩ => ?_
  subst he
  exact ⟨_, rfl, _, _, _, [], _, [], hW', (trodAll_cons_mk (shut_bool Tryd.underlying4 _) trodAll_mk0), (trodAll_cons_mk (shut_string Tryd.underlying9 w0) trodAll_mk0), rfl, hg.frame _, fun h => by cases h⟩

theorem row_holds : Rows.FnExactPartsOfSaid :=
  OpenClaim.holds_of_wide 4 Tryd.f4 rfl rfl rfl rfl rfl rfl rfl ⟨rfl, rfl, rfl, rfl, rfl⟩ rfl rfl rfl rfl rfl (by kernel_rfl) Tryd.func4 (by kernel_rfl)
    (of_decide_eq_true (by kernel_rfl)) (by unfold Func.isWrapper; first | (rw [if_pos (by decide +kernel)]; kernel_rfl) | (rw [if_neg (by decide +kernel)]; exact ⟨rfl, rfl⟩))
    (fun os started H enc _ => lifted os started H enc)
end Go.Proofs.YtjgakehacioagaaDoor.fnExactPartsOf
namespace Go.Proofs.YtjgakehacioagaaDoor
theorem FnExactPartsOf_holds : Rows.FnExactPartsOfCardSaid :=
  Claim7.holds_tied_plain_at .later [] [.listed, .data] true (true, "f517b7395f93476156e270a839cc31d703bb08e5b217a2b54e9dd827c451caad") false
    fnExactPartsOf.row_holds (fun _ h => by cases h) (by kernel_rfl) (fun _ h => by cases h) fnExactPartsOf_row_tie rfl ⟨rfl, rfl⟩ (by kernel_rfl) rfl
    (fun f fn hf hfn => by
      obtain rfl : f = 4 := Option.some.inj ((show Tryd.prog.funcNamed "loop.example/g00463/laws.FnExactPartsOf" = some 4 by kernel_rfl).symm.trans hf) |>.symm
      obtain rfl : fn = Tryd.f4 := (Option.some.inj (Tryd.func4.symm.trans hfn)).symm
      exact ⟨by kernel_rfl, fun j t ht => by
        rw [Tryd.params4] at ht
        have hm : t ∈ [9] := by simpa using Array.mem_of_getElem? ht
        have hall : ([9].all fun u => !Tryd.prog.wantsStandIn u) = true := by kernel_rfl
        exact (show Tryd.prog.wantsStandIn t = false by simpa using List.all_eq_true.1 hall t hm)⟩)
    (by kernel_rfl)
#print axioms FnExactPartsOf_holds
end Go.Proofs.YtjgakehacioagaaDoor
