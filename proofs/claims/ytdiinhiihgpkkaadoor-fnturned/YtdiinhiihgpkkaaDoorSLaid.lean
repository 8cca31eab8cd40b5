/- What is common to the laws that read the table of half bytes: how the row's 'laid' gives the table, and that a package variable reads behind the call as it did. -/
import Derived.Test.YtdiinhiihgpkkaaDoorSMore
import Derived.WalkKit
import Derived.ProofKit
import Derived.LaidMore
import Derived.OpenShut
import Derived.ChangeVars
import Derived.Below
import Derived.Carry
import Derived.Stop.Joined
import Derived.Stop.LaidErr
import Derived.Lib.LaidTab
namespace Go.Proofs.YtdiinhiihgpkkaaDoor
open Go.ChangeShapes Go.WideShapes Go.ChangeAt Go.RowKit

theorem Tryd.laidOut : laidOutB Tryd.prog = true := by kernel_rfl

theorem tab_below {n : String} {g : Nat} {k : IntKind} {zs : List Int} {w w' : World} (hg : Tryd.prog.globalNamed n = some g) (h : Lib.TabIs Tryd.prog w n k zs) (hb : Below w.heap.size w w') : Lib.TabIs Tryd.prog w' n k zs := by
  unfold Lib.TabIs World.var? at h ⊢
  rw [hg] at h ⊢
  simp only [Option.bind_some] at h ⊢
  have hlt : g < w.heap.size := by
    rcases Nat.lt_or_ge g w.heap.size with h' | h'
    · exact h'
    · rw [Array.getElem?_eq_none h'] at h; cases h
  rw [hb.block g hlt]
  exact h
theorem HalfTab.below {w w' : World} (h : HalfTab w) (hb : Below w.heap.size w w') : HalfTab w' := tab_below (g := 0) (by kernel_rfl) h hb

theorem of_laid {W : World} (h : laidMetH Tryd.prog [("loop.example/g00463/impl.turnsOfHalf", Rows.laid_loop_example_g00463_impl_turnsOfHalf)] W) : HalfTab W := by
  rw [MakeChecks.laidMetH_plain _ _ _ (by kernel_rfl)] at h
  have e : (Rows.laid_loop_example_g00463_impl_turnsOfHalf : DataW Unit) = Lib.tabData .u32 halfTab := by kernel_rfl
  rw [e] at h
  exact Lib.tabIs_of_head (g := 0) (by kernel_rfl) (by kernel_rfl) Tryd.underlying47 Tryd.underlying29 (by kernel_rfl) (by kernel_rfl) h

/-- The types of the variables of that name can be read. -/
def readable (P : Program) (ns : List String) : Bool := ns.all fun n => match P.globalNamed n with
  | some g => match (P.globals[g]?).map (·.type) with
    | some t => P.readableRec t && decide (t < P.types.size)
    | none => true
  | none => true

/-- Package variables read as they did, where only new memory was written. -/
theorem vars_below {H : Type} {enc : TypeId × Value → H} {P : Program} {W W' : World} (hl : laidOutB P = true) : ∀ {ns : List String}, readable P ns = true → ∀ {gs : List (DataW H)} {q : List MemPlace}, DataW.TrodVars enc P W (fun _ => true) ns gs q → Below W.heap.size W W' → (∀ x ∈ q, x.block < W.heap.size) →
    DataW.TrodVars enc P W' (fun b => decide (b < W.heap.size)) ns gs q
  | [], _, gs, q, h, _, _ => by
    obtain ⟨rfl, rfl⟩ := trodVars_none h
    exact rfl
  | n :: ns, hr, [], q, h, _, _ => by simp [DataW.TrodVars] at h
  | n :: ns, hr, d :: gs, q, h, hb, hlt => by
    obtain ⟨g, t, cs, fuel, p, q', h1, h2, h3, h4, hs, rfl⟩ := h
    unfold readable at hr
    rw [List.all_cons, Bool.and_eq_true] at hr
    have hr1 := hr.1
    rw [h1] at hr1
    simp only [h2, Bool.and_eq_true, decide_eq_true_eq] at hr1
    have hg : g < W.heap.size := by
      unfold World.var? at h3
      rw [h1] at h3
      simp only [Option.bind_some] at h3
      rcases Nat.lt_or_ge g W.heap.size with h' | h'
      · exact h'
      · rw [Array.getElem?_eq_none h'] at h3; cases h3
    have h3' : W'.var? P n = some cs := by
      unfold World.var? at h3 ⊢
      rw [h1] at h3 ⊢
      simp only [Option.bind_some] at h3 ⊢
      rw [hb.block g hg]
      exact h3
    obtain ⟨fuel', h4'⟩ := Below.trod hl hr1.1 hr1.2 (v := .agg cs) (⟨fuel, h4⟩ : DataW.Trod enc P W 0 (fun _ => true) true t (.agg cs) d p) hb (fun x hx => hlt x (List.mem_append_left _ (List.mem_append_right _ hx)))
    exact ⟨g, t, cs, fuel', p, q', h1, h2, h3', h4', vars_below hl hr.2 hs hb (fun x hx => hlt x (List.mem_append_right _ hx)), rfl⟩

set_option maxHeartbeats 400000 in
theorem fnExactSumMore_walk (a0 : Int) (w0 : (Lit.int .u32 a0).wf = true) (a1 : ByteArray) (w1 : a1.size ≤ maxLen) (w : World) (ht : HalfTab w) :
    Calls Tryd.prog 4 #[.int .u32 a0, .string a1] w fun e w' => e = .returned (.bool true) ∧ Below w.heap.size w w' := by
  have hb := bounds_u32 w0
  obtain ⟨S, rfl⟩ := Int.eq_ofNat_of_zero_le hb.1
  have hS : S < 4294967296 := by omega
  by_cases hbig : (1048576 : Int) < a1.size
  · go_enter Tryd.func4, Tryd.ntmps4
    unfold maxLen at w1
    go_wp2
    go_ret
    exact ⟨rfl, Below.refl _ _⟩
  · have h1 := specMore S hS a1 w1 w
    have h2 := implSumMore S hS a1 w1 w ht
    obtain ⟨L, hL⟩ : ∃ L : Int, L = (sumMore S a1.data.toList : Nat) := ⟨_, rfl⟩
    rw [← hL] at h1 h2
    clear hL ht
    unfold maxLen at w1
    go_enter Tryd.func4, Tryd.ntmps4
    go_wp2_with (first | (go_at_call 15; refine h1.mono ?_; rintro e wa ⟨rfl, rfl⟩) | (go_at_call 13; refine h2.mono ?_; rintro e wb ⟨rfl, rfl⟩))
    go_ret
    exact ⟨rfl, Below.refl _ _⟩

set_option maxHeartbeats 400000 in
theorem fnExactSumOf_walk (a1 : ByteArray) (w1 : a1.size ≤ maxLen) (w : World) (ht : HalfTab w) :
    Calls Tryd.prog 5 #[.string a1] w fun e w' => e = .returned (.bool true) ∧ Below w.heap.size w w' := by
  by_cases hbig : (1048576 : Int) < a1.size
  · go_enter Tryd.func5, Tryd.ntmps5
    unfold maxLen at w1
    go_wp2
    go_ret
    exact ⟨rfl, Below.refl _ _⟩
  · have h1 := specOf a1 w1 w
    have h2 := implOf a1 w1 w ht
    obtain ⟨L, hL⟩ : ∃ L : Int, L = (sumMore 4294967295 a1.data.toList : Nat) := ⟨_, rfl⟩
    rw [← hL] at h1 h2
    clear hL ht
    unfold maxLen at w1
    go_enter Tryd.func5, Tryd.ntmps5
    go_wp2_with (first | (go_at_call 16; refine h1.mono ?_; rintro e wa ⟨rfl, rfl⟩) | (go_at_call 14; refine h2.mono ?_; rintro e wb ⟨rfl, rfl⟩))
    go_ret
    exact ⟨rfl, Below.refl _ _⟩
end Go.Proofs.YtdiinhiihgpkkaaDoor
