/- Arguments read behind a call as they did, where only new memory was written; a slice of bytes that is handed in, as what is drawn off it reads it. -/
import Derived.Test.YtahdgagipmpcgaaCDraw
import Derived.ProofKit
import Derived.OpenShut
import Derived.ChangeSlices
import Derived.ChangeVars
import Derived.Below
import Derived.Carry
namespace Go.Proofs.Ytahdgagipmpcgaa
set_option maxRecDepth 100000
set_option linter.unusedVariables false
open Go.ChangeShapes Go.WideShapes Go.RowKit

/-- Types that can be read. -/
def readableAll (P : Program) (ts : List TypeId) : Bool := ts.all fun t => P.readableRec t && decide (t < P.types.size)

theorem all_below {H : Type} {enc : TypeId × Value → H} {P : Program} {W W' : World} (hl : laidOutB P = true) : ∀ {ts : List TypeId}, readableAll P ts = true → ∀ {vs : List Value} {ds : List (DataW H)} {q : List MemPlace}, DataW.TrodAll enc P W 0 (fun _ => true) true ts vs ds q → Below W.heap.size W W' → (∀ x ∈ q, x.block < W.heap.size) →
    DataW.TrodAll enc P W' 0 (fun b => decide (b < W.heap.size)) true ts vs ds q
  | [], _, [], [], q, h, _, _ => h
  | t :: ts, hr, v :: vs, d :: ds, q, h, hb, hlt => by
    obtain ⟨p, q', h1, h2, rfl⟩ := h
    unfold readableAll at hr
    rw [List.all_cons, Bool.and_eq_true, Bool.and_eq_true, decide_eq_true_eq] at hr
    exact ⟨p, q', Below.trod hl hr.1.1 hr.1.2 h1 hb (fun x hx => hlt x (List.mem_append_left _ hx)), all_below hl hr.2 h2 hb (fun x hx => hlt x (List.mem_append_right _ hx)), rfl⟩
  | [], _, _ :: _, _, _, h, _, _ => by simp [DataW.TrodAll] at h
  | [], _, [], _ :: _, _, h, _, _ => by simp [DataW.TrodAll] at h
  | _ :: _, _, [], _, _, h, _, _ => by simp [DataW.TrodAll] at h
  | _ :: _, _, _ :: _, [], _, h, _, _ => by simp [DataW.TrodAll] at h

theorem cellsByte : Try.prog.cellsOf 5 = 1 := by kernel_rfl
theorem code_of {H : Type} {enc : TypeId × Value → H} {W : World} {base : Nat} {v : Value} {d : DataW H} {p : List MemPlace} (hv : Value.okWide Try.prog W .any base 52 v) (h : DataW.Trod enc Try.prog W 0 (fun _ => true) true 52 v d p) :
    ∃ n, n ≤ maxLen ∧ CodeIs W W.heap.size v n := by
  obtain ⟨a0, len0, cap0, rfl⟩ := okWide_slice Try.underlying52 hv
  obtain ⟨fuel, hf⟩ := h
  rcases open_ints Try.underlying52 Try.underlying5 cellsByte hf with ⟨hcs, -⟩ | ⟨a, len, cap, zs, hcs, -, hl, hm, hz, -, hcell, hwz⟩
  · have : Value.slice a0 len0 cap0 = .slice none 0 0 := by simpa [Value.cells] using hcs
    rw [this]
    exact ⟨0, by unfold maxLen; omega, .inl ⟨rfl, none, 0, rfl⟩⟩
  · have : Value.slice a0 len0 cap0 = .slice (some a) len cap := by simpa [Value.cells] using hcs
    rw [this]
    refine ⟨len, by omega, ?_⟩
    by_cases h0 : len = 0
    · subst h0
      exact .inl ⟨rfl, _, _, rfl⟩
    · have hz' : zs.length = cap := by simpa using hz
      obtain ⟨b, off, rfl, hc⟩ := ints_at hcell (by omega)
      refine .inr ⟨b, off, cap, rfl, World.block_lt_of_cell? W ⟨b, off + 0, none⟩ (hc 0 (by omega)), fun i hi => ?_⟩
      have hb := bounds_u8 (hwz (zs.getD i 0) (by
        have : zs.getD i 0 = zs[i] := by simp [List.getD, show i < zs.length by omega]
        rw [this]; exact List.getElem_mem _))
      refine ⟨(zs.getD i 0).toNat, by omega, ?_⟩
      rw [hc i (by omega), Int.toNat_of_nonneg hb.1]
end Go.Proofs.Ytahdgagipmpcgaa
