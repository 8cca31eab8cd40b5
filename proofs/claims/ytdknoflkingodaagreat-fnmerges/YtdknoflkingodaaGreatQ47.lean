/- Arguments read behind a call as they did, where only new mem. -/
import Derived.Below
import Derived.Carry
import Derived.ChangeSlices
import Derived.ChangeVars
import Derived.OpenShut
import Derived.ProofKit
import Derived.Test.YtdknoflkingodaaGreatQ33
set_option maxHeartbeats 16000000
namespace Go.Proofs.YtdknoflkingodaaGreat
open Value (int)
open IntKind (i64)
set_option maxRecDepth 100000
set_option linter.unusedVariables false
open Go.ChangeShapes Go.WideShapes Go.RowKit
theorem Jc8 : Tryz.prog.cellsOf 5 = 1 := by kernel_rfl
theorem JeE {H : Type} {enc : TypeId × Value → H} {W : World} {base : Nat} {v : Value} {d : DataW H} {p : List MemPlace} (hv : Value.okWide Tryz.prog W .any base 22 v) (h : DataW.Trod enc Tryz.prog W 0 (fun _ => true) true 22 v d p) :
  ∃ n, n ≤ maxLen ∧ CodeIs W W.heap.size v n := by
 obtain ⟨a0, len0, cap0, rfl⟩ := okWide_slice Tryz.underlying22 hv
 obtain ⟨fuel, hf⟩ := h
 rcases open_ints Tryz.underlying22 Tryz.underlying5 Jc8 hf with ⟨hcs, -⟩ | ⟨a, len, cap, zs, hcs, -, hl, hm, hz, -, hcell, hwz⟩
 ·have : Value.slice a0 len0 cap0 = .slice none 0 0 := by simpa [Value.cells] using hcs
  rw [this]
  exact ⟨0, by unfold maxLen; omega, .inl ⟨rfl, none, 0, rfl⟩⟩
 ·have : Value.slice a0 len0 cap0 = .slice (some a) len cap := by simpa [Value.cells] using hcs
  rw [this]
  refine ⟨len, by omega, ?_⟩
  by_cases h0 : len = 0
  ·subst h0
   exact .inl ⟨rfl, _, _, rfl⟩
  ·have hz' : zs.length = cap := by simpa using hz
   obtain ⟨b, off, rfl, hc⟩ := ints_at hcell (by omega)
   refine .inr ⟨b, off, cap, rfl, World.block_lt_of_cell? W ⟨b, off + 0, none⟩ (hc 0 (by omega)), fun i hi => ?_⟩
   have hb := bounds_u8 (hwz (zs.getD i 0) (by
    have : zs.getD i 0 = zs[i] := by simp [List.getD, show i < zs.length by omega]
    rw [this]; exact List.getElem_mem _))
   refine ⟨(zs.getD i 0).toNat, by omega, ?_⟩
   rw [hc i (by omega), Int.toNat_of_nonneg hb.1]
end Go.Proofs.YtdknoflkingodaaGreat
