/- An act that is handed in, taken apart. -/
import Derived.Lib.SmallJoins
import Derived.Test.YtepfinenocpneaaGreatQ11
set_option maxHeartbeats 16000000
namespace Go.Proofs.YtepfinenocpneaaGreat
open Value (int)
open IntKind (i64)
set_option maxRecDepth 100000
set_option linter.unusedVariables false
open Go.ChangeShapes Go.WideShapes Go.RowKit
theorem JdN : Tryz.prog.cellsOf 9 = 1 := by kernel_rfl
theorem Jb1 : Tryz.prog.cellsOf 24 = 1 := by kernel_rfl
theorem JbY : Tryz.prog.cellsOf 52 = 2 := by kernel_rfl
theorem JbU : Tryz.prog.cellsOf 54 = 10 := by kernel_rfl
theorem JbM {H : Type} {enc : TypeId × Value → H} {W : World} {fuel : Nat} {v : Value} {y : DataW H × List MemPlace} (hf : DataW.trod enc Tryz.prog W 0 (fun _ => true) true fuel 24 [v] = some y) : ∃ l, ArgInts W v l := by
 rcases open_ints Tryz.underlying24 Tryz.underlying3 UO hf with ⟨hcs, -⟩ | ⟨a, len, cap, zs, hcs, -, hl, hm, hz, -, hcell, hwz⟩
 ·have : v = .slice none 0 0 := by simpa using hcs
  rw [this]
  exact ⟨[], by simp, none, 0, rfl, fun h => by simp at h⟩
 ·have : v = .slice (some a) len cap := by simpa using hcs
  rw [this]
  have hz' : zs.length = cap := by simpa using hz
  have hlen : (zs.take len).length = len := by rw [List.length_take]; omega
  refine ⟨zs.take len, by omega, some a, cap, by rw [hlen], fun h0 => ?_⟩
  obtain ⟨b, off, rfl, hc⟩ := ints_at hcell (by omega)
  refine ⟨b, off, rfl, World.block_lt_of_cell? W ⟨b, off + 0, none⟩ (hc 0 (by omega)), fun j hj => ?_⟩
  rw [hc j (by omega)]
  have hjz : j < zs.length := by omega
  simp [List.getD, hjz]
theorem Y2 {H : Type} {enc : TypeId × Value → H} {W : World} {fuel : Nat} {a b : Value} {y : DataW H × List MemPlace} (hf : DataW.trod enc Tryz.prog W 0 (fun _ => true) true fuel 52 [a, b] = some y) : ∃ r s : Int, a = int i64 r ∧ b = int i64 s := by
 obtain ⟨xs, n, -, -, -, hlen, hfs⟩ := DataW.trod_struct Tryz.underlying52 hf
 have h0 := hfs 0 _ rfl
 have h1 := hfs 1 _ rfl
 rw [List.getElem?_eq_getElem (by rw [hlen]; simp)] at h0 h1
 simp [UO] at h0 h1
 obtain ⟨r, e0, -⟩ := DataW.trod_int Tryz.underlying3 h0
 obtain ⟨s, e1, -⟩ := DataW.trod_int Tryz.underlying3 h1
 exact ⟨r, s, by simpa using e0, by simpa using e1⟩
end Go.Proofs.YtepfinenocpneaaGreat
