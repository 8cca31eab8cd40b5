/- An act that is handed in, taken apart. -/
import Derived.Test.YtahdgagipmpcgaaALaw2
import Derived.Lib.SmallJoins
namespace Go.Proofs.Ytahdgagipmpcgaa
set_option maxRecDepth 100000
set_option linter.unusedVariables false
open Go.ChangeShapes Go.WideShapes Go.RowKit

theorem array10 {α : Type} {cs : Array α} (h : cs.size = 10) : ∃ c0 c1 c2 c3 c4 c5 c6 c7 c8 c9, cs = #[c0, c1, c2, c3, c4, c5, c6, c7, c8, c9] := by
  obtain ⟨l⟩ := cs
  match l, h with
  | [c0, c1, c2, c3, c4, c5, c6, c7, c8, c9], _ => exact ⟨c0, c1, c2, c3, c4, c5, c6, c7, c8, c9, rfl⟩
theorem cellsStr : Try.prog.cellsOf 9 = 1 := by kernel_rfl
theorem cellsInts : Try.prog.cellsOf 22 = 1 := by kernel_rfl
theorem cellsDotL : Try.prog.cellsOf 159 = 2 := by kernel_rfl
theorem ints_trod {H : Type} {enc : TypeId × Value → H} {W : World} {fuel : Nat} {v : Value} {y : DataW H × List MemPlace} (hf : DataW.trod enc Try.prog W 0 (fun _ => true) true fuel 22 [v] = some y) : ∃ l, ArgInts W v l := by
  rcases open_ints Try.underlying22 Try.underlying3 cellsInt hf with ⟨hcs, -⟩ | ⟨a, len, cap, zs, hcs, -, hl, hm, hz, -, hcell, hwz⟩
  · have : v = .slice none 0 0 := by simpa using hcs
    rw [this]
    exact ⟨[], by simp, none, 0, rfl, fun h => by simp at h⟩
  · have : v = .slice (some a) len cap := by simpa using hcs
    rw [this]
    have hz' : zs.length = cap := by simpa using hz
    have hlen : (zs.take len).length = len := by rw [List.length_take]; omega
    refine ⟨zs.take len, by omega, some a, cap, by rw [hlen], fun h0 => ?_⟩
    obtain ⟨b, off, rfl, hc⟩ := ints_at hcell (by omega)
    refine ⟨b, off, rfl, World.block_lt_of_cell? W ⟨b, off + 0, none⟩ (hc 0 (by omega)), fun j hj => ?_⟩
    rw [hc j (by omega)]
    have hjz : j < zs.length := by omega
    simp [List.getD, hjz]
theorem dot_trod {H : Type} {enc : TypeId × Value → H} {W : World} {fuel : Nat} {a b : Value} {y : DataW H × List MemPlace} (hf : DataW.trod enc Try.prog W 0 (fun _ => true) true fuel 159 [a, b] = some y) : ∃ r s : Int, a = .int .i64 r ∧ b = .int .i64 s := by
  obtain ⟨xs, n, -, -, -, hlen, hfs⟩ := DataW.trod_struct Try.underlying159 hf
  have h0 := hfs 0 _ rfl
  have h1 := hfs 1 _ rfl
  rw [List.getElem?_eq_getElem (by rw [hlen]; simp)] at h0 h1
  simp [cellsInt] at h0 h1
  obtain ⟨r, e0, -⟩ := DataW.trod_int Try.underlying3 h0
  obtain ⟨s, e1, -⟩ := DataW.trod_int Try.underlying3 h1
  exact ⟨r, s, by simpa using e0, by simpa using e1⟩

end Go.Proofs.Ytahdgagipmpcgaa
