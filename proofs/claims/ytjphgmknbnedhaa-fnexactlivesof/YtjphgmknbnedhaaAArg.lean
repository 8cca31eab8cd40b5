/- An act that is handed in, taken apart. -/
import Derived.Test.YtjphgmknbnedhaaALaw2
import Derived.Lib.SmallJoins
namespace Go.Proofs.Ytjphgmknbnedhaa
set_option maxRecDepth 100000
set_option linter.unusedVariables false
open Go.ChangeShapes Go.WideShapes Go.RowKit

theorem array10 {α : Type} {cs : Array α} (h : cs.size = 10) : ∃ c0 c1 c2 c3 c4 c5 c6 c7 c8 c9, cs = #[c0, c1, c2, c3, c4, c5, c6, c7, c8, c9] := by
  obtain ⟨l⟩ := cs
  match l, h with
  | [c0, c1, c2, c3, c4, c5, c6, c7, c8, c9], _ => exact ⟨c0, c1, c2, c3, c4, c5, c6, c7, c8, c9, rfl⟩
theorem cellsStr : Try.prog.cellsOf 9 = 1 := by kernel_rfl
theorem cellsInts : Try.prog.cellsOf 24 = 1 := by kernel_rfl
theorem cellsDotL : Try.prog.cellsOf 68 = 2 := by kernel_rfl
theorem cellsActL : Try.prog.cellsOf 89 = 10 := by kernel_rfl
theorem ints_trod {H : Type} {enc : TypeId × Value → H} {W : World} {fuel : Nat} {v : Value} {y : DataW H × List MemPlace} (hf : DataW.trod enc Try.prog W 0 (fun _ => true) true fuel 24 [v] = some y) : ∃ l, ArgInts W v l := by
  rcases open_ints Try.underlying24 Try.underlying3 cellsInt hf with ⟨hcs, -⟩ | ⟨a, len, cap, zs, hcs, -, hl, hm, hz, -, hcell, hwz⟩
  · have : v = .slice none 0 0 := by simpa using hcs
    rw [this]
    exact ⟨[], by simp, none, 0, rfl, fun h => by simp at h⟩
  · have : v = .slice (some a) len cap := by simpa using hcs
    rw [this]
    have hz' : zs.length = cap := by simpa using hz
    have hlen : (zs.take len).length = len := by rw [List.length_take]; omega
    refine ⟨zs.take len, by omega, some a, cap, by rw [hlen], fun h0 => ?_⟩
    obtain ⟨b, off, rfl, hc⟩ := ints_at hcell (by omega)
    refine ⟨b, off, rfl, World.block_lt_of_cell? W ⟨b, off + 0, none⟩ (hc 0 (by omega)), fun j hj => ?_⟩
    rw [hc j (by omega)]
    have hjz : j < zs.length := by omega
    simp [List.getD, hjz]
theorem dot_trod {H : Type} {enc : TypeId × Value → H} {W : World} {fuel : Nat} {a b : Value} {y : DataW H × List MemPlace} (hf : DataW.trod enc Try.prog W 0 (fun _ => true) true fuel 68 [a, b] = some y) : ∃ r s : Int, a = .int .i64 r ∧ b = .int .i64 s := by
  obtain ⟨xs, n, -, -, -, hlen, hfs⟩ := DataW.trod_struct Try.underlying68 hf
  have h0 := hfs 0 _ rfl
  have h1 := hfs 1 _ rfl
  rw [List.getElem?_eq_getElem (by rw [hlen]; simp)] at h0 h1
  simp [cellsInt] at h0 h1
  obtain ⟨r, e0, -⟩ := DataW.trod_int Try.underlying3 h0
  obtain ⟨s, e1, -⟩ := DataW.trod_int Try.underlying3 h1
  exact ⟨r, s, by simpa using e0, by simpa using e1⟩

theorem act_of {H : Type} {enc : TypeId × Value → H} {W : World} {base : Nat} {v : Value} {d : DataW H} {p : List MemPlace} (hv : Value.okWide Try.prog W .any base 89 v) (h : DataW.Trod enc Try.prog W 0 (fun _ => true) true 89 v d p) :
    ∃ A u, v = Ac.val A u ∧ ArgAct W A u := by
  obtain ⟨cs, rfl, hsz⟩ := okWide_struct Try.underlying89 hv
  obtain ⟨c0, c1, c2, c3, c4, c5, c6, c7, c8, c9, rfl⟩ := array10 (hsz.trans cellsActL)
  obtain ⟨fuel, hf⟩ := h
  obtain ⟨xs, n, -, -, -, hlen, hfs⟩ := DataW.trod_struct Try.underlying89 hf
  have h0 := hfs 0 _ rfl
  have h1 := hfs 1 _ rfl
  have h2 := hfs 2 _ rfl
  have h3 := hfs 3 _ rfl
  have h4 := hfs 4 _ rfl
  have h5 := hfs 5 _ rfl
  have h6 := hfs 6 _ rfl
  have h7 := hfs 7 _ rfl
  rw [List.getElem?_eq_getElem (by rw [hlen]; simp)] at h0 h1 h2 h3 h4 h5 h6 h7
  simp [cellsInt, cellsStr, cellsInts, cellsDotL, Value.cells] at h0 h1 h2 h3 h4 h5 h6 h7
  obtain ⟨r, s, rfl, rfl⟩ := dot_trod h0
  obtain ⟨x, z, rfl, rfl⟩ := dot_trod h7
  obtain ⟨t, e1, -⟩ := DataW.trod_int Try.underlying3 h1
  obtain ⟨l, c⟩ := ints_trod h2
  obtain ⟨k, e3, -⟩ := DataW.trod_int Try.underlying3 h3
  obtain ⟨o, e4, -, m4⟩ := DataW.trod_string Try.underlying9 h4
  obtain ⟨y, e5, -, m5⟩ := DataW.trod_string Try.underlying9 h5
  obtain ⟨vv, e6, -⟩ := DataW.trod_int Try.underlying3 h6
  simp only [List.cons.injEq, and_true] at e1 e3 e4 e5 e6
  subst e1 e3 e4 e5 e6
  exact ⟨⟨r, s, t, k, vv, x, z, o, y, l⟩, c3, rfl, c, m4, m5⟩
end Go.Proofs.Ytjphgmknbnedhaa
