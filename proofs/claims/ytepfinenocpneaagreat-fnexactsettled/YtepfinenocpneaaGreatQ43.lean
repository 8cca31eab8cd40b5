/- A list of acts that is handed in, taken apart. -/
import Derived.Deep.SlicePairs
import Derived.Deep.Slices
import Derived.Test.YtepfinenocpneaaGreatQ40
import Derived.Test.YtepfinenocpneaaGreatQ42
set_option maxHeartbeats 16000000
namespace Go.Proofs.YtepfinenocpneaaGreat
open Value (int)
open IntKind (i64)
set_option maxRecDepth 100000
set_option linter.unusedVariables false
open Go.ChangeShapes Go.WideShapes Go.RowKit Go.Deep
theorem Jc1 {H : Type} {enc : TypeId × Value → H} {W : World} {fuel : Nat} {cs : List Value} {y : DataW H × List MemPlace} (hl : cs.length = 10) (hf : DataW.trod enc Tryz.prog W 0 (fun _ => true) true fuel 54 cs = some y) : ∃ a : Ac × Value, cs = acv a ∧ ArgAct W a.1 a.2 := by
 match cs, hl with
 | [c0, c1, c2, c3, c4, c5, c6, c7, c8, c9], _ =>
  obtain ⟨xs, n, -, -, -, hlen, hfs⟩ := DataW.trod_struct Tryz.underlying54 hf
  have h0 := hfs 0 _ rfl
  have h1 := hfs 1 _ rfl
  have h2 := hfs 2 _ rfl
  have h3 := hfs 3 _ rfl
  have h4 := hfs 4 _ rfl
  have h5 := hfs 5 _ rfl
  have h6 := hfs 6 _ rfl
  have h7 := hfs 7 _ rfl
  rw [List.getElem?_eq_getElem (by rw [hlen]; simp)] at h0 h1 h2 h3 h4 h5 h6 h7
  simp [UO, JdN, Jb1, JbY] at h0 h1 h2 h3 h4 h5 h6 h7
  obtain ⟨r, s, rfl, rfl⟩ := Y2 h0
  obtain ⟨x, z, rfl, rfl⟩ := Y2 h7
  obtain ⟨t, e1, -⟩ := DataW.trod_int Tryz.underlying3 h1
  obtain ⟨l, c⟩ := JbM h2
  obtain ⟨k, e3, -⟩ := DataW.trod_int Tryz.underlying3 h3
  obtain ⟨o, e4, -, m4⟩ := DataW.trod_string Tryz.underlying9 h4
  obtain ⟨y, e5, -, m5⟩ := DataW.trod_string Tryz.underlying9 h5
  obtain ⟨vv, e6, -⟩ := DataW.trod_int Tryz.underlying3 h6
  simp only [List.cons.injEq, and_true] at e1 e3 e4 e5 e6
  subst e1 e3 e4 e5 e6
  exact ⟨(⟨r, s, t, k, vv, x, z, o, y, l⟩, c3), rfl, c, m4, m5⟩
theorem Jdx {H : Type} {enc : TypeId × Value → H} {W : World} {fuel : Nat} {v : Value} {y : DataW H × List MemPlace} (hf : DataW.trod enc Tryz.prog W 0 (fun _ => true) true fuel 22 [v] = some y) : ∃ l, ArgAs W v l := by
 rcases open_slice Tryz.underlying22 hf with ⟨hcs, -⟩ | ⟨a, len, cap, m, n, D, Pl, hcs, -, hl, hm, hmm, -, hx⟩
 ·have : v = .slice none 0 0 := by simpa using hcs
  rw [this]
  exact ⟨[], by simp, none, 0, rfl, fun h => by simp at h⟩
 ·have : v = .slice (some a) len cap := by simpa using hcs
  rw [this]
  have hlm : len ≤ m := by rw [hmm]; simp; exact hl
  have each : ∀ i, i < m → ∃ b : Ac × Value, (∀ k x, (acv b)[k]? = some x → W.cell? (a.add (i * 10 + k)) = some x) ∧ ArgAct W b.1 b.2 := by
   intro i hi
   obtain ⟨cs', h1, h2⟩ := hx i hi
   rw [JbU] at h1
   obtain ⟨-, hlen, hcell⟩ := World.cells?_some h1
   obtain ⟨b, rfl, hb⟩ := Jc1 hlen h2
   refine ⟨b, fun k x hk => ?_, hb⟩
   have hkn : k < 10 := by have := (List.getElem?_eq_some_iff.1 hk).1; exact this
   have := hcell k hkn
   rw [add_add] at this
   rw [this]; exact hk
  haveI : Inhabited (Ac × Value) := ⟨(⟨0, 0, 0, 0, 0, 0, 0, ⟨#[]⟩, ⟨#[]⟩, []⟩, .slice none 0 0)⟩
  obtain ⟨q, hq⟩ := choose_lt each
  have hlen : ((List.range len).map (fun i => (q i).1)).length = len := by simp
  refine ⟨(List.range len).map (fun i => (q i).1), by omega, some a, cap, by rw [hlen], fun h0 => ?_⟩
  rw [hlen] at h0
  obtain ⟨b, off, spot⟩ := a
  have hspot : spot = none := by
   have h1 := World.cell?_spot ((hq 0 (by omega)).1 0 _ rfl)
   simpa [Addr.add] using h1
  subst hspot
  have hc : ∀ j, j < len → ∀ k x, (acv (q j))[k]? = some x → W.cell? ⟨b, off + j * 10 + k, none⟩ = some x := fun j hj k x hk => by
   have := (hq j (by omega)).1 k x hk
   rwa [add_plain, ← Nat.add_assoc] at this
  refine ⟨b, off, rfl, World.block_lt_of_cell? W ⟨b, off + 0 * 10 + 0, none⟩ (hc 0 h0 0 _ rfl), fun j hj => ?_⟩
  have hj' : j < len := by simpa using hj
  rw [List.getElem_map, List.getElem_range]
  exact ⟨(q j).2, ⟨hc j hj' 0 _ rfl, hc j hj' 1 _ rfl, hc j hj' 2 _ rfl, hc j hj' 3 _ rfl, hc j hj' 4 _ rfl, hc j hj' 5 _ rfl, hc j hj' 6 _ rfl, hc j hj' 7 _ rfl, hc j hj' 8 _ rfl, hc j hj' 9 _ rfl⟩, (hq j (by omega)).2⟩
theorem Jf2 {H : Type} {enc : TypeId × Value → H} {W : World} {base : Nat} {v : Value} {d : DataW H} {p : List MemPlace} (hv : Value.okWide Tryz.prog W .any base 22 v) (h : DataW.Trod enc Tryz.prog W 0 (fun _ => true) true 22 v d p) : ∃ l, ArgAs W v l := by
 obtain ⟨a0, len0, cap0, rfl⟩ := okWide_slice Tryz.underlying22 hv
 obtain ⟨fuel, hf⟩ := h
 exact Jdx hf
end Go.Proofs.YtepfinenocpneaaGreat
