/- A state that is handed in, taken apart. -/
import Derived.Test.YtahdgagipmpcgaaTSt
import Derived.Test.YtahdgagipmpcgaaAArg
import Derived.Deep.Slices
import Derived.Deep.SlicePairs
namespace Go.Proofs.Ytahdgagipmpcgaa
set_option maxRecDepth 100000
set_option linter.unusedVariables false
open Go.ChangeShapes Go.WideShapes Go.RowKit Go.Deep

theorem cellsBool : Try.prog.cellsOf 4 = 1 := by kernel_rfl
theorem ta_trod {H : Type} {enc : TypeId × Value → H} {W : World} {fuel : Nat} {cs : List Value} {y : DataW H × List MemPlace} (hl : cs.length = 3) (hf : DataW.trod enc Try.prog W 0 (fun _ => true) true fuel 157 cs = some y) : ∃ a : Ta, cs = a.cs ∧ (a.o.size ≤ maxLen) := by
  match cs, hl with
  | [k0, k1, k2], _ =>
    obtain ⟨xs, n, -, -, -, hlen, hfs⟩ := DataW.trod_struct Try.underlying157 hf
    have h0 := hfs 0 _ rfl
    have h1 := hfs 1 _ rfl
    have h2 := hfs 2 _ rfl
    rw [List.getElem?_eq_getElem (by rw [hlen]; simp)] at h0 h1 h2
    simp [cellsInt, cellsStr] at h0 h1 h2
    obtain ⟨o, e0, -, mo⟩ := DataW.trod_string Try.underlying9 h0
    obtain ⟨r, e1, -⟩ := DataW.trod_int Try.underlying3 h1
    obtain ⟨n, e2, -⟩ := DataW.trod_int Try.underlying3 h2
    simp only [List.cons.injEq, and_true] at e0 e1 e2
    subst e0 e1 e2
    exact ⟨⟨o, r, n⟩, rfl, mo⟩
theorem cellsTallyL : Try.prog.cellsOf 157 = 3 := by kernel_rfl
theorem tas_trod {H : Type} {enc : TypeId × Value → H} {W : World} {fuel : Nat} {v : Value} {y : DataW H × List MemPlace} (hf : DataW.trod enc Try.prog W 0 (fun _ => true) true fuel 23 [v] = some y) : ∃ l, ArgTallys W v l := by
  rcases open_slice Try.underlying23 hf with ⟨hcs, -⟩ | ⟨a, len, cap, m, n, D, Pl, hcs, -, hl, hm, hmm, -, hx⟩
  · have : v = .slice none 0 0 := by simpa using hcs
    rw [this]
    exact ⟨[], by simp, ⟨none, 0, rfl, fun h => by simp at h⟩, by simp⟩
  · have : v = .slice (some a) len cap := by simpa using hcs
    rw [this]
    have hlm : len ≤ m := by rw [hmm]; simp; exact hl
    have each : ∀ i, i < m → ∃ b : Ta, (∀ k x, b.cs[k]? = some x → W.cell? (a.add (i * 3 + k)) = some x) ∧ (b.o.size ≤ maxLen) := by
      intro i hi
      obtain ⟨cs', h1, h2⟩ := hx i hi
      rw [cellsTallyL] at h1
      obtain ⟨-, hlen, hcell⟩ := World.cells?_some h1
      obtain ⟨b, rfl, hb⟩ := ta_trod hlen h2
      refine ⟨b, fun k x hk => ?_, hb⟩
      have hkn : k < 3 := by have := (List.getElem?_eq_some_iff.1 hk).1; exact this
      have := hcell k hkn
      rw [add_add] at this
      rw [this]; exact hk
    haveI : Inhabited Ta := ⟨zTa⟩
    obtain ⟨q, hq⟩ := choose_lt each
    have hlen : ((List.range len).map q).length = len := by simp
    refine ⟨(List.range len).map q, by omega, ⟨some a, cap, by rw [hlen], fun h0 => ?_⟩, ?_⟩
    · rw [hlen] at h0
      obtain ⟨b, off, spot⟩ := a
      have hspot : spot = none := by
        have h1 := World.cell?_spot ((hq 0 (by omega)).1 0 _ rfl)
        simpa [Addr.add] using h1
      subst hspot
      have hc : ∀ j, j < len → ∀ k x, (q j).cs[k]? = some x → W.cell? ⟨b, off + j * 3 + k, none⟩ = some x := fun j hj k x hk => by
        have := (hq j (by omega)).1 k x hk
        rwa [add_plain, ← Nat.add_assoc] at this
      refine ⟨b, off, rfl, World.block_lt_of_cell? W ⟨b, off + 0 * 3 + 0, none⟩ (hc 0 h0 0 _ rfl), fun j hj => ?_⟩
      have hj' : j < len := by simpa using hj
      rw [List.getElem_map, List.getElem_range]
      exact ⟨hc j hj' 0 _ rfl, hc j hj' 1 _ rfl, hc j hj' 2 _ rfl⟩
    · intro b hb
      obtain ⟨j, hj, rfl⟩ := List.mem_map.1 hb
      exact (hq j (by have := List.mem_range.1 hj; omega)).2
theorem li_trod {H : Type} {enc : TypeId × Value → H} {W : World} {fuel : Nat} {cs : List Value} {y : DataW H × List MemPlace} (hl : cs.length = 6) (hf : DataW.trod enc Try.prog W 0 (fun _ => true) true fuel 161 cs = some y) : ∃ a : Li, cs = a.cs ∧ (a.o.size ≤ maxLen ∧ a.y.size ≤ maxLen) := by
  match cs, hl with
  | [k0, k1, k2, k3, k4, k5], _ =>
    obtain ⟨xs, n, -, -, -, hlen, hfs⟩ := DataW.trod_struct Try.underlying161 hf
    have h0 := hfs 0 _ rfl
    have h1 := hfs 1 _ rfl
    have h2 := hfs 2 _ rfl
    have h3 := hfs 3 _ rfl
    have h4 := hfs 4 _ rfl
    rw [List.getElem?_eq_getElem (by rw [hlen]; simp)] at h0 h1 h2 h3 h4
    simp [cellsInt, cellsStr, cellsBool, cellsDotL] at h0 h1 h2 h3 h4
    obtain ⟨m, e0, -⟩ := DataW.trod_bool Try.underlying4 h0
    obtain ⟨o, e1, -, mo⟩ := DataW.trod_string Try.underlying9 h1
    obtain ⟨y, e2, -, my⟩ := DataW.trod_string Try.underlying9 h2
    obtain ⟨v, e3, -⟩ := DataW.trod_int Try.underlying3 h3
    obtain ⟨r, s, rfl, rfl⟩ := dot_trod h4
    simp only [List.cons.injEq, and_true] at e0 e1 e2 e3
    subst e0 e1 e2 e3
    exact ⟨⟨m, o, y, v, r, s⟩, rfl, mo, my⟩
theorem cellsLiveL : Try.prog.cellsOf 161 = 6 := by kernel_rfl
theorem lis_trod {H : Type} {enc : TypeId × Value → H} {W : World} {fuel : Nat} {v : Value} {y : DataW H × List MemPlace} (hf : DataW.trod enc Try.prog W 0 (fun _ => true) true fuel 24 [v] = some y) : ∃ l, ArgLives W v l := by
  rcases open_slice Try.underlying24 hf with ⟨hcs, -⟩ | ⟨a, len, cap, m, n, D, Pl, hcs, -, hl, hm, hmm, -, hx⟩
  · have : v = .slice none 0 0 := by simpa using hcs
    rw [this]
    exact ⟨[], by simp, ⟨none, 0, rfl, fun h => by simp at h⟩, by simp⟩
  · have : v = .slice (some a) len cap := by simpa using hcs
    rw [this]
    have hlm : len ≤ m := by rw [hmm]; simp; exact hl
    have each : ∀ i, i < m → ∃ b : Li, (∀ k x, b.cs[k]? = some x → W.cell? (a.add (i * 6 + k)) = some x) ∧ (b.o.size ≤ maxLen ∧ b.y.size ≤ maxLen) := by
      intro i hi
      obtain ⟨cs', h1, h2⟩ := hx i hi
      rw [cellsLiveL] at h1
      obtain ⟨-, hlen, hcell⟩ := World.cells?_some h1
      obtain ⟨b, rfl, hb⟩ := li_trod hlen h2
      refine ⟨b, fun k x hk => ?_, hb⟩
      have hkn : k < 6 := by have := (List.getElem?_eq_some_iff.1 hk).1; exact this
      have := hcell k hkn
      rw [add_add] at this
      rw [this]; exact hk
    haveI : Inhabited Li := ⟨zLi⟩
    obtain ⟨q, hq⟩ := choose_lt each
    have hlen : ((List.range len).map q).length = len := by simp
    refine ⟨(List.range len).map q, by omega, ⟨some a, cap, by rw [hlen], fun h0 => ?_⟩, ?_⟩
    · rw [hlen] at h0
      obtain ⟨b, off, spot⟩ := a
      have hspot : spot = none := by
        have h1 := World.cell?_spot ((hq 0 (by omega)).1 0 _ rfl)
        simpa [Addr.add] using h1
      subst hspot
      have hc : ∀ j, j < len → ∀ k x, (q j).cs[k]? = some x → W.cell? ⟨b, off + j * 6 + k, none⟩ = some x := fun j hj k x hk => by
        have := (hq j (by omega)).1 k x hk
        rwa [add_plain, ← Nat.add_assoc] at this
      refine ⟨b, off, rfl, World.block_lt_of_cell? W ⟨b, off + 0 * 6 + 0, none⟩ (hc 0 h0 0 _ rfl), fun j hj => ?_⟩
      have hj' : j < len := by simpa using hj
      rw [List.getElem_map, List.getElem_range]
      exact ⟨hc j hj' 0 _ rfl, hc j hj' 1 _ rfl, hc j hj' 2 _ rfl, hc j hj' 3 _ rfl, hc j hj' 4 _ rfl, hc j hj' 5 _ rfl⟩
    · intro b hb
      obtain ⟨j, hj, rfl⟩ := List.mem_map.1 hb
      exact (hq j (by have := List.mem_range.1 hj; omega)).2
theorem ce_trod {H : Type} {enc : TypeId × Value → H} {W : World} {fuel : Nat} {cs : List Value} {y : DataW H × List MemPlace} (hl : cs.length = 8) (hf : DataW.trod enc Try.prog W 0 (fun _ => true) true fuel 164 cs = some y) : ∃ a : Ce, cs = a.cs ∧ (a.o.size ≤ maxLen) := by
  match cs, hl with
  | [k0, k1, k2, k3, k4, k5, k6, k7], _ =>
    obtain ⟨xs, n, -, -, -, hlen, hfs⟩ := DataW.trod_struct Try.underlying164 hf
    have h0 := hfs 0 _ rfl
    have h1 := hfs 1 _ rfl
    have h2 := hfs 2 _ rfl
    have h3 := hfs 3 _ rfl
    have h4 := hfs 4 _ rfl
    have h5 := hfs 5 _ rfl
    rw [List.getElem?_eq_getElem (by rw [hlen]; simp)] at h0 h1 h2 h3 h4 h5
    simp [cellsInt, cellsStr, cellsBool, cellsDotL] at h0 h1 h2 h3 h4 h5
    obtain ⟨o, e0, -, mo⟩ := DataW.trod_string Try.underlying9 h0
    obtain ⟨r, s, rfl, rfl⟩ := dot_trod h1
    obtain ⟨t, e2, -⟩ := DataW.trod_int Try.underlying3 h2
    obtain ⟨x, z, rfl, rfl⟩ := dot_trod h3
    obtain ⟨v, e4, -⟩ := DataW.trod_int Try.underlying3 h4
    obtain ⟨g, e5, -⟩ := DataW.trod_bool Try.underlying4 h5
    simp only [List.cons.injEq, and_true] at e0 e2 e4 e5
    subst e0 e2 e4 e5
    exact ⟨⟨o, r, s, t, x, z, v, g⟩, rfl, mo⟩
theorem cellsCellL : Try.prog.cellsOf 164 = 8 := by kernel_rfl
theorem ces_trod {H : Type} {enc : TypeId × Value → H} {W : World} {fuel : Nat} {v : Value} {y : DataW H × List MemPlace} (hf : DataW.trod enc Try.prog W 0 (fun _ => true) true fuel 25 [v] = some y) : ∃ l, ArgCells W v l := by
  rcases open_slice Try.underlying25 hf with ⟨hcs, -⟩ | ⟨a, len, cap, m, n, D, Pl, hcs, -, hl, hm, hmm, -, hx⟩
  · have : v = .slice none 0 0 := by simpa using hcs
    rw [this]
    exact ⟨[], by simp, ⟨none, 0, rfl, fun h => by simp at h⟩, by simp⟩
  · have : v = .slice (some a) len cap := by simpa using hcs
    rw [this]
    have hlm : len ≤ m := by rw [hmm]; simp; exact hl
    have each : ∀ i, i < m → ∃ b : Ce, (∀ k x, b.cs[k]? = some x → W.cell? (a.add (i * 8 + k)) = some x) ∧ (b.o.size ≤ maxLen) := by
      intro i hi
      obtain ⟨cs', h1, h2⟩ := hx i hi
      rw [cellsCellL] at h1
      obtain ⟨-, hlen, hcell⟩ := World.cells?_some h1
      obtain ⟨b, rfl, hb⟩ := ce_trod hlen h2
      refine ⟨b, fun k x hk => ?_, hb⟩
      have hkn : k < 8 := by have := (List.getElem?_eq_some_iff.1 hk).1; exact this
      have := hcell k hkn
      rw [add_add] at this
      rw [this]; exact hk
    haveI : Inhabited Ce := ⟨zCe⟩
    obtain ⟨q, hq⟩ := choose_lt each
    have hlen : ((List.range len).map q).length = len := by simp
    refine ⟨(List.range len).map q, by omega, ⟨some a, cap, by rw [hlen], fun h0 => ?_⟩, ?_⟩
    · rw [hlen] at h0
      obtain ⟨b, off, spot⟩ := a
      have hspot : spot = none := by
        have h1 := World.cell?_spot ((hq 0 (by omega)).1 0 _ rfl)
        simpa [Addr.add] using h1
      subst hspot
      have hc : ∀ j, j < len → ∀ k x, (q j).cs[k]? = some x → W.cell? ⟨b, off + j * 8 + k, none⟩ = some x := fun j hj k x hk => by
        have := (hq j (by omega)).1 k x hk
        rwa [add_plain, ← Nat.add_assoc] at this
      refine ⟨b, off, rfl, World.block_lt_of_cell? W ⟨b, off + 0 * 8 + 0, none⟩ (hc 0 h0 0 _ rfl), fun j hj => ?_⟩
      have hj' : j < len := by simpa using hj
      rw [List.getElem_map, List.getElem_range]
      exact ⟨hc j hj' 0 _ rfl, hc j hj' 1 _ rfl, hc j hj' 2 _ rfl, hc j hj' 3 _ rfl, hc j hj' 4 _ rfl, hc j hj' 5 _ rfl, hc j hj' 6 _ rfl, hc j hj' 7 _ rfl⟩
    · intro b hb
      obtain ⟨j, hj, rfl⟩ := List.mem_map.1 hb
      exact (hq j (by have := List.mem_range.1 hj; omega)).2
theorem cellsStateL : Try.prog.cellsOf 27 = 4 := by kernel_rfl
theorem cellsT1 : Try.prog.cellsOf 23 = 1 := by kernel_rfl
theorem cellsT2 : Try.prog.cellsOf 24 = 1 := by kernel_rfl
theorem cellsT3 : Try.prog.cellsOf 25 = 1 := by kernel_rfl
theorem array4 {α : Type} {cs : Array α} (h : cs.size = 4) : ∃ c0 c1 c2 c3, cs = #[c0, c1, c2, c3] := by
  obtain ⟨l⟩ := cs
  match l, h with
  | [c0, c1, c2, c3], _ => exact ⟨c0, c1, c2, c3, rfl⟩
theorem state_of {H : Type} {enc : TypeId × Value → H} {W : World} {base : Nat} {v : Value} {d : DataW H} {p : List MemPlace} (hv : Value.okWide Try.prog W .any base 27 v) (h : DataW.Trod enc Try.prog W 0 (fun _ => true) true 27 v d p) :
    ∃ S v0 v1 v2 v3, v = .agg #[v0, v1, v2, v3] ∧ ArgState W S v0 v1 v2 v3 := by
  obtain ⟨cs, rfl, hsz⟩ := okWide_struct Try.underlying27 hv
  obtain ⟨c0, c1, c2, c3, rfl⟩ := array4 (hsz.trans cellsStateL)
  obtain ⟨fuel, hf⟩ := h
  obtain ⟨xs, n, -, -, -, hlen, hfs⟩ := DataW.trod_struct Try.underlying27 hf
  have h0 := hfs 0 _ rfl
  have h1 := hfs 1 _ rfl
  have h2 := hfs 2 _ rfl
  have h3 := hfs 3 _ rfl
  rw [List.getElem?_eq_getElem (by rw [hlen]; simp)] at h0 h1 h2 h3
  simp [cellsInts, cellsT1, cellsT2, cellsT3, Value.cells] at h0 h1 h2 h3
  obtain ⟨l, a0⟩ := ints_trod h0
  obtain ⟨T, a1⟩ := tas_trod h1
  obtain ⟨L, a2⟩ := lis_trod h2
  obtain ⟨C, a3⟩ := ces_trod h3
  exact ⟨⟨l, T, L, C⟩, c0, c1, c2, c3, rfl, a0, a1, a2, a3⟩

end Go.Proofs.Ytahdgagipmpcgaa
