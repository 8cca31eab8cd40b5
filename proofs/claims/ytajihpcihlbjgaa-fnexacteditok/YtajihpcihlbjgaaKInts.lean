/- What the laws' own helpers on lists of numbers do; a list that is handed in. -/
import Derived.Test.YtajihpcihlbjgaaKBoth
import Derived.Test.YtajihpcihlbjgaaKKnows
import Derived.ProofKit
import Derived.OpenShut
import Derived.ChangeSlices
import Derived.ChangeVars
import Derived.Below
import Derived.Carry
namespace Go.Proofs.Ytajihpcihlbjgaa
set_option maxRecDepth 100000
set_option linter.unusedVariables false
open Go.ChangeShapes Go.WideShapes Go.RowKit

theorem grownBy_trans {a b c : World} {row : Option Nat} (h : a.grownBy b row) (k : b.grownBy c row) : a.grownBy c row :=
  ⟨k.os.trans h.os, k.tape.trans h.tape, k.output.trans h.output, Nat.le_trans h.size k.size, fun j hj hne => (k.block j (Nat.lt_of_lt_of_le hj h.size) hne).trans (h.block j hj hne)⟩
theorem grownBy_below {w w' : World} (h : Below w.heap.size w w') (row : Option Nat) : w.grownBy w' row := ⟨h.os, h.tape, h.output, h.size, fun k hk _ => h.block k hk⟩
theorem own_below {w w' : World} {B : Nat} {e : TypeId} {size n : Nat} {v : Value} {xs : List Value} (h : w.ownsRow B e size v n xs) (hb : Below w.heap.size w w') : w'.ownsRow B e size v n xs :=
  h.kept (grownBy_below hb none) (by cases v.ownBlock with
    | none => exact .inl rfl
    | some g => exact .inr (by simp))

/-- A list of numbers that was handed in. -/
def ArgInts (w : World) (v : Value) (l : List Int) : Prop :=
  l.length ≤ maxLen ∧ ∃ (aa : Option Addr) (ca : Nat), v = .slice aa l.length ca ∧ (0 < l.length → ∃ g off, aa = some ⟨g, off, none⟩ ∧ g < w.heap.size ∧ ∀ j (h : j < l.length), w.cell? ⟨g, off + j, none⟩ = some (.int .i64 (l[j])))
theorem ArgInts.below {w w' : World} {v : Value} {l : List Int} (h : ArgInts w v l) (hb : Below w.heap.size w w') : ArgInts w' v l := by
  obtain ⟨hm, aa, ca, rfl, hg⟩ := h
  refine ⟨hm, aa, ca, rfl, fun h0 => ?_⟩
  obtain ⟨g, off, rfl, h1, h2⟩ := hg h0
  exact ⟨g, off, rfl, Nat.lt_of_lt_of_le h1 hb.size, fun j hj => (hb.cell (p := ⟨g, off + j, none⟩) h1).trans (h2 j hj)⟩

theorem cellsInt : Try.prog.cellsOf 3 = 1 := by kernel_rfl
theorem ints_of {H : Type} {enc : TypeId × Value → H} {W : World} {base : Nat} {v : Value} {d : DataW H} {p : List MemPlace} (hv : Value.okWide Try.prog W .any base 31 v) (h : DataW.Trod enc Try.prog W 0 (fun _ => true) true 31 v d p) :
    ∃ l, ArgInts W v l := by
  obtain ⟨a0, len0, cap0, rfl⟩ := okWide_slice Try.underlying31 hv
  obtain ⟨fuel, hf⟩ := h
  rcases open_ints Try.underlying31 Try.underlying3 cellsInt hf with ⟨hcs, -⟩ | ⟨a, len, cap, zs, hcs, -, hl, hm, hz, -, hcell, hwz⟩
  · have : Value.slice a0 len0 cap0 = .slice none 0 0 := by simpa [Value.cells] using hcs
    rw [this]
    exact ⟨[], by simp, none, 0, rfl, fun h => by simp at h⟩
  · have : Value.slice a0 len0 cap0 = .slice (some a) len cap := by simpa [Value.cells] using hcs
    rw [this]
    have hz' : zs.length = cap := by simpa using hz
    have hlen : (zs.take len).length = len := by rw [List.length_take]; omega
    refine ⟨zs.take len, by omega, some a, cap, by rw [hlen], fun h0 => ?_⟩
    obtain ⟨b, off, rfl, hc⟩ := ints_at hcell (by omega)
    refine ⟨b, off, rfl, World.block_lt_of_cell? W ⟨b, off + 0, none⟩ (hc 0 (by omega)), fun j hj => ?_⟩
    rw [hc j (by omega)]
    have hjz : j < zs.length := by omega
    simp [List.getD, hjz]

theorem copy_set (l : List Int) (j : Nat) (h : j < l.length) : (intV (l.take j ++ List.replicate (l.length - j) 0)).set j (Value.int .i64 l[j]) = intV (l.take (j + 1) ++ List.replicate (l.length - (j + 1)) 0) := by
  have e : l.length - j = (l.length - (j + 1)) + 1 := by omega
  rw [e, List.replicate_succ]
  unfold intV
  have hlen : (List.map (Value.int .i64) (l.take j)).length = j := by simp; omega
  rw [List.map_append, List.map_cons, List.set_append_right _ _ (by rw [hlen]; exact Nat.le_refl _), hlen, Nat.sub_self, List.set_cons_zero, List.take_succ_eq_append_getElem h, List.map_append, List.map_append, List.append_assoc]
  rfl

/-- The marks from k on. -/
def mkI (k n : Nat) : List Int := (List.range n).map fun (i : Nat) => (k : Int) + (i : Int)
theorem mkI_len (k n : Nat) : (mkI k n).length = n := by simp [mkI]
theorem mkI_at (k n j : Nat) (h : j < (mkI k n).length) : (mkI k n)[j] = (k : Int) + (j : Int) := by simp [mkI]
theorem mkI_succ (k n : Nat) : mkI k (n + 1) = mkI k n ++ [(k : Int) + (n : Int)] := by simp [mkI, List.range_succ]
theorem mkI_set (k j : Nat) (l : List Int) (h : j < l.length) : (intV (mkI k j ++ l.drop j)).set j (Value.int .i64 ((k : Int) + (j : Int))) = intV (mkI k (j + 1) ++ l.drop (j + 1)) := by
  have e : mkI k j ++ l.drop j = mkI k j ++ l[j] :: l.drop (j + 1) := by rw [List.drop_eq_getElem_cons h]
  rw [e, mkI_succ]
  unfold intV
  have hlen : (List.map (Value.int .i64) (mkI k j)).length = j := by simp [mkI_len]
  rw [List.map_append, List.map_cons, List.set_append_right _ _ (by rw [hlen]; exact Nat.le_refl _), hlen, Nat.sub_self, List.set_cons_zero, List.map_append, List.map_append, List.append_assoc]
  rfl

end Go.Proofs.Ytajihpcihlbjgaa
