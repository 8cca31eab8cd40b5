/- Lists of one's own are sorted, and what stands twice in them stands once: the library's means, told of rows. -/
import Derived.Test.YtahdgagipmpcgaaGMath
import Derived.Test.YtahdgagipmpcgaaGStr
import Derived.Test.YtahdgagipmpcgaaShelf2
import Derived.Sort.OwnSorted
import Derived.Sort.OwnSortedInts
import Derived.Sort.Grow
import Derived.Lib.OwnBridge
namespace Go.Proofs.Ytahdgagipmpcgaa
set_option maxRecDepth 100000
set_option linter.unusedVariables false
open Go.RowKit Go.Sort

theorem sortS_calls {v : Value} {B : Nat} {ss : List (List UInt8)} (w : World) (hn : ss.length ≤ 1048576) (h : w.ownsRow B 9 1 v ss.length (strC ss)) (hv : v ≠ .slice none 0 0) (hB : B ≤ w.heap.size) :
    Calls Try.prog 141 #[v] w fun e w' => e = .returned (.tuple #[]) ∧ w'.ownsRow B 9 1 v ss.length (strC (ss.mergeSort fun x y => decide (x ≤ y))) ∧ Below B w w' := by
  obtain ⟨g, cap, rfl, hbg, hgl, hncap, hcm, hlen, hH⟩ := Lib.holds_of_ownsRow (enc := encStr) (zs := ss) h hv
  refine (Try.slices_Sort_string g 0 cap ss w hH hgl (by omega)).mono ?_
  rintro e w' ⟨rfl, n, os, rfl⟩
  rcases h.2 with ⟨h0, _⟩ | ⟨g', cap', cur, e0, hbase, hb, h1, h2, h3, h4⟩
  · cases h0
  cases e0
  refine ⟨rfl, ownsRow_sorted (List.length_mergeSort ss) hbase hb h1 h2 h3, ?_⟩
  exact (Below.refl B w).grown (grownBy_sorted _) hB (fun j hj => by cases hj; exact hbase)
theorem compS_calls {v : Value} {B : Nat} {ss : List (List UInt8)} (w : World) (hn : ss.length ≤ 1048576) (h : w.ownsRow B 9 1 v ss.length (strC ss)) (hv : v ≠ .slice none 0 0) (hB : B ≤ w.heap.size) :
    Calls Try.prog 142 #[v] w fun e w' => ∃ u, e = .returned u ∧ w'.ownsRow B 9 1 u (Lib.compact ss).length (strC (Lib.compact ss)) ∧ Below B w w' := by
  obtain ⟨g, cap, rfl, hbg, hgl, hncap, hcm, hlen, hH⟩ := Lib.holds_of_ownsRow (enc := encStr) (zs := ss) h hv
  refine (Try.slices_Compact_string g 0 cap ss w hH (by omega) hncap).mono ?_
  rintro e w' ⟨rfl, q, rfl⟩
  have hle := Lib.compact_length_le ss
  have hc := Lib.ownsRow_putRow (enc := encStr) (q := q) (k := (Lib.compact ss).length) (ys := Lib.compact ss ++ List.replicate (ss.length - (Lib.compact ss).length) []) h (by simp; omega) hle
  rw [List.take_left] at hc
  exact ⟨_, rfl, hc, Lib.below_putRow (Below.refl B w) hbg⟩
theorem sortI_calls {v : Value} {B : Nat} {ss : List Int} (w : World) (hn : ss.length ≤ 1048576) (h : w.ownsRow B 3 1 v ss.length (intV ss)) (hv : v ≠ .slice none 0 0) (hB : B ≤ w.heap.size) :
    Calls Try.prog 79 #[v] w fun e w' => e = .returned (.tuple #[]) ∧ w'.ownsRow B 3 1 v ss.length (intV (ss.mergeSort fun x y => decide (x ≤ y))) ∧ Below B w w' := by
  obtain ⟨g, cap, rfl, hbg, hgl, hncap, hcm, hlen, hH⟩ := Lib.holds_of_ownsRow (enc := Value.int .i64) (zs := ss) h hv
  refine (Try.slices_Sort_int g 0 cap ss w hH hgl (by omega)).mono ?_
  rintro e w' ⟨rfl, n, os, rfl⟩
  rcases h.2 with ⟨h0, _⟩ | ⟨g', cap', cur, e0, hbase, hb, h1, h2, h3, h4⟩
  · cases h0
  cases e0
  refine ⟨rfl, ownsRow_sortedI (List.length_mergeSort ss) hbase hb h1 h2 h3, ?_⟩
  exact (Below.refl B w).grown (grownBy_sortedI _) hB (fun j hj => by cases hj; exact hbase)

end Go.Proofs.Ytahdgagipmpcgaa
