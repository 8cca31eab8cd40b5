/- A text of one byte again and again: how long it is. -/
import Derived.Test.YtbnnmlfammeobaaCText
import Derived.Deep.OwnRows
import Derived.Laws.Rows
namespace Go.Proofs.Ytbnnmlfammeobaa
open Go.RowKit

/-- N bytes in a block of their own. -/
def BytesAt (w : World) (g N : Nat) : Prop := ∃ arr : Array Value, w.heap[g]? = some (.cells arr 5 (0, 0)) ∧ arr.size = N ∧ ∀ j, j < N → ∃ x : Nat, x < 256 ∧ arr[j]? = some (.int .u8 x)
theorem BytesAt.set {w : World} {g N : Nat} (h : BytesAt w g N) (i x : Nat) (hx : x < 256) : BytesAt (w.setCell ⟨g, i, none⟩ (.int .u8 (x : Int))) g N := by
  obtain ⟨arr, hg, hs, ha⟩ := h
  refine ⟨_, heap_setCell_same w g i arr 5 _ hg, by simp [hs], fun j hj => ?_⟩
  rw [Array.getElem?_setIfInBounds]
  by_cases e : i = j
  · subst e; exact ⟨x, hx, by simp [hs, hj]⟩
  · simp only [e, if_false]; exact ha j hj
theorem BytesAt.cell {w : World} {g N : Nat} (h : BytesAt w g N) (i : Nat) (hi : i < N) : ∃ x : Nat, x < 256 ∧ w.cell? ⟨g, i, none⟩ = some (.int .u8 x) := by
  obtain ⟨arr, hg, hs, ha⟩ := h
  obtain ⟨x, hx, hx2⟩ := ha i hi
  exact ⟨x, hx, by simp [World.cell?, hg, hx2]⟩
theorem BytesAt.free {w : World} {g N : Nat} (h : BytesAt w g N) (i : Nat) : w.frozen? ⟨g, i, none⟩ = false := by
  obtain ⟨arr, hg, -⟩ := h
  simp [World.frozen?, hg]
theorem BytesAt.list {w : World} {g N : Nat} (h : BytesAt w g N) : ∃ L : List UInt8, L.length = N ∧ ∀ j (hj : j < L.length), w.cell? ⟨g, j, none⟩ = some (.int .u8 (L[j].toNat : Int)) := by
  have hf : ∀ j : Nat, ∃ x : Nat, j < N → x < 256 ∧ w.cell? ⟨g, j, none⟩ = some (.int .u8 (x : Int)) := fun j => by
    by_cases hj : j < N
    · obtain ⟨x, hx⟩ := h.cell j hj; exact ⟨x, fun _ => hx⟩
    · exact ⟨0, fun h => absurd h hj⟩
  obtain ⟨f, hf⟩ := Classical.axiomOfChoice hf
  refine ⟨(List.range N).map fun j => UInt8.ofNat (f j), by simp, fun j hj => ?_⟩
  have hj' : j < N := by simpa using hj
  obtain ⟨h1, h2⟩ := hf j hj'
  rw [h2]
  simp [Nat.mod_eq_of_lt h1]
theorem bytesAt_made (w : World) (N : Nat) : BytesAt (w.alloc (.cells (madeCells #[.int .u8 0] N) 5)) w.heap.size N := by
  refine ⟨_, (MapKept.heap_alloc w _).1, ?_, ?_⟩
  · exact size_madeCells _ _
  · intro j hj
    refine ⟨0, by omega, ?_⟩
    unfold madeCells
    simp [hj, Nat.mod_one]

set_option maxHeartbeats 1000000 in
theorem longD (N x : Nat) (hN : N ≤ 1000000) (hx : x < 256) (w : World) :
    Calls Try.prog 41 #[.int .i64 (N : Int), .int .u8 (x : Int)] w fun e w' => ∃ s : ByteArray, s.size = N ∧ e = .returned (.string s) ∧ Below w.heap.size w w' := by
  have hmk := run_make_row' (P := Try.prog) 22 5 (.int .u8 0) 1 Try.underlying22 infoByte rfl .i64 .i64 N (by omega) (by omega)
  have hm0 := bytesAt_made w N
  go_enter Try.func41, Try.ntmps41
  go_wp2
  go_loopw [6] (fun z wr => ∃ j : Nat, z = .int .i64 (j : Int) ∧ j ≤ N ∧ BytesAt wr w.heap.size N ∧ Below w.heap.size w wr) (fun z _ => N - (intOf z).toNat)
  case atStart => exact ⟨0, rfl, Nat.zero_le _, hm0, (Below.refl _ _).alloc (Nat.le_refl _) _⟩
  case round =>
    obtain ⟨j, rfl, hj, hby, hbel⟩ := hrel
    by_cases hlt : j < N
    · have hlt1 : (j : Int) < (N : Int) := by omega
      have hj0 : (0 : Int) ≤ (j : Int) := Int.natCast_nonneg _
      obtain ⟨y, hy, c0⟩ := hby.cell j hlt
      have f0 := hby.free j
      have hs := hby.set j x hx
      have hb2 := hbel.setCell (p := ⟨w.heap.size, j, none⟩) (Nat.le_refl _) (.int .u8 (x : Int))
      clear hby hbel
      go_wp2
      go_roundw
      case rel => exact ⟨j + 1, by go_num, by omega, hs, hb2⟩
      case measure => simp [intOf]; omega
    · have hlt1 : ¬ ((j : Int) < (N : Int)) := by omega
      obtain ⟨L, hL, hc⟩ := hby.list
      have hcv := run_convert_bytes_back (P := Try.prog) wr 22 9 5 ⟨w.heap.size, 0, none⟩ N L Try.underlying22 Try.underlying5 Try.underlying9 (fun i hi => by rw [addr_add]; exact hc i hi)
      rw [hL] at hcv
      clear hby
      go_wp2
      go_ret
      exact ⟨⟨L.toArray⟩, by simp [ByteArray.size, hL], rfl, hbel⟩

end Go.Proofs.Ytbnnmlfammeobaa
