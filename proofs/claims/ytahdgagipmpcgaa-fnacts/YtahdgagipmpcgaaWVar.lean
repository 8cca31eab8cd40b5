/- What the two writers of a number do. -/
import Derived.Test.YtahdgagipmpcgaaRows
import Derived.Test.YtahdgagipmpcgaaWMath
import Derived.Test.YtahdgagipmpcgaaLIn
import Derived.Laws.IdiomStrings
import Derived.OwnWalk
import Derived.WalkKit
import Derived.BigCall
import Derived.WalkSpells
namespace Go.Proofs.Ytahdgagipmpcgaa
set_option maxRecDepth 100000
set_option linter.unusedVariables false
open Go.RowKit

theorem infoByte : (Try.prog.info? 5).map (fun i => (i.zero, i.size, i.bytes)) = some (some (.int .u8 0), 1, 1) := by kernel_rfl

theorem own_empty (w : World) : (w.alloc (.cells #[] 5)).ownsRow w.heap.size 5 1 (.slice (some ⟨w.heap.size, 0, none⟩) 0 0) 0 [] :=
  ⟨rfl, .inr ⟨w.heap.size, 0, #[], rfl, Nat.le_refl _, (MapKept.heap_alloc w _).1, Nat.le_refl _, Nat.zero_le _, rfl, rfl⟩⟩

set_option maxHeartbeats 400000 in
theorem l01Var_calls (N : Nat) (hN : N ≤ 1000000000) (w : World) :
    Calls Try.prog 167 #[.int .i64 N] w fun e w' => e = .returned (.string ⟨(varB N).toArray⟩) ∧ Below w.heap.size w w' := by
  obtain ⟨i0, hi, hz0, hz1, hz2⟩ := info_parts infoByte
  go_enter Try.func167, Try.ntmps167
  go_wp2
  go_loopw [0, 3] (fun x v wr => ∃ (m : Nat) (d : List UInt8), x = .int .i64 m ∧ d.length + m ≤ N ∧ d ++ varB m = varB N ∧ wr.ownsRow w.heap.size 5 1 v d.length (Lib.byteCells d) ∧ Below w.heap.size w wr) (fun x _ _ => (intOf x).toNat)
  case atStart => exact ⟨N, [], rfl, by simp, rfl, own_empty w, (Below.refl _ _).alloc (Nat.le_refl _) _⟩
  case round =>
    obtain ⟨m, d, rfl, hm, hd, hown, hbel⟩ := hrel
    have hsz := hbel.size
    by_cases hlt : m < 128
    · have h127 : (m : Int) ≤ 127 := by omega
      go_wp2_with (at_builtin; refine wpList_append_own _ rfl _ _ 52 rfl w.heap.size 5 i0 (.int .u8 0) 1 1 Try.underlying52 hi hz0 hz1 hz2 rfl (by decide) _ _ _ rfl (hown.alloc _) ⟨wr.heap.size, 0, none⟩ 1 1 [Value.int .u8 (m : Int)] rfl rfl (one_new _ _ _) (by intro u' hu'; simp at hu'; subst hu'; rfl) (by unfold maxLen; omega) (by omega) (by simp; omega) ?_)
      intro v2 w2 hown2 hgrow _
      have hnx2 : Below w.heap.size w w2 := (hbel.alloc (by omega) _).grown hgrow (by simp; omega) (fun k hk => (hown.lt k hk).1)
      have ho := own_snoc (show m < 256 by omega) rfl hown2
      clear hown2 hgrow hown
      have hl : d ++ [UInt8.ofNat m] = varB N := by rw [← hd, varB_small hlt]
      rw [hl] at ho
      have hpos := varB_len N
      clear hl hd
      obtain ⟨L, hL⟩ : ∃ L, L = varB N := ⟨_, rfl⟩
      rw [← hL] at ho hpos
      have HL : Hid (L = varB N) := hL
      clear hL
      rcases ho.2 with ⟨-, h0⟩ | ⟨g, cap, cur, rfl, -, -, -, -, -, -⟩
      · omega
      · have hcv := run_convert_bytes_back (P := Try.prog) w2 52 9 5 ⟨g, 0, none⟩ cap L Try.underlying52 Try.underlying5 Try.underlying9 (fun j hj => ho.cells (g := g) rfl j _ (by simp [Lib.byteCells, hj]))
        go_wp2
        go_ret
        have hL := HL.out
        subst hL
        exact ⟨rfl, hnx2⟩
    · have h127 : (127 : Int) < m := by omega
      go_wp2_with (at_builtin; refine wpList_append_own _ rfl _ _ 52 rfl w.heap.size 5 i0 (.int .u8 0) 1 1 Try.underlying52 hi hz0 hz1 hz2 rfl (by decide) _ _ _ rfl (hown.alloc _) ⟨wr.heap.size, 0, none⟩ 1 1 [Value.int .u8 ((m : Int) % 128 + 128)] rfl rfl (one_new _ _ _) (by intro u' hu'; simp at hu'; subst hu'; rfl) (by unfold maxLen; omega) (by omega) (by simp; omega) ?_)
      intro v2 w2 hown2 hgrow _
      have hnx2 : Below w.heap.size w w2 := (hbel.alloc (by omega) _).grown hgrow (by simp; omega) (fun k hk => (hown.lt k hk).1)
      have ho := own_snoc (show m % 128 + 128 < 256 by omega) (by omega) hown2
      clear hown2 hgrow hown
      have HL : Hid (d ++ [UInt8.ofNat (m % 128 + 128)] ++ varB (m / 128) = varB N) := by show _ = _; rw [← hd, varB_big hlt]; simp
      clear hd
      go_wp2
      go_roundw
      case rel => exact ⟨m / 128, d ++ [UInt8.ofNat (m % 128 + 128)], by go_num, by simp; omega, HL.out, ho, hnx2⟩
      case measure => simp [intOf]; omega

theorem l01Var_int (x : Int) (h0 : 0 ≤ x) (h1 : x ≤ 1000000000) (w : World) :
    Calls Try.prog 167 #[.int .i64 x] w fun e w' => e = .returned (.string ⟨(varB x.toNat).toArray⟩) ∧ Below w.heap.size w w' := by
  obtain ⟨N, rfl⟩ := Int.eq_ofNat_of_zero_le h0
  exact l01Var_calls N (by omega) w

set_option maxHeartbeats 400000 in
theorem implVar_calls (N : Nat) (hN : N ≤ 1000000000) (w : World) :
    Calls Try.prog 161 #[.int .i64 N] w fun e w' => e = .returned (.tuple #[.string ⟨(varB N).toArray⟩, .bool true]) ∧ Below w.heap.size w w' := by
  obtain ⟨i0, hi, hz0, hz1, hz2⟩ := info_parts infoByte
  go_enter Try.func161, Try.ntmps161
  go_wp2_with (at_make; refine wpList_make_own _ rfl _ _ 52 rfl w.heap.size 5 i0 (.int .u8 0) 1 Try.underlying52 hi hz0 hz1 _ _ _ 5 rfl rfl rfl (by rw [hz2]; omega) (by unfold maxLen; omega) (Nat.le_refl _) ?_)
  intro w1 hown1 hgrow1
  have hbel1 : Below w.heap.size w w1 := (Below.refl _ _).grown hgrow1 (Nat.le_refl _) (fun k hk => by cases hk)
  clear hgrow1
  go_wp2
  go_loopw [0, 4] (fun x v wr => ∃ (m : Nat) (d : List UInt8), x = .int .i64 m ∧ d.length + m ≤ N ∧ d ++ varB m = varB N ∧ wr.ownsRow w.heap.size 5 1 v d.length (Lib.byteCells d) ∧ Below w.heap.size w wr) (fun x _ _ => (intOf x).toNat)
  case atStart => exact ⟨N, [], rfl, by simp, rfl, hown1, hbel1⟩
  case round =>
    obtain ⟨m, d, rfl, hm, hd, hown, hbel⟩ := hrel
    have hsz := hbel.size
    by_cases hlt : m < 128
    · have h127 : (m : Int) ≤ 127 := by omega
      go_wp2_with (at_builtin; refine wpList_append_own _ rfl _ _ 52 rfl w.heap.size 5 i0 (.int .u8 0) 1 1 Try.underlying52 hi hz0 hz1 hz2 rfl (by decide) _ _ _ rfl (hown.alloc _) ⟨wr.heap.size, 0, none⟩ 1 1 [Value.int .u8 (m : Int)] rfl rfl (one_new _ _ _) (by intro u' hu'; simp at hu'; subst hu'; rfl) (by unfold maxLen; omega) (by omega) (by simp; omega) ?_)
      intro v2 w2 hown2 hgrow _
      have hnx2 : Below w.heap.size w w2 := (hbel.alloc (by omega) _).grown hgrow (by simp; omega) (fun k hk => (hown.lt k hk).1)
      have ho := own_snoc (show m < 256 by omega) rfl hown2
      clear hown2 hgrow hown
      have hl : d ++ [UInt8.ofNat m] = varB N := by rw [← hd, varB_small hlt]
      rw [hl] at ho
      have hpos := varB_len N
      clear hl hd
      obtain ⟨L, hL⟩ : ∃ L, L = varB N := ⟨_, rfl⟩
      rw [← hL] at ho hpos
      have HL : Hid (L = varB N) := hL
      clear hL
      rcases ho.2 with ⟨-, h0⟩ | ⟨g, cap, cur, rfl, -, -, -, -, -, -⟩
      · omega
      · have hcv := run_convert_bytes_back (P := Try.prog) w2 52 9 5 ⟨g, 0, none⟩ cap L Try.underlying52 Try.underlying5 Try.underlying9 (fun j hj => ho.cells (g := g) rfl j _ (by simp [Lib.byteCells, hj]))
        go_wp2
        go_ret2
        have hL := HL.out
        subst hL
        exact ⟨rfl, hnx2⟩
    · have h127 : (127 : Int) < m := by omega
      go_wp2_with (at_builtin; refine wpList_append_own _ rfl _ _ 52 rfl w.heap.size 5 i0 (.int .u8 0) 1 1 Try.underlying52 hi hz0 hz1 hz2 rfl (by decide) _ _ _ rfl (hown.alloc _) ⟨wr.heap.size, 0, none⟩ 1 1 [Value.int .u8 ((m : Int) % 128 + 128)] rfl rfl (one_new _ _ _) (by intro u' hu'; simp at hu'; subst hu'; rfl) (by unfold maxLen; omega) (by omega) (by simp; omega) ?_)
      intro v2 w2 hown2 hgrow _
      have hnx2 : Below w.heap.size w w2 := (hbel.alloc (by omega) _).grown hgrow (by simp; omega) (fun k hk => (hown.lt k hk).1)
      have ho := own_snoc (show m % 128 + 128 < 256 by omega) (by omega) hown2
      clear hown2 hgrow hown
      have HL : Hid (d ++ [UInt8.ofNat (m % 128 + 128)] ++ varB (m / 128) = varB N) := by show _ = _; rw [← hd, varB_big hlt]; simp
      clear hd
      go_wp2
      go_roundw
      case rel => exact ⟨m / 128, d ++ [UInt8.ofNat (m % 128 + 128)], by go_num, by simp; omega, HL.out, ho, hnx2⟩
      case measure => simp [intOf]; omega

theorem implVar_no (a : Int) (h : a < 0 ∨ 1000000000 < a) (w : World) :
    Calls Try.prog 161 #[.int .i64 a] w fun e w' => e = .returned (.tuple #[.string ByteArray.empty, .bool false]) ∧ w' = w := by
  rcases h with h | h
  · go_enter Try.func161, Try.ntmps161
    go_wp2
    go_ret2
    exact ⟨rfl, rfl⟩
  · have h0 : ¬ a < 0 := by omega
    go_enter Try.func161, Try.ntmps161
    go_wp2
    go_ret2
    exact ⟨rfl, rfl⟩

end Go.Proofs.Ytahdgagipmpcgaa
