/- Marks are written into the parts of a state. -/
import Derived.Test.YtahdgagipmpcgaaTMark1
namespace Go.Proofs.Ytahdgagipmpcgaa
set_option maxRecDepth 100000
set_option linter.unusedVariables false
open Go.RowKit

/-- The marks of Cells from k on. -/
def mkCe (k n : Nat) : List Ce := (List.range n).map fun (i : Nat) => ⟨mkS ((k : Int) + 8 * (i : Int)), (k : Int) + 8 * (i : Int) + 1, (k : Int) + 8 * (i : Int) + 1 + 1, (k : Int) + 8 * (i : Int) + 1 + 1 + 1, (k : Int) + 8 * (i : Int) + 1 + 1 + 1 + 1, (k : Int) + 8 * (i : Int) + 1 + 1 + 1 + 1 + 1, (k : Int) + 8 * (i : Int) + 1 + 1 + 1 + 1 + 1 + 1, (((k : Int) + 8 * (i : Int) + 1 + 1 + 1 + 1 + 1 + 1 + 1) % 3 == 0)⟩
theorem mkCe_len (k n : Nat) : (mkCe k n).length = n := by simp [mkCe]
theorem mkCe_succ (k n : Nat) : mkCe k (n + 1) = mkCe k n ++ [⟨mkS ((k : Int) + 8 * (n : Int)), (k : Int) + 8 * (n : Int) + 1, (k : Int) + 8 * (n : Int) + 1 + 1, (k : Int) + 8 * (n : Int) + 1 + 1 + 1, (k : Int) + 8 * (n : Int) + 1 + 1 + 1 + 1, (k : Int) + 8 * (n : Int) + 1 + 1 + 1 + 1 + 1, (k : Int) + 8 * (n : Int) + 1 + 1 + 1 + 1 + 1 + 1, (((k : Int) + 8 * (n : Int) + 1 + 1 + 1 + 1 + 1 + 1 + 1) % 3 == 0)⟩] := by simp [mkCe, List.range_succ]
theorem mkCe_set (k j : Nat) (l : List Ce) (h : j < l.length) : (mkCe k j ++ l.drop j).set j ⟨mkS ((k : Int) + 8 * (j : Int)), (k : Int) + 8 * (j : Int) + 1, (k : Int) + 8 * (j : Int) + 1 + 1, (k : Int) + 8 * (j : Int) + 1 + 1 + 1, (k : Int) + 8 * (j : Int) + 1 + 1 + 1 + 1, (k : Int) + 8 * (j : Int) + 1 + 1 + 1 + 1 + 1, (k : Int) + 8 * (j : Int) + 1 + 1 + 1 + 1 + 1 + 1, (((k : Int) + 8 * (j : Int) + 1 + 1 + 1 + 1 + 1 + 1 + 1) % 3 == 0)⟩ = mkCe k (j + 1) ++ l.drop (j + 1) := by
  rw [List.drop_eq_getElem_cons h, List.set_append_right _ _ (by rw [mkCe_len]; exact Nat.le_refl _), mkCe_len, Nat.sub_self, List.set_cons_zero, mkCe_succ, List.append_assoc]
  rfl
theorem mkCe_at (k n j : Nat) (h : j < (mkCe k n).length) : (mkCe k n)[j] = ⟨mkS ((k : Int) + 8 * (j : Int)), (k : Int) + 8 * (j : Int) + 1, (k : Int) + 8 * (j : Int) + 1 + 1, (k : Int) + 8 * (j : Int) + 1 + 1 + 1, (k : Int) + 8 * (j : Int) + 1 + 1 + 1 + 1, (k : Int) + 8 * (j : Int) + 1 + 1 + 1 + 1 + 1, (k : Int) + 8 * (j : Int) + 1 + 1 + 1 + 1 + 1 + 1, (((k : Int) + 8 * (j : Int) + 1 + 1 + 1 + 1 + 1 + 1 + 1) % 3 == 0)⟩ := by simp [mkCe]

set_option maxHeartbeats 4000000 in
theorem markCells_calls {v : Value} {B k : Nat} {l : List Ce} (hn : l.length ≤ 1048576) (hk1 : 1 ≤ k) (hk2 : k ≤ 1073741824) (w : World) (ho : w.ownsRow B 57 8 v l.length (ceV l)) :
    Calls Try.prog 77 #[v, .int .i64 (k : Int)] w fun e w' => e = .returned (.int .i64 ((k : Int) + 8 * (l.length : Int))) ∧ w'.ownsRow B 57 8 v l.length (ceV (mkCe k l.length)) ∧ w.grownBy w' v.ownBlock := by
  obtain ⟨n, hl⟩ : ∃ n, n = l.length := ⟨_, rfl⟩
  rw [← hl]
  rw [← hl] at hn ho
  have HL : Hid (n = l.length) := hl
  have hsh : ∃ aa ca, v = .slice aa n ca ∧ (0 < n → ∃ g, aa = some ⟨g, 0, none⟩) := by
    rcases ho.2 with ⟨rfl, h0⟩ | ⟨g, cap, cur, rfl, -⟩
    · exact ⟨none, 0, by rw [h0], fun h => by omega⟩
    · exact ⟨_, _, rfl, fun _ => ⟨g, rfl⟩⟩
  obtain ⟨aa, ca, rfl, ga⟩ := hsh
  have HGA : Hid (0 < n → ∃ g, aa = some ⟨g, 0, none⟩) := ga
  clear ga hl
  go_enter Try.func77, Try.ntmps77
  go_wp2
  go_loopw [1, 5] (fun x z wr => ∃ (j : Nat) (y : Int), j ≤ n ∧ z = .int .i64 j ∧ x = .int .i64 y ∧ y = (k : Int) + 8 * (j : Int) ∧ wr.ownsRow B 57 8 (.slice aa n ca) n (ceV (mkCe k j ++ l.drop j)) ∧ w.grownBy wr (Value.slice aa n ca).ownBlock) (fun _ z _ => n - (intOf z).toNat)
  case atStart => exact ⟨0, _, Nat.zero_le _, rfl, rfl, by simp, by simpa [mkCe] using ho, ⟨rfl, rfl, rfl, Nat.le_refl _, fun _ _ _ => rfl⟩⟩
  case round =>
    clear ho
    obtain ⟨j, y, hj, rfl, rfl, hy, hown, hgr⟩ := hrel
    have HY : Hid (y = (k : Int) + 8 * (j : Int)) := hy
    have HO0 := hidI hown
    have HG0 := hidI hgr
    by_cases hlt : j < n
    · obtain ⟨g, rfl⟩ := HGA.out (by omega)
      have hjl : j < l.length := by rw [← HL.out]; exact hlt
      have hj1 : (j : Int) < n := by omega
      have hj0 : (0 : Int) ≤ j := by omega
      have hy0 : 1 ≤ y := by omega
      have hy1 : y ≤ 1099511627000 := by omega
      have hlj : j < (mkCe k j ++ l.drop j).length := by rw [List.length_append, mkCe_len, List.length_drop]; omega
      have HSETS := hidI (ce_sets (mkCe k j ++ l.drop j) j hlj ⟨mkS (y), y + 1, y + 1 + 1, y + 1 + 1 + 1, y + 1 + 1 + 1 + 1, y + 1 + 1 + 1 + 1 + 1, y + 1 + 1 + 1 + 1 + 1 + 1, ((y + 1 + 1 + 1 + 1 + 1 + 1 + 1) % 3 == 0)⟩)
      have hms := mkCe_set k j l hjl
      rw [← hy] at hms
      rw [hms] at HSETS
      have hat := ceV_at (mkCe k j ++ l.drop j) j hlj
      obtain ⟨h0, h1, h2, h3, h4, h5, h6, h7⟩ := hat
      clear hown hgr hy hms hjl
      have wy1 : IntKind.i64.wrap (y + 1) = y + 1 := by rw [IntKind.wrap_i64] <;> omega
      have wy2 : IntKind.i64.wrap (y + 1 + 1) = y + 1 + 1 := by rw [IntKind.wrap_i64] <;> omega
      have wy3 : IntKind.i64.wrap (y + 1 + 1 + 1) = y + 1 + 1 + 1 := by rw [IntKind.wrap_i64] <;> omega
      have wy4 : IntKind.i64.wrap (y + 1 + 1 + 1 + 1) = y + 1 + 1 + 1 + 1 := by rw [IntKind.wrap_i64] <;> omega
      have wy5 : IntKind.i64.wrap (y + 1 + 1 + 1 + 1 + 1) = y + 1 + 1 + 1 + 1 + 1 := by rw [IntKind.wrap_i64] <;> omega
      have wy6 : IntKind.i64.wrap (y + 1 + 1 + 1 + 1 + 1 + 1) = y + 1 + 1 + 1 + 1 + 1 + 1 := by rw [IntKind.wrap_i64] <;> omega
      have wy7 : IntKind.i64.wrap (y + 1 + 1 + 1 + 1 + 1 + 1 + 1) = y + 1 + 1 + 1 + 1 + 1 + 1 + 1 := by rw [IntKind.wrap_i64] <;> omega
      have ka0 : wr.cell? ⟨g, j * 8, none⟩ = some (.string (mkCe k j ++ l.drop j)[j].o) := by rw [HO0.out.cellAt (j * 8) (by omega)]; (repeat rw [List.getElem?_set_ne (by omega)]); exact h0
      have fa0 := HO0.out.frozenAt (j * 8)
      have ka1 : wr.cell? ⟨g, j * 8 + 1, none⟩ = some (.int .i64 (mkCe k j ++ l.drop j)[j].r) := by rw [HO0.out.cellAt (j * 8 + 1) (by omega)]; (repeat rw [List.getElem?_set_ne (by omega)]); exact h1
      have fa1 := HO0.out.frozenAt (j * 8 + 1)
      have ka2 : wr.cell? ⟨g, j * 8 + 2, none⟩ = some (.int .i64 (mkCe k j ++ l.drop j)[j].s) := by rw [HO0.out.cellAt (j * 8 + 2) (by omega)]; (repeat rw [List.getElem?_set_ne (by omega)]); exact h2
      have fa2 := HO0.out.frozenAt (j * 8 + 2)
      have ka3 : wr.cell? ⟨g, j * 8 + 3, none⟩ = some (.int .i64 (mkCe k j ++ l.drop j)[j].t) := by rw [HO0.out.cellAt (j * 8 + 3) (by omega)]; (repeat rw [List.getElem?_set_ne (by omega)]); exact h3
      have fa3 := HO0.out.frozenAt (j * 8 + 3)
      have ka4 : wr.cell? ⟨g, j * 8 + 4, none⟩ = some (.int .i64 (mkCe k j ++ l.drop j)[j].x) := by rw [HO0.out.cellAt (j * 8 + 4) (by omega)]; (repeat rw [List.getElem?_set_ne (by omega)]); exact h4
      have fa4 := HO0.out.frozenAt (j * 8 + 4)
      have ka5 : wr.cell? ⟨g, j * 8 + 5, none⟩ = some (.int .i64 (mkCe k j ++ l.drop j)[j].z) := by rw [HO0.out.cellAt (j * 8 + 5) (by omega)]; (repeat rw [List.getElem?_set_ne (by omega)]); exact h5
      have fa5 := HO0.out.frozenAt (j * 8 + 5)
      have ka6 : wr.cell? ⟨g, j * 8 + 6, none⟩ = some (.int .i64 (mkCe k j ++ l.drop j)[j].v) := by rw [HO0.out.cellAt (j * 8 + 6) (by omega)]; (repeat rw [List.getElem?_set_ne (by omega)]); exact h6
      have fa6 := HO0.out.frozenAt (j * 8 + 6)
      have ka7 : wr.cell? ⟨g, j * 8 + 7, none⟩ = some (.bool (mkCe k j ++ l.drop j)[j].g) := by rw [HO0.out.cellAt (j * 8 + 7) (by omega)]; (repeat rw [List.getElem?_set_ne (by omega)]); exact h7
      have fa7 := HO0.out.frozenAt (j * 8 + 7)
      go_wp2_with fail
      clear ka0 fa0 ka1 fa1 ka2 fa2 ka3 fa3 ka4 fa4 ka5 fa5 ka6 fa6 ka7 fa7
      refine (markS (y) (by omega) (by omega) _).mono ?_
      rintro e x1 ⟨rfl, hb⟩
      have HO1 : Hid (x1.ownsRow B 57 8 (.slice (some ⟨g, 0, none⟩) n ca) n (ceV (mkCe k j ++ l.drop j))) := own_below HO0.out hb
      have HG1 : Hid (w.grownBy x1 (some g)) := grownBy_trans HG0.out (grownBy_below hb _)
      clear hb
      have kc0 : x1.cell? ⟨g, j * 8, none⟩ = some (.string (mkCe k j ++ l.drop j)[j].o) := by rw [HO1.out.cellAt (j * 8) (by omega)]; (repeat rw [List.getElem?_set_ne (by omega)]); exact h0
      have fc0 := HO1.out.frozenAt (j * 8)
      have kc1 : x1.cell? ⟨g, j * 8 + 1, none⟩ = some (.int .i64 (mkCe k j ++ l.drop j)[j].r) := by rw [HO1.out.cellAt (j * 8 + 1) (by omega)]; (repeat rw [List.getElem?_set_ne (by omega)]); exact h1
      have fc1 := HO1.out.frozenAt (j * 8 + 1)
      have kc2 : x1.cell? ⟨g, j * 8 + 2, none⟩ = some (.int .i64 (mkCe k j ++ l.drop j)[j].s) := by rw [HO1.out.cellAt (j * 8 + 2) (by omega)]; (repeat rw [List.getElem?_set_ne (by omega)]); exact h2
      have fc2 := HO1.out.frozenAt (j * 8 + 2)
      have kc3 : x1.cell? ⟨g, j * 8 + 3, none⟩ = some (.int .i64 (mkCe k j ++ l.drop j)[j].t) := by rw [HO1.out.cellAt (j * 8 + 3) (by omega)]; (repeat rw [List.getElem?_set_ne (by omega)]); exact h3
      have fc3 := HO1.out.frozenAt (j * 8 + 3)
      have kc4 : x1.cell? ⟨g, j * 8 + 4, none⟩ = some (.int .i64 (mkCe k j ++ l.drop j)[j].x) := by rw [HO1.out.cellAt (j * 8 + 4) (by omega)]; (repeat rw [List.getElem?_set_ne (by omega)]); exact h4
      have fc4 := HO1.out.frozenAt (j * 8 + 4)
      have kc5 : x1.cell? ⟨g, j * 8 + 5, none⟩ = some (.int .i64 (mkCe k j ++ l.drop j)[j].z) := by rw [HO1.out.cellAt (j * 8 + 5) (by omega)]; (repeat rw [List.getElem?_set_ne (by omega)]); exact h5
      have fc5 := HO1.out.frozenAt (j * 8 + 5)
      have kc6 : x1.cell? ⟨g, j * 8 + 6, none⟩ = some (.int .i64 (mkCe k j ++ l.drop j)[j].v) := by rw [HO1.out.cellAt (j * 8 + 6) (by omega)]; (repeat rw [List.getElem?_set_ne (by omega)]); exact h6
      have fc6 := HO1.out.frozenAt (j * 8 + 6)
      have kc7 : x1.cell? ⟨g, j * 8 + 7, none⟩ = some (.bool (mkCe k j ++ l.drop j)[j].g) := by rw [HO1.out.cellAt (j * 8 + 7) (by omega)]; (repeat rw [List.getElem?_set_ne (by omega)]); exact h7
      have fc7 := HO1.out.frozenAt (j * 8 + 7)
      have HOZ : Hid (((((((((x1.setCell ⟨g, j * 8, none⟩ (.string (mkS (y)))).setCell ⟨g, j * 8 + 1, none⟩ (.int .i64 (y + 1))).setCell ⟨g, j * 8 + 2, none⟩ (.int .i64 (y + 1 + 1))).setCell ⟨g, j * 8 + 3, none⟩ (.int .i64 (y + 1 + 1 + 1))).setCell ⟨g, j * 8 + 4, none⟩ (.int .i64 (y + 1 + 1 + 1 + 1))).setCell ⟨g, j * 8 + 5, none⟩ (.int .i64 (y + 1 + 1 + 1 + 1 + 1))).setCell ⟨g, j * 8 + 6, none⟩ (.int .i64 (y + 1 + 1 + 1 + 1 + 1 + 1))).setCell ⟨g, j * 8 + 7, none⟩ (.bool (((y + 1 + 1 + 1 + 1 + 1 + 1 + 1) % 3 == 0)))).ownsRow B 57 8 (.slice (some ⟨g, 0, none⟩) n ca) n (ceV (mkCe k (j + 1) ++ l.drop (j + 1)))) := by
        have := ((((((((HO1.out.stored (j * 8) (.string (mkS (y)))).1.stored (j * 8 + 1) (.int .i64 (y + 1))).1.stored (j * 8 + 2) (.int .i64 (y + 1 + 1))).1.stored (j * 8 + 3) (.int .i64 (y + 1 + 1 + 1))).1.stored (j * 8 + 4) (.int .i64 (y + 1 + 1 + 1 + 1))).1.stored (j * 8 + 5) (.int .i64 (y + 1 + 1 + 1 + 1 + 1))).1.stored (j * 8 + 6) (.int .i64 (y + 1 + 1 + 1 + 1 + 1 + 1))).1.stored (j * 8 + 7) (.bool (((y + 1 + 1 + 1 + 1 + 1 + 1 + 1) % 3 == 0)))).1
        rw [HSETS.out] at this
        exact this
      have HGZ : Hid (w.grownBy ((((((((x1.setCell ⟨g, j * 8, none⟩ (.string (mkS (y)))).setCell ⟨g, j * 8 + 1, none⟩ (.int .i64 (y + 1))).setCell ⟨g, j * 8 + 2, none⟩ (.int .i64 (y + 1 + 1))).setCell ⟨g, j * 8 + 3, none⟩ (.int .i64 (y + 1 + 1 + 1))).setCell ⟨g, j * 8 + 4, none⟩ (.int .i64 (y + 1 + 1 + 1 + 1))).setCell ⟨g, j * 8 + 5, none⟩ (.int .i64 (y + 1 + 1 + 1 + 1 + 1))).setCell ⟨g, j * 8 + 6, none⟩ (.int .i64 (y + 1 + 1 + 1 + 1 + 1 + 1))).setCell ⟨g, j * 8 + 7, none⟩ (.bool (((y + 1 + 1 + 1 + 1 + 1 + 1 + 1) % 3 == 0)))) (some g)) := (grownBy_trans (grownBy_trans (grownBy_trans (grownBy_trans (grownBy_trans (grownBy_trans (grownBy_trans (grownBy_trans HG1.out (grow_set _ _ _ _)) (grow_set _ _ _ _)) (grow_set _ _ _ _)) (grow_set _ _ _ _)) (grow_set _ _ _ _)) (grow_set _ _ _ _)) (grow_set _ _ _ _)) (grow_set _ _ _ _))
      have wyl : IntKind.i64.wrap (y + 1 + 1 + 1 + 1 + 1 + 1 + 1 + 1) = y + 1 + 1 + 1 + 1 + 1 + 1 + 1 + 1 := by rw [IntKind.wrap_i64] <;> omega
      clear HSETS
      go_wp2
      go_roundw
      case rel => exact ⟨j + 1, y + 1 + 1 + 1 + 1 + 1 + 1 + 1 + 1, by omega, by go_num, rfl, by have := HY.out; omega, HOZ.out, HGZ.out⟩
      case measure => simp [intOf]; omega
    · have hj1 : ¬ ((j : Int) < n) := by omega
      have hjn : j = n := by omega
      have HO : Hid (wr.ownsRow B 57 8 (.slice aa n ca) n (ceV (mkCe k n)) ∧ w.grownBy wr (Value.slice aa n ca).ownBlock) := by
        refine ⟨?_, hgr⟩
        rw [hjn, List.drop_of_length_le (by rw [← HL.out]; exact Nat.le_refl _), List.append_nil] at hown
        exact hown
      have HR : Hid (y = (k : Int) + 8 * (n : Int)) := by show _ = _; rw [HY.out, hjn]
      clear hown hgr hjn hy HO0 HG0
      go_wp2
      go_ret
      exact ⟨by rw [← HR.out]; rfl, HO.out.1, HO.out.2⟩


end Go.Proofs.Ytahdgagipmpcgaa
