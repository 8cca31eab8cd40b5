/- Marks are written into the parts of a state. -/
import Derived.Test.YtahdgagipmpcgaaTMark1
namespace Go.Proofs.Ytahdgagipmpcgaa
set_option maxRecDepth 100000
set_option linter.unusedVariables false
open Go.RowKit

/-- The marks of Lives from k on. -/
def mkLi (k n : Nat) : List Li := (List.range n).map fun (i : Nat) => ⟨(((k : Int) + 6 * (i : Int)) % 3 == 0), mkS ((k : Int) + 6 * (i : Int) + 1), mkS ((k : Int) + 6 * (i : Int) + 1 + 1), (k : Int) + 6 * (i : Int) + 1 + 1 + 1, (k : Int) + 6 * (i : Int) + 1 + 1 + 1 + 1, (k : Int) + 6 * (i : Int) + 1 + 1 + 1 + 1 + 1⟩
theorem mkLi_len (k n : Nat) : (mkLi k n).length = n := by simp [mkLi]
theorem mkLi_succ (k n : Nat) : mkLi k (n + 1) = mkLi k n ++ [⟨(((k : Int) + 6 * (n : Int)) % 3 == 0), mkS ((k : Int) + 6 * (n : Int) + 1), mkS ((k : Int) + 6 * (n : Int) + 1 + 1), (k : Int) + 6 * (n : Int) + 1 + 1 + 1, (k : Int) + 6 * (n : Int) + 1 + 1 + 1 + 1, (k : Int) + 6 * (n : Int) + 1 + 1 + 1 + 1 + 1⟩] := by simp [mkLi, List.range_succ]
theorem mkLi_set (k j : Nat) (l : List Li) (h : j < l.length) : (mkLi k j ++ l.drop j).set j ⟨(((k : Int) + 6 * (j : Int)) % 3 == 0), mkS ((k : Int) + 6 * (j : Int) + 1), mkS ((k : Int) + 6 * (j : Int) + 1 + 1), (k : Int) + 6 * (j : Int) + 1 + 1 + 1, (k : Int) + 6 * (j : Int) + 1 + 1 + 1 + 1, (k : Int) + 6 * (j : Int) + 1 + 1 + 1 + 1 + 1⟩ = mkLi k (j + 1) ++ l.drop (j + 1) := by
  rw [List.drop_eq_getElem_cons h, List.set_append_right _ _ (by rw [mkLi_len]; exact Nat.le_refl _), mkLi_len, Nat.sub_self, List.set_cons_zero, mkLi_succ, List.append_assoc]
  rfl
theorem mkLi_at (k n j : Nat) (h : j < (mkLi k n).length) : (mkLi k n)[j] = ⟨(((k : Int) + 6 * (j : Int)) % 3 == 0), mkS ((k : Int) + 6 * (j : Int) + 1), mkS ((k : Int) + 6 * (j : Int) + 1 + 1), (k : Int) + 6 * (j : Int) + 1 + 1 + 1, (k : Int) + 6 * (j : Int) + 1 + 1 + 1 + 1, (k : Int) + 6 * (j : Int) + 1 + 1 + 1 + 1 + 1⟩ := by simp [mkLi]

set_option maxHeartbeats 4000000 in
theorem markLives_calls {v : Value} {B k : Nat} {l : List Li} (hn : l.length ≤ 1048576) (hk1 : 1 ≤ k) (hk2 : k ≤ 1073741824) (w : World) (ho : w.ownsRow B 62 6 v l.length (liV l)) :
    Calls Try.prog 76 #[v, .int .i64 (k : Int)] w fun e w' => e = .returned (.int .i64 ((k : Int) + 6 * (l.length : Int))) ∧ w'.ownsRow B 62 6 v l.length (liV (mkLi k l.length)) ∧ w.grownBy w' v.ownBlock := by
  obtain ⟨n, hl⟩ : ∃ n, n = l.length := ⟨_, rfl⟩
  rw [← hl]
  rw [← hl] at hn ho
  have HL : Hid (n = l.length) := hl
  have hsh : ∃ aa ca, v = .slice aa n ca ∧ (0 < n → ∃ g, aa = some ⟨g, 0, none⟩) := by
    rcases ho.2 with ⟨rfl, h0⟩ | ⟨g, cap, cur, rfl, -⟩
    · exact ⟨none, 0, by rw [h0], fun h => by omega⟩
    · exact ⟨_, _, rfl, fun _ => ⟨g, rfl⟩⟩
  obtain ⟨aa, ca, rfl, ga⟩ := hsh
  have HGA : Hid (0 < n → ∃ g, aa = some ⟨g, 0, none⟩) := ga
  clear ga hl
  go_enter Try.func76, Try.ntmps76
  go_wp2
  go_loopw [1, 5] (fun x z wr => ∃ (j : Nat) (y : Int), j ≤ n ∧ z = .int .i64 j ∧ x = .int .i64 y ∧ y = (k : Int) + 6 * (j : Int) ∧ wr.ownsRow B 62 6 (.slice aa n ca) n (liV (mkLi k j ++ l.drop j)) ∧ w.grownBy wr (Value.slice aa n ca).ownBlock) (fun _ z _ => n - (intOf z).toNat)
  case atStart => exact ⟨0, _, Nat.zero_le _, rfl, rfl, by simp, by simpa [mkLi] using ho, ⟨rfl, rfl, rfl, Nat.le_refl _, fun _ _ _ => rfl⟩⟩
  case round =>
    clear ho
    obtain ⟨j, y, hj, rfl, rfl, hy, hown, hgr⟩ := hrel
    have HY : Hid (y = (k : Int) + 6 * (j : Int)) := hy
    have HO0 := hidI hown
    have HG0 := hidI hgr
    by_cases hlt : j < n
    · obtain ⟨g, rfl⟩ := HGA.out (by omega)
      have hjl : j < l.length := by rw [← HL.out]; exact hlt
      have hj1 : (j : Int) < n := by omega
      have hj0 : (0 : Int) ≤ j := by omega
      have hy0 : 1 ≤ y := by omega
      have hy1 : y ≤ 1099511627000 := by omega
      have hlj : j < (mkLi k j ++ l.drop j).length := by rw [List.length_append, mkLi_len, List.length_drop]; omega
      have HSETS := hidI (li_sets (mkLi k j ++ l.drop j) j hlj ⟨((y) % 3 == 0), mkS (y + 1), mkS (y + 1 + 1), y + 1 + 1 + 1, y + 1 + 1 + 1 + 1, y + 1 + 1 + 1 + 1 + 1⟩)
      have hms := mkLi_set k j l hjl
      rw [← hy] at hms
      rw [hms] at HSETS
      have hat := liV_at (mkLi k j ++ l.drop j) j hlj
      obtain ⟨h0, h1, h2, h3, h4, h5⟩ := hat
      clear hown hgr hy hms hjl
      have wy1 : IntKind.i64.wrap (y + 1) = y + 1 := by rw [IntKind.wrap_i64] <;> omega
      have wy2 : IntKind.i64.wrap (y + 1 + 1) = y + 1 + 1 := by rw [IntKind.wrap_i64] <;> omega
      have wy3 : IntKind.i64.wrap (y + 1 + 1 + 1) = y + 1 + 1 + 1 := by rw [IntKind.wrap_i64] <;> omega
      have wy4 : IntKind.i64.wrap (y + 1 + 1 + 1 + 1) = y + 1 + 1 + 1 + 1 := by rw [IntKind.wrap_i64] <;> omega
      have wy5 : IntKind.i64.wrap (y + 1 + 1 + 1 + 1 + 1) = y + 1 + 1 + 1 + 1 + 1 := by rw [IntKind.wrap_i64] <;> omega
      have ka0 : wr.cell? ⟨g, j * 6, none⟩ = some (.bool (mkLi k j ++ l.drop j)[j].m) := by rw [HO0.out.cellAt (j * 6) (by omega)]; (repeat rw [List.getElem?_set_ne (by omega)]); exact h0
      have fa0 := HO0.out.frozenAt (j * 6)
      have ka1 : wr.cell? ⟨g, j * 6 + 1, none⟩ = some (.string (mkLi k j ++ l.drop j)[j].o) := by rw [HO0.out.cellAt (j * 6 + 1) (by omega)]; (repeat rw [List.getElem?_set_ne (by omega)]); exact h1
      have fa1 := HO0.out.frozenAt (j * 6 + 1)
      have ka2 : wr.cell? ⟨g, j * 6 + 2, none⟩ = some (.string (mkLi k j ++ l.drop j)[j].y) := by rw [HO0.out.cellAt (j * 6 + 2) (by omega)]; (repeat rw [List.getElem?_set_ne (by omega)]); exact h2
      have fa2 := HO0.out.frozenAt (j * 6 + 2)
      have ka3 : wr.cell? ⟨g, j * 6 + 3, none⟩ = some (.int .i64 (mkLi k j ++ l.drop j)[j].v) := by rw [HO0.out.cellAt (j * 6 + 3) (by omega)]; (repeat rw [List.getElem?_set_ne (by omega)]); exact h3
      have fa3 := HO0.out.frozenAt (j * 6 + 3)
      have ka4 : wr.cell? ⟨g, j * 6 + 4, none⟩ = some (.int .i64 (mkLi k j ++ l.drop j)[j].r) := by rw [HO0.out.cellAt (j * 6 + 4) (by omega)]; (repeat rw [List.getElem?_set_ne (by omega)]); exact h4
      have fa4 := HO0.out.frozenAt (j * 6 + 4)
      have ka5 : wr.cell? ⟨g, j * 6 + 5, none⟩ = some (.int .i64 (mkLi k j ++ l.drop j)[j].s) := by rw [HO0.out.cellAt (j * 6 + 5) (by omega)]; (repeat rw [List.getElem?_set_ne (by omega)]); exact h5
      have fa5 := HO0.out.frozenAt (j * 6 + 5)
      obtain ⟨X1, hX1⟩ : ∃ X, X = wr.setCell ⟨g, j * 6, none⟩ (.bool (((y) % 3 == 0))) := ⟨_, rfl⟩
      have HO1 : Hid (X1.ownsRow B 62 6 (.slice (some ⟨g, 0, none⟩) n ca) n ((liV (mkLi k j ++ l.drop j)).set (j * 6) (.bool (((y) % 3 == 0))))) := by rw [hX1]; exact (HO0.out.stored (j * 6) (.bool (((y) % 3 == 0)))).1
      have HG1 : Hid (w.grownBy X1 (some g)) := by rw [hX1]; exact (grownBy_trans HG0.out (grow_set _ _ _ _))
      have HX1 : Hid (wr.setCell ⟨g, j * 6, none⟩ (.bool (((y) % 3 == 0))) = X1) := hX1.symm
      clear hX1
      go_wp2_with fail
      rw [HX1.out]
      clear ka0 fa0 ka1 fa1 ka2 fa2 ka3 fa3 ka4 fa4 ka5 fa5 HX1
      refine (markS (y + 1) (by omega) (by omega) _).mono ?_
      rintro e x2 ⟨rfl, hb⟩
      have HO2 : Hid (x2.ownsRow B 62 6 (.slice (some ⟨g, 0, none⟩) n ca) n ((liV (mkLi k j ++ l.drop j)).set (j * 6) (.bool (((y) % 3 == 0))))) := own_below HO1.out hb
      have HG2 : Hid (w.grownBy x2 (some g)) := grownBy_trans HG1.out (grownBy_below hb _)
      clear hb
      have kd1 : x2.cell? ⟨g, j * 6 + 1, none⟩ = some (.string (mkLi k j ++ l.drop j)[j].o) := by rw [HO2.out.cellAt (j * 6 + 1) (by omega)]; (repeat rw [List.getElem?_set_ne (by omega)]); exact h1
      have fd1 := HO2.out.frozenAt (j * 6 + 1)
      have kd2 : x2.cell? ⟨g, j * 6 + 2, none⟩ = some (.string (mkLi k j ++ l.drop j)[j].y) := by rw [HO2.out.cellAt (j * 6 + 2) (by omega)]; (repeat rw [List.getElem?_set_ne (by omega)]); exact h2
      have fd2 := HO2.out.frozenAt (j * 6 + 2)
      have kd3 : x2.cell? ⟨g, j * 6 + 3, none⟩ = some (.int .i64 (mkLi k j ++ l.drop j)[j].v) := by rw [HO2.out.cellAt (j * 6 + 3) (by omega)]; (repeat rw [List.getElem?_set_ne (by omega)]); exact h3
      have fd3 := HO2.out.frozenAt (j * 6 + 3)
      have kd4 : x2.cell? ⟨g, j * 6 + 4, none⟩ = some (.int .i64 (mkLi k j ++ l.drop j)[j].r) := by rw [HO2.out.cellAt (j * 6 + 4) (by omega)]; (repeat rw [List.getElem?_set_ne (by omega)]); exact h4
      have fd4 := HO2.out.frozenAt (j * 6 + 4)
      have kd5 : x2.cell? ⟨g, j * 6 + 5, none⟩ = some (.int .i64 (mkLi k j ++ l.drop j)[j].s) := by rw [HO2.out.cellAt (j * 6 + 5) (by omega)]; (repeat rw [List.getElem?_set_ne (by omega)]); exact h5
      have fd5 := HO2.out.frozenAt (j * 6 + 5)
      obtain ⟨X3, hX3⟩ : ∃ X, X = x2.setCell ⟨g, j * 6 + 1, none⟩ (.string (mkS (y + 1))) := ⟨_, rfl⟩
      have HO3 : Hid (X3.ownsRow B 62 6 (.slice (some ⟨g, 0, none⟩) n ca) n (((liV (mkLi k j ++ l.drop j)).set (j * 6) (.bool (((y) % 3 == 0)))).set (j * 6 + 1) (.string (mkS (y + 1))))) := by rw [hX3]; exact (HO2.out.stored (j * 6 + 1) (.string (mkS (y + 1)))).1
      have HG3 : Hid (w.grownBy X3 (some g)) := by rw [hX3]; exact (grownBy_trans HG2.out (grow_set _ _ _ _))
      have HX3 : Hid (x2.setCell ⟨g, j * 6 + 1, none⟩ (.string (mkS (y + 1))) = X3) := hX3.symm
      clear hX3
      go_wp2_with fail
      rw [HX3.out]
      clear kd1 fd1 kd2 fd2 kd3 fd3 kd4 fd4 kd5 fd5 HX3
      refine (markS (y + 1 + 1) (by omega) (by omega) _).mono ?_
      rintro e x4 ⟨rfl, hb⟩
      have HO4 : Hid (x4.ownsRow B 62 6 (.slice (some ⟨g, 0, none⟩) n ca) n (((liV (mkLi k j ++ l.drop j)).set (j * 6) (.bool (((y) % 3 == 0)))).set (j * 6 + 1) (.string (mkS (y + 1))))) := own_below HO3.out hb
      have HG4 : Hid (w.grownBy x4 (some g)) := grownBy_trans HG3.out (grownBy_below hb _)
      clear hb
      have kf2 : x4.cell? ⟨g, j * 6 + 2, none⟩ = some (.string (mkLi k j ++ l.drop j)[j].y) := by rw [HO4.out.cellAt (j * 6 + 2) (by omega)]; (repeat rw [List.getElem?_set_ne (by omega)]); exact h2
      have ff2 := HO4.out.frozenAt (j * 6 + 2)
      have kf3 : x4.cell? ⟨g, j * 6 + 3, none⟩ = some (.int .i64 (mkLi k j ++ l.drop j)[j].v) := by rw [HO4.out.cellAt (j * 6 + 3) (by omega)]; (repeat rw [List.getElem?_set_ne (by omega)]); exact h3
      have ff3 := HO4.out.frozenAt (j * 6 + 3)
      have kf4 : x4.cell? ⟨g, j * 6 + 4, none⟩ = some (.int .i64 (mkLi k j ++ l.drop j)[j].r) := by rw [HO4.out.cellAt (j * 6 + 4) (by omega)]; (repeat rw [List.getElem?_set_ne (by omega)]); exact h4
      have ff4 := HO4.out.frozenAt (j * 6 + 4)
      have kf5 : x4.cell? ⟨g, j * 6 + 5, none⟩ = some (.int .i64 (mkLi k j ++ l.drop j)[j].s) := by rw [HO4.out.cellAt (j * 6 + 5) (by omega)]; (repeat rw [List.getElem?_set_ne (by omega)]); exact h5
      have ff5 := HO4.out.frozenAt (j * 6 + 5)
      have HOZ : Hid (((((x4.setCell ⟨g, j * 6 + 2, none⟩ (.string (mkS (y + 1 + 1)))).setCell ⟨g, j * 6 + 3, none⟩ (.int .i64 (y + 1 + 1 + 1))).setCell ⟨g, j * 6 + 4, none⟩ (.int .i64 (y + 1 + 1 + 1 + 1))).setCell ⟨g, j * 6 + 5, none⟩ (.int .i64 (y + 1 + 1 + 1 + 1 + 1))).ownsRow B 62 6 (.slice (some ⟨g, 0, none⟩) n ca) n (liV (mkLi k (j + 1) ++ l.drop (j + 1)))) := by
        have := ((((HO4.out.stored (j * 6 + 2) (.string (mkS (y + 1 + 1)))).1.stored (j * 6 + 3) (.int .i64 (y + 1 + 1 + 1))).1.stored (j * 6 + 4) (.int .i64 (y + 1 + 1 + 1 + 1))).1.stored (j * 6 + 5) (.int .i64 (y + 1 + 1 + 1 + 1 + 1))).1
        rw [HSETS.out] at this
        exact this
      have HGZ : Hid (w.grownBy ((((x4.setCell ⟨g, j * 6 + 2, none⟩ (.string (mkS (y + 1 + 1)))).setCell ⟨g, j * 6 + 3, none⟩ (.int .i64 (y + 1 + 1 + 1))).setCell ⟨g, j * 6 + 4, none⟩ (.int .i64 (y + 1 + 1 + 1 + 1))).setCell ⟨g, j * 6 + 5, none⟩ (.int .i64 (y + 1 + 1 + 1 + 1 + 1))) (some g)) := (grownBy_trans (grownBy_trans (grownBy_trans (grownBy_trans HG4.out (grow_set _ _ _ _)) (grow_set _ _ _ _)) (grow_set _ _ _ _)) (grow_set _ _ _ _))
      have wyl : IntKind.i64.wrap (y + 1 + 1 + 1 + 1 + 1 + 1) = y + 1 + 1 + 1 + 1 + 1 + 1 := by rw [IntKind.wrap_i64] <;> omega
      clear HSETS
      go_wp2
      go_roundw
      case rel => exact ⟨j + 1, y + 1 + 1 + 1 + 1 + 1 + 1, by omega, by go_num, rfl, by have := HY.out; omega, HOZ.out, HGZ.out⟩
      case measure => simp [intOf]; omega
    · have hj1 : ¬ ((j : Int) < n) := by omega
      have hjn : j = n := by omega
      have HO : Hid (wr.ownsRow B 62 6 (.slice aa n ca) n (liV (mkLi k n)) ∧ w.grownBy wr (Value.slice aa n ca).ownBlock) := by
        refine ⟨?_, hgr⟩
        rw [hjn, List.drop_of_length_le (by rw [← HL.out]; exact Nat.le_refl _), List.append_nil] at hown
        exact hown
      have HR : Hid (y = (k : Int) + 6 * (n : Int)) := by show _ = _; rw [HY.out, hjn]
      clear hown hgr hjn hy HO0 HG0
      go_wp2
      go_ret
      exact ⟨by rw [← HR.out]; rfl, HO.out.1, HO.out.2⟩


end Go.Proofs.Ytahdgagipmpcgaa
