/- Marks are written into the parts of a state. -/
import Derived.Test.YtahdgagipmpcgaaTMark1
namespace Go.Proofs.Ytahdgagipmpcgaa
set_option maxRecDepth 100000
set_option linter.unusedVariables false
open Go.RowKit

/-- The marks of Tallys from k on. -/
def mkTa (k n : Nat) : List Ta := (List.range n).map fun (i : Nat) => ⟨mkS ((k : Int) + 3 * (i : Int)), (k : Int) + 3 * (i : Int) + 1, (k : Int) + 3 * (i : Int) + 1 + 1⟩
theorem mkTa_len (k n : Nat) : (mkTa k n).length = n := by simp [mkTa]
theorem mkTa_succ (k n : Nat) : mkTa k (n + 1) = mkTa k n ++ [⟨mkS ((k : Int) + 3 * (n : Int)), (k : Int) + 3 * (n : Int) + 1, (k : Int) + 3 * (n : Int) + 1 + 1⟩] := by simp [mkTa, List.range_succ]
theorem mkTa_set (k j : Nat) (l : List Ta) (h : j < l.length) : (mkTa k j ++ l.drop j).set j ⟨mkS ((k : Int) + 3 * (j : Int)), (k : Int) + 3 * (j : Int) + 1, (k : Int) + 3 * (j : Int) + 1 + 1⟩ = mkTa k (j + 1) ++ l.drop (j + 1) := by
  rw [List.drop_eq_getElem_cons h, List.set_append_right _ _ (by rw [mkTa_len]; exact Nat.le_refl _), mkTa_len, Nat.sub_self, List.set_cons_zero, mkTa_succ, List.append_assoc]
  rfl
theorem mkTa_at (k n j : Nat) (h : j < (mkTa k n).length) : (mkTa k n)[j] = ⟨mkS ((k : Int) + 3 * (j : Int)), (k : Int) + 3 * (j : Int) + 1, (k : Int) + 3 * (j : Int) + 1 + 1⟩ := by simp [mkTa]

set_option maxHeartbeats 4000000 in
theorem markTallys_calls {v : Value} {B k : Nat} {l : List Ta} (hn : l.length ≤ 1048576) (hk1 : 1 ≤ k) (hk2 : k ≤ 1073741824) (w : World) (ho : w.ownsRow B 60 3 v l.length (taV l)) :
    Calls Try.prog 75 #[v, .int .i64 (k : Int)] w fun e w' => e = .returned (.int .i64 ((k : Int) + 3 * (l.length : Int))) ∧ w'.ownsRow B 60 3 v l.length (taV (mkTa k l.length)) ∧ w.grownBy w' v.ownBlock := by
  obtain ⟨n, hl⟩ : ∃ n, n = l.length := ⟨_, rfl⟩
  rw [← hl]
  rw [← hl] at hn ho
  have HL : Hid (n = l.length) := hl
  have hsh : ∃ aa ca, v = .slice aa n ca ∧ (0 < n → ∃ g, aa = some ⟨g, 0, none⟩) := by
    rcases ho.2 with ⟨rfl, h0⟩ | ⟨g, cap, cur, rfl, -⟩
    · exact ⟨none, 0, by rw [h0], fun h => by omega⟩
    · exact ⟨_, _, rfl, fun _ => ⟨g, rfl⟩⟩
  obtain ⟨aa, ca, rfl, ga⟩ := hsh
  have HGA : Hid (0 < n → ∃ g, aa = some ⟨g, 0, none⟩) := ga
  clear ga hl
  go_enter Try.func75, Try.ntmps75
  go_wp2
  go_loopw [1, 5] (fun x z wr => ∃ (j : Nat) (y : Int), j ≤ n ∧ z = .int .i64 j ∧ x = .int .i64 y ∧ y = (k : Int) + 3 * (j : Int) ∧ wr.ownsRow B 60 3 (.slice aa n ca) n (taV (mkTa k j ++ l.drop j)) ∧ w.grownBy wr (Value.slice aa n ca).ownBlock) (fun _ z _ => n - (intOf z).toNat)
  case atStart => exact ⟨0, _, Nat.zero_le _, rfl, rfl, by simp, by simpa [mkTa] using ho, ⟨rfl, rfl, rfl, Nat.le_refl _, fun _ _ _ => rfl⟩⟩
  case round =>
    clear ho
    obtain ⟨j, y, hj, rfl, rfl, hy, hown, hgr⟩ := hrel
    have HY : Hid (y = (k : Int) + 3 * (j : Int)) := hy
    have HO0 := hidI hown
    have HG0 := hidI hgr
    by_cases hlt : j < n
    · obtain ⟨g, rfl⟩ := HGA.out (by omega)
      have hjl : j < l.length := by rw [← HL.out]; exact hlt
      have hj1 : (j : Int) < n := by omega
      have hj0 : (0 : Int) ≤ j := by omega
      have hy0 : 1 ≤ y := by omega
      have hy1 : y ≤ 1099511627000 := by omega
      have hlj : j < (mkTa k j ++ l.drop j).length := by rw [List.length_append, mkTa_len, List.length_drop]; omega
      have HSETS := hidI (ta_sets (mkTa k j ++ l.drop j) j hlj ⟨mkS (y), y + 1, y + 1 + 1⟩)
      have hms := mkTa_set k j l hjl
      rw [← hy] at hms
      rw [hms] at HSETS
      have hat := taV_at (mkTa k j ++ l.drop j) j hlj
      obtain ⟨h0, h1, h2⟩ := hat
      clear hown hgr hy hms hjl
      have wy1 : IntKind.i64.wrap (y + 1) = y + 1 := by rw [IntKind.wrap_i64] <;> omega
      have wy2 : IntKind.i64.wrap (y + 1 + 1) = y + 1 + 1 := by rw [IntKind.wrap_i64] <;> omega
      have ka0 : wr.cell? ⟨g, j * 3, none⟩ = some (.string (mkTa k j ++ l.drop j)[j].o) := by rw [HO0.out.cellAt (j * 3) (by omega)]; (repeat rw [List.getElem?_set_ne (by omega)]); exact h0
      have fa0 := HO0.out.frozenAt (j * 3)
      have ka1 : wr.cell? ⟨g, j * 3 + 1, none⟩ = some (.int .i64 (mkTa k j ++ l.drop j)[j].r) := by rw [HO0.out.cellAt (j * 3 + 1) (by omega)]; (repeat rw [List.getElem?_set_ne (by omega)]); exact h1
      have fa1 := HO0.out.frozenAt (j * 3 + 1)
      have ka2 : wr.cell? ⟨g, j * 3 + 2, none⟩ = some (.int .i64 (mkTa k j ++ l.drop j)[j].n) := by rw [HO0.out.cellAt (j * 3 + 2) (by omega)]; (repeat rw [List.getElem?_set_ne (by omega)]); exact h2
      have fa2 := HO0.out.frozenAt (j * 3 + 2)
      go_wp2_with fail
      clear ka0 fa0 ka1 fa1 ka2 fa2
      refine (markS (y) (by omega) (by omega) _).mono ?_
      rintro e x1 ⟨rfl, hb⟩
      have HO1 : Hid (x1.ownsRow B 60 3 (.slice (some ⟨g, 0, none⟩) n ca) n (taV (mkTa k j ++ l.drop j))) := own_below HO0.out hb
      have HG1 : Hid (w.grownBy x1 (some g)) := grownBy_trans HG0.out (grownBy_below hb _)
      clear hb
      have kc0 : x1.cell? ⟨g, j * 3, none⟩ = some (.string (mkTa k j ++ l.drop j)[j].o) := by rw [HO1.out.cellAt (j * 3) (by omega)]; (repeat rw [List.getElem?_set_ne (by omega)]); exact h0
      have fc0 := HO1.out.frozenAt (j * 3)
      have kc1 : x1.cell? ⟨g, j * 3 + 1, none⟩ = some (.int .i64 (mkTa k j ++ l.drop j)[j].r) := by rw [HO1.out.cellAt (j * 3 + 1) (by omega)]; (repeat rw [List.getElem?_set_ne (by omega)]); exact h1
      have fc1 := HO1.out.frozenAt (j * 3 + 1)
      have kc2 : x1.cell? ⟨g, j * 3 + 2, none⟩ = some (.int .i64 (mkTa k j ++ l.drop j)[j].n) := by rw [HO1.out.cellAt (j * 3 + 2) (by omega)]; (repeat rw [List.getElem?_set_ne (by omega)]); exact h2
      have fc2 := HO1.out.frozenAt (j * 3 + 2)
      have HOZ : Hid ((((x1.setCell ⟨g, j * 3, none⟩ (.string (mkS (y)))).setCell ⟨g, j * 3 + 1, none⟩ (.int .i64 (y + 1))).setCell ⟨g, j * 3 + 2, none⟩ (.int .i64 (y + 1 + 1))).ownsRow B 60 3 (.slice (some ⟨g, 0, none⟩) n ca) n (taV (mkTa k (j + 1) ++ l.drop (j + 1)))) := by
        have := (((HO1.out.stored (j * 3) (.string (mkS (y)))).1.stored (j * 3 + 1) (.int .i64 (y + 1))).1.stored (j * 3 + 2) (.int .i64 (y + 1 + 1))).1
        rw [HSETS.out] at this
        exact this
      have HGZ : Hid (w.grownBy (((x1.setCell ⟨g, j * 3, none⟩ (.string (mkS (y)))).setCell ⟨g, j * 3 + 1, none⟩ (.int .i64 (y + 1))).setCell ⟨g, j * 3 + 2, none⟩ (.int .i64 (y + 1 + 1))) (some g)) := (grownBy_trans (grownBy_trans (grownBy_trans HG1.out (grow_set _ _ _ _)) (grow_set _ _ _ _)) (grow_set _ _ _ _))
      have wyl : IntKind.i64.wrap (y + 1 + 1 + 1) = y + 1 + 1 + 1 := by rw [IntKind.wrap_i64] <;> omega
      clear HSETS
      go_wp2
      go_roundw
      case rel => exact ⟨j + 1, y + 1 + 1 + 1, by omega, by go_num, rfl, by have := HY.out; omega, HOZ.out, HGZ.out⟩
      case measure => simp [intOf]; omega
    · have hj1 : ¬ ((j : Int) < n) := by omega
      have hjn : j = n := by omega
      have HO : Hid (wr.ownsRow B 60 3 (.slice aa n ca) n (taV (mkTa k n)) ∧ w.grownBy wr (Value.slice aa n ca).ownBlock) := by
        refine ⟨?_, hgr⟩
        rw [hjn, List.drop_of_length_le (by rw [← HL.out]; exact Nat.le_refl _), List.append_nil] at hown
        exact hown
      have HR : Hid (y = (k : Int) + 3 * (n : Int)) := by show _ = _; rw [HY.out, hjn]
      clear hown hgr hjn hy HO0 HG0
      go_wp2
      go_ret
      exact ⟨by rw [← HR.out]; rfl, HO.out.1, HO.out.2⟩


end Go.Proofs.Ytahdgagipmpcgaa
