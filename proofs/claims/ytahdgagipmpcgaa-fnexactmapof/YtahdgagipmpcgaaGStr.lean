/- What the laws' own helpers on lists of texts do: they hold two lists against each other, write marks into one, and look whether they stand. -/
import Derived.Test.YtahdgagipmpcgaaTMark
import Derived.Deep.RegionHeld3
import Derived.Deep.QuietTactic
import Derived.BigQuiet
import Derived.WalkMore
import Derived.Deep.LoopGhost
namespace Go.Proofs.Ytahdgagipmpcgaa
set_option maxRecDepth 100000
set_option linter.unusedVariables false
open Go.RowKit

/-- The cells of texts. -/
def strC (l : List (List UInt8)) : List Value := l.map fun x => Value.string ⟨x.toArray⟩
theorem strC_len (l : List (List UInt8)) : (strC l).length = l.length := by simp [strC]
theorem strC_at (l : List (List UInt8)) (j : Nat) (h : j < l.length) : (strC l)[j]? = some (Value.string ⟨(l[j]).toArray⟩) := by simp [strC, h]

/-- The shape of an owned slice, and where its cells lie. -/
def OwnAt (w : World) (B n : Nat) (aa : Option Addr) (xs : List Value) : Prop :=
  0 < n → ∃ g, aa = some ⟨g, 0, none⟩ ∧ B ≤ g ∧ g < w.heap.size ∧ (∀ j u, xs[j]? = some u → w.cell? ⟨g, j, none⟩ = some u)
theorem own_shape {w : World} {B n : Nat} {e : TypeId} {v : Value} {xs : List Value} (h : w.ownsRow B e 1 v n xs) : ∃ (aa : Option Addr) (ca : Nat), v = .slice aa n ca ∧ OwnAt w B n aa xs := by
  rcases h.2 with ⟨rfl, rfl⟩ | ⟨g, cap, cur, rfl, hb, hg, -, -, -, -⟩
  · exact ⟨none, 0, rfl, fun h => absurd h (by omega)⟩
  · refine ⟨_, _, rfl, fun _ => ⟨g, rfl, hb, (Array.getElem?_eq_some_iff.1 hg).1, fun j u hu => ?_⟩⟩
    have := h.cells (g := g) rfl j u hu
    rwa [addr_add] at this

set_option maxHeartbeats 1000000 in
/-- Two lists of the same texts are held alike. -/
theorem eqS_calls {va vb : Value} {Ba Bb n : Nat} {l : List (List UInt8)} (hl : l.length = n) (hn : n ≤ 1048576) (w : World) (ha : w.ownsRow Ba 9 1 va n (strC l)) (hb : w.ownsRow Bb 9 1 vb n (strC l)) :
    Calls Try.prog 13 #[va, vb] w fun e w' => e = .returned (.bool true) ∧ Below w.heap.size w w' := by
  obtain ⟨aa, ca, rfl, ga⟩ := own_shape ha
  obtain ⟨ab, cb, rfl, gb⟩ := own_shape hb
  have HGA : Hid (OwnAt w Ba n aa (strC l)) := ga
  have HGB : Hid (OwnAt w Bb n ab (strC l)) := gb
  have HL : Hid (l.length = n) := hl
  have hnn : ((n : Int) != n) = false := by simp
  clear ga gb ha hb hl
  go_enter Try.func13, Try.ntmps13
  go_wp2
  go_loopw [5] (fun z wr => ∃ k : Nat, k ≤ n ∧ z = .int .i64 k ∧ Below w.heap.size w wr) (fun z _ => n - (intOf z).toNat)
  case atStart => exact ⟨0, Nat.zero_le _, rfl, Below.refl _ _⟩
  case round =>
    obtain ⟨k, hk, rfl, hbel⟩ := hrel
    by_cases hlt : k < n
    · obtain ⟨g1, rfl, -, hg1, ho1⟩ := HGA.out (by omega)
      obtain ⟨g2, rfl, -, hg2, ho2⟩ := HGB.out (by omega)
      have hkl : k < l.length := by rw [HL.out]; exact hlt
      have hc1 : wr.cell? ⟨g1, k, none⟩ = some (.string ⟨(l[k]).toArray⟩) := (hbel.cell (p := ⟨g1, k, none⟩) hg1).trans (ho1 k _ (strC_at l k hkl))
      have hc2 : wr.cell? ⟨g2, k, none⟩ = some (.string ⟨(l[k]).toArray⟩) := (hbel.cell (p := ⟨g2, k, none⟩) hg2).trans (ho2 k _ (strC_at l k hkl))
      obtain ⟨S, hS⟩ : ∃ S : ByteArray, S = ⟨(l[k]).toArray⟩ := ⟨_, rfl⟩
      rw [← hS] at hc1 hc2
      have hk1 : (k : Int) < n := by omega
      have hk0 : (0 : Int) ≤ k := by omega
      clear hS ho1 ho2 hkl
      go_wp2
      go_quiet (fail)
      have hbq := below_drewN hbel nq
      clear hc1 hc2 hbel
      generalize wr.drewN nq = wq at *
      go_wp2
      go_roundw
      case rel => exact ⟨k + 1, by omega, by go_num, hbq⟩
      case measure => simp [intOf]; omega
    · have hk1 : ¬ ((k : Int) < n) := by omega
      go_wp2
      go_ret
      exact ⟨rfl, hbel⟩

/-- The marks from k on. -/
def markL (k n : Nat) : List (List UInt8) := (List.range n).map fun i => mkT (k + i)
theorem markL_len (k n : Nat) : (markL k n).length = n := by simp [markL]
theorem markL_at (k n j : Nat) (h : j < (markL k n).length) : (markL k n)[j] = mkT (k + j) := by simp [markL]
theorem markL_succ (k n : Nat) : markL k (n + 1) = markL k n ++ [mkT (k + n)] := by simp [markL, List.range_succ]

theorem marks_set (k j : Nat) (l : List (List UInt8)) (h : j < l.length) : (strC (markL k j ++ l.drop j)).set j (Value.string ⟨(mkT (k + j)).toArray⟩) = strC (markL k (j + 1) ++ l.drop (j + 1)) := by
  have e : markL k j ++ l.drop j = markL k j ++ l[j] :: l.drop (j + 1) := by rw [List.drop_eq_getElem_cons h]
  rw [e, markL_succ]
  unfold strC
  have hlen : (List.map (fun x : List UInt8 => Value.string ⟨x.toArray⟩) (markL k j)).length = j := by simp [markL_len]
  rw [List.map_append, List.map_cons, List.set_append_right _ _ (by rw [hlen]; exact Nat.le_refl _), hlen, Nat.sub_self, List.set_cons_zero, List.map_append, List.map_append, List.append_assoc]
  rfl

set_option maxHeartbeats 1000000 in
/-- Marks are written into a list that one owns. -/
theorem markS_calls {v : Value} {B n k : Nat} {l : List (List UInt8)} (hl : l.length = n) (hn : n ≤ 1048576) (hk : 1 ≤ k) (hk2 : k ≤ 1073741824) (w : World) (ho : w.ownsRow B 9 1 v n (strC l)) :
    Calls Try.prog 16 #[v, .int .i64 k] w fun e w' => e = .returned (.int .i64 ((k : Int) + n)) ∧ w'.ownsRow B 9 1 v n (strC (markL k n)) ∧ w.grownBy w' v.ownBlock := by
  have hsh := own_shape ho
  obtain ⟨aa, ca, rfl, ga⟩ := hsh
  have HGA : Hid (OwnAt w B n aa (strC l)) := ga
  have HL : Hid (l.length = n) := hl
  clear ga hl
  go_enter Try.func16, Try.ntmps16
  go_wp2
  go_loopw [1, 5] (fun x z wr => ∃ j : Nat, j ≤ n ∧ z = .int .i64 j ∧ x = .int .i64 ((k : Int) + j) ∧ wr.ownsRow B 9 1 (.slice aa n ca) n (strC (markL k j ++ l.drop j)) ∧ w.grownBy wr (Value.slice aa n ca).ownBlock) (fun _ z _ => n - (intOf z).toNat)
  case atStart => exact ⟨0, Nat.zero_le _, rfl, by simp, by simpa [markL] using ho, ⟨rfl, rfl, rfl, Nat.le_refl _, fun _ _ _ => rfl⟩⟩
  case round =>
    clear ho
    obtain ⟨j, hj, rfl, rfl, hown, hgr⟩ := hrel
    by_cases hlt : j < n
    · obtain ⟨g, rfl, hBg, hg, -⟩ := HGA.out (by omega)
      have hjl : j < l.length := by rw [HL.out]; exact hlt
      have hj1 : (j : Int) < n := by omega
      have hj0 : (0 : Int) ≤ j := by omega
      go_wp2_with fail
      refine (mark_int _ (by omega) (by omega) _).mono ?_
      rintro e w1 ⟨rfl, hb1⟩
      have hown1 := own_below hown hb1
      have hgr1 := grownBy_trans hgr (grownBy_below hb1 _)
      have hc1 : w1.cell? ⟨g, j, none⟩ = some (Value.string ⟨(l[j]).toArray⟩) := by
        rw [hown1.cellAt j (by omega)]
        unfold strC
        rw [List.map_append, List.getElem?_append_right (by simp [markL_len])]
        simp [markL_len, hjl]
      have hf1 := hown1.frozenAt j
      have hst := hown1.stored j (Value.string ⟨(mkT (k + j)).toArray⟩)
      rw [marks_set k j l hjl] at hst
      have e : ((k : Int) + j).toNat = k + j := by omega
      rw [e]
      have HST : Hid ((w1.setCell ⟨g, j, none⟩ (Value.string ⟨(mkT (k + j)).toArray⟩)).ownsRow B 9 1 (.slice (some ⟨g, 0, none⟩) n ca) n (strC (markL k (j + 1) ++ l.drop (j + 1))) ∧ w1.grownBy (w1.setCell ⟨g, j, none⟩ (Value.string ⟨(mkT (k + j)).toArray⟩)) (some g)) := hst
      obtain ⟨S, hS⟩ : ∃ S : ByteArray, S = ⟨(mkT (k + j)).toArray⟩ := ⟨_, rfl⟩
      rw [← hS] at HST ⊢
      clear hS hst e hown hgr hb1 hown1
      go_wp2
      go_roundw
      case rel => exact ⟨j + 1, by omega, by go_num, by go_num, HST.out.1, grownBy_trans hgr1 HST.out.2⟩
      case measure => simp [intOf]; omega
    · have hj1 : ¬ ((j : Int) < n) := by omega
      have hjn : j = n := by omega
      have HO : Hid (wr.ownsRow B 9 1 (.slice aa n ca) n (strC (markL k n)) ∧ w.grownBy wr (Value.slice aa n ca).ownBlock) := by
        refine ⟨?_, hgr⟩
        rw [hjn, List.drop_of_length_le (by rw [HL.out]; exact Nat.le_refl _), List.append_nil] at hown
        exact hown
      have HJ : Hid (j = n) := hjn
      clear hown hgr hjn
      go_wp2
      go_ret
      exact ⟨by rw [← HJ.out]; rfl, HO.out.1, HO.out.2⟩

set_option maxHeartbeats 1000000 in
/-- Marks that stand are told to stand. -/
theorem heldS_calls {v : Value} {B n k : Nat} (hn : n ≤ 1048576) (hk : 1 ≤ k) (hk2 : k ≤ 1073741824) (w : World) (ho : w.ownsRow B 9 1 v n (strC (markL k n))) :
    Calls Try.prog 17 #[v, .int .i64 k] w fun e w' => e = .returned (.int .i64 ((k : Int) + n)) ∧ Below w.heap.size w w' := by
  obtain ⟨aa, ca, rfl, ga⟩ := own_shape ho
  have HGA : Hid (OwnAt w B n aa (strC (markL k n))) := ga
  clear ga ho
  go_enter Try.func17, Try.ntmps17
  go_wp2
  go_loopw [1, 5] (fun x z wr => ∃ j : Nat, j ≤ n ∧ z = .int .i64 j ∧ x = .int .i64 ((k : Int) + j) ∧ Below w.heap.size w wr) (fun _ z _ => n - (intOf z).toNat)
  case atStart => exact ⟨0, Nat.zero_le _, rfl, by simp, Below.refl _ _⟩
  case round =>
    obtain ⟨j, hj, rfl, rfl, hbel⟩ := hrel
    by_cases hlt : j < n
    · obtain ⟨g, rfl, hBg, hg, hcc⟩ := HGA.out (by omega)
      have hjl : j < (markL k n).length := by rw [markL_len]; exact hlt
      have hc : wr.cell? ⟨g, j, none⟩ = some (Value.string ⟨(mkT (k + j)).toArray⟩) := by
        have := hcc j _ (strC_at _ j hjl)
        rw [markL_at] at this
        exact (hbel.cell (p := ⟨g, j, none⟩) hg).trans this
      have hj1 : (j : Int) < n := by omega
      have hj0 : (0 : Int) ≤ j := by omega
      obtain ⟨S, hS⟩ : ∃ S : ByteArray, S = ⟨(mkT (k + j)).toArray⟩ := ⟨_, rfl⟩
      rw [← hS] at hc
      have hm : ∀ wx, Calls Try.prog 78 #[.int .i64 ((k : Int) + j)] wx fun e w' => e = .returned (.string S) ∧ Below wx.heap.size wx w' := by
        intro wx
        have := mark_int ((k : Int) + j) (by omega) (by omega) wx
        rw [show ((k : Int) + j).toNat = k + j by omega, ← hS] at this
        exact this
      have hsz := hbel.size
      have hgw : g < wr.heap.size := by omega
      clear hS hcc hjl
      go_wp2_with fail
      go_region_held3 (fun w' => w'.cell? ⟨g, j, none⟩ = some (Value.string S)) (first | exact (hb1.cell (p := ⟨g, j, none⟩) hgw).trans hc | go_keep) (first | (go_at_call 78; refine (hm _).mono ?_; rintro e w1 ⟨rfl, hb1⟩))
      have hnx : Below w.heap.size w w1 := hbel.drew.trans (hb1.mono hsz)
      clear hbel hb1 hc
      go_wp2
      go_roundw
      case rel => exact ⟨j + 1, by omega, by go_num, by go_num, hnx⟩
      case measure => simp [intOf]; omega
    · have hj1 : ¬ ((j : Int) < n) := by omega
      have HJ : Hid (j = n) := by show _ = _; omega
      go_wp2
      go_ret
      exact ⟨by rw [← HJ.out]; rfl, hbel⟩

theorem markS_one {v : Value} {B n : Nat} {l : List (List UInt8)} (hl : l.length = n) (hn : n ≤ 1048576) (w : World) (ho : w.ownsRow B 9 1 v n (strC l)) :
    Calls Try.prog 16 #[v, .int .i64 1] w fun e w' => e = .returned (.int .i64 (1 + (n : Int))) ∧ w'.ownsRow B 9 1 v n (strC (markL 1 n)) ∧ w.grownBy w' v.ownBlock :=
  markS_calls (k := 1) hl hn (by omega) (by omega) w ho
theorem heldS_one {v : Value} {B n : Nat} (hn : n ≤ 1048576) (w : World) (ho : w.ownsRow B 9 1 v n (strC (markL 1 n))) :
    Calls Try.prog 17 #[v, .int .i64 1] w fun e w' => e = .returned (.int .i64 (1 + (n : Int))) ∧ Below w.heap.size w w' :=
  heldS_calls (k := 1) hn (by omega) (by omega) w ho
end Go.Proofs.Ytahdgagipmpcgaa
