/- What the laws' own helpers on lists of dots do. -/
import Derived.Test.YtpojipiagnbgjaaKRow
import Derived.Test.YtpojipiagnbgjaaKDots
namespace Go.Proofs.Ytpojipiagnbgjaa
open Go.RowKit

theorem dotV_cons (p : Int × Int) (l : List (Int × Int)) : dotV (p :: l) = Value.int .i64 p.1 :: Value.int .i64 p.2 :: dotV l := by simp [dotV]
theorem dotV_len (l : List (Int × Int)) : (dotV l).length = l.length * 2 := by
  induction l with
  | nil => rfl
  | cons p l ih =>
    have e : dotV (p :: l) = [Value.int .i64 p.1, Value.int .i64 p.2] ++ dotV l := by simp [dotV]
    rw [e, List.length_append, ih]
    simp; omega
theorem dotV_at (l : List (Int × Int)) : ∀ (j : Nat) (h : j < l.length), (dotV l)[j * 2]? = some (Value.int .i64 (l[j].1)) ∧ (dotV l)[j * 2 + 1]? = some (Value.int .i64 (l[j].2)) := by
  induction l with
  | nil => intro j h; simp at h
  | cons p l ih =>
    intro j h
    have e : dotV (p :: l) = Value.int .i64 p.1 :: Value.int .i64 p.2 :: dotV l := by simp [dotV]
    rw [e]
    cases j with
    | zero => exact ⟨rfl, rfl⟩
    | succ j =>
      have := ih j (by simpa using h)
      rw [show (j + 1) * 2 = (j * 2 + 1) + 1 by omega]
      simpa using this

/-- Dots that can be read behind a slice. -/
def DotsAt (w : World) (v : Value) (l : List (Int × Int)) : Prop :=
  ∃ (aa : Option Addr) (ca : Nat), v = .slice aa l.length ca ∧ (0 < l.length → ∃ g, aa = some ⟨g, 0, none⟩ ∧ g < w.heap.size ∧ ∀ j (h : j < l.length), w.cell? ⟨g, j * 2, none⟩ = some (.int .i64 (l[j].1)) ∧ w.cell? ⟨g, j * 2 + 1, none⟩ = some (.int .i64 (l[j].2)))
theorem DotsAt.below {w w' : World} {v : Value} {l : List (Int × Int)} (h : DotsAt w v l) (hb : Below w.heap.size w w') : DotsAt w' v l := by
  obtain ⟨aa, ca, rfl, hg⟩ := h
  refine ⟨aa, ca, rfl, fun h0 => ?_⟩
  obtain ⟨g, rfl, h1, h2⟩ := hg h0
  exact ⟨g, rfl, Nat.lt_of_lt_of_le h1 hb.size, fun j hj => ⟨(hb.cell (p := ⟨g, j * 2, none⟩) h1).trans (h2 j hj).1, (hb.cell (p := ⟨g, j * 2 + 1, none⟩) h1).trans (h2 j hj).2⟩⟩
theorem DotsAt.own {w : World} {B n : Nat} {v : Value} {l : List (Int × Int)} (h : w.ownsRow B 32 2 v n (dotV l)) (hl : l.length = n) : DotsAt w v l := by
  subst hl
  rcases h.2 with ⟨rfl, h0⟩ | ⟨g, cap, cur, rfl, hb, hg, -, -, -, -⟩
  · exact ⟨none, 0, by rw [h0], fun h => by omega⟩
  · refine ⟨_, _, rfl, fun _ => ⟨g, rfl, (Array.getElem?_eq_some_iff.1 hg).1, fun j hj => ?_⟩⟩
    have h1 := h.cells (g := g) rfl (j * 2) _ (dotV_at l j hj).1
    have h2 := h.cells (g := g) rfl (j * 2 + 1) _ (dotV_at l j hj).2
    rw [addr_add] at h1 h2
    exact ⟨h1, h2⟩
theorem Rw.dots {w : World} {lo hi : Nat} {u : Value} {l : List (Int × Int)} (h : Rw w lo hi 32 2 u l.length (dotV l)) : DotsAt w u l := DotsAt.own h.1 rfl

theorem eqDot_calls (x y : Int) (w : World) : Calls Try.prog 56 #[.agg #[.int .i64 x, .int .i64 y], .agg #[.int .i64 x, .int .i64 y]] w fun e w' => e = .returned (.bool true) ∧ Below w.heap.size w w' := by
  go_enter Try.func56, Try.ntmps56
  go_wp2
  go_ret
  exact ⟨rfl, ((Below.refl _ _).alloc (Nat.le_refl _) _).alloc (by simp) _⟩

set_option maxHeartbeats 1000000 in
/-- Two lists of the same dots are held alike. -/
theorem eqDots_calls {va vb : Value} {l : List (Int × Int)} (hn : l.length ≤ 1048576) (w : World) (ha : DotsAt w va l) (hb : DotsAt w vb l) :
    Calls Try.prog 40 #[va, vb] w fun e w' => e = .returned (.bool true) ∧ Below w.heap.size w w' := by
  obtain ⟨aa, ca, rfl, ga⟩ := ha
  obtain ⟨ab, cb, rfl, gb⟩ := hb
  have HGA : Hid (0 < l.length → ∃ g, aa = some ⟨g, 0, none⟩ ∧ g < w.heap.size ∧ ∀ j (h : j < l.length), w.cell? ⟨g, j * 2, none⟩ = some (.int .i64 (l[j].1)) ∧ w.cell? ⟨g, j * 2 + 1, none⟩ = some (.int .i64 (l[j].2))) := ga
  have HGB : Hid (0 < l.length → ∃ g, ab = some ⟨g, 0, none⟩ ∧ g < w.heap.size ∧ ∀ j (h : j < l.length), w.cell? ⟨g, j * 2, none⟩ = some (.int .i64 (l[j].1)) ∧ w.cell? ⟨g, j * 2 + 1, none⟩ = some (.int .i64 (l[j].2))) := gb
  obtain ⟨n, hl⟩ : ∃ n, n = l.length := ⟨_, rfl⟩
  rw [← hl]
  rw [← hl] at hn
  have HL : Hid (n = l.length) := hl
  have hnn : ((n : Int) != n) = false := by simp
  clear ga gb hl
  go_enter Try.func40, Try.ntmps40
  go_wp2
  go_loopw [5] (fun z wr => ∃ k : Nat, k ≤ n ∧ z = .int .i64 k ∧ Below w.heap.size w wr) (fun z _ => n - (intOf z).toNat)
  case atStart => exact ⟨0, Nat.zero_le _, rfl, Below.refl _ _⟩
  case round =>
    obtain ⟨k, hk, rfl, hbel⟩ := hrel
    by_cases hlt : k < n
    · have hkl : k < l.length := by rw [← HL.out]; exact hlt
      obtain ⟨g1, rfl, hg1, ho1⟩ := HGA.out (by omega)
      obtain ⟨g2, rfl, hg2, ho2⟩ := HGB.out (by omega)
      have hc1 : wr.cell? ⟨g1, k * 2, none⟩ = some (.int .i64 (l[k].1)) := (hbel.cell (p := ⟨g1, k * 2, none⟩) hg1).trans (ho1 k hkl).1
      have hd1 : wr.cell? ⟨g1, k * 2 + 1, none⟩ = some (.int .i64 (l[k].2)) := (hbel.cell (p := ⟨g1, k * 2 + 1, none⟩) hg1).trans (ho1 k hkl).2
      have hc2 : wr.cell? ⟨g2, k * 2, none⟩ = some (.int .i64 (l[k].1)) := (hbel.cell (p := ⟨g2, k * 2, none⟩) hg2).trans (ho2 k hkl).1
      have hd2 : wr.cell? ⟨g2, k * 2 + 1, none⟩ = some (.int .i64 (l[k].2)) := (hbel.cell (p := ⟨g2, k * 2 + 1, none⟩) hg2).trans (ho2 k hkl).2
      generalize l[k].1 = x at *
      generalize l[k].2 = y at *
      have hk1 : (k : Int) < n := by omega
      have hk0 : (0 : Int) ≤ k := by omega
      have hsz := hbel.size
      clear ho1 ho2 hkl
      have HEQ : Hid (∀ wx, Calls Try.prog 56 #[.agg #[.int .i64 x, .int .i64 y], .agg #[.int .i64 x, .int .i64 y]] wx fun e w' => e = .returned (.bool true) ∧ Below wx.heap.size wx w') := fun wx => eqDot_calls x y wx
      have cc : wr.cell? ⟨g1, k * 2, none⟩ = some (.int .i64 x) ∧ wr.cell? ⟨g1, k * 2 + 1, none⟩ = some (.int .i64 y) ∧ wr.cell? ⟨g2, k * 2, none⟩ = some (.int .i64 x) ∧ wr.cell? ⟨g2, k * 2 + 1, none⟩ = some (.int .i64 y) := ⟨hc1, hd1, hc2, hd2⟩
      have HKC : Hid (∀ wx, Below wr.heap.size wr wx → wx.cell? ⟨g1, k * 2, none⟩ = some (.int .i64 x) ∧ wx.cell? ⟨g1, k * 2 + 1, none⟩ = some (.int .i64 y) ∧ wx.cell? ⟨g2, k * 2, none⟩ = some (.int .i64 x) ∧ wx.cell? ⟨g2, k * 2 + 1, none⟩ = some (.int .i64 y)) :=
        fun wx h => ⟨(h.cell (p := ⟨g1, k * 2, none⟩) (Nat.lt_of_lt_of_le hg1 hsz)).trans hc1, (h.cell (p := ⟨g1, k * 2 + 1, none⟩) (Nat.lt_of_lt_of_le hg1 hsz)).trans hd1, (h.cell (p := ⟨g2, k * 2, none⟩) (Nat.lt_of_lt_of_le hg2 hsz)).trans hc2, (h.cell (p := ⟨g2, k * 2 + 1, none⟩) (Nat.lt_of_lt_of_le hg2 hsz)).trans hd2⟩
      have hWd : Below wr.heap.size wr wr.drew := (Below.refl _ _).drew
      go_wp2
      go_region_held3 (fun w' => w'.cell? ⟨g1, k * 2, none⟩ = some (.int .i64 x) ∧ w'.cell? ⟨g1, k * 2 + 1, none⟩ = some (.int .i64 y) ∧ w'.cell? ⟨g2, k * 2, none⟩ = some (.int .i64 x) ∧ w'.cell? ⟨g2, k * 2 + 1, none⟩ = some (.int .i64 y)) (first | exact cc | exact HKC.out _ hW1 | go_keep) (first | (go_at_call 56; refine (HEQ.out _).mono ?_; rintro e w1 ⟨rfl, hb1⟩; have hW1 : Below wr.heap.size wr w1 := hWd.trans (hb1.mono hWd.size)))
      have hbq : Below w.heap.size w w1 := hbel.trans (hW1.mono hsz)
      clear hc1 hd1 hc2 hd2 cc hbel hb1 hW1 hWd
      go_wp2
      go_roundw
      case rel => exact ⟨k + 1, by omega, by go_num, hbq⟩
      case measure => simp [intOf]; omega
    · have hk1 : ¬ ((k : Int) < n) := by omega
      go_wp2
      go_ret
      exact ⟨rfl, hbel⟩

set_option maxHeartbeats 1000000 in
/-- Two lists of the same dots are held alike. -/
theorem sameDots_calls {va vb : Value} {l : List (Int × Int)} (hn : l.length ≤ 1048576) (w : World) (ha : DotsAt w va l) (hb : DotsAt w vb l) :
    Calls Try.prog 32 #[va, vb] w fun e w' => e = .returned (.bool true) ∧ Below w.heap.size w w' := by
  obtain ⟨aa, ca, rfl, ga⟩ := ha
  obtain ⟨ab, cb, rfl, gb⟩ := hb
  have HGA : Hid (0 < l.length → ∃ g, aa = some ⟨g, 0, none⟩ ∧ g < w.heap.size ∧ ∀ j (h : j < l.length), w.cell? ⟨g, j * 2, none⟩ = some (.int .i64 (l[j].1)) ∧ w.cell? ⟨g, j * 2 + 1, none⟩ = some (.int .i64 (l[j].2))) := ga
  have HGB : Hid (0 < l.length → ∃ g, ab = some ⟨g, 0, none⟩ ∧ g < w.heap.size ∧ ∀ j (h : j < l.length), w.cell? ⟨g, j * 2, none⟩ = some (.int .i64 (l[j].1)) ∧ w.cell? ⟨g, j * 2 + 1, none⟩ = some (.int .i64 (l[j].2))) := gb
  obtain ⟨n, hl⟩ : ∃ n, n = l.length := ⟨_, rfl⟩
  rw [← hl]
  rw [← hl] at hn
  have HL : Hid (n = l.length) := hl
  have hnn : ((n : Int) != n) = false := by simp
  clear ga gb hl
  go_enter Try.func32, Try.ntmps32
  go_wp2
  go_loopw [5] (fun z wr => ∃ k : Nat, k ≤ n ∧ z = .int .i64 k ∧ Below w.heap.size w wr) (fun z _ => n - (intOf z).toNat)
  case atStart => exact ⟨0, Nat.zero_le _, rfl, Below.refl _ _⟩
  case round =>
    obtain ⟨k, hk, rfl, hbel⟩ := hrel
    by_cases hlt : k < n
    · have hkl : k < l.length := by rw [← HL.out]; exact hlt
      obtain ⟨g1, rfl, hg1, ho1⟩ := HGA.out (by omega)
      obtain ⟨g2, rfl, hg2, ho2⟩ := HGB.out (by omega)
      have hc1 : wr.cell? ⟨g1, k * 2, none⟩ = some (.int .i64 (l[k].1)) := (hbel.cell (p := ⟨g1, k * 2, none⟩) hg1).trans (ho1 k hkl).1
      have hd1 : wr.cell? ⟨g1, k * 2 + 1, none⟩ = some (.int .i64 (l[k].2)) := (hbel.cell (p := ⟨g1, k * 2 + 1, none⟩) hg1).trans (ho1 k hkl).2
      have hc2 : wr.cell? ⟨g2, k * 2, none⟩ = some (.int .i64 (l[k].1)) := (hbel.cell (p := ⟨g2, k * 2, none⟩) hg2).trans (ho2 k hkl).1
      have hd2 : wr.cell? ⟨g2, k * 2 + 1, none⟩ = some (.int .i64 (l[k].2)) := (hbel.cell (p := ⟨g2, k * 2 + 1, none⟩) hg2).trans (ho2 k hkl).2
      generalize l[k].1 = x at *
      generalize l[k].2 = y at *
      have hk1 : (k : Int) < n := by omega
      have hk0 : (0 : Int) ≤ k := by omega
      have hsz := hbel.size
      clear ho1 ho2 hkl
      have heq : ∀ wx, (Op.equalIn 10000 32 (.agg #[.int .i64 x, .int .i64 y]) (.agg #[.int .i64 x, .int .i64 y])).run Try.prog wx = .ok true wx := by
        intro wx; rw [eq_dot_run]; simp
      have hgd := dot_guard
      go_wp2
      go_quiet (fail)
      have hbq := below_drewN hbel nq
      clear hc1 hc2 hd1 hd2 hbel heq
      generalize wr.drewN nq = wq at *
      go_wp2
      go_roundw
      case rel => exact ⟨k + 1, by omega, by go_num, hbq⟩
      case measure => simp [intOf]; omega
    · have hk1 : ¬ ((k : Int) < n) := by omega
      go_wp2
      go_ret
      exact ⟨rfl, hbel⟩

/-- The marks from k on, two to a dot. -/
def mkD (k n : Nat) : List (Int × Int) := (List.range n).map fun (i : Nat) => ((k : Int) + 2 * (i : Int), (k : Int) + 2 * (i : Int) + 1)
theorem mkD_len (k n : Nat) : (mkD k n).length = n := by simp [mkD]
theorem mkD_at (k n j : Nat) (h : j < (mkD k n).length) : (mkD k n)[j] = ((k : Int) + 2 * (j : Int), (k : Int) + 2 * (j : Int) + 1) := by simp [mkD]
theorem mkD_succ (k n : Nat) : mkD k (n + 1) = mkD k n ++ [((k : Int) + 2 * (n : Int), (k : Int) + 2 * (n : Int) + 1)] := by simp [mkD, List.range_succ]
theorem mkD_set (k j : Nat) (l : List (Int × Int)) (h : j < l.length) : ((dotV (mkD k j ++ l.drop j)).set (j * 2) (Value.int .i64 ((k : Int) + 2 * (j : Int)))).set (j * 2 + 1) (Value.int .i64 ((k : Int) + 2 * (j : Int) + 1)) = dotV (mkD k (j + 1) ++ l.drop (j + 1)) := by
  have e : mkD k j ++ l.drop j = mkD k j ++ (l[j] :: l.drop (j + 1)) := by rw [List.drop_eq_getElem_cons h]
  have hlen : (dotV (mkD k j)).length = j * 2 := by rw [dotV_len, mkD_len]
  have e2 : dotV (l[j] :: l.drop (j + 1)) = Value.int .i64 (l[j].1) :: Value.int .i64 (l[j].2) :: dotV (l.drop (j + 1)) := dotV_cons _ _
  rw [e, mkD_succ, dotV_app, e2, List.set_append_right _ _ (by rw [hlen]; exact Nat.le_refl _), hlen, Nat.sub_self, List.set_cons_zero, List.set_append_right _ _ (by rw [hlen]; omega), hlen, show j * 2 + 1 - j * 2 = 0 + 1 by omega, List.set_cons_succ, List.set_cons_zero, dotV_app, dotV_app, dotV_one, List.append_assoc]
  rfl

set_option maxHeartbeats 1000000 in
/-- Marks are written into a list of dots that one owns. -/
theorem markDots_one {v : Value} {B : Nat} {l : List (Int × Int)} (hn : l.length ≤ 1048576) (w : World) (ho : w.ownsRow B 32 2 v l.length (dotV l)) :
    Calls Try.prog 41 #[v, .int .i64 1] w fun e w' => e = .returned (.int .i64 (1 + 2 * (l.length : Int))) ∧ w'.ownsRow B 32 2 v l.length (dotV (mkD 1 l.length)) ∧ w.grownBy w' v.ownBlock := by
  obtain ⟨n, hl⟩ : ∃ n, n = l.length := ⟨_, rfl⟩
  rw [← hl]
  rw [← hl] at hn ho
  have HL : Hid (n = l.length) := hl
  have hsh : ∃ aa ca, v = .slice aa n ca ∧ (0 < n → ∃ g, aa = some ⟨g, 0, none⟩) := by
    rcases ho.2 with ⟨rfl, h0⟩ | ⟨g, cap, cur, rfl, -⟩
    · exact ⟨none, 0, by rw [h0], fun h => by omega⟩
    · exact ⟨_, _, rfl, fun _ => ⟨g, rfl⟩⟩
  obtain ⟨aa, ca, rfl, ga⟩ := hsh
  have HGA : Hid (0 < n → ∃ g, aa = some ⟨g, 0, none⟩) := ga
  clear ga hl
  go_enter Try.func41, Try.ntmps41
  go_wp2
  go_loopw [1, 5] (fun x z wr => ∃ j : Nat, j ≤ n ∧ z = .int .i64 j ∧ x = .int .i64 (1 + 2 * (j : Int)) ∧ wr.ownsRow B 32 2 (.slice aa n ca) n (dotV (mkD 1 j ++ l.drop j)) ∧ w.grownBy wr (Value.slice aa n ca).ownBlock) (fun _ z _ => n - (intOf z).toNat)
  case atStart => exact ⟨0, Nat.zero_le _, rfl, by simp, by simpa [mkD] using ho, ⟨rfl, rfl, rfl, Nat.le_refl _, fun _ _ _ => rfl⟩⟩
  case round =>
    clear ho
    obtain ⟨j, hj, rfl, rfl, hown, hgr⟩ := hrel
    by_cases hlt : j < n
    · obtain ⟨g, rfl⟩ := HGA.out (by omega)
      have hjl : j < l.length := by rw [← HL.out]; exact hlt
      have hj1 : (j : Int) < n := by omega
      have hj0 : (0 : Int) ≤ j := by omega
      have hlj : j < (mkD 1 j ++ l.drop j).length := by rw [List.length_append, mkD_len, List.length_drop]; omega
      have hc1 : wr.cell? ⟨g, j * 2, none⟩ = some (Value.int .i64 ((mkD 1 j ++ l.drop j)[j].1)) := by
        rw [hown.cellAt (j * 2) (by omega)]; exact (dotV_at _ j hlj).1
      have hd1 : wr.cell? ⟨g, j * 2 + 1, none⟩ = some (Value.int .i64 ((mkD 1 j ++ l.drop j)[j].2)) := by
        rw [hown.cellAt (j * 2 + 1) (by omega)]; exact (dotV_at _ j hlj).2
      have hf1 := hown.frozenAt (j * 2)
      have hf2 := hown.frozenAt (j * 2 + 1)
      have hst := hown.stored (j * 2) (Value.int .i64 (1 + 2 * (j : Int)))
      have hst2 := hst.1.stored (j * 2 + 1) (Value.int .i64 (1 + 2 * (j : Int) + 1))
      have hset := mkD_set 1 j l hjl
      rw [show ((1 : Nat) : Int) = 1 from rfl] at hset
      rw [hset] at hst2
      have HST : Hid (((wr.setCell ⟨g, j * 2, none⟩ (Value.int .i64 (1 + 2 * (j : Int)))).setCell ⟨g, j * 2 + 1, none⟩ (Value.int .i64 (1 + 2 * (j : Int) + 1))).ownsRow B 32 2 (.slice (some ⟨g, 0, none⟩) n ca) n (dotV (mkD 1 (j + 1) ++ l.drop (j + 1))) ∧ wr.grownBy ((wr.setCell ⟨g, j * 2, none⟩ (Value.int .i64 (1 + 2 * (j : Int)))).setCell ⟨g, j * 2 + 1, none⟩ (Value.int .i64 (1 + 2 * (j : Int) + 1))) (some g)) := ⟨hst2.1, grownBy_trans hst.2 hst2.2⟩
      generalize (mkD 1 j ++ l.drop j)[j].1 = x at *
      generalize (mkD 1 j ++ l.drop j)[j].2 = y at *
      have hwr1 : IntKind.i64.wrap (1 + 2 * (j : Int) + 1) = 1 + 2 * (j : Int) + 1 := by rw [IntKind.wrap_i64]; omega
      clear hst hst2 hset hown hjl hlj
      go_wp2
      go_roundw
      case rel => exact ⟨j + 1, by omega, by go_num, by go_num, HST.out.1, grownBy_trans hgr HST.out.2⟩
      case measure => simp [intOf]; omega
    · have hj1 : ¬ ((j : Int) < n) := by omega
      have hjn : j = n := by omega
      have HO : Hid (wr.ownsRow B 32 2 (.slice aa n ca) n (dotV (mkD 1 n)) ∧ w.grownBy wr (Value.slice aa n ca).ownBlock) := by
        refine ⟨?_, hgr⟩
        rw [hjn, List.drop_of_length_le (by rw [← HL.out]; exact Nat.le_refl _), List.append_nil] at hown
        exact hown
      have HJ : Hid (j = n) := hjn
      clear hown hgr hjn
      go_wp2
      go_ret
      exact ⟨by rw [← HJ.out]; rfl, HO.out.1, HO.out.2⟩

set_option maxHeartbeats 1000000 in
/-- Marks that stand are told to stand. -/
theorem heldDots_one {v : Value} {n : Nat} (hn : n ≤ 1048576) (w : World) (ho : DotsAt w v (mkD 1 n)) :
    Calls Try.prog 42 #[v, .int .i64 1] w fun e w' => e = .returned (.int .i64 (1 + 2 * (n : Int))) ∧ Below w.heap.size w w' := by
  obtain ⟨aa, ca, rfl, ga⟩ := ho
  have HGA : Hid (0 < (mkD 1 n).length → ∃ g, aa = some ⟨g, 0, none⟩ ∧ g < w.heap.size ∧ ∀ j (h : j < (mkD 1 n).length), w.cell? ⟨g, j * 2, none⟩ = some (.int .i64 ((mkD 1 n)[j].1)) ∧ w.cell? ⟨g, j * 2 + 1, none⟩ = some (.int .i64 ((mkD 1 n)[j].2))) := ga
  rw [mkD_len]
  clear ga
  go_enter Try.func42, Try.ntmps42
  go_wp2
  go_loopw [1, 5] (fun x z wr => ∃ j : Nat, j ≤ n ∧ z = .int .i64 j ∧ x = .int .i64 (1 + 2 * (j : Int)) ∧ Below w.heap.size w wr) (fun _ z _ => n - (intOf z).toNat)
  case atStart => exact ⟨0, Nat.zero_le _, rfl, by simp, Below.refl _ _⟩
  case round =>
    obtain ⟨j, hj, rfl, rfl, hbel⟩ := hrel
    by_cases hlt : j < n
    · have hjl : j < (mkD 1 n).length := by rw [mkD_len]; exact hlt
      obtain ⟨g, rfl, hg, hcc⟩ := HGA.out (by omega)
      have hq := hcc j hjl
      rw [mkD_at] at hq
      have hc : wr.cell? ⟨g, j * 2, none⟩ = some (Value.int .i64 (1 + 2 * (j : Int))) := (hbel.cell (p := ⟨g, j * 2, none⟩) hg).trans hq.1
      have hd : wr.cell? ⟨g, j * 2 + 1, none⟩ = some (Value.int .i64 (1 + 2 * (j : Int) + 1)) := (hbel.cell (p := ⟨g, j * 2 + 1, none⟩) hg).trans hq.2
      have hj1 : (j : Int) < n := by omega
      have hj0 : (0 : Int) ≤ j := by omega
      have hwr1 : IntKind.i64.wrap (1 + 2 * (j : Int) + 1) = 1 + 2 * (j : Int) + 1 := by rw [IntKind.wrap_i64]; omega
      clear hcc hjl hq
      go_wp2
      go_roundw
      case rel => exact ⟨j + 1, by omega, by go_num, by go_num, hbel⟩
      case measure => simp [intOf]; omega
    · have hj1 : ¬ ((j : Int) < n) := by omega
      have HJ : Hid (j = n) := by show _ = _; omega
      go_wp2
      go_ret
      exact ⟨by rw [← HJ.out]; rfl, hbel⟩
end Go.Proofs.Ytpojipiagnbgjaa
