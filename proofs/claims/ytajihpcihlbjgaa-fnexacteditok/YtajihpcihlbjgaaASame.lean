/- Whether two acts are the same, as both tell it. -/
import Derived.Test.YtajihpcihlbjgaaABase
import Derived.Test.YtajihpcihlbjgaaKInts
import Derived.Test.YtajihpcihlbjgaaKDots
namespace Go.Proofs.Ytajihpcihlbjgaa
set_option maxRecDepth 100000
set_option linter.unusedVariables false
open Go.RowKit

set_option maxHeartbeats 1000000 in
theorem equal_calls {va vb : Value} {l m : List Int} (hn : l.length ≤ 1048576) (hm : m.length ≤ 1048576) (w : World) (ha : IntsAt w va l) (hb : IntsAt w vb m) :
    Calls Try.prog 50 #[va, vb] w fun e w' => e = .returned (.bool (decide (l = m))) ∧ Below w.heap.size w w' := by
  obtain ⟨aa, ca, rfl, ga⟩ := ha
  obtain ⟨ab, cb, rfl, gb⟩ := hb
  have HGA : Hid (0 < l.length → ∃ g, aa = some ⟨g, 0, none⟩ ∧ g < w.heap.size ∧ ∀ j (h : j < l.length), w.cell? ⟨g, j, none⟩ = some (.int .i64 (l[j]))) := ga
  have HGB : Hid (0 < m.length → ∃ g, ab = some ⟨g, 0, none⟩ ∧ g < w.heap.size ∧ ∀ j (h : j < m.length), w.cell? ⟨g, j, none⟩ = some (.int .i64 (m[j]))) := gb
  obtain ⟨q, hq⟩ : ∃ q, q = decide (l = m) := ⟨_, rfl⟩
  rw [← hq]
  have HNO : Hid (¬ l = m → q = false) := fun h => by rw [hq]; exact decide_eq_false h
  have HYES : Hid (l = m → q = true) := fun h => by rw [hq]; exact decide_eq_true h
  clear hq
  by_cases hlm : l.length = m.length
  · obtain ⟨n, hl⟩ : ∃ n, n = l.length := ⟨_, rfl⟩
    rw [← hlm, ← hl]
    rw [← hl] at hn
    have HL : Hid (n = l.length) := hl
    have HM : Hid (n = m.length) := hl.trans hlm
    have hnn : ((n : Int) != n) = false := by simp
    clear ga gb hl hlm hm
    go_enter Try.func50, Try.ntmps50
    go_wp2
    go_loopw [13] (fun z wr => ∃ k : Nat, k ≤ n ∧ z = .int .i64 k ∧ l.take k = m.take k ∧ Below w.heap.size w wr) (fun z _ => n - (intOf z).toNat)
    case atStart => exact ⟨0, Nat.zero_le _, rfl, rfl, Below.refl _ _⟩
    case round =>
      obtain ⟨k, hk, rfl, htk, hbel⟩ := hrel
      have HTK : Hid (l.take k = m.take k) := htk
      clear htk
      by_cases hlt : k < n
      · have hkl : k < l.length := by rw [← HL.out]; exact hlt
        have hkm : k < m.length := by rw [← HM.out]; exact hlt
        obtain ⟨g1, rfl, hg1, ho1⟩ := HGA.out (by omega)
        obtain ⟨g2, rfl, hg2, ho2⟩ := HGB.out (by omega)
        have hc1 : wr.cell? ⟨g1, k, none⟩ = some (.int .i64 (l[k])) := (hbel.cell (p := ⟨g1, k, none⟩) hg1).trans (ho1 k hkl)
        have hc2 : wr.cell? ⟨g2, k, none⟩ = some (.int .i64 (m[k])) := (hbel.cell (p := ⟨g2, k, none⟩) hg2).trans (ho2 k hkm)
        have hk1 : (k : Int) < n := by omega
        have hk0 : (0 : Int) ≤ k := by omega
        by_cases hxy : l[k] = m[k]
        · have HT : Hid (l.take (k + 1) = m.take (k + 1)) := by
            show _ = _
            rw [List.take_succ_eq_append_getElem hkl, List.take_succ_eq_append_getElem hkm, HTK.out, hxy]
          rw [hxy] at hc1
          generalize m[k] = x at *
          clear ho1 ho2 hkl hkm hxy
          go_wp2
          go_quiet (fail)
          have hbq := below_drewN hbel nq
          clear hc1 hc2 hbel
          generalize wr.drewN nq = wq at *
          go_wp2
          go_roundw
          case rel => exact ⟨k + 1, by omega, by go_num, HT.out, hbq⟩
          case measure => simp [intOf]; omega
        · obtain rfl : q = false := HNO.out (fun h => hxy (by subst h; rfl))
          have hne : (l[k] != m[k]) = true := by simp [hxy]
          generalize m[k] = y at *
          generalize l[k] = x at *
          clear ho1 ho2 hkl hkm
          go_wp2
          go_quiet (fail)
          have hbq := below_drewN hbel nq
          clear hc1 hc2 hbel
          generalize wr.drewN nq = wq at *
          go_wp2
          go_ret
          exact ⟨rfl, hbq⟩
      · have hk1 : ¬ ((k : Int) < n) := by omega
        obtain rfl : q = true := HYES.out (by
          have := HTK.out
          have h1 := HL.out
          have h2 := HM.out
          rwa [List.take_of_length_le (by omega), List.take_of_length_le (by omega)] at this)
        go_wp2
        go_ret
        exact ⟨rfl, hbel⟩
  · obtain rfl : q = false := HNO.out (fun h => hlm (by rw [h]))
    have hnn : ((l.length : Int) != m.length) = true := by simp; omega
    go_enter Try.func50, Try.ntmps50
    go_wp2
    go_ret
    exact ⟨rfl, Below.refl _ _⟩

set_option maxHeartbeats 1000000 in
theorem sameS_calls {va vb : Value} {l m : List Int} (hn : l.length ≤ 1048576) (hm : m.length ≤ 1048576) (w : World) (ha : IntsAt w va l) (hb : IntsAt w vb m) :
    Calls Try.prog 54 #[va, vb] w fun e w' => e = .returned (.bool (decide (l = m))) ∧ Below w.heap.size w w' := by
  obtain ⟨aa, ca, rfl, ga⟩ := ha
  obtain ⟨ab, cb, rfl, gb⟩ := hb
  have HGA : Hid (0 < l.length → ∃ g, aa = some ⟨g, 0, none⟩ ∧ g < w.heap.size ∧ ∀ j (h : j < l.length), w.cell? ⟨g, j, none⟩ = some (.int .i64 (l[j]))) := ga
  have HGB : Hid (0 < m.length → ∃ g, ab = some ⟨g, 0, none⟩ ∧ g < w.heap.size ∧ ∀ j (h : j < m.length), w.cell? ⟨g, j, none⟩ = some (.int .i64 (m[j]))) := gb
  obtain ⟨q, hq⟩ : ∃ q, q = decide (l = m) := ⟨_, rfl⟩
  rw [← hq]
  have HNO : Hid (¬ l = m → q = false) := fun h => by rw [hq]; exact decide_eq_false h
  have HYES : Hid (l = m → q = true) := fun h => by rw [hq]; exact decide_eq_true h
  clear hq
  by_cases hlm : l.length = m.length
  · obtain ⟨n, hl⟩ : ∃ n, n = l.length := ⟨_, rfl⟩
    rw [← hlm, ← hl]
    rw [← hl] at hn
    have HL : Hid (n = l.length) := hl
    have HM : Hid (n = m.length) := hl.trans hlm
    have hnn : ((n : Int) != n) = false := by simp
    clear ga gb hl hlm hm
    go_enter Try.func54, Try.ntmps54
    go_wp2
    go_loopw [5] (fun z wr => ∃ k : Nat, k ≤ n ∧ z = .int .i64 k ∧ l.take k = m.take k ∧ Below w.heap.size w wr) (fun z _ => n - (intOf z).toNat)
    case atStart => exact ⟨0, Nat.zero_le _, rfl, rfl, Below.refl _ _⟩
    case round =>
      obtain ⟨k, hk, rfl, htk, hbel⟩ := hrel
      have HTK : Hid (l.take k = m.take k) := htk
      clear htk
      by_cases hlt : k < n
      · have hkl : k < l.length := by rw [← HL.out]; exact hlt
        have hkm : k < m.length := by rw [← HM.out]; exact hlt
        obtain ⟨g1, rfl, hg1, ho1⟩ := HGA.out (by omega)
        obtain ⟨g2, rfl, hg2, ho2⟩ := HGB.out (by omega)
        have hc1 : wr.cell? ⟨g1, k, none⟩ = some (.int .i64 (l[k])) := (hbel.cell (p := ⟨g1, k, none⟩) hg1).trans (ho1 k hkl)
        have hc2 : wr.cell? ⟨g2, k, none⟩ = some (.int .i64 (m[k])) := (hbel.cell (p := ⟨g2, k, none⟩) hg2).trans (ho2 k hkm)
        have hk1 : (k : Int) < n := by omega
        have hk0 : (0 : Int) ≤ k := by omega
        by_cases hxy : l[k] = m[k]
        · have HT : Hid (l.take (k + 1) = m.take (k + 1)) := by
            show _ = _
            rw [List.take_succ_eq_append_getElem hkl, List.take_succ_eq_append_getElem hkm, HTK.out, hxy]
          rw [hxy] at hc1
          generalize m[k] = x at *
          clear ho1 ho2 hkl hkm hxy
          go_wp2
          go_quiet (fail)
          have hbq := below_drewN hbel nq
          clear hc1 hc2 hbel
          generalize wr.drewN nq = wq at *
          go_wp2
          go_roundw
          case rel => exact ⟨k + 1, by omega, by go_num, HT.out, hbq⟩
          case measure => simp [intOf]; omega
        · obtain rfl : q = false := HNO.out (fun h => hxy (by subst h; rfl))
          have hne : (l[k] != m[k]) = true := by simp [hxy]
          generalize m[k] = y at *
          generalize l[k] = x at *
          clear ho1 ho2 hkl hkm
          go_wp2
          go_quiet (fail)
          have hbq := below_drewN hbel nq
          clear hc1 hc2 hbel
          generalize wr.drewN nq = wq at *
          go_wp2
          go_ret
          exact ⟨rfl, hbq⟩
      · have hk1 : ¬ ((k : Int) < n) := by omega
        obtain rfl : q = true := HYES.out (by
          have := HTK.out
          have h1 := HL.out
          have h2 := HM.out
          rwa [List.take_of_length_le (by omega), List.take_of_length_le (by omega)] at this)
        go_wp2
        go_ret
        exact ⟨rfl, hbel⟩
  · obtain rfl : q = false := HNO.out (fun h => hlm (by rw [h]))
    have hnn : ((l.length : Int) != m.length) = true := by simp; omega
    go_enter Try.func54, Try.ntmps54
    go_wp2
    go_ret
    exact ⟨rfl, Below.refl _ _⟩

end Go.Proofs.Ytajihpcihlbjgaa
