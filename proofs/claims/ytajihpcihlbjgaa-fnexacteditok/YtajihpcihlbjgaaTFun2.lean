/- Whether two states are the same: both. -/
import Derived.Test.YtajihpcihlbjgaaTFun4
import Derived.Test.YtajihpcihlbjgaaASame
namespace Go.Proofs.Ytajihpcihlbjgaa
set_option maxRecDepth 100000
set_option linter.unusedVariables false
open Go.RowKit

theorem list_str {a b : ByteArray} (h : a.toList = b.toList) : a = b := by
  rw [ByteArray.toList_eq, ByteArray.toList_eq] at h
  exact ByteArray.ext (Array.ext' h)
theorem tally_fields : Try.prog.underlying 45 = some (.struct (Try.prog.fieldsOf 45)) := by kernel_rfl
theorem tally_held : Try.prog.stoodInHeld 45 = false := by kernel_rfl
theorem tally_guard : Try.prog.eqGuardType Try.prog.depth 45 = false := by kernel_rfl
theorem eqTally_run (a b : Ta) (w : World) : (Op.equalIn 10000 45 (.agg #[.string a.o, .int .i64 a.r, .int .i64 a.n]) (.agg #[.string b.o, .int .i64 b.r, .int .i64 b.n])).run Try.prog w = .ok (decide (a = b)) w := by
  rw [run_equalIn_struct w 9999 45 _ _ tally_fields tally_held]
  simp only [Program.fieldsOf, Try.underlying45]
  by_cases hab : a = b
  · subst hab
    simp [Op.eqFields, go_sem]
  · simp [Op.eqFields, go_sem]
    rw [decide_eq_false hab]
    repeat' split
    all_goals first
      | rfl
      | (exfalso
         apply hab
         obtain ⟨a0, a1, a2⟩ := a
         obtain ⟨b0, b1, b2⟩ := b
         simp only [Ta.mk.injEq]
         refine ⟨?_, ?_, ?_⟩ <;> first | assumption | (apply list_str; assumption))

set_option maxHeartbeats 2000000 in
theorem equalTally_calls {va vb : Value} {l m : List Ta} (hn : l.length ≤ 1048576) (hm : m.length ≤ 1048576) (w : World) (ha : TaAt w va l) (hb : TaAt w vb m) :
    Calls Try.prog 51 #[va, vb] w fun e w' => e = .returned (.bool (decide (l = m))) ∧ Below w.heap.size w w' := by
  obtain ⟨aa, ca, rfl, ga⟩ := ha
  obtain ⟨ab, cb, rfl, gb⟩ := hb
  have HGA : Hid (TaG w aa l) := ga
  have HGB : Hid (TaG w ab m) := gb
  obtain ⟨q, hq⟩ : ∃ q, q = decide (l = m) := ⟨_, rfl⟩
  rw [← hq]
  have HNO : Hid (¬ l = m → q = false) := fun h => by rw [hq]; exact decide_eq_false h
  have HYES : Hid (l = m → q = true) := fun h => by rw [hq]; exact decide_eq_true h
  clear hq
  by_cases hlm : l.length = m.length
  · obtain ⟨n, hl⟩ : ∃ n, n = l.length := ⟨_, rfl⟩
    rw [← hlm, ← hl]
    rw [← hl] at hn
    have HL : Hid (n = l.length) := hl
    have HM : Hid (n = m.length) := hl.trans hlm
    have hnn : ((n : Int) != n) = false := by simp
    have hgd := tally_guard
    clear ga gb hl hlm hm
    go_enter Try.func51, Try.ntmps51
    go_wp2
    go_loopw [13] (fun z wr => ∃ k : Nat, k ≤ n ∧ z = .int .i64 k ∧ l.take k = m.take k ∧ Below w.heap.size w wr) (fun z _ => n - (intOf z).toNat)
    case atStart => exact ⟨0, Nat.zero_le _, rfl, rfl, Below.refl _ _⟩
    case round =>
      obtain ⟨k, hk, rfl, htk, hbel⟩ := hrel
      have HTK : Hid (l.take k = m.take k) := htk
      clear htk
      by_cases hlt : k < n
      · have hkl : k < l.length := by rw [← HL.out]; exact hlt
        have hkm : k < m.length := by rw [← HM.out]; exact hlt
        obtain ⟨g1, f1, rfl, hg1, ho1⟩ := HGA.out (by omega)
        obtain ⟨g2, f2, rfl, hg2, ho2⟩ := HGB.out (by omega)
        have c1 := (ho1 k hkl).below hbel hg1
        have c2 := (ho2 k hkm).below hbel hg2
        have hk1 : (k : Int) < n := by omega
        have hk0 : (0 : Int) ≤ k := by omega
        have HT : Hid (l[k] = m[k] → l.take (k + 1) = m.take (k + 1)) := fun hxy => by
          rw [List.take_succ_eq_append_getElem hkl, List.take_succ_eq_append_getElem hkm, HTK.out, hxy]
        have HN : Hid (¬ l[k] = m[k] → q = false) := fun hxy => HNO.out (fun h => hxy (by subst h; rfl))
        generalize m[k] = y at *
        generalize l[k] = x at *
        unfold taC at c1 c2
        obtain ⟨p0, p1, p2⟩ := c1
        obtain ⟨q0, q1, q2⟩ := c2
        clear ho1 ho2 hkl hkm
        have heq := eqTally_run x y
        by_cases hxy : x = y
        · rw [decide_eq_true hxy] at heq
          have HT2 : Hid (l.take (k + 1) = m.take (k + 1)) := HT.out hxy
          clear hxy HT HN
          go_wp2
          go_quiet (fail)
          have hbq := below_drewN hbel nq
          clear p0 q0 p1 q1 p2 q2 hbel heq
          generalize wr.drewN nq = wq at *
          go_wp2
          go_roundw
          case rel => exact ⟨k + 1, by omega, by go_num, HT2.out, hbq⟩
          case measure => simp [intOf]; omega
        · rw [decide_eq_false hxy] at heq
          obtain rfl : q = false := HN.out hxy
          clear hxy HT HN
          go_wp2
          go_quiet (fail)
          have hbq := below_drewN hbel nq
          clear p0 q0 p1 q1 p2 q2 hbel heq
          generalize wr.drewN nq = wq at *
          go_wp2
          go_ret
          exact ⟨rfl, hbq⟩
      · have hk1 : ¬ ((k : Int) < n) := by omega
        obtain rfl : q = true := HYES.out (by
          have := HTK.out
          have h1 := HL.out
          have h2 := HM.out
          rwa [List.take_of_length_le (by omega), List.take_of_length_le (by omega)] at this)
        go_wp2
        go_ret
        exact ⟨rfl, hbel⟩
  · obtain rfl : q = false := HNO.out (fun h => hlm (by rw [h]))
    have hnn : ((l.length : Int) != m.length) = true := by simp; omega
    go_enter Try.func51, Try.ntmps51
    go_wp2
    go_ret
    exact ⟨rfl, Below.refl _ _⟩

theorem live_fields : Try.prog.underlying 47 = some (.struct (Try.prog.fieldsOf 47)) := by kernel_rfl
theorem live_held : Try.prog.stoodInHeld 47 = false := by kernel_rfl
theorem live_guard : Try.prog.eqGuardType Try.prog.depth 47 = false := by kernel_rfl
theorem eqLive_run (a b : Li) (w : World) : (Op.equalIn 10000 47 (.agg #[.bool a.m, .string a.o, .string a.y, .int .i64 a.v, .int .i64 a.r, .int .i64 a.s]) (.agg #[.bool b.m, .string b.o, .string b.y, .int .i64 b.v, .int .i64 b.r, .int .i64 b.s])).run Try.prog w = .ok (decide (a = b)) w := by
  rw [run_equalIn_struct w 9999 47 _ _ live_fields live_held]
  simp only [Program.fieldsOf, Try.underlying47]
  by_cases hab : a = b
  · subst hab
    simp [Op.eqFields, go_sem]
  · simp [Op.eqFields, go_sem]
    rw [decide_eq_false hab]
    repeat' split
    all_goals first
      | rfl
      | (exfalso
         apply hab
         obtain ⟨a0, a1, a2, a3, a4, a5⟩ := a
         obtain ⟨b0, b1, b2, b3, b4, b5⟩ := b
         simp only [Li.mk.injEq]
         refine ⟨?_, ?_, ?_, ?_, ?_, ?_⟩ <;> first | assumption | (apply list_str; assumption))

set_option maxHeartbeats 2000000 in
theorem equalLive_calls {va vb : Value} {l m : List Li} (hn : l.length ≤ 1048576) (hm : m.length ≤ 1048576) (w : World) (ha : LiAt w va l) (hb : LiAt w vb m) :
    Calls Try.prog 52 #[va, vb] w fun e w' => e = .returned (.bool (decide (l = m))) ∧ Below w.heap.size w w' := by
  obtain ⟨aa, ca, rfl, ga⟩ := ha
  obtain ⟨ab, cb, rfl, gb⟩ := hb
  have HGA : Hid (LiG w aa l) := ga
  have HGB : Hid (LiG w ab m) := gb
  obtain ⟨q, hq⟩ : ∃ q, q = decide (l = m) := ⟨_, rfl⟩
  rw [← hq]
  have HNO : Hid (¬ l = m → q = false) := fun h => by rw [hq]; exact decide_eq_false h
  have HYES : Hid (l = m → q = true) := fun h => by rw [hq]; exact decide_eq_true h
  clear hq
  by_cases hlm : l.length = m.length
  · obtain ⟨n, hl⟩ : ∃ n, n = l.length := ⟨_, rfl⟩
    rw [← hlm, ← hl]
    rw [← hl] at hn
    have HL : Hid (n = l.length) := hl
    have HM : Hid (n = m.length) := hl.trans hlm
    have hnn : ((n : Int) != n) = false := by simp
    have hgd := live_guard
    clear ga gb hl hlm hm
    go_enter Try.func52, Try.ntmps52
    go_wp2
    go_loopw [13] (fun z wr => ∃ k : Nat, k ≤ n ∧ z = .int .i64 k ∧ l.take k = m.take k ∧ Below w.heap.size w wr) (fun z _ => n - (intOf z).toNat)
    case atStart => exact ⟨0, Nat.zero_le _, rfl, rfl, Below.refl _ _⟩
    case round =>
      obtain ⟨k, hk, rfl, htk, hbel⟩ := hrel
      have HTK : Hid (l.take k = m.take k) := htk
      clear htk
      by_cases hlt : k < n
      · have hkl : k < l.length := by rw [← HL.out]; exact hlt
        have hkm : k < m.length := by rw [← HM.out]; exact hlt
        obtain ⟨g1, f1, rfl, hg1, ho1⟩ := HGA.out (by omega)
        obtain ⟨g2, f2, rfl, hg2, ho2⟩ := HGB.out (by omega)
        have c1 := (ho1 k hkl).below hbel hg1
        have c2 := (ho2 k hkm).below hbel hg2
        have hk1 : (k : Int) < n := by omega
        have hk0 : (0 : Int) ≤ k := by omega
        have HT : Hid (l[k] = m[k] → l.take (k + 1) = m.take (k + 1)) := fun hxy => by
          rw [List.take_succ_eq_append_getElem hkl, List.take_succ_eq_append_getElem hkm, HTK.out, hxy]
        have HN : Hid (¬ l[k] = m[k] → q = false) := fun hxy => HNO.out (fun h => hxy (by subst h; rfl))
        generalize m[k] = y at *
        generalize l[k] = x at *
        unfold liC at c1 c2
        obtain ⟨p0, p1, p2, p3, p4, p5⟩ := c1
        obtain ⟨q0, q1, q2, q3, q4, q5⟩ := c2
        clear ho1 ho2 hkl hkm
        have heq := eqLive_run x y
        by_cases hxy : x = y
        · rw [decide_eq_true hxy] at heq
          have HT2 : Hid (l.take (k + 1) = m.take (k + 1)) := HT.out hxy
          clear hxy HT HN
          go_wp2
          go_quiet (fail)
          have hbq := below_drewN hbel nq
          clear p0 q0 p1 q1 p2 q2 p3 q3 p4 q4 p5 q5 hbel heq
          generalize wr.drewN nq = wq at *
          go_wp2
          go_roundw
          case rel => exact ⟨k + 1, by omega, by go_num, HT2.out, hbq⟩
          case measure => simp [intOf]; omega
        · rw [decide_eq_false hxy] at heq
          obtain rfl : q = false := HN.out hxy
          clear hxy HT HN
          go_wp2
          go_quiet (fail)
          have hbq := below_drewN hbel nq
          clear p0 q0 p1 q1 p2 q2 p3 q3 p4 q4 p5 q5 hbel heq
          generalize wr.drewN nq = wq at *
          go_wp2
          go_ret
          exact ⟨rfl, hbq⟩
      · have hk1 : ¬ ((k : Int) < n) := by omega
        obtain rfl : q = true := HYES.out (by
          have := HTK.out
          have h1 := HL.out
          have h2 := HM.out
          rwa [List.take_of_length_le (by omega), List.take_of_length_le (by omega)] at this)
        go_wp2
        go_ret
        exact ⟨rfl, hbel⟩
  · obtain rfl : q = false := HNO.out (fun h => hlm (by rw [h]))
    have hnn : ((l.length : Int) != m.length) = true := by simp; omega
    go_enter Try.func52, Try.ntmps52
    go_wp2
    go_ret
    exact ⟨rfl, Below.refl _ _⟩

theorem cell_fields : Try.prog.underlying 42 = some (.struct (Try.prog.fieldsOf 42)) := by kernel_rfl
theorem cell_held : Try.prog.stoodInHeld 42 = false := by kernel_rfl
theorem cell_guard : Try.prog.eqGuardType Try.prog.depth 42 = false := by kernel_rfl
theorem eqCell_run (a b : Ce) (w : World) : (Op.equalIn 10000 42 (.agg #[.string a.o, .int .i64 a.r, .int .i64 a.s, .int .i64 a.t, .int .i64 a.x, .int .i64 a.z, .int .i64 a.v, .bool a.g]) (.agg #[.string b.o, .int .i64 b.r, .int .i64 b.s, .int .i64 b.t, .int .i64 b.x, .int .i64 b.z, .int .i64 b.v, .bool b.g])).run Try.prog w = .ok (decide (a = b)) w := by
  rw [run_equalIn_struct w 9999 42 _ _ cell_fields cell_held]
  simp only [Program.fieldsOf, Try.underlying42]
  by_cases hab : a = b
  · subst hab
    simp [Op.eqFields, go_sem]
  · simp [Op.eqFields, go_sem]
    rw [decide_eq_false hab]
    repeat' split
    all_goals first
      | rfl
      | (exfalso
         apply hab
         obtain ⟨a0, a1, a2, a3, a4, a5, a6, a7⟩ := a
         obtain ⟨b0, b1, b2, b3, b4, b5, b6, b7⟩ := b
         simp only [Ce.mk.injEq]
         refine ⟨?_, ?_, ?_, ?_, ?_, ?_, ?_, ?_⟩ <;> first | assumption | (apply list_str; assumption))

set_option maxHeartbeats 2000000 in
theorem equalCell_calls {va vb : Value} {l m : List Ce} (hn : l.length ≤ 1048576) (hm : m.length ≤ 1048576) (w : World) (ha : CeAt w va l) (hb : CeAt w vb m) :
    Calls Try.prog 53 #[va, vb] w fun e w' => e = .returned (.bool (decide (l = m))) ∧ Below w.heap.size w w' := by
  obtain ⟨aa, ca, rfl, ga⟩ := ha
  obtain ⟨ab, cb, rfl, gb⟩ := hb
  have HGA : Hid (CeG w aa l) := ga
  have HGB : Hid (CeG w ab m) := gb
  obtain ⟨q, hq⟩ : ∃ q, q = decide (l = m) := ⟨_, rfl⟩
  rw [← hq]
  have HNO : Hid (¬ l = m → q = false) := fun h => by rw [hq]; exact decide_eq_false h
  have HYES : Hid (l = m → q = true) := fun h => by rw [hq]; exact decide_eq_true h
  clear hq
  by_cases hlm : l.length = m.length
  · obtain ⟨n, hl⟩ : ∃ n, n = l.length := ⟨_, rfl⟩
    rw [← hlm, ← hl]
    rw [← hl] at hn
    have HL : Hid (n = l.length) := hl
    have HM : Hid (n = m.length) := hl.trans hlm
    have hnn : ((n : Int) != n) = false := by simp
    have hgd := cell_guard
    clear ga gb hl hlm hm
    go_enter Try.func53, Try.ntmps53
    go_wp2
    go_loopw [13] (fun z wr => ∃ k : Nat, k ≤ n ∧ z = .int .i64 k ∧ l.take k = m.take k ∧ Below w.heap.size w wr) (fun z _ => n - (intOf z).toNat)
    case atStart => exact ⟨0, Nat.zero_le _, rfl, rfl, Below.refl _ _⟩
    case round =>
      obtain ⟨k, hk, rfl, htk, hbel⟩ := hrel
      have HTK : Hid (l.take k = m.take k) := htk
      clear htk
      by_cases hlt : k < n
      · have hkl : k < l.length := by rw [← HL.out]; exact hlt
        have hkm : k < m.length := by rw [← HM.out]; exact hlt
        obtain ⟨g1, f1, rfl, hg1, ho1⟩ := HGA.out (by omega)
        obtain ⟨g2, f2, rfl, hg2, ho2⟩ := HGB.out (by omega)
        have c1 := (ho1 k hkl).below hbel hg1
        have c2 := (ho2 k hkm).below hbel hg2
        have hk1 : (k : Int) < n := by omega
        have hk0 : (0 : Int) ≤ k := by omega
        have HT : Hid (l[k] = m[k] → l.take (k + 1) = m.take (k + 1)) := fun hxy => by
          rw [List.take_succ_eq_append_getElem hkl, List.take_succ_eq_append_getElem hkm, HTK.out, hxy]
        have HN : Hid (¬ l[k] = m[k] → q = false) := fun hxy => HNO.out (fun h => hxy (by subst h; rfl))
        generalize m[k] = y at *
        generalize l[k] = x at *
        unfold ceC at c1 c2
        obtain ⟨p0, p1, p2, p3, p4, p5, p6, p7⟩ := c1
        obtain ⟨q0, q1, q2, q3, q4, q5, q6, q7⟩ := c2
        clear ho1 ho2 hkl hkm
        have heq := eqCell_run x y
        by_cases hxy : x = y
        · rw [decide_eq_true hxy] at heq
          have HT2 : Hid (l.take (k + 1) = m.take (k + 1)) := HT.out hxy
          clear hxy HT HN
          go_wp2
          go_quiet (fail)
          have hbq := below_drewN hbel nq
          clear p0 q0 p1 q1 p2 q2 p3 q3 p4 q4 p5 q5 p6 q6 p7 q7 hbel heq
          generalize wr.drewN nq = wq at *
          go_wp2
          go_roundw
          case rel => exact ⟨k + 1, by omega, by go_num, HT2.out, hbq⟩
          case measure => simp [intOf]; omega
        · rw [decide_eq_false hxy] at heq
          obtain rfl : q = false := HN.out hxy
          clear hxy HT HN
          go_wp2
          go_quiet (fail)
          have hbq := below_drewN hbel nq
          clear p0 q0 p1 q1 p2 q2 p3 q3 p4 q4 p5 q5 p6 q6 p7 q7 hbel heq
          generalize wr.drewN nq = wq at *
          go_wp2
          go_ret
          exact ⟨rfl, hbq⟩
      · have hk1 : ¬ ((k : Int) < n) := by omega
        obtain rfl : q = true := HYES.out (by
          have := HTK.out
          have h1 := HL.out
          have h2 := HM.out
          rwa [List.take_of_length_le (by omega), List.take_of_length_le (by omega)] at this)
        go_wp2
        go_ret
        exact ⟨rfl, hbel⟩
  · obtain rfl : q = false := HNO.out (fun h => hlm (by rw [h]))
    have hnn : ((l.length : Int) != m.length) = true := by simp; omega
    go_enter Try.func53, Try.ntmps53
    go_wp2
    go_ret
    exact ⟨rfl, Below.refl _ _⟩


end Go.Proofs.Ytajihpcihlbjgaa
