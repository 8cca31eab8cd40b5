/- The place of a cell: both. Whether two states are the same: both. Whether two states are the same: both. A right act. -/
import Derived.Test.YtdknoflkingodaaGreatM3
import Derived.Test.YtdknoflkingodaaGreatM4
import Derived.Test.YtdknoflkingodaaGreatM5
import Derived.Test.YtdknoflkingodaaGreatM6
import Derived.Test.YtdknoflkingodaaGreatM7
import Derived.Test.YtdknoflkingodaaGreatM8
import Derived.Test.YtdknoflkingodaaGreatM9
import Derived.Test.YtdknoflkingodaaGreatM10
import Derived.Test.YtdknoflkingodaaGreatM11
namespace Go.Proofs.YtdknoflkingodaaGreat
set_option maxRecDepth 100000
set_option linter.unusedVariables false
open Go.RowKit
set_option maxHeartbeats 4000000 in
theorem specCellAt_calls (S : Sta) (u0 u1 u2 u3 : Value) (r s : Int) (w : World) (hn : S.C.length ≤ 1048576) (h : StAt w S u0 u1 u2 u3) :
  Calls Tryz.prog 24 #[.agg #[u0, u1, u2, u3], .agg #[.int .i64 r, .int .i64 s]] w fun e w' => e = .returned (.int .i64 (cellAt S.C r s 0)) ∧ Below w.heap.size w w' := by
 obtain ⟨a0, c0, a1, c1, a2, c2, a3, c3, rfl, rfl, rfl, rfl⟩ := h.shape
 obtain ⟨W, hW⟩ : ∃ W, W = (w.alloc (.cells #[.slice a0 S.l.length c0, .slice a1 S.T.length c1, .slice a2 S.L.length c2, .slice a3 S.C.length c3] 29)).alloc (.cells #[.int .i64 r, .int .i64 s] 33) := ⟨_, rfl⟩
 have HP : Hid (∀ wx, Below W.heap.size W wx → Row wx w.heap.size #[.slice a0 S.l.length c0, .slice a1 S.T.length c1, .slice a2 S.L.length c2, .slice a3 S.C.length c3] 29) := fun wx h => by
  have h0 : Row W w.heap.size #[.slice a0 S.l.length c0, .slice a1 S.T.length c1, .slice a2 S.L.length c2, .slice a3 S.C.length c3] 29 := by rw [hW]; exact (row_new w _ _ rfl).alloc _
  exact h0.next h
 have HQ : Hid (∀ wx, Below W.heap.size W wx → Row wx (w.heap.size + 1) #[.int .i64 r, .int .i64 s] 33) := fun wx h => by
  have h0 : Row W (w.heap.size + 1) #[.int .i64 r, .int .i64 s] 33 := by rw [hW]; exact row_new _ _ _ (by simp)
  exact h0.next h
 have HB : Hid (Below w.heap.size w W) := by rw [hW]; exact ((Below.refl _ _).alloc (Nat.le_refl _) _).alloc (by simp) _
 have HS : Hid (StAt W S (.slice a0 S.l.length c0) (.slice a1 S.T.length c1) (.slice a2 S.L.length c2) (.slice a3 S.C.length c3)) := by rw [hW]; exact (h.alloc _).alloc _
 have HW : Hid ((w.alloc (.cells #[.slice a0 S.l.length c0, .slice a1 S.T.length c1, .slice a2 S.L.length c2, .slice a3 S.C.length c3] 29)).alloc (.cells #[.int .i64 r, .int .i64 s] 33) = W) := hW.symm
 clear hW h
 obtain ⟨l, hl⟩ : ∃ l, l = S.C := ⟨_, rfl⟩
 have HGA : Hid (CeG W a3 l) := by
  obtain ⟨x, y, hq, hg⟩ := HS.out.2.2.2
  simp only [Value.slice.injEq] at hq
  rw [hl, hq.1]; exact hg
 obtain ⟨R, hR⟩ : ∃ R, R = cellAt S.C r s 0 := ⟨_, rfl⟩
 rw [← hR]
 rw [← hl] at hR hn
 have HR : Hid (R = cellAt (l.drop 0) r s (0 : Nat)) := hR
 obtain ⟨n, hnl⟩ : ∃ n, n = l.length := ⟨_, rfl⟩
 have HL : Hid (n = l.length) := hnl
 rw [← hl, ← hnl] at HP HW
 rw [← hl, ← hnl]
 rw [← hnl] at hn
 clear HS hR hnl hl
 go_enter Tryz.func24, Tryz.ntmps24
 go_wp2
 rw [HW.out]
 clear HW
 go_loopw [5] (fun z wr => ∃ k : Nat, k ≤ n ∧ z = .int .i64 k ∧ R = cellAt (l.drop k) r s k ∧ Below W.heap.size W wr) (fun z _ => n - (intOf z).toNat)
 case atStart => exact ⟨0, Nat.zero_le _, rfl, HR.out, Below.refl _ _⟩
 case round =>
  clear HR
  obtain ⟨k, hk, rfl, hr, hbel⟩ := hrel
  have HBE : Hid (Below W.heap.size W wr) := hbel
  have d1 := (HP.out wr hbel).cell 3 rfl
  have e0 := (HQ.out wr hbel).cell 0 rfl
  have e1 := (HQ.out wr hbel).cell 1 rfl
  have hsz := hbel.size
  by_cases hlt : k < n
  ·have hkl : k < l.length := by rw [← HL.out]; exact hlt
   obtain ⟨g, f, rfl, hg, hcc⟩ := HGA.out (by omega)
   have hk1 : (k : Int) < n := by omega
   have hk0 : (0 : Int) ≤ k := by omega
   have q := (hcc k hkl).below hbel hg
   rw [cellAt_drop l r s k hkl] at hr
   generalize l[k] = x at *
   unfold ceC at q
   obtain ⟨q0, q1, q2, q3, q4, q5, q6, q7⟩ := q
   clear hcc hbel hkl q0 q3 q4 q5 q6 q7
   have heq : ∀ wx, (Op.equalIn 10000 33 (.agg #[.int .i64 x.r, .int .i64 x.s]) (.agg #[.int .i64 r, .int .i64 s])).run Tryz.prog wx = .ok (decide (x.r = r ∧ x.s = s)) wx := fun wx => by
    rw [eq_dot_run]; by_cases h1 : x.r = r <;> by_cases h2 : x.s = s <;> simp [h1, h2]
   have hgd := dot_guard
   by_cases h1 : x.r = r ∧ x.s = s
   ·rw [decide_eq_true h1] at heq
    have HE : Hid (R = k) := by show _ = _; rw [hr, if_pos h1]
    clear hr h1
    go_wp2
    go_quiet (fail)
    have hbq := below_drewN HBE.out nq
    generalize wr.drewN nq = wq at *
    go_wp2
    go_ret
    exact ⟨by rw [HE.out]; rfl, HB.out.trans (hbq.mono HB.out.size)⟩
   ·rw [decide_eq_false h1] at heq
    have HE : Hid (R = cellAt (l.drop (k + 1)) r s (k + 1 : Nat)) := by show _ = _; rw [hr, if_neg h1]
    clear hr h1
    go_wp2
    go_quiet (fail)
    have hbq := below_drewN HBE.out nq
    clear d1 e0 e1 q1 q2 HBE
    generalize wr.drewN nq = wq at *
    go_wp2
    go_roundw
    case rel => exact ⟨k + 1, by omega, by go_num, HE.out, hbq⟩
    case measure => simp [intOf]; omega
  ·have hk1 : ¬ ((k : Int) < n) := by omega
   have HE : Hid (R = -1) := by
    have hkn : k = l.length := by have := HL.out; omega
    rw [hkn, List.drop_length] at hr
    exact hr
   clear hr hbel
   go_wp2
   go_ret
   exact ⟨by rw [HE.out]; rfl, HB.out.trans (HBE.out.mono HB.out.size)⟩
set_option maxHeartbeats 1000000 in
theorem isCell_calls (x : Ce) (r s : Int) (g : Nat) (w : World) (h : Row w g #[.int .i64 r, .int .i64 s] 33) :
  Calls Tryz.prog 58 #[.agg #[.string x.o, .int .i64 x.r, .int .i64 x.s, .int .i64 x.t, .int .i64 x.x, .int .i64 x.z, .int .i64 x.v, .bool x.g], .pointer (some ⟨g, 0, none⟩)] w fun e w' => e = .returned (.bool (decide (x.r = r ∧ x.s = s))) ∧ Below w.heap.size w w' := by
 have hlt := h.lt
 have e0 := h.cell 0 rfl
 have e1 := h.cell 1 rfl
 have heq : ∀ wx, (Op.equalIn 10000 33 (.agg #[.int .i64 x.r, .int .i64 x.s]) (.agg #[.int .i64 r, .int .i64 s])).run Tryz.prog wx = .ok (decide (x.r = r ∧ x.s = s)) wx := fun wx => by
  rw [eq_dot_run]; by_cases h1 : x.r = r <;> by_cases h2 : x.s = s <;> simp [h1, h2]
 have hgd := dot_guard
 generalize decide (x.r = r ∧ x.s = s) = b at *
 have hb : ∀ o1, Below w.heap.size w (w.alloc o1) := fun o1 => (Below.refl _ _).alloc (Nat.le_refl _) _
 go_enter Tryz.func58, Tryz.ntmps58
 go_wp2
 go_ret
 exact ⟨rfl, hb _⟩
set_option maxHeartbeats 4000000 in
theorem indexCell_calls (l : List Ce) (v : Value) (r s : Int) (gd : Nat) (w : World) (hn : l.length ≤ 1048576) (h : CeAt w v l) (hd : Row w gd #[.int .i64 r, .int .i64 s] 33) :
  Calls Tryz.prog 57 #[v, .func (.func 58) #[] #[.pointer (some ⟨gd, 0, none⟩)]] w fun e w' => e = .returned (.int .i64 (cellAt l r s 0)) ∧ Below w.heap.size w w' := by
 obtain ⟨aa, ca, rfl, ga⟩ := h
 have HGA : Hid (CeG w aa l) := ga
 have HD : Hid (Row w gd #[.int .i64 r, .int .i64 s] 33) := hd
 obtain ⟨R, hR⟩ : ∃ R, R = cellAt l r s 0 := ⟨_, rfl⟩
 rw [← hR]
 have HR : Hid (R = cellAt (l.drop 0) r s (0 : Nat)) := hR
 obtain ⟨n, hnl⟩ : ∃ n, n = l.length := ⟨_, rfl⟩
 have HL : Hid (n = l.length) := hnl
 rw [← hnl]
 rw [← hnl] at hn
 clear hR hnl ga hd
 go_enter Tryz.func57, Tryz.ntmps57
 go_wp2
 go_loopw [8] (fun z wr => ∃ k : Nat, k ≤ n ∧ z = .int .i64 k ∧ R = cellAt (l.drop k) r s k ∧ Below w.heap.size w wr) (fun z _ => n - (intOf z).toNat)
 case atStart => exact ⟨0, Nat.zero_le _, rfl, HR.out, Below.refl _ _⟩
 case round =>
  clear HR
  obtain ⟨k, hk, rfl, hr, hbel⟩ := hrel
  have HBE : Hid (Below w.heap.size w wr) := hbel
  by_cases hlt : k < n
  ·have hkl : k < l.length := by rw [← HL.out]; exact hlt
   obtain ⟨g, f, rfl, hg, hcc⟩ := HGA.out (by omega)
   have hk1 : (k : Int) < n := by omega
   have hk0 : (0 : Int) ≤ k := by omega
   have q := (hcc k hkl).below hbel hg
   rw [cellAt_drop l r s k hkl] at hr
   generalize l[k] = x at *
   unfold ceC at q
   obtain ⟨q0, q1, q2, q3, q4, q5, q6, q7⟩ := q
   have HC : Hid (Calls Tryz.prog 58 #[.agg #[.string x.o, .int .i64 x.r, .int .i64 x.s, .int .i64 x.t, .int .i64 x.x, .int .i64 x.z, .int .i64 x.v, .bool x.g], .pointer (some ⟨gd, 0, none⟩)] wr fun e w' => e = .returned (.bool (decide (x.r = r ∧ x.s = s))) ∧ Below wr.heap.size wr w') := isCell_calls x r s gd wr (HD.out.next hbel)
   clear hcc hbel hkl
   by_cases h1 : x.r = r ∧ x.s = s
   ·rw [decide_eq_true h1] at HC
    have HE : Hid (R = k) := by show _ = _; rw [hr, if_pos h1]
    clear hr h1
    go_wp2_with fail
    refine HC.out.mono ?_
    rintro e w1 ⟨rfl, hb⟩
    have HF : Hid (Below w.heap.size w w1) := HBE.out.trans (hb.mono HBE.out.size)
    clear hb HC HBE q0 q1 q2 q3 q4 q5 q6 q7
    go_wp2
    go_ret
    exact ⟨by rw [HE.out]; rfl, HF.out⟩
   ·rw [decide_eq_false h1] at HC
    have HE : Hid (R = cellAt (l.drop (k + 1)) r s (k + 1 : Nat)) := by show _ = _; rw [hr, if_neg h1]
    clear hr h1
    go_wp2_with fail
    refine HC.out.mono ?_
    rintro e w1 ⟨rfl, hb⟩
    have HF : Hid (Below w.heap.size w w1) := HBE.out.trans (hb.mono HBE.out.size)
    clear hb HC HBE q0 q1 q2 q3 q4 q5 q6 q7
    go_wp2
    go_roundw
    case rel => exact ⟨k + 1, by omega, by go_num, HE.out, HF.out⟩
    case measure => simp [intOf]; omega
  ·have hk1 : ¬ ((k : Int) < n) := by omega
   have HE : Hid (R = -1) := by
    have hkn : k = l.length := by have := HL.out; omega
    rw [hkn, List.drop_length] at hr
    exact hr
   clear hr hbel
   go_wp2
   go_ret
   exact ⟨by rw [HE.out]; rfl, HBE.out⟩
set_option maxHeartbeats 4000000 in
theorem cellAt_calls (S : Sta) (u0 u1 u2 u3 : Value) (r s : Int) (w : World) (hn : S.C.length ≤ 1048576) (h : StAt w S u0 u1 u2 u3) :
  Calls Tryz.prog 10 #[.agg #[u0, u1, u2, u3], .agg #[.int .i64 r, .int .i64 s]] w fun e w' => e = .returned (.int .i64 (cellAt S.C r s 0)) ∧ Below w.heap.size w w' := by
 obtain ⟨a0, c0, a1, c1, a2, c2, a3, c3, rfl, rfl, rfl, rfl⟩ := h.shape
 obtain ⟨W, hW⟩ : ∃ W, W = (w.alloc (.cells #[.slice a0 S.l.length c0, .slice a1 S.T.length c1, .slice a2 S.L.length c2, .slice a3 S.C.length c3] 29)).alloc (.cells #[.int .i64 r, .int .i64 s] 33) := ⟨_, rfl⟩
 have HP : Hid (∀ wx, Below W.heap.size W wx → Row wx w.heap.size #[.slice a0 S.l.length c0, .slice a1 S.T.length c1, .slice a2 S.L.length c2, .slice a3 S.C.length c3] 29) := fun wx h => by
  have h0 : Row W w.heap.size #[.slice a0 S.l.length c0, .slice a1 S.T.length c1, .slice a2 S.L.length c2, .slice a3 S.C.length c3] 29 := by rw [hW]; exact (row_new w _ _ rfl).alloc _
  exact h0.next h
 have HQ : Hid (∀ wx, Below W.heap.size W wx → Row wx (w.heap.size + 1) #[.int .i64 r, .int .i64 s] 33) := fun wx h => by
  have h0 : Row W (w.heap.size + 1) #[.int .i64 r, .int .i64 s] 33 := by rw [hW]; exact row_new _ _ _ (by simp)
  exact h0.next h
 have HB : Hid (Below w.heap.size w W) := by rw [hW]; exact ((Below.refl _ _).alloc (Nat.le_refl _) _).alloc (by simp) _
 have HS : Hid (StAt W S (.slice a0 S.l.length c0) (.slice a1 S.T.length c1) (.slice a2 S.L.length c2) (.slice a3 S.C.length c3)) := by rw [hW]; exact (h.alloc _).alloc _
 have HW : Hid ((w.alloc (.cells #[.slice a0 S.l.length c0, .slice a1 S.T.length c1, .slice a2 S.L.length c2, .slice a3 S.C.length c3] 29)).alloc (.cells #[.int .i64 r, .int .i64 s] 33) = W) := hW.symm
 clear hW h
 obtain ⟨l, hl⟩ : ∃ l, l = S.C := ⟨_, rfl⟩
 have hmf : ∀ (fn : Fn) (first cap : Array Value) (w : World), (Instr.makeFunc fn first cap).run Tryz.prog w = .ok (.func fn first cap) w := fun _ _ _ _ => rfl
 have HC := hidI (indexCell_calls S.C _ r s (w.heap.size + 1) W hn HS.out.2.2.2 (HQ.out W (Below.refl _ _)))
 clear HS hl
 go_enter Tryz.func10, Tryz.ntmps10
 go_wp2_with fail
 rw [HW.out]
 refine HC.out.mono ?_
 rintro e w1 ⟨rfl, hb⟩
 have HF : Hid (Below w.heap.size w w1) := HB.out.trans (hb.mono HB.out.size)
 clear hb HC HW
 go_wp2
 go_ret
 exact ⟨rfl, HF.out⟩
end Go.Proofs.YtdknoflkingodaaGreat
namespace Go.Proofs.YtdknoflkingodaaGreat
set_option maxRecDepth 100000
set_option linter.unusedVariables false
open Go.RowKit
theorem list_str {a b : ByteArray} (h : a.toList = b.toList) : a = b := by
 rw [ByteArray.toList_eq, ByteArray.toList_eq] at h
 exact ByteArray.ext (Array.ext' h)
theorem tally_fields : Tryz.prog.underlying 38 = some (.struct (Tryz.prog.fieldsOf 38)) := by kernel_rfl
theorem tally_held : Tryz.prog.stoodInHeld 38 = false := by kernel_rfl
theorem tally_guard : Tryz.prog.eqGuardType Tryz.prog.depth 38 = false := by kernel_rfl
theorem eqTally_run (a b : Ta) (w : World) : (Op.equalIn 10000 38 (.agg #[.string a.o, .int .i64 a.r, .int .i64 a.n]) (.agg #[.string b.o, .int .i64 b.r, .int .i64 b.n])).run Tryz.prog w = .ok (decide (a = b)) w := by
  rw [run_equalIn_struct w 9999 38 _ _ tally_fields tally_held]
  simp only [Program.fieldsOf, Tryz.underlying38]
  by_cases hab : a = b
  · subst hab
    simp [Op.eqFields, go_sem]
  · simp [Op.eqFields, go_sem]
    rw [decide_eq_false hab]
    repeat' split
    all_goals first
      | rfl
      | (exfalso
         apply hab
         obtain ⟨a0, a1, a2⟩ := a
         obtain ⟨b0, b1, b2⟩ := b
         simp only [Ta.mk.injEq]
         refine ⟨?_, ?_, ?_⟩ <;> first | assumption | (apply list_str; assumption))
set_option maxHeartbeats 2000000 in
theorem equalTally_calls {va vb : Value} {l m : List Ta} (hn : l.length ≤ 1048576) (hm : m.length ≤ 1048576) (w : World) (ha : TaAt w va l) (hb : TaAt w vb m) :
  Calls Tryz.prog 73 #[va, vb] w fun e w' => e = .returned (.bool (decide (l = m))) ∧ Below w.heap.size w w' := by
 obtain ⟨aa, ca, rfl, ga⟩ := ha
 obtain ⟨ab, cb, rfl, gb⟩ := hb
 have HGA : Hid (TaG w aa l) := ga
 have HGB : Hid (TaG w ab m) := gb
 obtain ⟨q, hq⟩ : ∃ q, q = decide (l = m) := ⟨_, rfl⟩
 rw [← hq]
 have HNO : Hid (¬ l = m → q = false) := fun h => by rw [hq]; exact decide_eq_false h
 have HYES : Hid (l = m → q = true) := fun h => by rw [hq]; exact decide_eq_true h
 clear hq
 by_cases hlm : l.length = m.length
 ·obtain ⟨n, hl⟩ : ∃ n, n = l.length := ⟨_, rfl⟩
  rw [← hlm, ← hl]
  rw [← hl] at hn
  have HL : Hid (n = l.length) := hl
  have HM : Hid (n = m.length) := hl.trans hlm
  have hnn : ((n : Int) != n) = false := by simp
  have hgd := tally_guard
  clear ga gb hl hlm hm
  go_enter Tryz.func73, Tryz.ntmps73
  go_wp2
  go_loopw [13] (fun z wr => ∃ k : Nat, k ≤ n ∧ z = .int .i64 k ∧ l.take k = m.take k ∧ Below w.heap.size w wr) (fun z _ => n - (intOf z).toNat)
  case atStart => exact ⟨0, Nat.zero_le _, rfl, rfl, Below.refl _ _⟩
  case round =>
   obtain ⟨k, hk, rfl, htk, hbel⟩ := hrel
   have HTK : Hid (l.take k = m.take k) := htk
   clear htk
   by_cases hlt : k < n
   ·have hkl : k < l.length := by rw [← HL.out]; exact hlt
    have hkm : k < m.length := by rw [← HM.out]; exact hlt
    obtain ⟨g1, f1, rfl, hg1, ho1⟩ := HGA.out (by omega)
    obtain ⟨g2, f2, rfl, hg2, ho2⟩ := HGB.out (by omega)
    have c1 := (ho1 k hkl).below hbel hg1
    have c2 := (ho2 k hkm).below hbel hg2
    have hk1 : (k : Int) < n := by omega
    have hk0 : (0 : Int) ≤ k := by omega
    have HT : Hid (l[k] = m[k] → l.take (k + 1) = m.take (k + 1)) := fun hxy => by
     rw [List.take_succ_eq_append_getElem hkl, List.take_succ_eq_append_getElem hkm, HTK.out, hxy]
    have HN : Hid (¬ l[k] = m[k] → q = false) := fun hxy => HNO.out (fun h => hxy (by subst h; rfl))
    generalize m[k] = y at *
    generalize l[k] = x at *
    unfold taC at c1 c2
    obtain ⟨p0, p1, p2⟩ := c1
    obtain ⟨q0, q1, q2⟩ := c2
    clear ho1 ho2 hkl hkm
    have heq := eqTally_run x y
    by_cases hxy : x = y
    ·rw [decide_eq_true hxy] at heq
     have HT2 : Hid (l.take (k + 1) = m.take (k + 1)) := HT.out hxy
     clear hxy HT HN
     go_wp2
     go_quiet (fail)
     have hbq := below_drewN hbel nq
     clear p0 q0 p1 q1 p2 q2 hbel heq
     generalize wr.drewN nq = wq at *
     go_wp2
     go_roundw
     case rel => exact ⟨k + 1, by omega, by go_num, HT2.out, hbq⟩
     case measure => simp [intOf]; omega
    ·rw [decide_eq_false hxy] at heq
     obtain rfl : q = false := HN.out hxy
     clear hxy HT HN
     go_wp2
     go_quiet (fail)
     have hbq := below_drewN hbel nq
     clear p0 q0 p1 q1 p2 q2 hbel heq
     generalize wr.drewN nq = wq at *
     go_wp2
     go_ret
     exact ⟨rfl, hbq⟩
   ·have hk1 : ¬ ((k : Int) < n) := by omega
    obtain rfl : q = true := HYES.out (by
     have := HTK.out
     have h1 := HL.out
     have h2 := HM.out
     rwa [List.take_of_length_le (by omega), List.take_of_length_le (by omega)] at this)
    go_wp2
    go_ret
    exact ⟨rfl, hbel⟩
 ·obtain rfl : q = false := HNO.out (fun h => hlm (by rw [h]))
  have hnn : ((l.length : Int) != m.length) = true := by simp; omega
  go_enter Tryz.func73, Tryz.ntmps73
  go_wp2
  go_ret
  exact ⟨rfl, Below.refl _ _⟩
theorem live_fields : Tryz.prog.underlying 40 = some (.struct (Tryz.prog.fieldsOf 40)) := by kernel_rfl
theorem live_held : Tryz.prog.stoodInHeld 40 = false := by kernel_rfl
theorem live_guard : Tryz.prog.eqGuardType Tryz.prog.depth 40 = false := by kernel_rfl
theorem eqLive_run (a b : Li) (w : World) : (Op.equalIn 10000 40 (.agg #[.bool a.m, .string a.o, .string a.y, .int .i64 a.v, .int .i64 a.r, .int .i64 a.s]) (.agg #[.bool b.m, .string b.o, .string b.y, .int .i64 b.v, .int .i64 b.r, .int .i64 b.s])).run Tryz.prog w = .ok (decide (a = b)) w := by
  rw [run_equalIn_struct w 9999 40 _ _ live_fields live_held]
  simp only [Program.fieldsOf, Tryz.underlying40]
  by_cases hab : a = b
  · subst hab
    simp [Op.eqFields, go_sem]
  · simp [Op.eqFields, go_sem]
    rw [decide_eq_false hab]
    repeat' split
    all_goals first
      | rfl
      | (exfalso
         apply hab
         obtain ⟨a0, a1, a2, a3, a4, a5⟩ := a
         obtain ⟨b0, b1, b2, b3, b4, b5⟩ := b
         simp only [Li.mk.injEq]
         refine ⟨?_, ?_, ?_, ?_, ?_, ?_⟩ <;> first | assumption | (apply list_str; assumption))
set_option maxHeartbeats 2000000 in
theorem equalLive_calls {va vb : Value} {l m : List Li} (hn : l.length ≤ 1048576) (hm : m.length ≤ 1048576) (w : World) (ha : LiAt w va l) (hb : LiAt w vb m) :
  Calls Tryz.prog 74 #[va, vb] w fun e w' => e = .returned (.bool (decide (l = m))) ∧ Below w.heap.size w w' := by
 obtain ⟨aa, ca, rfl, ga⟩ := ha
 obtain ⟨ab, cb, rfl, gb⟩ := hb
 have HGA : Hid (LiG w aa l) := ga
 have HGB : Hid (LiG w ab m) := gb
 obtain ⟨q, hq⟩ : ∃ q, q = decide (l = m) := ⟨_, rfl⟩
 rw [← hq]
 have HNO : Hid (¬ l = m → q = false) := fun h => by rw [hq]; exact decide_eq_false h
 have HYES : Hid (l = m → q = true) := fun h => by rw [hq]; exact decide_eq_true h
 clear hq
 by_cases hlm : l.length = m.length
 ·obtain ⟨n, hl⟩ : ∃ n, n = l.length := ⟨_, rfl⟩
  rw [← hlm, ← hl]
  rw [← hl] at hn
  have HL : Hid (n = l.length) := hl
  have HM : Hid (n = m.length) := hl.trans hlm
  have hnn : ((n : Int) != n) = false := by simp
  have hgd := live_guard
  clear ga gb hl hlm hm
  go_enter Tryz.func74, Tryz.ntmps74
  go_wp2
  go_loopw [13] (fun z wr => ∃ k : Nat, k ≤ n ∧ z = .int .i64 k ∧ l.take k = m.take k ∧ Below w.heap.size w wr) (fun z _ => n - (intOf z).toNat)
  case atStart => exact ⟨0, Nat.zero_le _, rfl, rfl, Below.refl _ _⟩
  case round =>
   obtain ⟨k, hk, rfl, htk, hbel⟩ := hrel
   have HTK : Hid (l.take k = m.take k) := htk
   clear htk
   by_cases hlt : k < n
   ·have hkl : k < l.length := by rw [← HL.out]; exact hlt
    have hkm : k < m.length := by rw [← HM.out]; exact hlt
    obtain ⟨g1, f1, rfl, hg1, ho1⟩ := HGA.out (by omega)
    obtain ⟨g2, f2, rfl, hg2, ho2⟩ := HGB.out (by omega)
    have c1 := (ho1 k hkl).below hbel hg1
    have c2 := (ho2 k hkm).below hbel hg2
    have hk1 : (k : Int) < n := by omega
    have hk0 : (0 : Int) ≤ k := by omega
    have HT : Hid (l[k] = m[k] → l.take (k + 1) = m.take (k + 1)) := fun hxy => by
     rw [List.take_succ_eq_append_getElem hkl, List.take_succ_eq_append_getElem hkm, HTK.out, hxy]
    have HN : Hid (¬ l[k] = m[k] → q = false) := fun hxy => HNO.out (fun h => hxy (by subst h; rfl))
    generalize m[k] = y at *
    generalize l[k] = x at *
    unfold liC at c1 c2
    obtain ⟨p0, p1, p2, p3, p4, p5⟩ := c1
    obtain ⟨q0, q1, q2, q3, q4, q5⟩ := c2
    clear ho1 ho2 hkl hkm
    have heq := eqLive_run x y
    by_cases hxy : x = y
    ·rw [decide_eq_true hxy] at heq
     have HT2 : Hid (l.take (k + 1) = m.take (k + 1)) := HT.out hxy
     clear hxy HT HN
     go_wp2
     go_quiet (fail)
     have hbq := below_drewN hbel nq
     clear p0 q0 p1 q1 p2 q2 p3 q3 p4 q4 p5 q5 hbel heq
     generalize wr.drewN nq = wq at *
     go_wp2
     go_roundw
     case rel => exact ⟨k + 1, by omega, by go_num, HT2.out, hbq⟩
     case measure => simp [intOf]; omega
    ·rw [decide_eq_false hxy] at heq
     obtain rfl : q = false := HN.out hxy
     clear hxy HT HN
     go_wp2
     go_quiet (fail)
     have hbq := below_drewN hbel nq
     clear p0 q0 p1 q1 p2 q2 p3 q3 p4 q4 p5 q5 hbel heq
     generalize wr.drewN nq = wq at *
     go_wp2
     go_ret
     exact ⟨rfl, hbq⟩
   ·have hk1 : ¬ ((k : Int) < n) := by omega
    obtain rfl : q = true := HYES.out (by
     have := HTK.out
     have h1 := HL.out
     have h2 := HM.out
     rwa [List.take_of_length_le (by omega), List.take_of_length_le (by omega)] at this)
    go_wp2
    go_ret
    exact ⟨rfl, hbel⟩
 ·obtain rfl : q = false := HNO.out (fun h => hlm (by rw [h]))
  have hnn : ((l.length : Int) != m.length) = true := by simp; omega
  go_enter Tryz.func74, Tryz.ntmps74
  go_wp2
  go_ret
  exact ⟨rfl, Below.refl _ _⟩
theorem cell_fields : Tryz.prog.underlying 35 = some (.struct (Tryz.prog.fieldsOf 35)) := by kernel_rfl
theorem cell_held : Tryz.prog.stoodInHeld 35 = false := by kernel_rfl
theorem cell_guard : Tryz.prog.eqGuardType Tryz.prog.depth 35 = false := by kernel_rfl
theorem eqCell_run (a b : Ce) (w : World) : (Op.equalIn 10000 35 (.agg #[.string a.o, .int .i64 a.r, .int .i64 a.s, .int .i64 a.t, .int .i64 a.x, .int .i64 a.z, .int .i64 a.v, .bool a.g]) (.agg #[.string b.o, .int .i64 b.r, .int .i64 b.s, .int .i64 b.t, .int .i64 b.x, .int .i64 b.z, .int .i64 b.v, .bool b.g])).run Tryz.prog w = .ok (decide (a = b)) w := by
  rw [run_equalIn_struct w 9999 35 _ _ cell_fields cell_held]
  simp only [Program.fieldsOf, Tryz.underlying35]
  by_cases hab : a = b
  · subst hab
    simp [Op.eqFields, go_sem]
  · simp [Op.eqFields, go_sem]
    rw [decide_eq_false hab]
    repeat' split
    all_goals first
      | rfl
      | (exfalso
         apply hab
         obtain ⟨a0, a1, a2, a3, a4, a5, a6, a7⟩ := a
         obtain ⟨b0, b1, b2, b3, b4, b5, b6, b7⟩ := b
         simp only [Ce.mk.injEq]
         refine ⟨?_, ?_, ?_, ?_, ?_, ?_, ?_, ?_⟩ <;> first | assumption | (apply list_str; assumption))
set_option maxHeartbeats 2000000 in
theorem equalCell_calls {va vb : Value} {l m : List Ce} (hn : l.length ≤ 1048576) (hm : m.length ≤ 1048576) (w : World) (ha : CeAt w va l) (hb : CeAt w vb m) :
  Calls Tryz.prog 75 #[va, vb] w fun e w' => e = .returned (.bool (decide (l = m))) ∧ Below w.heap.size w w' := by
 obtain ⟨aa, ca, rfl, ga⟩ := ha
 obtain ⟨ab, cb, rfl, gb⟩ := hb
 have HGA : Hid (CeG w aa l) := ga
 have HGB : Hid (CeG w ab m) := gb
 obtain ⟨q, hq⟩ : ∃ q, q = decide (l = m) := ⟨_, rfl⟩
 rw [← hq]
 have HNO : Hid (¬ l = m → q = false) := fun h => by rw [hq]; exact decide_eq_false h
 have HYES : Hid (l = m → q = true) := fun h => by rw [hq]; exact decide_eq_true h
 clear hq
 by_cases hlm : l.length = m.length
 ·obtain ⟨n, hl⟩ : ∃ n, n = l.length := ⟨_, rfl⟩
  rw [← hlm, ← hl]
  rw [← hl] at hn
  have HL : Hid (n = l.length) := hl
  have HM : Hid (n = m.length) := hl.trans hlm
  have hnn : ((n : Int) != n) = false := by simp
  have hgd := cell_guard
  clear ga gb hl hlm hm
  go_enter Tryz.func75, Tryz.ntmps75
  go_wp2
  go_loopw [13] (fun z wr => ∃ k : Nat, k ≤ n ∧ z = .int .i64 k ∧ l.take k = m.take k ∧ Below w.heap.size w wr) (fun z _ => n - (intOf z).toNat)
  case atStart => exact ⟨0, Nat.zero_le _, rfl, rfl, Below.refl _ _⟩
  case round =>
   obtain ⟨k, hk, rfl, htk, hbel⟩ := hrel
   have HTK : Hid (l.take k = m.take k) := htk
   clear htk
   by_cases hlt : k < n
   ·have hkl : k < l.length := by rw [← HL.out]; exact hlt
    have hkm : k < m.length := by rw [← HM.out]; exact hlt
    obtain ⟨g1, f1, rfl, hg1, ho1⟩ := HGA.out (by omega)
    obtain ⟨g2, f2, rfl, hg2, ho2⟩ := HGB.out (by omega)
    have c1 := (ho1 k hkl).below hbel hg1
    have c2 := (ho2 k hkm).below hbel hg2
    have hk1 : (k : Int) < n := by omega
    have hk0 : (0 : Int) ≤ k := by omega
    have HT : Hid (l[k] = m[k] → l.take (k + 1) = m.take (k + 1)) := fun hxy => by
     rw [List.take_succ_eq_append_getElem hkl, List.take_succ_eq_append_getElem hkm, HTK.out, hxy]
    have HN : Hid (¬ l[k] = m[k] → q = false) := fun hxy => HNO.out (fun h => hxy (by subst h; rfl))
    generalize m[k] = y at *
    generalize l[k] = x at *
    unfold ceC at c1 c2
    obtain ⟨p0, p1, p2, p3, p4, p5, p6, p7⟩ := c1
    obtain ⟨q0, q1, q2, q3, q4, q5, q6, q7⟩ := c2
    clear ho1 ho2 hkl hkm
    have heq := eqCell_run x y
    by_cases hxy : x = y
    ·rw [decide_eq_true hxy] at heq
     have HT2 : Hid (l.take (k + 1) = m.take (k + 1)) := HT.out hxy
     clear hxy HT HN
     go_wp2
     go_quiet (fail)
     have hbq := below_drewN hbel nq
     clear p0 q0 p1 q1 p2 q2 p3 q3 p4 q4 p5 q5 p6 q6 p7 q7 hbel heq
     generalize wr.drewN nq = wq at *
     go_wp2
     go_roundw
     case rel => exact ⟨k + 1, by omega, by go_num, HT2.out, hbq⟩
     case measure => simp [intOf]; omega
    ·rw [decide_eq_false hxy] at heq
     obtain rfl : q = false := HN.out hxy
     clear hxy HT HN
     go_wp2
     go_quiet (fail)
     have hbq := below_drewN hbel nq
     clear p0 q0 p1 q1 p2 q2 p3 q3 p4 q4 p5 q5 p6 q6 p7 q7 hbel heq
     generalize wr.drewN nq = wq at *
     go_wp2
     go_ret
     exact ⟨rfl, hbq⟩
   ·have hk1 : ¬ ((k : Int) < n) := by omega
    obtain rfl : q = true := HYES.out (by
     have := HTK.out
     have h1 := HL.out
     have h2 := HM.out
     rwa [List.take_of_length_le (by omega), List.take_of_length_le (by omega)] at this)
    go_wp2
    go_ret
    exact ⟨rfl, hbel⟩
 ·obtain rfl : q = false := HNO.out (fun h => hlm (by rw [h]))
  have hnn : ((l.length : Int) != m.length) = true := by simp; omega
  go_enter Tryz.func75, Tryz.ntmps75
  go_wp2
  go_ret
  exact ⟨rfl, Below.refl _ _⟩
end Go.Proofs.YtdknoflkingodaaGreat
namespace Go.Proofs.YtdknoflkingodaaGreat
set_option maxRecDepth 100000
set_option linter.unusedVariables false
open Go.RowKit
theorem Sta.ext' {S Z : Sta} (h0 : S.l = Z.l) (h1 : S.T = Z.T) (h2 : S.L = Z.L) (h3 : S.C = Z.C) : S = Z := by cases S; cases Z; simp_all
set_option maxHeartbeats 4000000 in
theorem sameState_calls (S Z : Sta) (u0 u1 u2 u3 v0 v1 v2 v3 : Value) (w : World) (hn : S.l.length ≤ 1048576 ∧ S.T.length ≤ 1048576 ∧ S.L.length ≤ 1048576 ∧ S.C.length ≤ 1048576) (hm : Z.l.length ≤ 1048576 ∧ Z.T.length ≤ 1048576 ∧ Z.L.length ≤ 1048576 ∧ Z.C.length ≤ 1048576) (h : StAt w S u0 u1 u2 u3) (k : StAt w Z v0 v1 v2 v3) :
  Calls Tryz.prog 19 #[.agg #[u0, u1, u2, u3], .agg #[v0, v1, v2, v3]] w fun e w' => e = .returned (.bool (decide (S = Z))) ∧ Below w.heap.size w w' := by
 obtain ⟨q, hq⟩ : ∃ q, q = decide (S = Z) := ⟨_, rfl⟩
 rw [← hq]
 have HNO : Hid (¬ S = Z → q = false) := fun h => by rw [hq]; exact decide_eq_false h
 have HYES : Hid (S = Z → q = true) := fun h => by rw [hq]; exact decide_eq_true h
 obtain ⟨W, hW⟩ : ∃ W, W = (w.alloc (.cells #[u0, u1, u2, u3] 29)).alloc (.cells #[v0, v1, v2, v3] 29) := ⟨_, rfl⟩
 have HA : Hid (StAt W S u0 u1 u2 u3) := by rw [hW]; exact (h.alloc _).alloc _
 have HC : Hid (StAt W Z v0 v1 v2 v3) := by rw [hW]; exact (k.alloc _).alloc _
 have HPA : Hid (Row W w.heap.size #[u0, u1, u2, u3] 29) := by rw [hW]; exact (row_new w _ _ rfl).alloc _
 have HPB : Hid (Row W (w.heap.size + 1) #[v0, v1, v2, v3] 29) := by rw [hW]; exact row_new _ _ _ (by simp)
 have HB : Hid (Below w.heap.size w W) := by rw [hW]; exact ((Below.refl _ _).alloc (Nat.le_refl _) _).alloc (by simp) _
 have HW : Hid ((w.alloc (.cells #[u0, u1, u2, u3] 29)).alloc (.cells #[v0, v1, v2, v3] 29) = W) := hW.symm
 clear hW h k hq
 go_enter Tryz.func19, Tryz.ntmps19
 go_wp2_with fail
 rw [HW.out]
 clear HW
 refine (equal_calls hn.1 hm.1 _ HA.out.1 HC.out.1).mono ?_
 rintro e w1 ⟨rfl, hb⟩
 replace HA : Hid (StAt w1 S u0 u1 u2 u3) := HA.out.below hb
 replace HC : Hid (StAt w1 Z v0 v1 v2 v3) := HC.out.below hb
 replace HPA : Hid (Row w1 w.heap.size #[u0, u1, u2, u3] 29) := HPA.out.next hb
 replace HPB : Hid (Row w1 (w.heap.size + 1) #[v0, v1, v2, v3] 29) := HPB.out.next hb
 replace HB : Hid (Below w.heap.size w w1) := HB.out.trans (hb.mono HB.out.size)
 clear hb
 by_cases k0 : S.l = Z.l
 case neg =>
  rw [decide_eq_false k0]
  obtain rfl : q = false := HNO.out (fun h => k0 (by rw [h]))
  clear k0
  go_wp2
  go_ret
  exact ⟨rfl, HB.out⟩
 rw [decide_eq_true k0]
 have a0 := HPA.out.cell 1 rfl
 have b0 := HPB.out.cell 1 rfl
 go_wp2_with fail
 clear a0 b0
 refine (equalTally_calls hn.2.1 hm.2.1 _ HA.out.2.1 HC.out.2.1).mono ?_
 rintro e w2 ⟨rfl, hb⟩
 replace HA : Hid (StAt w2 S u0 u1 u2 u3) := HA.out.below hb
 replace HC : Hid (StAt w2 Z v0 v1 v2 v3) := HC.out.below hb
 replace HPA : Hid (Row w2 w.heap.size #[u0, u1, u2, u3] 29) := HPA.out.next hb
 replace HPB : Hid (Row w2 (w.heap.size + 1) #[v0, v1, v2, v3] 29) := HPB.out.next hb
 replace HB : Hid (Below w.heap.size w w2) := HB.out.trans (hb.mono HB.out.size)
 clear hb
 by_cases k1 : S.T = Z.T
 case neg =>
  rw [decide_eq_false k1]
  obtain rfl : q = false := HNO.out (fun h => k1 (by rw [h]))
  clear k1
  go_wp2
  go_ret
  exact ⟨rfl, HB.out⟩
 rw [decide_eq_true k1]
 have a1 := HPA.out.cell 2 rfl
 have b1 := HPB.out.cell 2 rfl
 go_wp2_with fail
 clear a1 b1
 refine (equalLive_calls hn.2.2.1 hm.2.2.1 _ HA.out.2.2.1 HC.out.2.2.1).mono ?_
 rintro e w3 ⟨rfl, hb⟩
 replace HA : Hid (StAt w3 S u0 u1 u2 u3) := HA.out.below hb
 replace HC : Hid (StAt w3 Z v0 v1 v2 v3) := HC.out.below hb
 replace HPA : Hid (Row w3 w.heap.size #[u0, u1, u2, u3] 29) := HPA.out.next hb
 replace HPB : Hid (Row w3 (w.heap.size + 1) #[v0, v1, v2, v3] 29) := HPB.out.next hb
 replace HB : Hid (Below w.heap.size w w3) := HB.out.trans (hb.mono HB.out.size)
 clear hb
 by_cases k2 : S.L = Z.L
 case neg =>
  rw [decide_eq_false k2]
  obtain rfl : q = false := HNO.out (fun h => k2 (by rw [h]))
  clear k2
  go_wp2
  go_ret
  exact ⟨rfl, HB.out⟩
 rw [decide_eq_true k2]
 have a2 := HPA.out.cell 3 rfl
 have b2 := HPB.out.cell 3 rfl
 go_wp2_with fail
 clear a2 b2
 refine (equalCell_calls hn.2.2.2 hm.2.2.2 _ HA.out.2.2.2 HC.out.2.2.2).mono ?_
 rintro e w4 ⟨rfl, hb⟩
 replace HA : Hid (StAt w4 S u0 u1 u2 u3) := HA.out.below hb
 replace HC : Hid (StAt w4 Z v0 v1 v2 v3) := HC.out.below hb
 replace HPA : Hid (Row w4 w.heap.size #[u0, u1, u2, u3] 29) := HPA.out.next hb
 replace HPB : Hid (Row w4 (w.heap.size + 1) #[v0, v1, v2, v3] 29) := HPB.out.next hb
 replace HB : Hid (Below w.heap.size w w4) := HB.out.trans (hb.mono HB.out.size)
 clear hb
 by_cases k3 : S.C = Z.C
 case neg =>
  rw [decide_eq_false k3]
  obtain rfl : q = false := HNO.out (fun h => k3 (by rw [h]))
  clear k3
  go_wp2
  go_ret
  exact ⟨rfl, HB.out⟩
 rw [decide_eq_true k3]
 obtain rfl : q = true := HYES.out (Sta.ext' k0 k1 k2 k3)
 go_wp2
 go_ret
 exact ⟨rfl, HB.out⟩
set_option maxHeartbeats 8000000 in
theorem specSame_len (S Z : Sta) (u0 u1 u2 u3 v0 v1 v2 v3 : Value) (w : World) (hn : S.l.length ≤ 1048576 ∧ S.T.length ≤ 1048576 ∧ S.L.length ≤ 1048576 ∧ S.C.length ≤ 1048576) (hm : Z.l.length ≤ 1048576 ∧ Z.T.length ≤ 1048576 ∧ Z.L.length ≤ 1048576 ∧ Z.C.length ≤ 1048576) (h : StAt w S u0 u1 u2 u3) (k : StAt w Z v0 v1 v2 v3) (hno : ¬ (S.l = Z.l ∧ S.T.length = Z.T.length ∧ S.L.length = Z.L.length ∧ S.C.length = Z.C.length)) :
  Calls Tryz.prog 20 #[.agg #[u0, u1, u2, u3], .agg #[v0, v1, v2, v3]] w fun e w' => e = .returned (.bool false) ∧ Below w.heap.size w w' := by
 obtain ⟨a0, c0, a1, c1, a2, c2, a3, c3, rfl, rfl, rfl, rfl⟩ := h.shape
 obtain ⟨b0, d0, b1, d1, b2, d2, b3, d3, rfl, rfl, rfl, rfl⟩ := k.shape
 obtain ⟨W, hW⟩ : ∃ W, W = (w.alloc (.cells #[.slice a0 S.l.length c0, .slice a1 S.T.length c1, .slice a2 S.L.length c2, .slice a3 S.C.length c3] 29)).alloc (.cells #[.slice b0 Z.l.length d0, .slice b1 Z.T.length d1, .slice b2 Z.L.length d2, .slice b3 Z.C.length d3] 29) := ⟨_, rfl⟩
 have HA := hidI ((h.alloc (.cells #[.slice a0 S.l.length c0, .slice a1 S.T.length c1, .slice a2 S.L.length c2, .slice a3 S.C.length c3] 29)).alloc (.cells #[.slice b0 Z.l.length d0, .slice b1 Z.T.length d1, .slice b2 Z.L.length d2, .slice b3 Z.C.length d3] 29))
 have HC := hidI ((k.alloc (.cells #[.slice a0 S.l.length c0, .slice a1 S.T.length c1, .slice a2 S.L.length c2, .slice a3 S.C.length c3] 29)).alloc (.cells #[.slice b0 Z.l.length d0, .slice b1 Z.T.length d1, .slice b2 Z.L.length d2, .slice b3 Z.C.length d3] 29))
 rw [← hW] at HA HC
 have HPA : Hid (Row W w.heap.size #[.slice a0 S.l.length c0, .slice a1 S.T.length c1, .slice a2 S.L.length c2, .slice a3 S.C.length c3] 29) := by rw [hW]; exact (row_new w _ _ rfl).alloc _
 have HPB : Hid (Row W (w.heap.size + 1) #[.slice b0 Z.l.length d0, .slice b1 Z.T.length d1, .slice b2 Z.L.length d2, .slice b3 Z.C.length d3] 29) := by rw [hW]; exact row_new _ _ _ (by simp)
 have HB : Hid (Below w.heap.size w W) := by rw [hW]; exact ((Below.refl _ _).alloc (Nat.le_refl _) _).alloc (by simp) _
 have HW : Hid ((w.alloc (.cells #[.slice a0 S.l.length c0, .slice a1 S.T.length c1, .slice a2 S.L.length c2, .slice a3 S.C.length c3] 29)).alloc (.cells #[.slice b0 Z.l.length d0, .slice b1 Z.T.length d1, .slice b2 Z.L.length d2, .slice b3 Z.C.length d3] 29) = W) := hW.symm
 clear hW h k
 go_enter Tryz.func20, Tryz.ntmps20
 go_wp2_with fail
 rw [HW.out]
 clear HW
 refine (sameS_calls hn.1 hm.1 _ HA.out.1 HC.out.1).mono ?_
 rintro e w1 ⟨rfl, hb⟩
 obtain ⟨p0, p1, p2, p3⟩ := Row.four (HPA.out.next hb)
 obtain ⟨q0, q1, q2, q3⟩ := Row.four (HPB.out.next hb)
 replace HB : Hid (Below w.heap.size w w1) := HB.out.trans (hb.mono HB.out.size)
 clear hb HA HC HPA HPB
 by_cases k0 : S.l = Z.l
 case neg =>
  rw [decide_eq_false k0]
  go_wp2
  go_ret
  exact ⟨rfl, HB.out⟩
 rw [decide_eq_true k0]
 by_cases k1 : S.T.length = Z.T.length
 case neg =>
  have e1 : ((S.T.length : Int) != Z.T.length) = true := by simp; omega
  clear k1
  go_wp2
  go_ret
  exact ⟨rfl, HB.out⟩
 have e1 : ((S.T.length : Int) != Z.T.length) = false := by simp; omega
 by_cases k2 : S.L.length = Z.L.length
 case neg =>
  have e2 : ((S.L.length : Int) != Z.L.length) = true := by simp; omega
  clear k2
  go_wp2
  go_ret
  exact ⟨rfl, HB.out⟩
 have e2 : ((S.L.length : Int) != Z.L.length) = false := by simp; omega
 by_cases k3 : S.C.length = Z.C.length
 case neg =>
  have e3 : ((S.C.length : Int) != Z.C.length) = true := by simp; omega
  clear k3
  go_wp2
  go_ret
  exact ⟨rfl, HB.out⟩
 have e3 : ((S.C.length : Int) != Z.C.length) = false := by simp; omega
 exact absurd ⟨k0, k1, k2, k3⟩ hno
set_option maxHeartbeats 8000000 in
theorem specSame_loops (S Z : Sta) (u0 u1 u2 u3 v0 v1 v2 v3 : Value) (w : World) (hn : S.l.length ≤ 1048576 ∧ S.T.length ≤ 1048576 ∧ S.L.length ≤ 1048576 ∧ S.C.length ≤ 1048576) (hm : Z.l.length ≤ 1048576 ∧ Z.T.length ≤ 1048576 ∧ Z.L.length ≤ 1048576 ∧ Z.C.length ≤ 1048576) (h : StAt w S u0 u1 u2 u3) (k : StAt w Z v0 v1 v2 v3) (e0 : S.l = Z.l) (e1 : S.T.length = Z.T.length) (e2 : S.L.length = Z.L.length) (e3 : S.C.length = Z.C.length) :
  Calls Tryz.prog 20 #[.agg #[u0, u1, u2, u3], .agg #[v0, v1, v2, v3]] w fun e w' => e = .returned (.bool (decide (S = Z))) ∧ Below w.heap.size w w' := by
 obtain ⟨q, hq⟩ : ∃ q, q = decide (S = Z) := ⟨_, rfl⟩
 rw [← hq]
 have HNO : Hid (¬ S = Z → q = false) := fun h => by rw [hq]; exact decide_eq_false h
 have HYES : Hid (S = Z → q = true) := fun h => by rw [hq]; exact decide_eq_true h
 clear hq
 obtain ⟨a0, c0, a1, c1, a2, c2, a3, c3, rfl, rfl, rfl, rfl⟩ := h.shape
 obtain ⟨b0, d0, b1, d1, b2, d2, b3, d3, rfl, rfl, rfl, rfl⟩ := k.shape
 have HG1 : Hid (TaG w a1 S.T ∧ TaG w b1 Z.T) := by
  obtain ⟨x, y, hq, hg⟩ := h.2.1
  obtain ⟨x', y', hq', hg'⟩ := k.2.1
  simp only [Value.slice.injEq] at hq hq'
  rw [hq.1, hq'.1]; exact ⟨hg, hg'⟩
 have HG2 : Hid (LiG w a2 S.L ∧ LiG w b2 Z.L) := by
  obtain ⟨x, y, hq, hg⟩ := h.2.2.1
  obtain ⟨x', y', hq', hg'⟩ := k.2.2.1
  simp only [Value.slice.injEq] at hq hq'
  rw [hq.1, hq'.1]; exact ⟨hg, hg'⟩
 have HG3 : Hid (CeG w a3 S.C ∧ CeG w b3 Z.C) := by
  obtain ⟨x, y, hq, hg⟩ := h.2.2.2
  obtain ⟨x', y', hq', hg'⟩ := k.2.2.2
  simp only [Value.slice.injEq] at hq hq'
  rw [hq.1, hq'.1]; exact ⟨hg, hg'⟩
 have HSM : Hid (∀ wx, Below w.heap.size w wx → Calls Tryz.prog 76 #[.slice a0 S.l.length c0, .slice b0 Z.l.length d0] wx fun e w' => e = .returned (.bool true) ∧ Below wx.heap.size wx w') := fun wx hb => by
  have := sameS_calls hn.1 hm.1 wx (h.1.below hb) (k.1.below hb)
  rwa [decide_eq_true e0] at this
 have HE0 : Hid (S.l = Z.l) := e0
 obtain ⟨n1, hn1⟩ : ∃ n, n = S.T.length := ⟨_, rfl⟩
 have HL1 : Hid (n1 = S.T.length ∧ n1 = Z.T.length) := ⟨hn1, hn1.trans e1⟩
 rw [← e1, ← hn1]
 have hnn1 : ((n1 : Int) != n1) = false := by simp
 have hb1 : n1 ≤ 1048576 := by have := hn.2; omega
 obtain ⟨n2, hn2⟩ : ∃ n, n = S.L.length := ⟨_, rfl⟩
 have HL2 : Hid (n2 = S.L.length ∧ n2 = Z.L.length) := ⟨hn2, hn2.trans e2⟩
 rw [← e2, ← hn2]
 have hnn2 : ((n2 : Int) != n2) = false := by simp
 have hb2 : n2 ≤ 1048576 := by have := hn.2; omega
 obtain ⟨n3, hn3⟩ : ∃ n, n = S.C.length := ⟨_, rfl⟩
 have HL3 : Hid (n3 = S.C.length ∧ n3 = Z.C.length) := ⟨hn3, hn3.trans e3⟩
 rw [← e3, ← hn3]
 have hnn3 : ((n3 : Int) != n3) = false := by simp
 have hb3 : n3 ≤ 1048576 := by have := hn.2; omega
 obtain ⟨n0, hn0⟩ : ∃ n, n = S.l.length := ⟨_, rfl⟩
 obtain ⟨m0, hm0⟩ : ∃ n, n = Z.l.length := ⟨_, rfl⟩
 rw [← hn0, ← hm0]
 rw [← hn0, ← hm0] at HSM
 have G1 := tally_guard
 have G2 := live_guard
 have G3 := cell_guard
 clear hn1 hn2 hn3 hn0 hm0 e1 e2 e3 e0 h k hn hm
 obtain ⟨W, hW⟩ : ∃ W, W = (w.alloc (.cells #[.slice a0 n0 c0, .slice a1 n1 c1, .slice a2 n2 c2, .slice a3 n3 c3] 29)).alloc (.cells #[.slice b0 m0 d0, .slice b1 n1 d1, .slice b2 n2 d2, .slice b3 n3 d3] 29) := ⟨_, rfl⟩
 have hBW : Below w.heap.size w W := by rw [hW]; exact ((Below.refl _ _).alloc (Nat.le_refl _) _).alloc (by simp) _
 have hPA : Row W w.heap.size #[.slice a0 n0 c0, .slice a1 n1 c1, .slice a2 n2 c2, .slice a3 n3 c3] 29 := by rw [hW]; exact (row_new w _ _ rfl).alloc _
 have hPB : Row W (w.heap.size + 1) #[.slice b0 m0 d0, .slice b1 n1 d1, .slice b2 n2 d2, .slice b3 n3 d3] 29 := by rw [hW]; exact row_new _ _ _ (by simp)
 have HP : Hid (∀ wx, Below W.heap.size W wx → Row wx w.heap.size #[.slice a0 n0 c0, .slice a1 n1 c1, .slice a2 n2 c2, .slice a3 n3 c3] 29 ∧ Row wx (w.heap.size + 1) #[.slice b0 m0 d0, .slice b1 n1 d1, .slice b2 n2 d2, .slice b3 n3 d3] 29) := fun wx h => ⟨hPA.next h, hPB.next h⟩
 have HF : Hid (∀ wx, Below W.heap.size W wx → Below w.heap.size w wx) := fun wx h => hBW.trans (h.mono hBW.size)
 have HW : Hid ((w.alloc (.cells #[.slice a0 n0 c0, .slice a1 n1 c1, .slice a2 n2 c2, .slice a3 n3 c3] 29)).alloc (.cells #[.slice b0 m0 d0, .slice b1 n1 d1, .slice b2 n2 d2, .slice b3 n3 d3] 29) = W) := hW.symm
 clear hW hPA hPB hBW
 go_enter Tryz.func20, Tryz.ntmps20
 go_wp2_with fail
 rw [HW.out]
 clear HW
 refine (HSM.out _ (HF.out _ (Below.refl _ _))).mono ?_
 rintro e w1 ⟨rfl, hb⟩
 have HB : Hid (Below W.heap.size W w1) := hb
 obtain ⟨p0, p1, p2, p3⟩ := Row.four (HP.out _ hb).1
 obtain ⟨q0, q1, q2, q3⟩ := Row.four (HP.out _ hb).2
 clear hb HSM
 go_wp2
 clear p0 p1 p2 p3 q0 q1 q2 q3
 go_loopw [5] (fun z wr => ∃ k : Nat, k ≤ n1 ∧ z = .int .i64 k ∧ S.T.take k = Z.T.take k ∧ Below W.heap.size W wr) (fun z _ => n1 - (intOf z).toNat)
 case atStart => exact ⟨0, Nat.zero_le _, rfl, rfl, HB.out⟩
 case round =>
  clear HB
  obtain ⟨k, hk, rfl, htk, hbel⟩ := hrel
  have HTK : Hid (S.T.take k = Z.T.take k) := htk
  have HB : Hid (Below W.heap.size W wr) := hbel
  have hfb := HF.out _ hbel
  obtain ⟨p0, p1, p2, p3⟩ := Row.four (HP.out _ hbel).1
  obtain ⟨q0, q1, q2, q3⟩ := Row.four (HP.out _ hbel).2
  clear htk hbel
  by_cases hlt : k < n1
  ·have hkl : k < S.T.length := by rw [← HL1.out.1]; exact hlt
   have hkm : k < Z.T.length := by rw [← HL1.out.2]; exact hlt
   obtain ⟨g1, f1, rfl, hg1, ho1⟩ := HG1.out.1 (by omega)
   obtain ⟨g2, f2, rfl, hg2, ho2⟩ := HG1.out.2 (by omega)
   have cc1 := (ho1 k hkl).below hfb hg1
   have cc2 := (ho2 k hkm).below hfb hg2
   have hk1 : (k : Int) < n1 := by omega
   have hk0 : (0 : Int) ≤ k := by omega
   have HT : Hid (S.T[k] = Z.T[k] → S.T.take (k + 1) = Z.T.take (k + 1)) := fun hxy => by
    rw [List.take_succ_eq_append_getElem hkl, List.take_succ_eq_append_getElem hkm, HTK.out, hxy]
   have HN : Hid (¬ S.T[k] = Z.T[k] → q = false) := fun hxy => HNO.out (fun h => hxy (by subst h; rfl))
   generalize Z.T[k] = y at *
   generalize S.T[k] = x at *
   unfold taC at cc1 cc2
   obtain ⟨x0, x1, x2⟩ := cc1
   obtain ⟨y0, y1, y2⟩ := cc2
   clear ho1 ho2 hkl hkm hfb
   have heq := eqTally_run x y
   by_cases hxy : x = y
   ·rw [decide_eq_true hxy] at heq
    have HT2 : Hid (S.T.take (k + 1) = Z.T.take (k + 1)) := HT.out hxy
    clear hxy HT HN
    go_wp2
    go_quiet (fail)
    have hbq := below_drewN HB.out nq
    clear x0 y0 x1 y1 x2 y2 p0 p1 p2 p3 q0 q1 q2 q3 HB heq
    generalize wr.drewN nq = wq at *
    go_wp2
    go_roundw
    case rel => exact ⟨k + 1, by omega, by go_num, HT2.out, hbq⟩
    case measure => simp [intOf]; omega
   ·rw [decide_eq_false hxy] at heq
    obtain rfl : q = false := HN.out hxy
    clear hxy HT HN
    go_wp2
    go_quiet (fail)
    have hbq := HF.out _ (below_drewN HB.out nq)
    clear x0 y0 x1 y1 x2 y2 p0 p1 p2 p3 q0 q1 q2 q3 HB heq
    generalize wr.drewN nq = wq at *
    go_wp2
    go_ret
    exact ⟨rfl, hbq⟩
  ·have hk1 : ¬ ((k : Int) < n1) := by omega
   have HE1 : Hid (S.T = Z.T) := by
    have := HTK.out
    have h1 := HL1.out.1
    have h2 := HL1.out.2
    rwa [List.take_of_length_le (by omega), List.take_of_length_le (by omega)] at this
   clear hfb HTK hlt hk
   go_wp2
   clear p0 p1 p2 p3 q0 q1 q2 q3
   go_loopw [6] (fun z wr => ∃ k : Nat, k ≤ n2 ∧ z = .int .i64 k ∧ S.L.take k = Z.L.take k ∧ Below W.heap.size W wr) (fun z _ => n2 - (intOf z).toNat)
   case atStart => exact ⟨0, Nat.zero_le _, rfl, rfl, HB.out⟩
   case round =>
    clear HB
    obtain ⟨k, hk, rfl, htk, hbel⟩ := hrel
    have HTK : Hid (S.L.take k = Z.L.take k) := htk
    have HB : Hid (Below W.heap.size W wr) := hbel
    have hfb := HF.out _ hbel
    obtain ⟨p0, p1, p2, p3⟩ := Row.four (HP.out _ hbel).1
    obtain ⟨q0, q1, q2, q3⟩ := Row.four (HP.out _ hbel).2
    clear htk hbel
    by_cases hlt : k < n2
    ·have hkl : k < S.L.length := by rw [← HL2.out.1]; exact hlt
     have hkm : k < Z.L.length := by rw [← HL2.out.2]; exact hlt
     obtain ⟨g1, f1, rfl, hg1, ho1⟩ := HG2.out.1 (by omega)
     obtain ⟨g2, f2, rfl, hg2, ho2⟩ := HG2.out.2 (by omega)
     have cc1 := (ho1 k hkl).below hfb hg1
     have cc2 := (ho2 k hkm).below hfb hg2
     have hk1 : (k : Int) < n2 := by omega
     have hk0 : (0 : Int) ≤ k := by omega
     have HT : Hid (S.L[k] = Z.L[k] → S.L.take (k + 1) = Z.L.take (k + 1)) := fun hxy => by
      rw [List.take_succ_eq_append_getElem hkl, List.take_succ_eq_append_getElem hkm, HTK.out, hxy]
     have HN : Hid (¬ S.L[k] = Z.L[k] → q = false) := fun hxy => HNO.out (fun h => hxy (by subst h; rfl))
     generalize Z.L[k] = y at *
     generalize S.L[k] = x at *
     unfold liC at cc1 cc2
     obtain ⟨x0, x1, x2, x3, x4, x5⟩ := cc1
     obtain ⟨y0, y1, y2, y3, y4, y5⟩ := cc2
     clear ho1 ho2 hkl hkm hfb
     have heq := eqLive_run x y
     by_cases hxy : x = y
     ·rw [decide_eq_true hxy] at heq
      have HT2 : Hid (S.L.take (k + 1) = Z.L.take (k + 1)) := HT.out hxy
      clear hxy HT HN
      go_wp2
      go_quiet (fail)
      have hbq := below_drewN HB.out nq
      clear x0 y0 x1 y1 x2 y2 x3 y3 x4 y4 x5 y5 p0 p1 p2 p3 q0 q1 q2 q3 HB heq
      generalize wr.drewN nq = wq at *
      go_wp2
      go_roundw
      case rel => exact ⟨k + 1, by omega, by go_num, HT2.out, hbq⟩
      case measure => simp [intOf]; omega
     ·rw [decide_eq_false hxy] at heq
      obtain rfl : q = false := HN.out hxy
      clear hxy HT HN
      go_wp2
      go_quiet (fail)
      have hbq := HF.out _ (below_drewN HB.out nq)
      clear x0 y0 x1 y1 x2 y2 x3 y3 x4 y4 x5 y5 p0 p1 p2 p3 q0 q1 q2 q3 HB heq
      generalize wr.drewN nq = wq at *
      go_wp2
      go_ret
      exact ⟨rfl, hbq⟩
    ·have hk1 : ¬ ((k : Int) < n2) := by omega
     have HE2 : Hid (S.L = Z.L) := by
      have := HTK.out
      have h1 := HL2.out.1
      have h2 := HL2.out.2
      rwa [List.take_of_length_le (by omega), List.take_of_length_le (by omega)] at this
     clear hfb HTK hlt hk
     go_wp2
     clear p0 p1 p2 p3 q0 q1 q2 q3
     go_loopw [7] (fun z wr => ∃ k : Nat, k ≤ n3 ∧ z = .int .i64 k ∧ S.C.take k = Z.C.take k ∧ Below W.heap.size W wr) (fun z _ => n3 - (intOf z).toNat)
     case atStart => exact ⟨0, Nat.zero_le _, rfl, rfl, HB.out⟩
     case round =>
      clear HB
      obtain ⟨k, hk, rfl, htk, hbel⟩ := hrel
      have HTK : Hid (S.C.take k = Z.C.take k) := htk
      have HB : Hid (Below W.heap.size W wr) := hbel
      have hfb := HF.out _ hbel
      obtain ⟨p0, p1, p2, p3⟩ := Row.four (HP.out _ hbel).1
      obtain ⟨q0, q1, q2, q3⟩ := Row.four (HP.out _ hbel).2
      clear htk hbel
      by_cases hlt : k < n3
      ·have hkl : k < S.C.length := by rw [← HL3.out.1]; exact hlt
       have hkm : k < Z.C.length := by rw [← HL3.out.2]; exact hlt
       obtain ⟨g1, f1, rfl, hg1, ho1⟩ := HG3.out.1 (by omega)
       obtain ⟨g2, f2, rfl, hg2, ho2⟩ := HG3.out.2 (by omega)
       have cc1 := (ho1 k hkl).below hfb hg1
       have cc2 := (ho2 k hkm).below hfb hg2
       have hk1 : (k : Int) < n3 := by omega
       have hk0 : (0 : Int) ≤ k := by omega
       have HT : Hid (S.C[k] = Z.C[k] → S.C.take (k + 1) = Z.C.take (k + 1)) := fun hxy => by
        rw [List.take_succ_eq_append_getElem hkl, List.take_succ_eq_append_getElem hkm, HTK.out, hxy]
       have HN : Hid (¬ S.C[k] = Z.C[k] → q = false) := fun hxy => HNO.out (fun h => hxy (by subst h; rfl))
       generalize Z.C[k] = y at *
       generalize S.C[k] = x at *
       unfold ceC at cc1 cc2
       obtain ⟨x0, x1, x2, x3, x4, x5, x6, x7⟩ := cc1
       obtain ⟨y0, y1, y2, y3, y4, y5, y6, y7⟩ := cc2
       clear ho1 ho2 hkl hkm hfb
       have heq := eqCell_run x y
       by_cases hxy : x = y
       ·rw [decide_eq_true hxy] at heq
        have HT2 : Hid (S.C.take (k + 1) = Z.C.take (k + 1)) := HT.out hxy
        clear hxy HT HN
        go_wp2
        go_quiet (fail)
        have hbq := below_drewN HB.out nq
        clear x0 y0 x1 y1 x2 y2 x3 y3 x4 y4 x5 y5 x6 y6 x7 y7 p0 p1 p2 p3 q0 q1 q2 q3 HB heq
        generalize wr.drewN nq = wq at *
        go_wp2
        go_roundw
        case rel => exact ⟨k + 1, by omega, by go_num, HT2.out, hbq⟩
        case measure => simp [intOf]; omega
       ·rw [decide_eq_false hxy] at heq
        obtain rfl : q = false := HN.out hxy
        clear hxy HT HN
        go_wp2
        go_quiet (fail)
        have hbq := HF.out _ (below_drewN HB.out nq)
        clear x0 y0 x1 y1 x2 y2 x3 y3 x4 y4 x5 y5 x6 y6 x7 y7 p0 p1 p2 p3 q0 q1 q2 q3 HB heq
        generalize wr.drewN nq = wq at *
        go_wp2
        go_ret
        exact ⟨rfl, hbq⟩
      ·have hk1 : ¬ ((k : Int) < n3) := by omega
       have HE3 : Hid (S.C = Z.C) := by
        have := HTK.out
        have h1 := HL3.out.1
        have h2 := HL3.out.2
        rwa [List.take_of_length_le (by omega), List.take_of_length_le (by omega)] at this
       clear hfb HTK hlt hk
       obtain rfl : q = true := HYES.out (Sta.ext' HE0.out HE1.out HE2.out HE3.out)
       go_wp2
       go_ret
       exact ⟨rfl, HF.out _ HB.out⟩
theorem specSameState_calls (S Z : Sta) (u0 u1 u2 u3 v0 v1 v2 v3 : Value) (w : World) (hn : S.l.length ≤ 1048576 ∧ S.T.length ≤ 1048576 ∧ S.L.length ≤ 1048576 ∧ S.C.length ≤ 1048576) (hm : Z.l.length ≤ 1048576 ∧ Z.T.length ≤ 1048576 ∧ Z.L.length ≤ 1048576 ∧ Z.C.length ≤ 1048576) (h : StAt w S u0 u1 u2 u3) (k : StAt w Z v0 v1 v2 v3) :
  Calls Tryz.prog 20 #[.agg #[u0, u1, u2, u3], .agg #[v0, v1, v2, v3]] w fun e w' => e = .returned (.bool (decide (S = Z))) ∧ Below w.heap.size w w' := by
 by_cases hc : S.l = Z.l ∧ S.T.length = Z.T.length ∧ S.L.length = Z.L.length ∧ S.C.length = Z.C.length
 ·exact specSame_loops S Z u0 u1 u2 u3 v0 v1 v2 v3 w hn hm h k hc.1 hc.2.1 hc.2.2.1 hc.2.2.2
 ·rw [decide_eq_false (fun e : S = Z => hc (by rw [e]; exact ⟨rfl, rfl, rfl, rfl⟩))]
  exact specSame_len S Z u0 u1 u2 u3 v0 v1 v2 v3 w hn hm h k hc
end Go.Proofs.YtdknoflkingodaaGreat
namespace Go.Proofs.YtdknoflkingodaaGreat
set_option maxRecDepth 100000
set_option linter.unusedVariables false
open Go.RowKit
/-- A right act. -/
def AOk (A : Ac) : Prop := DOk A.r A.s ∧ KOk A.l ∧ A.l.getD A.r.toNat 0 = A.s - 1 ∧ (1 ≤ A.t ∧ A.t ≤ 10000) ∧ PlainOk A.k A.o A.y A.v ∧ RefOk A.l A.k A.x A.z
instance (A : Ac) : Decidable (AOk A) := by unfold AOk; infer_instance
theorem wpAnyH_list {P : Program} {md : Region.Mode} {ops : Array Oper} {Q : Exit → Act → World → Prop} {S : World → Prop} {fuel : Nat} {l l' : Array Bool} {a : Act} {w : World} (h : l = l') (H : wpAnyH P md ops Q S fuel l' a w) : wpAnyH P md ops Q S fuel l a w := h ▸ H
end Go.Proofs.YtdknoflkingodaaGreat
