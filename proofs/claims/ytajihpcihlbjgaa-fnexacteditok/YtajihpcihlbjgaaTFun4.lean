/- The place of a cell: both. -/
import Derived.Test.YtajihpcihlbjgaaTFun1
import Derived.Test.YtajihpcihlbjgaaAOk1
namespace Go.Proofs.Ytajihpcihlbjgaa
set_option maxRecDepth 100000
set_option linter.unusedVariables false
open Go.RowKit


set_option maxHeartbeats 4000000 in
theorem specCellAt_calls (S : Sta) (u0 u1 u2 u3 : Value) (r s : Int) (w : World) (hn : S.C.length ≤ 1048576) (h : StAt w S u0 u1 u2 u3) :
    Calls Try.prog 25 #[.agg #[u0, u1, u2, u3], .agg #[.int .i64 r, .int .i64 s]] w fun e w' => e = .returned (.int .i64 (cellAt S.C r s 0)) ∧ Below w.heap.size w w' := by
  obtain ⟨a0, c0, a1, c1, a2, c2, a3, c3, rfl, rfl, rfl, rfl⟩ := h.shape
  obtain ⟨W, hW⟩ : ∃ W, W = (w.alloc (.cells #[.slice a0 S.l.length c0, .slice a1 S.T.length c1, .slice a2 S.L.length c2, .slice a3 S.C.length c3] 36)).alloc (.cells #[.int .i64 r, .int .i64 s] 40) := ⟨_, rfl⟩
  have HP : Hid (∀ wx, Below W.heap.size W wx → Row wx w.heap.size #[.slice a0 S.l.length c0, .slice a1 S.T.length c1, .slice a2 S.L.length c2, .slice a3 S.C.length c3] 36) := fun wx h => by
    have h0 : Row W w.heap.size #[.slice a0 S.l.length c0, .slice a1 S.T.length c1, .slice a2 S.L.length c2, .slice a3 S.C.length c3] 36 := by rw [hW]; exact (row_new w _ _ rfl).alloc _
    exact h0.next h
  have HQ : Hid (∀ wx, Below W.heap.size W wx → Row wx (w.heap.size + 1) #[.int .i64 r, .int .i64 s] 40) := fun wx h => by
    have h0 : Row W (w.heap.size + 1) #[.int .i64 r, .int .i64 s] 40 := by rw [hW]; exact row_new _ _ _ (by simp)
    exact h0.next h
  have HB : Hid (Below w.heap.size w W) := by rw [hW]; exact ((Below.refl _ _).alloc (Nat.le_refl _) _).alloc (by simp) _
  have HS : Hid (StAt W S (.slice a0 S.l.length c0) (.slice a1 S.T.length c1) (.slice a2 S.L.length c2) (.slice a3 S.C.length c3)) := by rw [hW]; exact (h.alloc _).alloc _
  have HW : Hid ((w.alloc (.cells #[.slice a0 S.l.length c0, .slice a1 S.T.length c1, .slice a2 S.L.length c2, .slice a3 S.C.length c3] 36)).alloc (.cells #[.int .i64 r, .int .i64 s] 40) = W) := hW.symm
  clear hW h
  obtain ⟨l, hl⟩ : ∃ l, l = S.C := ⟨_, rfl⟩
  have HGA : Hid (CeG W a3 l) := by
    obtain ⟨x, y, hq, hg⟩ := HS.out.2.2.2
    simp only [Value.slice.injEq] at hq
    rw [hl, hq.1]; exact hg
  obtain ⟨R, hR⟩ : ∃ R, R = cellAt S.C r s 0 := ⟨_, rfl⟩
  rw [← hR]
  rw [← hl] at hR hn
  have HR : Hid (R = cellAt (l.drop 0) r s (0 : Nat)) := hR
  obtain ⟨n, hnl⟩ : ∃ n, n = l.length := ⟨_, rfl⟩
  have HL : Hid (n = l.length) := hnl
  rw [← hl, ← hnl] at HP HW
  rw [← hl, ← hnl]
  rw [← hnl] at hn
  clear HS hR hnl hl
  go_enter Try.func25, Try.ntmps25
  go_wp2
  rw [HW.out]
  clear HW
  go_loopw [5] (fun z wr => ∃ k : Nat, k ≤ n ∧ z = .int .i64 k ∧ R = cellAt (l.drop k) r s k ∧ Below W.heap.size W wr) (fun z _ => n - (intOf z).toNat)
  case atStart => exact ⟨0, Nat.zero_le _, rfl, HR.out, Below.refl _ _⟩
  case round =>
    clear HR
    obtain ⟨k, hk, rfl, hr, hbel⟩ := hrel
    have HBE : Hid (Below W.heap.size W wr) := hbel
    have d1 := (HP.out wr hbel).cell 3 rfl
    have e0 := (HQ.out wr hbel).cell 0 rfl
    have e1 := (HQ.out wr hbel).cell 1 rfl
    have hsz := hbel.size
    by_cases hlt : k < n
    · have hkl : k < l.length := by rw [← HL.out]; exact hlt
      obtain ⟨g, f, rfl, hg, hcc⟩ := HGA.out (by omega)
      have hk1 : (k : Int) < n := by omega
      have hk0 : (0 : Int) ≤ k := by omega
      have q := (hcc k hkl).below hbel hg
      rw [cellAt_drop l r s k hkl] at hr
      generalize l[k] = x at *
      unfold ceC at q
      obtain ⟨q0, q1, q2, q3, q4, q5, q6, q7⟩ := q
      clear hcc hbel hkl q0 q3 q4 q5 q6 q7
      have heq : ∀ wx, (Op.equalIn 10000 40 (.agg #[.int .i64 x.r, .int .i64 x.s]) (.agg #[.int .i64 r, .int .i64 s])).run Try.prog wx = .ok (decide (x.r = r ∧ x.s = s)) wx := fun wx => by
        rw [eq_dot_run]; by_cases h1 : x.r = r <;> by_cases h2 : x.s = s <;> simp [h1, h2]
      have hgd := dot_guard
      by_cases h1 : x.r = r ∧ x.s = s
      · rw [decide_eq_true h1] at heq
        have HE : Hid (R = k) := by show _ = _; rw [hr, if_pos h1]
        clear hr h1
        go_wp2
        go_quiet (fail)
        have hbq := below_drewN HBE.out nq
        generalize wr.drewN nq = wq at *
        go_wp2
        go_ret
        exact ⟨by rw [HE.out]; rfl, HB.out.trans (hbq.mono HB.out.size)⟩
      · rw [decide_eq_false h1] at heq
        have HE : Hid (R = cellAt (l.drop (k + 1)) r s (k + 1 : Nat)) := by show _ = _; rw [hr, if_neg h1]
        clear hr h1
        go_wp2
        go_quiet (fail)
        have hbq := below_drewN HBE.out nq
        clear d1 e0 e1 q1 q2 HBE
        generalize wr.drewN nq = wq at *
        go_wp2
        go_roundw
        case rel => exact ⟨k + 1, by omega, by go_num, HE.out, hbq⟩
        case measure => simp [intOf]; omega
    · have hk1 : ¬ ((k : Int) < n) := by omega
      have HE : Hid (R = -1) := by
        have hkn : k = l.length := by have := HL.out; omega
        rw [hkn, List.drop_length] at hr
        exact hr
      clear hr hbel
      go_wp2
      go_ret
      exact ⟨by rw [HE.out]; rfl, HB.out.trans (HBE.out.mono HB.out.size)⟩

set_option maxHeartbeats 1000000 in
theorem isCell_calls (x : Ce) (r s : Int) (g : Nat) (w : World) (h : Row w g #[.int .i64 r, .int .i64 s] 40) :
    Calls Try.prog 36 #[.agg #[.string x.o, .int .i64 x.r, .int .i64 x.s, .int .i64 x.t, .int .i64 x.x, .int .i64 x.z, .int .i64 x.v, .bool x.g], .pointer (some ⟨g, 0, none⟩)] w fun e w' => e = .returned (.bool (decide (x.r = r ∧ x.s = s))) ∧ Below w.heap.size w w' := by
  have hlt := h.lt
  have e0 := h.cell 0 rfl
  have e1 := h.cell 1 rfl
  have heq : ∀ wx, (Op.equalIn 10000 40 (.agg #[.int .i64 x.r, .int .i64 x.s]) (.agg #[.int .i64 r, .int .i64 s])).run Try.prog wx = .ok (decide (x.r = r ∧ x.s = s)) wx := fun wx => by
    rw [eq_dot_run]; by_cases h1 : x.r = r <;> by_cases h2 : x.s = s <;> simp [h1, h2]
  have hgd := dot_guard
  generalize decide (x.r = r ∧ x.s = s) = b at *
  have hb : ∀ o1, Below w.heap.size w (w.alloc o1) := fun o1 => (Below.refl _ _).alloc (Nat.le_refl _) _
  go_enter Try.func36, Try.ntmps36
  go_wp2
  go_ret
  exact ⟨rfl, hb _⟩

set_option maxHeartbeats 4000000 in
theorem indexCell_calls (l : List Ce) (v : Value) (r s : Int) (gd : Nat) (w : World) (hn : l.length ≤ 1048576) (h : CeAt w v l) (hd : Row w gd #[.int .i64 r, .int .i64 s] 40) :
    Calls Try.prog 35 #[v, .func (.func 36) #[] #[.pointer (some ⟨gd, 0, none⟩)]] w fun e w' => e = .returned (.int .i64 (cellAt l r s 0)) ∧ Below w.heap.size w w' := by
  obtain ⟨aa, ca, rfl, ga⟩ := h
  have HGA : Hid (CeG w aa l) := ga
  have HD : Hid (Row w gd #[.int .i64 r, .int .i64 s] 40) := hd
  obtain ⟨R, hR⟩ : ∃ R, R = cellAt l r s 0 := ⟨_, rfl⟩
  rw [← hR]
  have HR : Hid (R = cellAt (l.drop 0) r s (0 : Nat)) := hR
  obtain ⟨n, hnl⟩ : ∃ n, n = l.length := ⟨_, rfl⟩
  have HL : Hid (n = l.length) := hnl
  rw [← hnl]
  rw [← hnl] at hn
  clear hR hnl ga hd
  go_enter Try.func35, Try.ntmps35
  go_wp2
  go_loopw [8] (fun z wr => ∃ k : Nat, k ≤ n ∧ z = .int .i64 k ∧ R = cellAt (l.drop k) r s k ∧ Below w.heap.size w wr) (fun z _ => n - (intOf z).toNat)
  case atStart => exact ⟨0, Nat.zero_le _, rfl, HR.out, Below.refl _ _⟩
  case round =>
    clear HR
    obtain ⟨k, hk, rfl, hr, hbel⟩ := hrel
    have HBE : Hid (Below w.heap.size w wr) := hbel
    by_cases hlt : k < n
    · have hkl : k < l.length := by rw [← HL.out]; exact hlt
      obtain ⟨g, f, rfl, hg, hcc⟩ := HGA.out (by omega)
      have hk1 : (k : Int) < n := by omega
      have hk0 : (0 : Int) ≤ k := by omega
      have q := (hcc k hkl).below hbel hg
      rw [cellAt_drop l r s k hkl] at hr
      generalize l[k] = x at *
      unfold ceC at q
      obtain ⟨q0, q1, q2, q3, q4, q5, q6, q7⟩ := q
      have HC : Hid (Calls Try.prog 36 #[.agg #[.string x.o, .int .i64 x.r, .int .i64 x.s, .int .i64 x.t, .int .i64 x.x, .int .i64 x.z, .int .i64 x.v, .bool x.g], .pointer (some ⟨gd, 0, none⟩)] wr fun e w' => e = .returned (.bool (decide (x.r = r ∧ x.s = s))) ∧ Below wr.heap.size wr w') := isCell_calls x r s gd wr (HD.out.next hbel)
      clear hcc hbel hkl
      by_cases h1 : x.r = r ∧ x.s = s
      · rw [decide_eq_true h1] at HC
        have HE : Hid (R = k) := by show _ = _; rw [hr, if_pos h1]
        clear hr h1
        go_wp2_with fail
        refine HC.out.mono ?_
        rintro e w1 ⟨rfl, hb⟩
        have HF : Hid (Below w.heap.size w w1) := HBE.out.trans (hb.mono HBE.out.size)
        clear hb HC HBE q0 q1 q2 q3 q4 q5 q6 q7
        go_wp2
        go_ret
        exact ⟨by rw [HE.out]; rfl, HF.out⟩
      · rw [decide_eq_false h1] at HC
        have HE : Hid (R = cellAt (l.drop (k + 1)) r s (k + 1 : Nat)) := by show _ = _; rw [hr, if_neg h1]
        clear hr h1
        go_wp2_with fail
        refine HC.out.mono ?_
        rintro e w1 ⟨rfl, hb⟩
        have HF : Hid (Below w.heap.size w w1) := HBE.out.trans (hb.mono HBE.out.size)
        clear hb HC HBE q0 q1 q2 q3 q4 q5 q6 q7
        go_wp2
        go_roundw
        case rel => exact ⟨k + 1, by omega, by go_num, HE.out, HF.out⟩
        case measure => simp [intOf]; omega
    · have hk1 : ¬ ((k : Int) < n) := by omega
      have HE : Hid (R = -1) := by
        have hkn : k = l.length := by have := HL.out; omega
        rw [hkn, List.drop_length] at hr
        exact hr
      clear hr hbel
      go_wp2
      go_ret
      exact ⟨by rw [HE.out]; rfl, HBE.out⟩

set_option maxHeartbeats 4000000 in
theorem cellAt_calls (S : Sta) (u0 u1 u2 u3 : Value) (r s : Int) (w : World) (hn : S.C.length ≤ 1048576) (h : StAt w S u0 u1 u2 u3) :
    Calls Try.prog 11 #[.agg #[u0, u1, u2, u3], .agg #[.int .i64 r, .int .i64 s]] w fun e w' => e = .returned (.int .i64 (cellAt S.C r s 0)) ∧ Below w.heap.size w w' := by
  obtain ⟨a0, c0, a1, c1, a2, c2, a3, c3, rfl, rfl, rfl, rfl⟩ := h.shape
  obtain ⟨W, hW⟩ : ∃ W, W = (w.alloc (.cells #[.slice a0 S.l.length c0, .slice a1 S.T.length c1, .slice a2 S.L.length c2, .slice a3 S.C.length c3] 36)).alloc (.cells #[.int .i64 r, .int .i64 s] 40) := ⟨_, rfl⟩
  have HP : Hid (∀ wx, Below W.heap.size W wx → Row wx w.heap.size #[.slice a0 S.l.length c0, .slice a1 S.T.length c1, .slice a2 S.L.length c2, .slice a3 S.C.length c3] 36) := fun wx h => by
    have h0 : Row W w.heap.size #[.slice a0 S.l.length c0, .slice a1 S.T.length c1, .slice a2 S.L.length c2, .slice a3 S.C.length c3] 36 := by rw [hW]; exact (row_new w _ _ rfl).alloc _
    exact h0.next h
  have HQ : Hid (∀ wx, Below W.heap.size W wx → Row wx (w.heap.size + 1) #[.int .i64 r, .int .i64 s] 40) := fun wx h => by
    have h0 : Row W (w.heap.size + 1) #[.int .i64 r, .int .i64 s] 40 := by rw [hW]; exact row_new _ _ _ (by simp)
    exact h0.next h
  have HB : Hid (Below w.heap.size w W) := by rw [hW]; exact ((Below.refl _ _).alloc (Nat.le_refl _) _).alloc (by simp) _
  have HS : Hid (StAt W S (.slice a0 S.l.length c0) (.slice a1 S.T.length c1) (.slice a2 S.L.length c2) (.slice a3 S.C.length c3)) := by rw [hW]; exact (h.alloc _).alloc _
  have HW : Hid ((w.alloc (.cells #[.slice a0 S.l.length c0, .slice a1 S.T.length c1, .slice a2 S.L.length c2, .slice a3 S.C.length c3] 36)).alloc (.cells #[.int .i64 r, .int .i64 s] 40) = W) := hW.symm
  clear hW h
  obtain ⟨l, hl⟩ : ∃ l, l = S.C := ⟨_, rfl⟩
  have hmf : ∀ (fn : Fn) (first cap : Array Value) (w : World), (Instr.makeFunc fn first cap).run Try.prog w = .ok (.func fn first cap) w := fun _ _ _ _ => rfl
  have HC := hidI (indexCell_calls S.C _ r s (w.heap.size + 1) W hn HS.out.2.2.2 (HQ.out W (Below.refl _ _)))
  clear HS hl
  go_enter Try.func11, Try.ntmps11
  go_wp2_with fail
  rw [HW.out]
  refine HC.out.mono ?_
  rintro e w1 ⟨rfl, hb⟩
  have HF : Hid (Below w.heap.size w w1) := HB.out.trans (hb.mono HB.out.size)
  clear hb HC HW
  go_wp2
  go_ret
  exact ⟨rfl, HF.out⟩

end Go.Proofs.Ytajihpcihlbjgaa
