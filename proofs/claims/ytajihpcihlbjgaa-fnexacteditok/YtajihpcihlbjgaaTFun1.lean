/- The sum of a tally; the place of a cell: both. -/
import Derived.Test.YtajihpcihlbjgaaTSt
import Derived.Test.YtajihpcihlbjgaaKDots
namespace Go.Proofs.Ytajihpcihlbjgaa
set_option maxRecDepth 100000
set_option linter.unusedVariables false
open Go.RowKit

/-- The sum of the first tally of this object and replica. -/
def tallyAt : List Ta → ByteArray → Int → Int
  | [], _, _ => 0
  | t :: l, o, r => if t.o = o ∧ t.r = r then t.n else tallyAt l o r
theorem tallyAt_drop (l : List Ta) (o : ByteArray) (r : Int) (k : Nat) (h : k < l.length) : tallyAt (l.drop k) o r = if l[k].o = o ∧ l[k].r = r then l[k].n else tallyAt (l.drop (k + 1)) o r := by
  rw [List.drop_eq_getElem_cons h]; rfl
/-- The place of the first cell of this dot, from k on. -/
def cellAt : List Ce → Int → Int → Int → Int
  | [], _, _, _ => -1
  | c :: l, r, s, k => if c.r = r ∧ c.s = s then k else cellAt l r s (k + 1)
theorem cellAt_drop (l : List Ce) (r s : Int) (k : Nat) (h : k < l.length) : cellAt (l.drop k) r s k = if l[k].r = r ∧ l[k].s = s then (k : Int) else cellAt (l.drop (k + 1)) r s (k + 1 : Nat) := by
  rw [List.drop_eq_getElem_cons h]; show (if _ then _ else _) = _; rfl

set_option maxHeartbeats 4000000 in
theorem tallyAt_calls (S : Sta) (u0 u1 u2 u3 : Value) (o : ByteArray) (r : Int) (w : World) (hn : S.T.length ≤ 1048576) (h : StAt w S u0 u1 u2 u3) :
    Calls Try.prog 12 #[.agg #[u0, u1, u2, u3], .string o, .int .i64 r] w fun e w' => e = .returned (.int .i64 (tallyAt S.T o r)) ∧ Below w.heap.size w w' := by
  obtain ⟨a0, c0, a1, c1, a2, c2, a3, c3, rfl, rfl, rfl, rfl⟩ := h.shape
  obtain ⟨W, hW⟩ : ∃ W, W = w.alloc (.cells #[.slice a0 S.l.length c0, .slice a1 S.T.length c1, .slice a2 S.L.length c2, .slice a3 S.C.length c3] 36) := ⟨_, rfl⟩
  have HP : Hid (∀ wx, Below W.heap.size W wx → Row wx w.heap.size #[.slice a0 S.l.length c0, .slice a1 S.T.length c1, .slice a2 S.L.length c2, .slice a3 S.C.length c3] 36) := fun wx h => by
    have h0 : Row W w.heap.size #[.slice a0 S.l.length c0, .slice a1 S.T.length c1, .slice a2 S.L.length c2, .slice a3 S.C.length c3] 36 := by rw [hW]; exact row_new w _ _ rfl
    exact h0.next h
  have HB : Hid (Below w.heap.size w W) := by rw [hW]; exact (Below.refl _ _).alloc (Nat.le_refl _) _
  have HS : Hid (StAt W S (.slice a0 S.l.length c0) (.slice a1 S.T.length c1) (.slice a2 S.L.length c2) (.slice a3 S.C.length c3)) := by rw [hW]; exact h.alloc _
  have hWs : W.heap.size = w.heap.size + 1 := by rw [hW]; simp
  have HW : Hid (w.alloc (.cells #[.slice a0 S.l.length c0, .slice a1 S.T.length c1, .slice a2 S.L.length c2, .slice a3 S.C.length c3] 36) = W) := hW.symm
  clear hW h
  obtain ⟨l, hl⟩ : ∃ l, l = S.T := ⟨_, rfl⟩
  have HGA : Hid (TaG W a1 l) := by
    obtain ⟨x, y, hq, hg⟩ := HS.out.2.1
    simp only [Value.slice.injEq] at hq
    rw [hl, hq.1]; exact hg
  obtain ⟨R, hR⟩ : ∃ R, R = tallyAt S.T o r := ⟨_, rfl⟩
  rw [← hR]
  rw [← hl] at hR hn
  have HR : Hid (R = tallyAt (l.drop 0) o r) := hR
  obtain ⟨n, hnl⟩ : ∃ n, n = l.length := ⟨_, rfl⟩
  have HL : Hid (n = l.length) := hnl
  rw [← hl, ← hnl] at HP HW
  rw [← hl, ← hnl]
  rw [← hnl] at hn
  clear HS hR hnl hl
  go_enter Try.func12, Try.ntmps12
  have d1 := (HP.out W (Below.refl _ _)).cell 1 rfl
  rw [← HW.out] at d1
  go_wp2
  rw [HW.out]
  clear d1 HW
  go_loopw [12] (fun z wr => ∃ k : Nat, k ≤ n ∧ z = .int .i64 k ∧ R = tallyAt (l.drop k) o r ∧ Below W.heap.size W wr) (fun z _ => n - (intOf z).toNat)
  case atStart => exact ⟨0, Nat.zero_le _, rfl, HR.out, Below.refl _ _⟩
  case round =>
    clear HR
    obtain ⟨k, hk, rfl, hr, hbel⟩ := hrel
    have HBE : Hid (Below W.heap.size W wr) := hbel
    have d1 := (HP.out wr hbel).cell 1 rfl
    have hsz := hbel.size
    by_cases hlt : k < n
    · have hkl : k < l.length := by rw [← HL.out]; exact hlt
      obtain ⟨g, f, rfl, hg, hcc⟩ := HGA.out (by omega)
      have hk1 : (k : Int) < n := by omega
      have hk0 : (0 : Int) ≤ k := by omega
      have q := (hcc k hkl).below hbel hg
      rw [tallyAt_drop l o r k hkl] at hr
      generalize l[k] = x at *
      unfold taC at q
      obtain ⟨q0, q1, q2⟩ := q
      clear hcc hbel hkl
      by_cases h1 : x.o = o
      · have b1 := beq_str x.o o h1
        by_cases h2 : x.r = r
        · have b2 : (x.r == r) = true := by simp [h2]
          have HE : Hid (R = x.n) := by show _ = _; rw [hr, if_pos ⟨h1, h2⟩]
          clear hr h1 h2
          go_wp2
          go_ret
          exact ⟨by rw [HE.out]; rfl, HB.out.trans ((HBE.out.alloc hsz _).mono HB.out.size)⟩
        · have b2 : (x.r == r) = false := by simp [h2]
          have HE : Hid (R = tallyAt (l.drop (k + 1)) o r) := by show _ = _; rw [hr, if_neg (fun h => h2 h.2)]
          clear hr h1 h2
          go_wp2
          go_roundw
          case rel => exact ⟨k + 1, by omega, by go_num, HE.out, HBE.out.alloc hsz _⟩
          case measure => simp [intOf]; omega
      · have b1 := beq_str_no x.o o h1
        have HE : Hid (R = tallyAt (l.drop (k + 1)) o r) := by show _ = _; rw [hr, if_neg (fun h => h1 h.1)]
        clear hr h1
        go_wp2
        go_roundw
        case rel => exact ⟨k + 1, by omega, by go_num, HE.out, HBE.out.alloc hsz _⟩
        case measure => simp [intOf]; omega
    · have hk1 : ¬ ((k : Int) < n) := by omega
      have HE : Hid (R = 0) := by
        have hkn : k = l.length := by have := HL.out; omega
        rw [hkn, List.drop_length] at hr
        exact hr
      clear hr hbel
      go_wp2
      go_ret
      exact ⟨by rw [HE.out]; rfl, HB.out.trans (HBE.out.mono HB.out.size)⟩

set_option maxHeartbeats 4000000 in
theorem specTallyAt_calls (S : Sta) (u0 u1 u2 u3 : Value) (o : ByteArray) (r : Int) (w : World) (hn : S.T.length ≤ 1048576) (h : StAt w S u0 u1 u2 u3) :
    Calls Try.prog 23 #[.agg #[u0, u1, u2, u3], .string o, .int .i64 r] w fun e w' => e = .returned (.int .i64 (tallyAt S.T o r)) ∧ Below w.heap.size w w' := by
  obtain ⟨a0, c0, a1, c1, a2, c2, a3, c3, rfl, rfl, rfl, rfl⟩ := h.shape
  obtain ⟨W, hW⟩ : ∃ W, W = w.alloc (.cells #[.slice a0 S.l.length c0, .slice a1 S.T.length c1, .slice a2 S.L.length c2, .slice a3 S.C.length c3] 36) := ⟨_, rfl⟩
  have HP : Hid (∀ wx, Below W.heap.size W wx → Row wx w.heap.size #[.slice a0 S.l.length c0, .slice a1 S.T.length c1, .slice a2 S.L.length c2, .slice a3 S.C.length c3] 36) := fun wx h => by
    have h0 : Row W w.heap.size #[.slice a0 S.l.length c0, .slice a1 S.T.length c1, .slice a2 S.L.length c2, .slice a3 S.C.length c3] 36 := by rw [hW]; exact row_new w _ _ rfl
    exact h0.next h
  have HB : Hid (Below w.heap.size w W) := by rw [hW]; exact (Below.refl _ _).alloc (Nat.le_refl _) _
  have HS : Hid (StAt W S (.slice a0 S.l.length c0) (.slice a1 S.T.length c1) (.slice a2 S.L.length c2) (.slice a3 S.C.length c3)) := by rw [hW]; exact h.alloc _
  have hWs : W.heap.size = w.heap.size + 1 := by rw [hW]; simp
  have HW : Hid (w.alloc (.cells #[.slice a0 S.l.length c0, .slice a1 S.T.length c1, .slice a2 S.L.length c2, .slice a3 S.C.length c3] 36) = W) := hW.symm
  clear hW h
  obtain ⟨l, hl⟩ : ∃ l, l = S.T := ⟨_, rfl⟩
  have HGA : Hid (TaG W a1 l) := by
    obtain ⟨x, y, hq, hg⟩ := HS.out.2.1
    simp only [Value.slice.injEq] at hq
    rw [hl, hq.1]; exact hg
  obtain ⟨R, hR⟩ : ∃ R, R = tallyAt S.T o r := ⟨_, rfl⟩
  rw [← hR]
  rw [← hl] at hR hn
  have HR : Hid (R = tallyAt (l.drop 0) o r) := hR
  obtain ⟨n, hnl⟩ : ∃ n, n = l.length := ⟨_, rfl⟩
  have HL : Hid (n = l.length) := hnl
  rw [← hl, ← hnl] at HP HW
  rw [← hl, ← hnl]
  rw [← hnl] at hn
  clear HS hR hnl hl
  go_enter Try.func23, Try.ntmps23
  have d1 := (HP.out W (Below.refl _ _)).cell 1 rfl
  rw [← HW.out] at d1
  go_wp2
  rw [HW.out]
  clear d1 HW
  go_loopw [7] (fun z wr => ∃ k : Nat, k ≤ n ∧ z = .int .i64 k ∧ R = tallyAt (l.drop k) o r ∧ Below W.heap.size W wr) (fun z _ => n - (intOf z).toNat)
  case atStart => exact ⟨0, Nat.zero_le _, rfl, HR.out, Below.refl _ _⟩
  case round =>
    clear HR
    obtain ⟨k, hk, rfl, hr, hbel⟩ := hrel
    have HBE : Hid (Below W.heap.size W wr) := hbel
    have d1 := (HP.out wr hbel).cell 1 rfl
    have hsz := hbel.size
    by_cases hlt : k < n
    · have hkl : k < l.length := by rw [← HL.out]; exact hlt
      obtain ⟨g, f, rfl, hg, hcc⟩ := HGA.out (by omega)
      have hk1 : (k : Int) < n := by omega
      have hk0 : (0 : Int) ≤ k := by omega
      have q := (hcc k hkl).below hbel hg
      rw [tallyAt_drop l o r k hkl] at hr
      generalize l[k] = x at *
      unfold taC at q
      obtain ⟨q0, q1, q2⟩ := q
      clear hcc hbel hkl
      by_cases h1 : x.o = o
      · have b1 := beq_str x.o o h1
        by_cases h2 : x.r = r
        · have b2 : (x.r == r) = true := by simp [h2]
          have HE : Hid (R = x.n) := by show _ = _; rw [hr, if_pos ⟨h1, h2⟩]
          clear hr h1 h2
          go_wp2
          go_ret
          exact ⟨by rw [HE.out]; rfl, HB.out.trans (HBE.out.mono HB.out.size)⟩
        · have b2 : (x.r == r) = false := by simp [h2]
          have HE : Hid (R = tallyAt (l.drop (k + 1)) o r) := by show _ = _; rw [hr, if_neg (fun h => h2 h.2)]
          clear hr h1 h2
          go_wp2
          go_roundw
          case rel => exact ⟨k + 1, by omega, by go_num, HE.out, HBE.out⟩
          case measure => simp [intOf]; omega
      · have b1 := beq_str_no x.o o h1
        have HE : Hid (R = tallyAt (l.drop (k + 1)) o r) := by show _ = _; rw [hr, if_neg (fun h => h1 h.1)]
        clear hr h1
        go_wp2
        go_roundw
        case rel => exact ⟨k + 1, by omega, by go_num, HE.out, HBE.out⟩
        case measure => simp [intOf]; omega
    · have hk1 : ¬ ((k : Int) < n) := by omega
      have HE : Hid (R = 0) := by
        have hkn : k = l.length := by have := HL.out; omega
        rw [hkn, List.drop_length] at hr
        exact hr
      clear hr hbel
      go_wp2
      go_ret
      exact ⟨by rw [HE.out]; rfl, HB.out.trans (HBE.out.mono HB.out.size)⟩

end Go.Proofs.Ytajihpcihlbjgaa
