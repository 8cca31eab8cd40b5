/- What is drawn for the laws on knowledges. -/
import Derived.Test.YtpojipiagnbgjaaKDraw
import Derived.Test.YtpojipiagnbgjaaKRow
namespace Go.Proofs.Ytpojipiagnbgjaa
open Go.RowKit

theorem DotAt.keep {w w' : World} {b p : Nat} {r s : Int} (h : DotAt w b r s) (hg : w.grownBy w' (some p)) (hne : b ≠ p) : DotAt w' b r s :=
  (hg.block b h.lt (fun e => hne (Option.some.inj e))).trans h

set_option maxHeartbeats 1600000 in
theorem anyDotD (B p : Nat) (v : Value) (n : Nat) (hn : n ≤ 1048576) (w : World) (hB : B ≤ w.heap.size) (hc : Cur w B p v n) :
    Calls Try.prog 52 #[.pointer (some ⟨p, 0, none⟩)] w fun e w' => ∃ r s : Int, e = .returned (dot r s) ∧ Drew w w' B p v n := by
  have hp := hc.lt
  have hpne : w.heap.size ≠ p := by omega
  have hc0 : Drew w (w.alloc (.cells #[.int .i64 0, .int .i64 0] 32)) B p v n := (Drew.refl hc).alloc hp hB _
  have hF0 : DotAt (w.alloc (.cells #[.int .i64 0, .int .i64 0] 32)) w.heap.size 0 0 := dotAt_new w _ _ rfl
  go_enter Try.func52, Try.ntmps52
  go_wp2_with fail
  refine (dotD B p v n hn _ (by simp; omega) hc0.1).mono ?_
  rintro e w1 ⟨r, s, rfl, hd1⟩
  unfold dot
  have hF1 := (hF0.keep hd1.2 hpne).alloc (.cells #[.int .i64 r, .int .i64 s] 32)
  have hG1 := dotAt_new w1 r s rfl
  have hn1 := (hF0.keep hd1.2 hpne).lt
  have hd01 := (hc0.trans hd1).alloc hp hB (.cells #[.int .i64 r, .int .i64 s] 32)
  have hq1 : w1.heap.size ≠ p := by omega
  have hpl : w.heap.size ≤ w1.heap.size := by omega
  clear hF0 hc0 hd1
  go_wp2_with fail
  refine (belowD 10 (by omega) (by omega) B p v n hn _ hd01.1).mono ?_
  rintro e w2 ⟨x, rfl, hx, hd2⟩
  have hF2 := hF1.keep hd2.2 hpne
  have hG2 := hG1.keep hd2.2 hq1
  have hd02 := hd01.trans hd2
  have hw2 : p < w2.heap.size := by have := hF2.lt; omega
  have hne : w.heap.size ≠ w1.heap.size := by omega
  clear hF1 hG1 hd01 hd2
  by_cases h0 : x = 0
  · subst h0
    have hF3 := hF2.alloc (.cells #[.int .i64 (-1), .int .i64 3] 3)
    have hG3 := hG2.alloc (.cells #[.int .i64 (-1), .int .i64 3] 3)
    have hd3 := hd02.alloc hp hB (.cells #[.int .i64 (-1), .int .i64 3] 3)
    go_wp2_with fail
    refine (pickD 2 w2.heap.size 2 (by omega) (by omega) B p v n hn _ hd3.1 (by omega) (duo_new w2 (-1) 3 3)).mono ?_
    rintro e w4 ⟨z, -, rfl, hd4⟩
    have hF4 := hF3.keep hd4.2 hpne
    have hG4 := hG3.keep hd4.2 hq1
    have hd04 := hd3.trans hd4
    clear hF3 hG3 hd3 hd4 hF2 hG2 hd02
    have c0 := hF4.c0
    have c1 := hF4.c1
    have f0 := hF4.free 0
    have f1 := hF4.free 1
    have d0 := hG4.c0
    have d1 := hG4.c1
    have g0 := hG4.free 0
    go_wp2
    exact bodyPost_ret (ret_dot rfl rfl (((hF4.other (p := ⟨w1.heap.size, 0, none⟩) hne _).set0 _).set1 _)) rfl ⟨_, _, rfl, ((hd04.set hp hB hpl 0 _).set hp hB (Nat.le_refl _) 0 _).set hp hB (Nat.le_refl _) 1 _⟩
  by_cases h1 : x = 1
  · subst h1
    have hF3 := hF2.alloc (.cells #[.int .i64 0, .int .i64 1000, .int .i64 1001] 3)
    have hG3 := hG2.alloc (.cells #[.int .i64 0, .int .i64 1000, .int .i64 1001] 3)
    have hd3 := hd02.alloc hp hB (.cells #[.int .i64 0, .int .i64 1000, .int .i64 1001] 3)
    go_wp2_with fail
    refine (pickD 3 w2.heap.size 3 (by omega) (by omega) B p v n hn _ hd3.1 (by omega) (three_new w2 0 1000 1001 3)).mono ?_
    rintro e w4 ⟨z, -, rfl, hd4⟩
    have hF4 := hF3.keep hd4.2 hpne
    have hG4 := hG3.keep hd4.2 hq1
    have hd04 := hd3.trans hd4
    clear hF3 hG3 hd3 hd4 hF2 hG2 hd02
    have c0 := hF4.c0
    have c1 := hF4.c1
    have f0 := hF4.free 0
    have f1 := hF4.free 1
    have d0 := hG4.c0
    have d1 := hG4.c1
    have g0 := hG4.free 1
    go_wp2
    exact bodyPost_ret (ret_dot rfl rfl (((hF4.other (p := ⟨w1.heap.size, 1, none⟩) hne _).set0 _).set1 _)) rfl ⟨_, _, rfl, ((hd04.set hp hB hpl 1 _).set hp hB (Nat.le_refl _) 0 _).set hp hB (Nat.le_refl _) 1 _⟩
  · have h3 : decide ((x : Int) = 0) = false := by simp; omega
    have h4 : decide ((x : Int) = 1) = false := by simp; omega
    have c0 := hF2.c0
    have c1 := hF2.c1
    have f0 := hF2.free 0
    have f1 := hF2.free 1
    have d0 := hG2.c0
    have d1 := hG2.c1
    go_wp2
    exact bodyPost_ret (ret_dot rfl rfl ((hF2.set0 _).set1 _)) rfl ⟨_, _, rfl, (hd02.set hp hB (Nat.le_refl _) 0 _).set hp hB (Nat.le_refl _) 1 _⟩

set_option maxHeartbeats 1000000 in
theorem drawKnow_calls (B : Nat) (v : Value) (n : Nat) (hn : n ≤ 1048576) (w : World) (hB : B ≤ w.heap.size) (hc : CodeIs w B v n) :
    Calls Try.prog 13 #[v] w fun e w' => ∃ (u : Value) (l : List Int) (x : Value) (m : List Int), KOk l ∧ KOk m ∧ e = .returned (.tuple #[u, x]) ∧ IntsAt w' u l ∧ IntsAt w' x m ∧ Below w.heap.size w w' := by
  go_enter Try.func13, Try.ntmps13
  go_wp2_with fail
  refine (new_calls B v n hn w hB hc).mono ?_
  rintro e w1 ⟨rfl, hc1, hb1⟩
  have hB1 : B ≤ w1.heap.size := Nat.le_trans hB hb1.size
  go_wp2_with fail
  refine (knowD B w.heap.size v n hn _ hB1 hc1).mono ?_
  rintro e w2 ⟨u, l, hk, rfl, ho2, hd2⟩
  have hb2 := Drew.below hb1 hd2 (Nat.le_refl _)
  go_wp2_with fail
  refine (knowD B w.heap.size v n hn _ (Nat.le_trans hB1 hd2.2.size) hd2.1).mono ?_
  rintro e w3 ⟨x, m, hk', rfl, ho3, hd3⟩
  have hb3 := Drew.below hb2 hd3 (Nat.le_refl _)
  have ho2' := own_drew (w := w1) ho2 hd3 hc1.lt
  have k1 : IntsAt w3 u l := IntsAt.own ho2' hk.1
  have k2 : IntsAt w3 x m := IntsAt.own ho3 hk'.1
  clear ho2 ho2' ho3 hd2 hd3 hb2 hb1 hc1
  go_wp2
  go_ret2
  exact ⟨u, l, x, m, hk, hk', rfl, k1, k2, hb3⟩

set_option maxHeartbeats 1000000 in
theorem pair_calls (B : Nat) (v : Value) (n : Nat) (hn : n ≤ 1048576) (w : World) (hB : B ≤ w.heap.size) (hc : CodeIs w B v n) :
    Calls Try.prog 51 #[v] w fun e w' => ∃ (u : Value) (l : List Int) (x : Value) (m : List Int), l.length ≤ 4 ∧ m.length ≤ 4 ∧ e = .returned (.tuple #[u, x]) ∧ IntsAt w' u l ∧ IntsAt w' x m ∧ Below w.heap.size w w' := by
  go_enter Try.func51, Try.ntmps51
  go_wp2_with fail
  refine (new_calls B v n hn w hB hc).mono ?_
  rintro e w1 ⟨rfl, hc1, hb1⟩
  have hB1 : B ≤ w1.heap.size := Nat.le_trans hB hb1.size
  go_wp2_with fail
  refine (anyKD B w.heap.size v n hn _ hB1 hc1).mono ?_
  rintro e w2 ⟨u, l, hk, rfl, ho2, hd2⟩
  have hb2 := Drew.below hb1 hd2 (Nat.le_refl _)
  go_wp2_with fail
  refine (anyKD B w.heap.size v n hn _ (Nat.le_trans hB1 hd2.2.size) hd2.1).mono ?_
  rintro e w3 ⟨x, m, hk', rfl, ho3, hd3⟩
  have hb3 := Drew.below hb2 hd3 (Nat.le_refl _)
  have ho2' := own_drew (w := w1) ho2 hd3 hc1.lt
  have k1 : IntsAt w3 u l := IntsAt.own ho2' rfl
  have k2 : IntsAt w3 x m := IntsAt.own ho3 rfl
  clear ho2 ho2' ho3 hd2 hd3 hb2 hb1 hc1
  go_wp2
  go_ret2
  exact ⟨u, l, x, m, hk, hk', rfl, k1, k2, hb3⟩

set_option maxHeartbeats 1000000 in
theorem drawKnowIn_calls (B : Nat) (v : Value) (n : Nat) (hn : n ≤ 1048576) (w : World) (hB : B ≤ w.heap.size) (hc : CodeIs w B v n) :
    Calls Try.prog 19 #[v] w fun e w' => ∃ (u : Value) (l : List Int) (x : Value) (m : List Int), l.length ≤ 4 ∧ m.length ≤ 4 ∧ e = .returned (.tuple #[u, x]) ∧ IntsAt w' u l ∧ IntsAt w' x m ∧ Below w.heap.size w w' := by
  go_enter Try.func19, Try.ntmps19
  go_wp2_with fail
  refine (pair_calls B v n hn w hB hc).mono ?_
  rintro e w1 ⟨u, l, x, m, hk, hk', rfl, k1, k2, hb1⟩
  go_wp2
  go_ret2
  exact ⟨u, l, x, m, hk, hk', rfl, k1, k2, hb1⟩

set_option maxHeartbeats 1000000 in
theorem drawDotOk_calls (B : Nat) (v : Value) (n : Nat) (hn : n ≤ 1048576) (w : World) (hB : B ≤ w.heap.size) (hc : CodeIs w B v n) :
    Calls Try.prog 21 #[v] w fun e w' => ∃ r s : Int, e = .returned (dot r s) ∧ Below w.heap.size w w' := by
  obtain ⟨W, hW⟩ : ∃ W, W = w.alloc (.cells #[.int .i64 0, .int .i64 0] 32) := ⟨_, rfl⟩
  have hb0 : Below w.heap.size w W := by rw [hW]; exact (Below.refl _ _).alloc (Nat.le_refl _) _
  have hF0 : DotAt W w.heap.size 0 0 := by rw [hW]; exact dotAt_new w _ _ rfl
  have hcW : CodeIs W B v n := hc.below (hb0.mono hB)
  have HN : Hid (Calls Try.prog 43 #[v] W fun e w' => e = .returned (.pointer (some ⟨W.heap.size, 0, none⟩)) ∧ Cur w' B W.heap.size v n ∧ Below W.heap.size W w') := new_calls B v n hn W (Nat.le_trans hB hb0.size) hcW
  have HW : Hid (W = w.alloc (.cells #[.int .i64 0, .int .i64 0] 32)) := hW
  clear hW
  go_enter Try.func21, Try.ntmps21
  go_wp2_with fail
  rw [← HW.out]
  refine HN.out.mono ?_
  rintro e w1 ⟨rfl, hc1, hb1⟩
  have hF1 := hF0.below hb1 hF0.lt
  have hne : w.heap.size ≠ W.heap.size := Nat.ne_of_lt hF0.lt
  go_wp2_with fail
  refine (anyDotD B W.heap.size v n hn _ (Nat.le_trans hB (Nat.le_trans hb0.size hb1.size)) hc1).mono ?_
  rintro e w2 ⟨r, s, rfl, hd2⟩
  unfold dot
  have hF2 := hF1.keep hd2.2 hne
  have c0 := hF2.c0
  have c1 := hF2.c1
  have f0 := hF2.free 0
  have f1 := hF2.free 1
  have hb2 : Below w.heap.size w w2 := (hb0.trans (hb1.mono hb0.size)).grown hd2.2 (Nat.le_trans hb0.size hb1.size) (fun k hk => by cases hk; exact hb0.size)
  go_wp2
  exact bodyPost_ret (ret_dot rfl rfl ((hF2.set0 r).set1 s)) rfl ⟨r, s, rfl, (hb2.setCell (p := ⟨w.heap.size, 0, none⟩) (Nat.le_refl _) _).setCell (p := ⟨w.heap.size, 1, none⟩) (Nat.le_refl _) _⟩

theorem ret_tmp_dot {fn : Func} {p u : Tmp} (h : fn.results = #[.tmp u, .cell p 32]) {tmps : Array Value} {w : World} {g : Nat} {r s : Int} {v : Value} (hv : tmps.getD u undef = v) (hp : tmps.getD p undef = .pointer (some ⟨g, 0, none⟩)) (hg : DotAt w g r s) :
    (results fn tmps).run Try.prog w = .ok (.tuple #[v, dot r s]) w := by
  rw [Array.getD_eq_getD_getElem?] at hp hv
  have hld : (loadVar 32 ⟨g, 0, none⟩).run Try.prog w = .ok (dot r s) w := run_loadVar_row w g 32 32 _ (0, 0) _ hg Try.underlying32 rfl (by kernel_rfl)
  simp only [results, h]
  simp [hp, hv, asAddr, Result.andThen, hld]

set_option maxHeartbeats 1600000 in
theorem drawKnows_calls (B : Nat) (v : Value) (n : Nat) (hn : n ≤ 1048576) (w : World) (hB : B ≤ w.heap.size) (hc : CodeIs w B v n) :
    Calls Try.prog 20 #[v] w fun e w' => ∃ (u : Value) (l : List Int) (r s : Int), l.length ≤ 4 ∧ e = .returned (.tuple #[u, dot r s]) ∧ IntsAt w' u l ∧ Below w.heap.size w w' := by
  obtain ⟨W, hW⟩ : ∃ W, W = w.alloc (.cells #[.int .i64 0, .int .i64 0] 32) := ⟨_, rfl⟩
  have hb0 : Below w.heap.size w W := by rw [hW]; exact (Below.refl _ _).alloc (Nat.le_refl _) _
  have hF0 : DotAt W w.heap.size 0 0 := by rw [hW]; exact dotAt_new w _ _ rfl
  have hcW : CodeIs W B v n := hc.below (hb0.mono hB)
  have HN : Hid (Calls Try.prog 43 #[v] W fun e w' => e = .returned (.pointer (some ⟨W.heap.size, 0, none⟩)) ∧ Cur w' B W.heap.size v n ∧ Below W.heap.size W w') := new_calls B v n hn W (Nat.le_trans hB hb0.size) hcW
  have HW : Hid (W = w.alloc (.cells #[.int .i64 0, .int .i64 0] 32)) := hW
  clear hW
  go_enter Try.func20, Try.ntmps20
  go_wp2_with fail
  rw [← HW.out]
  refine HN.out.mono ?_
  rintro e w1 ⟨rfl, hc1, hb1⟩
  have hF1 := hF0.below hb1 hF0.lt
  have hne : w.heap.size ≠ W.heap.size := Nat.ne_of_lt hF0.lt
  have hB1 : B ≤ w1.heap.size := Nat.le_trans hB (Nat.le_trans hb0.size hb1.size)
  have hb01 : Below w.heap.size w w1 := hb0.trans (hb1.mono hb0.size)
  have hW1 : W.heap.size < w1.heap.size := hc1.lt
  go_wp2_with fail
  refine (anyDotD B W.heap.size v n hn _ hB1 hc1).mono ?_
  rintro e w2 ⟨r, s, rfl, hd2⟩
  unfold dot
  have hF2 := (hF1.keep hd2.2 hne).alloc (.cells #[.int .i64 r, .int .i64 s] 32)
  have hG2 := dotAt_new w2 r s rfl
  have hd02 := hd2.alloc hW1 hB1 (.cells #[.int .i64 r, .int .i64 s] 32)
  have hne2 : w2.heap.size ≠ W.heap.size := by have := hd2.2.size; omega
  have hne3 : w.heap.size ≠ w2.heap.size := by have := (hF1.keep hd2.2 hne).lt; omega
  clear hd2
  go_wp2
  generalize w2.alloc (.cells #[.int .i64 r, .int .i64 s] 32) = w3 at *
  have HA : Hid (∀ wx, Cur wx B W.heap.size v n → B ≤ wx.heap.size → Calls Try.prog 53 #[.pointer (some ⟨W.heap.size, 0, none⟩)] wx fun e w' => ∃ (u : Value) (l : List Int), l.length ≤ 4 ∧ e = .returned u ∧ w'.ownsRow wx.heap.size 3 1 u l.length (intV l) ∧ Drew wx w' B W.heap.size v n) := fun wx h h' => anyKD B W.heap.size v n hn wx h' h
  have hd3 : Drew w1 w3.drew B W.heap.size v n := hd02.kept (row := none) hW1 hB1 ⟨rfl, rfl, rfl, Nat.le_refl _, fun _ _ _ => rfl⟩ (fun k hk => by cases hk)
  have hF3 := hF2.drew
  have hG3 := hG2.drew
  have c0 := hG3.c0
  have c1 := hG3.c1
  have hB3 : B ≤ w3.drew.heap.size := Nat.le_trans hB1 hd3.2.size
  go_region_with (first | (go_at_call 53; refine (HA.out _ hd3.1 hB3).mono ?_; rintro e w4 ⟨u, l, hl4, rfl, ho4, hd4⟩; have hF4 := hF3.keep hd4.2 hne; have hG4 := hG3.keep hd4.2 hne2; have e0 := hF4.c0; have e1 := hF4.c1; have f0 := hF4.free 0; have f1 := hF4.free 1; have i0 := hG4.c0; have i1 := hG4.c1))
  all_goals
    have hd14 := hd3.trans hd4
    have hb4 : Below w.heap.size w w4 := hb01.grown hd14.2 hb01.size (fun k hk => by cases hk; exact hb0.size)
    have hnb : u.ownBlock = none ∨ u.ownBlock ≠ some w.heap.size := by
      cases hv : u.ownBlock with
      | none => exact .inl rfl
      | some g => exact .inr fun e => by have := (ho4.lt g hv).1; have := hF3.lt; cases e; omega
    have HK : Hid (IntsAt ((w4.setCell ⟨w.heap.size, 0, none⟩ (.int .i64 r)).setCell ⟨w.heap.size, 1, none⟩ (.int .i64 s)) u l) := IntsAt.own ((ho4.kept (set_grown w4 w.heap.size 0 (.int .i64 r)).1 hnb).kept (set_grown _ w.heap.size 1 (.int .i64 s)).1 hnb) rfl
    go_wp2
    exact bodyPost_ret (ret_tmp_dot rfl rfl rfl ((hF4.set0 r).set1 s)) rfl ⟨u, l, r, s, hl4, rfl, HK.out, (hb4.setCell (p := ⟨w.heap.size, 0, none⟩) (Nat.le_refl _) _).setCell (p := ⟨w.heap.size, 1, none⟩) (Nat.le_refl _) _⟩

end Go.Proofs.Ytpojipiagnbgjaa
