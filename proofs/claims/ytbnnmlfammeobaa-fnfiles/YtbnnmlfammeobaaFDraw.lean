/- What is drawn for a file: a right one, any one, a keep, a text. Of what is drawn only the bounds are told. -/
import Derived.Test.YtbnnmlfammeobaaCText
import Derived.Test.YtbnnmlfammeobaaCBig
import Derived.Test.YtbnnmlfammeobaaCLong
import Derived.Test.YtbnnmlfammeobaaFSpec
namespace Go.Proofs.Ytbnnmlfammeobaa
open Go.RowKit

theorem FileAt.grown {w w' : World} {b p : Nat} {s : ByteArray} {n : Int} (h : FileAt w b s n) (hg : w.grownBy w' (some p)) (hne : p ≠ b) : FileAt w' b s n :=
  (hg.block b h.lt (fun e => hne (Option.some.inj e).symm)).trans h
/-- What is stored into new memory turns no cursor. -/
theorem Drew.set {a w : World} {B p : Nat} {v : Value} {n : Nat} (h : Drew a w B p v n) (hp : p < a.heap.size) (hB : B ≤ a.heap.size) {b : Nat} (hb : a.heap.size ≤ b) (j : Nat) (x : Value) : Drew a (w.setCell ⟨b, j, none⟩ x) B p v n :=
  h.kept hp hB (set_grown w b j x).1 (fun k hk => by cases hk; exact hb)

set_option maxHeartbeats 1000000 in
theorem fileD (B p : Nat) (v : Value) (n : Nat) (hn : n ≤ 1048576) (w : World) (hB : B ≤ w.heap.size) (hc : Cur w B p v n) :
    Calls Try.prog 26 #[.pointer (some ⟨p, 0, none⟩)] w fun e w' => ∃ (s : ByteArray) (k : Nat), s.size < 20 ∧ k ≤ s.size ∧ e = .returned (.agg #[.string s, .int .i64 (k : Int)]) ∧ Drew w w' B p v n := by
  have hp := hc.lt
  have hpne : p ≠ w.heap.size := Nat.ne_of_lt hp
  have hc0 : Drew w (w.alloc (.cells #[.string { data := #[] }, .int .i64 0] 25)) B p v n := (Drew.refl hc).alloc hp hB _
  have hF0 : FileAt (w.alloc (.cells #[.string { data := #[] }, .int .i64 0] 25)) w.heap.size { data := #[] } 0 := fileAt_new w _ _ rfl
  go_enter Try.func26, Try.ntmps26
  go_wp2_with fail
  refine (belowD 20 (by omega) (by omega) B p v n hn _ hc0.1).mono ?_
  rintro e w1 ⟨x, rfl, hx, hd1⟩
  have hF1 : FileAt w1 w.heap.size { data := #[] } 0 := hF0.grown hd1.2 hpne
  have hd01 := hc0.trans hd1
  go_wp2_with fail
  refine (textD x (by omega) B p v n hn _ (Nat.le_trans hB hd01.2.size) hd01.1).mono ?_
  rintro e w2 ⟨L, hL, rfl, hd2⟩
  have hF2 : FileAt w2 w.heap.size { data := #[] } 0 := hF1.grown hd2.2 hpne
  have hd02 := hd01.trans hd2
  obtain ⟨s, hs⟩ : ∃ s : ByteArray, s = ⟨L.toArray⟩ := ⟨_, rfl⟩
  have hsz : s.size < 20 := by rw [hs]; simp [ByteArray.size]; omega
  rw [← hs]
  clear hs hd01 hd1 hd2 hF0 hF1 hc0 hL
  go_wp2_with fail
  refine (belowD (s.size + 1) (by omega) (by omega) B p v n hn _ hd02.1).mono ?_
  rintro e w3 ⟨k, rfl, hk, hd3⟩
  have hF3 : FileAt w3 w.heap.size { data := #[] } 0 := hF2.grown hd3.2 hpne
  have hd03 := hd02.trans hd3
  have c0 := hF3.text
  have c1 := hF3.synced
  have f0 := hF3.free 0
  have f1 := hF3.free 1
  go_wp2
  exact bodyPost_ret (ret_file rfl rfl ((hF3.setText s).setSynced k)) rfl ⟨s, k, hsz, by omega, rfl, (hd03.set hp hB (Nat.le_refl _) 0 _).set hp hB (Nat.le_refl _) 1 _⟩

theorem grown_of_below {w w' : World} (hb : Below w.heap.size w w') : w.grownBy w' none := ⟨hb.os, hb.tape, hb.output, hb.size, fun i hi _ => hb.block i hi⟩
theorem Drew.call {a w w' : World} {B p : Nat} {v : Value} {n : Nat} (h : Drew a w B p v n) (hp : p < a.heap.size) (hB : B ≤ a.heap.size) (hb : Below w.heap.size w w') : Drew a w' B p v n :=
  h.kept hp hB (grown_of_below hb) (fun k hk => by cases hk)

set_option maxHeartbeats 1000000 in
theorem anyD (B p : Nat) (v : Value) (n : Nat) (hn : n ≤ 1048576) (w : World) (hB : B ≤ w.heap.size) (hc : Cur w B p v n) :
    Calls Try.prog 37 #[.pointer (some ⟨p, 0, none⟩)] w fun e w' => ∃ (s : ByteArray) (k : Int), s.size ≤ 20000 ∧ e = .returned (.agg #[.string s, .int .i64 k]) ∧ Drew w w' B p v n := by
  have hp := hc.lt
  have hpne : p ≠ w.heap.size := Nat.ne_of_lt hp
  have hc0 : Drew w (w.alloc (.cells #[.string { data := #[] }, .int .i64 0] 25)) B p v n := (Drew.refl hc).alloc hp hB _
  have hF0 : FileAt (w.alloc (.cells #[.string { data := #[] }, .int .i64 0] 25)) w.heap.size { data := #[] } 0 := fileAt_new w _ _ rfl
  go_enter Try.func37, Try.ntmps37
  go_wp2_with fail
  refine (belowD 10 (by omega) (by omega) B p v n hn _ hc0.1).mono ?_
  rintro e w1 ⟨x, rfl, hx, hd1⟩
  have hF1 : FileAt w1 w.heap.size { data := #[] } 0 := hF0.grown hd1.2 hpne
  have hd01 := hc0.trans hd1
  go_wp2_with fail
  refine (fileD B p v n hn _ (Nat.le_trans hB hd01.2.size) hd01.1).mono ?_
  rintro e w2 ⟨s, k, hs, hk, rfl, hd2⟩
  have hF2 : FileAt w2 w.heap.size { data := #[] } 0 := hF1.grown hd2.2 hpne
  have hd02 := hd01.trans hd2
  have n2 := hF2.lt
  have c0 := hF2.text
  have c1 := hF2.synced
  have f0 := hF2.free 0
  have f1 := hF2.free 1
  clear hd01 hd1 hd2 hF0 hF1 hc0
  by_cases h0 : x = 0
  · subst h0
    go_wp2
    exact bodyPost_ret (ret_file rfl rfl (((hF2.setText _).setSynced _).alloc _)) rfl ⟨s, _, by omega, rfl, ((hd02.set hp hB (Nat.le_refl _) 0 _).set hp hB (Nat.le_refl _) 1 _).alloc hp hB _⟩
  by_cases h1 : x = 1
  · subst h1
    go_wp2
    exact bodyPost_ret (ret_file rfl rfl (((hF2.setText _).setSynced _).alloc _)) rfl ⟨s, _, by omega, rfl, ((hd02.set hp hB (Nat.le_refl _) 0 _).set hp hB (Nat.le_refl _) 1 _).alloc hp hB _⟩
  by_cases h2 : x = 2
  · subst h2
    have hF3 := hF2.alloc (.cells #[.string s, .int .i64 (k : Int)] 25)
    have hG3 := fileAt_new w2 s k rfl
    have hd03 := hd02.alloc hp hB (.cells #[.string s, .int .i64 (k : Int)] 25)
    go_wp2_with fail
    refine (longD 20000 97 (by omega) (by omega) _).mono ?_
    rintro e w3 ⟨S, hS, rfl, hb3⟩
    have hF4 := hF3.below hb3 hF3.lt
    have hG4 := hG3.below hb3 hG3.lt
    have hd04 := hd03.call hp hB hb3
    have c2 := hF4.text
    have c3 := hF4.synced
    have f2 := hF4.free 0
    have f3 := hF4.free 1
    have d2 := hG4.text
    have d3 := hG4.synced
    have g2 := hG4.free 0
    have hne : w.heap.size ≠ w2.heap.size := Nat.ne_of_lt n2
    go_wp2
    exact bodyPost_ret (ret_file rfl rfl (((hF4.other (a := ⟨w2.heap.size, 0, none⟩) hne _).setText _).setSynced _)) rfl ⟨S, _, by omega, rfl, ((hd04.set hp hB (Nat.le_of_lt n2) 0 _).set hp hB (Nat.le_refl _) 0 _).set hp hB (Nat.le_refl _) 1 _⟩
  · have h3 : decide ((x : Int) = 0) = false := by simp; omega
    have h4 : decide ((x : Int) = 1) = false := by simp; omega
    have h5 : decide ((x : Int) = 2) = false := by simp; omega
    go_wp2
    exact bodyPost_ret (ret_file rfl rfl (((hF2.setText _).setSynced _).alloc _)) rfl ⟨s, _, by omega, rfl, ((hd02.set hp hB (Nat.le_refl _) 0 _).set hp hB (Nat.le_refl _) 1 _).alloc hp hB _⟩

set_option maxHeartbeats 1000000 in
theorem pickD (m g cap : Nat) (h0 : 0 < m) (hm : m ≤ 1000) (B p : Nat) (v : Value) (n : Nat) (hn : n ≤ 1048576) (w : World) (hc : Cur w B p v n) (hgp : g ≠ p) (hg : ∀ i, i < m → ∃ z : Int, w.cell? ⟨g, i, none⟩ = some (.int .i64 z)) :
    Calls Try.prog 36 #[.pointer (some ⟨p, 0, none⟩), .slice (some ⟨g, 0, none⟩) m cap] w fun e w' => ∃ z : Int, (∃ i, i < m ∧ w.cell? ⟨g, i, none⟩ = some (.int .i64 z)) ∧ e = .returned (.int .i64 z) ∧ Drew w w' B p v n := by
  go_enter Try.func36, Try.ntmps36
  go_wp2_with fail
  refine (belowD m h0 (by omega) B p v n hn _ hc).mono ?_
  rintro e w1 ⟨x, rfl, hx, hd1⟩
  obtain ⟨z, hz⟩ := hg x hx
  have c0 := hd1.2.cell (a := ⟨g, x, none⟩) hz (by simpa using hgp)
  have x0 : (0 : Int) ≤ (x : Int) := Int.natCast_nonneg _
  have x1 : (x : Int) < (m : Int) := by omega
  go_wp2
  go_ret
  exact ⟨z, ⟨x, hx, hz⟩, rfl, hd1⟩

/-- The room for an answer, beside what is drawn. -/
theorem drawFile_calls (B : Nat) (v : Value) (n : Nat) (hn : n ≤ 1048576) (w : World) (hB : B ≤ w.heap.size) (hc : CodeIs w B v n) :
    Calls Try.prog 9 #[v] w fun e w' => ∃ (s : ByteArray) (k : Nat), s.size < 20 ∧ k ≤ s.size ∧ e = .returned (.agg #[.string s, .int .i64 (k : Int)]) ∧ Below w.heap.size w w' := by
  obtain ⟨W, hW⟩ : ∃ W, W = w.alloc (.cells #[.string { data := #[] }, .int .i64 0] 25) := ⟨_, rfl⟩
  have hb0 : Below w.heap.size w W := by rw [hW]; exact (Below.refl _ _).alloc (Nat.le_refl _) _
  have hF0 : FileAt W w.heap.size { data := #[] } 0 := by rw [hW]; exact fileAt_new w _ _ rfl
  have hcW : CodeIs W B v n := hc.below (hb0.mono hB)
  have HN : Hid (Calls Try.prog 27 #[v] W fun e w' => e = .returned (.pointer (some ⟨W.heap.size, 0, none⟩)) ∧ Cur w' B W.heap.size v n ∧ Below W.heap.size W w') := new_calls B v n hn W (Nat.le_trans hB hb0.size) hcW
  have HW : Hid (W = w.alloc (.cells #[.string { data := #[] }, .int .i64 0] 25)) := hW
  clear hW
  go_enter Try.func9, Try.ntmps9
  go_wp2_with fail
  rw [← HW.out]
  refine HN.out.mono ?_
  rintro e w1 ⟨rfl, hc1, hb1⟩
  have hF1 := hF0.below hb1 hF0.lt
  go_wp2_with fail
  refine (fileD B W.heap.size v n hn _ (Nat.le_trans hB (Nat.le_trans hb0.size hb1.size)) hc1).mono ?_
  rintro e w2 ⟨s, k, hs, hk, rfl, hd2⟩
  have hF2 := hF1.grown hd2.2 (Nat.ne_of_gt hF0.lt)
  have c0 := hF2.text
  have c1 := hF2.synced
  have f0 := hF2.free 0
  have f1 := hF2.free 1
  have hb2 : Below w.heap.size w w2 := (hb0.trans (hb1.mono hb0.size)).grown hd2.2 (Nat.le_trans hb0.size hb1.size) (fun k hk => by cases hk; exact hb0.size)
  go_wp2
  exact bodyPost_ret (ret_file rfl rfl ((hF2.setText s).setSynced k)) rfl ⟨s, k, hs, hk, rfl, (hb2.setCell (p := ⟨w.heap.size, 0, none⟩) (Nat.le_refl _) _).setCell (p := ⟨w.heap.size, 1, none⟩) (Nat.le_refl _) _⟩

set_option maxHeartbeats 400000 in
theorem drawSynced_calls (B : Nat) (v : Value) (n : Nat) (hn : n ≤ 1048576) (w : World) (hB : B ≤ w.heap.size) (hc : CodeIs w B v n) :
    Calls Try.prog 17 #[v] w fun e w' => ∃ (s : ByteArray) (k : Int), s.size ≤ 20000 ∧ e = .returned (.agg #[.string s, .int .i64 k]) ∧ Below w.heap.size w w' := by
  obtain ⟨W, hW⟩ : ∃ W, W = w.alloc (.cells #[.string { data := #[] }, .int .i64 0] 25) := ⟨_, rfl⟩
  have hb0 : Below w.heap.size w W := by rw [hW]; exact (Below.refl _ _).alloc (Nat.le_refl _) _
  have hF0 : FileAt W w.heap.size { data := #[] } 0 := by rw [hW]; exact fileAt_new w _ _ rfl
  have hcW : CodeIs W B v n := hc.below (hb0.mono hB)
  have HN : Hid (Calls Try.prog 27 #[v] W fun e w' => e = .returned (.pointer (some ⟨W.heap.size, 0, none⟩)) ∧ Cur w' B W.heap.size v n ∧ Below W.heap.size W w') := new_calls B v n hn W (Nat.le_trans hB hb0.size) hcW
  have HW : Hid (W = w.alloc (.cells #[.string { data := #[] }, .int .i64 0] 25)) := hW
  clear hW
  go_enter Try.func17, Try.ntmps17
  go_wp2_with fail
  rw [← HW.out]
  refine HN.out.mono ?_
  rintro e w1 ⟨rfl, hc1, hb1⟩
  have hF1 := hF0.below hb1 hF0.lt
  have hB1 : B ≤ w1.heap.size := Nat.le_trans hB (Nat.le_trans hb0.size hb1.size)
  have hb01 : Below w.heap.size w w1 := hb0.trans (hb1.mono hb0.size)
  have hpl := hc1.lt
  have hgt : W.heap.size ≠ w.heap.size := Nat.ne_of_gt hF0.lt
  go_wp2_with fail
  refine (anyD B W.heap.size v n hn _ hB1 hc1).mono ?_
  rintro e w9 ⟨s, k, hs, rfl, hd9⟩
  have hF9 := hF1.grown hd9.2 hgt
  have c0 := hF9.text
  have c1 := hF9.synced
  have f0 := hF9.free 0
  have f1 := hF9.free 1
  have hb9 : Below w.heap.size w w9 := hb01.grown hd9.2 hb01.size (fun k hk => by cases hk; exact hb0.size)
  go_wp2
  exact bodyPost_ret (ret_file rfl rfl ((hF9.setText s).setSynced k)) rfl ⟨s, k, hs, rfl, (hb9.setCell (p := ⟨w.heap.size, 0, none⟩) (Nat.le_refl _) _).setCell (p := ⟨w.heap.size, 1, none⟩) (Nat.le_refl _) _⟩

set_option maxHeartbeats 400000 in
theorem drawAppended_calls (B : Nat) (v : Value) (n : Nat) (hn : n ≤ 1048576) (w : World) (hB : B ≤ w.heap.size) (hc : CodeIs w B v n) :
    Calls Try.prog 15 #[v] w fun e w' => ∃ (s : ByteArray) (k : Int) (t : ByteArray), s.size ≤ 20000 ∧ t.size < 5 ∧ e = .returned (.tuple #[.agg #[.string s, .int .i64 k], .string t]) ∧ Below w.heap.size w w' := by
  obtain ⟨W, hW⟩ : ∃ W, W = w.alloc (.cells #[.string { data := #[] }, .int .i64 0] 25) := ⟨_, rfl⟩
  have hb0 : Below w.heap.size w W := by rw [hW]; exact (Below.refl _ _).alloc (Nat.le_refl _) _
  have hF0 : FileAt W w.heap.size { data := #[] } 0 := by rw [hW]; exact fileAt_new w _ _ rfl
  have hcW : CodeIs W B v n := hc.below (hb0.mono hB)
  have HN : Hid (Calls Try.prog 27 #[v] W fun e w' => e = .returned (.pointer (some ⟨W.heap.size, 0, none⟩)) ∧ Cur w' B W.heap.size v n ∧ Below W.heap.size W w') := new_calls B v n hn W (Nat.le_trans hB hb0.size) hcW
  have HW : Hid (W = w.alloc (.cells #[.string { data := #[] }, .int .i64 0] 25)) := hW
  clear hW
  go_enter Try.func15, Try.ntmps15
  go_wp2_with fail
  rw [← HW.out]
  refine HN.out.mono ?_
  rintro e w1 ⟨rfl, hc1, hb1⟩
  have hF1 := hF0.below hb1 hF0.lt
  have hB1 : B ≤ w1.heap.size := Nat.le_trans hB (Nat.le_trans hb0.size hb1.size)
  have hb01 : Below w.heap.size w w1 := hb0.trans (hb1.mono hb0.size)
  have hpl := hc1.lt
  have hgt : W.heap.size ≠ w.heap.size := Nat.ne_of_gt hF0.lt
  go_wp2_with fail
  refine (belowD 5 (by omega) (by omega) B W.heap.size v n hn _ hc1).mono ?_
  rintro e w2 ⟨x, rfl, hx, hd2⟩
  have hF2 := hF1.grown hd2.2 hgt
  go_wp2_with fail
  refine (textD x (by omega) B W.heap.size v n hn _ (Nat.le_trans hB1 hd2.2.size) hd2.1).mono ?_
  rintro e w3 ⟨L, hL, rfl, hd3⟩
  have hF3 := hF2.grown hd3.2 hgt
  have hd03 := hd2.trans hd3
  obtain ⟨t, ht⟩ : ∃ t : ByteArray, t = ⟨L.toArray⟩ := ⟨_, rfl⟩
  have hsz : t.size < 5 := by rw [ht]; simp [ByteArray.size]; omega
  rw [← ht]
  clear ht
  go_wp2_with fail
  refine (anyD B W.heap.size v n hn _ (Nat.le_trans hB1 hd03.2.size) hd03.1).mono ?_
  rintro e w9 ⟨s, k, hs, rfl, hd4⟩
  have hF9 := hF3.grown hd4.2 hgt
  have hd9 := hd03.trans hd4
  have c0 := hF9.text
  have c1 := hF9.synced
  have f0 := hF9.free 0
  have f1 := hF9.free 1
  have hb9 : Below w.heap.size w w9 := hb01.grown hd9.2 hb01.size (fun k hk => by cases hk; exact hb0.size)
  go_wp2
  exact bodyPost_ret (ret_file2 rfl rfl rfl ((hF9.setText s).setSynced k)) rfl ⟨s, k, t, hs, hsz, rfl, (hb9.setCell (p := ⟨w.heap.size, 0, none⟩) (Nat.le_refl _) _).setCell (p := ⟨w.heap.size, 1, none⟩) (Nat.le_refl _) _⟩

theorem six_cells (w : World) (i : Nat) (hi : i < 6) : ∃ z : Int, (w.alloc (.cells #[.int .i64 0, .int .i64 1, .int .i64 3, .int .i64 30, .int .i64 (-1), .int .i64 9223372036854775807] 3)).cell? ⟨w.heap.size, i, none⟩ = some (.int .i64 z) := by
  have h := (MapKept.heap_alloc w (.cells #[.int .i64 0, .int .i64 1, .int .i64 3, .int .i64 30, .int .i64 (-1), .int .i64 9223372036854775807] 3)).1
  have e : ∃ z : Int, (#[.int .i64 0, .int .i64 1, .int .i64 3, .int .i64 30, .int .i64 (-1), .int .i64 9223372036854775807] : Array Value)[i]? = some (.int .i64 z) := by
    match i, hi with
    | 0, _ => exact ⟨_, rfl⟩
    | 1, _ => exact ⟨_, rfl⟩
    | 2, _ => exact ⟨_, rfl⟩
    | 3, _ => exact ⟨_, rfl⟩
    | 4, _ => exact ⟨_, rfl⟩
    | 5, _ => exact ⟨_, rfl⟩
  obtain ⟨z, hz⟩ := e
  exact ⟨z, by simp only [World.cell?, h]; simpa using hz⟩

set_option maxHeartbeats 400000 in
theorem drawCrashed_calls (B : Nat) (v : Value) (n : Nat) (hn : n ≤ 1048576) (w : World) (hB : B ≤ w.heap.size) (hc : CodeIs w B v n) :
    Calls Try.prog 14 #[v] w fun e w' => ∃ (s : ByteArray) (k z : Int), s.size ≤ 20000 ∧ e = .returned (.tuple #[.agg #[.string s, .int .i64 k], .int .i64 z]) ∧ Below w.heap.size w w' := by
  obtain ⟨W, hW⟩ : ∃ W, W = w.alloc (.cells #[.string { data := #[] }, .int .i64 0] 25) := ⟨_, rfl⟩
  have hb0 : Below w.heap.size w W := by rw [hW]; exact (Below.refl _ _).alloc (Nat.le_refl _) _
  have hF0 : FileAt W w.heap.size { data := #[] } 0 := by rw [hW]; exact fileAt_new w _ _ rfl
  have hcW : CodeIs W B v n := hc.below (hb0.mono hB)
  have HN : Hid (Calls Try.prog 27 #[v] W fun e w' => e = .returned (.pointer (some ⟨W.heap.size, 0, none⟩)) ∧ Cur w' B W.heap.size v n ∧ Below W.heap.size W w') := new_calls B v n hn W (Nat.le_trans hB hb0.size) hcW
  have HW : Hid (W = w.alloc (.cells #[.string { data := #[] }, .int .i64 0] 25)) := hW
  clear hW
  go_enter Try.func14, Try.ntmps14
  go_wp2_with fail
  rw [← HW.out]
  refine HN.out.mono ?_
  rintro e w1 ⟨rfl, hc1, hb1⟩
  have hF1 := hF0.below hb1 hF0.lt
  have hB1 : B ≤ w1.heap.size := Nat.le_trans hB (Nat.le_trans hb0.size hb1.size)
  have hb01 : Below w.heap.size w w1 := hb0.trans (hb1.mono hb0.size)
  have hpl := hc1.lt
  have hgt : W.heap.size ≠ w.heap.size := Nat.ne_of_gt hF0.lt
  have hd2 := (Drew.refl hc1).alloc hpl hB1 (.cells #[.int .i64 0, .int .i64 1, .int .i64 3, .int .i64 30, .int .i64 (-1), .int .i64 9223372036854775807] 3)
  have hF2 := hF1.alloc (.cells #[.int .i64 0, .int .i64 1, .int .i64 3, .int .i64 30, .int .i64 (-1), .int .i64 9223372036854775807] 3)
  go_wp2_with fail
  refine (pickD 6 w1.heap.size 6 (by omega) (by omega) B W.heap.size v n hn _ hd2.1 (Nat.ne_of_gt hpl) (six_cells w1)).mono ?_
  rintro e w3 ⟨z, -, rfl, hd3⟩
  have hF3 := hF2.grown hd3.2 hgt
  have hd03 := hd2.trans hd3
  go_wp2_with fail
  refine (anyD B W.heap.size v n hn _ (Nat.le_trans hB1 hd03.2.size) hd03.1).mono ?_
  rintro e w9 ⟨s, k, hs, rfl, hd4⟩
  have hF9 := hF3.grown hd4.2 hgt
  have hd9 := hd03.trans hd4
  have c0 := hF9.text
  have c1 := hF9.synced
  have f0 := hF9.free 0
  have f1 := hF9.free 1
  have hb9 : Below w.heap.size w w9 := hb01.grown hd9.2 hb01.size (fun k hk => by cases hk; exact hb0.size)
  go_wp2
  exact bodyPost_ret (ret_file2 rfl rfl rfl ((hF9.setText s).setSynced k)) rfl ⟨s, k, z, hs, rfl, (hb9.setCell (p := ⟨w.heap.size, 0, none⟩) (Nat.le_refl _) _).setCell (p := ⟨w.heap.size, 1, none⟩) (Nat.le_refl _) _⟩

end Go.Proofs.Ytbnnmlfammeobaa
