/- What the functions on a file do. -/
import Derived.Test.YtbnnmlfammeobaaFWhole
import Derived.Test.YtbnnmlfammeobaaFMake
namespace Go.Proofs.Ytbnnmlfammeobaa
open Go.RowKit

/-- A right file. -/
def FOk (s : ByteArray) (n : Int) : Prop := s.size ≤ 20000 ∧ 0 ≤ n ∧ n ≤ (s.size : Int)
instance (s : ByteArray) (n : Int) : Decidable (FOk s n) := by unfold FOk; infer_instance

theorem implOk (s : ByteArray) (n : Int) (w : World) (hm : s.size ≤ 4194304) :
    Calls Try.prog 19 #[.agg #[.string s, .int .i64 n]] w fun e w' => e = .returned (.bool (decide (FOk s n))) ∧ Below w.heap.size w w' := by
  have hb := (Below.refl w.heap.size w).alloc (Nat.le_refl _) (Obj.cells #[Value.string s, Value.int IntKind.i64 n] 25)
  by_cases h1 : (s.size : Int) ≤ 20000
  · by_cases h2 : 0 ≤ n
    · by_cases h3 : n ≤ (s.size : Int)
      · have e : decide (FOk s n) = true := decide_eq_true ⟨by omega, h2, h3⟩
        rw [e]
        go_enter Try.func19, Try.ntmps19
        go_wp2
        go_ret
        exact ⟨rfl, hb⟩
      · have e : decide (FOk s n) = false := decide_eq_false (fun h => by have h := h; unfold FOk at h; omega)
        rw [e]
        go_enter Try.func19, Try.ntmps19
        go_wp2
        go_ret
        exact ⟨rfl, hb⟩
    · have e : decide (FOk s n) = false := decide_eq_false (fun h => by have h := h; unfold FOk at h; omega)
      rw [e]
      go_enter Try.func19, Try.ntmps19
      go_wp2
      go_ret
      exact ⟨rfl, hb⟩
  · have e : decide (FOk s n) = false := decide_eq_false (fun h => by have h := h; unfold FOk at h; omega)
    rw [e]
    go_enter Try.func19, Try.ntmps19
    go_wp2
    go_ret
    exact ⟨rfl, hb⟩

theorem in_calls (x a b : Int) (w : World) :
    Calls Try.prog 39 #[.int .i64 x, .int .i64 a, .int .i64 b] w fun e w' => e = .returned (.bool (decide (a ≤ x) && decide (x ≤ b))) ∧ w' = w := by
  by_cases h1 : a ≤ x
  · by_cases h2 : x ≤ b
    · go_enter Try.func39, Try.ntmps39
      go_wp2
      go_ret
      simp [h1, h2]
    · go_enter Try.func39, Try.ntmps39
      go_wp2
      go_ret
      have h3 : ¬ x ≤ b := by omega
      simp [h3]
  · go_enter Try.func39, Try.ntmps39
    go_wp2
    go_ret
    have h3 : ¬ a ≤ x := by omega
    simp [h3]

theorem specOk (s : ByteArray) (n : Int) (w : World) (hm : s.size ≤ 4194304) :
    Calls Try.prog 22 #[.agg #[.string s, .int .i64 n]] w fun e w' => e = .returned (.bool (decide (FOk s n))) ∧ Below w.heap.size w w' := by
  have hb := (Below.refl w.heap.size w).alloc (Nat.le_refl _) (Obj.cells #[Value.string s, Value.int IntKind.i64 n] 25)
  by_cases h1 : (s.size : Int) ≤ 20000
  · have e : decide (FOk s n) = (decide (0 ≤ n) && decide (n ≤ (s.size : Int))) := by
      rw [Bool.eq_iff_iff]
      simp only [decide_eq_true_eq, Bool.and_eq_true]
      unfold FOk
      omega
    rw [e]
    go_enter Try.func22, Try.ntmps22
    go_wp2_with (go_at_call 39; refine (in_calls _ _ _ _).mono ?_; rintro e w1 ⟨rfl, rfl⟩)
    go_ret
    exact ⟨rfl, hb⟩
  · have e : decide (FOk s n) = false := decide_eq_false (fun h => by have h := h; unfold FOk at h; omega)
    rw [e]
    go_enter Try.func22, Try.ntmps22
    go_wp2
    go_ret
    exact ⟨rfl, hb⟩

/-- What a function on a file holds: the file, and the room for its answer. -/
def Held (w w1 : World) (s : ByteArray) (n : Int) : Prop := FileAt w1 w.heap.size s n ∧ FileAt w1 (w.heap.size + 1) { data := #[] } 0 ∧ Below w.heap.size w w1
theorem held_new (w : World) (s : ByteArray) (n : Int) : Held w ((w.alloc (.cells #[.string s, .int .i64 n] 25)).alloc (.cells #[.string { data := #[] }, .int .i64 0] 25)) s n :=
  ⟨(fileAt_new w s n rfl).alloc _, fileAt_new _ _ _ (by simp), ((Below.refl _ _).alloc (Nat.le_refl _) _).alloc (by simp) _⟩
theorem Held.size {w w1 : World} {s : ByteArray} {n : Int} (h : Held w w1 s n) : w.heap.size + 2 ≤ w1.heap.size := h.2.1.lt
theorem Held.next {w w1 w2 : World} {B : Nat} {s : ByteArray} {n : Int} (h : Held w w1 s n) (hb : Below B w1 w2) (hB : w.heap.size + 2 ≤ B) : Held w w2 s n :=
  ⟨h.1.below hb (by omega), h.2.1.below hb (by omega), h.2.2.trans (hb.mono (by omega))⟩
theorem Held.cells {w w1 : World} {s : ByteArray} {n : Int} (h : Held w w1 s n) : w1.cell? ⟨w.heap.size, 0, none⟩ = some (.string s) ∧ w1.cell? ⟨w.heap.size, 1, none⟩ = some (.int .i64 n) ∧
    w1.cell? ⟨w.heap.size + 1, 0, none⟩ = some (.string { data := #[] }) ∧ w1.cell? ⟨w.heap.size + 1, 1, none⟩ = some (.int .i64 0) ∧ w1.frozen? ⟨w.heap.size + 1, 0, none⟩ = false ∧ w1.frozen? ⟨w.heap.size + 1, 1, none⟩ = false :=
  ⟨h.1.text, h.1.synced, h.2.1.text, h.2.1.synced, h.2.1.free 0, h.2.1.free 1⟩
theorem Held.done {w w1 : World} {s : ByteArray} {n : Int} (h : Held w w1 s n) (x y : Value) : Below w.heap.size w ((w1.setCell ⟨w.heap.size + 1, 0, none⟩ x).setCell ⟨w.heap.size + 1, 1, none⟩ y) :=
  (h.2.2.setCell (p := ⟨w.heap.size + 1, 0, none⟩) (Nat.le_succ _) x).setCell (p := ⟨w.heap.size + 1, 1, none⟩) (Nat.le_succ _) y
theorem Held.file {w w1 : World} {s : ByteArray} {n : Int} (h : Held w w1 s n) (t : ByteArray) (k : Int) : FileAt ((w1.setCell ⟨w.heap.size + 1, 0, none⟩ (.string t)).setCell ⟨w.heap.size + 1, 1, none⟩ (.int .i64 k)) (w.heap.size + 1) t k :=
  (h.2.1.setText t).setSynced k

set_option maxHeartbeats 800000 in
theorem implSynced_not (s : ByteArray) (n : Int) (w : World) (hm : s.size ≤ 4194304) (hno : decide (FOk s n) = false) :
    Calls Try.prog 13 #[.agg #[.string s, .int .i64 n]] w fun e w' => e = .returned (.agg #[.string s, .int .i64 n]) ∧ Below w.heap.size w w' := by
  have H0 := held_new w s n
  go_enter Try.func13, Try.ntmps13
  go_wp2_with (first
    | (go_at_call 19; refine (implOk s n _ hm).mono ?_; rintro e w1 ⟨rfl, hb1⟩; have H1 := H0.next hb1 H0.size; obtain ⟨c0, c1, d0, d1, f0, f1⟩ := H1.cells)
    | (go_at_call 30; refine (cloned_calls s n _ ?_).mono ?_; omega; rintro e w2 ⟨rfl, hb2⟩; have H2 := H1.next hb2 H1.size; obtain ⟨c2, c3, d2, d3, f2, f3⟩ := H2.cells))
  refine bodyPost_ret (ret_file rfl rfl (H2.file s n)) rfl ⟨rfl, H2.done _ _⟩

set_option maxHeartbeats 800000 in
theorem implSynced_ok (s : ByteArray) (k : Nat) (w : World) (hm : s.size ≤ 20000) (hk : k ≤ s.size) :
    Calls Try.prog 13 #[.agg #[.string s, .int .i64 (k : Int)]] w fun e w' => e = .returned (.agg #[.string s, .int .i64 s.size]) ∧ Below w.heap.size w w' := by
  have hyes : decide (FOk s k) = true := decide_eq_true ⟨hm, by omega, by omega⟩
  have H0 := held_new w s k
  go_enter Try.func13, Try.ntmps13
  go_wp2_with (first
    | (go_at_call 19; refine (implOk s k _ ?_).mono ?_; omega; rintro e w1 ⟨rfl, hb1⟩; have H1 := H0.next hb1 H0.size; obtain ⟨c0, c1, d0, d1, f0, f1⟩ := H1.cells)
    | (go_at_call 31; refine (parts_calls s k hk _).mono ?_; rintro e w2 ⟨m, sb, lb, rfl, hB, hs, ht, hne, hbm, hbs, hbl, hb2⟩; have H2 := H1.next hb2 H1.size)
    | (go_at_call 33; refine (sync_calls (B := w1.heap.size) hB hs ht hbs hbm ?_).mono ?_; (simp [maxLen]; omega); rintro e w3 ⟨rfl, hS, hf, hb3⟩; have H3 := H2.next hb3 H1.size)
    | (go_at_call 34; refine (whole_safe hS hf ?_).mono ?_; (simp; omega); rintro e w4 ⟨rfl, hb4⟩; have H4 := H3.next hb4 H3.size; obtain ⟨c2, c3, d2, d3, f2, f3⟩ := H4.cells))
  exact bodyPost_ret (ret_file rfl rfl (H4.file _ _)) rfl ⟨rfl, H4.done _ _⟩

set_option maxHeartbeats 800000 in
theorem implCrashed_not (s : ByteArray) (n keep : Int) (w : World) (hm : s.size ≤ 4194304) (hno : decide (FOk s n) = false) :
    Calls Try.prog 11 #[.agg #[.string s, .int .i64 n], .int .i64 keep] w fun e w' => e = .returned (.agg #[.string s, .int .i64 n]) ∧ Below w.heap.size w w' := by
  have H0 := held_new w s n
  go_enter Try.func11, Try.ntmps11
  go_wp2_with (first
    | (go_at_call 19; refine (implOk s n _ hm).mono ?_; rintro e w1 ⟨rfl, hb1⟩; have H1 := H0.next hb1 H0.size; obtain ⟨c0, c1, d0, d1, f0, f1⟩ := H1.cells)
    | (go_at_call 30; refine (cloned_calls s n _ ?_).mono ?_; omega; rintro e w2 ⟨rfl, hb2⟩; have H2 := H1.next hb2 H1.size; obtain ⟨c2, c3, d2, d3, f2, f3⟩ := H2.cells))
  refine bodyPost_ret (ret_file rfl rfl (H2.file s n)) rfl ⟨rfl, H2.done _ _⟩

theorem fall_text (s : ByteArray) (k x : Nat) (hx : x ≤ s.size - k) : s.extract 0 k ++ (s.extract k s.size).extract 0 x = s.extract 0 (k + x) := by
  apply ByteArray.ext
  apply Array.ext'
  simp only [ByteArray.data_append, ByteArray.data_extract, Array.toList_append, Array.toList_extract, List.extract_eq_take_drop, List.drop_zero, Nat.sub_zero]
  rw [List.take_take, List.take_add, show min x (s.size - k) = x by omega]

set_option maxHeartbeats 800000 in
theorem implCrashed_ok (s : ByteArray) (k : Nat) (keep : Int) (w : World) (hm : s.size ≤ 20000) (hk : k ≤ s.size) :
    Calls Try.prog 11 #[.agg #[.string s, .int .i64 (k : Int)], .int .i64 keep] w fun e w' => e = .returned (.agg #[.string (s.extract 0 (k + kept keep (s.size - k))), .int .i64 ((k + kept keep (s.size - k) : Nat) : Int)]) ∧ Below w.heap.size w w' := by
  have hyes : decide (FOk s k) = true := decide_eq_true ⟨hm, by omega, by omega⟩
  obtain ⟨x, hx⟩ : ∃ x, x = kept keep (s.size - k) := ⟨_, rfl⟩
  have hxl : x ≤ s.size - k := by rw [hx]; unfold kept; omega
  have hxs : kept keep (s.extract k s.size).size = x := by rw [hx]; congr 1; simp
  rw [← hx]
  obtain ⟨A, hA⟩ : ∃ A, A = s.extract 0 k ++ (s.extract k s.size).extract 0 x := ⟨_, rfl⟩
  have hA2 : A = s.extract 0 (k + x) := hA.trans (fall_text s k x hxl)
  have hsz : (s.extract 0 k).size + ((s.extract k s.size).extract 0 x).size = k + x := by simp; omega
  have hAs : A.size = k + x := by rw [hA, ByteArray.size_append, hsz]
  have H0 := held_new w s k
  rw [← hA2]
  have HA : Hid (A = s.extract 0 k ++ (s.extract k s.size).extract 0 x) := hA
  have HX : Hid (kept keep (s.extract k s.size).size = x) := hxs
  have HZ : Hid ((s.extract 0 k).size + ((s.extract k s.size).extract 0 x).size = k + x) := hsz
  clear hA hA2 hx hxs hsz
  go_enter Try.func11, Try.ntmps11
  go_wp2_with (first
    | (go_at_call 19; refine (implOk s k _ ?_).mono ?_; omega; rintro e w1 ⟨rfl, hb1⟩; have H1 := H0.next hb1 H0.size; obtain ⟨c0, c1, d0, d1, f0, f1⟩ := H1.cells)
    | (go_at_call 31; refine (parts_calls s k hk _).mono ?_; rintro e w2 ⟨m, sb, lb, rfl, hB, hs, ht, hne, hbm, hbs, hbl, hb2⟩; have H2 := H1.next hb2 H1.size)
    | (go_at_call 32; refine (fall_calls (B := w1.heap.size) keep hB hs ht hne hbl).mono ?_; rintro e w3 ⟨rfl, hB3, hs3, ht3, hb3⟩; have H3 := H2.next hb3 H1.size; rw [HX.out] at ht3)
    | (go_at_call 33; refine (sync_calls (B := w1.heap.size) hB3 hs3 ht3 hbs hbm ?_).mono ?_; (rw [HZ.out]; unfold maxLen; omega); rintro e w4 ⟨rfl, hS, hf, hb4⟩; have H4 := H3.next hb4 H1.size; rw [← HA.out, HZ.out] at hf)
    | (go_at_call 34; refine (whole_safe hS hf ?_).mono ?_; omega; rintro e w5 ⟨rfl, hb5⟩; have H5 := H4.next hb5 H4.size; obtain ⟨c2, c3, d2, d3, f2, f3⟩ := H5.cells))
  exact bodyPost_ret (ret_file rfl rfl (H5.file _ _)) rfl ⟨rfl, H5.done _ _⟩

set_option maxHeartbeats 800000 in
theorem implAppended_not (s t : ByteArray) (n : Int) (w : World) (hm : s.size ≤ 4194304) (hno : decide (FOk s n) = false) :
    Calls Try.prog 12 #[.agg #[.string s, .int .i64 n], .string t] w fun e w' => e = .returned (.tuple #[.agg #[.string s, .int .i64 n], .bool false]) ∧ Below w.heap.size w w' := by
  have H0 := held_new w s n
  go_enter Try.func12, Try.ntmps12
  go_wp2_with (first
    | (go_at_call 19; refine (implOk s n _ hm).mono ?_; rintro e w1 ⟨rfl, hb1⟩; have H1 := H0.next hb1 H0.size; obtain ⟨c0, c1, d0, d1, f0, f1⟩ := H1.cells)
    | (go_at_call 30; refine (cloned_calls s n _ ?_).mono ?_; omega; rintro e w2 ⟨rfl, hb2⟩; have H2 := H1.next hb2 H1.size; obtain ⟨c2, c3, d2, d3, f2, f3⟩ := H2.cells))
  refine bodyPost_ret (ret_file2 rfl rfl rfl (H2.file s n)) rfl ⟨rfl, H2.done _ _⟩

set_option maxHeartbeats 800000 in
theorem implAppended_long (s t : ByteArray) (n : Int) (w : World) (hyes : decide (FOk s n) = true) (hm : s.size ≤ 20000) (ht : 20000 < s.size + t.size) :
    Calls Try.prog 12 #[.agg #[.string s, .int .i64 n], .string t] w fun e w' => e = .returned (.tuple #[.agg #[.string s, .int .i64 n], .bool false]) ∧ Below w.heap.size w w' := by
  have H0 := held_new w s n
  have h1 : (20000 : Int) - (s.size : Int) < (t.size : Int) := by omega
  go_enter Try.func12, Try.ntmps12
  go_wp2_with (first
    | (go_at_call 19; refine (implOk s n _ ?_).mono ?_; omega; rintro e w1 ⟨rfl, hb1⟩; have H1 := H0.next hb1 H0.size; obtain ⟨c0, c1, d0, d1, f0, f1⟩ := H1.cells)
    | (go_at_call 30; refine (cloned_calls s n _ ?_).mono ?_; omega; rintro e w2 ⟨rfl, hb2⟩; have H2 := H1.next hb2 H1.size; obtain ⟨c2, c3, d2, d3, f2, f3⟩ := H2.cells))
  refine bodyPost_ret (ret_file2 rfl rfl rfl (H2.file s n)) rfl ⟨rfl, H2.done _ _⟩

theorem part_text (s : ByteArray) (k : Nat) (hk : k ≤ s.size) : s.extract 0 k ++ s.extract k s.size = s := by
  simp [Nat.min_eq_left, Nat.max_eq_right hk]

set_option maxHeartbeats 800000 in
theorem implAppended_ok (s t : ByteArray) (k : Nat) (w : World) (hm : s.size + t.size ≤ 20000) (hk : k ≤ s.size) :
    Calls Try.prog 12 #[.agg #[.string s, .int .i64 (k : Int)], .string t] w fun e w' => e = .returned (.tuple #[.agg #[.string (s ++ t), .int .i64 (k : Int)], .bool true]) ∧ Below w.heap.size w w' := by
  have hyes : decide (FOk s k) = true := decide_eq_true ⟨by omega, by omega, by omega⟩
  obtain ⟨A, hA⟩ : ∃ A, A = s.extract 0 k ++ (s.extract k s.size ++ t) := ⟨_, rfl⟩
  have hA2 : A = s ++ t := by rw [hA, ← ByteArray.append_assoc, part_text s k hk]
  have hsz : (s.extract k s.size).size + t.size = s.size - k + t.size := by simp
  have hAs : (s.extract 0 k).size + (s.extract k s.size ++ t).size = s.size + t.size := by simp; omega
  have h1 : (t.size : Int) ≤ (20000 : Int) - (s.size : Int) := by omega
  have H0 := held_new w s k
  rw [← hA2]
  have HA : Hid (A = s.extract 0 k ++ (s.extract k s.size ++ t)) := hA
  have HX : Hid ((s.extract k s.size).size + t.size = s.size - k + t.size) := hsz
  have HZ : Hid ((s.extract 0 k).size + (s.extract k s.size ++ t).size = s.size + t.size) := hAs
  clear hA hA2 hsz hAs
  go_enter Try.func12, Try.ntmps12
  go_wp2_with (first
    | (go_at_call 19; refine (implOk s k _ ?_).mono ?_; omega; rintro e w1 ⟨rfl, hb1⟩; have H1 := H0.next hb1 H0.size; obtain ⟨c0, c1, d0, d1, f0, f1⟩ := H1.cells)
    | (go_at_call 31; refine (parts_calls s k hk _).mono ?_; rintro e w2 ⟨m, sb, lb, rfl, hB, hs, ht, hne, hbm, hbs, hbl, hb2⟩; have H2 := H1.next hb2 H1.size)
    | (go_at_call 35; refine (add_calls (B := w1.heap.size) t hB hs ht hne hbl ?_).mono ?_; (rw [HX.out]; unfold maxLen; omega); rintro e w3 ⟨rfl, hB3, hs3, ht3, hb3⟩; have H3 := H2.next hb3 H1.size)
    | (go_at_call 34; refine (whole_both hB3 hs3 ht3 ?_).mono ?_; (rw [HZ.out]; omega); rw [← HA.out]; rintro e w5 ⟨rfl, hb5⟩; have H5 := H3.next hb5 H3.size; obtain ⟨c2, c3, d2, d3, f2, f3⟩ := H5.cells))
  exact bodyPost_ret (ret_file2 rfl rfl rfl (H5.file _ _)) rfl ⟨rfl, H5.done _ _⟩

end Go.Proofs.Ytbnnmlfammeobaa
