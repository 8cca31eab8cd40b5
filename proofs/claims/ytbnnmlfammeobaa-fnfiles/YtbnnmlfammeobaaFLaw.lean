/- The laws' helpers on a file, and the walks of the four laws on the functions of a file. -/
import Derived.Test.YtbnnmlfammeobaaFSpec
namespace Go.Proofs.Ytbnnmlfammeobaa
open Go.RowKit

/-- The argument of a law, in a block of its own. -/
def ArgAt (w : World) (b : Nat) (s : ByteArray) (n : Int) : Prop := w.heap[b]? = some (.cells #[.string s, .int .i64 n] 39 (0, 0))
theorem argAt_new (w : World) (s : ByteArray) (n : Int) : ArgAt (w.alloc (.cells #[.string s, .int .i64 n] 39)) w.heap.size s n := (MapKept.heap_alloc w _).1
theorem ArgAt.lt {w : World} {b : Nat} {s : ByteArray} {n : Int} (h : ArgAt w b s n) : b < w.heap.size := (Array.getElem?_eq_some_iff.1 h).1
theorem ArgAt.below {w w' : World} {b B : Nat} {s : ByteArray} {n : Int} (h : ArgAt w b s n) (hb : Below B w w') (hB : b < B) : ArgAt w' b s n := (hb.block b hB).trans h
theorem ArgAt.text {w : World} {b : Nat} {s : ByteArray} {n : Int} (h : ArgAt w b s n) : w.cell? ⟨b, 0, none⟩ = some (.string s) := by unfold ArgAt at h; simp [World.cell?, h]
theorem ArgAt.synced {w : World} {b : Nat} {s : ByteArray} {n : Int} (h : ArgAt w b s n) : w.cell? ⟨b, 1, none⟩ = some (.int .i64 n) := by unfold ArgAt at h; simp [World.cell?, h]

theorem ArgAt.alloc {w : World} {b : Nat} {s : ByteArray} {n : Int} (h : ArgAt w b s n) (o : Obj) : ArgAt (w.alloc o) b s n := (Below.heap_alloc w o b h.lt).trans h

theorem sz_big (s : ByteArray) (n : Int) (w : World) (h : (1048576 : Int) < s.size) (hm : s.size ≤ maxLen) :
    Calls Try.prog 23 #[.agg #[.string s, .int .i64 n], .int .i64 1048576] w fun e w' => e = .returned (.int .i64 (-1)) ∧ Below w.heap.size w w' := by
  unfold maxLen at hm
  have h1 : (1048576 : Int) - s.size < 0 := by omega
  go_enter Try.func23, Try.ntmps23
  go_wp2
  go_ret
  exact ⟨rfl, (Below.refl _ _).alloc (Nat.le_refl _) _⟩
theorem sz_small (s : ByteArray) (n : Int) (w : World) (h : ¬ (1048576 : Int) < s.size) :
    Calls Try.prog 23 #[.agg #[.string s, .int .i64 n], .int .i64 1048576] w fun e w' => e = .returned (.int .i64 (1048576 - s.size)) ∧ Below w.heap.size w w' := by
  have h1 : ¬ ((1048576 : Int) - s.size < 0) := by omega
  go_enter Try.func23, Try.ntmps23
  go_wp2
  go_ret
  exact ⟨rfl, (Below.refl _ _).alloc (Nat.le_refl _) _⟩
theorem to_calls (s : ByteArray) (n : Int) (w : World) :
    Calls Try.prog 24 #[.agg #[.string s, .int .i64 n]] w fun e w' => e = .returned (.agg #[.string s, .int .i64 n]) ∧ Below w.heap.size w w' := by
  go_enter Try.func24, Try.ntmps24
  go_wp2
  exact bodyPost_ret (ret_file rfl rfl (FileAt.alloc (fileAt_new _ _ _ (by simp)) _)) rfl ⟨rfl, (((Below.refl _ _).alloc (Nat.le_refl _) _).alloc (by simp) _).alloc (by simp; omega) _⟩
theorem eq_calls (s : ByteArray) (n : Int) (w : World) :
    Calls Try.prog 25 #[.agg #[.string s, .int .i64 n], .agg #[.string s, .int .i64 n]] w fun e w' => e = .returned (.bool true) ∧ Below w.heap.size w w' := by
  go_enter Try.func25, Try.ntmps25
  go_wp2
  go_ret
  exact ⟨rfl, ((Below.refl _ _).alloc (Nat.le_refl _) _).alloc (by simp) _⟩

theorem synced_both (s : ByteArray) (n : Int) (hm : s.size ≤ 4194304) : ∃ b : Int,
    (∀ w, Calls Try.prog 21 #[.agg #[.string s, .int .i64 n]] w fun e w' => e = .returned (.agg #[.string s, .int .i64 b]) ∧ Below w.heap.size w w') ∧
    (∀ w, Calls Try.prog 13 #[.agg #[.string s, .int .i64 n]] w fun e w' => e = .returned (.agg #[.string s, .int .i64 b]) ∧ Below w.heap.size w w') := by
  cases hq : decide (FOk s n)
  · exact ⟨n, fun w => specSynced_not s n w hm hq, fun w => implSynced_not s n w hm hq⟩
  · have h := of_decide_eq_true hq
    unfold FOk at h
    obtain ⟨k, rfl⟩ : ∃ k : Nat, n = k := ⟨n.toNat, by omega⟩
    exact ⟨s.size, fun w => specSynced_ok s k w hm hq, fun w => implSynced_ok s k w h.1 (by omega)⟩
theorem crashed_both (s : ByteArray) (n keep : Int) (hm : s.size ≤ 4194304) : ∃ (a : ByteArray) (b : Int),
    (∀ w, Calls Try.prog 20 #[.agg #[.string s, .int .i64 n], .int .i64 keep] w fun e w' => e = .returned (.agg #[.string a, .int .i64 b]) ∧ Below w.heap.size w w') ∧
    (∀ w, Calls Try.prog 11 #[.agg #[.string s, .int .i64 n], .int .i64 keep] w fun e w' => e = .returned (.agg #[.string a, .int .i64 b]) ∧ Below w.heap.size w w') := by
  cases hq : decide (FOk s n)
  · exact ⟨s, n, fun w => specCrashed_not s n keep w hm hq, fun w => implCrashed_not s n keep w hm hq⟩
  · have h := of_decide_eq_true hq
    unfold FOk at h
    obtain ⟨k, rfl⟩ : ∃ k : Nat, n = k := ⟨n.toNat, by omega⟩
    exact ⟨_, _, fun w => specCrashed_ok s k keep w h.1 (by omega), fun w => implCrashed_ok s k keep w h.1 (by omega)⟩
theorem appended_both (s t : ByteArray) (n : Int) (hm : s.size + t.size ≤ 4194304) : ∃ (a : ByteArray) (q : Bool),
    (∀ w, Calls Try.prog 16 #[.agg #[.string s, .int .i64 n], .string t] w fun e w' => e = .returned (.tuple #[.agg #[.string a, .int .i64 n], .bool q]) ∧ Below w.heap.size w w') ∧
    (∀ w, Calls Try.prog 12 #[.agg #[.string s, .int .i64 n], .string t] w fun e w' => e = .returned (.tuple #[.agg #[.string a, .int .i64 n], .bool q]) ∧ Below w.heap.size w w') := by
  cases hq : decide (FOk s n)
  · exact ⟨s, false, fun w => specAppended_not s t n w hm hq, fun w => implAppended_not s t n w (by omega) hq⟩
  · have h := of_decide_eq_true hq
    unfold FOk at h
    by_cases hl : s.size + t.size ≤ 20000
    · obtain ⟨k, rfl⟩ : ∃ k : Nat, n = k := ⟨n.toNat, by omega⟩
      have h2 : decide (FOk (s ++ t) k) = true := decide_eq_true ⟨by simp; omega, by omega, by simp; omega⟩
      refine ⟨s ++ t, true, fun w => ?_, fun w => implAppended_ok s t k w hl (by omega)⟩
      have := specAppended_yes s t k w hm hq
      rw [h2] at this
      exact this
    · have h2 : decide (FOk (s ++ t) n) = false := decide_eq_false (fun h3 => by have := h3.1; simp at this; omega)
      refine ⟨s, false, fun w => ?_, fun w => implAppended_long s t n w hq h.1 (by omega)⟩
      have := specAppended_yes s t n w hm hq
      rw [h2] at this
      exact this

theorem fnExactFileOk_walk (s : ByteArray) (n : Int) (w : World) (hm : s.size ≤ maxLen) :
    Calls Try.prog 4 #[.agg #[.string s, .int .i64 n]] w fun e w' => e = .returned (.bool true) ∧ Below w.heap.size w w' := by
  have hb0 := (Below.refl w.heap.size w).alloc (Nat.le_refl _) (Obj.cells #[Value.string s, Value.int IntKind.i64 n] 39)
  have L0 := argAt_new w s n
  by_cases hbig : (1048576 : Int) < s.size
  · go_enter Try.func4, Try.ntmps4
    go_wp2_with (go_at_call 23; refine (sz_big s n _ hbig hm).mono ?_; rintro e w1 ⟨rfl, hb1⟩)
    go_ret
    exact ⟨rfl, hb0.trans (hb1.mono (Nat.le_of_lt L0.lt))⟩
  · clear hm
    have hm : s.size ≤ 4194304 := by omega
    have hj : ¬ ((1048576 : Int) - s.size < 0) := by omega
    have tok : True := trivial
    go_enter Try.func4, Try.ntmps4
    go_wp2_with (first
      | (go_at_call 23; refine (sz_small s n _ hbig).mono ?_; rintro e w1 ⟨rfl, hb1⟩; have L1 := L0.below hb1 L0.lt; have B1 := hb0.trans (hb1.mono (Nat.le_of_lt L0.lt)); have c0 := L1.text; have c1 := L1.synced)
      | (go_at_call 24; have _t := tok; refine (to_calls s n _).mono ?_; clear tok; rintro e w2 ⟨rfl, hb2⟩; have L2 := L1.below hb2 L1.lt; have B2 := B1.trans (hb2.mono (Nat.le_of_lt L1.lt)))
      | (go_at_call 22; refine (specOk s n _ hm).mono ?_; rintro e w3 ⟨rfl, hb3⟩; have L3 := L2.below hb3 L2.lt; have B3 := B2.trans (hb3.mono (Nat.le_of_lt L2.lt)); have c2 := L3.text; have c3 := L3.synced)
      | (go_at_call 24; refine (to_calls s n _).mono ?_; rintro e w4 ⟨rfl, hb4⟩; have L4 := L3.below hb4 L3.lt; have B4 := B3.trans (hb4.mono (Nat.le_of_lt L3.lt)))
      | (go_at_call 19; refine (implOk s n _ hm).mono ?_; rintro e w5 ⟨rfl, hb5⟩; have B5 := B4.trans (hb5.mono (Nat.le_of_lt L4.lt))))
    go_ret
    exact ⟨rfl, B5⟩

set_option maxHeartbeats 1600000 in
theorem fnExactSyncedFile_walk (s : ByteArray) (n : Int) (w : World) (hm : s.size ≤ maxLen) :
    Calls Try.prog 6 #[.agg #[.string s, .int .i64 n]] w fun e w' => e = .returned (.bool true) ∧ Below w.heap.size w w' := by
  have hb0 := (Below.refl w.heap.size w).alloc (Nat.le_refl _) (Obj.cells #[Value.string s, Value.int IntKind.i64 n] 39)
  have L0 := argAt_new w s n
  by_cases hbig : (1048576 : Int) < s.size
  · go_enter Try.func6, Try.ntmps6
    go_wp2_with (go_at_call 23; refine (sz_big s n _ hbig hm).mono ?_; rintro e w1 ⟨rfl, hb1⟩)
    go_ret
    exact ⟨rfl, hb0.trans (hb1.mono (Nat.le_of_lt L0.lt))⟩
  · clear hm
    have hj : ¬ ((1048576 : Int) - s.size < 0) := by omega
    have tok : True := trivial
    obtain ⟨b, h1, h2⟩ := synced_both s n (by omega)
    go_enter Try.func6, Try.ntmps6
    go_wp2_with (first
      | (go_at_call 23; refine (sz_small s n _ hbig).mono ?_; rintro e w1 ⟨rfl, hb1⟩; have L1 := L0.below hb1 L0.lt; have B1 := hb0.trans (hb1.mono (Nat.le_of_lt L0.lt)); have c0 := L1.text; have c1 := L1.synced)
      | (go_at_call 24; have _t := tok; refine (to_calls s n _).mono ?_; clear tok; rintro e w2 ⟨rfl, hb2⟩; have L2 := L1.below hb2 L1.lt; have B2 := B1.trans (hb2.mono (Nat.le_of_lt L1.lt)))
      | (go_at_call 21; refine (h1 _).mono ?_; rintro e w3 ⟨rfl, hb3⟩; have L3 := L2.below hb3 L2.lt; have B3 := B2.trans (hb3.mono (Nat.le_of_lt L2.lt)); have c2 := L3.text; have c3 := L3.synced; have l3 := L3.lt)
      | (go_at_call 24; refine (to_calls s n _).mono ?_; rintro e w4 ⟨rfl, hb4⟩; have L4 := (L3.alloc _).below hb4 (L3.alloc _).lt; have F4 := (fileAt_new w3 s b rfl).below hb4 (fileAt_new w3 s b rfl).lt; have B4 := (B3.alloc (Nat.le_of_lt L3.lt) _).trans (hb4.mono (Nat.le_of_lt (L3.alloc _).lt)))
      | (go_at_call 13; refine (h2 _).mono ?_; rintro e w5 ⟨rfl, hb5⟩; have F5 := F4.below hb5 F4.lt; have B5 := B4.trans (hb5.mono (Nat.le_of_lt L4.lt)); have c4 := F5.text; have c5 := F5.synced; have l5 := F5.lt)
      | (go_at_call 25; refine (eq_calls s b _).mono ?_; rintro e w6 ⟨rfl, hb6⟩; have B6 := (B5.alloc B5.size _).trans (hb6.mono (by have := B5.size; simp; omega))))
    go_ret
    exact ⟨rfl, B6⟩

set_option maxHeartbeats 1600000 in
theorem fnExactCrashed_walk (s : ByteArray) (n : Int) (keep : Int) (w : World) (hm : s.size ≤ maxLen) :
    Calls Try.prog 7 #[.agg #[.string s, .int .i64 n], .int .i64 keep] w fun e w' => e = .returned (.bool true) ∧ Below w.heap.size w w' := by
  have hb0 := (Below.refl w.heap.size w).alloc (Nat.le_refl _) (Obj.cells #[Value.string s, Value.int IntKind.i64 n] 39)
  have L0 := argAt_new w s n
  by_cases hbig : (1048576 : Int) < s.size
  · go_enter Try.func7, Try.ntmps7
    go_wp2_with (go_at_call 23; refine (sz_big s n _ hbig hm).mono ?_; rintro e w1 ⟨rfl, hb1⟩)
    go_ret
    exact ⟨rfl, hb0.trans (hb1.mono (Nat.le_of_lt L0.lt))⟩
  · clear hm
    have hj : ¬ ((1048576 : Int) - s.size < 0) := by omega
    have tok : True := trivial
    obtain ⟨a, b, h1, h2⟩ := crashed_both s n keep (by omega)
    go_enter Try.func7, Try.ntmps7
    go_wp2_with (first
      | (go_at_call 23; refine (sz_small s n _ hbig).mono ?_; rintro e w1 ⟨rfl, hb1⟩; have L1 := L0.below hb1 L0.lt; have B1 := hb0.trans (hb1.mono (Nat.le_of_lt L0.lt)); have c0 := L1.text; have c1 := L1.synced)
      | (go_at_call 24; have _t := tok; refine (to_calls s n _).mono ?_; clear tok; rintro e w2 ⟨rfl, hb2⟩; have L2 := L1.below hb2 L1.lt; have B2 := B1.trans (hb2.mono (Nat.le_of_lt L1.lt)))
      | (go_at_call 20; refine (h1 _).mono ?_; rintro e w3 ⟨rfl, hb3⟩; have L3 := L2.below hb3 L2.lt; have B3 := B2.trans (hb3.mono (Nat.le_of_lt L2.lt)); have c2 := L3.text; have c3 := L3.synced; have l3 := L3.lt)
      | (go_at_call 24; refine (to_calls s n _).mono ?_; rintro e w4 ⟨rfl, hb4⟩; have L4 := (L3.alloc _).below hb4 (L3.alloc _).lt; have F4 := (fileAt_new w3 a b rfl).below hb4 (fileAt_new w3 a b rfl).lt; have B4 := (B3.alloc (Nat.le_of_lt L3.lt) _).trans (hb4.mono (Nat.le_of_lt (L3.alloc _).lt)))
      | (go_at_call 11; refine (h2 _).mono ?_; rintro e w5 ⟨rfl, hb5⟩; have F5 := F4.below hb5 F4.lt; have B5 := B4.trans (hb5.mono (Nat.le_of_lt L4.lt)); have c4 := F5.text; have c5 := F5.synced; have l5 := F5.lt)
      | (go_at_call 25; refine (eq_calls a b _).mono ?_; rintro e w6 ⟨rfl, hb6⟩; have B6 := (B5.alloc B5.size _).trans (hb6.mono (by have := B5.size; simp; omega))))
    go_ret
    exact ⟨rfl, B6⟩

set_option maxHeartbeats 1600000 in
theorem fnExactAppended_walk (s : ByteArray) (n : Int) (t : ByteArray) (w : World) (hm : s.size ≤ maxLen) (_ht : t.size ≤ maxLen) :
    Calls Try.prog 5 #[.agg #[.string s, .int .i64 n], .string t] w fun e w' => e = .returned (.bool true) ∧ Below w.heap.size w w' := by
  by_cases htb : (1048576 : Int) < t.size
  · go_enter Try.func5, Try.ntmps5
    go_wp2
    go_ret
    exact ⟨rfl, (Below.refl _ _).alloc (Nat.le_refl _) _⟩
  have hb0 := (Below.refl w.heap.size w).alloc (Nat.le_refl _) (Obj.cells #[Value.string s, Value.int IntKind.i64 n] 39)
  have L0 := argAt_new w s n
  by_cases hbig : (1048576 : Int) < s.size
  · go_enter Try.func5, Try.ntmps5
    go_wp2_with (go_at_call 23; refine (sz_big s n _ hbig hm).mono ?_; rintro e w1 ⟨rfl, hb1⟩)
    go_ret
    exact ⟨rfl, hb0.trans (hb1.mono (Nat.le_of_lt L0.lt))⟩
  · clear hm
    have hj : ¬ ((1048576 : Int) - s.size < 0) := by omega
    have tok : True := trivial
    obtain ⟨a, q, h1, h2⟩ := appended_both s t n (by omega)
    go_enter Try.func5, Try.ntmps5
    go_wp2_with (first
      | (go_at_call 23; refine (sz_small s n _ hbig).mono ?_; rintro e w1 ⟨rfl, hb1⟩; have L1 := L0.below hb1 L0.lt; have B1 := hb0.trans (hb1.mono (Nat.le_of_lt L0.lt)); have c0 := L1.text; have c1 := L1.synced)
      | (go_at_call 24; have _t := tok; refine (to_calls s n _).mono ?_; clear tok; rintro e w2 ⟨rfl, hb2⟩; have L2 := L1.below hb2 L1.lt; have B2 := B1.trans (hb2.mono (Nat.le_of_lt L1.lt)))
      | (go_at_call 16; refine (h1 _).mono ?_; rintro e w3 ⟨rfl, hb3⟩; have L3 := L2.below hb3 L2.lt; have B3 := B2.trans (hb3.mono (Nat.le_of_lt L2.lt)); have c2 := L3.text; have c3 := L3.synced; have l3 := L3.lt)
      | (go_at_call 24; refine (to_calls s n _).mono ?_; rintro e w4 ⟨rfl, hb4⟩; have L4 := (L3.alloc _).below hb4 (L3.alloc _).lt; have F4 := (fileAt_new w3 a n rfl).below hb4 (fileAt_new w3 a n rfl).lt; have B4 := (B3.alloc (Nat.le_of_lt L3.lt) _).trans (hb4.mono (Nat.le_of_lt (L3.alloc _).lt)))
      | (go_at_call 12; refine (h2 _).mono ?_; rintro e w5 ⟨rfl, hb5⟩; have F5 := F4.below hb5 F4.lt; have B5 := B4.trans (hb5.mono (Nat.le_of_lt L4.lt)); have c4 := F5.text; have c5 := F5.synced; have l5 := F5.lt)
      | (go_at_call 25; refine (eq_calls a n _).mono ?_; rintro e w6 ⟨rfl, hb6⟩; have B6 := (B5.alloc B5.size _).trans (hb6.mono (by have := B5.size; simp; omega))))
    go_ret
    exact ⟨rfl, B6⟩

end Go.Proofs.Ytbnnmlfammeobaa
