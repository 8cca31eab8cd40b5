/- The parts of a file are put together again. -/
import Derived.Test.YtbnnmlfammeobaaFParts
import Derived.Test.YtbnnmlfammeobaaShelf
import Derived.Deep.RegionHeld3
namespace Go.Proofs.Ytbnnmlfammeobaa
open Go.RowKit

set_option maxHeartbeats 400000 in
theorem clone_calls (s : ByteArray) (w : World) (h : s.size ≤ 281474976710656) :
    Calls Try.prog 40 #[.string s] w fun e w' => e = .returned (.string s) ∧ Below w.heap.size w w' := by
  go_enter Try.func40, Try.ntmps40
  go_wp2_with (go_at_call 42; refine (Try.stringslite_Clone s _ h).mono ?_; rintro e w1 ⟨rfl, hb1⟩)
  go_ret
  exact ⟨rfl, hb1⟩

theorem keep2 {W w1 : World} {H : Nat} {s : ByteArray} {n : Int} (hb1 : Below W.drew.heap.size W.drew w1) (hWs : W.heap.size = H + 2) (h0 : FileAt W H s n) (h1 : FileAt W (H + 1) ByteArray.empty 0) :
    w1.cell? ⟨H, 0, none⟩ = some (.string s) ∧ w1.cell? ⟨H, 1, none⟩ = some (.int .i64 n) ∧ w1.cell? ⟨H + 1, 0, none⟩ = some (.string ByteArray.empty) ∧ w1.cell? ⟨H + 1, 1, none⟩ = some (.int .i64 0) ∧ w1.frozen? ⟨H + 1, 0, none⟩ = false ∧ w1.frozen? ⟨H + 1, 1, none⟩ = false := by
  have e : W.drew.heap.size = H + 2 := hWs
  rw [e] at hb1
  have k0 : FileAt w1 H s n := (hb1.block H (by omega)).trans h0
  have k1 : FileAt w1 (H + 1) ByteArray.empty 0 := (hb1.block (H + 1) (by omega)).trans h1
  exact ⟨k0.text, k0.synced, k1.text, k1.synced, k1.free 0, k1.free 1⟩

set_option maxHeartbeats 800000 in
theorem cloned_calls (s : ByteArray) (n : Int) (w : World) (h : s.size ≤ 281474976710656) :
    Calls Try.prog 30 #[.agg #[.string s, .int .i64 n]] w fun e w' => e = .returned (.agg #[.string s, .int .i64 n]) ∧ Below w.heap.size w w' := by
  go_enter Try.func30, Try.ntmps30
  go_wp2_with fail
  obtain ⟨W, hW⟩ : ∃ W, W = (w.alloc (Obj.cells #[Value.string s, Value.int IntKind.i64 n] 25)).alloc (Obj.cells #[Value.string { data := #[] }, Value.int IntKind.i64 0] 25) := ⟨_, rfl⟩
  obtain ⟨H, hH⟩ : ∃ H, H = w.heap.size := ⟨_, rfl⟩
  have hW0 : FileAt W H s n := by rw [hW, hH]; exact (fileAt_new w s n rfl).alloc _
  have hW1 : FileAt W (H + 1) ByteArray.empty 0 := by rw [hW, hH]; exact fileAt_new _ _ _ (by simp)
  have hWs : W.heap.size = H + 2 := by rw [hW, hH]; simp
  have hWb : Hid (Below H w W) := by rw [hW, hH]; exact ((Below.refl _ _).alloc (Nat.le_refl _) _).alloc (by simp) _
  rw [← hW, ← hH]
  have HH : Hid (H = w.heap.size) := hH
  clear hW hH
  have c0 := hW0.text
  have c1 := hW0.synced
  have d0 := hW1.text
  have d1 := hW1.synced
  have g0 := hW1.free 0
  have g1 := hW1.free 1
  have HW0 : Hid (FileAt W H s n) := hW0
  have HW1 : Hid (FileAt W (H + 1) ByteArray.empty 0) := hW1
  clear hW0 hW1
  go_region_held3 (fun w' => w'.cell? ⟨H, 0, none⟩ = some (.string s) ∧ w'.cell? ⟨H, 1, none⟩ = some (.int .i64 n)) (first | exact ⟨c0, c1⟩ | exact ⟨k0, k1⟩ | go_keep) (first | (go_at_call 40; refine (clone_calls s _ h).mono ?_; rintro e w1 ⟨rfl, hb1⟩; obtain ⟨k0, k1, k2, k3, k4, k5⟩ := keep2 hb1 hWs HW0.out HW1.out))
  all_goals go_wp2
  all_goals refine bodyPost_ret (ret_file rfl rfl (FileAt.setSynced (FileAt.setText (b := H + 1) (HW1.out.drew.below hb1 (Nat.lt_of_lt_of_le (Nat.lt_succ_self _) (Nat.le_of_eq hWs.symm))) s) n)) rfl ⟨rfl, ?_⟩
  all_goals rw [← HH.out]
  all_goals exact ((hWb.out.drew.trans (hb1.mono (Nat.le_trans (Nat.le_add_right H 2) (Nat.le_of_eq hWs.symm)))).setCell (p := ⟨H + 1, 0, none⟩) (Nat.le_succ H) _).setCell (p := ⟨H + 1, 1, none⟩) (Nat.le_succ H) _

/-- What was laid first stands behind a call. -/
theorem keep3 {w w1 : World} {o : Obj} (hb1 : Below ((w.alloc (.cells #[.string { data := #[] }, .int .i64 0] 25)).alloc o).heap.size ((w.alloc (.cells #[.string { data := #[] }, .int .i64 0] 25)).alloc o) w1) :
    FileAt w1 w.heap.size { data := #[] } 0 ∧ Below w.heap.size w w1 := by
  have h0 : FileAt ((w.alloc (.cells #[.string { data := #[] }, .int .i64 0] 25)).alloc o) w.heap.size { data := #[] } 0 := (fileAt_new w _ 0 rfl).alloc _
  have hB : Below w.heap.size w ((w.alloc (.cells #[.string { data := #[] }, .int .i64 0] 25)).alloc o) := ((Below.refl _ _).alloc (Nat.le_refl _) _).alloc (by simp) _
  exact ⟨h0.below hb1 h0.lt, hB.trans (hb1.mono (Nat.le_of_lt h0.lt))⟩
theorem keep3d {w w1 : World} {o : Obj} (hb1 : Below ((w.alloc (.cells #[.string { data := #[] }, .int .i64 0] 25)).alloc o).drew.heap.size ((w.alloc (.cells #[.string { data := #[] }, .int .i64 0] 25)).alloc o).drew w1) :
    FileAt w1 w.heap.size { data := #[] } 0 ∧ Below w.heap.size w w1 :=
  keep3 ⟨hb1.os, hb1.tape, hb1.output, hb1.size, hb1.block⟩

set_option maxHeartbeats 800000 in
theorem whole_both {w : World} {m sb lb : Nat} {s t : ByteArray} {n k : Int} (hB : Both w m sb lb) (hs : FileAt w sb s n) (ht : FileAt w lb t k) (hlen : s.size + t.size ≤ 281474976710656) :
    Calls Try.prog 34 #[.map (some m)] w fun e w' => e = .returned (.agg #[.string (s ++ t), .int .i64 n]) ∧ Below w.heap.size w w' := by
  have hBo : ∀ o, Both (w.alloc o) m sb lb := fun o => hB.block (Below.heap_alloc w o m hB.lt)
  have hBoo : ∀ o o', Both ((w.alloc o).alloc o') m sb lb := fun o o' => (hBo o).block (Below.heap_alloc (w.alloc o) o' m (hBo o).lt)
  have l1 : ∀ o, (Instr.lookup 52 (.map (some m)) (.int .i64 1) false).run Try.prog (w.alloc o) = .ok (.pointer (some ⟨sb, 0, none⟩)) (w.alloc o) := fun o => (hBo o).look1
  have l2 : ∀ o o', (Instr.lookup 52 (.map (some m)) (.int .i64 2) true).run Try.prog ((w.alloc o).alloc o') = .ok (.tuple #[.pointer (some ⟨lb, 0, none⟩), .bool true]) ((w.alloc o).alloc o') := fun o o' => (hBoo o o').lookOk
  have c0 := hs.text
  have c1 := hs.synced
  have d0 := ht.text
  have n0 := hs.lt
  have n1 := ht.lt
  clear hB hs ht hBo hBoo
  go_enter Try.func34, Try.ntmps34
  go_wp2
  go_big_region
  all_goals go_wp2_with (go_at_call 30; refine (cloned_calls (s ++ t) n _ ?_).mono ?_; (simp; omega); rintro e w1 ⟨rfl, hb1⟩; obtain ⟨k0, k1⟩ := keep3d hb1; have e0 := k0.text; have e1 := k0.synced; have f0 := k0.free 0; have f1 := k0.free 1)
  all_goals go_wp2
  all_goals refine bodyPost_ret (ret_file rfl rfl (FileAt.setSynced (FileAt.setText k0 (s ++ t)) n)) rfl ⟨rfl, ?_⟩
  all_goals exact (k1.setCell (p := ⟨w.heap.size, 0, none⟩) (Nat.le_refl _) _).setCell (p := ⟨w.heap.size, 1, none⟩) (Nat.le_refl _) _

set_option maxHeartbeats 800000 in
theorem whole_safe {w : World} {m sb : Nat} {s : ByteArray} {n : Int} (hB : Safe w m sb) (hs : FileAt w sb s n) (hlen : s.size ≤ 281474976710656) :
    Calls Try.prog 34 #[.map (some m)] w fun e w' => e = .returned (.agg #[.string s, .int .i64 n]) ∧ Below w.heap.size w w' := by
  have hBo : ∀ o, Safe (w.alloc o) m sb := fun o => hB.block (Below.heap_alloc w o m hB.lt)
  have hBoo : ∀ o o', Safe ((w.alloc o).alloc o') m sb := fun o o' => (hBo o).block (Below.heap_alloc (w.alloc o) o' m (hBo o).lt)
  have l1 : ∀ o, (Instr.lookup 52 (.map (some m)) (.int .i64 1) false).run Try.prog (w.alloc o) = .ok (.pointer (some ⟨sb, 0, none⟩)) (w.alloc o) := fun o => (hBo o).look1
  have l2 : ∀ o o', (Instr.lookup 52 (.map (some m)) (.int .i64 2) true).run Try.prog ((w.alloc o).alloc o') = .ok (.tuple #[.pointer none, .bool false]) ((w.alloc o).alloc o') := fun o o' => (hBoo o o').lookOk
  have c0 := hs.text
  have c1 := hs.synced
  have n0 := hs.lt
  clear hB hs hBo hBoo
  go_enter Try.func34, Try.ntmps34
  go_wp2_with (go_at_call 30; refine (cloned_calls s n _ hlen).mono ?_; rintro e w1 ⟨rfl, hb1⟩; obtain ⟨k0, k1⟩ := keep3 hb1; have e0 := k0.text; have e1 := k0.synced; have f0 := k0.free 0; have f1 := k0.free 1)
  all_goals refine bodyPost_ret (ret_file rfl rfl (FileAt.setSynced (FileAt.setText k0 s) n)) rfl ⟨rfl, ?_⟩
  all_goals exact (k1.setCell (p := ⟨w.heap.size, 0, none⟩) (Nat.le_refl _) _).setCell (p := ⟨w.heap.size, 1, none⟩) (Nat.le_refl _) _

end Go.Proofs.Ytbnnmlfammeobaa
