/- The parts of a file: what is safe and what is loose, each behind a pointer in a map. -/
import Derived.Test.YtbnnmlfammeobaaFMap
import Derived.Laws.IdiomStrings
import Derived.Deep.QuietTactic
import Derived.BigQuiet
import Derived.BigRegion
import Derived.Laws.Rows
import Derived.Laws.ResultCell
namespace Go.Proofs.Ytbnnmlfammeobaa
open Go.RowKit
open Go.ChangeMaps (setBlock heap_setBlock_same heap_setBlock_other)

/-- A file in a block of its own. -/
def FileAt (w : World) (b : Nat) (s : ByteArray) (n : Int) : Prop := w.heap[b]? = some (.cells #[.string s, .int .i64 n] 25 (0, 0))
def ptr (b : Nat) : Value := .pointer (some ⟨b, 0, none⟩)

theorem FileAt.text {w : World} {b : Nat} {s : ByteArray} {n : Int} (h : FileAt w b s n) : w.cell? ⟨b, 0, none⟩ = some (.string s) := by unfold FileAt at h; simp [World.cell?, h]
theorem FileAt.synced {w : World} {b : Nat} {s : ByteArray} {n : Int} (h : FileAt w b s n) : w.cell? ⟨b, 1, none⟩ = some (.int .i64 n) := by unfold FileAt at h; simp [World.cell?, h]
theorem FileAt.free {w : World} {b : Nat} {s : ByteArray} {n : Int} (h : FileAt w b s n) (i : Nat) : w.frozen? ⟨b, i, none⟩ = false := by unfold FileAt at h; simp [World.frozen?, h]
theorem FileAt.setText {w : World} {b : Nat} {s : ByteArray} {n : Int} (h : FileAt w b s n) (u : ByteArray) : FileAt (w.setCell ⟨b, 0, none⟩ (.string u)) b u n := by
  have hm : w.heap[b]? = some (.cells #[.string s, .int .i64 n] 25 (0, 0)) := h
  unfold FileAt World.setCell
  simp [Array.getElem?_modify, hm]
theorem FileAt.setNone {w : World} {b : Nat} {s : ByteArray} {n : Int} (h : FileAt w b s n) (t : ByteArray) : FileAt (w.setCell ⟨b, 0, none⟩ (.string ByteArray.empty)) b (t.extract 0 0) n := by
  have e : t.extract 0 0 = ByteArray.empty := by simp
  rw [e]; exact h.setText _
theorem FileAt.setAll {w : World} {b : Nat} {s : ByteArray} {n : Int} (h : FileAt w b s n) (t : ByteArray) : FileAt (w.setCell ⟨b, 0, none⟩ (.string t)) b (t.extract 0 t.size) n := by
  have e : t.extract 0 t.size = t := by simp
  rw [e]; exact h.setText _
theorem FileAt.setSynced {w : World} {b : Nat} {s : ByteArray} {n : Int} (h : FileAt w b s n) (k : Int) : FileAt (w.setCell ⟨b, 1, none⟩ (.int .i64 k)) b s k := by
  have hm : w.heap[b]? = some (.cells #[.string s, .int .i64 n] 25 (0, 0)) := h
  unfold FileAt World.setCell
  simp [Array.getElem?_modify, hm]
theorem FileAt.other {w : World} {b : Nat} {s : ByteArray} {n : Int} (h : FileAt w b s n) {a : Addr} (hne : b ≠ a.block) (u : Value) : FileAt (w.setCell a u) b s n := by
  unfold FileAt; rw [Below.heap_setCell w a u b hne]; exact h
theorem FileAt.lt {w : World} {b : Nat} {s : ByteArray} {n : Int} (h : FileAt w b s n) : b < w.heap.size := (Array.getElem?_eq_some_iff.1 h).1
theorem FileAt.alloc {w : World} {b : Nat} {s : ByteArray} {n : Int} (h : FileAt w b s n) (o : Obj) : FileAt (w.alloc o) b s n := (Below.heap_alloc w o b h.lt).trans h
theorem FileAt.below {w w' : World} {b B : Nat} {s : ByteArray} {n : Int} (h : FileAt w b s n) (hb : Below B w w') (hB : b < B) : FileAt w' b s n := (hb.block b hB).trans h
theorem fileAt_new (w : World) (s : ByteArray) (n : Int) {b : Nat} (hb : b = w.heap.size) : FileAt (w.alloc (.cells #[.string s, .int .i64 n] 25)) b s n := by subst hb; exact (MapKept.heap_alloc w _).1
theorem FileAt.drew {w : World} {b : Nat} {s : ByteArray} {n : Int} (h : FileAt w b s n) : FileAt w.drew b s n := h

/-- A file that is handed back lies in a block of its own. -/
theorem ret_file {fn : Func} {p : Tmp} (h : fn.results = #[.cell p 25]) {tmps : Array Value} {w : World} {g : Nat} {s : ByteArray} {n : Int} (hp : tmps.getD p undef = .pointer (some ⟨g, 0, none⟩)) (hg : FileAt w g s n) :
    (results fn tmps).run Try.prog w = .ok (.agg #[.string s, .int .i64 n]) w := results_cell_row h tmps w g 25 _ (0, 0) _ hp hg Try.underlying25 rfl (by kernel_rfl)
theorem ret_file2 {fn : Func} {p u : Tmp} (h : fn.results = #[.cell p 25, .tmp u]) {tmps : Array Value} {w : World} {g : Nat} {s : ByteArray} {n : Int} {v : Value} (hp : tmps.getD p undef = .pointer (some ⟨g, 0, none⟩)) (hv : tmps.getD u undef = v) (hg : FileAt w g s n) :
    (results fn tmps).run Try.prog w = .ok (.tuple #[.agg #[.string s, .int .i64 n], v]) w := by
  rw [results_cell_tmp h, hp, hv]
  simp [asAddr, Result.andThen, run_loadVar_row w g 25 25 _ (0, 0) _ hg Try.underlying25 rfl (by kernel_rfl)]

/-- The map holds both parts. -/
def Both (w : World) (m sb lb : Nat) : Prop := ∃ c d q, w.heap[m]? = some (.map #[ent 1 (ptr sb) c, ent 2 (ptr lb) d] q) ∨ w.heap[m]? = some (.map #[ent 2 (ptr lb) d, ent 1 (ptr sb) c] q)
/-- It holds the safe part alone. -/
def Safe (w : World) (m sb : Nat) : Prop := ∃ c q, w.heap[m]? = some (.map #[ent 1 (ptr sb) c] q)

theorem Both.look1 {w : World} {m sb lb : Nat} (h : Both w m sb lb) : (Instr.lookup 52 (.map (some m)) (.int .i64 1) false).run Try.prog w = .ok (ptr sb) w := by
  obtain ⟨c, d, q, h | h⟩ := h
  · exact look_run h rfl
  · exact look_run h rfl
theorem Both.look2 {w : World} {m sb lb : Nat} (h : Both w m sb lb) : (Instr.lookup 52 (.map (some m)) (.int .i64 2) false).run Try.prog w = .ok (ptr lb) w := by
  obtain ⟨c, d, q, h | h⟩ := h
  · exact look_run h rfl
  · exact look_run h rfl
theorem Both.lookOk {w : World} {m sb lb : Nat} (h : Both w m sb lb) : (Instr.lookup 52 (.map (some m)) (.int .i64 2) true).run Try.prog w = .ok (.tuple #[ptr lb, .bool true]) w := by
  obtain ⟨c, d, q, h | h⟩ := h
  · exact look_ok_run h rfl
  · exact look_ok_run h rfl
theorem Safe.look1 {w : World} {m sb : Nat} (h : Safe w m sb) : (Instr.lookup 52 (.map (some m)) (.int .i64 1) false).run Try.prog w = .ok (ptr sb) w := by
  obtain ⟨c, q, h⟩ := h
  exact look_run h rfl
theorem Safe.lookOk {w : World} {m sb : Nat} (h : Safe w m sb) : (Instr.lookup 52 (.map (some m)) (.int .i64 2) true).run Try.prog w = .ok (.tuple #[.pointer none, .bool false]) w := by
  obtain ⟨c, q, h⟩ := h
  exact look_none_run h rfl
theorem Both.block {w w' : World} {m sb lb : Nat} (h : Both w m sb lb) (e : w'.heap[m]? = w.heap[m]?) : Both w' m sb lb := by
  obtain ⟨c, d, q, h⟩ := h
  exact ⟨c, d, q, by rw [e]; exact h⟩
theorem Safe.block {w w' : World} {m sb : Nat} (h : Safe w m sb) (e : w'.heap[m]? = w.heap[m]?) : Safe w' m sb := by
  obtain ⟨c, q, h⟩ := h
  exact ⟨c, q, by rw [e]; exact h⟩
theorem Both.lt {w : World} {m sb lb : Nat} (h : Both w m sb lb) : m < w.heap.size := by
  obtain ⟨c, d, q, h | h⟩ := h <;> exact (Array.getElem?_eq_some_iff.1 h).1
theorem Safe.lt {w : World} {m sb : Nat} (h : Safe w m sb) : m < w.heap.size := by
  obtain ⟨c, q, h⟩ := h
  exact (Array.getElem?_eq_some_iff.1 h).1
theorem Both.off {w : World} {m sb lb b : Nat} {s : ByteArray} {n : Int} (h : Both w m sb lb) (hf : FileAt w b s n) : m ≠ b := by
  rintro rfl
  obtain ⟨c, d, q, h | h⟩ := h <;> (rw [hf] at h; cases h)
theorem Both.set {w : World} {m sb lb b i : Nat} {s : ByteArray} {n : Int} (h : Both w m sb lb) (hf : FileAt w b s n) (u : Value) : Both (w.setCell ⟨b, i, none⟩ u) m sb lb := h.block (Below.heap_setCell _ _ _ _ (h.off hf))
theorem Both.del {w : World} {m sb lb : Nat} (h : Both w m sb lb) : ∃ o, (∀ ty, (Builtin.delete_ #[52, 3] ty #[.map (some m), .int .i64 2]).run Try.prog w = .ok (.tuple #[]) (setBlock w m o)) ∧ Safe (setBlock w m o) m sb := by
  obtain ⟨c, d, q, h | h⟩ := h
  · exact ⟨_, fun ty => del_run h rfl, c, q, (heap_setBlock_same h _).trans (by simp [Array.eraseIdxIfInBounds])⟩
  · exact ⟨_, fun ty => del_run h rfl, c, q, (heap_setBlock_same h _).trans (by simp [Array.eraseIdxIfInBounds])⟩
theorem Both.has {w : World} {m sb lb : Nat} (h : Both w m sb lb) : ∃ es q, w.heap[m]? = some (.map es q) := by
  obtain ⟨c, d, q, h | h⟩ := h <;> exact ⟨_, _, h⟩
theorem below_setBlock {w : World} {B m q : Nat} {es : Array MapEntry} (hb : w.heap[m]? = some (.map es q)) (h : B ≤ m) (o : Obj) : Below B w (setBlock w m o) :=
  ⟨rfl, rfl, rfl, by simp [setBlock], fun k hk => heap_setBlock_other hb o (by omega)⟩

set_option maxHeartbeats 400000 in
theorem add_calls {w : World} {m sb lb B : Nat} {s t : ByteArray} {n k : Int} (u : ByteArray) (hB : Both w m sb lb) (hs : FileAt w sb s n) (ht : FileAt w lb t k) (hne : sb ≠ lb) (hb : B ≤ lb) (hlen : t.size + u.size ≤ maxLen) :
    Calls Try.prog 35 #[.map (some m), .string u] w fun e w' => e = .returned (.tuple #[]) ∧ Both w' m sb lb ∧ FileAt w' sb s n ∧ FileAt w' lb (t ++ u) k ∧ Below B w w' := by
  unfold maxLen at hlen
  have l2 : (Instr.lookup 52 (.map (some m)) (.int .i64 2) false).run Try.prog w = .ok (.pointer (some ⟨lb, 0, none⟩)) w := hB.look2
  have c0 := ht.text
  have f0 := ht.free 0
  have HB : Hid (Both w m sb lb) := hB
  have HS : Hid (FileAt w sb s n) := hs
  have HT : Hid (FileAt w lb t k) := ht
  clear hB hs ht
  go_enter Try.func35, Try.ntmps35
  go_wp2
  go_end0
  exact ⟨by simp, HB.out.set HT.out _, HS.out.other hne _, HT.out.setText _, (Below.refl _ _).setCell hb _⟩

/-- How many bytes a fall keeps of len loose ones. -/
def kept (keep : Int) (len : Nat) : Nat := min keep.toNat len

/-- The same up to a place that lies within, or at an end. -/
theorem fall_at {w : World} {m sb lb B : Nat} {s t : ByteArray} {n k : Int} (keep : Int) (x : Nat) (hx : x ≤ t.size) (hk : (keep < 0 ∧ x = 0) ∨ (0 ≤ keep ∧ keep ≤ t.size ∧ (x : Int) = keep) ∨ ((t.size : Int) < keep ∧ x = t.size))
    (hB : Both w m sb lb) (hs : FileAt w sb s n) (ht : FileAt w lb t k) (hne : sb ≠ lb) (hb : B ≤ lb) :
    Calls Try.prog 32 #[.map (some m), .int .i64 keep] w fun e w' => e = .returned (.tuple #[]) ∧ Both w' m sb lb ∧ FileAt w' sb s n ∧ FileAt w' lb (t.extract 0 x) k ∧ Below B w w' := by
  have l2 : (Instr.lookup 52 (.map (some m)) (.int .i64 2) false).run Try.prog w = .ok (.pointer (some ⟨lb, 0, none⟩)) w := hB.look2
  have c0 := ht.text
  have f0 := ht.free 0
  have h0 : (0 : Int) ≤ (t.size : Int) := Int.natCast_nonneg _
  have hsl : ∀ wx, (Instr.slice 9 (.string t) none (some (.int .i64 (x : Int))) none).run Try.prog wx = .ok (.string (t.extract 0 x)) wx := by
    intro wx
    rw [run_slice_string_h wx 9 t Try.underlying9 .i64 (x : Int) (by omega) (by omega), Int.toNat_natCast]
  have HB : Hid (Both w m sb lb) := hB
  have HS : Hid (FileAt w sb s n) := hs
  have HT : Hid (FileAt w lb t k) := ht
  clear hB hs ht
  rcases hk with ⟨h1, rfl⟩ | ⟨h1, h2, rfl⟩ | ⟨h1, rfl⟩
  · have h2 : (0 : Int) > keep := h1
    have h3 : ¬ ((t.size : Int) < 0) := by omega
    go_enter Try.func32, Try.ntmps32
    go_wp2
    go_big_region
    all_goals go_wp2
    all_goals go_end0
    all_goals exact ⟨by simp, HB.out.set HT.out _, HS.out.other hne _, HT.out.setNone t, ((Below.refl _ _).setCell hb _).drew⟩
  · have h3 : ¬ ((0 : Int) > (x : Int)) := by omega
    have h4 : ¬ ((t.size : Int) < (x : Int)) := by omega
    go_enter Try.func32, Try.ntmps32
    go_wp2
    go_big_region
    all_goals go_wp2
    all_goals go_end0
    all_goals exact ⟨by simp, HB.out.set HT.out _, HS.out.other hne _, HT.out.setText _, ((Below.refl _ _).setCell hb _).drew⟩
  · have h2 : ¬ ((0 : Int) > keep) := by omega
    go_enter Try.func32, Try.ntmps32
    go_wp2
    go_big_region
    all_goals go_wp2
    all_goals go_end0
    all_goals exact ⟨by simp, HB.out.set HT.out _, HS.out.other hne _, HT.out.setAll t, ((Below.refl _ _).setCell hb _).drew⟩

theorem fall_calls {w : World} {m sb lb B : Nat} {s t : ByteArray} {n k : Int} (keep : Int) (hB : Both w m sb lb) (hs : FileAt w sb s n) (ht : FileAt w lb t k) (hne : sb ≠ lb) (hb : B ≤ lb) :
    Calls Try.prog 32 #[.map (some m), .int .i64 keep] w fun e w' => e = .returned (.tuple #[]) ∧ Both w' m sb lb ∧ FileAt w' sb s n ∧ FileAt w' lb (t.extract 0 (kept keep t.size)) k ∧ Below B w w' :=
  fall_at keep (kept keep t.size) (by unfold kept; omega) (by unfold kept; omega) hB hs ht hne hb

/-- The loose part is deleted. -/
theorem wpList_del {w : World} {ops : Array Oper} {rest : List Oper} {o : Oper} {a : Act} {Q : Exit → Act → World → Prop} {b sb lb : Nat} (hg : o.guard = none) (m x : Operand) (hop : o.op = Op.call { callee := Callee.builtin Builtin.delete, args := #[m, x], argTypes := #[52, 3] })
    (hm : a.eval m = .map (some b)) (hx : a.eval x = .int .i64 2) (hB : Both w b sb lb) (hK : ∀ w', Safe w' b sb → (∃ o', w' = setBlock w b o') → wpList Try.prog ops Q rest (a.put o.dst (.tuple #[])) w') :
    wpList Try.prog ops Q (o :: rest) a w := by
  refine wpList_plain hg fun K' hK' => ?_
  obtain ⟨o', hrun, hS⟩ := hB.del
  unfold Oper.wp
  simp [execOp, hop, resolve, invoke, builtin, hm, hx, hrun, Result.andThen]
  exact hK' _ _ (hK _ hS ⟨o', rfl⟩)

theorem sync_end {w w' : World} {m sb lb B : Nat} {s t : ByteArray} {n : Int} {o' : Obj} (hB : Both w m sb lb) (hs : FileAt w sb s n) (hb : B ≤ sb) (hbm : B ≤ m)
    (he : w' = setBlock ((w.setCell ⟨sb, 0, none⟩ (.string (s ++ t))).setCell ⟨sb, 1, none⟩ (.int .i64 ((s.size : Int) + t.size))).drew m o') :
    FileAt w' sb (s ++ t) ((s.size + t.size : Nat) : Int) ∧ Below B w w' := by
  subst he
  obtain ⟨es, q, h⟩ := ((hB.set hs (i := 0) (.string (s ++ t))).set (i := 1) (hs.setText _) (.int .i64 ((s.size : Int) + t.size))).has
  have b1 : Below B w ((w.setCell ⟨sb, 0, none⟩ (.string (s ++ t))).setCell ⟨sb, 1, none⟩ (.int .i64 ((s.size : Int) + t.size))).drew := (((Below.refl B w).setCell (p := ⟨sb, 0, none⟩) hb _).setCell (p := ⟨sb, 1, none⟩) hb _).drew
  have h' : (((w.setCell ⟨sb, 0, none⟩ (.string (s ++ t))).setCell ⟨sb, 1, none⟩ (.int .i64 ((s.size : Int) + t.size))).drew).heap[m]? = some (.map es q) := h
  refine ⟨?_, b1.trans (below_setBlock h' hbm o')⟩
  show (setBlock _ m o').heap[sb]? = _
  rw [heap_setBlock_other h' o' (hB.off hs).symm, Int.natCast_add]
  exact (hs.setText (s ++ t)).setSynced _

set_option maxHeartbeats 400000 in
theorem sync_calls {w : World} {m sb lb B : Nat} {s t : ByteArray} {n k : Int} (hB : Both w m sb lb) (hs : FileAt w sb s n) (ht : FileAt w lb t k) (hb : B ≤ sb) (hbm : B ≤ m) (hlen : s.size + t.size ≤ maxLen) :
    Calls Try.prog 33 #[.map (some m)] w fun e w' => e = .returned (.tuple #[]) ∧ Safe w' m sb ∧ FileAt w' sb (s ++ t) ((s.size + t.size : Nat) : Int) ∧ Below B w w' := by
  unfold maxLen at hlen
  have l1 : (Instr.lookup 52 (.map (some m)) (.int .i64 1) false).run Try.prog w = .ok (.pointer (some ⟨sb, 0, none⟩)) w := hB.look1
  have l2 : (Instr.lookup 52 (.map (some m)) (.int .i64 2) false).run Try.prog w = .ok (.pointer (some ⟨lb, 0, none⟩)) w := hB.look2
  have l3 : (Instr.lookup 52 (.map (some m)) (.int .i64 2) false).run Try.prog w.drew = .ok (.pointer (some ⟨lb, 0, none⟩)) w.drew := Both.look2 (w := w.drew) hB
  have c0 := hs.text
  have c1 := hs.synced
  have f0 := hs.free 0
  have f1 := hs.free 1
  have d0 := ht.text
  have HB : Hid (Both w m sb lb) := hB
  have HS : Hid (FileAt w sb s n) := hs
  have HT : Hid (FileAt w lb t k) := ht
  clear hB hs ht
  go_enter Try.func33, Try.ntmps33
  go_wp2
  go_big_region
  all_goals go_wp2_with (at_delete; refine wpList_del (sb := sb) (lb := lb) rfl _ _ rfl rfl rfl ((HB.out.set HS.out _).set (HS.out.setText _) _) ?_)
  all_goals intro w' hS o' he
  all_goals go_wp2
  all_goals go_end0
  all_goals exact ⟨by simp, hS, sync_end HB.out HS.out hb hbm he⟩

end Go.Proofs.Ytbnnmlfammeobaa
