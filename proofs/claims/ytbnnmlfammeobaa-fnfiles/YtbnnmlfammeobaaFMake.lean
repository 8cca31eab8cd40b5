/- A file is parted: the map, and both parts behind pointers in it, in whatever order they are laid. -/
import Derived.Test.YtbnnmlfammeobaaFParts
import Derived.Deep.RegionHeld3
import Derived.Deep.DrawnRows
namespace Go.Proofs.Ytbnnmlfammeobaa
open Go.RowKit
open Go.ChangeMaps (setBlock heap_setBlock_same heap_setBlock_other)
attribute [local go_sem ↓] Go.wp_at_zero Go.wp_at_succ

/-- One entry more, where there is a map. -/
def putW (X : World) (b : Nat) (key : Int) (v : Value) : World :=
  match X.heap[b]? with
  | some (.map es c) => setBlock X b (.map (es.push (ent key v c)) (c + 1))
  | _ => X
/-- There is a map, and nothing at that key. -/
def Ready (X : World) (b : Nat) (key : Int) : Prop := ∃ es c, X.heap[b]? = some (.map es c) ∧ Instr.findNow (.int .i64) (.int .i64 key) es.toList 0 = some none

theorem put_ready {X : World} {b : Nat} {key : Int} (v : Value) (h : Ready X b key) :
    (Instr.mapUpdate 52 (.map (some b)) (.int .i64 key) v).run Try.prog X = .ok () (putW X b key v) := by
  obtain ⟨es, c, hb, hf⟩ := h
  rw [put_run hb hf]; simp only [putW, hb]
theorem ready_new {X : World} {b : Nat} {key : Int} (h : b = X.heap.size) : Ready (X.alloc (.map #[] 0)) b key := by
  subst h; exact ⟨#[], 0, (MapKept.heap_alloc X _).1, rfl⟩
theorem ready_alloc (X : World) (b : Nat) (key : Int) (cs : Array Value) (t : TypeId) (fr : Nat × Nat) : Ready (X.alloc (.cells cs t fr)) b key = Ready X b key := by
  by_cases h : b < X.heap.size
  · unfold Ready; rw [Below.heap_alloc X _ b h]
  · apply propext
    constructor
    · rintro ⟨es, c, hb, _⟩
      by_cases h2 : b = X.heap.size
      · subst h2; rw [(MapKept.heap_alloc X _).1] at hb; cases hb
      · have := (Array.getElem?_eq_some_iff.1 hb).1
        simp at this; omega
    · rintro ⟨es, c, hb, _⟩
      exact absurd (Array.getElem?_eq_some_iff.1 hb).1 h
theorem ready_drew {X : World} {b : Nat} {key : Int} : Ready X.drew b key = Ready X b key := rfl
theorem find_push (d : TypeDesc) (x : Value) (e : MapEntry) (hne : Instr.sameNow d x e.key = some false) : ∀ (l : List MapEntry) (i : Nat), Instr.findNow d x l i = some none → Instr.findNow d x (l ++ [e]) i = some none
  | [], i, _ => by simp [Instr.findNow, hne]
  | y :: l, i, h => by
    simp only [List.cons_append, Instr.findNow] at h ⊢
    split at h
    · cases h
    · exact find_push d x e hne l (i + 1) h
    · cases h
theorem find_pop (d : TypeDesc) (x : Value) (e : MapEntry) : ∀ (l : List MapEntry) (i : Nat), Instr.findNow d x (l ++ [e]) i = some none → Instr.findNow d x l i = some none
  | [], i, _ => rfl
  | y :: l, i, h => by
    simp only [List.cons_append, Instr.findNow] at h ⊢
    split at h
    · cases h
    · exact find_pop d x e l (i + 1) h
    · cases h
theorem ready_put (X : World) (b : Nat) {key key' : Int} (v : Value) (hne : key ≠ key') : Ready (putW X b key' v) b key = Ready X b key := by
  apply propext
  constructor
  · rintro ⟨es, c, hb, hf⟩
    unfold putW at hb
    split at hb
    · rename_i es1 c1 h1
      rw [heap_setBlock_same h1] at hb
      cases hb
      rw [Array.toList_push] at hf
      exact ⟨es1, c1, h1, find_pop _ _ _ _ _ hf⟩
    · exact ⟨es, c, hb, hf⟩
  · rintro ⟨es, c, hb, hf⟩
    refine ⟨es.push (ent key' v c), c + 1, by simp only [putW, hb]; exact heap_setBlock_same hb _, ?_⟩
    rw [Array.toList_push]
    exact find_push _ _ _ (by simp [Instr.sameNow, ent, hne]) _ _ hf
theorem ready_12 (X : World) (b : Nat) (v : Value) : Ready (putW X b 1 v) b 2 = Ready X b 2 := ready_put X b v (by decide)
theorem ready_21 (X : World) (b : Nat) (v : Value) : Ready (putW X b 2 v) b 1 = Ready X b 1 := ready_put X b v (by decide)
theorem putW_size (X : World) (b : Nat) (key : Int) (v : Value) : (putW X b key v).heap.size = X.heap.size := by
  unfold putW; split <;> simp [setBlock]
theorem putW_drew (X : World) (b : Nat) (key : Int) (v : Value) : putW X.drew b key v = (putW X b key v).drew := by
  unfold putW
  show (match X.heap[b]? with | some (.map es c) => _ | _ => _) = _
  split <;> rfl
theorem putW_other (X : World) (b : Nat) (key : Int) (v : Value) {i : Nat} (h : i ≠ b) : (putW X b key v).heap[i]? = X.heap[i]? := by
  unfold putW
  split
  · rename_i h1; exact heap_setBlock_other h1 _ h
  · rfl
theorem putW_map {X : World} {b : Nat} {key : Int} {v : Value} {es : Array MapEntry} {c : Nat} (h : X.heap[b]? = some (.map es c)) : (putW X b key v).heap[b]? = some (.map (es.push (ent key v c)) (c + 1)) := by
  simp only [putW, h]; exact heap_setBlock_same h _
theorem putW_cell (X : World) (b : Nat) (key : Int) (v : Value) (a : Addr) : (putW X b key v).cell? a = X.cell? a := by
  by_cases h : a.block = b
  · unfold putW
    split
    · rename_i h1
      simp [World.cell?, h, heap_setBlock_same h1, h1]
    · rfl
  · exact World.cell?_of_block (w := X) (putW_other X b key v h)

theorem cell_alloc {X : World} {a : Addr} {u : Value} (o : Obj) (h : X.cell? a = some u) : (X.alloc o).cell? a = some u :=
  (World.cell?_of_block (w := X) (Below.heap_alloc X o a.block (World.block_lt_of_cell? X _ h))).trans h
theorem keepA {X : World} {a b : Addr} {u v : Value} {o : Obj} (h : X.drew.cell? a = some u ∧ X.drew.cell? b = some v) : (X.alloc o).drew.cell? a = some u ∧ (X.alloc o).drew.cell? b = some v :=
  ⟨cell_alloc (X := X) o h.1, cell_alloc (X := X) o h.2⟩

theorem keepP {X : World} {a b : Addr} {u v x : Value} {m : Nat} {key : Int} (h : X.drew.cell? a = some u ∧ X.drew.cell? b = some v) : (putW X m key x).drew.cell? a = some u ∧ (putW X m key x).drew.cell? b = some v :=
  ⟨(putW_cell X m key x a).trans h.1, (putW_cell X m key x b).trans h.2⟩

def E0 (X : World) (m : Nat) : Prop := X.heap[m]? = some (.map #[] 0)
def E1 (X : World) (m sb : Nat) : Prop := X.heap[m]? = some (.map #[ent 1 (ptr sb) 0] 1)
def E2 (X : World) (m lb : Nat) : Prop := X.heap[m]? = some (.map #[ent 2 (ptr lb) 0] 1)
theorem e0_new {X : World} {m : Nat} (h : m = X.heap.size) : E0 (X.alloc (.map #[] 0)) m := by subst h; exact (MapKept.heap_alloc X _).1
theorem e0_alloc {X : World} {m : Nat} {o : Obj} (h : E0 X m) : E0 (X.alloc o) m := (Below.heap_alloc X o m (Array.getElem?_eq_some_iff.1 h).1).trans h
theorem e1_alloc {X : World} {m sb : Nat} {o : Obj} (h : E1 X m sb) : E1 (X.alloc o) m sb := (Below.heap_alloc X o m (Array.getElem?_eq_some_iff.1 h).1).trans h
theorem e2_alloc {X : World} {m lb : Nat} {o : Obj} (h : E2 X m lb) : E2 (X.alloc o) m lb := (Below.heap_alloc X o m (Array.getElem?_eq_some_iff.1 h).1).trans h
theorem e1_put {X : World} {m sb : Nat} (h : E0 X m) : E1 (putW X m 1 (.pointer (some ⟨sb, 0, none⟩))) m sb := putW_map h
theorem e2_put {X : World} {m lb : Nat} (h : E0 X m) : E2 (putW X m 2 (.pointer (some ⟨lb, 0, none⟩))) m lb := putW_map h
theorem both_12 {X : World} {m sb lb : Nat} (h : E1 X m sb) : Both (putW X m 2 (.pointer (some ⟨lb, 0, none⟩))).drew m sb lb := ⟨0, 1, 2, .inl (putW_map h)⟩
theorem both_21 {X : World} {m sb lb : Nat} (h : E2 X m lb) : Both (putW X m 1 (.pointer (some ⟨sb, 0, none⟩))).drew m sb lb := ⟨1, 0, 2, .inr (putW_map h)⟩
theorem file_put {X : World} {m b : Nat} {key : Int} {v : Value} {s : ByteArray} {n : Int} (h : FileAt X b s n) : FileAt (putW X m key v) b s n := by
  by_cases e : b = m
  · subst e
    have h2 : X.heap[b]? = some (.cells #[.string s, .int .i64 n] 25 (0, 0)) := h
    have : putW X b key v = X := by unfold putW; rw [h2]
    rw [this]; exact h
  · exact (putW_other X m key v e).trans h
theorem file_drew {X : World} {b : Nat} {s : ByteArray} {n : Int} (h : FileAt X b s n) : FileAt X.drew b s n := h
theorem file_alloc {X : World} {b : Nat} {s : ByteArray} {n : Int} {o : Obj} (h : FileAt X b s n) : FileAt (X.alloc o) b s n := h.alloc o
theorem file_new {X : World} {b : Nat} {s : ByteArray} {n : Int} (h : b = X.heap.size) : FileAt (X.alloc (.cells #[.string s, .int .i64 n] 25)) b s n := fileAt_new X s n h
theorem below_put {w X : World} {B m : Nat} {key : Int} {v : Value} (h : Below B w X) (hm : B ≤ m) : Below B w (putW X m key v) := by
  refine h.trans ⟨?_, ?_, ?_, by rw [putW_size]; exact Nat.le_refl _, fun i hi => putW_other X m key v (by omega)⟩ <;> (unfold putW; split <;> rfl)
theorem below_drew {w X : World} {B : Nat} (h : Below B w X) : Below B w X.drew := h.drew
theorem below_alloc {w X : World} {B : Nat} {o : Obj} (h : Below B w X) (hB : B ≤ X.heap.size) : Below B w (X.alloc o) := h.alloc hB o

theorem parts_end {w w' : World} {H m sb lb : Nat} {e : Ending} {a b : ByteArray} {n k : Int} (hH : H = w.heap.size) (he : e = .returned (.map (some m))) (hB : Both w' m sb lb) (f1 : FileAt w' sb a n) (f2 : FileAt w' lb b k) (ne : sb ≠ lb) (b1 : H ≤ m) (b2 : H ≤ sb) (b3 : H ≤ lb) (bel : Below H w w') :
    ∃ m sb lb, e = .returned (.map (some m)) ∧ Both w' m sb lb ∧ FileAt w' sb a n ∧ FileAt w' lb b k ∧ sb ≠ lb ∧ w.heap.size ≤ m ∧ w.heap.size ≤ sb ∧ w.heap.size ≤ lb ∧ Below w.heap.size w w' := by
  subst hH; exact ⟨m, sb, lb, he, hB, f1, f2, ne, b1, b2, b3, bel⟩

set_option maxRecDepth 100000 in
set_option maxHeartbeats 3200000 in
theorem parts_calls (s : ByteArray) (k : Nat) (hk : k ≤ s.size) (w : World) :
    Calls Try.prog 31 #[.agg #[.string s, .int .i64 (k : Int)]] w fun e w' => ∃ m sb lb, e = .returned (.map (some m)) ∧ Both w' m sb lb ∧ FileAt w' sb (s.extract 0 k) k ∧ FileAt w' lb (s.extract k s.size) 0 ∧ sb ≠ lb ∧ w.heap.size ≤ m ∧ w.heap.size ≤ sb ∧ w.heap.size ≤ lb ∧ Below w.heap.size w w' := by
  have hsl : ∀ wx, (Instr.slice 9 (.string s) none (some (.int .i64 (k : Int))) none).run Try.prog wx = .ok (.string (s.extract 0 k)) wx := by
    intro wx
    rw [run_slice_string_h wx 9 s Try.underlying9 .i64 (k : Int) (by omega) (by omega), Int.toNat_natCast]
  have hsr : ∀ wx, (Instr.slice 9 (.string s) (some (.int .i64 (k : Int))) none none).run Try.prog wx = .ok (.string (s.extract k s.size)) wx := by
    intro wx
    rw [run_slice_string_l wx 9 s Try.underlying9 .i64 (k : Int) (by omega) (by omega), Int.toNat_natCast]
  have k0 : (0 : Int) ≤ (k : Int) := Int.natCast_nonneg _
  have k1 : (k : Int) ≤ (s.size : Int) := by omega
  have hmm := @run_makeMap Try.prog
  go_enter Try.func31, Try.ntmps31
  go_wp2_with fail
  obtain ⟨W, hW⟩ : ∃ W, W = w.alloc (Obj.cells #[Value.string s, Value.int IntKind.i64 (k : Int)] 25) := ⟨_, rfl⟩
  obtain ⟨H, hH⟩ : ∃ H, H = w.heap.size := ⟨_, rfl⟩
  have hW0 : FileAt W H s k := by rw [hW, hH]; exact fileAt_new w s k rfl
  have hWs : W.heap.size = H + 1 := by rw [hW, hH]; simp
  have hWb : Hid (Below H w W) := by rw [hW, hH]; exact (Below.refl _ _).alloc (Nat.le_refl _) _
  rw [← hW, ← hH]
  have HH : Hid (H = w.heap.size) := hH
  clear hW hH
  have c0 := hW0.text
  have c1 := hW0.synced
  have HW0 : Hid (FileAt W H s k) := hW0
  clear hW0
  have cc : W.drew.cell? ⟨H, 0, none⟩ = some (.string s) ∧ W.drew.cell? ⟨H, 1, none⟩ = some (.int .i64 (k : Int)) := ⟨c0, c1⟩
  clear c0 c1
  have p1 := @put_ready
  have p2 := @ready_new
  have p3 := @ready_alloc
  have p4 := @ready_drew
  have p5 := @ready_12
  have p9 := @ready_21
  have p6 := @putW_size
  have p7 := @putW_drew
  have p8 := @putW_cell
  go_region_held3 (fun w' => w'.cell? ⟨H, 0, none⟩ = some (.string s) ∧ w'.cell? ⟨H, 1, none⟩ = some (.int .i64 (k : Int))) (with_reducible (first | exact cc | (refine keepA ?_; assumption) | (refine keepP ?_; assumption))) (fail)
  all_goals clear p1 p2 p3 p4 p5 p7 p8 p9 hsl hsr hmm
  all_goals go_wp2
  all_goals go_ret
  all_goals
    refine parts_end HH.out (sb := ?_) (lb := ?_) rfl ?_ ?_ ?_ ?_ ?_ ?_ ?_ ?_
    rotate_left 2
    · with_reducible (first
        | (refine both_12 ?_; repeat' (first | (refine e1_put ?_) | (refine e1_alloc ?_) | (refine e0_new ?_) | (refine e0_alloc ?_)))
        | (refine both_21 ?_; repeat' (first | (refine e2_put ?_) | (refine e2_alloc ?_) | (refine e0_new ?_) | (refine e0_alloc ?_))))
      all_goals simp [hWs]
    · with_reducible (refine file_drew ?_; repeat' (first | (refine file_put ?_) | (refine file_new ?_) | (refine file_alloc ?_)))
      all_goals simp [p6, hWs]
    · with_reducible (refine file_drew ?_; repeat' (first | (refine file_put ?_) | (refine file_new ?_) | (refine file_alloc ?_)))
      all_goals simp [p6, hWs]
    · omega
    · omega
    · omega
    · omega
    · with_reducible (refine below_drew ?_; repeat' (first | (refine below_put ?_ ?_) | exact hWb.out | (refine below_alloc ?_ ?_)))
      all_goals (first | omega | (simp [p6, hWs]; done) | (simp [p6, hWs]; omega))

end Go.Proofs.Ytbnnmlfammeobaa
