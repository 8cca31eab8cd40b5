/- Two knowledges at once; what the program makes of them. -/
import Derived.Test.YtajihpcihlbjgaaKArr
import Derived.ChangeKeysEq
namespace Go.Proofs.Ytajihpcihlbjgaa
set_option maxRecDepth 100000
set_option linter.unusedVariables false
open Go.RowKit

theorem knowledgeOf_calls (l : List Int) (v : Value) (w : World) (h : IntsAt w v l) :
    Calls Try.prog 123 #[v] w fun e w' => ∃ a b c, e = .returned (.tuple #[arr a b c, .bool (decide (KOk l))]) ∧ Hid (KOk l → l = [a, b, c]) ∧ Below w.heap.size w w' := by
  cases hk : decide (KOk l)
  · refine (knowledgeOf_no l v w h hk).mono ?_
    rintro e w' ⟨rfl, hb⟩
    exact ⟨0, 0, 0, rfl, fun h => absurd h (of_decide_eq_false hk), hb⟩
  · obtain ⟨a, b, c, rfl, -⟩ := (of_decide_eq_true hk).split
    refine (knowledgeOf_ok a b c v w h hk).mono ?_
    rintro e w' ⟨rfl, hb⟩
    exact ⟨a, b, c, rfl, fun _ => rfl, hb⟩

/-- Two arrays that were made, in a world. -/
def Two (w wr : World) (a b c d e f : Int) : Prop := ArrAt wr w.heap.size a b c ∧ ArrAt wr (w.heap.size + 1) d e f ∧ Below w.heap.size w wr
theorem Two.next {w w1 w2 : World} {a b c d e f : Int} (h : Two w w1 a b c d e f) (hb : Below w1.heap.size w1 w2) : Two w w2 a b c d e f :=
  ⟨h.1.below hb h.1.lt, h.2.1.below hb h.2.1.lt, h.2.2.trans (hb.mono h.2.2.size)⟩
theorem Two.both {w wr : World} {a b c d e f : Int} (h : Two w wr 0 0 0 0 0 0) : Two w ((((((wr.setCell ⟨w.heap.size, 0, none⟩ (.int .i64 a)).setCell ⟨w.heap.size, 1, none⟩ (.int .i64 b)).setCell ⟨w.heap.size, 2, none⟩ (.int .i64 c)).setCell ⟨w.heap.size + 1, 0, none⟩ (.int .i64 d)).setCell ⟨w.heap.size + 1, 1, none⟩ (.int .i64 e)).setCell ⟨w.heap.size + 1, 2, none⟩ (.int .i64 f)) a b c d e f := by
  obtain ⟨h1, h2, h3⟩ := h
  refine ⟨?_, ?_, ?_⟩
  · exact (((((h1.set0 a).set1 b).set2 c).other (p := ⟨w.heap.size + 1, 0, none⟩) (by simp) _).other (p := ⟨w.heap.size + 1, 1, none⟩) (by simp) _).other (p := ⟨w.heap.size + 1, 2, none⟩) (by simp) _
  · exact (((((h2.other (p := ⟨w.heap.size, 0, none⟩) (by simp) _).other (p := ⟨w.heap.size, 1, none⟩) (by simp) _).other (p := ⟨w.heap.size, 2, none⟩) (by simp) _).set0 d).set1 e).set2 f
  · exact (((((h3.setCell (p := ⟨w.heap.size, 0, none⟩) (Nat.le_refl _) _).setCell (p := ⟨w.heap.size, 1, none⟩) (Nat.le_refl _) _).setCell (p := ⟨w.heap.size, 2, none⟩) (Nat.le_refl _) _).setCell (p := ⟨w.heap.size + 1, 0, none⟩) (Nat.le_add_right _ 1) _).setCell (p := ⟨w.heap.size + 1, 1, none⟩) (Nat.le_add_right _ 1) _).setCell (p := ⟨w.heap.size + 1, 2, none⟩) (Nat.le_add_right _ 1) _

/-- The greatest of each, the least of each, whether each is within. -/
def kmax (l m : List Int) : List Int := if KOk l ∧ KOk m then List.zipWith mx l m else []
def kmin (l m : List Int) : List Int := if KOk l ∧ KOk m then List.zipWith mn l m else []
def kin (l m : List Int) : Bool := decide (KOk l) && decide (KOk m) && (List.zipWith (fun x y => decide (x ≤ y)) l m).all id
def knows (l : List Int) (r s : Int) : Bool := decide (KOk l) && decide (DOk r s) && decide (s ≤ l.getD r.toNat 0)

/-- Two arrays that were laid one behind the other. -/
def Pair (w wr : World) (g : Nat) (a b c d e f : Int) : Prop := ArrAt wr g a b c ∧ ArrAt wr (g + 1) d e f ∧ Below w.heap.size w wr ∧ w.heap.size ≤ g
theorem pair_new {w w1 : World} (hb : Below w.heap.size w w1) (a b c d e f : Int) : Pair w ((w1.alloc (.cells #[.int .i64 a, .int .i64 b, .int .i64 c] 106)).alloc (.cells #[.int .i64 d, .int .i64 e, .int .i64 f] 106)) w1.heap.size a b c d e f :=
  ⟨(arrAt_new w1 a b c rfl).alloc _, arrAt_new _ d e f (by simp), (hb.alloc hb.size _).alloc (by simp; exact Nat.le_succ_of_le hb.size) _, hb.size⟩

theorem pair_cells {w w1 : World} {g : Nat} {a b c d e f : Int} (h : Pair w w1 g a b c d e f) : (w1.cell? ⟨g, 0, none⟩ = some (.int .i64 a) ∧ w1.cell? ⟨g, 1, none⟩ = some (.int .i64 b) ∧ w1.cell? ⟨g, 2, none⟩ = some (.int .i64 c)) ∧ (w1.cell? ⟨g + 1, 0, none⟩ = some (.int .i64 d) ∧ w1.cell? ⟨g + 1, 1, none⟩ = some (.int .i64 e) ∧ w1.cell? ⟨g + 1, 2, none⟩ = some (.int .i64 f)) :=
  ⟨⟨h.1.c0, h.1.c1, h.1.c2⟩, ⟨h.2.1.c0, h.2.1.c1, h.2.1.c2⟩⟩

theorem own_none (w : World) (e : TypeId) (s : Nat) {g B : Nat} (hg : g = w.heap.size) (hB : B ≤ g) : (w.alloc (.cells #[] e)).ownsRow B e s (.slice (some ⟨g, 0, none⟩) 0 0) 0 [] := by
  subst hg
  exact ⟨by simp, .inr ⟨w.heap.size, 0, #[], rfl, hB, (MapKept.heap_alloc w _).1, Nat.le_refl _, Nat.zero_le _, by simp, by simp⟩⟩
theorem own_base {w : World} {b b' : Nat} {e : TypeId} {size : Nat} {v : Value} {n : Nat} {xs : List Value} (h : w.ownsRow b e size v n xs) (hb : b' ≤ b) : w.ownsRow b' e size v n xs := by
  refine ⟨h.1, ?_⟩
  rcases h.2 with h | ⟨g, cap, cur, h1, h2, h3⟩
  · exact .inl h
  · exact .inr ⟨g, cap, cur, h1, Nat.le_trans hb h2, h3⟩
theorem Pair.end0 {w w1 : World} {g : Nat} {a b c d e f : Int} (h : Pair w w1 g a b c d e f) (hg : w1.heap.size = g + 2) (t : TypeId) (s : Nat) : (w1.alloc (.cells #[] t)).ownsRow w.heap.size t s (.slice (some ⟨g + 1 + 1, 0, none⟩) 0 0) 0 [] ∧ Below w.heap.size w (w1.alloc (.cells #[] t)) :=
  ⟨own_none w1 t s (by omega) (by have := h.2.2.2; omega), h.2.2.1.alloc h.2.2.1.size _⟩

set_option maxHeartbeats 400000 in
theorem knowNew_calls (w : World) : Calls Try.prog 60 #[] w fun r w' => ∃ x, r = .returned x ∧ w'.ownsRow w.heap.size 3 1 x 3 (intV [0, 0, 0]) ∧ Below w.heap.size w w' := by
  go_enter Try.func60, Try.ntmps60
  go_wp2_with fail
  refine (list_calls 0 0 0 _).mono ?_
  rintro r w3 ⟨x, rfl, ho3, hb3⟩
  have HO : Hid (w3.ownsRow w.heap.size 3 1 x 3 (intV [0, 0, 0])) := ho3
  have HB : Hid (Below w.heap.size w w3) := hb3
  clear ho3 hb3
  go_wp2
  go_ret
  exact ⟨_, rfl, HO.out, HB.out⟩

theorem infoInt' : ∃ i, Try.prog.info? 3 = some i := by
  obtain ⟨i0, hi, -⟩ := info_parts infoInt
  exact ⟨i0, hi⟩
theorem arr_guard : Try.prog.eqGuardType Try.prog.depth 106 = false := by kernel_rfl
theorem eq_arr_run (a b c d e f : Int) (w : World) : (Op.equalIn 10000 106 (.agg #[.int .i64 a, .int .i64 b, .int .i64 c]) (.agg #[.int .i64 d, .int .i64 e, .int .i64 f])).run Try.prog w = .ok (decide (a = d) && decide (b = e) && decide (c = f)) w := by
  obtain ⟨i, hi⟩ := infoInt'
  have hc : Try.prog.cellsOf 3 = 1 := by kernel_rfl
  rw [run_equalIn_array w 9999 _ _ Try.underlying106 hi, hc]
  by_cases h1 : a = d <;> by_cases h2 : b = e <;> by_cases h3 : c = f <;> simp [List.range, List.range.loop, Op.eqItems, go_sem, h1, h2, h3]

end Go.Proofs.Ytajihpcihlbjgaa
