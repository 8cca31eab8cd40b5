/- The dots that one knowledge has and another has not, as the program lists them. -/
import Derived.Test.YtajihpcihlbjgaaKKnows
import Derived.Maps.AppendAt
import Derived.Laws.StructEq
namespace Go.Proofs.Ytajihpcihlbjgaa
set_option maxRecDepth 100000
set_option linter.unusedVariables false
open Go.RowKit

/-- One of three. -/
def at3 (a b c : Int) : Nat → Int
  | 0 => a
  | 1 => b
  | _ => c

/-- k dots of one replica from behind x on; the cells of dots. -/
def dotsN (i x : Int) (k : Nat) : List (Int × Int) := (List.range k).map fun (j : Nat) => (i, x + 1 + (j : Int))
def dotsOf (i x y : Int) : List (Int × Int) := dotsN i x (y - x).toNat
theorem dotsN_succ (i x : Int) (k : Nat) : dotsN i x (k + 1) = dotsN i x k ++ [(i, x + 1 + (k : Int))] := by simp [dotsN, List.range_succ]
theorem dotsN_len (i x : Int) (k : Nat) : (dotsN i x k).length = k := by simp [dotsN]
def dotV (l : List (Int × Int)) : List Value := l.flatMap fun p => [Value.int .i64 p.1, Value.int .i64 p.2]
theorem dotV_app (l m : List (Int × Int)) : dotV (l ++ m) = dotV l ++ dotV m := by simp [dotV]
theorem dotV_one (i x : Int) : dotV [(i, x)] = [Value.int .i64 i, Value.int .i64 x] := rfl
/-- The dots of the first j replicas. -/
def dotsTo (p q : Nat → Int) (j : Nat) : List (Int × Int) := (List.range j).flatMap fun (i : Nat) => dotsOf (i : Int) (p i) (q i)
theorem dotsTo_succ (p q : Nat → Int) (j : Nat) : dotsTo p q (j + 1) = dotsTo p q j ++ dotsOf j (p j) (q j) := by simp [dotsTo, List.range_succ]
theorem dotsTo_len (p q : Nat → Int) (hq : ∀ i, q i - p i ≤ 1000) (j : Nat) : (dotsTo p q j).length ≤ 1000 * j := by
  induction j with
  | zero => simp [dotsTo]
  | succ j ih =>
    rw [dotsTo_succ, List.length_append, dotsOf, dotsN_len]
    have := hq j
    omega

theorem infoDot : (Try.prog.info? 40).map (fun i => (i.zero, i.size, i.bytes)) = some (some (.agg #[.int .i64 0, .int .i64 0]), 2, 16) := by kernel_rfl
theorem dot_fields : Try.prog.underlying 40 = some (.struct (Try.prog.fieldsOf 40)) := by kernel_rfl
theorem dot_held : Try.prog.stoodInHeld 40 = false := by kernel_rfl
theorem dot_guard : Try.prog.eqGuardType Try.prog.depth 40 = false := by kernel_rfl
theorem eq_dot_run (r s r' s' : Int) (w : World) : (Op.equalIn 10000 40 (.agg #[.int .i64 r, .int .i64 s]) (.agg #[.int .i64 r', .int .i64 s'])).run Try.prog w = .ok (decide (r = r') && decide (s = s')) w := by
  rw [run_equalIn_struct w 9999 40 _ _ dot_fields dot_held]
  simp only [Program.fieldsOf, Try.underlying40]
  by_cases h1 : r = r' <;> by_cases h2 : s = s' <;> simp [Op.eqFields, go_sem, h1, h2]

theorem two_new (w : World) (x y : Value) (e : TypeId) : ∀ j u, [x, y][j]? = some u → (w.alloc (.cells #[x, y] e)).cell? (Addr.add ⟨w.heap.size, 0, none⟩ j) = some u := by
  intro j u hj
  match j, hj with
  | 0, hj => simp at hj; subst hj; simp [Addr.add]
  | 1, hj => simp at hj; subst hj; simp [Addr.add]

/-- A row of dots lies in no array's block. -/
theorem own_off {w : World} {B n g : Nat} {u : Value} {xs : List Value} {a b c : Int} (h : w.ownsRow B 40 2 u n xs) (hA : ArrAt w g a b c) : u.ownBlock ≠ some g := by
  intro e
  rcases h.2 with ⟨rfl, -⟩ | ⟨k, cap, cur, rfl, -, hk, -⟩
  · cases e
  · cases e
    rw [hA] at hk
    cases hk

/-- What the loops of lacks hold. -/
structure Lk (w wr : World) (u : Value) (l : List (Int × Int)) (g : Nat) (a b c d e f : Int) : Prop where
  own : wr.ownsRow w.heap.size 40 2 u l.length (dotV l)
  one : ArrAt wr w.heap.size a b c
  two : ArrAt wr g d e f
  below : Below w.heap.size w wr

theorem Lk.next {w wr w2 : World} {u : Value} {l : List (Int × Int)} {g : Nat} {a b c d e f : Int} (h : Lk w wr u l g a b c d e f) (hb : Below wr.heap.size wr w2) : Lk w w2 u l g a b c d e f := by
  refine ⟨h.own.kept (row := none) ⟨hb.os, hb.tape, hb.output, hb.size, fun k hk _ => hb.block k hk⟩ ?_, h.one.below hb h.one.lt, h.two.below hb h.two.lt, h.below.trans (hb.mono h.below.size)⟩
  cases hv : u.ownBlock with
  | none => exact .inl rfl
  | some k => exact .inr (by simp)
theorem Lk.alloc {w wr : World} {u : Value} {l : List (Int × Int)} {g : Nat} {a b c d e f : Int} (h : Lk w wr u l g a b c d e f) (o : Obj) : Lk w (wr.alloc o) u l g a b c d e f := h.next ((Below.refl _ _).alloc (Nat.le_refl _) o)
theorem Lk.cells {w wr : World} {u : Value} {l : List (Int × Int)} {g : Nat} {a b c d e f : Int} (h : Lk w wr u l g a b c d e f) : (wr.cell? ⟨w.heap.size, 0, none⟩ = some (.int .i64 a) ∧ wr.cell? ⟨w.heap.size, 1, none⟩ = some (.int .i64 b) ∧ wr.cell? ⟨w.heap.size, 2, none⟩ = some (.int .i64 c)) ∧ (wr.cell? ⟨g, 0, none⟩ = some (.int .i64 d) ∧ wr.cell? ⟨g, 1, none⟩ = some (.int .i64 e) ∧ wr.cell? ⟨g, 2, none⟩ = some (.int .i64 f)) :=
  ⟨⟨h.one.c0, h.one.c1, h.one.c2⟩, ⟨h.two.c0, h.two.c1, h.two.c2⟩⟩

theorem set_by (w : World) (b j : Nat) (x : Value) : w.grownBy (w.setCell ⟨b, j, none⟩ x) (some b) :=
  ⟨rfl, rfl, rfl, by simp, fun k _ hne => Below.heap_setCell w ⟨b, j, none⟩ x k (fun e => hne (by rw [e]))⟩
theorem DotAt.off {w : World} {g k : Nat} {r s a b c : Int} (h : DotAt w g r s) (hA : ArrAt w k a b c) : k ≠ g := by
  rintro rfl
  have h' : w.heap[k]? = _ := h
  rw [hA] at h'
  cases h'
theorem DotAt.grown {w w' : World} {g : Nat} {r s : Int} {row : Option Nat} (h : DotAt w g r s) (hg : w.grownBy w' row) (hne : row ≠ some g) : DotAt w' g r s :=
  (hg.block g h.lt (fun e => hne e.symm)).trans h
theorem ArrAt.grown {w w' : World} {g : Nat} {a b c : Int} {row : Option Nat} (h : ArrAt w g a b c) (hg : w.grownBy w' row) (hne : row ≠ some g) : ArrAt w' g a b c :=
  (hg.block g h.lt (fun e => hne e.symm)).trans h

theorem Lk.set {w wr : World} {u : Value} {l : List (Int × Int)} {g g9 : Nat} {a b c d e f r s : Int} (h : Lk w wr u l g a b c d e f) (hD : DotAt wr g9 r s) (hu : u.ownBlock ≠ some g9) (hg : w.heap.size ≤ g9) (j : Nat) (x : Value) : Lk w (wr.setCell ⟨g9, j, none⟩ x) u l g a b c d e f :=
  ⟨h.own.kept (set_by wr g9 j x) (.inr hu), h.one.other (p := ⟨g9, j, none⟩) (hD.off h.one) _, h.two.other (p := ⟨g9, j, none⟩) (hD.off h.two) _, h.below.setCell (p := ⟨g9, j, none⟩) hg _⟩

/-- One dot more: what the append leaves. -/
theorem Lk.more {w wr w2 : World} {u v : Value} {l : List (Int × Int)} {g : Nat} {a b c d e f i x : Int} (h : Lk w wr u l g a b c d e f) (hown : w2.ownsRow w.heap.size 40 2 v (l.length + 1) (dotV l ++ [Value.int .i64 i, Value.int .i64 x])) (hg : wr.grownBy w2 u.ownBlock) : Lk w w2 v (l ++ [(i, x)]) g a b c d e f := by
  refine ⟨?_, h.one.grown hg (own_off h.own h.one), h.two.grown hg (own_off h.own h.two), h.below.grown hg h.below.size (fun k hk => (h.own.lt k hk).1)⟩
  rw [dotV_app, dotV_one, List.length_append]
  exact hown

/-- What the inner loop holds. -/
structure In (w wr : World) (u : Value) (l : List (Int × Int)) (g g8 g9 : Nat) (a b c d e f i x y : Int) : Prop where
  lk : Lk w wr u l g a b c d e f
  cur : DotAt wr g9 i x
  stop : DotAt wr g8 i y
  ne : g9 ≠ g8
  off9 : u.ownBlock ≠ some g9
  off8 : u.ownBlock ≠ some g8
  le : w.heap.size ≤ g9
theorem In.set {w wr : World} {u : Value} {l : List (Int × Int)} {g g8 g9 : Nat} {a b c d e f i x y : Int} (h : In w wr u l g g8 g9 a b c d e f i x y) (z : Int) : In w (wr.setCell ⟨g9, 1, none⟩ (.int .i64 z)) u l g g8 g9 a b c d e f i z y :=
  ⟨h.lk.set h.cur h.off9 h.le 1 _, h.cur.set1 z, h.stop.other (p := ⟨g9, 1, none⟩) h.ne.symm _, h.ne, h.off9, h.off8, h.le⟩
theorem In.alloc {w wr : World} {u : Value} {l : List (Int × Int)} {g g8 g9 : Nat} {a b c d e f i x y : Int} (h : In w wr u l g g8 g9 a b c d e f i x y) (o : Obj) : In w (wr.alloc o) u l g g8 g9 a b c d e f i x y :=
  ⟨h.lk.alloc o, h.cur.alloc o, h.stop.alloc o, h.ne, h.off9, h.off8, h.le⟩
theorem In.more {w wr w2 : World} {u v : Value} {l : List (Int × Int)} {g g8 g9 : Nat} {a b c d e f i x y : Int} (h : In w wr u l g g8 g9 a b c d e f i x y) (hown : w2.ownsRow w.heap.size 40 2 v (l.length + 1) (dotV l ++ [Value.int .i64 i, Value.int .i64 x])) (hg : wr.grownBy w2 u.ownBlock) {M : Nat} (hM : M = wr.heap.size) (hat : v.ownBlock = u.ownBlock ∨ v.ownBlock = some M) : In w w2 v (l ++ [(i, x)]) g g8 g9 a b c d e f i x y := by
  have h9 := h.cur.lt
  have h8 := h.stop.lt
  refine ⟨h.lk.more hown hg, h.cur.grown hg h.off9, h.stop.grown hg h.off8, h.ne, ?_, ?_, h.le⟩
  · rcases hat with e | e <;> rw [e]
    · exact h.off9
    · intro h'; cases h'; omega
  · rcases hat with e | e <;> rw [e]
    · exact h.off8
    · intro h'; cases h'; omega
theorem In.fresh {w wr : World} {u : Value} {l : List (Int × Int)} {g g8 g9 : Nat} {a b c d e f i x y : Int} (h : In w wr u l g g8 g9 a b c d e f i x y) : In w (wr.alloc (.cells #[.int .i64 i, .int .i64 x] 40)) u l g g8 wr.heap.size a b c d e f i x y :=
  ⟨h.lk.alloc _, dotAt_new wr i x rfl, h.stop.alloc _, fun e => by have := h.stop.lt; omega, fun e => by have := (h.lk.own.lt _ e).2; omega, h.off8, h.lk.below.size⟩

/-- All dots that one has and the other has not. -/
def dots (l m : List Int) : List (Int × Int) := if KOk l ∧ KOk m then dotsTo (fun i => l.getD i 0) (fun i => m.getD i 0) 3 else []

theorem dotsOf_mx (i x y : Int) : dotsOf i x (mx x y) = dotsOf i x y := by
  unfold dotsOf mx
  by_cases h : x < y
  · rw [if_pos h]
  · rw [if_neg h, show (x - x).toNat = 0 by omega, show (y - x).toNat = 0 by omega]
theorem dots_ok {l m : List Int} {a b c d e f : Int} (h1 : KOk l) (h2 : KOk m) (e1 : l = [a, b, c]) (e2 : m = [d, e, f]) : dots l m = dotsTo (at3 a b c) (at3 (mx a d) (mx b e) (mx c f)) 3 := by
  unfold dots
  rw [if_pos ⟨h1, h2⟩]
  subst e1 e2
  simp [dotsTo, List.range, List.range.loop, at3, dotsOf_mx]

end Go.Proofs.Ytajihpcihlbjgaa
