/- Lists of structs behind a slice; the parts of a state as plain data. -/
import Derived.Test.YtajihpcihlbjgaaARow
import Derived.Test.YtajihpcihlbjgaaKInts
namespace Go.Proofs.Ytajihpcihlbjgaa
set_option maxRecDepth 100000
set_option linter.unusedVariables false
open Go.RowKit

/-- A tally, a live, a cell. -/
structure Ta where
  (o : ByteArray)
  (r n : Int)
  deriving DecidableEq
structure Li where
  (m : Bool)
  (o y : ByteArray)
  (v r s : Int)
  deriving DecidableEq
structure Ce where
  (o : ByteArray)
  (r s t x z v : Int)
  (g : Bool)
  deriving DecidableEq
def Ta.cs (a : Ta) : List Value := [.string a.o, .int .i64 a.r, .int .i64 a.n]
def Li.cs (a : Li) : List Value := [.bool a.m, .string a.o, .string a.y, .int .i64 a.v, .int .i64 a.r, .int .i64 a.s]
def Ce.cs (a : Ce) : List Value := [.string a.o, .int .i64 a.r, .int .i64 a.s, .int .i64 a.t, .int .i64 a.x, .int .i64 a.z, .int .i64 a.v, .bool a.g]
def taV (l : List Ta) : List Value := (l.map Ta.cs).flatten
def liV (l : List Li) : List Value := (l.map Li.cs).flatten
def ceV (l : List Ce) : List Value := (l.map Ce.cs).flatten

/-- Each of s cells. -/
def Wide (s : Nat) (rs : List (List Value)) : Prop := ∀ r ∈ rs, r.length = s
theorem wide_ta (l : List Ta) : Wide 3 (l.map Ta.cs) := by intro r h; obtain ⟨a, -, rfl⟩ := List.mem_map.1 h; rfl
theorem wide_li (l : List Li) : Wide 6 (l.map Li.cs) := by intro r h; obtain ⟨a, -, rfl⟩ := List.mem_map.1 h; rfl
theorem wide_ce (l : List Ce) : Wide 8 (l.map Ce.cs) := by intro r h; obtain ⟨a, -, rfl⟩ := List.mem_map.1 h; rfl
theorem flat_len {s : Nat} {rs : List (List Value)} (h : Wide s rs) : rs.flatten.length = rs.length * s := by
  induction rs with
  | nil => simp
  | cons r rs ih =>
    have h1 : r.length = s := h r (by simp)
    have h2 := ih (fun q hq => h q (by simp [hq]))
    simp only [List.flatten_cons, List.length_append, List.length_cons, h1, h2, Nat.add_mul, Nat.one_mul]
    omega
theorem flat_at {s : Nat} {rs : List (List Value)} (h : Wide s rs) : ∀ (j : Nat) (hj : j < rs.length) (i : Nat) (hi : i < s), rs.flatten[j * s + i]? = (rs[j])[i]? := by
  induction rs with
  | nil => intro j hj; simp at hj
  | cons r rs ih =>
    intro j hj i hi
    have h1 : r.length = s := h r (by simp)
    have h2 := ih (fun q hq => h q (by simp [hq]))
    cases j with
    | zero => simp only [List.flatten_cons, Nat.zero_mul, Nat.zero_add, List.getElem_cons_zero]; rw [List.getElem?_append_left (by omega)]
    | succ j =>
      have hj' : j < rs.length := by simpa using hj
      have e : (j + 1) * s + i = r.length + (j * s + i) := by rw [h1, Nat.add_mul]; omega
      simp only [List.flatten_cons, List.getElem_cons_succ]
      rw [e, List.getElem?_append_right (by omega), show r.length + (j * s + i) - r.length = j * s + i by omega]
      exact h2 j hj' i hi

/-- Structs of s cells each, to be read behind a slice's address. -/
def FlatG (w : World) (aa : Option Addr) (s : Nat) (rs : List (List Value)) : Prop :=
  0 < rs.length → ∃ g off, aa = some ⟨g, off, none⟩ ∧ g < w.heap.size ∧ ∀ j (h : j < rs.length) i x, (rs[j])[i]? = some x → w.cell? ⟨g, off + j * s + i, none⟩ = some x
def Flat (w : World) (v : Value) (s : Nat) (rs : List (List Value)) : Prop :=
  ∃ (aa : Option Addr) (ca : Nat), v = .slice aa rs.length ca ∧ FlatG w aa s rs
theorem Flat.keep {w w' : World} {v : Value} {s : Nat} {rs : List (List Value)} (h : Flat w v s rs) (hs : w.heap.size ≤ w'.heap.size) (hk : ∀ g, g < w.heap.size → w'.heap[g]? = w.heap[g]?) : Flat w' v s rs := by
  obtain ⟨aa, ca, rfl, hg⟩ := h
  refine ⟨aa, ca, rfl, fun h0 => ?_⟩
  obtain ⟨g, off, rfl, h1, h2⟩ := hg h0
  refine ⟨g, off, rfl, Nat.lt_of_lt_of_le h1 hs, fun j hj i x hx => ?_⟩
  have := h2 j hj i x hx
  unfold World.cell? at *
  rw [hk g h1]; exact this
theorem Flat.below {w w' : World} {v : Value} {s : Nat} {rs : List (List Value)} (h : Flat w v s rs) (hb : Below w.heap.size w w') : Flat w' v s rs :=
  h.keep hb.size (fun g hg => hb.block g hg)
theorem Flat.alloc {w : World} {v : Value} {s : Nat} {rs : List (List Value)} (h : Flat w v s rs) (o : Obj) : Flat (w.alloc o) v s rs :=
  h.below ((Below.refl _ _).alloc (Nat.le_refl _) _)
theorem Flat.own {w : World} {B n s : Nat} {e : TypeId} {v : Value} {rs : List (List Value)} (hw : Wide s rs) (hl : rs.length = n) (h : w.ownsRow B e s v n rs.flatten) : Flat w v s rs := by
  subst hl
  rcases h.2 with ⟨rfl, h0⟩ | ⟨g, cap, cur, rfl, hb, hg, -, -, -, -⟩
  · exact ⟨none, 0, by rw [h0], fun h => by omega⟩
  · refine ⟨_, _, rfl, fun _ => ⟨g, 0, rfl, (Array.getElem?_eq_some_iff.1 hg).1, fun j hj i x hx => ?_⟩⟩
    have hi : i < s := by
      have h1 : (rs[j]).length = s := hw _ (List.getElem_mem hj)
      have := (List.getElem?_eq_some_iff.1 hx).1
      omega
    have h1 := h.cells (g := g) rfl (j * s + i) x (by rw [flat_at hw j hj i hi]; exact hx)
    rw [addr_add] at h1
    rw [show 0 + j * s + i = j * s + i by omega]
    exact h1

def taC (w : World) (g k : Nat) (a : Ta) : Prop := w.cell? ⟨g, k, none⟩ = some (.string a.o) ∧ w.cell? ⟨g, k + 1, none⟩ = some (.int .i64 a.r) ∧ w.cell? ⟨g, k + 2, none⟩ = some (.int .i64 a.n)
def liC (w : World) (g k : Nat) (a : Li) : Prop := w.cell? ⟨g, k, none⟩ = some (.bool a.m) ∧ w.cell? ⟨g, k + 1, none⟩ = some (.string a.o) ∧ w.cell? ⟨g, k + 2, none⟩ = some (.string a.y) ∧ w.cell? ⟨g, k + 3, none⟩ = some (.int .i64 a.v) ∧ w.cell? ⟨g, k + 4, none⟩ = some (.int .i64 a.r) ∧ w.cell? ⟨g, k + 5, none⟩ = some (.int .i64 a.s)
def ceC (w : World) (g k : Nat) (a : Ce) : Prop := w.cell? ⟨g, k, none⟩ = some (.string a.o) ∧ w.cell? ⟨g, k + 1, none⟩ = some (.int .i64 a.r) ∧ w.cell? ⟨g, k + 2, none⟩ = some (.int .i64 a.s) ∧ w.cell? ⟨g, k + 3, none⟩ = some (.int .i64 a.t) ∧ w.cell? ⟨g, k + 4, none⟩ = some (.int .i64 a.x) ∧ w.cell? ⟨g, k + 5, none⟩ = some (.int .i64 a.z) ∧ w.cell? ⟨g, k + 6, none⟩ = some (.int .i64 a.v) ∧ w.cell? ⟨g, k + 7, none⟩ = some (.bool a.g)
theorem cell_keep {w w' : World} {B g k : Nat} (hb : Below B w w') (hg : g < B) : w'.cell? ⟨g, k, none⟩ = w.cell? ⟨g, k, none⟩ := hb.cell (p := ⟨g, k, none⟩) hg
theorem taC.below {w w' : World} {B g k : Nat} {a : Ta} (h : taC w g k a) (hb : Below B w w') (hg : g < B) : taC w' g k a := by
  obtain ⟨h0, h1, h2⟩ := h
  exact ⟨(cell_keep hb hg).trans h0, (cell_keep hb hg).trans h1, (cell_keep hb hg).trans h2⟩
theorem liC.below {w w' : World} {B g k : Nat} {a : Li} (h : liC w g k a) (hb : Below B w w') (hg : g < B) : liC w' g k a := by
  obtain ⟨h0, h1, h2, h3, h4, h5⟩ := h
  exact ⟨(cell_keep hb hg).trans h0, (cell_keep hb hg).trans h1, (cell_keep hb hg).trans h2, (cell_keep hb hg).trans h3, (cell_keep hb hg).trans h4, (cell_keep hb hg).trans h5⟩
theorem ceC.below {w w' : World} {B g k : Nat} {a : Ce} (h : ceC w g k a) (hb : Below B w w') (hg : g < B) : ceC w' g k a := by
  obtain ⟨h0, h1, h2, h3, h4, h5, h6, h7⟩ := h
  exact ⟨(cell_keep hb hg).trans h0, (cell_keep hb hg).trans h1, (cell_keep hb hg).trans h2, (cell_keep hb hg).trans h3, (cell_keep hb hg).trans h4, (cell_keep hb hg).trans h5, (cell_keep hb hg).trans h6, (cell_keep hb hg).trans h7⟩

def TaG (w : World) (aa : Option Addr) (l : List Ta) : Prop := 0 < l.length → ∃ g off, aa = some ⟨g, off, none⟩ ∧ g < w.heap.size ∧ ∀ j (h : j < l.length), taC w g (off + j * 3) l[j]
def LiG (w : World) (aa : Option Addr) (l : List Li) : Prop := 0 < l.length → ∃ g off, aa = some ⟨g, off, none⟩ ∧ g < w.heap.size ∧ ∀ j (h : j < l.length), liC w g (off + j * 6) l[j]
def CeG (w : World) (aa : Option Addr) (l : List Ce) : Prop := 0 < l.length → ∃ g off, aa = some ⟨g, off, none⟩ ∧ g < w.heap.size ∧ ∀ j (h : j < l.length), ceC w g (off + j * 8) l[j]
/-- Tallies, lives, cells that can be read behind a slice. -/
def TaAt (w : World) (v : Value) (l : List Ta) : Prop := ∃ (aa : Option Addr) (ca : Nat), v = .slice aa l.length ca ∧ TaG w aa l
def LiAt (w : World) (v : Value) (l : List Li) : Prop := ∃ (aa : Option Addr) (ca : Nat), v = .slice aa l.length ca ∧ LiG w aa l
def CeAt (w : World) (v : Value) (l : List Ce) : Prop := ∃ (aa : Option Addr) (ca : Nat), v = .slice aa l.length ca ∧ CeG w aa l
theorem TaAt.of {w : World} {v : Value} {l : List Ta} (h : Flat w v 3 (l.map Ta.cs)) : TaAt w v l := by
  obtain ⟨aa, ca, rfl, hg⟩ := h
  refine ⟨aa, ca, by simp, fun h0 => ?_⟩
  obtain ⟨g, off, rfl, h1, h2⟩ := hg (by simpa using h0)
  refine ⟨g, off, rfl, h1, fun j hj => ?_⟩
  have hq := h2 j (by simpa using hj)
  rw [List.getElem_map] at hq
  exact ⟨hq 0 _ rfl, hq 1 _ rfl, hq 2 _ rfl⟩
theorem LiAt.of {w : World} {v : Value} {l : List Li} (h : Flat w v 6 (l.map Li.cs)) : LiAt w v l := by
  obtain ⟨aa, ca, rfl, hg⟩ := h
  refine ⟨aa, ca, by simp, fun h0 => ?_⟩
  obtain ⟨g, off, rfl, h1, h2⟩ := hg (by simpa using h0)
  refine ⟨g, off, rfl, h1, fun j hj => ?_⟩
  have hq := h2 j (by simpa using hj)
  rw [List.getElem_map] at hq
  exact ⟨hq 0 _ rfl, hq 1 _ rfl, hq 2 _ rfl, hq 3 _ rfl, hq 4 _ rfl, hq 5 _ rfl⟩
theorem CeAt.of {w : World} {v : Value} {l : List Ce} (h : Flat w v 8 (l.map Ce.cs)) : CeAt w v l := by
  obtain ⟨aa, ca, rfl, hg⟩ := h
  refine ⟨aa, ca, by simp, fun h0 => ?_⟩
  obtain ⟨g, off, rfl, h1, h2⟩ := hg (by simpa using h0)
  refine ⟨g, off, rfl, h1, fun j hj => ?_⟩
  have hq := h2 j (by simpa using hj)
  rw [List.getElem_map] at hq
  exact ⟨hq 0 _ rfl, hq 1 _ rfl, hq 2 _ rfl, hq 3 _ rfl, hq 4 _ rfl, hq 5 _ rfl, hq 6 _ rfl, hq 7 _ rfl⟩
theorem TaAt.own {w : World} {B n : Nat} {e : TypeId} {v : Value} {l : List Ta} (h : w.ownsRow B e 3 v n (taV l)) (hl : l.length = n) : TaAt w v l := TaAt.of (Flat.own (wide_ta l) (by simpa using hl) h)
theorem LiAt.own {w : World} {B n : Nat} {e : TypeId} {v : Value} {l : List Li} (h : w.ownsRow B e 6 v n (liV l)) (hl : l.length = n) : LiAt w v l := LiAt.of (Flat.own (wide_li l) (by simpa using hl) h)
theorem CeAt.own {w : World} {B n : Nat} {e : TypeId} {v : Value} {l : List Ce} (h : w.ownsRow B e 8 v n (ceV l)) (hl : l.length = n) : CeAt w v l := CeAt.of (Flat.own (wide_ce l) (by simpa using hl) h)
theorem TaAt.below {w w' : World} {v : Value} {l : List Ta} (h : TaAt w v l) (hb : Below w.heap.size w w') : TaAt w' v l := by
  obtain ⟨aa, ca, rfl, hg⟩ := h
  refine ⟨aa, ca, rfl, fun h0 => ?_⟩
  obtain ⟨g, off, rfl, h1, h2⟩ := hg h0
  exact ⟨g, off, rfl, Nat.lt_of_lt_of_le h1 hb.size, fun j hj => (h2 j hj).below hb h1⟩
theorem LiAt.below {w w' : World} {v : Value} {l : List Li} (h : LiAt w v l) (hb : Below w.heap.size w w') : LiAt w' v l := by
  obtain ⟨aa, ca, rfl, hg⟩ := h
  refine ⟨aa, ca, rfl, fun h0 => ?_⟩
  obtain ⟨g, off, rfl, h1, h2⟩ := hg h0
  exact ⟨g, off, rfl, Nat.lt_of_lt_of_le h1 hb.size, fun j hj => (h2 j hj).below hb h1⟩
theorem CeAt.below {w w' : World} {v : Value} {l : List Ce} (h : CeAt w v l) (hb : Below w.heap.size w w') : CeAt w' v l := by
  obtain ⟨aa, ca, rfl, hg⟩ := h
  refine ⟨aa, ca, rfl, fun h0 => ?_⟩
  obtain ⟨g, off, rfl, h1, h2⟩ := hg h0
  exact ⟨g, off, rfl, Nat.lt_of_lt_of_le h1 hb.size, fun j hj => (h2 j hj).below hb h1⟩
theorem TaAt.alloc {w : World} {v : Value} {l : List Ta} (h : TaAt w v l) (o : Obj) : TaAt (w.alloc o) v l := h.below ((Below.refl _ _).alloc (Nat.le_refl _) _)
theorem LiAt.alloc {w : World} {v : Value} {l : List Li} (h : LiAt w v l) (o : Obj) : LiAt (w.alloc o) v l := h.below ((Below.refl _ _).alloc (Nat.le_refl _) _)
theorem CeAt.alloc {w : World} {v : Value} {l : List Ce} (h : CeAt w v l) (o : Obj) : CeAt (w.alloc o) v l := h.below ((Below.refl _ _).alloc (Nat.le_refl _) _)

/-- A state. -/
structure Sta where
  (l : List Int)
  (T : List Ta)
  (L : List Li)
  (C : List Ce)
  deriving DecidableEq
def stV (u0 u1 u2 u3 : Value) : Value := .agg #[u0, u1, u2, u3]
def stCs (u0 u1 u2 u3 : Value) : Array Value := #[u0, u1, u2, u3]
theorem Row.four {w : World} {g : Nat} {T : TypeId} {c0 c1 c2 c3 : Value} (h : Row w g #[c0, c1, c2, c3] T) :
    w.cell? ⟨g, 0, none⟩ = some c0 ∧ w.cell? ⟨g, 1, none⟩ = some c1 ∧ w.cell? ⟨g, 2, none⟩ = some c2 ∧ w.cell? ⟨g, 3, none⟩ = some c3 := ⟨h.cell 0 rfl, h.cell 1 rfl, h.cell 2 rfl, h.cell 3 rfl⟩
end Go.Proofs.Ytajihpcihlbjgaa
