/- A row of cells in a block, cell by cell. -/
import Derived.Test.YtajihpcihlbjgaaABase
import Derived.Test.YtajihpcihlbjgaaKRow
import Derived.Test.YtajihpcihlbjgaaKDots
namespace Go.Proofs.Ytajihpcihlbjgaa
set_option maxRecDepth 100000
set_option linter.unusedVariables false
open Go.RowKit

def Row (w : World) (g : Nat) (cs : Array Value) (T : TypeId) : Prop := w.heap[g]? = some (.cells cs T (0, 0))
theorem Row.lt {w : World} {g : Nat} {cs : Array Value} {T : TypeId} (h : Row w g cs T) : g < w.heap.size := (Array.getElem?_eq_some_iff.1 h).1
theorem Row.alloc {w : World} {g : Nat} {cs : Array Value} {T : TypeId} (h : Row w g cs T) (o : Obj) : Row (w.alloc o) g cs T := (Below.heap_alloc w o g h.lt).trans h
theorem Row.below {w w' : World} {g B : Nat} {cs : Array Value} {T : TypeId} (h : Row w g cs T) (hb : Below B w w') (hB : g < B) : Row w' g cs T := (hb.block g hB).trans h
theorem Row.next {w w' : World} {g : Nat} {cs : Array Value} {T : TypeId} (h : Row w g cs T) (hb : Below w.heap.size w w') : Row w' g cs T := h.below hb h.lt
theorem Row.drew {w : World} {g : Nat} {cs : Array Value} {T : TypeId} (h : Row w g cs T) : Row w.drew g cs T := h
theorem Row.free {w : World} {g : Nat} {cs : Array Value} {T : TypeId} (h : Row w g cs T) (i : Nat) : w.frozen? ⟨g, i, none⟩ = false := by unfold Row at h; simp [World.frozen?, h]
theorem Row.cell {w : World} {g : Nat} {cs : Array Value} {T : TypeId} (h : Row w g cs T) (i : Nat) {v : Value} (hv : cs[i]? = some v) : w.cell? ⟨g, i, none⟩ = some v := by unfold Row at h; simp [World.cell?, h, hv]
theorem Row.other {w : World} {g : Nat} {cs : Array Value} {T : TypeId} (h : Row w g cs T) {p : Addr} (hne : g ≠ p.block) (x : Value) : Row (w.setCell p x) g cs T := by
  unfold Row; rw [Below.heap_setCell w p x g hne]; exact h
theorem Row.set {w : World} {g : Nat} {cs : Array Value} {T : TypeId} (h : Row w g cs T) (i : Nat) (x : Value) : Row (w.setCell ⟨g, i, none⟩ x) g (cs.setIfInBounds i x) T := by
  have hm : w.heap[g]? = _ := h
  unfold Row World.setCell
  simp [Array.getElem?_modify, hm]
theorem row_new (w : World) (cs : Array Value) (T : TypeId) {g : Nat} (hg : g = w.heap.size) : Row (w.alloc (.cells cs T)) g cs T := by subst hg; exact (MapKept.heap_alloc w _).1
theorem Row.grown {w w' : World} {g : Nat} {cs : Array Value} {T : TypeId} {k : Option Nat} (h : Row w g cs T) (hg : w.grownBy w' k) (hk : k ≠ some g) : Row w' g cs T := (hg.block g h.lt (fun e => hk e.symm)).trans h
theorem Row.ten {w : World} {g : Nat} {T : TypeId} {c0 c1 c2 c3 c4 c5 c6 c7 c8 c9 : Value} (h : Row w g #[c0, c1, c2, c3, c4, c5, c6, c7, c8, c9] T) :
    w.cell? ⟨g, 0, none⟩ = some c0 ∧ w.cell? ⟨g, 1, none⟩ = some c1 ∧ w.cell? ⟨g, 2, none⟩ = some c2 ∧ w.cell? ⟨g, 3, none⟩ = some c3 ∧ w.cell? ⟨g, 4, none⟩ = some c4 ∧ w.cell? ⟨g, 5, none⟩ = some c5 ∧ w.cell? ⟨g, 6, none⟩ = some c6 ∧ w.cell? ⟨g, 7, none⟩ = some c7 ∧ w.cell? ⟨g, 8, none⟩ = some c8 ∧ w.cell? ⟨g, 9, none⟩ = some c9 :=
  ⟨h.cell 0 rfl, h.cell 1 rfl, h.cell 2 rfl, h.cell 3 rfl, h.cell 4 rfl, h.cell 5 rfl, h.cell 6 rfl, h.cell 7 rfl, h.cell 8 rfl, h.cell 9 rfl⟩
theorem Row.frees {w : World} {g : Nat} {cs : Array Value} {T : TypeId} (h : Row w g cs T) :
    w.frozen? ⟨g, 0, none⟩ = false ∧ w.frozen? ⟨g, 1, none⟩ = false ∧ w.frozen? ⟨g, 2, none⟩ = false ∧ w.frozen? ⟨g, 3, none⟩ = false ∧ w.frozen? ⟨g, 4, none⟩ = false ∧ w.frozen? ⟨g, 5, none⟩ = false ∧ w.frozen? ⟨g, 6, none⟩ = false ∧ w.frozen? ⟨g, 7, none⟩ = false ∧ w.frozen? ⟨g, 8, none⟩ = false ∧ w.frozen? ⟨g, 9, none⟩ = false :=
  ⟨h.free 0, h.free 1, h.free 2, h.free 3, h.free 4, h.free 5, h.free 6, h.free 7, h.free 8, h.free 9⟩
theorem Row.three {w : World} {g : Nat} {T : TypeId} {c0 c1 c2 : Value} (h : Row w g #[c0, c1, c2] T) :
    w.cell? ⟨g, 0, none⟩ = some c0 ∧ w.cell? ⟨g, 1, none⟩ = some c1 ∧ w.cell? ⟨g, 2, none⟩ = some c2 := ⟨h.cell 0 rfl, h.cell 1 rfl, h.cell 2 rfl⟩
theorem Row.s0 {w : World} {g : Nat} {T : TypeId} {c0 c1 c2 c3 c4 c5 c6 c7 c8 c9 : Value} (h : Row w g #[c0, c1, c2, c3, c4, c5, c6, c7, c8, c9] T) (x : Value) : Row (w.setCell ⟨g, 0, none⟩ x) g #[x, c1, c2, c3, c4, c5, c6, c7, c8, c9] T := h.set 0 x
theorem Row.s1 {w : World} {g : Nat} {T : TypeId} {c0 c1 c2 c3 c4 c5 c6 c7 c8 c9 : Value} (h : Row w g #[c0, c1, c2, c3, c4, c5, c6, c7, c8, c9] T) (x : Value) : Row (w.setCell ⟨g, 1, none⟩ x) g #[c0, x, c2, c3, c4, c5, c6, c7, c8, c9] T := h.set 1 x
theorem Row.s2 {w : World} {g : Nat} {T : TypeId} {c0 c1 c2 c3 c4 c5 c6 c7 c8 c9 : Value} (h : Row w g #[c0, c1, c2, c3, c4, c5, c6, c7, c8, c9] T) (x : Value) : Row (w.setCell ⟨g, 2, none⟩ x) g #[c0, c1, x, c3, c4, c5, c6, c7, c8, c9] T := h.set 2 x
theorem Row.s3 {w : World} {g : Nat} {T : TypeId} {c0 c1 c2 c3 c4 c5 c6 c7 c8 c9 : Value} (h : Row w g #[c0, c1, c2, c3, c4, c5, c6, c7, c8, c9] T) (x : Value) : Row (w.setCell ⟨g, 3, none⟩ x) g #[c0, c1, c2, x, c4, c5, c6, c7, c8, c9] T := h.set 3 x
theorem Row.s4 {w : World} {g : Nat} {T : TypeId} {c0 c1 c2 c3 c4 c5 c6 c7 c8 c9 : Value} (h : Row w g #[c0, c1, c2, c3, c4, c5, c6, c7, c8, c9] T) (x : Value) : Row (w.setCell ⟨g, 4, none⟩ x) g #[c0, c1, c2, c3, x, c5, c6, c7, c8, c9] T := h.set 4 x
theorem Row.s5 {w : World} {g : Nat} {T : TypeId} {c0 c1 c2 c3 c4 c5 c6 c7 c8 c9 : Value} (h : Row w g #[c0, c1, c2, c3, c4, c5, c6, c7, c8, c9] T) (x : Value) : Row (w.setCell ⟨g, 5, none⟩ x) g #[c0, c1, c2, c3, c4, x, c6, c7, c8, c9] T := h.set 5 x
theorem Row.s6 {w : World} {g : Nat} {T : TypeId} {c0 c1 c2 c3 c4 c5 c6 c7 c8 c9 : Value} (h : Row w g #[c0, c1, c2, c3, c4, c5, c6, c7, c8, c9] T) (x : Value) : Row (w.setCell ⟨g, 6, none⟩ x) g #[c0, c1, c2, c3, c4, c5, x, c7, c8, c9] T := h.set 6 x
theorem Row.s7 {w : World} {g : Nat} {T : TypeId} {c0 c1 c2 c3 c4 c5 c6 c7 c8 c9 : Value} (h : Row w g #[c0, c1, c2, c3, c4, c5, c6, c7, c8, c9] T) (x : Value) : Row (w.setCell ⟨g, 7, none⟩ x) g #[c0, c1, c2, c3, c4, c5, c6, x, c8, c9] T := h.set 7 x
theorem Row.s8 {w : World} {g : Nat} {T : TypeId} {c0 c1 c2 c3 c4 c5 c6 c7 c8 c9 : Value} (h : Row w g #[c0, c1, c2, c3, c4, c5, c6, c7, c8, c9] T) (x : Value) : Row (w.setCell ⟨g, 8, none⟩ x) g #[c0, c1, c2, c3, c4, c5, c6, c7, x, c9] T := h.set 8 x
theorem Row.s9 {w : World} {g : Nat} {T : TypeId} {c0 c1 c2 c3 c4 c5 c6 c7 c8 c9 : Value} (h : Row w g #[c0, c1, c2, c3, c4, c5, c6, c7, c8, c9] T) (x : Value) : Row (w.setCell ⟨g, 9, none⟩ x) g #[c0, c1, c2, c3, c4, c5, c6, c7, c8, x] T := h.set 9 x
/-- The ten cells of an act are stored. -/
def store10 (w : World) (g : Nat) (A : Ac) (u : Value) : World :=
  (((((((((w.setCell ⟨g, 0, none⟩ (.int .i64 A.r)).setCell ⟨g, 1, none⟩ (.int .i64 A.s)).setCell ⟨g, 2, none⟩ (.int .i64 A.t)).setCell ⟨g, 3, none⟩ u).setCell ⟨g, 4, none⟩ (.int .i64 A.k)).setCell ⟨g, 5, none⟩ (.string A.o)).setCell ⟨g, 6, none⟩ (.string A.y)).setCell ⟨g, 7, none⟩ (.int .i64 A.v)).setCell ⟨g, 8, none⟩ (.int .i64 A.x)).setCell ⟨g, 9, none⟩ (.int .i64 A.z)
theorem store10_at {w : World} {g : Nat} {T : TypeId} {c0 c1 c2 c3 c4 c5 c6 c7 c8 c9 : Value} (h : Row w g #[c0, c1, c2, c3, c4, c5, c6, c7, c8, c9] T) (A : Ac) (u : Value) : Row (store10 w g A u) g (A.cs u) T := by
  unfold store10
  exact (((((((((h.s0 _).s1 _).s2 _).s3 _).s4 _).s5 _).s6 _).s7 _).s8 _).s9 _
theorem store10_below {w w0 : World} {B g : Nat} (h : Below B w0 w) (hg : B ≤ g) (A : Ac) (u : Value) : Below B w0 (store10 w g A u) := by
  unfold store10
  exact (((((((((h.setCell hg _).setCell hg _).setCell hg _).setCell hg _).setCell hg _).setCell hg _).setCell hg _).setCell hg _).setCell hg _).setCell hg _
theorem store10_other {w : World} {g k : Nat} {T : TypeId} {cs : Array Value} (h : Row w k cs T) (hk : k ≠ g) (A : Ac) (u : Value) : Row (store10 w g A u) k cs T := by
  unfold store10
  exact (((((((((h.other hk _).other hk _).other hk _).other hk _).other hk _).other hk _).other hk _).other hk _).other hk _).other hk _
theorem own_set {w : World} {B n g i : Nat} {e : TypeId} {s : Nat} {u x : Value} {xs : List Value} (h : w.ownsRow B e s u n xs) (hg : g < B) : (w.setCell ⟨g, i, none⟩ x).ownsRow B e s u n xs := by
  refine h.kept (row := some g) ⟨rfl, rfl, rfl, by simp [World.setCell], fun k hk hne => Below.heap_setCell w _ x k (fun e => hne (by rw [e]))⟩ ?_
  cases hv : u.ownBlock with
  | none => exact .inl rfl
  | some k => exact .inr (by have := (h.lt k hv).1; simp; omega)
theorem own_store10 {w : World} {B n g : Nat} {e : TypeId} {s : Nat} {v : Value} {xs : List Value} (h : w.ownsRow B e s v n xs) (hg : g < B) (A : Ac) (u : Value) : (store10 w g A u).ownsRow B e s v n xs := by
  unfold store10
  exact own_set (own_set (own_set (own_set (own_set (own_set (own_set (own_set (own_set (own_set h hg) hg) hg) hg) hg) hg) hg) hg) hg) hg
theorem store10_eq (w : World) (g : Nat) (A : Ac) (u : Value) : (((((((((w.setCell ⟨g, 0, none⟩ (.int .i64 A.r)).setCell ⟨g, 1, none⟩ (.int .i64 A.s)).setCell ⟨g, 2, none⟩ (.int .i64 A.t)).setCell ⟨g, 3, none⟩ u).setCell ⟨g, 4, none⟩ (.int .i64 A.k)).setCell ⟨g, 5, none⟩ (.string A.o)).setCell ⟨g, 6, none⟩ (.string A.y)).setCell ⟨g, 7, none⟩ (.int .i64 A.v)).setCell ⟨g, 8, none⟩ (.int .i64 A.x)).setCell ⟨g, 9, none⟩ (.int .i64 A.z) = store10 w g A u := rfl
end Go.Proofs.Ytajihpcihlbjgaa
