/- A row of cells in a block, cell by cell. -/
import Derived.Test.YtepfinenocpneaaGreatQ4
import Derived.Test.YtepfinenocpneaaGreatQ9
import Derived.Test.YtepfinenocpneaaGreatQ10
set_option maxHeartbeats 16000000
namespace Go.Proofs.YtepfinenocpneaaGreat
open Value (int)
open IntKind (i64)
set_option maxRecDepth 100000
set_option linter.unusedVariables false
open Go.RowKit
def Row (w : World) (g : Nat) (cs : Array Value) (T : TypeId) : Prop := w.heap[g]? = some (.cells cs T (0, 0))
theorem Row.lt {w : World} {g : Nat} {cs : Array Value} {T : TypeId} (h : Row w g cs T) : g < w.heap.size := (Array.getElem?_eq_some_iff.1 h).1
theorem Row.alloc {w : World} {g : Nat} {cs : Array Value} {T : TypeId} (h : Row w g cs T) (o : Obj) : Row (w.alloc o) g cs T := (Below.heap_alloc w o g h.lt).trans h
theorem Row.below {w w' : World} {g B : Nat} {cs : Array Value} {T : TypeId} (h : Row w g cs T) (hb : Below B w w') (hB : g < B) : Row w' g cs T := (hb.block g hB).trans h
theorem Row.next {w w' : World} {g : Nat} {cs : Array Value} {T : TypeId} (h : Row w g cs T) (hb : Below w.heap.size w w') : Row w' g cs T := h.below hb h.lt
theorem Row.free {w : World} {g : Nat} {cs : Array Value} {T : TypeId} (h : Row w g cs T) (i : Nat) : w.frozen? ⟨g, i, none⟩ = false := by unfold Row at h; simp [World.frozen?, h]
theorem Row.cell {w : World} {g : Nat} {cs : Array Value} {T : TypeId} (h : Row w g cs T) (i : Nat) {v : Value} (hv : cs[i]? = some v) : w.cell? ⟨g, i, none⟩ = some v := by unfold Row at h; simp [World.cell?, h, hv]
theorem Row.other {w : World} {g : Nat} {cs : Array Value} {T : TypeId} (h : Row w g cs T) {p : Addr} (hne : g ≠ p.block) (x : Value) : Row (w.setCell p x) g cs T := by
 unfold Row; rw [Below.heap_setCell w p x g hne]; exact h
theorem Row.set {w : World} {g : Nat} {cs : Array Value} {T : TypeId} (h : Row w g cs T) (i : Nat) (x : Value) : Row (w.setCell ⟨g, i, none⟩ x) g (cs.setIfInBounds i x) T := by
 have hm : w.heap[g]? = _ := h
 unfold Row World.setCell
 simp [Array.getElem?_modify, hm]
theorem Jb (w : World) (cs : Array Value) (T : TypeId) {g : Nat} (hg : g = w.heap.size) : Row (w.alloc (.cells cs T)) g cs T := by subst hg; exact (MapKept.heap_alloc w _).1
theorem Row.grown {w w' : World} {g : Nat} {cs : Array Value} {T : TypeId} {k : Option Nat} (h : Row w g cs T) (hg : w.grownBy w' k) (hk : k ≠ some g) : Row w' g cs T := (hg.block g h.lt (fun e => hk e.symm)).trans h
theorem Row.ten {w : World} {g : Nat} {T : TypeId} {c0 c1 c2 c3 c4 c5 c6 c7 c8 c9 : Value} (h : Row w g #[c0, c1, c2, c3, c4, c5, c6, c7, c8, c9] T) :
  w.cell? ⟨g, 0, none⟩ = some c0 ∧ w.cell? ⟨g, 1, none⟩ = some c1 ∧ w.cell? ⟨g, 2, none⟩ = some c2 ∧ w.cell? ⟨g, 3, none⟩ = some c3 ∧ w.cell? ⟨g, 4, none⟩ = some c4 ∧ w.cell? ⟨g, 5, none⟩ = some c5 ∧ w.cell? ⟨g, 6, none⟩ = some c6 ∧ w.cell? ⟨g, 7, none⟩ = some c7 ∧ w.cell? ⟨g, 8, none⟩ = some c8 ∧ w.cell? ⟨g, 9, none⟩ = some c9 :=
 ⟨h.cell 0 rfl, h.cell 1 rfl, h.cell 2 rfl, h.cell 3 rfl, h.cell 4 rfl, h.cell 5 rfl, h.cell 6 rfl, h.cell 7 rfl, h.cell 8 rfl, h.cell 9 rfl⟩
theorem Row.frees {w : World} {g : Nat} {cs : Array Value} {T : TypeId} (h : Row w g cs T) :
  w.frozen? ⟨g, 0, none⟩ = false ∧ w.frozen? ⟨g, 1, none⟩ = false ∧ w.frozen? ⟨g, 2, none⟩ = false ∧ w.frozen? ⟨g, 3, none⟩ = false ∧ w.frozen? ⟨g, 4, none⟩ = false ∧ w.frozen? ⟨g, 5, none⟩ = false ∧ w.frozen? ⟨g, 6, none⟩ = false ∧ w.frozen? ⟨g, 7, none⟩ = false ∧ w.frozen? ⟨g, 8, none⟩ = false ∧ w.frozen? ⟨g, 9, none⟩ = false :=
 ⟨h.free 0, h.free 1, h.free 2, h.free 3, h.free 4, h.free 5, h.free 6, h.free 7, h.free 8, h.free 9⟩
theorem Row.s0 {w : World} {g : Nat} {T : TypeId} {c0 c1 c2 c3 c4 c5 c6 c7 c8 c9 : Value} (h : Row w g #[c0, c1, c2, c3, c4, c5, c6, c7, c8, c9] T) (x : Value) : Row (w.setCell ⟨g, 0, none⟩ x) g #[x, c1, c2, c3, c4, c5, c6, c7, c8, c9] T := h.set 0 x
theorem Row.s1 {w : World} {g : Nat} {T : TypeId} {c0 c1 c2 c3 c4 c5 c6 c7 c8 c9 : Value} (h : Row w g #[c0, c1, c2, c3, c4, c5, c6, c7, c8, c9] T) (x : Value) : Row (w.setCell ⟨g, 1, none⟩ x) g #[c0, x, c2, c3, c4, c5, c6, c7, c8, c9] T := h.set 1 x
theorem Row.s2 {w : World} {g : Nat} {T : TypeId} {c0 c1 c2 c3 c4 c5 c6 c7 c8 c9 : Value} (h : Row w g #[c0, c1, c2, c3, c4, c5, c6, c7, c8, c9] T) (x : Value) : Row (w.setCell ⟨g, 2, none⟩ x) g #[c0, c1, x, c3, c4, c5, c6, c7, c8, c9] T := h.set 2 x
theorem Row.s3 {w : World} {g : Nat} {T : TypeId} {c0 c1 c2 c3 c4 c5 c6 c7 c8 c9 : Value} (h : Row w g #[c0, c1, c2, c3, c4, c5, c6, c7, c8, c9] T) (x : Value) : Row (w.setCell ⟨g, 3, none⟩ x) g #[c0, c1, c2, x, c4, c5, c6, c7, c8, c9] T := h.set 3 x
theorem Row.s4 {w : World} {g : Nat} {T : TypeId} {c0 c1 c2 c3 c4 c5 c6 c7 c8 c9 : Value} (h : Row w g #[c0, c1, c2, c3, c4, c5, c6, c7, c8, c9] T) (x : Value) : Row (w.setCell ⟨g, 4, none⟩ x) g #[c0, c1, c2, c3, x, c5, c6, c7, c8, c9] T := h.set 4 x
theorem Row.s5 {w : World} {g : Nat} {T : TypeId} {c0 c1 c2 c3 c4 c5 c6 c7 c8 c9 : Value} (h : Row w g #[c0, c1, c2, c3, c4, c5, c6, c7, c8, c9] T) (x : Value) : Row (w.setCell ⟨g, 5, none⟩ x) g #[c0, c1, c2, c3, c4, x, c6, c7, c8, c9] T := h.set 5 x
theorem Row.s6 {w : World} {g : Nat} {T : TypeId} {c0 c1 c2 c3 c4 c5 c6 c7 c8 c9 : Value} (h : Row w g #[c0, c1, c2, c3, c4, c5, c6, c7, c8, c9] T) (x : Value) : Row (w.setCell ⟨g, 6, none⟩ x) g #[c0, c1, c2, c3, c4, c5, x, c7, c8, c9] T := h.set 6 x
theorem Row.s7 {w : World} {g : Nat} {T : TypeId} {c0 c1 c2 c3 c4 c5 c6 c7 c8 c9 : Value} (h : Row w g #[c0, c1, c2, c3, c4, c5, c6, c7, c8, c9] T) (x : Value) : Row (w.setCell ⟨g, 7, none⟩ x) g #[c0, c1, c2, c3, c4, c5, c6, x, c8, c9] T := h.set 7 x
theorem Row.s8 {w : World} {g : Nat} {T : TypeId} {c0 c1 c2 c3 c4 c5 c6 c7 c8 c9 : Value} (h : Row w g #[c0, c1, c2, c3, c4, c5, c6, c7, c8, c9] T) (x : Value) : Row (w.setCell ⟨g, 8, none⟩ x) g #[c0, c1, c2, c3, c4, c5, c6, c7, x, c9] T := h.set 8 x
theorem Row.s9 {w : World} {g : Nat} {T : TypeId} {c0 c1 c2 c3 c4 c5 c6 c7 c8 c9 : Value} (h : Row w g #[c0, c1, c2, c3, c4, c5, c6, c7, c8, c9] T) (x : Value) : Row (w.setCell ⟨g, 9, none⟩ x) g #[c0, c1, c2, c3, c4, c5, c6, c7, c8, x] T := h.set 9 x
def ZN (w : World) (g : Nat) (A : Ac) (u : Value) : World :=
 (((((((((w.setCell ⟨g, 0, none⟩ (int i64 A.r)).setCell ⟨g, 1, none⟩ (int i64 A.s)).setCell ⟨g, 2, none⟩ (int i64 A.t)).setCell ⟨g, 3, none⟩ u).setCell ⟨g, 4, none⟩ (int i64 A.k)).setCell ⟨g, 5, none⟩ (.string A.o)).setCell ⟨g, 6, none⟩ (.string A.y)).setCell ⟨g, 7, none⟩ (int i64 A.v)).setCell ⟨g, 8, none⟩ (int i64 A.x)).setCell ⟨g, 9, none⟩ (int i64 A.z)
theorem JaW {w : World} {g : Nat} {T : TypeId} {c0 c1 c2 c3 c4 c5 c6 c7 c8 c9 : Value} (h : Row w g #[c0, c1, c2, c3, c4, c5, c6, c7, c8, c9] T) (A : Ac) (u : Value) : Row (ZN w g A u) g (A.cs u) T := by
 unfold ZN
 exact (((((((((h.s0 _).s1 _).s2 _).s3 _).s4 _).s5 _).s6 _).s7 _).s8 _).s9 _
theorem Vk {w w0 : World} {B g : Nat} (h : Below B w0 w) (hg : B ≤ g) (A : Ac) (u : Value) : Below B w0 (ZN w g A u) := by
 unfold ZN
 exact (((((((((h.setCell hg _).setCell hg _).setCell hg _).setCell hg _).setCell hg _).setCell hg _).setCell hg _).setCell hg _).setCell hg _).setCell hg _
theorem JF {w : World} {B n g i : Nat} {e : TypeId} {s : Nat} {u x : Value} {xs : List Value} (h : w.ownsRow B e s u n xs) (hg : g < B) : (w.setCell ⟨g, i, none⟩ x).ownsRow B e s u n xs := by
 refine h.kept (row := some g) ⟨rfl, rfl, rfl, by simp [World.setCell], fun k hk hne => Below.heap_setCell w _ x k (fun e => hne (by rw [e]))⟩ ?_
 cases hv : u.ownBlock with
 | none => exact .inl rfl
 | some k => exact .inr (by have := (h.lt k hv).1; simp; omega)
theorem Jab {w : World} {B n g : Nat} {e : TypeId} {s : Nat} {v : Value} {xs : List Value} (h : w.ownsRow B e s v n xs) (hg : g < B) (A : Ac) (u : Value) : (ZN w g A u).ownsRow B e s v n xs := by
 unfold ZN
 exact JF (JF (JF (JF (JF (JF (JF (JF (JF (JF h hg) hg) hg) hg) hg) hg) hg) hg) hg) hg
theorem Ja4 (w : World) (g : Nat) (A : Ac) (u : Value) : (((((((((w.setCell ⟨g, 0, none⟩ (int i64 A.r)).setCell ⟨g, 1, none⟩ (int i64 A.s)).setCell ⟨g, 2, none⟩ (int i64 A.t)).setCell ⟨g, 3, none⟩ u).setCell ⟨g, 4, none⟩ (int i64 A.k)).setCell ⟨g, 5, none⟩ (.string A.o)).setCell ⟨g, 6, none⟩ (.string A.y)).setCell ⟨g, 7, none⟩ (int i64 A.v)).setCell ⟨g, 8, none⟩ (int i64 A.x)).setCell ⟨g, 9, none⟩ (int i64 A.z) = ZN w g A u := rfl
theorem JcA {w : World} {g : Nat} {T : TypeId} {c0 c1 c2 c3 c4 c5 : Value} (h : Row w g #[c0, c1, c2, c3, c4, c5] T) : w.cell? ⟨g, 0, none⟩ = some c0 ∧ w.cell? ⟨g, 1, none⟩ = some c1 ∧ w.cell? ⟨g, 2, none⟩ = some c2 ∧ w.cell? ⟨g, 3, none⟩ = some c3 ∧ w.cell? ⟨g, 4, none⟩ = some c4 ∧ w.cell? ⟨g, 5, none⟩ = some c5 := ⟨h.cell 0 rfl, h.cell 1 rfl, h.cell 2 rfl, h.cell 3 rfl, h.cell 4 rfl, h.cell 5 rfl⟩
theorem JjU {w : World} {g : Nat} {T : TypeId} {cs : Array Value} (h : Row w g cs T) : w.frozen? ⟨g, 0, none⟩ = false ∧ w.frozen? ⟨g, 1, none⟩ = false ∧ w.frozen? ⟨g, 2, none⟩ = false ∧ w.frozen? ⟨g, 3, none⟩ = false ∧ w.frozen? ⟨g, 4, none⟩ = false ∧ w.frozen? ⟨g, 5, none⟩ = false := ⟨h.free 0, h.free 1, h.free 2, h.free 3, h.free 4, h.free 5⟩
theorem Jev {w : World} {g : Nat} {T : TypeId} {c0 c1 c2 c3 c4 c5 c6 c7 : Value} (h : Row w g #[c0, c1, c2, c3, c4, c5, c6, c7] T) : w.cell? ⟨g, 0, none⟩ = some c0 ∧ w.cell? ⟨g, 1, none⟩ = some c1 ∧ w.cell? ⟨g, 2, none⟩ = some c2 ∧ w.cell? ⟨g, 3, none⟩ = some c3 ∧ w.cell? ⟨g, 4, none⟩ = some c4 ∧ w.cell? ⟨g, 5, none⟩ = some c5 ∧ w.cell? ⟨g, 6, none⟩ = some c6 ∧ w.cell? ⟨g, 7, none⟩ = some c7 := ⟨h.cell 0 rfl, h.cell 1 rfl, h.cell 2 rfl, h.cell 3 rfl, h.cell 4 rfl, h.cell 5 rfl, h.cell 6 rfl, h.cell 7 rfl⟩
theorem JjT {w : World} {g : Nat} {T : TypeId} {cs : Array Value} (h : Row w g cs T) : w.frozen? ⟨g, 0, none⟩ = false ∧ w.frozen? ⟨g, 1, none⟩ = false ∧ w.frozen? ⟨g, 2, none⟩ = false ∧ w.frozen? ⟨g, 3, none⟩ = false ∧ w.frozen? ⟨g, 4, none⟩ = false ∧ w.frozen? ⟨g, 5, none⟩ = false ∧ w.frozen? ⟨g, 6, none⟩ = false ∧ w.frozen? ⟨g, 7, none⟩ = false := ⟨h.free 0, h.free 1, h.free 2, h.free 3, h.free 4, h.free 5, h.free 6, h.free 7⟩
theorem ZH {w : World} {g : Nat} {T : TypeId} {c0 c1 c2 c3 c4 c5 c6 c7 c8 c9 : Value} (h : Row w g #[c0, c1, c2, c3, c4, c5, c6, c7, c8, c9] T) : w.cell? ⟨g, 0, none⟩ = some c0 ∧ w.cell? ⟨g, 1, none⟩ = some c1 ∧ w.cell? ⟨g, 2, none⟩ = some c2 ∧ w.cell? ⟨g, 3, none⟩ = some c3 ∧ w.cell? ⟨g, 4, none⟩ = some c4 ∧ w.cell? ⟨g, 5, none⟩ = some c5 ∧ w.cell? ⟨g, 6, none⟩ = some c6 ∧ w.cell? ⟨g, 7, none⟩ = some c7 ∧ w.cell? ⟨g, 8, none⟩ = some c8 ∧ w.cell? ⟨g, 9, none⟩ = some c9 := ⟨h.cell 0 rfl, h.cell 1 rfl, h.cell 2 rfl, h.cell 3 rfl, h.cell 4 rfl, h.cell 5 rfl, h.cell 6 rfl, h.cell 7 rfl, h.cell 8 rfl, h.cell 9 rfl⟩
theorem JjD {w : World} {g : Nat} {T : TypeId} {cs : Array Value} (h : Row w g cs T) : w.frozen? ⟨g, 0, none⟩ = false ∧ w.frozen? ⟨g, 1, none⟩ = false ∧ w.frozen? ⟨g, 2, none⟩ = false ∧ w.frozen? ⟨g, 3, none⟩ = false ∧ w.frozen? ⟨g, 4, none⟩ = false ∧ w.frozen? ⟨g, 5, none⟩ = false ∧ w.frozen? ⟨g, 6, none⟩ = false ∧ w.frozen? ⟨g, 7, none⟩ = false ∧ w.frozen? ⟨g, 8, none⟩ = false ∧ w.frozen? ⟨g, 9, none⟩ = false := ⟨h.free 0, h.free 1, h.free 2, h.free 3, h.free 4, h.free 5, h.free 6, h.free 7, h.free 8, h.free 9⟩
theorem JiP {w : World} {g : Nat} {T : TypeId} {c0 c1 c2 c3 c4 c5 c6 c7 c8 c9 c10 c11 c12 c13 : Value} (h : Row w g #[c0, c1, c2, c3, c4, c5, c6, c7, c8, c9, c10, c11, c12, c13] T) : w.cell? ⟨g, 0, none⟩ = some c0 ∧ w.cell? ⟨g, 1, none⟩ = some c1 ∧ w.cell? ⟨g, 2, none⟩ = some c2 ∧ w.cell? ⟨g, 3, none⟩ = some c3 ∧ w.cell? ⟨g, 4, none⟩ = some c4 ∧ w.cell? ⟨g, 5, none⟩ = some c5 ∧ w.cell? ⟨g, 6, none⟩ = some c6 ∧ w.cell? ⟨g, 7, none⟩ = some c7 ∧ w.cell? ⟨g, 8, none⟩ = some c8 ∧ w.cell? ⟨g, 9, none⟩ = some c9 ∧ w.cell? ⟨g, 10, none⟩ = some c10 ∧ w.cell? ⟨g, 11, none⟩ = some c11 ∧ w.cell? ⟨g, 12, none⟩ = some c12 ∧ w.cell? ⟨g, 13, none⟩ = some c13 := ⟨h.cell 0 rfl, h.cell 1 rfl, h.cell 2 rfl, h.cell 3 rfl, h.cell 4 rfl, h.cell 5 rfl, h.cell 6 rfl, h.cell 7 rfl, h.cell 8 rfl, h.cell 9 rfl, h.cell 10 rfl, h.cell 11 rfl, h.cell 12 rfl, h.cell 13 rfl⟩
theorem JjN {w : World} {g : Nat} {T : TypeId} {cs : Array Value} (h : Row w g cs T) : w.frozen? ⟨g, 0, none⟩ = false ∧ w.frozen? ⟨g, 1, none⟩ = false ∧ w.frozen? ⟨g, 2, none⟩ = false ∧ w.frozen? ⟨g, 3, none⟩ = false ∧ w.frozen? ⟨g, 4, none⟩ = false ∧ w.frozen? ⟨g, 5, none⟩ = false ∧ w.frozen? ⟨g, 6, none⟩ = false ∧ w.frozen? ⟨g, 7, none⟩ = false ∧ w.frozen? ⟨g, 8, none⟩ = false ∧ w.frozen? ⟨g, 9, none⟩ = false ∧ w.frozen? ⟨g, 10, none⟩ = false ∧ w.frozen? ⟨g, 11, none⟩ = false ∧ w.frozen? ⟨g, 12, none⟩ = false ∧ w.frozen? ⟨g, 13, none⟩ = false := ⟨h.free 0, h.free 1, h.free 2, h.free 3, h.free 4, h.free 5, h.free 6, h.free 7, h.free 8, h.free 9, h.free 10, h.free 11, h.free 12, h.free 13⟩
theorem Ji4 {w : World} {g : Nat} {T : TypeId} {c0 c1 c2 c3 c4 c5 c6 c7 c8 c9 c10 c11 c12 c13 c14 c15 c16 c17 : Value} (h : Row w g #[c0, c1, c2, c3, c4, c5, c6, c7, c8, c9, c10, c11, c12, c13, c14, c15, c16, c17] T) : w.cell? ⟨g, 0, none⟩ = some c0 ∧ w.cell? ⟨g, 1, none⟩ = some c1 ∧ w.cell? ⟨g, 2, none⟩ = some c2 ∧ w.cell? ⟨g, 3, none⟩ = some c3 ∧ w.cell? ⟨g, 4, none⟩ = some c4 ∧ w.cell? ⟨g, 5, none⟩ = some c5 ∧ w.cell? ⟨g, 6, none⟩ = some c6 ∧ w.cell? ⟨g, 7, none⟩ = some c7 ∧ w.cell? ⟨g, 8, none⟩ = some c8 ∧ w.cell? ⟨g, 9, none⟩ = some c9 ∧ w.cell? ⟨g, 10, none⟩ = some c10 ∧ w.cell? ⟨g, 11, none⟩ = some c11 ∧ w.cell? ⟨g, 12, none⟩ = some c12 ∧ w.cell? ⟨g, 13, none⟩ = some c13 ∧ w.cell? ⟨g, 14, none⟩ = some c14 ∧ w.cell? ⟨g, 15, none⟩ = some c15 ∧ w.cell? ⟨g, 16, none⟩ = some c16 ∧ w.cell? ⟨g, 17, none⟩ = some c17 := ⟨h.cell 0 rfl, h.cell 1 rfl, h.cell 2 rfl, h.cell 3 rfl, h.cell 4 rfl, h.cell 5 rfl, h.cell 6 rfl, h.cell 7 rfl, h.cell 8 rfl, h.cell 9 rfl, h.cell 10 rfl, h.cell 11 rfl, h.cell 12 rfl, h.cell 13 rfl, h.cell 14 rfl, h.cell 15 rfl, h.cell 16 rfl, h.cell 17 rfl⟩
theorem JiZ {w : World} {g : Nat} {T : TypeId} {cs : Array Value} (h : Row w g cs T) : w.frozen? ⟨g, 0, none⟩ = false ∧ w.frozen? ⟨g, 1, none⟩ = false ∧ w.frozen? ⟨g, 2, none⟩ = false ∧ w.frozen? ⟨g, 3, none⟩ = false ∧ w.frozen? ⟨g, 4, none⟩ = false ∧ w.frozen? ⟨g, 5, none⟩ = false ∧ w.frozen? ⟨g, 6, none⟩ = false ∧ w.frozen? ⟨g, 7, none⟩ = false ∧ w.frozen? ⟨g, 8, none⟩ = false ∧ w.frozen? ⟨g, 9, none⟩ = false ∧ w.frozen? ⟨g, 10, none⟩ = false ∧ w.frozen? ⟨g, 11, none⟩ = false ∧ w.frozen? ⟨g, 12, none⟩ = false ∧ w.frozen? ⟨g, 13, none⟩ = false ∧ w.frozen? ⟨g, 14, none⟩ = false ∧ w.frozen? ⟨g, 15, none⟩ = false ∧ w.frozen? ⟨g, 16, none⟩ = false ∧ w.frozen? ⟨g, 17, none⟩ = false := ⟨h.free 0, h.free 1, h.free 2, h.free 3, h.free 4, h.free 5, h.free 6, h.free 7, h.free 8, h.free 9, h.free 10, h.free 11, h.free 12, h.free 13, h.free 14, h.free 15, h.free 16, h.free 17⟩
structure Ta where
 (o : ByteArray)
 (r n : Int)
 deriving DecidableEq
structure Li where
 (m : Bool)
 (o y : ByteArray)
 (v r s : Int)
 deriving DecidableEq
structure Ce where
 (o : ByteArray)
 (r s t x z v : Int)
 (g : Bool)
 deriving DecidableEq
def Ta.cs (a : Ta) : List Value := [.string a.o, int i64 a.r, int i64 a.n]
def Li.cs (a : Li) : List Value := [.bool a.m, .string a.o, .string a.y, int i64 a.v, int i64 a.r, int i64 a.s]
def Ce.cs (a : Ce) : List Value := [.string a.o, int i64 a.r, int i64 a.s, int i64 a.t, int i64 a.x, int i64 a.z, int i64 a.v, .bool a.g]
def taV (l : List Ta) : List Value := (l.map Ta.cs).flatten
def liV (l : List Li) : List Value := (l.map Li.cs).flatten
def ceV (l : List Ce) : List Value := (l.map Ce.cs).flatten
def GR (s : Nat) (rs : List (List Value)) : Prop := ∀ r ∈ rs, r.length = s
theorem Ku (l : List Ta) : GR 3 (l.map Ta.cs) := by intro r h; obtain ⟨a, -, rfl⟩ := List.mem_map.1 h; rfl
theorem Zq (l : List Li) : GR 6 (l.map Li.cs) := by intro r h; obtain ⟨a, -, rfl⟩ := List.mem_map.1 h; rfl
theorem Ky (l : List Ce) : GR 8 (l.map Ce.cs) := by intro r h; obtain ⟨a, -, rfl⟩ := List.mem_map.1 h; rfl
theorem Za {s : Nat} {rs : List (List Value)} (h : GR s rs) : rs.flatten.length = rs.length * s := by
 induction rs with
 | nil => simp
 | cons r rs ih =>
  have h1 : r.length = s := h r (by simp)
  have h2 := ih (fun q hq => h q (by simp [hq]))
  simp only [List.flatten_cons, List.length_append, List.length_cons, h1, h2, Nat.add_mul, Nat.one_mul]
  omega
theorem ZB {s : Nat} {rs : List (List Value)} (h : GR s rs) : ∀ (j : Nat) (hj : j < rs.length) (i : Nat) (hi : i < s), rs.flatten[j * s + i]? = (rs[j])[i]? := by
 induction rs with
 | nil => intro j hj; simp at hj
 | cons r rs ih =>
  intro j hj i hi
  have h1 : r.length = s := h r (by simp)
  have h2 := ih (fun q hq => h q (by simp [hq]))
  cases j with
  | zero => simp only [List.flatten_cons, Nat.zero_mul, Nat.zero_add, List.getElem_cons_zero]; rw [List.getElem?_append_left (by omega)]
  | succ j =>
   have hj' : j < rs.length := by simpa using hj
   have e : (j + 1) * s + i = r.length + (j * s + i) := by rw [h1, Nat.add_mul]; omega
   simp only [List.flatten_cons, List.getElem_cons_succ]
   rw [e, List.getElem?_append_right (by omega), show r.length + (j * s + i) - r.length = j * s + i by omega]
   exact h2 j hj' i hi
def Jhq (w : World) (aa : Option Addr) (s : Nat) (rs : List (List Value)) : Prop :=
 0 < rs.length → ∃ g off, aa = some ⟨g, off, none⟩ ∧ g < w.heap.size ∧ ∀ j (h : j < rs.length) i x, (rs[j])[i]? = some x → w.cell? ⟨g, off + j * s + i, none⟩ = some x
def Flat (w : World) (v : Value) (s : Nat) (rs : List (List Value)) : Prop :=
 ∃ (aa : Option Addr) (ca : Nat), v = .slice aa rs.length ca ∧ Jhq w aa s rs
theorem Flat.own {w : World} {B n s : Nat} {e : TypeId} {v : Value} {rs : List (List Value)} (hw : GR s rs) (hl : rs.length = n) (h : w.ownsRow B e s v n rs.flatten) : Flat w v s rs := by
 subst hl
 rcases h.2 with ⟨rfl, h0⟩ | ⟨g, cap, cur, rfl, hb, hg, -, -, -, -⟩
 ·exact ⟨none, 0, by rw [h0], fun h => by omega⟩
 ·refine ⟨_, _, rfl, fun _ => ⟨g, 0, rfl, (Array.getElem?_eq_some_iff.1 hg).1, fun j hj i x hx => ?_⟩⟩
  have hi : i < s := by
   have h1 : (rs[j]).length = s := hw _ (List.getElem_mem hj)
   have := (List.getElem?_eq_some_iff.1 hx).1
   omega
  have h1 := h.cells (g := g) rfl (j * s + i) x (by rw [ZB hw j hj i hi]; exact hx)
  rw [Jw] at h1
  rw [show 0 + j * s + i = j * s + i by omega]
  exact h1
def taC (w : World) (g k : Nat) (a : Ta) : Prop := w.cell? ⟨g, k, none⟩ = some (.string a.o) ∧ w.cell? ⟨g, k + 1, none⟩ = some (int i64 a.r) ∧ w.cell? ⟨g, k + 2, none⟩ = some (int i64 a.n)
def liC (w : World) (g k : Nat) (a : Li) : Prop := w.cell? ⟨g, k, none⟩ = some (.bool a.m) ∧ w.cell? ⟨g, k + 1, none⟩ = some (.string a.o) ∧ w.cell? ⟨g, k + 2, none⟩ = some (.string a.y) ∧ w.cell? ⟨g, k + 3, none⟩ = some (int i64 a.v) ∧ w.cell? ⟨g, k + 4, none⟩ = some (int i64 a.r) ∧ w.cell? ⟨g, k + 5, none⟩ = some (int i64 a.s)
def ceC (w : World) (g k : Nat) (a : Ce) : Prop := w.cell? ⟨g, k, none⟩ = some (.string a.o) ∧ w.cell? ⟨g, k + 1, none⟩ = some (int i64 a.r) ∧ w.cell? ⟨g, k + 2, none⟩ = some (int i64 a.s) ∧ w.cell? ⟨g, k + 3, none⟩ = some (int i64 a.t) ∧ w.cell? ⟨g, k + 4, none⟩ = some (int i64 a.x) ∧ w.cell? ⟨g, k + 5, none⟩ = some (int i64 a.z) ∧ w.cell? ⟨g, k + 6, none⟩ = some (int i64 a.v) ∧ w.cell? ⟨g, k + 7, none⟩ = some (.bool a.g)
theorem Jn {w w' : World} {B g k : Nat} (hb : Below B w w') (hg : g < B) : w'.cell? ⟨g, k, none⟩ = w.cell? ⟨g, k, none⟩ := hb.cell (p := ⟨g, k, none⟩) hg
theorem taC.below {w w' : World} {B g k : Nat} {a : Ta} (h : taC w g k a) (hb : Below B w w') (hg : g < B) : taC w' g k a := by
 obtain ⟨h0, h1, h2⟩ := h
 exact ⟨(Jn hb hg).trans h0, (Jn hb hg).trans h1, (Jn hb hg).trans h2⟩
theorem liC.below {w w' : World} {B g k : Nat} {a : Li} (h : liC w g k a) (hb : Below B w w') (hg : g < B) : liC w' g k a := by
 obtain ⟨h0, h1, h2, h3, h4, h5⟩ := h
 exact ⟨(Jn hb hg).trans h0, (Jn hb hg).trans h1, (Jn hb hg).trans h2, (Jn hb hg).trans h3, (Jn hb hg).trans h4, (Jn hb hg).trans h5⟩
theorem ceC.below {w w' : World} {B g k : Nat} {a : Ce} (h : ceC w g k a) (hb : Below B w w') (hg : g < B) : ceC w' g k a := by
 obtain ⟨h0, h1, h2, h3, h4, h5, h6, h7⟩ := h
 exact ⟨(Jn hb hg).trans h0, (Jn hb hg).trans h1, (Jn hb hg).trans h2, (Jn hb hg).trans h3, (Jn hb hg).trans h4, (Jn hb hg).trans h5, (Jn hb hg).trans h6, (Jn hb hg).trans h7⟩
def TaG (w : World) (aa : Option Addr) (l : List Ta) : Prop := 0 < l.length → ∃ g off, aa = some ⟨g, off, none⟩ ∧ g < w.heap.size ∧ ∀ j (h : j < l.length), taC w g (off + j * 3) l[j]
def LiG (w : World) (aa : Option Addr) (l : List Li) : Prop := 0 < l.length → ∃ g off, aa = some ⟨g, off, none⟩ ∧ g < w.heap.size ∧ ∀ j (h : j < l.length), liC w g (off + j * 6) l[j]
def CeG (w : World) (aa : Option Addr) (l : List Ce) : Prop := 0 < l.length → ∃ g off, aa = some ⟨g, off, none⟩ ∧ g < w.heap.size ∧ ∀ j (h : j < l.length), ceC w g (off + j * 8) l[j]
def TaAt (w : World) (v : Value) (l : List Ta) : Prop := ∃ (aa : Option Addr) (ca : Nat), v = .slice aa l.length ca ∧ TaG w aa l
def LiAt (w : World) (v : Value) (l : List Li) : Prop := ∃ (aa : Option Addr) (ca : Nat), v = .slice aa l.length ca ∧ LiG w aa l
def CeAt (w : World) (v : Value) (l : List Ce) : Prop := ∃ (aa : Option Addr) (ca : Nat), v = .slice aa l.length ca ∧ CeG w aa l
theorem TaAt.of {w : World} {v : Value} {l : List Ta} (h : Flat w v 3 (l.map Ta.cs)) : TaAt w v l := by
 obtain ⟨aa, ca, rfl, hg⟩ := h
 refine ⟨aa, ca, by simp, fun h0 => ?_⟩
 obtain ⟨g, off, rfl, h1, h2⟩ := hg (by simpa using h0)
 refine ⟨g, off, rfl, h1, fun j hj => ?_⟩
 have hq := h2 j (by simpa using hj)
 rw [List.getElem_map] at hq
 exact ⟨hq 0 _ rfl, hq 1 _ rfl, hq 2 _ rfl⟩
theorem LiAt.of {w : World} {v : Value} {l : List Li} (h : Flat w v 6 (l.map Li.cs)) : LiAt w v l := by
 obtain ⟨aa, ca, rfl, hg⟩ := h
 refine ⟨aa, ca, by simp, fun h0 => ?_⟩
 obtain ⟨g, off, rfl, h1, h2⟩ := hg (by simpa using h0)
 refine ⟨g, off, rfl, h1, fun j hj => ?_⟩
 have hq := h2 j (by simpa using hj)
 rw [List.getElem_map] at hq
 exact ⟨hq 0 _ rfl, hq 1 _ rfl, hq 2 _ rfl, hq 3 _ rfl, hq 4 _ rfl, hq 5 _ rfl⟩
theorem CeAt.of {w : World} {v : Value} {l : List Ce} (h : Flat w v 8 (l.map Ce.cs)) : CeAt w v l := by
 obtain ⟨aa, ca, rfl, hg⟩ := h
 refine ⟨aa, ca, by simp, fun h0 => ?_⟩
 obtain ⟨g, off, rfl, h1, h2⟩ := hg (by simpa using h0)
 refine ⟨g, off, rfl, h1, fun j hj => ?_⟩
 have hq := h2 j (by simpa using hj)
 rw [List.getElem_map] at hq
 exact ⟨hq 0 _ rfl, hq 1 _ rfl, hq 2 _ rfl, hq 3 _ rfl, hq 4 _ rfl, hq 5 _ rfl, hq 6 _ rfl, hq 7 _ rfl⟩
theorem TaAt.own {w : World} {B n : Nat} {e : TypeId} {v : Value} {l : List Ta} (h : w.ownsRow B e 3 v n (taV l)) (hl : l.length = n) : TaAt w v l := TaAt.of (Flat.own (Ku l) (by simpa using hl) h)
theorem LiAt.own {w : World} {B n : Nat} {e : TypeId} {v : Value} {l : List Li} (h : w.ownsRow B e 6 v n (liV l)) (hl : l.length = n) : LiAt w v l := LiAt.of (Flat.own (Zq l) (by simpa using hl) h)
theorem CeAt.own {w : World} {B n : Nat} {e : TypeId} {v : Value} {l : List Ce} (h : w.ownsRow B e 8 v n (ceV l)) (hl : l.length = n) : CeAt w v l := CeAt.of (Flat.own (Ky l) (by simpa using hl) h)
theorem TaAt.below {w w' : World} {v : Value} {l : List Ta} (h : TaAt w v l) (hb : Below w.heap.size w w') : TaAt w' v l := by
 obtain ⟨aa, ca, rfl, hg⟩ := h
 refine ⟨aa, ca, rfl, fun h0 => ?_⟩
 obtain ⟨g, off, rfl, h1, h2⟩ := hg h0
 exact ⟨g, off, rfl, Nat.lt_of_lt_of_le h1 hb.size, fun j hj => (h2 j hj).below hb h1⟩
theorem LiAt.below {w w' : World} {v : Value} {l : List Li} (h : LiAt w v l) (hb : Below w.heap.size w w') : LiAt w' v l := by
 obtain ⟨aa, ca, rfl, hg⟩ := h
 refine ⟨aa, ca, rfl, fun h0 => ?_⟩
 obtain ⟨g, off, rfl, h1, h2⟩ := hg h0
 exact ⟨g, off, rfl, Nat.lt_of_lt_of_le h1 hb.size, fun j hj => (h2 j hj).below hb h1⟩
theorem CeAt.below {w w' : World} {v : Value} {l : List Ce} (h : CeAt w v l) (hb : Below w.heap.size w w') : CeAt w' v l := by
 obtain ⟨aa, ca, rfl, hg⟩ := h
 refine ⟨aa, ca, rfl, fun h0 => ?_⟩
 obtain ⟨g, off, rfl, h1, h2⟩ := hg h0
 exact ⟨g, off, rfl, Nat.lt_of_lt_of_le h1 hb.size, fun j hj => (h2 j hj).below hb h1⟩
theorem TaAt.alloc {w : World} {v : Value} {l : List Ta} (h : TaAt w v l) (o : Obj) : TaAt (w.alloc o) v l := h.below ((Below.refl _ _).alloc (Nat.le_refl _) _)
theorem LiAt.alloc {w : World} {v : Value} {l : List Li} (h : LiAt w v l) (o : Obj) : LiAt (w.alloc o) v l := h.below ((Below.refl _ _).alloc (Nat.le_refl _) _)
theorem CeAt.alloc {w : World} {v : Value} {l : List Ce} (h : CeAt w v l) (o : Obj) : CeAt (w.alloc o) v l := h.below ((Below.refl _ _).alloc (Nat.le_refl _) _)
structure Sta where
 (l : List Int)
 (T : List Ta)
 (L : List Li)
 (C : List Ce)
 deriving DecidableEq
theorem Row.four {w : World} {g : Nat} {T : TypeId} {c0 c1 c2 c3 : Value} (h : Row w g #[c0, c1, c2, c3] T) :
  w.cell? ⟨g, 0, none⟩ = some c0 ∧ w.cell? ⟨g, 1, none⟩ = some c1 ∧ w.cell? ⟨g, 2, none⟩ = some c2 ∧ w.cell? ⟨g, 3, none⟩ = some c3 := ⟨h.cell 0 rfl, h.cell 1 rfl, h.cell 2 rfl, h.cell 3 rfl⟩
def Ac.sz (A : Ac) : Int := (A.l.length : Int) + A.o.size + A.y.size
def JA (L n : Int) : Int := if n ≤ L then L - n else -1
theorem YT (aa : Option Addr) (n ca : Nat) (L : Int) (w : World) (h0 : 0 ≤ L) (h1 : L ≤ 1048576) (hn : n ≤ maxLen) :
  Calls Tryz.prog 63 #[.slice aa n ca, int i64 L] w fun e w' => e = .returned (int i64 (JA L n)) ∧ w' = w := by
 unfold maxLen at hn
 have hwr : IntKind.i64.wrap (L - n) = L - n := by rw [IntKind.wrap_i64] <;> omega
 by_cases h : L - n < 0
 ·have e : JA L n = -1 := by unfold JA; rw [if_neg (by omega)]
  rw [e]
  go_enter Tryz.func63, Tryz.ntmps63
  go_wp2
  go_ret
  exact ⟨rfl, rfl⟩
 ·have e : JA L n = L - n := by unfold JA; rw [if_pos (by omega)]
  rw [e]
  go_enter Tryz.func63, Tryz.ntmps63
  go_wp2
  go_ret
  exact ⟨rfl, rfl⟩
theorem JaR (A : Ac) (aa : Option Addr) (ca : Nat) (L : Int) (w : World) (h0 : 0 ≤ L) (h1 : L ≤ 1048576) (hn : A.l.length ≤ maxLen) (ho : A.o.size ≤ maxLen) (hy : A.y.size ≤ maxLen) :
  Calls Tryz.prog 22 #[A.val (.slice aa A.l.length ca), int i64 L] w fun e w' => e = .returned (int i64 (JA L A.sz)) ∧ Below w.heap.size w w' := by
 obtain ⟨R, hR⟩ : ∃ R, R = JA L A.sz := ⟨_, rfl⟩
 rw [← hR]
 have HR : Hid (R = JA L A.sz) := hR
 clear hR
 have hb : ∀ o1, Below w.heap.size w (w.alloc o1) := fun o1 => (Below.refl _ _).alloc (Nat.le_refl _) _
 have HC : Hid (∀ wx, Calls Tryz.prog 63 #[.slice aa A.l.length ca, int i64 L] wx fun e w' => e = .returned (int i64 (JA L A.l.length)) ∧ w' = wx) := fun wx => YT aa _ ca L wx h0 h1 hn
 unfold maxLen at hn ho hy
 unfold Ac.val
 by_cases k1 : (A.l.length : Int) ≤ L
 ·have e1 : JA L A.l.length = L - A.l.length := by unfold JA; rw [if_pos k1]
  rw [e1] at HC
  have n1 : ¬ (L - (A.l.length : Int) < 0) := by omega
  have w1 : IntKind.i64.wrap (L - (A.l.length : Int) - A.o.size) = L - (A.l.length : Int) - A.o.size := by rw [IntKind.wrap_i64] <;> omega
  by_cases k2 : (A.l.length : Int) + A.o.size ≤ L
  ·have n2 : ¬ (L - (A.l.length : Int) - A.o.size < 0) := by omega
   have w2 : IntKind.i64.wrap (L - (A.l.length : Int) - A.o.size - A.y.size) = L - (A.l.length : Int) - A.o.size - A.y.size := by rw [IntKind.wrap_i64] <;> omega
   by_cases k3 : (A.l.length : Int) + A.o.size + A.y.size ≤ L
   ·have n3 : ¬ (L - (A.l.length : Int) - A.o.size - A.y.size < 0) := by omega
    have HE : Hid (R = L - (A.l.length : Int) - A.o.size - A.y.size) := by show _ = _; rw [HR.out]; unfold JA Ac.sz; rw [if_pos k3]; omega
    clear k1 k2 k3 e1
    go_enter Tryz.func22, Tryz.ntmps22
    go_wp2_with (go_at_call 63; refine (HC.out _).mono ?_; rintro e w1 ⟨rfl, rfl⟩)
    go_ret
    exact ⟨by rw [HE.out]; rfl, hb _⟩
   ·have n3 : L - (A.l.length : Int) - A.o.size - A.y.size < 0 := by omega
    have HE : Hid (R = -1) := by show _ = _; rw [HR.out]; unfold JA Ac.sz; rw [if_neg k3]
    clear k1 k2 k3 e1
    go_enter Tryz.func22, Tryz.ntmps22
    go_wp2_with (go_at_call 63; refine (HC.out _).mono ?_; rintro e w1 ⟨rfl, rfl⟩)
    go_ret
    exact ⟨by rw [HE.out]; rfl, hb _⟩
  ·have n2 : L - (A.l.length : Int) - A.o.size < 0 := by omega
   have HE : Hid (R = -1) := by show _ = _; rw [HR.out]; unfold JA Ac.sz; rw [if_neg (by omega)]
   clear k1 k2 e1
   go_enter Tryz.func22, Tryz.ntmps22
   go_wp2_with (go_at_call 63; refine (HC.out _).mono ?_; rintro e w1 ⟨rfl, rfl⟩)
   go_ret
   exact ⟨by rw [HE.out]; rfl, hb _⟩
 ·have e1 : JA L A.l.length = -1 := by unfold JA; rw [if_neg k1]
  rw [e1] at HC
  have HE : Hid (R = -1) := by show _ = _; rw [HR.out]; unfold JA Ac.sz; rw [if_neg (by omega)]
  clear k1 e1
  go_enter Tryz.func22, Tryz.ntmps22
  go_wp2_with (go_at_call 63; refine (HC.out _).mono ?_; rintro e w1 ⟨rfl, rfl⟩)
  go_ret
  exact ⟨by rw [HE.out]; rfl, hb _⟩
def G0 : Array Value := #[int i64 0, int i64 0, int i64 0, .slice none 0 0, int i64 0, .string ⟨#[]⟩, .string ⟨#[]⟩, int i64 0, int i64 0, int i64 0]
theorem Y1 (A : Ac) (v : Value) (w : World) (hn : A.l.length ≤ 1048576) (ha : ArgInts w v A.l) :
  Calls Tryz.prog 24 #[A.val v] w fun e w' => ∃ u, e = .returned (A.val u) ∧ w'.ownsRow w.heap.size 3 1 u A.l.length (Je A.l) ∧ Below w.heap.size w w' := by
 obtain ⟨W, hW⟩ : ∃ W, W = ((w.alloc (.cells (A.cs v) 54)).alloc (.cells G0 44)).alloc (.cells G0 44) := ⟨_, rfl⟩
 have HP : Hid (Row W w.heap.size (A.cs v) 54) := by rw [hW]; exact ((Jb w _ _ rfl).alloc _).alloc _
 have HO : Hid (Row W (w.heap.size + 1) G0 44) := by rw [hW]; exact (Jb _ _ _ (by simp)).alloc _
 have HT : Hid (Row W (w.heap.size + 1 + 1) G0 44) := by rw [hW]; exact Jb _ _ _ (by simp)
 have HBW : Hid (Below w.heap.size w W) := by rw [hW]; exact (((Below.refl _ _).alloc (Nat.le_refl _) _).alloc (by simp) _).alloc (by simp; omega) _
 have HW : Hid (((w.alloc (.cells (A.cs v) 54)).alloc (.cells G0 44)).alloc (.cells G0 44) = W) := hW.symm
 have HA : Hid (ArgInts w v A.l) := ha
 unfold Ac.cs G0 at HW
 unfold Ac.val
 clear ha hW
 go_enter Tryz.func24, Tryz.ntmps24
 go_wp2_with fail
 rw [HW.out]
 refine (G4 _ _ _).mono ?_
 rintro e w1 ⟨rfl, hb1⟩
 unfold dot
 replace HP : Hid (Row w1 w.heap.size (A.cs v) 54) := HP.out.next hb1
 replace HO : Hid (Row w1 (w.heap.size + 1) G0 44) := HO.out.next hb1
 replace HT : Hid (Row w1 (w.heap.size + 1 + 1) G0 44) := HT.out.next hb1
 replace HBW : Hid (Below w.heap.size w w1) := HBW.out.trans (hb1.mono HBW.out.size)
 clear hb1 HW
 clear W
 obtain ⟨-, -, p2, p3, -, -, -, -, -, -⟩ := Row.ten HP.out
 obtain ⟨o0, o1, o2, -, -, -, -, -, -, -⟩ := Row.ten HT.out
 obtain ⟨f0, f1, f2, -, -, -, -, -, -, -⟩ := HT.out.frees
 obtain ⟨w2, hw2⟩ : ∃ w2, w2 = ((w1.setCell ⟨w.heap.size + 1 + 1, 0, none⟩ (int i64 A.r)).setCell ⟨w.heap.size + 1 + 1, 1, none⟩ (int i64 A.s)).setCell ⟨w.heap.size + 1 + 1, 2, none⟩ (int i64 A.t) := ⟨_, rfl⟩
 have HT2 : Hid (Row w2 (w.heap.size + 1 + 1) #[int i64 A.r, int i64 A.s, int i64 A.t, .slice none 0 0, int i64 0, .string ⟨#[]⟩, .string ⟨#[]⟩, int i64 0, int i64 0, int i64 0] 44) := by
  rw [hw2]; exact Row.s2 (Row.s1 (Row.s0 HT.out _) _) _
 have HO2 : Hid (Row w2 (w.heap.size + 1) G0 44) := by rw [hw2]; exact ((HO.out.other (by simp) _).other (by simp) _).other (by simp) _
 have HP2 : Hid (Row w2 w.heap.size (A.cs v) 54) := by rw [hw2]; exact ((HP.out.other (by simp; omega) _).other (by simp; omega) _).other (by simp; omega) _
 have HB2 : Hid (Below w.heap.size w w2) := by rw [hw2]; exact ((HBW.out.setCell (by simp; omega) _).setCell (by simp; omega) _).setCell (by simp; omega) _
 have HW2 : Hid (((w1.setCell ⟨w.heap.size + 1 + 1, 0, none⟩ (int i64 A.r)).setCell ⟨w.heap.size + 1 + 1, 1, none⟩ (int i64 A.s)).setCell ⟨w.heap.size + 1 + 1, 2, none⟩ (int i64 A.t) = w2) := hw2.symm
 clear hw2 HP HO HT HBW
 go_wp2_with fail
 rw [HW2.out]
 refine (Yz hn _ (HA.out.below HB2.out)).mono ?_
 rintro e w3 ⟨u, rfl, hown, hb3⟩
 clear HW2 p2 p3 o0 o1 o2 f0 f1 f2
 obtain ⟨ua, uc, rfl, -⟩ := IntsAt.own hown rfl
 have HOW : Hid (w3.ownsRow w2.heap.size 3 1 (.slice ua A.l.length uc) A.l.length (Je A.l)) := hown
 replace HP2 : Hid (Row w3 w.heap.size (A.cs v) 54) := HP2.out.next hb3
 replace HO2 : Hid (Row w3 (w.heap.size + 1) G0 44) := HO2.out.next hb3
 have hlt := HT2.out.lt
 have hlt2 : w.heap.size ≤ w2.heap.size := HB2.out.size
 replace HT2 : Hid (Row w3 (w.heap.size + 1 + 1) _ 44) := HT2.out.next hb3
 replace HB2 : Hid (Below w.heap.size w w3) := HB2.out.trans (hb3.mono HB2.out.size)
 clear hb3 hown
 obtain ⟨-, -, -, -, p4, p5, p6, p7, p8, p9⟩ := Row.ten HP2.out
 obtain ⟨-, -, -, o3, o4, o5, o6, o7, -, -⟩ := Row.ten HT2.out
 obtain ⟨-, -, -, f3, f4, f5, f6, f7, -, -⟩ := HT2.out.frees
 obtain ⟨w4, hw4⟩ : ∃ w4, w4 = ((((w3.setCell ⟨w.heap.size + 1 + 1, 3, none⟩ (.slice ua A.l.length uc)).setCell ⟨w.heap.size + 1 + 1, 4, none⟩ (int i64 A.k)).setCell ⟨w.heap.size + 1 + 1, 5, none⟩ (.string A.o)).setCell ⟨w.heap.size + 1 + 1, 6, none⟩ (.string A.y)).setCell ⟨w.heap.size + 1 + 1, 7, none⟩ (int i64 A.v) := ⟨_, rfl⟩
 have HT4 : Hid (Row w4 (w.heap.size + 1 + 1) #[int i64 A.r, int i64 A.s, int i64 A.t, .slice ua A.l.length uc, int i64 A.k, .string A.o, .string A.y, int i64 A.v, int i64 0, int i64 0] 44) := by
  rw [hw4]; exact ((((HT2.out.s3 _).s4 _).s5 _).s6 _).s7 _
 have HO4 : Hid (Row w4 (w.heap.size + 1) G0 44) := by rw [hw4]; exact ((((HO2.out.other (by simp) _).other (by simp) _).other (by simp) _).other (by simp) _).other (by simp) _
 have HB4 : Hid (Below w.heap.size w w4) := by rw [hw4]; exact ((((HB2.out.setCell (by simp; omega) _).setCell (by simp; omega) _).setCell (by simp; omega) _).setCell (by simp; omega) _).setCell (by simp; omega) _
 have HOW4 : Hid (w4.ownsRow w2.heap.size 3 1 (.slice ua A.l.length uc) A.l.length (Je A.l)) := by rw [hw4]; exact JF (JF (JF (JF (JF HOW.out hlt) hlt) hlt) hlt) hlt
 have HW4 : Hid (((((w3.setCell ⟨w.heap.size + 1 + 1, 3, none⟩ (.slice ua A.l.length uc)).setCell ⟨w.heap.size + 1 + 1, 4, none⟩ (int i64 A.k)).setCell ⟨w.heap.size + 1 + 1, 5, none⟩ (.string A.o)).setCell ⟨w.heap.size + 1 + 1, 6, none⟩ (.string A.y)).setCell ⟨w.heap.size + 1 + 1, 7, none⟩ (int i64 A.v) = w4) := hw4.symm
 clear hw4 HP2 HO2 HT2 HB2 HOW
 go_wp2_with fail
 rw [HW4.out]
 refine (G4 _ _ _).mono ?_
 rintro e w5 ⟨rfl, hb5⟩
 unfold dot
 clear HW4 p4 p5 p6 p7 p8 p9 o3 o4 o5 o6 o7 f3 f4 f5 f6 f7
 replace HO4 : Hid (Row w5 (w.heap.size + 1) G0 44) := HO4.out.next hb5
 replace HT4 : Hid (Row w5 (w.heap.size + 1 + 1) _ 44) := HT4.out.next hb5
 replace HB4 : Hid (Below w.heap.size w w5) := HB4.out.trans (hb5.mono HB4.out.size)
 replace HOW4 : Hid (w5.ownsRow w2.heap.size 3 1 (.slice ua A.l.length uc) A.l.length (Je A.l)) := Jh HOW4.out hb5
 clear hb5
 obtain ⟨t0, t1, t2, t3, t4, t5, t6, t7, t8, t9⟩ := Row.ten HT4.out
 obtain ⟨-, -, -, -, -, -, -, -, f8, f9⟩ := HT4.out.frees
 obtain ⟨o0, o1, o2, o3, o4, o5, o6, o7, o8, o9⟩ := Row.ten HO4.out
 obtain ⟨g0, g1, g2, g3, g4, g5, g6, g7, g8, g9⟩ := HO4.out.frees
 go_wp2
 rw [Ja4]
 have HR := (HO4.out.other (p := ⟨w.heap.size + 1 + 1, 8, none⟩) (by simp) (int i64 A.x)).other (p := ⟨w.heap.size + 1 + 1, 9, none⟩) (by simp) (int i64 A.z)
 have HS := JF (i := 9) (x := int i64 A.z) (JF (i := 8) (x := int i64 A.x) HOW4.out hlt) hlt
 have HBB := (HB4.out.setCell (p := ⟨w.heap.size + 1 + 1, 8, none⟩) (by simp; omega) (int i64 A.x)).setCell (p := ⟨w.heap.size + 1 + 1, 9, none⟩) (by simp; omega) (int i64 A.z)
 clear t0 t1 t2 t3 t4 t5 t6 t7 t8 t9 f8 f9 o0 o1 o2 o3 o4 o5 o6 o7 o8 o9 g0 g1 g2 g3 g4 g5 g6 g7 g8 g9
 generalize (w5.setCell ⟨w.heap.size + 1 + 1, 8, none⟩ (int i64 A.x)).setCell ⟨w.heap.size + 1 + 1, 9, none⟩ (int i64 A.z) = w6 at *
 have HZ : ActAt (ZN w6 (w.heap.size + 1) A (.slice ua A.l.length uc)) (w.heap.size + 1) A (.slice ua A.l.length uc) := JaW HR A _
 exact bodyPost_ret (Jea rfl rfl HZ) rfl ⟨_, rfl, Jk (Jab HS (by omega) A _) hlt2, Vk HBB (by omega) A _⟩
theorem JM (a b : ByteArray) (h : a = b) : (a.toList == b.toList) = true := by simp [h]
theorem JY (a b : ByteArray) (h : ¬ a = b) : (a.toList == b.toList) = false := by
 rw [ByteArray.toList_eq, ByteArray.toList_eq]
 simp only [beq_eq_false_iff_ne, ne_eq]
 intro h'
 exact h (ByteArray.ext (Array.ext' h'))
theorem Zs (r s : Int) (w : World) :
  Calls Tryz.prog 78 #[.agg #[int i64 r, int i64 s], .agg #[int i64 r, int i64 s]] w fun e w' => e = .returned (.bool true) ∧ Below w.heap.size w w' := by
 have h1 : (r != r) = false := by simp
 have h2 : (s != s) = false := by simp
 have hb : ∀ o1 o2, Below w.heap.size w ((w.alloc o1).alloc o2) := fun o1 o2 => ((Below.refl _ _).alloc (Nat.le_refl _) _).alloc (by simp) _
 go_enter Tryz.func78, Tryz.ntmps78
 go_wp2
 go_ret
 exact ⟨rfl, hb _ _⟩
theorem Jah (A : Ac) (u v : Value) (w : World) (hA : A.l.length ≤ 1048576) (ha : IntsAt w u A.l) (hb : IntsAt w v A.l) :
  Calls Tryz.prog 31 #[A.val u, A.val v] w fun e w' => e = .returned (.bool true) ∧ Below w.heap.size w w' := by
 obtain ⟨W, hW⟩ : ∃ W, W = (w.alloc (.cells (A.cs u) 44)).alloc (.cells (A.cs v) 44) := ⟨_, rfl⟩
 have HA : Hid (IntsAt W u A.l) := by rw [hW]; exact (ha.alloc _).alloc _
 have HB : Hid (IntsAt W v A.l) := by rw [hW]; exact (hb.alloc _).alloc _
 have HPA : Hid (ActAt W w.heap.size A u) := by rw [hW]; exact (VR w A u rfl).alloc _
 have HPB : Hid (ActAt W (w.heap.size + 1) A v) := by rw [hW]; exact VR _ A v (by simp)
 have HBW : Hid (Below w.heap.size w W) := by rw [hW]; exact ((Below.refl _ _).alloc (Nat.le_refl _) _).alloc (by simp) _
 have HW : Hid ((w.alloc (.cells (A.cs u) 44)).alloc (.cells (A.cs v) 44) = W) := hW.symm
 unfold Ac.cs at HW
 unfold Ac.val
 clear ha hb hW
 have f1 : (A.t != A.t) = false := by simp
 have f2 : (A.k != A.k) = false := by simp
 have f3 : (A.v != A.v) = false := by simp
 have f4 := JM A.o A.o rfl
 have f5 := JM A.y A.y rfl
 go_enter Tryz.func31, Tryz.ntmps31
 go_wp2_with fail
 rw [HW.out]
 refine (Zs _ _ _).mono ?_
 rintro e w1 ⟨rfl, hb1⟩
 replace HPA : Hid (ActAt w1 w.heap.size A u) := HPA.out.below hb1 HPA.out.lt
 replace HPB : Hid (ActAt w1 (w.heap.size + 1) A v) := HPB.out.below hb1 HPB.out.lt
 replace HA : Hid (IntsAt w1 u A.l) := HA.out.below hb1
 replace HB : Hid (IntsAt w1 v A.l) := HB.out.below hb1
 replace HBW : Hid (Below w.heap.size w w1) := HBW.out.trans (hb1.mono HBW.out.size)
 obtain ⟨-, -, a2, a3, -, -, -, -, -, -⟩ := HPA.out.all
 obtain ⟨-, -, b2, b3, -, -, -, -, -, -⟩ := HPB.out.all
 clear hb1 HW
 go_wp2_with fail
 refine (Gc hA _ HA.out HB.out).mono ?_
 rintro e w2 ⟨rfl, hb2⟩
 replace HPA : Hid (ActAt w2 w.heap.size A u) := HPA.out.below hb2 HPA.out.lt
 replace HPB : Hid (ActAt w2 (w.heap.size + 1) A v) := HPB.out.below hb2 HPB.out.lt
 replace HBW : Hid (Below w.heap.size w w2) := HBW.out.trans (hb2.mono HBW.out.size)
 clear hb2 HA HB a2 a3 b2 b3
 obtain ⟨-, -, -, -, a4, a5, a6, a7, a8, a9⟩ := HPA.out.all
 obtain ⟨-, -, -, -, b4, b5, b6, b7, b8, b9⟩ := HPB.out.all
 go_wp2_with fail
 refine (Zs _ _ _).mono ?_
 rintro e w3 ⟨rfl, hb3⟩
 replace HBW : Hid (Below w.heap.size w w3) := HBW.out.trans (hb3.mono HBW.out.size)
 clear hb3
 go_wp2
 go_ret
 exact ⟨rfl, HBW.out⟩
def ArgAct (w : World) (A : Ac) (v : Value) : Prop := ArgInts w v A.l ∧ A.o.size ≤ maxLen ∧ A.y.size ≤ maxLen
theorem ArgAct.split {w : World} {A : Ac} {v : Value} (h : ArgAct w A v) : ∃ aa ca, v = .slice aa A.l.length ca := by
 obtain ⟨⟨-, aa, ca, rfl, -⟩, -, -⟩ := h; exact ⟨aa, ca, rfl⟩
theorem JcK (A : Ac) (v : Value) (L : Int) (w w0 : World) (hA : ArgAct w0 A v) (h0 : 0 ≤ L) (h1 : L ≤ 1048576) :
  Calls Tryz.prog 22 #[A.val v, int i64 L] w fun e w' => e = .returned (int i64 (JA L A.sz)) ∧ Below w.heap.size w w' := by
 obtain ⟨aa, ca, rfl⟩ := hA.split
 exact JaR A aa ca L w h0 h1 hA.1.1 hA.2.1 hA.2.2
theorem Jcv (zs : List Value) (s n : Nat) (hs : zs.length = s) (h0 : 0 < s) : (madeCells zs.toArray (n * s)).toList = (List.replicate n zs).flatten := by
 have hw : GR s (List.replicate n zs) := fun r hr => by rw [List.eq_of_mem_replicate hr]; exact hs
 have hl := Za hw
 simp only [List.length_replicate] at hl
 apply List.ext_getElem?
 intro i
 by_cases hi : i < n * s
 ·have hq : i / s < n := Nat.div_lt_of_lt_mul (by rw [Nat.mul_comm]; exact hi)
  have hm : i % s < s := Nat.mod_lt _ h0
  have h1 := ZB hw (i / s) (by simpa using hq) (i % s) hm
  have e : i / s * s + i % s = i := by rw [Nat.mul_comm]; exact Nat.div_add_mod i s
  rw [e] at h1
  rw [h1]
  simp [madeCells, hi, hs, hm]
 ·rw [List.getElem?_eq_none (by simp [madeCells]; omega), List.getElem?_eq_none (by omega)]
theorem JcR {w : World} {g B n s : Nat} {rs : List (List Value)} {e : TypeId} (hw : GR s rs) (h : w.heap[g]? = some (.cells rs.flatten.toArray e (0, 0))) (hB : B ≤ g) (hl : rs.length = n) (hm : n ≤ maxLen) : w.ownsRow B e s (.slice (some ⟨g, 0, none⟩) n n) n rs.flatten :=
 ⟨by rw [Za hw, hl], .inr ⟨g, n, rs.flatten.toArray, rfl, hB, h, Nat.le_refl _, hm, by simp only [List.size_toArray]; rw [Za hw, hl], by exact List.take_of_length_le (by rw [Za hw, hl]; exact Nat.le_refl _)⟩⟩
theorem Jx (A r C : List Value) (i : Nat) (hi : i < r.length) (x : Value) : (A ++ (r ++ C)).set (A.length + i) x = A ++ (r.set i x ++ C) := by
 rw [List.set_append_right _ _ (by omega), show A.length + i - A.length = i by omega, List.set_append_left _ _ hi]
theorem ZI {s : Nat} {rs : List (List Value)} (h : GR s rs) (j : Nat) (hj : j < rs.length) : ∃ A C, rs.flatten = A ++ (rs[j] ++ C) ∧ A.length = j * s ∧ ∀ r', (rs.set j r').flatten = A ++ (r' ++ C) := by
 refine ⟨(rs.take j).flatten, (rs.drop (j + 1)).flatten, ?_, ?_, fun r' => ?_⟩
 ·rw [← List.flatten_cons, ← List.flatten_append, ← List.drop_eq_getElem_cons hj, List.take_append_drop]
 ·rw [Za (s := s) (fun r hr => h r (List.mem_of_mem_take hr)), List.length_take, Nat.min_eq_left (by omega)]
 ·rw [← List.flatten_cons, ← List.flatten_append, List.set_eq_take_append_cons_drop, if_pos hj]
theorem Jd4 (l : List Ta) (j : Nat) (h : j < l.length) (a : Ta) : (((taV l).set (j * 3) (.string a.o)).set (j * 3 + 1) (int i64 a.r)).set (j * 3 + 2) (int i64 a.n) = taV (l.set j a) := by
 obtain ⟨A, C, h1, h2, h3⟩ := ZI (Ku l) j (by simpa using h)
 have e : taV (l.set j a) = A ++ (a.cs ++ C) := by unfold taV; rw [List.map_set]; exact h3 _
 rw [e]
 show ((((l.map Ta.cs).flatten).set (j * 3) (.string a.o)).set (j * 3 + 1) (int i64 a.r)).set (j * 3 + 2) (int i64 a.n) = _
 rw [h1, List.getElem_map]
 generalize l[j] = b
 rw [← h2]
 rw [show A ++ (b.cs ++ C) = A ++ ([.string b.o, int i64 b.r, int i64 b.n] ++ C) from rfl]
 have g0 := Jx A [.string b.o, int i64 b.r, int i64 b.n] C 0 (by simp) (.string a.o)
 rw [Nat.add_zero] at g0
 rw [g0, Jx _ _ _ 1 (by simp), Jx _ _ _ 2 (by simp)]
 rfl
theorem Zn : (Tryz.prog.info? 86).map (fun i => (i.zero, i.size, i.bytes)) = some (some (.agg #[.string ⟨#[]⟩, int i64 0, int i64 0]), 3, 32) := by kernel_rfl
theorem Jff (l : List Ta) (j : Nat) (h : j < l.length) : (taV l)[j * 3]? = some (.string l[j].o) ∧ (taV l)[j * 3 + 1]? = some (int i64 l[j].r) ∧ (taV l)[j * 3 + 2]? = some (int i64 l[j].n) := by
 have hq : ∀ i, i < 3 → (taV l)[j * 3 + i]? = (l[j].cs)[i]? := fun i hi => by unfold taV; rw [ZB (Ku l) j (by simpa using h) i hi, List.getElem_map]
 exact ⟨hq 0 (by decide), hq 1 (by decide), hq 2 (by decide)⟩
theorem Jeb (l : List Li) (j : Nat) (h : j < l.length) (a : Li) : ((((((liV l).set (j * 6) (.bool a.m)).set (j * 6 + 1) (.string a.o)).set (j * 6 + 2) (.string a.y)).set (j * 6 + 3) (int i64 a.v)).set (j * 6 + 4) (int i64 a.r)).set (j * 6 + 5) (int i64 a.s) = liV (l.set j a) := by
 obtain ⟨A, C, h1, h2, h3⟩ := ZI (Zq l) j (by simpa using h)
 have e : liV (l.set j a) = A ++ (a.cs ++ C) := by unfold liV; rw [List.map_set]; exact h3 _
 rw [e]
 show (((((((l.map Li.cs).flatten).set (j * 6) (.bool a.m)).set (j * 6 + 1) (.string a.o)).set (j * 6 + 2) (.string a.y)).set (j * 6 + 3) (int i64 a.v)).set (j * 6 + 4) (int i64 a.r)).set (j * 6 + 5) (int i64 a.s) = _
 rw [h1, List.getElem_map]
 generalize l[j] = b
 rw [← h2]
 rw [show A ++ (b.cs ++ C) = A ++ ([.bool b.m, .string b.o, .string b.y, int i64 b.v, int i64 b.r, int i64 b.s] ++ C) from rfl]
 have g0 := Jx A [.bool b.m, .string b.o, .string b.y, int i64 b.v, int i64 b.r, int i64 b.s] C 0 (by simp) (.bool a.m)
 rw [Nat.add_zero] at g0
 rw [g0, Jx _ _ _ 1 (by simp), Jx _ _ _ 2 (by simp), Jx _ _ _ 3 (by simp), Jx _ _ _ 4 (by simp), Jx _ _ _ 5 (by simp)]
 rfl
theorem ZF : (Tryz.prog.info? 88).map (fun i => (i.zero, i.size, i.bytes)) = some (some (.agg #[.bool false, .string ⟨#[]⟩, .string ⟨#[]⟩, int i64 0, int i64 0, int i64 0]), 6, 64) := by kernel_rfl
theorem Jfd (l : List Li) (j : Nat) (h : j < l.length) : (liV l)[j * 6]? = some (.bool l[j].m) ∧ (liV l)[j * 6 + 1]? = some (.string l[j].o) ∧ (liV l)[j * 6 + 2]? = some (.string l[j].y) ∧ (liV l)[j * 6 + 3]? = some (int i64 l[j].v) ∧ (liV l)[j * 6 + 4]? = some (int i64 l[j].r) ∧ (liV l)[j * 6 + 5]? = some (int i64 l[j].s) := by
 have hq : ∀ i, i < 6 → (liV l)[j * 6 + i]? = (l[j].cs)[i]? := fun i hi => by unfold liV; rw [ZB (Zq l) j (by simpa using h) i hi, List.getElem_map]
 exact ⟨hq 0 (by decide), hq 1 (by decide), hq 2 (by decide), hq 3 (by decide), hq 4 (by decide), hq 5 (by decide)⟩
theorem Jd5 (l : List Ce) (j : Nat) (h : j < l.length) (a : Ce) : ((((((((ceV l).set (j * 8) (.string a.o)).set (j * 8 + 1) (int i64 a.r)).set (j * 8 + 2) (int i64 a.s)).set (j * 8 + 3) (int i64 a.t)).set (j * 8 + 4) (int i64 a.x)).set (j * 8 + 5) (int i64 a.z)).set (j * 8 + 6) (int i64 a.v)).set (j * 8 + 7) (.bool a.g) = ceV (l.set j a) := by
 obtain ⟨A, C, h1, h2, h3⟩ := ZI (Ky l) j (by simpa using h)
 have e : ceV (l.set j a) = A ++ (a.cs ++ C) := by unfold ceV; rw [List.map_set]; exact h3 _
 rw [e]
 show (((((((((l.map Ce.cs).flatten).set (j * 8) (.string a.o)).set (j * 8 + 1) (int i64 a.r)).set (j * 8 + 2) (int i64 a.s)).set (j * 8 + 3) (int i64 a.t)).set (j * 8 + 4) (int i64 a.x)).set (j * 8 + 5) (int i64 a.z)).set (j * 8 + 6) (int i64 a.v)).set (j * 8 + 7) (.bool a.g) = _
 rw [h1, List.getElem_map]
 generalize l[j] = b
 rw [← h2]
 rw [show A ++ (b.cs ++ C) = A ++ ([.string b.o, int i64 b.r, int i64 b.s, int i64 b.t, int i64 b.x, int i64 b.z, int i64 b.v, .bool b.g] ++ C) from rfl]
 have g0 := Jx A [.string b.o, int i64 b.r, int i64 b.s, int i64 b.t, int i64 b.x, int i64 b.z, int i64 b.v, .bool b.g] C 0 (by simp) (.string a.o)
 rw [Nat.add_zero] at g0
 rw [g0, Jx _ _ _ 1 (by simp), Jx _ _ _ 2 (by simp), Jx _ _ _ 3 (by simp), Jx _ _ _ 4 (by simp), Jx _ _ _ 5 (by simp), Jx _ _ _ 6 (by simp), Jx _ _ _ 7 (by simp)]
 rfl
theorem KX : (Tryz.prog.info? 90).map (fun i => (i.zero, i.size, i.bytes)) = some (some (.agg #[.string ⟨#[]⟩, int i64 0, int i64 0, int i64 0, int i64 0, int i64 0, int i64 0, .bool false]), 8, 72) := by kernel_rfl
theorem Jfh (l : List Ce) (j : Nat) (h : j < l.length) : (ceV l)[j * 8]? = some (.string l[j].o) ∧ (ceV l)[j * 8 + 1]? = some (int i64 l[j].r) ∧ (ceV l)[j * 8 + 2]? = some (int i64 l[j].s) ∧ (ceV l)[j * 8 + 3]? = some (int i64 l[j].t) ∧ (ceV l)[j * 8 + 4]? = some (int i64 l[j].x) ∧ (ceV l)[j * 8 + 5]? = some (int i64 l[j].z) ∧ (ceV l)[j * 8 + 6]? = some (int i64 l[j].v) ∧ (ceV l)[j * 8 + 7]? = some (.bool l[j].g) := by
 have hq : ∀ i, i < 8 → (ceV l)[j * 8 + i]? = (l[j].cs)[i]? := fun i hi => by unfold ceV; rw [ZB (Ky l) j (by simpa using h) i hi, List.getElem_map]
 exact ⟨hq 0 (by decide), hq 1 (by decide), hq 2 (by decide), hq 3 (by decide), hq 4 (by decide), hq 5 (by decide), hq 6 (by decide), hq 7 (by decide)⟩
theorem KG {α : Type} (f : α → Nat) (l : List α) (j : Nat) (h : j < l.length) : ((l.take (j + 1)).map f).sum = ((l.take j).map f).sum + f l[j] := by
 rw [List.take_succ_eq_append_getElem h, List.map_append, List.sum_append]; simp
theorem G6 {α : Type} (f : α → Nat) (l : List α) (j : Nat) : ((l.take j).map f).sum ≤ (l.map f).sum := by
 have := List.take_append_drop j l
 calc ((l.take j).map f).sum ≤ ((l.take j).map f).sum + ((l.drop j).map f).sum := Nat.le_add_right _ _
  _ = (l.map f).sum := by rw [← List.sum_append, ← List.map_append, this]
theorem VB (a : Ta) (w : World) :
  Calls Tryz.prog 75 #[.agg #[.string a.o, int i64 a.r, int i64 a.n], .agg #[.string a.o, int i64 a.r, int i64 a.n]] w fun e w' => e = .returned (.bool true) ∧ Below w.heap.size w w' := by
 obtain ⟨W, hW⟩ : ∃ W, W = (w.alloc (.cells #[.string a.o, int i64 a.r, int i64 a.n] 86)).alloc (.cells #[.string a.o, int i64 a.r, int i64 a.n] 86) := ⟨_, rfl⟩
 have HPA : Hid (Row W w.heap.size #[.string a.o, int i64 a.r, int i64 a.n] 86) := by rw [hW]; exact (Jb w _ _ rfl).alloc _
 have HPB : Hid (Row W (w.heap.size + 1) #[.string a.o, int i64 a.r, int i64 a.n] 86) := by rw [hW]; exact Jb _ _ _ (by simp)
 have HBW : Hid (Below w.heap.size w W) := by rw [hW]; exact ((Below.refl _ _).alloc (Nat.le_refl _) _).alloc (by simp) _
 have HW : Hid ((w.alloc (.cells #[.string a.o, int i64 a.r, int i64 a.n] 86)).alloc (.cells #[.string a.o, int i64 a.r, int i64 a.n] 86) = W) := hW.symm
 clear hW
 have e0 := JM a.o a.o rfl
 have e1 : (a.r != a.r) = false := by simp
 have e2 : (a.n != a.n) = false := by simp
 go_enter Tryz.func75, Tryz.ntmps75
 go_wp2
 go_ret
 exact ⟨rfl, by rw [HW.out]; exact HBW.out⟩
theorem Vb {va vb : Value} {l : List Ta} (hn : l.length ≤ 1048576) (w : World) (ha : TaAt w va l) (hb : TaAt w vb l) :
  Calls Tryz.prog 28 #[va, vb] w fun e w' => e = .returned (.bool true) ∧ Below w.heap.size w w' := by
 obtain ⟨aa, ca, rfl, ga⟩ := ha
 obtain ⟨ab, cb, rfl, gb⟩ := hb
 have HGA : Hid (TaG w aa l) := ga
 have HGB : Hid (TaG w ab l) := gb
 obtain ⟨n, hl⟩ : ∃ n, n = l.length := ⟨_, rfl⟩
 rw [← hl]
 rw [← hl] at hn
 have HL : Hid (n = l.length) := hl
 have hnn : ((n : Int) != n) = false := by simp
 clear ga gb hl
 go_enter Tryz.func28, Tryz.ntmps28
 go_wp2
 go_loopw [5] (fun z wr => ∃ k : Nat, k ≤ n ∧ z = int i64 k ∧ Below w.heap.size w wr) (fun z _ => n - (intOf z).toNat)
 case atStart => exact ⟨0, Nat.zero_le _, rfl, Below.refl _ _⟩
 case round =>
  obtain ⟨k, hk, rfl, hbel⟩ := hrel
  by_cases hlt : k < n
  ·have hkl : k < l.length := by rw [← HL.out]; exact hlt
   obtain ⟨g1, f1, rfl, hg1, ho1⟩ := HGA.out (by omega)
   obtain ⟨g2, f2, rfl, hg2, ho2⟩ := HGB.out (by omega)
   have c1 := (ho1 k hkl).below hbel hg1
   have c2 := (ho2 k hkl).below hbel hg2
   generalize l[k] = x at *
   have hk1 : (k : Int) < n := by omega
   have hk0 : (0 : Int) ≤ k := by omega
   have hsz := hbel.size
   clear ho1 ho2 hkl
   unfold taC at c1 c2
   have HEQ : Hid (∀ wx, Calls Tryz.prog 75 #[.agg #[.string x.o, int i64 x.r, int i64 x.n], .agg #[.string x.o, int i64 x.r, int i64 x.n]] wx fun e w' => e = .returned (.bool true) ∧ Below wx.heap.size wx w') := fun wx => VB x wx
   have cc : (wr.cell? ⟨g1, f1 + k * 3, none⟩ = some (.string x.o) ∧ wr.cell? ⟨g1, f1 + k * 3 + 1, none⟩ = some (int i64 x.r) ∧ wr.cell? ⟨g1, f1 + k * 3 + 2, none⟩ = some (int i64 x.n)) ∧ (wr.cell? ⟨g2, f2 + k * 3, none⟩ = some (.string x.o) ∧ wr.cell? ⟨g2, f2 + k * 3 + 1, none⟩ = some (int i64 x.r) ∧ wr.cell? ⟨g2, f2 + k * 3 + 2, none⟩ = some (int i64 x.n)) := ⟨c1, c2⟩
   have HKC : Hid (∀ wx, Below wr.heap.size wr wx → (wx.cell? ⟨g1, f1 + k * 3, none⟩ = some (.string x.o) ∧ wx.cell? ⟨g1, f1 + k * 3 + 1, none⟩ = some (int i64 x.r) ∧ wx.cell? ⟨g1, f1 + k * 3 + 2, none⟩ = some (int i64 x.n)) ∧ (wx.cell? ⟨g2, f2 + k * 3, none⟩ = some (.string x.o) ∧ wx.cell? ⟨g2, f2 + k * 3 + 1, none⟩ = some (int i64 x.r) ∧ wx.cell? ⟨g2, f2 + k * 3 + 2, none⟩ = some (int i64 x.n))) :=
    fun wx h => ⟨taC.below (a := x) c1 h (Nat.lt_of_lt_of_le hg1 hsz), taC.below (a := x) c2 h (Nat.lt_of_lt_of_le hg2 hsz)⟩
   have hWd : Below wr.heap.size wr wr.drew := (Below.refl _ _).drew
   obtain ⟨p0, p1, p2⟩ := c1
   obtain ⟨q0, q1, q2⟩ := c2
   go_wp2
   go_region_held3 (fun w' => (w'.cell? ⟨g1, f1 + k * 3, none⟩ = some (.string x.o) ∧ w'.cell? ⟨g1, f1 + k * 3 + 1, none⟩ = some (int i64 x.r) ∧ w'.cell? ⟨g1, f1 + k * 3 + 2, none⟩ = some (int i64 x.n)) ∧ (w'.cell? ⟨g2, f2 + k * 3, none⟩ = some (.string x.o) ∧ w'.cell? ⟨g2, f2 + k * 3 + 1, none⟩ = some (int i64 x.r) ∧ w'.cell? ⟨g2, f2 + k * 3 + 2, none⟩ = some (int i64 x.n))) (first | exact cc | exact HKC.out _ hW1 | go_keep) (first | (go_at_call 75; refine (HEQ.out _).mono ?_; rintro e w1 ⟨rfl, hb1⟩; have hW1 : Below wr.heap.size wr w1 := hWd.trans (hb1.mono hWd.size)))
   have hbq : Below w.heap.size w w1 := hbel.trans (hW1.mono hsz)
   clear p0 q0 p1 q1 p2 q2 cc hbel hb1 hW1 hWd
   go_wp2
   go_roundw
   case rel => exact ⟨k + 1, by omega, by go_num, hbq⟩
   case measure => simp [intOf]; omega
  ·have hk1 : ¬ ((k : Int) < n) := by omega
   go_wp2
   go_ret
   exact ⟨rfl, hbel⟩
theorem YM (a : Li) (w : World) :
  Calls Tryz.prog 76 #[.agg #[.bool a.m, .string a.o, .string a.y, int i64 a.v, int i64 a.r, int i64 a.s], .agg #[.bool a.m, .string a.o, .string a.y, int i64 a.v, int i64 a.r, int i64 a.s]] w fun e w' => e = .returned (.bool true) ∧ Below w.heap.size w w' := by
 obtain ⟨W, hW⟩ : ∃ W, W = (w.alloc (.cells #[.bool a.m, .string a.o, .string a.y, int i64 a.v, int i64 a.r, int i64 a.s] 88)).alloc (.cells #[.bool a.m, .string a.o, .string a.y, int i64 a.v, int i64 a.r, int i64 a.s] 88) := ⟨_, rfl⟩
 have HPA : Hid (Row W w.heap.size #[.bool a.m, .string a.o, .string a.y, int i64 a.v, int i64 a.r, int i64 a.s] 88) := by rw [hW]; exact (Jb w _ _ rfl).alloc _
 have HPB : Hid (Row W (w.heap.size + 1) #[.bool a.m, .string a.o, .string a.y, int i64 a.v, int i64 a.r, int i64 a.s] 88) := by rw [hW]; exact Jb _ _ _ (by simp)
 have HBW : Hid (Below w.heap.size w W) := by rw [hW]; exact ((Below.refl _ _).alloc (Nat.le_refl _) _).alloc (by simp) _
 have HW : Hid ((w.alloc (.cells #[.bool a.m, .string a.o, .string a.y, int i64 a.v, int i64 a.r, int i64 a.s] 88)).alloc (.cells #[.bool a.m, .string a.o, .string a.y, int i64 a.v, int i64 a.r, int i64 a.s] 88) = W) := hW.symm
 clear hW
 have e0 : (a.m != a.m) = false := by simp
 have e1 := JM a.o a.o rfl
 have e2 := JM a.y a.y rfl
 have e3 : (a.v != a.v) = false := by simp
 have e4 : (a.r != a.r) = false := by simp
 have e5 : (a.s != a.s) = false := by simp
 go_enter Tryz.func76, Tryz.ntmps76
 go_wp2_with fail
 rw [HW.out]
 refine (Zs _ _ _).mono ?_
 rintro e w1 ⟨rfl, hb⟩
 replace HPA : Hid (Row w1 w.heap.size #[.bool a.m, .string a.o, .string a.y, int i64 a.v, int i64 a.r, int i64 a.s] 88) := HPA.out.next hb
 replace HPB : Hid (Row w1 (w.heap.size + 1) #[.bool a.m, .string a.o, .string a.y, int i64 a.v, int i64 a.r, int i64 a.s] 88) := HPB.out.next hb
 replace HBW : Hid (Below w.heap.size w w1) := HBW.out.trans (hb.mono HBW.out.size)
 clear hb HW
 have a00 := HPA.out.cell 0 rfl
 have b00 := HPB.out.cell 0 rfl
 have a01 := HPA.out.cell 1 rfl
 have b01 := HPB.out.cell 1 rfl
 have a02 := HPA.out.cell 2 rfl
 have b02 := HPB.out.cell 2 rfl
 have a03 := HPA.out.cell 3 rfl
 have b03 := HPB.out.cell 3 rfl
 have a04 := HPA.out.cell 4 rfl
 have b04 := HPB.out.cell 4 rfl
 have a05 := HPA.out.cell 5 rfl
 have b05 := HPB.out.cell 5 rfl
 go_wp2
 go_ret
 exact ⟨rfl, HBW.out⟩
theorem Vq {va vb : Value} {l : List Li} (hn : l.length ≤ 1048576) (w : World) (ha : LiAt w va l) (hb : LiAt w vb l) :
  Calls Tryz.prog 29 #[va, vb] w fun e w' => e = .returned (.bool true) ∧ Below w.heap.size w w' := by
 obtain ⟨aa, ca, rfl, ga⟩ := ha
 obtain ⟨ab, cb, rfl, gb⟩ := hb
 have HGA : Hid (LiG w aa l) := ga
 have HGB : Hid (LiG w ab l) := gb
 obtain ⟨n, hl⟩ : ∃ n, n = l.length := ⟨_, rfl⟩
 rw [← hl]
 rw [← hl] at hn
 have HL : Hid (n = l.length) := hl
 have hnn : ((n : Int) != n) = false := by simp
 clear ga gb hl
 go_enter Tryz.func29, Tryz.ntmps29
 go_wp2
 go_loopw [5] (fun z wr => ∃ k : Nat, k ≤ n ∧ z = int i64 k ∧ Below w.heap.size w wr) (fun z _ => n - (intOf z).toNat)
 case atStart => exact ⟨0, Nat.zero_le _, rfl, Below.refl _ _⟩
 case round =>
  obtain ⟨k, hk, rfl, hbel⟩ := hrel
  by_cases hlt : k < n
  ·have hkl : k < l.length := by rw [← HL.out]; exact hlt
   obtain ⟨g1, f1, rfl, hg1, ho1⟩ := HGA.out (by omega)
   obtain ⟨g2, f2, rfl, hg2, ho2⟩ := HGB.out (by omega)
   have c1 := (ho1 k hkl).below hbel hg1
   have c2 := (ho2 k hkl).below hbel hg2
   generalize l[k] = x at *
   have hk1 : (k : Int) < n := by omega
   have hk0 : (0 : Int) ≤ k := by omega
   have hsz := hbel.size
   clear ho1 ho2 hkl
   unfold liC at c1 c2
   have HEQ : Hid (∀ wx, Calls Tryz.prog 76 #[.agg #[.bool x.m, .string x.o, .string x.y, int i64 x.v, int i64 x.r, int i64 x.s], .agg #[.bool x.m, .string x.o, .string x.y, int i64 x.v, int i64 x.r, int i64 x.s]] wx fun e w' => e = .returned (.bool true) ∧ Below wx.heap.size wx w') := fun wx => YM x wx
   have cc : (wr.cell? ⟨g1, f1 + k * 6, none⟩ = some (.bool x.m) ∧ wr.cell? ⟨g1, f1 + k * 6 + 1, none⟩ = some (.string x.o) ∧ wr.cell? ⟨g1, f1 + k * 6 + 2, none⟩ = some (.string x.y) ∧ wr.cell? ⟨g1, f1 + k * 6 + 3, none⟩ = some (int i64 x.v) ∧ wr.cell? ⟨g1, f1 + k * 6 + 4, none⟩ = some (int i64 x.r) ∧ wr.cell? ⟨g1, f1 + k * 6 + 5, none⟩ = some (int i64 x.s)) ∧ (wr.cell? ⟨g2, f2 + k * 6, none⟩ = some (.bool x.m) ∧ wr.cell? ⟨g2, f2 + k * 6 + 1, none⟩ = some (.string x.o) ∧ wr.cell? ⟨g2, f2 + k * 6 + 2, none⟩ = some (.string x.y) ∧ wr.cell? ⟨g2, f2 + k * 6 + 3, none⟩ = some (int i64 x.v) ∧ wr.cell? ⟨g2, f2 + k * 6 + 4, none⟩ = some (int i64 x.r) ∧ wr.cell? ⟨g2, f2 + k * 6 + 5, none⟩ = some (int i64 x.s)) := ⟨c1, c2⟩
   have HKC : Hid (∀ wx, Below wr.heap.size wr wx → (wx.cell? ⟨g1, f1 + k * 6, none⟩ = some (.bool x.m) ∧ wx.cell? ⟨g1, f1 + k * 6 + 1, none⟩ = some (.string x.o) ∧ wx.cell? ⟨g1, f1 + k * 6 + 2, none⟩ = some (.string x.y) ∧ wx.cell? ⟨g1, f1 + k * 6 + 3, none⟩ = some (int i64 x.v) ∧ wx.cell? ⟨g1, f1 + k * 6 + 4, none⟩ = some (int i64 x.r) ∧ wx.cell? ⟨g1, f1 + k * 6 + 5, none⟩ = some (int i64 x.s)) ∧ (wx.cell? ⟨g2, f2 + k * 6, none⟩ = some (.bool x.m) ∧ wx.cell? ⟨g2, f2 + k * 6 + 1, none⟩ = some (.string x.o) ∧ wx.cell? ⟨g2, f2 + k * 6 + 2, none⟩ = some (.string x.y) ∧ wx.cell? ⟨g2, f2 + k * 6 + 3, none⟩ = some (int i64 x.v) ∧ wx.cell? ⟨g2, f2 + k * 6 + 4, none⟩ = some (int i64 x.r) ∧ wx.cell? ⟨g2, f2 + k * 6 + 5, none⟩ = some (int i64 x.s))) :=
    fun wx h => ⟨liC.below (a := x) c1 h (Nat.lt_of_lt_of_le hg1 hsz), liC.below (a := x) c2 h (Nat.lt_of_lt_of_le hg2 hsz)⟩
   have hWd : Below wr.heap.size wr wr.drew := (Below.refl _ _).drew
   obtain ⟨p0, p1, p2, p3, p4, p5⟩ := c1
   obtain ⟨q0, q1, q2, q3, q4, q5⟩ := c2
   go_wp2
   go_region_held3 (fun w' => (w'.cell? ⟨g1, f1 + k * 6, none⟩ = some (.bool x.m) ∧ w'.cell? ⟨g1, f1 + k * 6 + 1, none⟩ = some (.string x.o) ∧ w'.cell? ⟨g1, f1 + k * 6 + 2, none⟩ = some (.string x.y) ∧ w'.cell? ⟨g1, f1 + k * 6 + 3, none⟩ = some (int i64 x.v) ∧ w'.cell? ⟨g1, f1 + k * 6 + 4, none⟩ = some (int i64 x.r) ∧ w'.cell? ⟨g1, f1 + k * 6 + 5, none⟩ = some (int i64 x.s)) ∧ (w'.cell? ⟨g2, f2 + k * 6, none⟩ = some (.bool x.m) ∧ w'.cell? ⟨g2, f2 + k * 6 + 1, none⟩ = some (.string x.o) ∧ w'.cell? ⟨g2, f2 + k * 6 + 2, none⟩ = some (.string x.y) ∧ w'.cell? ⟨g2, f2 + k * 6 + 3, none⟩ = some (int i64 x.v) ∧ w'.cell? ⟨g2, f2 + k * 6 + 4, none⟩ = some (int i64 x.r) ∧ w'.cell? ⟨g2, f2 + k * 6 + 5, none⟩ = some (int i64 x.s))) (first | exact cc | exact HKC.out _ hW1 | go_keep) (first | (go_at_call 76; refine (HEQ.out _).mono ?_; rintro e w1 ⟨rfl, hb1⟩; have hW1 : Below wr.heap.size wr w1 := hWd.trans (hb1.mono hWd.size)))
   have hbq : Below w.heap.size w w1 := hbel.trans (hW1.mono hsz)
   clear p0 q0 p1 q1 p2 q2 p3 q3 p4 q4 p5 q5 cc hbel hb1 hW1 hWd
   go_wp2
   go_roundw
   case rel => exact ⟨k + 1, by omega, by go_num, hbq⟩
   case measure => simp [intOf]; omega
  ·have hk1 : ¬ ((k : Int) < n) := by omega
   go_wp2
   go_ret
   exact ⟨rfl, hbel⟩
theorem YA (a : Ce) (w : World) :
  Calls Tryz.prog 77 #[.agg #[.string a.o, int i64 a.r, int i64 a.s, int i64 a.t, int i64 a.x, int i64 a.z, int i64 a.v, .bool a.g], .agg #[.string a.o, int i64 a.r, int i64 a.s, int i64 a.t, int i64 a.x, int i64 a.z, int i64 a.v, .bool a.g]] w fun e w' => e = .returned (.bool true) ∧ Below w.heap.size w w' := by
 obtain ⟨W, hW⟩ : ∃ W, W = (w.alloc (.cells #[.string a.o, int i64 a.r, int i64 a.s, int i64 a.t, int i64 a.x, int i64 a.z, int i64 a.v, .bool a.g] 90)).alloc (.cells #[.string a.o, int i64 a.r, int i64 a.s, int i64 a.t, int i64 a.x, int i64 a.z, int i64 a.v, .bool a.g] 90) := ⟨_, rfl⟩
 have HPA : Hid (Row W w.heap.size #[.string a.o, int i64 a.r, int i64 a.s, int i64 a.t, int i64 a.x, int i64 a.z, int i64 a.v, .bool a.g] 90) := by rw [hW]; exact (Jb w _ _ rfl).alloc _
 have HPB : Hid (Row W (w.heap.size + 1) #[.string a.o, int i64 a.r, int i64 a.s, int i64 a.t, int i64 a.x, int i64 a.z, int i64 a.v, .bool a.g] 90) := by rw [hW]; exact Jb _ _ _ (by simp)
 have HBW : Hid (Below w.heap.size w W) := by rw [hW]; exact ((Below.refl _ _).alloc (Nat.le_refl _) _).alloc (by simp) _
 have HW : Hid ((w.alloc (.cells #[.string a.o, int i64 a.r, int i64 a.s, int i64 a.t, int i64 a.x, int i64 a.z, int i64 a.v, .bool a.g] 90)).alloc (.cells #[.string a.o, int i64 a.r, int i64 a.s, int i64 a.t, int i64 a.x, int i64 a.z, int i64 a.v, .bool a.g] 90) = W) := hW.symm
 clear hW
 have e0 := JM a.o a.o rfl
 have e1 : (a.r != a.r) = false := by simp
 have e2 : (a.s != a.s) = false := by simp
 have e3 : (a.t != a.t) = false := by simp
 have e4 : (a.x != a.x) = false := by simp
 have e5 : (a.z != a.z) = false := by simp
 have e6 : (a.v != a.v) = false := by simp
 have e7 : (a.g != a.g) = false := by simp
 go_enter Tryz.func77, Tryz.ntmps77
 go_wp2_with fail
 rw [HW.out]
 refine (Zs _ _ _).mono ?_
 rintro e w1 ⟨rfl, hb⟩
 replace HPA : Hid (Row w1 w.heap.size #[.string a.o, int i64 a.r, int i64 a.s, int i64 a.t, int i64 a.x, int i64 a.z, int i64 a.v, .bool a.g] 90) := HPA.out.next hb
 replace HPB : Hid (Row w1 (w.heap.size + 1) #[.string a.o, int i64 a.r, int i64 a.s, int i64 a.t, int i64 a.x, int i64 a.z, int i64 a.v, .bool a.g] 90) := HPB.out.next hb
 replace HBW : Hid (Below w.heap.size w w1) := HBW.out.trans (hb.mono HBW.out.size)
 clear hb HW
 have a00 := HPA.out.cell 0 rfl
 have b00 := HPB.out.cell 0 rfl
 have a01 := HPA.out.cell 1 rfl
 have b01 := HPB.out.cell 1 rfl
 have a02 := HPA.out.cell 2 rfl
 have b02 := HPB.out.cell 2 rfl
 have a03 := HPA.out.cell 3 rfl
 have b03 := HPB.out.cell 3 rfl
 have a04 := HPA.out.cell 4 rfl
 have b04 := HPB.out.cell 4 rfl
 have a05 := HPA.out.cell 5 rfl
 have b05 := HPB.out.cell 5 rfl
 have a06 := HPA.out.cell 6 rfl
 have b06 := HPB.out.cell 6 rfl
 have a07 := HPA.out.cell 7 rfl
 have b07 := HPB.out.cell 7 rfl
 go_wp2_with fail
 refine (Zs _ _ _).mono ?_
 rintro e w2 ⟨rfl, hb⟩
 replace HPA : Hid (Row w2 w.heap.size #[.string a.o, int i64 a.r, int i64 a.s, int i64 a.t, int i64 a.x, int i64 a.z, int i64 a.v, .bool a.g] 90) := HPA.out.next hb
 replace HPB : Hid (Row w2 (w.heap.size + 1) #[.string a.o, int i64 a.r, int i64 a.s, int i64 a.t, int i64 a.x, int i64 a.z, int i64 a.v, .bool a.g] 90) := HPB.out.next hb
 replace HBW : Hid (Below w.heap.size w w2) := HBW.out.trans (hb.mono HBW.out.size)
 clear hb
 have a10 := HPA.out.cell 0 rfl
 have b10 := HPB.out.cell 0 rfl
 have a11 := HPA.out.cell 1 rfl
 have b11 := HPB.out.cell 1 rfl
 have a12 := HPA.out.cell 2 rfl
 have b12 := HPB.out.cell 2 rfl
 have a13 := HPA.out.cell 3 rfl
 have b13 := HPB.out.cell 3 rfl
 have a14 := HPA.out.cell 4 rfl
 have b14 := HPB.out.cell 4 rfl
 have a15 := HPA.out.cell 5 rfl
 have b15 := HPB.out.cell 5 rfl
 have a16 := HPA.out.cell 6 rfl
 have b16 := HPB.out.cell 6 rfl
 have a17 := HPA.out.cell 7 rfl
 have b17 := HPB.out.cell 7 rfl
 go_wp2
 go_ret
 exact ⟨rfl, HBW.out⟩
theorem Vw {va vb : Value} {l : List Ce} (hn : l.length ≤ 1048576) (w : World) (ha : CeAt w va l) (hb : CeAt w vb l) :
  Calls Tryz.prog 30 #[va, vb] w fun e w' => e = .returned (.bool true) ∧ Below w.heap.size w w' := by
 obtain ⟨aa, ca, rfl, ga⟩ := ha
 obtain ⟨ab, cb, rfl, gb⟩ := hb
 have HGA : Hid (CeG w aa l) := ga
 have HGB : Hid (CeG w ab l) := gb
 obtain ⟨n, hl⟩ : ∃ n, n = l.length := ⟨_, rfl⟩
 rw [← hl]
 rw [← hl] at hn
 have HL : Hid (n = l.length) := hl
 have hnn : ((n : Int) != n) = false := by simp
 clear ga gb hl
 go_enter Tryz.func30, Tryz.ntmps30
 go_wp2
 go_loopw [5] (fun z wr => ∃ k : Nat, k ≤ n ∧ z = int i64 k ∧ Below w.heap.size w wr) (fun z _ => n - (intOf z).toNat)
 case atStart => exact ⟨0, Nat.zero_le _, rfl, Below.refl _ _⟩
 case round =>
  obtain ⟨k, hk, rfl, hbel⟩ := hrel
  by_cases hlt : k < n
  ·have hkl : k < l.length := by rw [← HL.out]; exact hlt
   obtain ⟨g1, f1, rfl, hg1, ho1⟩ := HGA.out (by omega)
   obtain ⟨g2, f2, rfl, hg2, ho2⟩ := HGB.out (by omega)
   have c1 := (ho1 k hkl).below hbel hg1
   have c2 := (ho2 k hkl).below hbel hg2
   generalize l[k] = x at *
   have hk1 : (k : Int) < n := by omega
   have hk0 : (0 : Int) ≤ k := by omega
   have hsz := hbel.size
   clear ho1 ho2 hkl
   unfold ceC at c1 c2
   have HEQ : Hid (∀ wx, Calls Tryz.prog 77 #[.agg #[.string x.o, int i64 x.r, int i64 x.s, int i64 x.t, int i64 x.x, int i64 x.z, int i64 x.v, .bool x.g], .agg #[.string x.o, int i64 x.r, int i64 x.s, int i64 x.t, int i64 x.x, int i64 x.z, int i64 x.v, .bool x.g]] wx fun e w' => e = .returned (.bool true) ∧ Below wx.heap.size wx w') := fun wx => YA x wx
   have cc : (wr.cell? ⟨g1, f1 + k * 8, none⟩ = some (.string x.o) ∧ wr.cell? ⟨g1, f1 + k * 8 + 1, none⟩ = some (int i64 x.r) ∧ wr.cell? ⟨g1, f1 + k * 8 + 2, none⟩ = some (int i64 x.s) ∧ wr.cell? ⟨g1, f1 + k * 8 + 3, none⟩ = some (int i64 x.t) ∧ wr.cell? ⟨g1, f1 + k * 8 + 4, none⟩ = some (int i64 x.x) ∧ wr.cell? ⟨g1, f1 + k * 8 + 5, none⟩ = some (int i64 x.z) ∧ wr.cell? ⟨g1, f1 + k * 8 + 6, none⟩ = some (int i64 x.v) ∧ wr.cell? ⟨g1, f1 + k * 8 + 7, none⟩ = some (.bool x.g)) ∧ (wr.cell? ⟨g2, f2 + k * 8, none⟩ = some (.string x.o) ∧ wr.cell? ⟨g2, f2 + k * 8 + 1, none⟩ = some (int i64 x.r) ∧ wr.cell? ⟨g2, f2 + k * 8 + 2, none⟩ = some (int i64 x.s) ∧ wr.cell? ⟨g2, f2 + k * 8 + 3, none⟩ = some (int i64 x.t) ∧ wr.cell? ⟨g2, f2 + k * 8 + 4, none⟩ = some (int i64 x.x) ∧ wr.cell? ⟨g2, f2 + k * 8 + 5, none⟩ = some (int i64 x.z) ∧ wr.cell? ⟨g2, f2 + k * 8 + 6, none⟩ = some (int i64 x.v) ∧ wr.cell? ⟨g2, f2 + k * 8 + 7, none⟩ = some (.bool x.g)) := ⟨c1, c2⟩
   have HKC : Hid (∀ wx, Below wr.heap.size wr wx → (wx.cell? ⟨g1, f1 + k * 8, none⟩ = some (.string x.o) ∧ wx.cell? ⟨g1, f1 + k * 8 + 1, none⟩ = some (int i64 x.r) ∧ wx.cell? ⟨g1, f1 + k * 8 + 2, none⟩ = some (int i64 x.s) ∧ wx.cell? ⟨g1, f1 + k * 8 + 3, none⟩ = some (int i64 x.t) ∧ wx.cell? ⟨g1, f1 + k * 8 + 4, none⟩ = some (int i64 x.x) ∧ wx.cell? ⟨g1, f1 + k * 8 + 5, none⟩ = some (int i64 x.z) ∧ wx.cell? ⟨g1, f1 + k * 8 + 6, none⟩ = some (int i64 x.v) ∧ wx.cell? ⟨g1, f1 + k * 8 + 7, none⟩ = some (.bool x.g)) ∧ (wx.cell? ⟨g2, f2 + k * 8, none⟩ = some (.string x.o) ∧ wx.cell? ⟨g2, f2 + k * 8 + 1, none⟩ = some (int i64 x.r) ∧ wx.cell? ⟨g2, f2 + k * 8 + 2, none⟩ = some (int i64 x.s) ∧ wx.cell? ⟨g2, f2 + k * 8 + 3, none⟩ = some (int i64 x.t) ∧ wx.cell? ⟨g2, f2 + k * 8 + 4, none⟩ = some (int i64 x.x) ∧ wx.cell? ⟨g2, f2 + k * 8 + 5, none⟩ = some (int i64 x.z) ∧ wx.cell? ⟨g2, f2 + k * 8 + 6, none⟩ = some (int i64 x.v) ∧ wx.cell? ⟨g2, f2 + k * 8 + 7, none⟩ = some (.bool x.g))) :=
    fun wx h => ⟨ceC.below (a := x) c1 h (Nat.lt_of_lt_of_le hg1 hsz), ceC.below (a := x) c2 h (Nat.lt_of_lt_of_le hg2 hsz)⟩
   have hWd : Below wr.heap.size wr wr.drew := (Below.refl _ _).drew
   obtain ⟨p0, p1, p2, p3, p4, p5, p6, p7⟩ := c1
   obtain ⟨q0, q1, q2, q3, q4, q5, q6, q7⟩ := c2
   go_wp2
   go_region_held3 (fun w' => (w'.cell? ⟨g1, f1 + k * 8, none⟩ = some (.string x.o) ∧ w'.cell? ⟨g1, f1 + k * 8 + 1, none⟩ = some (int i64 x.r) ∧ w'.cell? ⟨g1, f1 + k * 8 + 2, none⟩ = some (int i64 x.s) ∧ w'.cell? ⟨g1, f1 + k * 8 + 3, none⟩ = some (int i64 x.t) ∧ w'.cell? ⟨g1, f1 + k * 8 + 4, none⟩ = some (int i64 x.x) ∧ w'.cell? ⟨g1, f1 + k * 8 + 5, none⟩ = some (int i64 x.z) ∧ w'.cell? ⟨g1, f1 + k * 8 + 6, none⟩ = some (int i64 x.v) ∧ w'.cell? ⟨g1, f1 + k * 8 + 7, none⟩ = some (.bool x.g)) ∧ (w'.cell? ⟨g2, f2 + k * 8, none⟩ = some (.string x.o) ∧ w'.cell? ⟨g2, f2 + k * 8 + 1, none⟩ = some (int i64 x.r) ∧ w'.cell? ⟨g2, f2 + k * 8 + 2, none⟩ = some (int i64 x.s) ∧ w'.cell? ⟨g2, f2 + k * 8 + 3, none⟩ = some (int i64 x.t) ∧ w'.cell? ⟨g2, f2 + k * 8 + 4, none⟩ = some (int i64 x.x) ∧ w'.cell? ⟨g2, f2 + k * 8 + 5, none⟩ = some (int i64 x.z) ∧ w'.cell? ⟨g2, f2 + k * 8 + 6, none⟩ = some (int i64 x.v) ∧ w'.cell? ⟨g2, f2 + k * 8 + 7, none⟩ = some (.bool x.g))) (first | exact cc | exact HKC.out _ hW1 | go_keep) (first | (go_at_call 77; refine (HEQ.out _).mono ?_; rintro e w1 ⟨rfl, hb1⟩; have hW1 : Below wr.heap.size wr w1 := hWd.trans (hb1.mono hWd.size)))
   have hbq : Below w.heap.size w w1 := hbel.trans (hW1.mono hsz)
   clear p0 q0 p1 q1 p2 q2 p3 q3 p4 q4 p5 q5 p6 q6 p7 q7 cc hbel hb1 hW1 hWd
   go_wp2
   go_roundw
   case rel => exact ⟨k + 1, by omega, by go_num, hbq⟩
   case measure => simp [intOf]; omega
  ·have hk1 : ¬ ((k : Int) < n) := by omega
   go_wp2
   go_ret
   exact ⟨rfl, hbel⟩
def StAt (w : World) (S : Sta) (u0 u1 u2 u3 : Value) : Prop := IntsAt w u0 S.l ∧ TaAt w u1 S.T ∧ LiAt w u2 S.L ∧ CeAt w u3 S.C
theorem StAt.below {w w' : World} {S : Sta} {u0 u1 u2 u3 : Value} (h : StAt w S u0 u1 u2 u3) (hb : Below w.heap.size w w') : StAt w' S u0 u1 u2 u3 := ⟨h.1.below hb, h.2.1.below hb, h.2.2.1.below hb, h.2.2.2.below hb⟩
theorem StAt.alloc {w : World} {S : Sta} {u0 u1 u2 u3 : Value} (h : StAt w S u0 u1 u2 u3) (o : Obj) : StAt (w.alloc o) S u0 u1 u2 u3 := h.below ((Below.refl _ _).alloc (Nat.le_refl _) _)
theorem StAt.shape {w : World} {S : Sta} {u0 u1 u2 u3 : Value} (h : StAt w S u0 u1 u2 u3) : ∃ a0 c0 a1 c1 a2 c2 a3 c3, u0 = .slice a0 S.l.length c0 ∧ u1 = .slice a1 S.T.length c1 ∧ u2 = .slice a2 S.L.length c2 ∧ u3 = .slice a3 S.C.length c3 := by
 obtain ⟨⟨a0, c0, rfl, -⟩, ⟨a1, c1, rfl, -⟩, ⟨a2, c2, rfl, -⟩, ⟨a3, c3, rfl, -⟩⟩ := h
 exact ⟨a0, c0, a1, c1, a2, c2, a3, c3, rfl, rfl, rfl, rfl⟩
theorem Row.st0 {w : World} {g : Nat} {T : TypeId} {c0 c1 c2 c3 : Value} (h : Row w g #[c0, c1, c2, c3] T) (x : Value) : Row (w.setCell ⟨g, 0, none⟩ x) g #[x, c1, c2, c3] T := h.set 0 x
theorem Row.st1 {w : World} {g : Nat} {T : TypeId} {c0 c1 c2 c3 : Value} (h : Row w g #[c0, c1, c2, c3] T) (x : Value) : Row (w.setCell ⟨g, 1, none⟩ x) g #[c0, x, c2, c3] T := h.set 1 x
theorem Row.st2 {w : World} {g : Nat} {T : TypeId} {c0 c1 c2 c3 : Value} (h : Row w g #[c0, c1, c2, c3] T) (x : Value) : Row (w.setCell ⟨g, 2, none⟩ x) g #[c0, c1, x, c3] T := h.set 2 x
theorem Row.st3 {w : World} {g : Nat} {T : TypeId} {c0 c1 c2 c3 : Value} (h : Row w g #[c0, c1, c2, c3] T) (x : Value) : Row (w.setCell ⟨g, 3, none⟩ x) g #[c0, c1, c2, x] T := h.set 3 x
theorem Vd {fn : Func} {p : Tmp} (h : fn.results = #[.cell p 29]) {tmps : Array Value} {w : World} {g : Nat} {cs : Array Value} (hc : cs.size = 4) (hp : tmps.getD p undef = .pointer (some ⟨g, 0, none⟩)) (hg : Row w g cs 29) :
  (results fn tmps).run Tryz.prog w = .ok (.agg cs) w := results_cell_row h tmps w g 29 _ (0, 0) _ hp hg Tryz.underlying29 rfl (by rw [hc]; kernel_rfl)
theorem Rw.set {w : World} {lo hi g i : Nat} {e : TypeId} {sz n : Nat} {u x : Value} {xs : List Value} (h : Rw w lo hi e sz u n xs) (hg : g < lo) : Rw (w.setCell ⟨g, i, none⟩ x) lo hi e sz u n xs := ⟨JF h.1 hg, h.2⟩
theorem Rw.wide {w : World} {lo hi hi' : Nat} {e : TypeId} {sz n : Nat} {u : Value} {xs : List Value} (h : Rw w lo hi e sz u n xs) (hh : hi ≤ hi') : Rw w lo hi' e sz u n xs := ⟨h.1, fun k hk => Nat.lt_of_lt_of_le (h.2 k hk) hh⟩
def Zi : Array Value := #[.slice none 0 0, .slice none 0 0, .slice none 0 0, .slice none 0 0]
theorem Rw.lo {w : World} {lo lo' hi : Nat} {e : TypeId} {sz n : Nat} {u : Value} {xs : List Value} (h : Rw w lo hi e sz u n xs) (hh : lo' ≤ lo) : Rw w lo' hi e sz u n xs := ⟨Jk h.1 hh, h.2⟩
theorem Vo (S : Sta) (u0 u1 u2 u3 v0 v1 v2 v3 : Value) (w : World) (hn : S.l.length ≤ 1048576 ∧ S.T.length ≤ 1048576 ∧ S.L.length ≤ 1048576 ∧ S.C.length ≤ 1048576) (hA : StAt w S u0 u1 u2 u3) (hB : StAt w S v0 v1 v2 v3) :
  Calls Tryz.prog 9 #[.agg #[u0, u1, u2, u3], .agg #[v0, v1, v2, v3]] w fun e w' => e = .returned (.bool true) ∧ Below w.heap.size w w' := by
 obtain ⟨W, hW⟩ : ∃ W, W = (w.alloc (.cells #[u0, u1, u2, u3] 29)).alloc (.cells #[v0, v1, v2, v3] 29) := ⟨_, rfl⟩
 have HA : Hid (StAt W S u0 u1 u2 u3) := by rw [hW]; exact (hA.alloc _).alloc _
 have HC : Hid (StAt W S v0 v1 v2 v3) := by rw [hW]; exact (hB.alloc _).alloc _
 have HPA : Hid (Row W w.heap.size #[u0, u1, u2, u3] 29) := by rw [hW]; exact (Jb w _ _ rfl).alloc _
 have HPB : Hid (Row W (w.heap.size + 1) #[v0, v1, v2, v3] 29) := by rw [hW]; exact Jb _ _ _ (by simp)
 have HB : Hid (Below w.heap.size w W) := by rw [hW]; exact ((Below.refl _ _).alloc (Nat.le_refl _) _).alloc (by simp) _
 have HW : Hid ((w.alloc (.cells #[u0, u1, u2, u3] 29)).alloc (.cells #[v0, v1, v2, v3] 29) = W) := hW.symm
 clear hW hA hB
 go_enter Tryz.func9, Tryz.ntmps9
 go_wp2_with fail
 rw [HW.out]
 clear HW
 refine (Gc hn.1 _ HA.out.1 HC.out.1).mono ?_
 rintro e w1 ⟨rfl, hb⟩
 replace HA : Hid (StAt w1 S u0 u1 u2 u3) := HA.out.below hb
 replace HC : Hid (StAt w1 S v0 v1 v2 v3) := HC.out.below hb
 replace HPA : Hid (Row w1 w.heap.size #[u0, u1, u2, u3] 29) := HPA.out.next hb
 replace HPB : Hid (Row w1 (w.heap.size + 1) #[v0, v1, v2, v3] 29) := HPB.out.next hb
 replace HB : Hid (Below w.heap.size w w1) := HB.out.trans (hb.mono HB.out.size)
 clear hb
 have a0 := HPA.out.cell 1 rfl
 have b0 := HPB.out.cell 1 rfl
 go_wp2_with fail
 clear a0 b0
 refine (Vb hn.2.1 _ HA.out.2.1 HC.out.2.1).mono ?_
 rintro e w2 ⟨rfl, hb⟩
 replace HA : Hid (StAt w2 S u0 u1 u2 u3) := HA.out.below hb
 replace HC : Hid (StAt w2 S v0 v1 v2 v3) := HC.out.below hb
 replace HPA : Hid (Row w2 w.heap.size #[u0, u1, u2, u3] 29) := HPA.out.next hb
 replace HPB : Hid (Row w2 (w.heap.size + 1) #[v0, v1, v2, v3] 29) := HPB.out.next hb
 replace HB : Hid (Below w.heap.size w w2) := HB.out.trans (hb.mono HB.out.size)
 clear hb
 have a1 := HPA.out.cell 2 rfl
 have b1 := HPB.out.cell 2 rfl
 go_wp2_with fail
 clear a1 b1
 refine (Vq hn.2.2.1 _ HA.out.2.2.1 HC.out.2.2.1).mono ?_
 rintro e w3 ⟨rfl, hb⟩
 replace HA : Hid (StAt w3 S u0 u1 u2 u3) := HA.out.below hb
 replace HC : Hid (StAt w3 S v0 v1 v2 v3) := HC.out.below hb
 replace HPA : Hid (Row w3 w.heap.size #[u0, u1, u2, u3] 29) := HPA.out.next hb
 replace HPB : Hid (Row w3 (w.heap.size + 1) #[v0, v1, v2, v3] 29) := HPB.out.next hb
 replace HB : Hid (Below w.heap.size w w3) := HB.out.trans (hb.mono HB.out.size)
 clear hb
 have a2 := HPA.out.cell 3 rfl
 have b2 := HPB.out.cell 3 rfl
 go_wp2_with fail
 clear a2 b2
 refine (Vw hn.2.2.2 _ HA.out.2.2.2 HC.out.2.2.2).mono ?_
 rintro e w4 ⟨rfl, hb⟩
 replace HA : Hid (StAt w4 S u0 u1 u2 u3) := HA.out.below hb
 replace HC : Hid (StAt w4 S v0 v1 v2 v3) := HC.out.below hb
 replace HPA : Hid (Row w4 w.heap.size #[u0, u1, u2, u3] 29) := HPA.out.next hb
 replace HPB : Hid (Row w4 (w.heap.size + 1) #[v0, v1, v2, v3] 29) := HPB.out.next hb
 replace HB : Hid (Below w.heap.size w w4) := HB.out.trans (hb.mono HB.out.size)
 clear hb
 go_wp2
 go_ret
 exact ⟨rfl, HB.out⟩
def cellAt : List Ce → Int → Int → Int → Int
 | [], _, _, _ => -1
 | c :: l, r, s, k => if c.r = r ∧ c.s = s then k else cellAt l r s (k + 1)
theorem JaD (l : List Ce) (r s : Int) (k : Nat) (h : k < l.length) : cellAt (l.drop k) r s k = if l[k].r = r ∧ l[k].s = s then (k : Int) else cellAt (l.drop (k + 1)) r s (k + 1 : Nat) := by
 rw [List.drop_eq_getElem_cons h]; show (if _ then _ else _) = _; rfl
end Go.Proofs.YtepfinenocpneaaGreat
