/- A row of cells in a block, cell by cell. -/
import Derived.Test.YtdknoflkingodaaGreatQ4
import Derived.Test.YtdknoflkingodaaGreatQ9
import Derived.Test.YtdknoflkingodaaGreatQ10
set_option maxHeartbeats 16000000
namespace Go.Proofs.YtdknoflkingodaaGreat
open Value (int)
open IntKind (i64)
set_option maxRecDepth 100000
set_option linter.unusedVariables false
open Go.RowKit
def Row (w : World) (g : Nat) (cs : Array Value) (T : TypeId) : Prop := w.heap[g]? = some (.cells cs T (0, 0))
theorem Row.lt {w : World} {g : Nat} {cs : Array Value} {T : TypeId} (h : Row w g cs T) : g < w.heap.size := (Array.getElem?_eq_some_iff.1 h).1
theorem Row.alloc {w : World} {g : Nat} {cs : Array Value} {T : TypeId} (h : Row w g cs T) (o : Obj) : Row (w.alloc o) g cs T := (Below.heap_alloc w o g h.lt).trans h
theorem Row.below {w w' : World} {g B : Nat} {cs : Array Value} {T : TypeId} (h : Row w g cs T) (hb : Below B w w') (hB : g < B) : Row w' g cs T := (hb.block g hB).trans h
theorem Row.next {w w' : World} {g : Nat} {cs : Array Value} {T : TypeId} (h : Row w g cs T) (hb : Below w.heap.size w w') : Row w' g cs T := h.below hb h.lt
theorem Row.drew {w : World} {g : Nat} {cs : Array Value} {T : TypeId} (h : Row w g cs T) : Row w.drew g cs T := h
theorem Row.free {w : World} {g : Nat} {cs : Array Value} {T : TypeId} (h : Row w g cs T) (i : Nat) : w.frozen? ⟨g, i, none⟩ = false := by unfold Row at h; simp [World.frozen?, h]
theorem Row.cell {w : World} {g : Nat} {cs : Array Value} {T : TypeId} (h : Row w g cs T) (i : Nat) {v : Value} (hv : cs[i]? = some v) : w.cell? ⟨g, i, none⟩ = some v := by unfold Row at h; simp [World.cell?, h, hv]
theorem Row.other {w : World} {g : Nat} {cs : Array Value} {T : TypeId} (h : Row w g cs T) {p : Addr} (hne : g ≠ p.block) (x : Value) : Row (w.setCell p x) g cs T := by
 unfold Row; rw [Below.heap_setCell w p x g hne]; exact h
theorem Row.set {w : World} {g : Nat} {cs : Array Value} {T : TypeId} (h : Row w g cs T) (i : Nat) (x : Value) : Row (w.setCell ⟨g, i, none⟩ x) g (cs.setIfInBounds i x) T := by
 have hm : w.heap[g]? = _ := h
 unfold Row World.setCell
 simp [Array.getElem?_modify, hm]
theorem Jb (w : World) (cs : Array Value) (T : TypeId) {g : Nat} (hg : g = w.heap.size) : Row (w.alloc (.cells cs T)) g cs T := by subst hg; exact (MapKept.heap_alloc w _).1
theorem Row.grown {w w' : World} {g : Nat} {cs : Array Value} {T : TypeId} {k : Option Nat} (h : Row w g cs T) (hg : w.grownBy w' k) (hk : k ≠ some g) : Row w' g cs T := (hg.block g h.lt (fun e => hk e.symm)).trans h
theorem Row.ten {w : World} {g : Nat} {T : TypeId} {c0 c1 c2 c3 c4 c5 c6 c7 c8 c9 : Value} (h : Row w g #[c0, c1, c2, c3, c4, c5, c6, c7, c8, c9] T) :
  w.cell? ⟨g, 0, none⟩ = some c0 ∧ w.cell? ⟨g, 1, none⟩ = some c1 ∧ w.cell? ⟨g, 2, none⟩ = some c2 ∧ w.cell? ⟨g, 3, none⟩ = some c3 ∧ w.cell? ⟨g, 4, none⟩ = some c4 ∧ w.cell? ⟨g, 5, none⟩ = some c5 ∧ w.cell? ⟨g, 6, none⟩ = some c6 ∧ w.cell? ⟨g, 7, none⟩ = some c7 ∧ w.cell? ⟨g, 8, none⟩ = some c8 ∧ w.cell? ⟨g, 9, none⟩ = some c9 :=
 ⟨h.cell 0 rfl, h.cell 1 rfl, h.cell 2 rfl, h.cell 3 rfl, h.cell 4 rfl, h.cell 5 rfl, h.cell 6 rfl, h.cell 7 rfl, h.cell 8 rfl, h.cell 9 rfl⟩
theorem Row.frees {w : World} {g : Nat} {cs : Array Value} {T : TypeId} (h : Row w g cs T) :
  w.frozen? ⟨g, 0, none⟩ = false ∧ w.frozen? ⟨g, 1, none⟩ = false ∧ w.frozen? ⟨g, 2, none⟩ = false ∧ w.frozen? ⟨g, 3, none⟩ = false ∧ w.frozen? ⟨g, 4, none⟩ = false ∧ w.frozen? ⟨g, 5, none⟩ = false ∧ w.frozen? ⟨g, 6, none⟩ = false ∧ w.frozen? ⟨g, 7, none⟩ = false ∧ w.frozen? ⟨g, 8, none⟩ = false ∧ w.frozen? ⟨g, 9, none⟩ = false :=
 ⟨h.free 0, h.free 1, h.free 2, h.free 3, h.free 4, h.free 5, h.free 6, h.free 7, h.free 8, h.free 9⟩
theorem Row.s0 {w : World} {g : Nat} {T : TypeId} {c0 c1 c2 c3 c4 c5 c6 c7 c8 c9 : Value} (h : Row w g #[c0, c1, c2, c3, c4, c5, c6, c7, c8, c9] T) (x : Value) : Row (w.setCell ⟨g, 0, none⟩ x) g #[x, c1, c2, c3, c4, c5, c6, c7, c8, c9] T := h.set 0 x
theorem Row.s1 {w : World} {g : Nat} {T : TypeId} {c0 c1 c2 c3 c4 c5 c6 c7 c8 c9 : Value} (h : Row w g #[c0, c1, c2, c3, c4, c5, c6, c7, c8, c9] T) (x : Value) : Row (w.setCell ⟨g, 1, none⟩ x) g #[c0, x, c2, c3, c4, c5, c6, c7, c8, c9] T := h.set 1 x
theorem Row.s2 {w : World} {g : Nat} {T : TypeId} {c0 c1 c2 c3 c4 c5 c6 c7 c8 c9 : Value} (h : Row w g #[c0, c1, c2, c3, c4, c5, c6, c7, c8, c9] T) (x : Value) : Row (w.setCell ⟨g, 2, none⟩ x) g #[c0, c1, x, c3, c4, c5, c6, c7, c8, c9] T := h.set 2 x
theorem Row.s3 {w : World} {g : Nat} {T : TypeId} {c0 c1 c2 c3 c4 c5 c6 c7 c8 c9 : Value} (h : Row w g #[c0, c1, c2, c3, c4, c5, c6, c7, c8, c9] T) (x : Value) : Row (w.setCell ⟨g, 3, none⟩ x) g #[c0, c1, c2, x, c4, c5, c6, c7, c8, c9] T := h.set 3 x
theorem Row.s4 {w : World} {g : Nat} {T : TypeId} {c0 c1 c2 c3 c4 c5 c6 c7 c8 c9 : Value} (h : Row w g #[c0, c1, c2, c3, c4, c5, c6, c7, c8, c9] T) (x : Value) : Row (w.setCell ⟨g, 4, none⟩ x) g #[c0, c1, c2, c3, x, c5, c6, c7, c8, c9] T := h.set 4 x
theorem Row.s5 {w : World} {g : Nat} {T : TypeId} {c0 c1 c2 c3 c4 c5 c6 c7 c8 c9 : Value} (h : Row w g #[c0, c1, c2, c3, c4, c5, c6, c7, c8, c9] T) (x : Value) : Row (w.setCell ⟨g, 5, none⟩ x) g #[c0, c1, c2, c3, c4, x, c6, c7, c8, c9] T := h.set 5 x
theorem Row.s6 {w : World} {g : Nat} {T : TypeId} {c0 c1 c2 c3 c4 c5 c6 c7 c8 c9 : Value} (h : Row w g #[c0, c1, c2, c3, c4, c5, c6, c7, c8, c9] T) (x : Value) : Row (w.setCell ⟨g, 6, none⟩ x) g #[c0, c1, c2, c3, c4, c5, x, c7, c8, c9] T := h.set 6 x
theorem Row.s7 {w : World} {g : Nat} {T : TypeId} {c0 c1 c2 c3 c4 c5 c6 c7 c8 c9 : Value} (h : Row w g #[c0, c1, c2, c3, c4, c5, c6, c7, c8, c9] T) (x : Value) : Row (w.setCell ⟨g, 7, none⟩ x) g #[c0, c1, c2, c3, c4, c5, c6, x, c8, c9] T := h.set 7 x
theorem Row.s8 {w : World} {g : Nat} {T : TypeId} {c0 c1 c2 c3 c4 c5 c6 c7 c8 c9 : Value} (h : Row w g #[c0, c1, c2, c3, c4, c5, c6, c7, c8, c9] T) (x : Value) : Row (w.setCell ⟨g, 8, none⟩ x) g #[c0, c1, c2, c3, c4, c5, c6, c7, x, c9] T := h.set 8 x
theorem Row.s9 {w : World} {g : Nat} {T : TypeId} {c0 c1 c2 c3 c4 c5 c6 c7 c8 c9 : Value} (h : Row w g #[c0, c1, c2, c3, c4, c5, c6, c7, c8, c9] T) (x : Value) : Row (w.setCell ⟨g, 9, none⟩ x) g #[c0, c1, c2, c3, c4, c5, c6, c7, c8, x] T := h.set 9 x
def Jk (w : World) (g : Nat) (A : Ac) (u : Value) : World :=
 (((((((((w.setCell ⟨g, 0, none⟩ (int i64 A.r)).setCell ⟨g, 1, none⟩ (int i64 A.s)).setCell ⟨g, 2, none⟩ (int i64 A.t)).setCell ⟨g, 3, none⟩ u).setCell ⟨g, 4, none⟩ (int i64 A.k)).setCell ⟨g, 5, none⟩ (.string A.o)).setCell ⟨g, 6, none⟩ (.string A.y)).setCell ⟨g, 7, none⟩ (int i64 A.v)).setCell ⟨g, 8, none⟩ (int i64 A.x)).setCell ⟨g, 9, none⟩ (int i64 A.z)
theorem Js {w : World} {g : Nat} {T : TypeId} {c0 c1 c2 c3 c4 c5 c6 c7 c8 c9 : Value} (h : Row w g #[c0, c1, c2, c3, c4, c5, c6, c7, c8, c9] T) (A : Ac) (u : Value) : Row (Jk w g A u) g (A.cs u) T := by
 unfold Jk
 exact (((((((((h.s0 _).s1 _).s2 _).s3 _).s4 _).s5 _).s6 _).s7 _).s8 _).s9 _
theorem Jp {w w0 : World} {B g : Nat} (h : Below B w0 w) (hg : B ≤ g) (A : Ac) (u : Value) : Below B w0 (Jk w g A u) := by
 unfold Jk
 exact (((((((((h.setCell hg _).setCell hg _).setCell hg _).setCell hg _).setCell hg _).setCell hg _).setCell hg _).setCell hg _).setCell hg _).setCell hg _
theorem Zb {w : World} {B n g i : Nat} {e : TypeId} {s : Nat} {u x : Value} {xs : List Value} (h : w.ownsRow B e s u n xs) (hg : g < B) : (w.setCell ⟨g, i, none⟩ x).ownsRow B e s u n xs := by
 refine h.kept (row := some g) ⟨rfl, rfl, rfl, by simp [World.setCell], fun k hk hne => Below.heap_setCell w _ x k (fun e => hne (by rw [e]))⟩ ?_
 cases hv : u.ownBlock with
 | none => exact .inl rfl
 | some k => exact .inr (by have := (h.lt k hv).1; simp; omega)
theorem Ku {w : World} {B n g : Nat} {e : TypeId} {s : Nat} {v : Value} {xs : List Value} (h : w.ownsRow B e s v n xs) (hg : g < B) (A : Ac) (u : Value) : (Jk w g A u).ownsRow B e s v n xs := by
 unfold Jk
 exact Zb (Zb (Zb (Zb (Zb (Zb (Zb (Zb (Zb (Zb h hg) hg) hg) hg) hg) hg) hg) hg) hg) hg
theorem Jt (w : World) (g : Nat) (A : Ac) (u : Value) : (((((((((w.setCell ⟨g, 0, none⟩ (int i64 A.r)).setCell ⟨g, 1, none⟩ (int i64 A.s)).setCell ⟨g, 2, none⟩ (int i64 A.t)).setCell ⟨g, 3, none⟩ u).setCell ⟨g, 4, none⟩ (int i64 A.k)).setCell ⟨g, 5, none⟩ (.string A.o)).setCell ⟨g, 6, none⟩ (.string A.y)).setCell ⟨g, 7, none⟩ (int i64 A.v)).setCell ⟨g, 8, none⟩ (int i64 A.x)).setCell ⟨g, 9, none⟩ (int i64 A.z) = Jk w g A u := rfl
theorem ZT {w : World} {g : Nat} {T : TypeId} {c0 c1 c2 c3 c4 c5 : Value} (h : Row w g #[c0, c1, c2, c3, c4, c5] T) : w.cell? ⟨g, 0, none⟩ = some c0 ∧ w.cell? ⟨g, 1, none⟩ = some c1 ∧ w.cell? ⟨g, 2, none⟩ = some c2 ∧ w.cell? ⟨g, 3, none⟩ = some c3 ∧ w.cell? ⟨g, 4, none⟩ = some c4 ∧ w.cell? ⟨g, 5, none⟩ = some c5 := ⟨h.cell 0 rfl, h.cell 1 rfl, h.cell 2 rfl, h.cell 3 rfl, h.cell 4 rfl, h.cell 5 rfl⟩
theorem Jfo {w : World} {g : Nat} {T : TypeId} {cs : Array Value} (h : Row w g cs T) : w.frozen? ⟨g, 0, none⟩ = false ∧ w.frozen? ⟨g, 1, none⟩ = false ∧ w.frozen? ⟨g, 2, none⟩ = false ∧ w.frozen? ⟨g, 3, none⟩ = false ∧ w.frozen? ⟨g, 4, none⟩ = false ∧ w.frozen? ⟨g, 5, none⟩ = false := ⟨h.free 0, h.free 1, h.free 2, h.free 3, h.free 4, h.free 5⟩
theorem ZF {w : World} {g : Nat} {T : TypeId} {c0 c1 c2 c3 c4 c5 c6 c7 : Value} (h : Row w g #[c0, c1, c2, c3, c4, c5, c6, c7] T) : w.cell? ⟨g, 0, none⟩ = some c0 ∧ w.cell? ⟨g, 1, none⟩ = some c1 ∧ w.cell? ⟨g, 2, none⟩ = some c2 ∧ w.cell? ⟨g, 3, none⟩ = some c3 ∧ w.cell? ⟨g, 4, none⟩ = some c4 ∧ w.cell? ⟨g, 5, none⟩ = some c5 ∧ w.cell? ⟨g, 6, none⟩ = some c6 ∧ w.cell? ⟨g, 7, none⟩ = some c7 := ⟨h.cell 0 rfl, h.cell 1 rfl, h.cell 2 rfl, h.cell 3 rfl, h.cell 4 rfl, h.cell 5 rfl, h.cell 6 rfl, h.cell 7 rfl⟩
theorem Uk {w : World} {g : Nat} {T : TypeId} {cs : Array Value} (h : Row w g cs T) : w.frozen? ⟨g, 0, none⟩ = false ∧ w.frozen? ⟨g, 1, none⟩ = false ∧ w.frozen? ⟨g, 2, none⟩ = false ∧ w.frozen? ⟨g, 3, none⟩ = false ∧ w.frozen? ⟨g, 4, none⟩ = false ∧ w.frozen? ⟨g, 5, none⟩ = false ∧ w.frozen? ⟨g, 6, none⟩ = false ∧ w.frozen? ⟨g, 7, none⟩ = false := ⟨h.free 0, h.free 1, h.free 2, h.free 3, h.free 4, h.free 5, h.free 6, h.free 7⟩
theorem Z7 {w : World} {g : Nat} {T : TypeId} {c0 c1 c2 c3 c4 c5 c6 c7 c8 c9 : Value} (h : Row w g #[c0, c1, c2, c3, c4, c5, c6, c7, c8, c9] T) : w.cell? ⟨g, 0, none⟩ = some c0 ∧ w.cell? ⟨g, 1, none⟩ = some c1 ∧ w.cell? ⟨g, 2, none⟩ = some c2 ∧ w.cell? ⟨g, 3, none⟩ = some c3 ∧ w.cell? ⟨g, 4, none⟩ = some c4 ∧ w.cell? ⟨g, 5, none⟩ = some c5 ∧ w.cell? ⟨g, 6, none⟩ = some c6 ∧ w.cell? ⟨g, 7, none⟩ = some c7 ∧ w.cell? ⟨g, 8, none⟩ = some c8 ∧ w.cell? ⟨g, 9, none⟩ = some c9 := ⟨h.cell 0 rfl, h.cell 1 rfl, h.cell 2 rfl, h.cell 3 rfl, h.cell 4 rfl, h.cell 5 rfl, h.cell 6 rfl, h.cell 7 rfl, h.cell 8 rfl, h.cell 9 rfl⟩
theorem JkW {w : World} {g : Nat} {T : TypeId} {cs : Array Value} (h : Row w g cs T) : w.frozen? ⟨g, 0, none⟩ = false ∧ w.frozen? ⟨g, 1, none⟩ = false ∧ w.frozen? ⟨g, 2, none⟩ = false ∧ w.frozen? ⟨g, 3, none⟩ = false ∧ w.frozen? ⟨g, 4, none⟩ = false ∧ w.frozen? ⟨g, 5, none⟩ = false ∧ w.frozen? ⟨g, 6, none⟩ = false ∧ w.frozen? ⟨g, 7, none⟩ = false ∧ w.frozen? ⟨g, 8, none⟩ = false ∧ w.frozen? ⟨g, 9, none⟩ = false := ⟨h.free 0, h.free 1, h.free 2, h.free 3, h.free 4, h.free 5, h.free 6, h.free 7, h.free 8, h.free 9⟩
theorem Vv {w : World} {g : Nat} {T : TypeId} {c0 c1 c2 c3 c4 c5 c6 c7 c8 c9 c10 c11 c12 c13 : Value} (h : Row w g #[c0, c1, c2, c3, c4, c5, c6, c7, c8, c9, c10, c11, c12, c13] T) : w.cell? ⟨g, 0, none⟩ = some c0 ∧ w.cell? ⟨g, 1, none⟩ = some c1 ∧ w.cell? ⟨g, 2, none⟩ = some c2 ∧ w.cell? ⟨g, 3, none⟩ = some c3 ∧ w.cell? ⟨g, 4, none⟩ = some c4 ∧ w.cell? ⟨g, 5, none⟩ = some c5 ∧ w.cell? ⟨g, 6, none⟩ = some c6 ∧ w.cell? ⟨g, 7, none⟩ = some c7 ∧ w.cell? ⟨g, 8, none⟩ = some c8 ∧ w.cell? ⟨g, 9, none⟩ = some c9 ∧ w.cell? ⟨g, 10, none⟩ = some c10 ∧ w.cell? ⟨g, 11, none⟩ = some c11 ∧ w.cell? ⟨g, 12, none⟩ = some c12 ∧ w.cell? ⟨g, 13, none⟩ = some c13 := ⟨h.cell 0 rfl, h.cell 1 rfl, h.cell 2 rfl, h.cell 3 rfl, h.cell 4 rfl, h.cell 5 rfl, h.cell 6 rfl, h.cell 7 rfl, h.cell 8 rfl, h.cell 9 rfl, h.cell 10 rfl, h.cell 11 rfl, h.cell 12 rfl, h.cell 13 rfl⟩
theorem VP {w : World} {g : Nat} {T : TypeId} {cs : Array Value} (h : Row w g cs T) : w.frozen? ⟨g, 0, none⟩ = false ∧ w.frozen? ⟨g, 1, none⟩ = false ∧ w.frozen? ⟨g, 2, none⟩ = false ∧ w.frozen? ⟨g, 3, none⟩ = false ∧ w.frozen? ⟨g, 4, none⟩ = false ∧ w.frozen? ⟨g, 5, none⟩ = false ∧ w.frozen? ⟨g, 6, none⟩ = false ∧ w.frozen? ⟨g, 7, none⟩ = false ∧ w.frozen? ⟨g, 8, none⟩ = false ∧ w.frozen? ⟨g, 9, none⟩ = false ∧ w.frozen? ⟨g, 10, none⟩ = false ∧ w.frozen? ⟨g, 11, none⟩ = false ∧ w.frozen? ⟨g, 12, none⟩ = false ∧ w.frozen? ⟨g, 13, none⟩ = false := ⟨h.free 0, h.free 1, h.free 2, h.free 3, h.free 4, h.free 5, h.free 6, h.free 7, h.free 8, h.free 9, h.free 10, h.free 11, h.free 12, h.free 13⟩
theorem VZ {w : World} {g : Nat} {T : TypeId} {c0 c1 c2 c3 c4 c5 c6 c7 c8 c9 c10 c11 c12 c13 c14 c15 c16 c17 : Value} (h : Row w g #[c0, c1, c2, c3, c4, c5, c6, c7, c8, c9, c10, c11, c12, c13, c14, c15, c16, c17] T) : w.cell? ⟨g, 0, none⟩ = some c0 ∧ w.cell? ⟨g, 1, none⟩ = some c1 ∧ w.cell? ⟨g, 2, none⟩ = some c2 ∧ w.cell? ⟨g, 3, none⟩ = some c3 ∧ w.cell? ⟨g, 4, none⟩ = some c4 ∧ w.cell? ⟨g, 5, none⟩ = some c5 ∧ w.cell? ⟨g, 6, none⟩ = some c6 ∧ w.cell? ⟨g, 7, none⟩ = some c7 ∧ w.cell? ⟨g, 8, none⟩ = some c8 ∧ w.cell? ⟨g, 9, none⟩ = some c9 ∧ w.cell? ⟨g, 10, none⟩ = some c10 ∧ w.cell? ⟨g, 11, none⟩ = some c11 ∧ w.cell? ⟨g, 12, none⟩ = some c12 ∧ w.cell? ⟨g, 13, none⟩ = some c13 ∧ w.cell? ⟨g, 14, none⟩ = some c14 ∧ w.cell? ⟨g, 15, none⟩ = some c15 ∧ w.cell? ⟨g, 16, none⟩ = some c16 ∧ w.cell? ⟨g, 17, none⟩ = some c17 := ⟨h.cell 0 rfl, h.cell 1 rfl, h.cell 2 rfl, h.cell 3 rfl, h.cell 4 rfl, h.cell 5 rfl, h.cell 6 rfl, h.cell 7 rfl, h.cell 8 rfl, h.cell 9 rfl, h.cell 10 rfl, h.cell 11 rfl, h.cell 12 rfl, h.cell 13 rfl, h.cell 14 rfl, h.cell 15 rfl, h.cell 16 rfl, h.cell 17 rfl⟩
theorem VW {w : World} {g : Nat} {T : TypeId} {cs : Array Value} (h : Row w g cs T) : w.frozen? ⟨g, 0, none⟩ = false ∧ w.frozen? ⟨g, 1, none⟩ = false ∧ w.frozen? ⟨g, 2, none⟩ = false ∧ w.frozen? ⟨g, 3, none⟩ = false ∧ w.frozen? ⟨g, 4, none⟩ = false ∧ w.frozen? ⟨g, 5, none⟩ = false ∧ w.frozen? ⟨g, 6, none⟩ = false ∧ w.frozen? ⟨g, 7, none⟩ = false ∧ w.frozen? ⟨g, 8, none⟩ = false ∧ w.frozen? ⟨g, 9, none⟩ = false ∧ w.frozen? ⟨g, 10, none⟩ = false ∧ w.frozen? ⟨g, 11, none⟩ = false ∧ w.frozen? ⟨g, 12, none⟩ = false ∧ w.frozen? ⟨g, 13, none⟩ = false ∧ w.frozen? ⟨g, 14, none⟩ = false ∧ w.frozen? ⟨g, 15, none⟩ = false ∧ w.frozen? ⟨g, 16, none⟩ = false ∧ w.frozen? ⟨g, 17, none⟩ = false := ⟨h.free 0, h.free 1, h.free 2, h.free 3, h.free 4, h.free 5, h.free 6, h.free 7, h.free 8, h.free 9, h.free 10, h.free 11, h.free 12, h.free 13, h.free 14, h.free 15, h.free 16, h.free 17⟩
structure Ta where
 (o : ByteArray)
 (r n : Int)
 deriving DecidableEq
structure Li where
 (m : Bool)
 (o y : ByteArray)
 (v r s : Int)
 deriving DecidableEq
structure Ce where
 (o : ByteArray)
 (r s t x z v : Int)
 (g : Bool)
 deriving DecidableEq
def Ta.cs (a : Ta) : List Value := [.string a.o, int i64 a.r, int i64 a.n]
def Li.cs (a : Li) : List Value := [.bool a.m, .string a.o, .string a.y, int i64 a.v, int i64 a.r, int i64 a.s]
def Ce.cs (a : Ce) : List Value := [.string a.o, int i64 a.r, int i64 a.s, int i64 a.t, int i64 a.x, int i64 a.z, int i64 a.v, .bool a.g]
def taV (l : List Ta) : List Value := (l.map Ta.cs).flatten
def liV (l : List Li) : List Value := (l.map Li.cs).flatten
def ceV (l : List Ce) : List Value := (l.map Ce.cs).flatten
def Yc (s : Nat) (rs : List (List Value)) : Prop := ∀ r ∈ rs, r.length = s
theorem Vp (l : List Ta) : Yc 3 (l.map Ta.cs) := by intro r h; obtain ⟨a, -, rfl⟩ := List.mem_map.1 h; rfl
theorem Vq (l : List Li) : Yc 6 (l.map Li.cs) := by intro r h; obtain ⟨a, -, rfl⟩ := List.mem_map.1 h; rfl
theorem Vs (l : List Ce) : Yc 8 (l.map Ce.cs) := by intro r h; obtain ⟨a, -, rfl⟩ := List.mem_map.1 h; rfl
theorem Uc {s : Nat} {rs : List (List Value)} (h : Yc s rs) : rs.flatten.length = rs.length * s := by
 induction rs with
 | nil => simp
 | cons r rs ih =>
  have h1 : r.length = s := h r (by simp)
  have h2 := ih (fun q hq => h q (by simp [hq]))
  simp only [List.flatten_cons, List.length_append, List.length_cons, h1, h2, Nat.add_mul, Nat.one_mul]
  omega
theorem Uq {s : Nat} {rs : List (List Value)} (h : Yc s rs) : ∀ (j : Nat) (hj : j < rs.length) (i : Nat) (hi : i < s), rs.flatten[j * s + i]? = (rs[j])[i]? := by
 induction rs with
 | nil => intro j hj; simp at hj
 | cons r rs ih =>
  intro j hj i hi
  have h1 : r.length = s := h r (by simp)
  have h2 := ih (fun q hq => h q (by simp [hq]))
  cases j with
  | zero => simp only [List.flatten_cons, Nat.zero_mul, Nat.zero_add, List.getElem_cons_zero]; rw [List.getElem?_append_left (by omega)]
  | succ j =>
   have hj' : j < rs.length := by simpa using hj
   have e : (j + 1) * s + i = r.length + (j * s + i) := by rw [h1, Nat.add_mul]; omega
   simp only [List.flatten_cons, List.getElem_cons_succ]
   rw [e, List.getElem?_append_right (by omega), show r.length + (j * s + i) - r.length = j * s + i by omega]
   exact h2 j hj' i hi
def Jir (w : World) (aa : Option Addr) (s : Nat) (rs : List (List Value)) : Prop :=
 0 < rs.length → ∃ g off, aa = some ⟨g, off, none⟩ ∧ g < w.heap.size ∧ ∀ j (h : j < rs.length) i x, (rs[j])[i]? = some x → w.cell? ⟨g, off + j * s + i, none⟩ = some x
def Flat (w : World) (v : Value) (s : Nat) (rs : List (List Value)) : Prop :=
 ∃ (aa : Option Addr) (ca : Nat), v = .slice aa rs.length ca ∧ Jir w aa s rs
theorem Flat.own {w : World} {B n s : Nat} {e : TypeId} {v : Value} {rs : List (List Value)} (hw : Yc s rs) (hl : rs.length = n) (h : w.ownsRow B e s v n rs.flatten) : Flat w v s rs := by
 subst hl
 rcases h.2 with ⟨rfl, h0⟩ | ⟨g, cap, cur, rfl, hb, hg, -, -, -, -⟩
 ·exact ⟨none, 0, by rw [h0], fun h => by omega⟩
 ·refine ⟨_, _, rfl, fun _ => ⟨g, 0, rfl, (Array.getElem?_eq_some_iff.1 hg).1, fun j hj i x hx => ?_⟩⟩
  have hi : i < s := by
   have h1 : (rs[j]).length = s := hw _ (List.getElem_mem hj)
   have := (List.getElem?_eq_some_iff.1 hx).1
   omega
  have h1 := h.cells (g := g) rfl (j * s + i) x (by rw [Uq hw j hj i hi]; exact hx)
  rw [KF] at h1
  rw [show 0 + j * s + i = j * s + i by omega]
  exact h1
def taC (w : World) (g k : Nat) (a : Ta) : Prop := w.cell? ⟨g, k, none⟩ = some (.string a.o) ∧ w.cell? ⟨g, k + 1, none⟩ = some (int i64 a.r) ∧ w.cell? ⟨g, k + 2, none⟩ = some (int i64 a.n)
def liC (w : World) (g k : Nat) (a : Li) : Prop := w.cell? ⟨g, k, none⟩ = some (.bool a.m) ∧ w.cell? ⟨g, k + 1, none⟩ = some (.string a.o) ∧ w.cell? ⟨g, k + 2, none⟩ = some (.string a.y) ∧ w.cell? ⟨g, k + 3, none⟩ = some (int i64 a.v) ∧ w.cell? ⟨g, k + 4, none⟩ = some (int i64 a.r) ∧ w.cell? ⟨g, k + 5, none⟩ = some (int i64 a.s)
def ceC (w : World) (g k : Nat) (a : Ce) : Prop := w.cell? ⟨g, k, none⟩ = some (.string a.o) ∧ w.cell? ⟨g, k + 1, none⟩ = some (int i64 a.r) ∧ w.cell? ⟨g, k + 2, none⟩ = some (int i64 a.s) ∧ w.cell? ⟨g, k + 3, none⟩ = some (int i64 a.t) ∧ w.cell? ⟨g, k + 4, none⟩ = some (int i64 a.x) ∧ w.cell? ⟨g, k + 5, none⟩ = some (int i64 a.z) ∧ w.cell? ⟨g, k + 6, none⟩ = some (int i64 a.v) ∧ w.cell? ⟨g, k + 7, none⟩ = some (.bool a.g)
theorem JG {w w' : World} {B g k : Nat} (hb : Below B w w') (hg : g < B) : w'.cell? ⟨g, k, none⟩ = w.cell? ⟨g, k, none⟩ := hb.cell (p := ⟨g, k, none⟩) hg
theorem taC.below {w w' : World} {B g k : Nat} {a : Ta} (h : taC w g k a) (hb : Below B w w') (hg : g < B) : taC w' g k a := by
 obtain ⟨h0, h1, h2⟩ := h
 exact ⟨(JG hb hg).trans h0, (JG hb hg).trans h1, (JG hb hg).trans h2⟩
theorem liC.below {w w' : World} {B g k : Nat} {a : Li} (h : liC w g k a) (hb : Below B w w') (hg : g < B) : liC w' g k a := by
 obtain ⟨h0, h1, h2, h3, h4, h5⟩ := h
 exact ⟨(JG hb hg).trans h0, (JG hb hg).trans h1, (JG hb hg).trans h2, (JG hb hg).trans h3, (JG hb hg).trans h4, (JG hb hg).trans h5⟩
theorem ceC.below {w w' : World} {B g k : Nat} {a : Ce} (h : ceC w g k a) (hb : Below B w w') (hg : g < B) : ceC w' g k a := by
 obtain ⟨h0, h1, h2, h3, h4, h5, h6, h7⟩ := h
 exact ⟨(JG hb hg).trans h0, (JG hb hg).trans h1, (JG hb hg).trans h2, (JG hb hg).trans h3, (JG hb hg).trans h4, (JG hb hg).trans h5, (JG hb hg).trans h6, (JG hb hg).trans h7⟩
def TaG (w : World) (aa : Option Addr) (l : List Ta) : Prop := 0 < l.length → ∃ g off, aa = some ⟨g, off, none⟩ ∧ g < w.heap.size ∧ ∀ j (h : j < l.length), taC w g (off + j * 3) l[j]
def LiG (w : World) (aa : Option Addr) (l : List Li) : Prop := 0 < l.length → ∃ g off, aa = some ⟨g, off, none⟩ ∧ g < w.heap.size ∧ ∀ j (h : j < l.length), liC w g (off + j * 6) l[j]
def CeG (w : World) (aa : Option Addr) (l : List Ce) : Prop := 0 < l.length → ∃ g off, aa = some ⟨g, off, none⟩ ∧ g < w.heap.size ∧ ∀ j (h : j < l.length), ceC w g (off + j * 8) l[j]
def TaAt (w : World) (v : Value) (l : List Ta) : Prop := ∃ (aa : Option Addr) (ca : Nat), v = .slice aa l.length ca ∧ TaG w aa l
def LiAt (w : World) (v : Value) (l : List Li) : Prop := ∃ (aa : Option Addr) (ca : Nat), v = .slice aa l.length ca ∧ LiG w aa l
def CeAt (w : World) (v : Value) (l : List Ce) : Prop := ∃ (aa : Option Addr) (ca : Nat), v = .slice aa l.length ca ∧ CeG w aa l
theorem TaAt.of {w : World} {v : Value} {l : List Ta} (h : Flat w v 3 (l.map Ta.cs)) : TaAt w v l := by
 obtain ⟨aa, ca, rfl, hg⟩ := h
 refine ⟨aa, ca, by simp, fun h0 => ?_⟩
 obtain ⟨g, off, rfl, h1, h2⟩ := hg (by simpa using h0)
 refine ⟨g, off, rfl, h1, fun j hj => ?_⟩
 have hq := h2 j (by simpa using hj)
 rw [List.getElem_map] at hq
 exact ⟨hq 0 _ rfl, hq 1 _ rfl, hq 2 _ rfl⟩
theorem LiAt.of {w : World} {v : Value} {l : List Li} (h : Flat w v 6 (l.map Li.cs)) : LiAt w v l := by
 obtain ⟨aa, ca, rfl, hg⟩ := h
 refine ⟨aa, ca, by simp, fun h0 => ?_⟩
 obtain ⟨g, off, rfl, h1, h2⟩ := hg (by simpa using h0)
 refine ⟨g, off, rfl, h1, fun j hj => ?_⟩
 have hq := h2 j (by simpa using hj)
 rw [List.getElem_map] at hq
 exact ⟨hq 0 _ rfl, hq 1 _ rfl, hq 2 _ rfl, hq 3 _ rfl, hq 4 _ rfl, hq 5 _ rfl⟩
theorem CeAt.of {w : World} {v : Value} {l : List Ce} (h : Flat w v 8 (l.map Ce.cs)) : CeAt w v l := by
 obtain ⟨aa, ca, rfl, hg⟩ := h
 refine ⟨aa, ca, by simp, fun h0 => ?_⟩
 obtain ⟨g, off, rfl, h1, h2⟩ := hg (by simpa using h0)
 refine ⟨g, off, rfl, h1, fun j hj => ?_⟩
 have hq := h2 j (by simpa using hj)
 rw [List.getElem_map] at hq
 exact ⟨hq 0 _ rfl, hq 1 _ rfl, hq 2 _ rfl, hq 3 _ rfl, hq 4 _ rfl, hq 5 _ rfl, hq 6 _ rfl, hq 7 _ rfl⟩
theorem TaAt.own {w : World} {B n : Nat} {e : TypeId} {v : Value} {l : List Ta} (h : w.ownsRow B e 3 v n (taV l)) (hl : l.length = n) : TaAt w v l := TaAt.of (Flat.own (Vp l) (by simpa using hl) h)
theorem LiAt.own {w : World} {B n : Nat} {e : TypeId} {v : Value} {l : List Li} (h : w.ownsRow B e 6 v n (liV l)) (hl : l.length = n) : LiAt w v l := LiAt.of (Flat.own (Vq l) (by simpa using hl) h)
theorem CeAt.own {w : World} {B n : Nat} {e : TypeId} {v : Value} {l : List Ce} (h : w.ownsRow B e 8 v n (ceV l)) (hl : l.length = n) : CeAt w v l := CeAt.of (Flat.own (Vs l) (by simpa using hl) h)
theorem TaAt.below {w w' : World} {v : Value} {l : List Ta} (h : TaAt w v l) (hb : Below w.heap.size w w') : TaAt w' v l := by
 obtain ⟨aa, ca, rfl, hg⟩ := h
 refine ⟨aa, ca, rfl, fun h0 => ?_⟩
 obtain ⟨g, off, rfl, h1, h2⟩ := hg h0
 exact ⟨g, off, rfl, Nat.lt_of_lt_of_le h1 hb.size, fun j hj => (h2 j hj).below hb h1⟩
theorem LiAt.below {w w' : World} {v : Value} {l : List Li} (h : LiAt w v l) (hb : Below w.heap.size w w') : LiAt w' v l := by
 obtain ⟨aa, ca, rfl, hg⟩ := h
 refine ⟨aa, ca, rfl, fun h0 => ?_⟩
 obtain ⟨g, off, rfl, h1, h2⟩ := hg h0
 exact ⟨g, off, rfl, Nat.lt_of_lt_of_le h1 hb.size, fun j hj => (h2 j hj).below hb h1⟩
theorem CeAt.below {w w' : World} {v : Value} {l : List Ce} (h : CeAt w v l) (hb : Below w.heap.size w w') : CeAt w' v l := by
 obtain ⟨aa, ca, rfl, hg⟩ := h
 refine ⟨aa, ca, rfl, fun h0 => ?_⟩
 obtain ⟨g, off, rfl, h1, h2⟩ := hg h0
 exact ⟨g, off, rfl, Nat.lt_of_lt_of_le h1 hb.size, fun j hj => (h2 j hj).below hb h1⟩
theorem TaAt.alloc {w : World} {v : Value} {l : List Ta} (h : TaAt w v l) (o : Obj) : TaAt (w.alloc o) v l := h.below ((Below.refl _ _).alloc (Nat.le_refl _) _)
theorem LiAt.alloc {w : World} {v : Value} {l : List Li} (h : LiAt w v l) (o : Obj) : LiAt (w.alloc o) v l := h.below ((Below.refl _ _).alloc (Nat.le_refl _) _)
theorem CeAt.alloc {w : World} {v : Value} {l : List Ce} (h : CeAt w v l) (o : Obj) : CeAt (w.alloc o) v l := h.below ((Below.refl _ _).alloc (Nat.le_refl _) _)
structure Sta where
 (l : List Int)
 (T : List Ta)
 (L : List Li)
 (C : List Ce)
 deriving DecidableEq
theorem Row.four {w : World} {g : Nat} {T : TypeId} {c0 c1 c2 c3 : Value} (h : Row w g #[c0, c1, c2, c3] T) :
  w.cell? ⟨g, 0, none⟩ = some c0 ∧ w.cell? ⟨g, 1, none⟩ = some c1 ∧ w.cell? ⟨g, 2, none⟩ = some c2 ∧ w.cell? ⟨g, 3, none⟩ = some c3 := ⟨h.cell 0 rfl, h.cell 1 rfl, h.cell 2 rfl, h.cell 3 rfl⟩
theorem Ja6 {va vb : Value} {l m : List Int} (hn : l.length ≤ 1048576) (hm : m.length ≤ 1048576) (w : World) (ha : IntsAt w va l) (hb : IntsAt w vb m) :
  Calls Tryz.prog 72 #[va, vb] w fun e w' => e = .returned (.bool (decide (l = m))) ∧ Below w.heap.size w w' := by
 obtain ⟨aa, ca, rfl, ga⟩ := ha
 obtain ⟨ab, cb, rfl, gb⟩ := hb
 have HGA : Hid (0 < l.length → ∃ g, aa = some ⟨g, 0, none⟩ ∧ g < w.heap.size ∧ ∀ j (h : j < l.length), w.cell? ⟨g, j, none⟩ = some (int i64 (l[j]))) := ga
 have HGB : Hid (0 < m.length → ∃ g, ab = some ⟨g, 0, none⟩ ∧ g < w.heap.size ∧ ∀ j (h : j < m.length), w.cell? ⟨g, j, none⟩ = some (int i64 (m[j]))) := gb
 obtain ⟨q, hq⟩ : ∃ q, q = decide (l = m) := ⟨_, rfl⟩
 rw [← hq]
 have HNO : Hid (¬ l = m → q = false) := fun h => by rw [hq]; exact decide_eq_false h
 have HYES : Hid (l = m → q = true) := fun h => by rw [hq]; exact decide_eq_true h
 clear hq
 by_cases hlm : l.length = m.length
 ·obtain ⟨n, hl⟩ : ∃ n, n = l.length := ⟨_, rfl⟩
  rw [← hlm, ← hl]
  rw [← hl] at hn
  have HL : Hid (n = l.length) := hl
  have HM : Hid (n = m.length) := hl.trans hlm
  have hnn : ((n : Int) != n) = false := by simp
  clear ga gb hl hlm hm
  go_enter Tryz.func72, Tryz.ntmps72
  go_wp2
  go_loopw [13] (fun z wr => ∃ k : Nat, k ≤ n ∧ z = int i64 k ∧ l.take k = m.take k ∧ Below w.heap.size w wr) (fun z _ => n - (intOf z).toNat)
  case atStart => exact ⟨0, Nat.zero_le _, rfl, rfl, Below.refl _ _⟩
  case round =>
   obtain ⟨k, hk, rfl, htk, hbel⟩ := hrel
   have HTK : Hid (l.take k = m.take k) := htk
   clear htk
   by_cases hlt : k < n
   ·have hkl : k < l.length := by rw [← HL.out]; exact hlt
    have hkm : k < m.length := by rw [← HM.out]; exact hlt
    obtain ⟨g1, rfl, hg1, ho1⟩ := HGA.out (by omega)
    obtain ⟨g2, rfl, hg2, ho2⟩ := HGB.out (by omega)
    have hc1 : wr.cell? ⟨g1, k, none⟩ = some (int i64 (l[k])) := (hbel.cell (p := ⟨g1, k, none⟩) hg1).trans (ho1 k hkl)
    have hc2 : wr.cell? ⟨g2, k, none⟩ = some (int i64 (m[k])) := (hbel.cell (p := ⟨g2, k, none⟩) hg2).trans (ho2 k hkm)
    have hk1 : (k : Int) < n := by omega
    have hk0 : (0 : Int) ≤ k := by omega
    by_cases hxy : l[k] = m[k]
    ·have HT : Hid (l.take (k + 1) = m.take (k + 1)) := by
      show _ = _
      rw [List.take_succ_eq_append_getElem hkl, List.take_succ_eq_append_getElem hkm, HTK.out, hxy]
     rw [hxy] at hc1
     generalize m[k] = x at *
     clear ho1 ho2 hkl hkm hxy
     go_wp2
     go_quiet (fail)
     have hbq := Jh hbel nq
     clear hc1 hc2 hbel
     generalize wr.drewN nq = wq at *
     go_wp2
     go_roundw
     case rel => exact ⟨k + 1, by omega, by go_num, HT.out, hbq⟩
     case measure => simp [intOf]; omega
    ·obtain rfl : q = false := HNO.out (fun h => hxy (by subst h; rfl))
     have hne : (l[k] != m[k]) = true := by simp [hxy]
     generalize m[k] = y at *
     generalize l[k] = x at *
     clear ho1 ho2 hkl hkm
     go_wp2
     go_quiet (fail)
     have hbq := Jh hbel nq
     clear hc1 hc2 hbel
     generalize wr.drewN nq = wq at *
     go_wp2
     go_ret
     exact ⟨rfl, hbq⟩
   ·have hk1 : ¬ ((k : Int) < n) := by omega
    obtain rfl : q = true := HYES.out (by
     have := HTK.out
     have h1 := HL.out
     have h2 := HM.out
     rwa [List.take_of_length_le (by omega), List.take_of_length_le (by omega)] at this)
    go_wp2
    go_ret
    exact ⟨rfl, hbel⟩
 ·obtain rfl : q = false := HNO.out (fun h => hlm (by rw [h]))
  have hnn : ((l.length : Int) != m.length) = true := by simp; omega
  go_enter Tryz.func72, Tryz.ntmps72
  go_wp2
  go_ret
  exact ⟨rfl, Below.refl _ _⟩
theorem U7 {va vb : Value} {l m : List Int} (hn : l.length ≤ 1048576) (hm : m.length ≤ 1048576) (w : World) (ha : IntsAt w va l) (hb : IntsAt w vb m) :
  Calls Tryz.prog 76 #[va, vb] w fun e w' => e = .returned (.bool (decide (l = m))) ∧ Below w.heap.size w w' := by
 obtain ⟨aa, ca, rfl, ga⟩ := ha
 obtain ⟨ab, cb, rfl, gb⟩ := hb
 have HGA : Hid (0 < l.length → ∃ g, aa = some ⟨g, 0, none⟩ ∧ g < w.heap.size ∧ ∀ j (h : j < l.length), w.cell? ⟨g, j, none⟩ = some (int i64 (l[j]))) := ga
 have HGB : Hid (0 < m.length → ∃ g, ab = some ⟨g, 0, none⟩ ∧ g < w.heap.size ∧ ∀ j (h : j < m.length), w.cell? ⟨g, j, none⟩ = some (int i64 (m[j]))) := gb
 obtain ⟨q, hq⟩ : ∃ q, q = decide (l = m) := ⟨_, rfl⟩
 rw [← hq]
 have HNO : Hid (¬ l = m → q = false) := fun h => by rw [hq]; exact decide_eq_false h
 have HYES : Hid (l = m → q = true) := fun h => by rw [hq]; exact decide_eq_true h
 clear hq
 by_cases hlm : l.length = m.length
 ·obtain ⟨n, hl⟩ : ∃ n, n = l.length := ⟨_, rfl⟩
  rw [← hlm, ← hl]
  rw [← hl] at hn
  have HL : Hid (n = l.length) := hl
  have HM : Hid (n = m.length) := hl.trans hlm
  have hnn : ((n : Int) != n) = false := by simp
  clear ga gb hl hlm hm
  go_enter Tryz.func76, Tryz.ntmps76
  go_wp2
  go_loopw [5] (fun z wr => ∃ k : Nat, k ≤ n ∧ z = int i64 k ∧ l.take k = m.take k ∧ Below w.heap.size w wr) (fun z _ => n - (intOf z).toNat)
  case atStart => exact ⟨0, Nat.zero_le _, rfl, rfl, Below.refl _ _⟩
  case round =>
   obtain ⟨k, hk, rfl, htk, hbel⟩ := hrel
   have HTK : Hid (l.take k = m.take k) := htk
   clear htk
   by_cases hlt : k < n
   ·have hkl : k < l.length := by rw [← HL.out]; exact hlt
    have hkm : k < m.length := by rw [← HM.out]; exact hlt
    obtain ⟨g1, rfl, hg1, ho1⟩ := HGA.out (by omega)
    obtain ⟨g2, rfl, hg2, ho2⟩ := HGB.out (by omega)
    have hc1 : wr.cell? ⟨g1, k, none⟩ = some (int i64 (l[k])) := (hbel.cell (p := ⟨g1, k, none⟩) hg1).trans (ho1 k hkl)
    have hc2 : wr.cell? ⟨g2, k, none⟩ = some (int i64 (m[k])) := (hbel.cell (p := ⟨g2, k, none⟩) hg2).trans (ho2 k hkm)
    have hk1 : (k : Int) < n := by omega
    have hk0 : (0 : Int) ≤ k := by omega
    by_cases hxy : l[k] = m[k]
    ·have HT : Hid (l.take (k + 1) = m.take (k + 1)) := by
      show _ = _
      rw [List.take_succ_eq_append_getElem hkl, List.take_succ_eq_append_getElem hkm, HTK.out, hxy]
     rw [hxy] at hc1
     generalize m[k] = x at *
     clear ho1 ho2 hkl hkm hxy
     go_wp2
     go_quiet (fail)
     have hbq := Jh hbel nq
     clear hc1 hc2 hbel
     generalize wr.drewN nq = wq at *
     go_wp2
     go_roundw
     case rel => exact ⟨k + 1, by omega, by go_num, HT.out, hbq⟩
     case measure => simp [intOf]; omega
    ·obtain rfl : q = false := HNO.out (fun h => hxy (by subst h; rfl))
     have hne : (l[k] != m[k]) = true := by simp [hxy]
     generalize m[k] = y at *
     generalize l[k] = x at *
     clear ho1 ho2 hkl hkm
     go_wp2
     go_quiet (fail)
     have hbq := Jh hbel nq
     clear hc1 hc2 hbel
     generalize wr.drewN nq = wq at *
     go_wp2
     go_ret
     exact ⟨rfl, hbq⟩
   ·have hk1 : ¬ ((k : Int) < n) := by omega
    obtain rfl : q = true := HYES.out (by
     have := HTK.out
     have h1 := HL.out
     have h2 := HM.out
     rwa [List.take_of_length_le (by omega), List.take_of_length_le (by omega)] at this)
    go_wp2
    go_ret
    exact ⟨rfl, hbel⟩
 ·obtain rfl : q = false := HNO.out (fun h => hlm (by rw [h]))
  have hnn : ((l.length : Int) != m.length) = true := by simp; omega
  go_enter Tryz.func76, Tryz.ntmps76
  go_wp2
  go_ret
  exact ⟨rfl, Below.refl _ _⟩
theorem Kx (a b : ByteArray) (h : a = b) : (a.toList == b.toList) = true := by simp [h]
theorem Ze (a b : ByteArray) (h : ¬ a = b) : (a.toList == b.toList) = false := by
 rw [ByteArray.toList_eq, ByteArray.toList_eq]
 simp only [beq_eq_false_iff_ne, ne_eq]
 intro h'
 exact h (ByteArray.ext (Array.ext' h'))
theorem ZJ : (Tryz.prog.info? 38).map (fun i => (i.zero, i.size, i.bytes)) = some (some (.agg #[.string ⟨#[]⟩, int i64 0, int i64 0]), 3, 32) := by kernel_rfl
def zTa : Ta := ⟨⟨#[]⟩, 0, 0⟩
theorem Row.li0 {w : World} {g : Nat} {T : TypeId} {c0 c1 c2 c3 c4 c5 : Value} (h : Row w g #[c0, c1, c2, c3, c4, c5] T) (x : Value) : Row (w.setCell ⟨g, 0, none⟩ x) g #[x, c1, c2, c3, c4, c5] T := h.set 0 x
theorem Row.li1 {w : World} {g : Nat} {T : TypeId} {c0 c1 c2 c3 c4 c5 : Value} (h : Row w g #[c0, c1, c2, c3, c4, c5] T) (x : Value) : Row (w.setCell ⟨g, 1, none⟩ x) g #[c0, x, c2, c3, c4, c5] T := h.set 1 x
theorem Row.li2 {w : World} {g : Nat} {T : TypeId} {c0 c1 c2 c3 c4 c5 : Value} (h : Row w g #[c0, c1, c2, c3, c4, c5] T) (x : Value) : Row (w.setCell ⟨g, 2, none⟩ x) g #[c0, c1, x, c3, c4, c5] T := h.set 2 x
theorem Row.li3 {w : World} {g : Nat} {T : TypeId} {c0 c1 c2 c3 c4 c5 : Value} (h : Row w g #[c0, c1, c2, c3, c4, c5] T) (x : Value) : Row (w.setCell ⟨g, 3, none⟩ x) g #[c0, c1, c2, x, c4, c5] T := h.set 3 x
theorem Row.li4 {w : World} {g : Nat} {T : TypeId} {c0 c1 c2 c3 c4 c5 : Value} (h : Row w g #[c0, c1, c2, c3, c4, c5] T) (x : Value) : Row (w.setCell ⟨g, 4, none⟩ x) g #[c0, c1, c2, c3, x, c5] T := h.set 4 x
theorem Row.li5 {w : World} {g : Nat} {T : TypeId} {c0 c1 c2 c3 c4 c5 : Value} (h : Row w g #[c0, c1, c2, c3, c4, c5] T) (x : Value) : Row (w.setCell ⟨g, 5, none⟩ x) g #[c0, c1, c2, c3, c4, x] T := h.set 5 x
theorem KJ : (Tryz.prog.info? 40).map (fun i => (i.zero, i.size, i.bytes)) = some (some (.agg #[.bool false, .string ⟨#[]⟩, .string ⟨#[]⟩, int i64 0, int i64 0, int i64 0]), 6, 64) := by kernel_rfl
def zLi : Li := ⟨false, ⟨#[]⟩, ⟨#[]⟩, 0, 0, 0⟩
theorem Gs : (Tryz.prog.info? 35).map (fun i => (i.zero, i.size, i.bytes)) = some (some (.agg #[.string ⟨#[]⟩, int i64 0, int i64 0, int i64 0, int i64 0, int i64 0, int i64 0, .bool false]), 8, 72) := by kernel_rfl
def zCe : Ce := ⟨⟨#[]⟩, 0, 0, 0, 0, 0, 0, false⟩
def StAt (w : World) (S : Sta) (u0 u1 u2 u3 : Value) : Prop := IntsAt w u0 S.l ∧ TaAt w u1 S.T ∧ LiAt w u2 S.L ∧ CeAt w u3 S.C
theorem StAt.below {w w' : World} {S : Sta} {u0 u1 u2 u3 : Value} (h : StAt w S u0 u1 u2 u3) (hb : Below w.heap.size w w') : StAt w' S u0 u1 u2 u3 := ⟨h.1.below hb, h.2.1.below hb, h.2.2.1.below hb, h.2.2.2.below hb⟩
theorem StAt.alloc {w : World} {S : Sta} {u0 u1 u2 u3 : Value} (h : StAt w S u0 u1 u2 u3) (o : Obj) : StAt (w.alloc o) S u0 u1 u2 u3 := h.below ((Below.refl _ _).alloc (Nat.le_refl _) _)
theorem StAt.shape {w : World} {S : Sta} {u0 u1 u2 u3 : Value} (h : StAt w S u0 u1 u2 u3) : ∃ a0 c0 a1 c1 a2 c2 a3 c3, u0 = .slice a0 S.l.length c0 ∧ u1 = .slice a1 S.T.length c1 ∧ u2 = .slice a2 S.L.length c2 ∧ u3 = .slice a3 S.C.length c3 := by
 obtain ⟨⟨a0, c0, rfl, -⟩, ⟨a1, c1, rfl, -⟩, ⟨a2, c2, rfl, -⟩, ⟨a3, c3, rfl, -⟩⟩ := h
 exact ⟨a0, c0, a1, c1, a2, c2, a3, c3, rfl, rfl, rfl, rfl⟩
theorem Row.st0 {w : World} {g : Nat} {T : TypeId} {c0 c1 c2 c3 : Value} (h : Row w g #[c0, c1, c2, c3] T) (x : Value) : Row (w.setCell ⟨g, 0, none⟩ x) g #[x, c1, c2, c3] T := h.set 0 x
theorem Row.st1 {w : World} {g : Nat} {T : TypeId} {c0 c1 c2 c3 : Value} (h : Row w g #[c0, c1, c2, c3] T) (x : Value) : Row (w.setCell ⟨g, 1, none⟩ x) g #[c0, x, c2, c3] T := h.set 1 x
theorem Row.st2 {w : World} {g : Nat} {T : TypeId} {c0 c1 c2 c3 : Value} (h : Row w g #[c0, c1, c2, c3] T) (x : Value) : Row (w.setCell ⟨g, 2, none⟩ x) g #[c0, c1, x, c3] T := h.set 2 x
theorem Row.st3 {w : World} {g : Nat} {T : TypeId} {c0 c1 c2 c3 : Value} (h : Row w g #[c0, c1, c2, c3] T) (x : Value) : Row (w.setCell ⟨g, 3, none⟩ x) g #[c0, c1, c2, x] T := h.set 3 x
theorem Kf {fn : Func} {p : Tmp} (h : fn.results = #[.cell p 29]) {tmps : Array Value} {w : World} {g : Nat} {cs : Array Value} (hc : cs.size = 4) (hp : tmps.getD p undef = .pointer (some ⟨g, 0, none⟩)) (hg : Row w g cs 29) :
  (results fn tmps).run Tryz.prog w = .ok (.agg cs) w := results_cell_row h tmps w g 29 _ (0, 0) _ hp hg Tryz.underlying29 rfl (by rw [hc]; kernel_rfl)
def JaF : Array Value := #[.slice none 0 0, .slice none 0 0, .slice none 0 0, .slice none 0 0]
def cellAt : List Ce → Int → Int → Int → Int
 | [], _, _, _ => -1
 | c :: l, r, s, k => if c.r = r ∧ c.s = s then k else cellAt l r s (k + 1)
theorem JbG (l : List Ce) (r s : Int) (k : Nat) (h : k < l.length) : cellAt (l.drop k) r s k = if l[k].r = r ∧ l[k].s = s then (k : Int) else cellAt (l.drop (k + 1)) r s (k + 1 : Nat) := by
 rw [List.drop_eq_getElem_cons h]; show (if _ then _ else _) = _; rfl
def GE (k : Int) (y : ByteArray) : Prop := if 2 ≤ k ∧ k ≤ 5 then NOk y else y.toList.isEmpty = true
instance (k : Int) (y : ByteArray) : Decidable (GE k y) := by unfold GE; infer_instance
def UD (k v : Int) : Prop := if k = 1 ∨ k = 4 ∨ k = 6 then 0 ≤ v ∧ v ≤ 999999 else v = 0
instance (k v : Int) : Decidable (UD k v) := by unfold UD; infer_instance
def KN (l : List Int) (k x z : Int) : Prop := if k = 7 then Jd l x z = true else if k = 6 then (x = 0 ∧ z = 0) ∨ Jd l x z = true else x = 0 ∧ z = 0
instance (l : List Int) (k x z : Int) : Decidable (KN l k x z) := by unfold KN; infer_instance
def J6 (k : Int) (o y : ByteArray) (v : Int) : Prop := (1 ≤ k ∧ k ≤ 7) ∧ NOk o ∧ GE k y ∧ UD k v
instance (k : Int) (o y : ByteArray) (v : Int) : Decidable (J6 k o y v) := by unfold J6; infer_instance
theorem J5 (k : Int) (w : World) : Calls Tryz.prog 190 #[int i64 k] w fun e w' => e = .returned (.bool (decide (2 ≤ k) && decide (k ≤ 5))) ∧ w' = w := by
 go_enter Tryz.func190, Tryz.ntmps190
 go_wp2_with (go_at_call 126; refine (JD _ _ _ _).mono ?_; rintro e w1 ⟨rfl, rfl⟩)
 go_ret
 exact ⟨rfl, rfl⟩
theorem JV (k : Int) (w : World) : Calls Tryz.prog 191 #[int i64 k] w fun e w' => e = .returned (.bool (decide (k = 1 ∨ k = 4 ∨ k = 6))) ∧ w' = w := by
 by_cases h1 : k = 1
 ·subst h1
  go_enter Tryz.func191, Tryz.ntmps191
  go_wp2
  go_ret
  exact ⟨rfl, rfl⟩
 by_cases h4 : k = 4
 ·subst h4
  go_enter Tryz.func191, Tryz.ntmps191
  go_wp2
  go_ret
  exact ⟨rfl, rfl⟩
 by_cases h6 : k = 6
 ·subst h6
  go_enter Tryz.func191, Tryz.ntmps191
  go_wp2
  go_ret
  exact ⟨rfl, rfl⟩
 ·have e : decide (k = 1 ∨ k = 4 ∨ k = 6) = false := by simp [h1, h4, h6]
  rw [e]
  have HE : Hid ((k == 1 || k == 4 || k == 6) = false) := by show _ = _; simp [h1, h4, h6]
  go_enter Tryz.func191, Tryz.ntmps191
  go_wp2
  go_ret
  exact ⟨by show Ending.returned (.bool (k == 1 || k == 4 || k == 6)) = _; rw [HE.out], rfl⟩
theorem Kv (v : Int) (w : World) : Calls Tryz.prog 328 #[int i64 v] w fun e w' => e = .returned (.bool (decide (0 ≤ v ∧ v ≤ 999999))) ∧ w' = w := by
 by_cases h0 : 0 ≤ v
 ·have e : decide (0 ≤ v ∧ v ≤ 999999) = decide (v ≤ 999999) := by simp [h0]
  rw [e]
  clear e
  go_enter Tryz.func328, Tryz.ntmps328
  go_wp2
  go_ret
  exact ⟨rfl, rfl⟩
 ·have e : decide (0 ≤ v ∧ v ≤ 999999) = false := by simp [h0]
  rw [e]
  clear e
  go_enter Tryz.func328, Tryz.ntmps328
  go_wp2
  go_ret
  exact ⟨rfl, rfl⟩
theorem Jaw (t : Int) (w : World) : Calls Tryz.prog 329 #[int i64 t] w fun e w' => e = .returned (.bool (decide (1 ≤ t ∧ t ≤ 10000))) ∧ w' = w := by
 by_cases h0 : 1 ≤ t
 ·have e : decide (1 ≤ t ∧ t ≤ 10000) = decide (t ≤ 10000) := by simp [h0]
  rw [e]
  clear e
  go_enter Tryz.func329, Tryz.ntmps329
  go_wp2
  go_ret
  exact ⟨rfl, rfl⟩
 ·have e : decide (1 ≤ t ∧ t ≤ 10000) = false := by simp [h0]
  rw [e]
  clear e
  go_enter Tryz.func329, Tryz.ntmps329
  go_wp2
  go_ret
  exact ⟨rfl, rfl⟩
theorem Zh (a b : Int) (wx : World) : (Op.equalIn 10000 33 (.agg #[int i64 a, int i64 b]) (.agg #[int i64 0, int i64 0])).run Tryz.prog wx = .ok (decide (a = 0 ∧ b = 0)) wx := by
 rw [GG]
 have : (decide (a = 0) && decide (b = 0)) = decide (a = 0 ∧ b = 0) := by by_cases h1 : a = 0 <;> by_cases h2 : b = 0 <;> simp [h1, h2]
 rw [this]
theorem Gb (k : Int) (o y : ByteArray) (v : Int) (ho : o.size ≤ maxLen) (hy : y.size ≤ maxLen) (w : World) :
  Calls Tryz.prog 192 #[int i64 k, .string o, .string y, int i64 v] w fun e w' => e = .returned (.bool (decide (J6 k o y v))) ∧ w' = w := by
 obtain ⟨bo, hbo⟩ : ∃ b, b = decide (NOk o) := ⟨_, rfl⟩
 obtain ⟨by', hby⟩ : ∃ b, b = decide (NOk y) := ⟨_, rfl⟩
 obtain ⟨bi, hbi⟩ : ∃ b, b = (decide (1 ≤ k) && decide (k ≤ 7)) := ⟨_, rfl⟩
 obtain ⟨bk, hbk⟩ : ∃ b, b = (decide (2 ≤ k) && decide (k ≤ 5)) := ⟨_, rfl⟩
 obtain ⟨bv, hbv⟩ : ∃ b, b = decide (k = 1 ∨ k = 4 ∨ k = 6) := ⟨_, rfl⟩
 obtain ⟨bj, hbj⟩ : ∃ b, b = (decide (0 ≤ v) && decide (v ≤ 999999)) := ⟨_, rfl⟩
 obtain ⟨be, hbe⟩ : ∃ b, b = y.toList.isEmpty := ⟨_, rfl⟩
 have HNO : Hid (∀ wx, Calls Tryz.prog 127 #[.string o] wx fun e w' => e = .returned (.bool bo) ∧ w' = wx) := fun wx => by rw [hbo]; exact JS o ho wx
 have HNY : Hid (∀ wx, Calls Tryz.prog 127 #[.string y] wx fun e w' => e = .returned (.bool by') ∧ w' = wx) := fun wx => by rw [hby]; exact JS y hy wx
 have HI : Hid (∀ wx, Calls Tryz.prog 126 #[int i64 k, int i64 1, int i64 7] wx fun e w' => e = .returned (.bool bi) ∧ w' = wx) := fun wx => by rw [hbi]; exact JD k 1 7 wx
 have HJ : Hid (∀ wx, Calls Tryz.prog 126 #[int i64 v, int i64 0, int i64 999999] wx fun e w' => e = .returned (.bool bj) ∧ w' = wx) := fun wx => by rw [hbj]; exact JD v 0 999999 wx
 have HK : Hid (∀ wx, Calls Tryz.prog 190 #[int i64 k] wx fun e w' => e = .returned (.bool bk) ∧ w' = wx) := fun wx => by rw [hbk]; exact J5 k wx
 have HV : Hid (∀ wx, Calls Tryz.prog 191 #[int i64 k] wx fun e w' => e = .returned (.bool bv) ∧ w' = wx) := fun wx => by rw [hbv]; exact JV k wx
 obtain ⟨q, hq⟩ : ∃ q, q = decide (J6 k o y v) := ⟨_, rfl⟩
 rw [← hq]
 have HQ : Hid (q = (bi && bo && (if bk then by' else be) && (decide (v = 0) || bv && bj))) := by
  show _ = _
  have e1 : decide (GE k y) = (if bk then by' else be) := by
   rw [hby, hbk, hbe, Bool.eq_iff_iff, decide_eq_true_iff]
   unfold GE
   by_cases c : 2 ≤ k ∧ k ≤ 5
   ·simp [c.1, c.2]
   ·have : (decide (2 ≤ k) && decide (k ≤ 5)) = false := by simp; omega
    rw [if_neg c, this]
    simp
  have e2 : decide (UD k v) = (decide (v = 0) || bv && bj) := by
   rw [hbv, hbj, Bool.eq_iff_iff, decide_eq_true_iff]
   unfold UD
   by_cases c : k = 1 ∨ k = 4 ∨ k = 6
   ·rw [if_pos c]; simp [c]; omega
   ·rw [if_neg c]; simp [c]
  have e3 : decide (1 ≤ k ∧ k ≤ 7) = bi := by rw [hbi]; simp [Bool.decide_and]
  rw [hq, ← e1, ← e2, ← e3, hbo]
  rw [Bool.eq_iff_iff, decide_eq_true_iff]
  unfold J6
  simp only [Bool.and_eq_true, decide_eq_true_iff, and_assoc]
 clear hq hbi hbo hby hbk hbv hbj ho hy
 cases bi
 case false =>
  clear hbe
  have HA : Hid (false = q) := by show _ = _; rw [HQ.out]; simp
  clear HQ
  go_enter Tryz.func192, Tryz.ntmps192
  go_wp2_with (first
   | (go_at_call 126; refine (HI.out _).mono ?_; clear HI; rintro e w1 ⟨rfl, rfl⟩)
   | (go_at_call 126; refine (HJ.out _).mono ?_; rintro e w1 ⟨rfl, rfl⟩)
   | (go_at_call 127; refine (HNO.out _).mono ?_; clear HNO; rintro e w1 ⟨rfl, rfl⟩)
   | (go_at_call 127; refine (HNY.out _).mono ?_; rintro e w1 ⟨rfl, rfl⟩)
   | (go_at_call 190; refine (HK.out _).mono ?_; rintro e w1 ⟨rfl, rfl⟩)
   | (go_at_call 191; refine (HV.out _).mono ?_; rintro e w1 ⟨rfl, rfl⟩))
  go_ret
  exact ⟨by rw [← HA.out]; rfl, rfl⟩
 case true =>
  cases bo
  case false =>
   clear hbe
   have HA : Hid (false = q) := by show _ = _; rw [HQ.out]; simp
   clear HQ
   go_enter Tryz.func192, Tryz.ntmps192
   go_wp2_with (first
    | (go_at_call 126; refine (HI.out _).mono ?_; clear HI; rintro e w1 ⟨rfl, rfl⟩)
    | (go_at_call 126; refine (HJ.out _).mono ?_; rintro e w1 ⟨rfl, rfl⟩)
    | (go_at_call 127; refine (HNO.out _).mono ?_; clear HNO; rintro e w1 ⟨rfl, rfl⟩)
    | (go_at_call 127; refine (HNY.out _).mono ?_; rintro e w1 ⟨rfl, rfl⟩)
    | (go_at_call 190; refine (HK.out _).mono ?_; rintro e w1 ⟨rfl, rfl⟩)
    | (go_at_call 191; refine (HV.out _).mono ?_; rintro e w1 ⟨rfl, rfl⟩))
   go_ret
   exact ⟨by rw [← HA.out]; rfl, rfl⟩
  case true =>
   cases bk
   case false =>
    cases be
    case false =>
     have hye := hbe.symm
     clear hbe
     have HA : Hid (false = q) := by show _ = _; rw [HQ.out]; simp
     clear HQ
     go_enter Tryz.func192, Tryz.ntmps192
     go_wp2_with (first
      | (go_at_call 126; refine (HI.out _).mono ?_; clear HI; rintro e w1 ⟨rfl, rfl⟩)
      | (go_at_call 126; refine (HJ.out _).mono ?_; rintro e w1 ⟨rfl, rfl⟩)
      | (go_at_call 127; refine (HNO.out _).mono ?_; clear HNO; rintro e w1 ⟨rfl, rfl⟩)
      | (go_at_call 127; refine (HNY.out _).mono ?_; rintro e w1 ⟨rfl, rfl⟩)
      | (go_at_call 190; refine (HK.out _).mono ?_; rintro e w1 ⟨rfl, rfl⟩)
      | (go_at_call 191; refine (HV.out _).mono ?_; rintro e w1 ⟨rfl, rfl⟩))
     go_ret
     exact ⟨by rw [← HA.out]; rfl, rfl⟩
    case true =>
     have hye := hbe.symm
     clear hbe
     by_cases h0 : v = 0
     case pos =>
      subst h0
      have HA : Hid (true = q) := by show _ = _; rw [HQ.out]; simp
      clear HQ
      go_enter Tryz.func192, Tryz.ntmps192
      go_wp2_with (first
       | (go_at_call 126; refine (HI.out _).mono ?_; clear HI; rintro e w1 ⟨rfl, rfl⟩)
       | (go_at_call 126; refine (HJ.out _).mono ?_; rintro e w1 ⟨rfl, rfl⟩)
       | (go_at_call 127; refine (HNO.out _).mono ?_; clear HNO; rintro e w1 ⟨rfl, rfl⟩)
       | (go_at_call 127; refine (HNY.out _).mono ?_; rintro e w1 ⟨rfl, rfl⟩)
       | (go_at_call 190; refine (HK.out _).mono ?_; rintro e w1 ⟨rfl, rfl⟩)
       | (go_at_call 191; refine (HV.out _).mono ?_; rintro e w1 ⟨rfl, rfl⟩))
      go_ret
      exact ⟨by rw [← HA.out]; rfl, rfl⟩
     have hv0 : (v == 0) = false := by simp [h0]
     cases bv
     case false =>
      have HA : Hid (false = q) := by show _ = _; rw [HQ.out]; simp [h0]
      clear HQ h0
      go_enter Tryz.func192, Tryz.ntmps192
      go_wp2_with (first
       | (go_at_call 126; refine (HI.out _).mono ?_; clear HI; rintro e w1 ⟨rfl, rfl⟩)
       | (go_at_call 126; refine (HJ.out _).mono ?_; rintro e w1 ⟨rfl, rfl⟩)
       | (go_at_call 127; refine (HNO.out _).mono ?_; clear HNO; rintro e w1 ⟨rfl, rfl⟩)
       | (go_at_call 127; refine (HNY.out _).mono ?_; rintro e w1 ⟨rfl, rfl⟩)
       | (go_at_call 190; refine (HK.out _).mono ?_; rintro e w1 ⟨rfl, rfl⟩)
       | (go_at_call 191; refine (HV.out _).mono ?_; rintro e w1 ⟨rfl, rfl⟩))
      go_ret
      exact ⟨by rw [← HA.out]; rfl, rfl⟩
     case true =>
      have HA : Hid (bj = q) := by show _ = _; rw [HQ.out]; simp [h0]
      clear HQ h0
      go_enter Tryz.func192, Tryz.ntmps192
      go_wp2_with (first
       | (go_at_call 126; refine (HI.out _).mono ?_; clear HI; rintro e w1 ⟨rfl, rfl⟩)
       | (go_at_call 126; refine (HJ.out _).mono ?_; rintro e w1 ⟨rfl, rfl⟩)
       | (go_at_call 127; refine (HNO.out _).mono ?_; clear HNO; rintro e w1 ⟨rfl, rfl⟩)
       | (go_at_call 127; refine (HNY.out _).mono ?_; rintro e w1 ⟨rfl, rfl⟩)
       | (go_at_call 190; refine (HK.out _).mono ?_; rintro e w1 ⟨rfl, rfl⟩)
       | (go_at_call 191; refine (HV.out _).mono ?_; rintro e w1 ⟨rfl, rfl⟩))
      go_ret
      exact ⟨by rw [← HA.out]; rfl, rfl⟩
   case true =>
    clear hbe
    cases by'
    case false =>
     have HA : Hid (false = q) := by show _ = _; rw [HQ.out]; simp
     clear HQ
     go_enter Tryz.func192, Tryz.ntmps192
     go_wp2_with (first
      | (go_at_call 126; refine (HI.out _).mono ?_; clear HI; rintro e w1 ⟨rfl, rfl⟩)
      | (go_at_call 126; refine (HJ.out _).mono ?_; rintro e w1 ⟨rfl, rfl⟩)
      | (go_at_call 127; refine (HNO.out _).mono ?_; clear HNO; rintro e w1 ⟨rfl, rfl⟩)
      | (go_at_call 127; refine (HNY.out _).mono ?_; rintro e w1 ⟨rfl, rfl⟩)
      | (go_at_call 190; refine (HK.out _).mono ?_; rintro e w1 ⟨rfl, rfl⟩)
      | (go_at_call 191; refine (HV.out _).mono ?_; rintro e w1 ⟨rfl, rfl⟩))
     go_ret
     exact ⟨by rw [← HA.out]; rfl, rfl⟩
    case true =>
     by_cases h0 : v = 0
     case pos =>
      subst h0
      have HA : Hid (true = q) := by show _ = _; rw [HQ.out]; simp
      clear HQ
      go_enter Tryz.func192, Tryz.ntmps192
      go_wp2_with (first
       | (go_at_call 126; refine (HI.out _).mono ?_; clear HI; rintro e w1 ⟨rfl, rfl⟩)
       | (go_at_call 126; refine (HJ.out _).mono ?_; rintro e w1 ⟨rfl, rfl⟩)
       | (go_at_call 127; refine (HNO.out _).mono ?_; clear HNO; rintro e w1 ⟨rfl, rfl⟩)
       | (go_at_call 127; refine (HNY.out _).mono ?_; rintro e w1 ⟨rfl, rfl⟩)
       | (go_at_call 190; refine (HK.out _).mono ?_; rintro e w1 ⟨rfl, rfl⟩)
       | (go_at_call 191; refine (HV.out _).mono ?_; rintro e w1 ⟨rfl, rfl⟩))
      go_ret
      exact ⟨by rw [← HA.out]; rfl, rfl⟩
     have hv0 : (v == 0) = false := by simp [h0]
     cases bv
     case false =>
      have HA : Hid (false = q) := by show _ = _; rw [HQ.out]; simp [h0]
      clear HQ h0
      go_enter Tryz.func192, Tryz.ntmps192
      go_wp2_with (first
       | (go_at_call 126; refine (HI.out _).mono ?_; clear HI; rintro e w1 ⟨rfl, rfl⟩)
       | (go_at_call 126; refine (HJ.out _).mono ?_; rintro e w1 ⟨rfl, rfl⟩)
       | (go_at_call 127; refine (HNO.out _).mono ?_; clear HNO; rintro e w1 ⟨rfl, rfl⟩)
       | (go_at_call 127; refine (HNY.out _).mono ?_; rintro e w1 ⟨rfl, rfl⟩)
       | (go_at_call 190; refine (HK.out _).mono ?_; rintro e w1 ⟨rfl, rfl⟩)
       | (go_at_call 191; refine (HV.out _).mono ?_; rintro e w1 ⟨rfl, rfl⟩))
      go_ret
      exact ⟨by rw [← HA.out]; rfl, rfl⟩
     case true =>
      have HA : Hid (bj = q) := by show _ = _; rw [HQ.out]; simp [h0]
      clear HQ h0
      go_enter Tryz.func192, Tryz.ntmps192
      go_wp2_with (first
       | (go_at_call 126; refine (HI.out _).mono ?_; clear HI; rintro e w1 ⟨rfl, rfl⟩)
       | (go_at_call 126; refine (HJ.out _).mono ?_; rintro e w1 ⟨rfl, rfl⟩)
       | (go_at_call 127; refine (HNO.out _).mono ?_; clear HNO; rintro e w1 ⟨rfl, rfl⟩)
       | (go_at_call 127; refine (HNY.out _).mono ?_; rintro e w1 ⟨rfl, rfl⟩)
       | (go_at_call 190; refine (HK.out _).mono ?_; rintro e w1 ⟨rfl, rfl⟩)
       | (go_at_call 191; refine (HV.out _).mono ?_; rintro e w1 ⟨rfl, rfl⟩))
      go_ret
      exact ⟨by rw [← HA.out]; rfl, rfl⟩
theorem ZG (S : Sta) (u0 u1 u2 u3 : Value) (r s : Int) (w : World) (hn : S.C.length ≤ 1048576) (h : StAt w S u0 u1 u2 u3) :
  Calls Tryz.prog 24 #[.agg #[u0, u1, u2, u3], .agg #[int i64 r, int i64 s]] w fun e w' => e = .returned (int i64 (cellAt S.C r s 0)) ∧ Below w.heap.size w w' := by
 obtain ⟨a0, c0, a1, c1, a2, c2, a3, c3, rfl, rfl, rfl, rfl⟩ := h.shape
 obtain ⟨W, hW⟩ : ∃ W, W = (w.alloc (.cells #[.slice a0 S.l.length c0, .slice a1 S.T.length c1, .slice a2 S.L.length c2, .slice a3 S.C.length c3] 29)).alloc (.cells #[int i64 r, int i64 s] 33) := ⟨_, rfl⟩
 have HP : Hid (∀ wx, Below W.heap.size W wx → Row wx w.heap.size #[.slice a0 S.l.length c0, .slice a1 S.T.length c1, .slice a2 S.L.length c2, .slice a3 S.C.length c3] 29) := fun wx h => by
  have h0 : Row W w.heap.size #[.slice a0 S.l.length c0, .slice a1 S.T.length c1, .slice a2 S.L.length c2, .slice a3 S.C.length c3] 29 := by rw [hW]; exact (Jb w _ _ rfl).alloc _
  exact h0.next h
 have HQ : Hid (∀ wx, Below W.heap.size W wx → Row wx (w.heap.size + 1) #[int i64 r, int i64 s] 33) := fun wx h => by
  have h0 : Row W (w.heap.size + 1) #[int i64 r, int i64 s] 33 := by rw [hW]; exact Jb _ _ _ (by simp)
  exact h0.next h
 have HB : Hid (Below w.heap.size w W) := by rw [hW]; exact ((Below.refl _ _).alloc (Nat.le_refl _) _).alloc (by simp) _
 have HS : Hid (StAt W S (.slice a0 S.l.length c0) (.slice a1 S.T.length c1) (.slice a2 S.L.length c2) (.slice a3 S.C.length c3)) := by rw [hW]; exact (h.alloc _).alloc _
 have HW : Hid ((w.alloc (.cells #[.slice a0 S.l.length c0, .slice a1 S.T.length c1, .slice a2 S.L.length c2, .slice a3 S.C.length c3] 29)).alloc (.cells #[int i64 r, int i64 s] 33) = W) := hW.symm
 clear hW h
 obtain ⟨l, hl⟩ : ∃ l, l = S.C := ⟨_, rfl⟩
 have HGA : Hid (CeG W a3 l) := by
  obtain ⟨x, y, hq, hg⟩ := HS.out.2.2.2
  simp only [Value.slice.injEq] at hq
  rw [hl, hq.1]; exact hg
 obtain ⟨R, hR⟩ : ∃ R, R = cellAt S.C r s 0 := ⟨_, rfl⟩
 rw [← hR]
 rw [← hl] at hR hn
 have HR : Hid (R = cellAt (l.drop 0) r s (0 : Nat)) := hR
 obtain ⟨n, hnl⟩ : ∃ n, n = l.length := ⟨_, rfl⟩
 have HL : Hid (n = l.length) := hnl
 rw [← hl, ← hnl] at HP HW
 rw [← hl, ← hnl]
 rw [← hnl] at hn
 clear HS hR hnl hl
 go_enter Tryz.func24, Tryz.ntmps24
 go_wp2
 rw [HW.out]
 clear HW
 go_loopw [5] (fun z wr => ∃ k : Nat, k ≤ n ∧ z = int i64 k ∧ R = cellAt (l.drop k) r s k ∧ Below W.heap.size W wr) (fun z _ => n - (intOf z).toNat)
 case atStart => exact ⟨0, Nat.zero_le _, rfl, HR.out, Below.refl _ _⟩
 case round =>
  clear HR
  obtain ⟨k, hk, rfl, hr, hbel⟩ := hrel
  have HBE : Hid (Below W.heap.size W wr) := hbel
  have d1 := (HP.out wr hbel).cell 3 rfl
  have e0 := (HQ.out wr hbel).cell 0 rfl
  have e1 := (HQ.out wr hbel).cell 1 rfl
  have hsz := hbel.size
  by_cases hlt : k < n
  ·have hkl : k < l.length := by rw [← HL.out]; exact hlt
   obtain ⟨g, f, rfl, hg, hcc⟩ := HGA.out (by omega)
   have hk1 : (k : Int) < n := by omega
   have hk0 : (0 : Int) ≤ k := by omega
   have q := (hcc k hkl).below hbel hg
   rw [JbG l r s k hkl] at hr
   generalize l[k] = x at *
   unfold ceC at q
   obtain ⟨q0, q1, q2, q3, q4, q5, q6, q7⟩ := q
   clear hcc hbel hkl q0 q3 q4 q5 q6 q7
   have heq : ∀ wx, (Op.equalIn 10000 33 (.agg #[int i64 x.r, int i64 x.s]) (.agg #[int i64 r, int i64 s])).run Tryz.prog wx = .ok (decide (x.r = r ∧ x.s = s)) wx := fun wx => by
    rw [GG]; by_cases h1 : x.r = r <;> by_cases h2 : x.s = s <;> simp [h1, h2]
   have hgd := ZL
   by_cases h1 : x.r = r ∧ x.s = s
   ·rw [decide_eq_true h1] at heq
    have HE : Hid (R = k) := by show _ = _; rw [hr, if_pos h1]
    clear hr h1
    go_wp2
    go_quiet (fail)
    have hbq := Jh HBE.out nq
    generalize wr.drewN nq = wq at *
    go_wp2
    go_ret
    exact ⟨by rw [HE.out]; rfl, HB.out.trans (hbq.mono HB.out.size)⟩
   ·rw [decide_eq_false h1] at heq
    have HE : Hid (R = cellAt (l.drop (k + 1)) r s (k + 1 : Nat)) := by show _ = _; rw [hr, if_neg h1]
    clear hr h1
    go_wp2
    go_quiet (fail)
    have hbq := Jh HBE.out nq
    clear d1 e0 e1 q1 q2 HBE
    generalize wr.drewN nq = wq at *
    go_wp2
    go_roundw
    case rel => exact ⟨k + 1, by omega, by go_num, HE.out, hbq⟩
    case measure => simp [intOf]; omega
  ·have hk1 : ¬ ((k : Int) < n) := by omega
   have HE : Hid (R = -1) := by
    have hkn : k = l.length := by have := HL.out; omega
    rw [hkn, List.drop_length] at hr
    exact hr
   clear hr hbel
   go_wp2
   go_ret
   exact ⟨by rw [HE.out]; rfl, HB.out.trans (HBE.out.mono HB.out.size)⟩
theorem V0 {a b : ByteArray} (h : a.toList = b.toList) : a = b := by
 rw [ByteArray.toList_eq, ByteArray.toList_eq] at h
 exact ByteArray.ext (Array.ext' h)
theorem JaV : Tryz.prog.underlying 38 = some (.struct (Tryz.prog.fieldsOf 38)) := by kernel_rfl
theorem JbW : Tryz.prog.stoodInHeld 38 = false := by kernel_rfl
theorem U1 : Tryz.prog.eqGuardType Tryz.prog.depth 38 = false := by kernel_rfl
theorem U5 (a b : Ta) (w : World) : (Op.equalIn 10000 38 (.agg #[.string a.o, int i64 a.r, int i64 a.n]) (.agg #[.string b.o, int i64 b.r, int i64 b.n])).run Tryz.prog w = .ok (decide (a = b)) w := by
  rw [run_equalIn_struct w 9999 38 _ _ JaV JbW]
  simp only [Program.fieldsOf, Tryz.underlying38]
  by_cases hab : a = b
  · subst hab
    simp [Op.eqFields, go_sem]
  · simp [Op.eqFields, go_sem]
    rw [decide_eq_false hab]
    repeat' split
    all_goals first
      | rfl
      | (exfalso
         apply hab
         obtain ⟨a0, a1, a2⟩ := a
         obtain ⟨b0, b1, b2⟩ := b
         simp only [Ta.mk.injEq]
         refine ⟨?_, ?_, ?_⟩ <;> first | assumption | (apply V0; assumption))
theorem UQ {va vb : Value} {l m : List Ta} (hn : l.length ≤ 1048576) (hm : m.length ≤ 1048576) (w : World) (ha : TaAt w va l) (hb : TaAt w vb m) :
  Calls Tryz.prog 73 #[va, vb] w fun e w' => e = .returned (.bool (decide (l = m))) ∧ Below w.heap.size w w' := by
 obtain ⟨aa, ca, rfl, ga⟩ := ha
 obtain ⟨ab, cb, rfl, gb⟩ := hb
 have HGA : Hid (TaG w aa l) := ga
 have HGB : Hid (TaG w ab m) := gb
 obtain ⟨q, hq⟩ : ∃ q, q = decide (l = m) := ⟨_, rfl⟩
 rw [← hq]
 have HNO : Hid (¬ l = m → q = false) := fun h => by rw [hq]; exact decide_eq_false h
 have HYES : Hid (l = m → q = true) := fun h => by rw [hq]; exact decide_eq_true h
 clear hq
 by_cases hlm : l.length = m.length
 ·obtain ⟨n, hl⟩ : ∃ n, n = l.length := ⟨_, rfl⟩
  rw [← hlm, ← hl]
  rw [← hl] at hn
  have HL : Hid (n = l.length) := hl
  have HM : Hid (n = m.length) := hl.trans hlm
  have hnn : ((n : Int) != n) = false := by simp
  have hgd := U1
  clear ga gb hl hlm hm
  go_enter Tryz.func73, Tryz.ntmps73
  go_wp2
  go_loopw [13] (fun z wr => ∃ k : Nat, k ≤ n ∧ z = int i64 k ∧ l.take k = m.take k ∧ Below w.heap.size w wr) (fun z _ => n - (intOf z).toNat)
  case atStart => exact ⟨0, Nat.zero_le _, rfl, rfl, Below.refl _ _⟩
  case round =>
   obtain ⟨k, hk, rfl, htk, hbel⟩ := hrel
   have HTK : Hid (l.take k = m.take k) := htk
   clear htk
   by_cases hlt : k < n
   ·have hkl : k < l.length := by rw [← HL.out]; exact hlt
    have hkm : k < m.length := by rw [← HM.out]; exact hlt
    obtain ⟨g1, f1, rfl, hg1, ho1⟩ := HGA.out (by omega)
    obtain ⟨g2, f2, rfl, hg2, ho2⟩ := HGB.out (by omega)
    have c1 := (ho1 k hkl).below hbel hg1
    have c2 := (ho2 k hkm).below hbel hg2
    have hk1 : (k : Int) < n := by omega
    have hk0 : (0 : Int) ≤ k := by omega
    have HT : Hid (l[k] = m[k] → l.take (k + 1) = m.take (k + 1)) := fun hxy => by
     rw [List.take_succ_eq_append_getElem hkl, List.take_succ_eq_append_getElem hkm, HTK.out, hxy]
    have HN : Hid (¬ l[k] = m[k] → q = false) := fun hxy => HNO.out (fun h => hxy (by subst h; rfl))
    generalize m[k] = y at *
    generalize l[k] = x at *
    unfold taC at c1 c2
    obtain ⟨p0, p1, p2⟩ := c1
    obtain ⟨q0, q1, q2⟩ := c2
    clear ho1 ho2 hkl hkm
    have heq := U5 x y
    by_cases hxy : x = y
    ·rw [decide_eq_true hxy] at heq
     have HT2 : Hid (l.take (k + 1) = m.take (k + 1)) := HT.out hxy
     clear hxy HT HN
     go_wp2
     go_quiet (fail)
     have hbq := Jh hbel nq
     clear p0 q0 p1 q1 p2 q2 hbel heq
     generalize wr.drewN nq = wq at *
     go_wp2
     go_roundw
     case rel => exact ⟨k + 1, by omega, by go_num, HT2.out, hbq⟩
     case measure => simp [intOf]; omega
    ·rw [decide_eq_false hxy] at heq
     obtain rfl : q = false := HN.out hxy
     clear hxy HT HN
     go_wp2
     go_quiet (fail)
     have hbq := Jh hbel nq
     clear p0 q0 p1 q1 p2 q2 hbel heq
     generalize wr.drewN nq = wq at *
     go_wp2
     go_ret
     exact ⟨rfl, hbq⟩
   ·have hk1 : ¬ ((k : Int) < n) := by omega
    obtain rfl : q = true := HYES.out (by
     have := HTK.out
     have h1 := HL.out
     have h2 := HM.out
     rwa [List.take_of_length_le (by omega), List.take_of_length_le (by omega)] at this)
    go_wp2
    go_ret
    exact ⟨rfl, hbel⟩
 ·obtain rfl : q = false := HNO.out (fun h => hlm (by rw [h]))
  have hnn : ((l.length : Int) != m.length) = true := by simp; omega
  go_enter Tryz.func73, Tryz.ntmps73
  go_wp2
  go_ret
  exact ⟨rfl, Below.refl _ _⟩
theorem JbC : Tryz.prog.underlying 40 = some (.struct (Tryz.prog.fieldsOf 40)) := by kernel_rfl
theorem Jc3 : Tryz.prog.stoodInHeld 40 = false := by kernel_rfl
theorem GN : Tryz.prog.eqGuardType Tryz.prog.depth 40 = false := by kernel_rfl
theorem GH (a b : Li) (w : World) : (Op.equalIn 10000 40 (.agg #[.bool a.m, .string a.o, .string a.y, int i64 a.v, int i64 a.r, int i64 a.s]) (.agg #[.bool b.m, .string b.o, .string b.y, int i64 b.v, int i64 b.r, int i64 b.s])).run Tryz.prog w = .ok (decide (a = b)) w := by
  rw [run_equalIn_struct w 9999 40 _ _ JbC Jc3]
  simp only [Program.fieldsOf, Tryz.underlying40]
  by_cases hab : a = b
  · subst hab
    simp [Op.eqFields, go_sem]
  · simp [Op.eqFields, go_sem]
    rw [decide_eq_false hab]
    repeat' split
    all_goals first
      | rfl
      | (exfalso
         apply hab
         obtain ⟨a0, a1, a2, a3, a4, a5⟩ := a
         obtain ⟨b0, b1, b2, b3, b4, b5⟩ := b
         simp only [Li.mk.injEq]
         refine ⟨?_, ?_, ?_, ?_, ?_, ?_⟩ <;> first | assumption | (apply V0; assumption))
theorem Vg {va vb : Value} {l m : List Li} (hn : l.length ≤ 1048576) (hm : m.length ≤ 1048576) (w : World) (ha : LiAt w va l) (hb : LiAt w vb m) :
  Calls Tryz.prog 74 #[va, vb] w fun e w' => e = .returned (.bool (decide (l = m))) ∧ Below w.heap.size w w' := by
 obtain ⟨aa, ca, rfl, ga⟩ := ha
 obtain ⟨ab, cb, rfl, gb⟩ := hb
 have HGA : Hid (LiG w aa l) := ga
 have HGB : Hid (LiG w ab m) := gb
 obtain ⟨q, hq⟩ : ∃ q, q = decide (l = m) := ⟨_, rfl⟩
 rw [← hq]
 have HNO : Hid (¬ l = m → q = false) := fun h => by rw [hq]; exact decide_eq_false h
 have HYES : Hid (l = m → q = true) := fun h => by rw [hq]; exact decide_eq_true h
 clear hq
 by_cases hlm : l.length = m.length
 ·obtain ⟨n, hl⟩ : ∃ n, n = l.length := ⟨_, rfl⟩
  rw [← hlm, ← hl]
  rw [← hl] at hn
  have HL : Hid (n = l.length) := hl
  have HM : Hid (n = m.length) := hl.trans hlm
  have hnn : ((n : Int) != n) = false := by simp
  have hgd := GN
  clear ga gb hl hlm hm
  go_enter Tryz.func74, Tryz.ntmps74
  go_wp2
  go_loopw [13] (fun z wr => ∃ k : Nat, k ≤ n ∧ z = int i64 k ∧ l.take k = m.take k ∧ Below w.heap.size w wr) (fun z _ => n - (intOf z).toNat)
  case atStart => exact ⟨0, Nat.zero_le _, rfl, rfl, Below.refl _ _⟩
  case round =>
   obtain ⟨k, hk, rfl, htk, hbel⟩ := hrel
   have HTK : Hid (l.take k = m.take k) := htk
   clear htk
   by_cases hlt : k < n
   ·have hkl : k < l.length := by rw [← HL.out]; exact hlt
    have hkm : k < m.length := by rw [← HM.out]; exact hlt
    obtain ⟨g1, f1, rfl, hg1, ho1⟩ := HGA.out (by omega)
    obtain ⟨g2, f2, rfl, hg2, ho2⟩ := HGB.out (by omega)
    have c1 := (ho1 k hkl).below hbel hg1
    have c2 := (ho2 k hkm).below hbel hg2
    have hk1 : (k : Int) < n := by omega
    have hk0 : (0 : Int) ≤ k := by omega
    have HT : Hid (l[k] = m[k] → l.take (k + 1) = m.take (k + 1)) := fun hxy => by
     rw [List.take_succ_eq_append_getElem hkl, List.take_succ_eq_append_getElem hkm, HTK.out, hxy]
    have HN : Hid (¬ l[k] = m[k] → q = false) := fun hxy => HNO.out (fun h => hxy (by subst h; rfl))
    generalize m[k] = y at *
    generalize l[k] = x at *
    unfold liC at c1 c2
    obtain ⟨p0, p1, p2, p3, p4, p5⟩ := c1
    obtain ⟨q0, q1, q2, q3, q4, q5⟩ := c2
    clear ho1 ho2 hkl hkm
    have heq := GH x y
    by_cases hxy : x = y
    ·rw [decide_eq_true hxy] at heq
     have HT2 : Hid (l.take (k + 1) = m.take (k + 1)) := HT.out hxy
     clear hxy HT HN
     go_wp2
     go_quiet (fail)
     have hbq := Jh hbel nq
     clear p0 q0 p1 q1 p2 q2 p3 q3 p4 q4 p5 q5 hbel heq
     generalize wr.drewN nq = wq at *
     go_wp2
     go_roundw
     case rel => exact ⟨k + 1, by omega, by go_num, HT2.out, hbq⟩
     case measure => simp [intOf]; omega
    ·rw [decide_eq_false hxy] at heq
     obtain rfl : q = false := HN.out hxy
     clear hxy HT HN
     go_wp2
     go_quiet (fail)
     have hbq := Jh hbel nq
     clear p0 q0 p1 q1 p2 q2 p3 q3 p4 q4 p5 q5 hbel heq
     generalize wr.drewN nq = wq at *
     go_wp2
     go_ret
     exact ⟨rfl, hbq⟩
   ·have hk1 : ¬ ((k : Int) < n) := by omega
    obtain rfl : q = true := HYES.out (by
     have := HTK.out
     have h1 := HL.out
     have h2 := HM.out
     rwa [List.take_of_length_le (by omega), List.take_of_length_le (by omega)] at this)
    go_wp2
    go_ret
    exact ⟨rfl, hbel⟩
 ·obtain rfl : q = false := HNO.out (fun h => hlm (by rw [h]))
  have hnn : ((l.length : Int) != m.length) = true := by simp; omega
  go_enter Tryz.func74, Tryz.ntmps74
  go_wp2
  go_ret
  exact ⟨rfl, Below.refl _ _⟩
theorem Ja9 : Tryz.prog.underlying 35 = some (.struct (Tryz.prog.fieldsOf 35)) := by kernel_rfl
theorem JcK : Tryz.prog.stoodInHeld 35 = false := by kernel_rfl
theorem V8 : Tryz.prog.eqGuardType Tryz.prog.depth 35 = false := by kernel_rfl
theorem VA (a b : Ce) (w : World) : (Op.equalIn 10000 35 (.agg #[.string a.o, int i64 a.r, int i64 a.s, int i64 a.t, int i64 a.x, int i64 a.z, int i64 a.v, .bool a.g]) (.agg #[.string b.o, int i64 b.r, int i64 b.s, int i64 b.t, int i64 b.x, int i64 b.z, int i64 b.v, .bool b.g])).run Tryz.prog w = .ok (decide (a = b)) w := by
  rw [run_equalIn_struct w 9999 35 _ _ Ja9 JcK]
  simp only [Program.fieldsOf, Tryz.underlying35]
  by_cases hab : a = b
  · subst hab
    simp [Op.eqFields, go_sem]
  · simp [Op.eqFields, go_sem]
    rw [decide_eq_false hab]
    repeat' split
    all_goals first
      | rfl
      | (exfalso
         apply hab
         obtain ⟨a0, a1, a2, a3, a4, a5, a6, a7⟩ := a
         obtain ⟨b0, b1, b2, b3, b4, b5, b6, b7⟩ := b
         simp only [Ce.mk.injEq]
         refine ⟨?_, ?_, ?_, ?_, ?_, ?_, ?_, ?_⟩ <;> first | assumption | (apply V0; assumption))
theorem Vo {va vb : Value} {l m : List Ce} (hn : l.length ≤ 1048576) (hm : m.length ≤ 1048576) (w : World) (ha : CeAt w va l) (hb : CeAt w vb m) :
  Calls Tryz.prog 75 #[va, vb] w fun e w' => e = .returned (.bool (decide (l = m))) ∧ Below w.heap.size w w' := by
 obtain ⟨aa, ca, rfl, ga⟩ := ha
 obtain ⟨ab, cb, rfl, gb⟩ := hb
 have HGA : Hid (CeG w aa l) := ga
 have HGB : Hid (CeG w ab m) := gb
 obtain ⟨q, hq⟩ : ∃ q, q = decide (l = m) := ⟨_, rfl⟩
 rw [← hq]
 have HNO : Hid (¬ l = m → q = false) := fun h => by rw [hq]; exact decide_eq_false h
 have HYES : Hid (l = m → q = true) := fun h => by rw [hq]; exact decide_eq_true h
 clear hq
 by_cases hlm : l.length = m.length
 ·obtain ⟨n, hl⟩ : ∃ n, n = l.length := ⟨_, rfl⟩
  rw [← hlm, ← hl]
  rw [← hl] at hn
  have HL : Hid (n = l.length) := hl
  have HM : Hid (n = m.length) := hl.trans hlm
  have hnn : ((n : Int) != n) = false := by simp
  have hgd := V8
  clear ga gb hl hlm hm
  go_enter Tryz.func75, Tryz.ntmps75
  go_wp2
  go_loopw [13] (fun z wr => ∃ k : Nat, k ≤ n ∧ z = int i64 k ∧ l.take k = m.take k ∧ Below w.heap.size w wr) (fun z _ => n - (intOf z).toNat)
  case atStart => exact ⟨0, Nat.zero_le _, rfl, rfl, Below.refl _ _⟩
  case round =>
   obtain ⟨k, hk, rfl, htk, hbel⟩ := hrel
   have HTK : Hid (l.take k = m.take k) := htk
   clear htk
   by_cases hlt : k < n
   ·have hkl : k < l.length := by rw [← HL.out]; exact hlt
    have hkm : k < m.length := by rw [← HM.out]; exact hlt
    obtain ⟨g1, f1, rfl, hg1, ho1⟩ := HGA.out (by omega)
    obtain ⟨g2, f2, rfl, hg2, ho2⟩ := HGB.out (by omega)
    have c1 := (ho1 k hkl).below hbel hg1
    have c2 := (ho2 k hkm).below hbel hg2
    have hk1 : (k : Int) < n := by omega
    have hk0 : (0 : Int) ≤ k := by omega
    have HT : Hid (l[k] = m[k] → l.take (k + 1) = m.take (k + 1)) := fun hxy => by
     rw [List.take_succ_eq_append_getElem hkl, List.take_succ_eq_append_getElem hkm, HTK.out, hxy]
    have HN : Hid (¬ l[k] = m[k] → q = false) := fun hxy => HNO.out (fun h => hxy (by subst h; rfl))
    generalize m[k] = y at *
    generalize l[k] = x at *
    unfold ceC at c1 c2
    obtain ⟨p0, p1, p2, p3, p4, p5, p6, p7⟩ := c1
    obtain ⟨q0, q1, q2, q3, q4, q5, q6, q7⟩ := c2
    clear ho1 ho2 hkl hkm
    have heq := VA x y
    by_cases hxy : x = y
    ·rw [decide_eq_true hxy] at heq
     have HT2 : Hid (l.take (k + 1) = m.take (k + 1)) := HT.out hxy
     clear hxy HT HN
     go_wp2
     go_quiet (fail)
     have hbq := Jh hbel nq
     clear p0 q0 p1 q1 p2 q2 p3 q3 p4 q4 p5 q5 p6 q6 p7 q7 hbel heq
     generalize wr.drewN nq = wq at *
     go_wp2
     go_roundw
     case rel => exact ⟨k + 1, by omega, by go_num, HT2.out, hbq⟩
     case measure => simp [intOf]; omega
    ·rw [decide_eq_false hxy] at heq
     obtain rfl : q = false := HN.out hxy
     clear hxy HT HN
     go_wp2
     go_quiet (fail)
     have hbq := Jh hbel nq
     clear p0 q0 p1 q1 p2 q2 p3 q3 p4 q4 p5 q5 p6 q6 p7 q7 hbel heq
     generalize wr.drewN nq = wq at *
     go_wp2
     go_ret
     exact ⟨rfl, hbq⟩
   ·have hk1 : ¬ ((k : Int) < n) := by omega
    obtain rfl : q = true := HYES.out (by
     have := HTK.out
     have h1 := HL.out
     have h2 := HM.out
     rwa [List.take_of_length_le (by omega), List.take_of_length_le (by omega)] at this)
    go_wp2
    go_ret
    exact ⟨rfl, hbel⟩
 ·obtain rfl : q = false := HNO.out (fun h => hlm (by rw [h]))
  have hnn : ((l.length : Int) != m.length) = true := by simp; omega
  go_enter Tryz.func75, Tryz.ntmps75
  go_wp2
  go_ret
  exact ⟨rfl, Below.refl _ _⟩
end Go.Proofs.YtdknoflkingodaaGreat
