/- What is drawn off a cursor: a byte, a number below another, . -/
import Derived.WalkMore
import Derived.Test.YtdknoflkingodaaGreatQ33
set_option maxHeartbeats 16000000
namespace Go.Proofs.YtdknoflkingodaaGreat
open Value (int)
open IntKind (i64)
set_option maxRecDepth 100000
set_option linter.unusedVariables false
open Go.RowKit
theorem Cur.lt {w : World} {B p : Nat} {v : Value} {n : Nat} (h : Cur w B p v n) : p < w.heap.size := by
 obtain ⟨-, -, i, x, -, -, -, hp⟩ := h
 rcases Nat.lt_or_ge p w.heap.size with h' | h'
 ·exact h'
 ·rw [Array.getElem?_eq_none h'] at hp; cases hp
def Drew (w w' : World) (B p : Nat) (v : Value) (n : Nat) : Prop := Cur w' B p v n ∧ w.grownBy w' (some p)
theorem Drew.trans {a b c : World} {B p : Nat} {v : Value} {n : Nat} (h : Drew a b B p v n) (k : Drew b c B p v n) : Drew a c B p v n := ⟨k.1, k.2.os.trans h.2.os, k.2.tape.trans h.2.tape, k.2.output.trans h.2.output, Nat.le_trans h.2.size k.2.size, fun i hi hne => (k.2.block i (Nat.lt_of_lt_of_le hi h.2.size) hne).trans (h.2.block i hi hne)⟩
theorem JjL (B p : Nat) (v : Value) (n : Nat) (hn : n ≤ 1048576) (w : World) (hc : Cur w B p v n) :
  Calls Tryz.prog 86 #[.pointer (some ⟨p, 0, none⟩)] w fun e w' => ∃ x : Nat, e = .returned (int i64 x) ∧ x < 256 ∧ Drew w w' B p v n := by
 refine (Jb2 B p v n hn w hc).mono ?_
 rintro e w' ⟨x, rfl, hx, h1, h2, -⟩
 exact ⟨x, rfl, hx, h1, h2⟩
theorem KU (m : Nat) (h0 : 0 < m) (hm : m ≤ 4294967296) (B p : Nat) (v : Value) (n : Nat) (hn : n ≤ 1048576) (w : World) (hc : Cur w B p v n) :
  Calls Tryz.prog 63 #[.pointer (some ⟨p, 0, none⟩), int i64 m] w fun e w' => ∃ x : Nat, e = .returned (int i64 x) ∧ x < m ∧ Drew w w' B p v n := by
 have hm0 : ¬ ((m : Int) ≤ 0) := by omega
 have hmz : ¬ ((m : Int) = 0) := by omega
 have HB : Hid (∀ wx, Cur wx B p v n → Calls Tryz.prog 86 #[.pointer (some ⟨p, 0, none⟩)] wx fun e w' => ∃ x : Nat, e = .returned (int i64 x) ∧ x < 256 ∧ Drew wx w' B p v n) := fun wx h => JjL B p v n hn wx h
 by_cases h256 : (m : Int) ≤ 256
 ·go_enter Tryz.func63, Tryz.ntmps63
  go_wp2_with (go_at_call 86; refine (HB.out _ hc).mono ?_; rintro e w1 ⟨x, rfl, hx, hd⟩)
  go_ret
  exact ⟨x % m, by go_num, Nat.mod_lt _ h0, hd⟩
 ·go_enter Tryz.func63, Tryz.ntmps63
  go_wp2_with fail
  refine (HB.out _ hc).mono ?_
  rintro e w1 ⟨x1, rfl, hx1, hd1⟩
  go_wp2_with fail
  refine (HB.out _ hd1.1).mono ?_
  rintro e w2 ⟨x2, rfl, hx2, hd2⟩
  have hd2' := hd1.trans hd2
  clear hd1 hd2
  go_wp2_with fail
  refine (HB.out _ hd2'.1).mono ?_
  rintro e w3 ⟨x3, rfl, hx3, hd3⟩
  have hd3' := hd2'.trans hd3
  clear hd2' hd3
  go_wp2_with fail
  refine (HB.out _ hd3'.1).mono ?_
  rintro e w4 ⟨x4, rfl, hx4, hd4⟩
  have hd4' := hd3'.trans hd4
  clear hd3' hd4
  go_wp2
  go_ret
  exact ⟨(x1 * 16777216 + x2 * 65536 + x3 * 256 + x4) % m, by go_num, Nat.mod_lt _ h0, hd4'⟩
theorem Cur.kept {w w' : World} {B p : Nat} {v : Value} {n : Nat} {row : Option Nat} (h : Cur w B p v n) (hg : w.grownBy w' row) (hr : ∀ k, row = some k → B ≤ k ∧ k ≠ p) : Cur w' B p v n := by
 have hp := h.lt
 obtain ⟨hB, hc, i, x, hi, h1, h2, hb⟩ := h
 refine ⟨hB, ?_, i, x, hi, h1, h2, ?_⟩
 ·rcases hc with hc | ⟨b, off, cap, rfl, hbb, hx⟩
  ·exact .inl hc
  ·refine .inr ⟨b, off, cap, rfl, hbb, fun j hj => ?_⟩
   obtain ⟨y, hy1, hy2⟩ := hx j hj
   exact ⟨y, hy1, hg.cell hy2 (fun e => by have := (hr b e.symm).1; omega)⟩
 ·rw [hg.block p hp (fun e => (hr p e.symm).2 rfl)]; exact hb
theorem Drew.kept {a w w' : World} {B p : Nat} {v : Value} {n : Nat} {row : Option Nat} (h : Drew a w B p v n) (hp : p < a.heap.size) (hB : B ≤ a.heap.size) (hg : w.grownBy w' row) (hr : ∀ k, row = some k → a.heap.size ≤ k) : Drew a w' B p v n :=
 ⟨h.1.kept hg (fun k hk => by have := hr k hk; omega), h.2.andThen hg (fun j hj => .inl (hr j hj))⟩
theorem Drew.alloc {a w : World} {B p : Nat} {v : Value} {n : Nat} (h : Drew a w B p v n) (hp : p < a.heap.size) (hB : B ≤ a.heap.size) (o : Obj) : Drew a (w.alloc o) B p v n :=
 h.kept (row := none) hp hB (let b := (Below.refl w.heap.size w).alloc (Nat.le_refl _) o; ⟨b.os, b.tape, b.output, b.size, fun k hk _ => b.block k hk⟩) (fun k hk => by cases hk)
theorem Drew.refl {w : World} {B p : Nat} {v : Value} {n : Nat} (h : Cur w B p v n) : Drew w w B p v n := ⟨h, World.grownBy.refl _ _⟩
theorem Drew.below {w w1 w2 : World} {B p : Nat} {v : Value} {n : Nat} (hb : Below w.heap.size w w1) (h : Drew w1 w2 B p v n) (hp : w.heap.size ≤ p) : Below w.heap.size w w2 :=
 hb.grown h.2 hb.size (fun k hk => by cases hk; exact hp)
theorem Drew.set {a w : World} {B p : Nat} {v : Value} {n : Nat} (h : Drew a w B p v n) (hp : p < a.heap.size) (hB : B ≤ a.heap.size) {b : Nat} (hb : a.heap.size ≤ b) (j : Nat) (x : Value) : Drew a (w.setCell ⟨b, j, none⟩ x) B p v n :=
 h.kept hp hB (UH w b j x).1 (fun k hk => by cases hk; exact hb)
theorem VF {w w' : World} (hb : Below w.heap.size w w') : w.grownBy w' none := ⟨hb.os, hb.tape, hb.output, hb.size, fun i hi _ => hb.block i hi⟩
theorem Drew.call {a w w' : World} {B p : Nat} {v : Value} {n : Nat} (h : Drew a w B p v n) (hp : p < a.heap.size) (hB : B ≤ a.heap.size) (hb : Below w.heap.size w w') : Drew a w' B p v n :=
 h.kept hp hB (VF hb) (fun k hk => by cases hk)
theorem Jcu (m g cap : Nat) (h0 : 0 < m) (hm : m ≤ 1000) (B p : Nat) (v : Value) (n : Nat) (hn : n ≤ 1048576) (w : World) (hc : Cur w B p v n) (hgp : g ≠ p) (hg : ∀ i, i < m → ∃ z : Int, w.cell? ⟨g, i, none⟩ = some (int i64 z)) :
  Calls Tryz.prog 189 #[.pointer (some ⟨p, 0, none⟩), .slice (some ⟨g, 0, none⟩) m cap] w fun e w' => ∃ z : Int, (∃ i, i < m ∧ w.cell? ⟨g, i, none⟩ = some (int i64 z)) ∧ e = .returned (int i64 z) ∧ Drew w w' B p v n := by
 go_enter Tryz.func189, Tryz.ntmps189
 go_wp2_with fail
 refine (KU m h0 (by omega) B p v n hn _ hc).mono ?_
 rintro e w1 ⟨x, rfl, hx, hd1⟩
 obtain ⟨z, hz⟩ := hg x hx
 have c0 := hd1.2.cell (a := ⟨g, x, none⟩) hz (by simpa using hgp)
 have x0 : (0 : Int) ≤ (x : Int) := Int.natCast_nonneg _
 have x1 : (x : Int) < (m : Int) := by omega
 go_wp2
 go_ret
 exact ⟨z, ⟨x, hx, hz⟩, rfl, hd1⟩
end Go.Proofs.YtdknoflkingodaaGreat
