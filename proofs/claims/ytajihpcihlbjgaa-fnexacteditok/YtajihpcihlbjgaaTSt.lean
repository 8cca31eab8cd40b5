/- A whole state is copied, and held against another. -/
import Derived.Test.YtajihpcihlbjgaaTSz
import Derived.Test.YtajihpcihlbjgaaTEq
import Derived.Test.YtajihpcihlbjgaaKRow
namespace Go.Proofs.Ytajihpcihlbjgaa
set_option maxRecDepth 100000
set_option linter.unusedVariables false
open Go.RowKit

/-- A state that can be read. -/
def StAt (w : World) (S : Sta) (u0 u1 u2 u3 : Value) : Prop := IntsAt w u0 S.l ∧ TaAt w u1 S.T ∧ LiAt w u2 S.L ∧ CeAt w u3 S.C
theorem StAt.below {w w' : World} {S : Sta} {u0 u1 u2 u3 : Value} (h : StAt w S u0 u1 u2 u3) (hb : Below w.heap.size w w') : StAt w' S u0 u1 u2 u3 := ⟨h.1.below hb, h.2.1.below hb, h.2.2.1.below hb, h.2.2.2.below hb⟩
theorem StAt.alloc {w : World} {S : Sta} {u0 u1 u2 u3 : Value} (h : StAt w S u0 u1 u2 u3) (o : Obj) : StAt (w.alloc o) S u0 u1 u2 u3 := h.below ((Below.refl _ _).alloc (Nat.le_refl _) _)
/-- A state of one's own: its four rows lie one behind another. -/
def OwnSt (w : World) (lo hi : Nat) (S : Sta) (u0 u1 u2 u3 : Value) : Prop := ∃ m1 m2 m3, lo ≤ m1 ∧ m1 ≤ m2 ∧ m2 ≤ m3 ∧ m3 ≤ hi ∧ Rw w lo m1 3 1 u0 S.l.length (intV S.l) ∧ Rw w m1 m2 45 3 u1 S.T.length (taV S.T) ∧ Rw w m2 m3 47 6 u2 S.L.length (liV S.L) ∧ Rw w m3 hi 42 8 u3 S.C.length (ceV S.C)
theorem OwnSt.at {w : World} {lo hi : Nat} {S : Sta} {u0 u1 u2 u3 : Value} (h : OwnSt w lo hi S u0 u1 u2 u3) : StAt w S u0 u1 u2 u3 := by
  obtain ⟨m1, m2, m3, -, -, -, -, h0, h1, h2, h3⟩ := h
  exact ⟨h0.ints, TaAt.own h1.1 rfl, LiAt.own h2.1 rfl, CeAt.own h3.1 rfl⟩
theorem StAt.shape {w : World} {S : Sta} {u0 u1 u2 u3 : Value} (h : StAt w S u0 u1 u2 u3) : ∃ a0 c0 a1 c1 a2 c2 a3 c3, u0 = .slice a0 S.l.length c0 ∧ u1 = .slice a1 S.T.length c1 ∧ u2 = .slice a2 S.L.length c2 ∧ u3 = .slice a3 S.C.length c3 := by
  obtain ⟨⟨a0, c0, rfl, -⟩, ⟨a1, c1, rfl, -⟩, ⟨a2, c2, rfl, -⟩, ⟨a3, c3, rfl, -⟩⟩ := h
  exact ⟨a0, c0, a1, c1, a2, c2, a3, c3, rfl, rfl, rfl, rfl⟩
theorem Row.st0 {w : World} {g : Nat} {T : TypeId} {c0 c1 c2 c3 : Value} (h : Row w g #[c0, c1, c2, c3] T) (x : Value) : Row (w.setCell ⟨g, 0, none⟩ x) g #[x, c1, c2, c3] T := h.set 0 x
theorem Row.st1 {w : World} {g : Nat} {T : TypeId} {c0 c1 c2 c3 : Value} (h : Row w g #[c0, c1, c2, c3] T) (x : Value) : Row (w.setCell ⟨g, 1, none⟩ x) g #[c0, x, c2, c3] T := h.set 1 x
theorem Row.st2 {w : World} {g : Nat} {T : TypeId} {c0 c1 c2 c3 : Value} (h : Row w g #[c0, c1, c2, c3] T) (x : Value) : Row (w.setCell ⟨g, 2, none⟩ x) g #[c0, c1, x, c3] T := h.set 2 x
theorem Row.st3 {w : World} {g : Nat} {T : TypeId} {c0 c1 c2 c3 : Value} (h : Row w g #[c0, c1, c2, c3] T) (x : Value) : Row (w.setCell ⟨g, 3, none⟩ x) g #[c0, c1, c2, x] T := h.set 3 x
theorem retState {fn : Func} {p : Tmp} (h : fn.results = #[.cell p 36]) {tmps : Array Value} {w : World} {g : Nat} {cs : Array Value} (hc : cs.size = 4) (hp : tmps.getD p undef = .pointer (some ⟨g, 0, none⟩)) (hg : Row w g cs 36) :
    (results fn tmps).run Try.prog w = .ok (.agg cs) w := results_cell_row h tmps w g 36 _ (0, 0) _ hp hg Try.underlying36 rfl (by rw [hc]; kernel_rfl)
theorem Rw.set {w : World} {lo hi g i : Nat} {e : TypeId} {sz n : Nat} {u x : Value} {xs : List Value} (h : Rw w lo hi e sz u n xs) (hg : g < lo) : Rw (w.setCell ⟨g, i, none⟩ x) lo hi e sz u n xs := ⟨own_set h.1 hg, h.2⟩
theorem Rw.wide {w : World} {lo hi hi' : Nat} {e : TypeId} {sz n : Nat} {u : Value} {xs : List Value} (h : Rw w lo hi e sz u n xs) (hh : hi ≤ hi') : Rw w lo hi' e sz u n xs := ⟨h.1, fun k hk => Nat.lt_of_lt_of_le (h.2 k hk) hh⟩
def zState : Array Value := #[.slice none 0 0, .slice none 0 0, .slice none 0 0, .slice none 0 0]
theorem Rw.lo {w : World} {lo lo' hi : Nat} {e : TypeId} {sz n : Nat} {u : Value} {xs : List Value} (h : Rw w lo hi e sz u n xs) (hh : lo' ≤ lo) : Rw w lo' hi e sz u n xs := ⟨own_base h.1 hh, h.2⟩

end Go.Proofs.Ytajihpcihlbjgaa
