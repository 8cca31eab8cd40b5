/- Short forms of the moves of a walk through one drawn region. -/
import Derived.Deep.RegionHeld3
import Derived.Test.YtepfinenocpneaaGreatRows
import Derived.WalkKit
set_option maxHeartbeats 16000000
namespace Go.Proofs.YtepfinenocpneaaGreat
open Value (int)
open IntKind (i64)
set_option maxRecDepth 100000
set_option linter.unusedVariables false
open Go.RowKit
section
variable {P : Program} {ops : Array Oper} {Q : Exit → Act → World → Prop} {md : Region.Mode} {S : World → Prop}
theorem tk (i : Nat) (oi : Oper) {v : Value} {fuel : Nat} {listed : Array Bool} {a : Act} {w : World} (hS : S w)
  (h : wpAnyH P md ops Q S fuel (listed.setIfInBounds i true) (a.put oi.dst v) w) (hi : ops[i]? = some oi := by rfl)
  (hs : Region.noSelect ops = true := by as_aux_lemma => kernel_rfl) (hf : Region.free md ops listed i = true := by as_aux_lemma => kernel_rfl) (hr : (Region.ready md ops listed).contains i = true := by as_aux_lemma => kernel_rfl)
  (hQ : ∀ c a w, Q (.panic c) (a.put oi.dst v) w → Q (.panic c) a w := by exact fun _ _ _ h => h) (hw : Region.wanted oi (yielded ops a.tmps) = true := by rfl)
  (hy : ∀ w, S w → (execOp a.eval oi).run P w = .ok (.value v) w := by intro w hSw; (try dsimp only at hSw); go_simp <;> with_reducible rfl) : wpAnyH P md ops Q S (fuel + 1) listed a w :=
 wpAnyH_take hi hs hf hr hQ (.inl ⟨hw, hy⟩) hS h
theorem sk (i : Nat) (oi : Oper) {fuel : Nat} {listed : Array Bool} {a : Act} {w : World} (hS : S w)
  (h : wpAnyH P md ops Q S fuel (listed.setIfInBounds i true) (a.put oi.dst undef) w) (hi : ops[i]? = some oi := by rfl)
  (hs : Region.noSelect ops = true := by as_aux_lemma => kernel_rfl) (hf : Region.free md ops listed i = true := by as_aux_lemma => kernel_rfl) (hr : (Region.ready md ops listed).contains i = true := by as_aux_lemma => kernel_rfl)
  (hQ : ∀ c a w, Q (.panic c) (a.put oi.dst undef) w → Q (.panic c) a w := by exact fun _ _ _ h => h) (hw : Region.wanted oi (yielded ops a.tmps) = false := by rfl) : wpAnyH P md ops Q S (fuel + 1) listed a w :=
 wpAnyH_take hi hs hf hr hQ (.inr ⟨hw, rfl⟩) hS h
theorem rd (i : Nat) (o : Oper) {fuel : Nat} {listed : Array Bool} {a : Act} {w : World}
  (h : ∀ K' : Act → World → Prop, Shut (∀ a w, S w → (S w → wpAnyH P md ops Q S fuel (listed.setIfInBounds i true) a w) → K' a w) → if Region.wanted o (yielded ops a.tmps) = true then Oper.wp P o a w K' Q else K' (a.put o.dst undef) w)
  (ho : ops[i]? = some o := by rfl) (hr : Region.ready md ops listed = [i] := by as_aux_lemma => kernel_rfl) : wpAnyH P md ops Q S (fuel + 1) listed a w :=
 wpAnyH_ready (rs := [i]) hr (by simp) (AllReadyH.cons ho h AllReadyH.nil)
theorem sc (i : Nat) (o : Oper) {fuel : Nat} {listed : Array Bool} {a : Act} {w : World} (hS : S w)
  (h : wpAnyH P md ops Q S fuel (listed.setIfInBounds i true) (a.put o.dst undef) w)
  (ho : ops[i]? = some o := by rfl) (hr : Region.ready md ops listed = [i] := by as_aux_lemma => kernel_rfl) (hw : Region.wanted o (yielded ops a.tmps) = false := by rfl) : wpAnyH P md ops Q S (fuel + 1) listed a w :=
 rd i o (fun K' hK => by rw [hw]; exact hK.out _ _ hS (fun _ => h)) ho hr
theorem ap (a : Act) (o : Option Tmp) (v : Value) : a.put o v = (match o with | some d => { a with tmps := a.tmps.setIfInBounds d v } | none => a) := rfl
theorem s1 {α : Type} (l : List α) (i : Nat) (a : α) : l.toArray.setIfInBounds i a = (l.set i a).toArray := List.setIfInBounds_toArray l i a
theorem s2 {α : Type} (x : α) (xs : List α) (a : α) : (x :: xs).set 0 a = a :: xs := rfl
theorem s3 {α : Type} (x : α) (xs : List α) (n : Nat) (a : α) : (x :: xs).set (n + 1) a = x :: xs.set n a := rfl
theorem sq : (∀ (a : Act) (o : Option Tmp) (v : Value), a.put o v = (match o with | some d => { a with tmps := a.tmps.setIfInBounds d v } | none => a)) ∧ (∀ {α : Type} (l : List α) (i : Nat) (a : α), l.toArray.setIfInBounds i a = (l.set i a).toArray) ∧ (∀ {α : Type} (x : α) (xs : List α) (a : α), (x :: xs).set 0 a = a :: xs) ∧ (∀ {α : Type} (x : α) (xs : List α) (n : Nat) (a : α), (x :: xs).set (n + 1) a = x :: xs.set n a) := ⟨ap, s1, s2, s3⟩
end
abbrev oq (d : Nat) (o : Op) (t : Nat) (p : String) (a : Array Edge) (g : Option (Nat × Bool)) : Oper := { dst := some d, op := o, type := t, pos := p, after := a, guard := g }
abbrev oz (o : Op) (t : Nat) (p : String) (a : Array Edge) (g : Option (Nat × Bool)) : Oper := { dst := none, op := o, type := t, pos := p, after := a, guard := g }
abbrev eD (n : Nat) : Edge := { on := n, ground := .data }
abbrev eG (n : Nat) : Edge := { on := n, ground := .guard }
abbrev eC (n : Nat) : Edge := { on := n, ground := .chain }
abbrev eP (n : Nat) : Edge := { on := n, ground := .phase }
section
variable {P : Program} {ops : Array Oper} {Q : Exit → Act → World → Prop} {md : Region.Mode} {S : World → Prop}
theorem wph {id : Nat} {a : Act} {w W : World} {B : Nat} {l1 : Array Bool} (HS : Hid (∀ wx, Below B W wx → S wx)) (hb : Below B W w.drew) (n : Nat)
    (h : wpAnyH P .any ops Q S ops.size l1 a w.drew) (hm : P.follows .mixedOrders = true := by kernel_rfl) (hl : Array.replicate ops.size false = (List.replicate n false).toArray := by as_aux_lemma => kernel_rfl)
    (hq : (List.replicate n false).toArray = l1 := by simp only [List.replicate]; rfl) : (Code.region id ops true).wp P Q a w := by
  subst hq; exact wp_region_held_drew hm (HS.out _ hb) (fun _ => hl ▸ h)
theorem wpd {fuel : Nat} {listed : Array Bool} {a : Act} {w : World} (h : Q .normal a w) (hr : Region.ready md ops listed = [] := by as_aux_lemma => kernel_rfl) : wpAnyH P md ops Q S fuel listed a w := wpAnyH_done hr h _
theorem nx {W w w' : World} (h : Below W.heap.size W w) (k : Below w.heap.size w w') : Below W.heap.size W w' := h.trans (k.mono h.size)
theorem tQ (i : Nat) (oi : Oper) {v : Value} {fuel : Nat} {listed l1 : Array Bool} {a a1 : Act} {w : World}
    (h : wpAnyH P md ops Q S fuel l1 a1 w) (hS : S w := by first | exact hs.out | exact HS.out _ hBc) (hi : ops[i]? = some oi := by rfl)
    (hs : Region.noSelect ops = true := by as_aux_lemma => kernel_rfl) (hf : Region.free md ops listed i = true := by as_aux_lemma => kernel_rfl) (hr : (Region.ready md ops listed).contains i = true := by as_aux_lemma => kernel_rfl)
    (hw : Region.wanted oi (yielded ops a.tmps) = true := by rfl)
    (hy : ∀ w, S w → (execOp a.eval oi).run P w = .ok (.value v) w := by intro w hSw; (try dsimp only at hSw); go_simp <;> with_reducible rfl)
    (hQ : ∀ c a w, Q (.panic c) (a.put oi.dst v) w → Q (.panic c) a w := by exact fun _ _ _ h => h)
    (hl : listed.setIfInBounds i true = l1 := by simp only [s1, s2, s3]; rfl) (ha : a.put oi.dst v = a1 := by simp only [sq]; rfl) : wpAnyH P md ops Q S (fuel + 1) listed a w := by
  subst hl ha; exact wpAnyH_take hi hs hf hr hQ (.inl ⟨hw, hy⟩) hS h
theorem sQ (i : Nat) (oi : Oper) {fuel : Nat} {listed l1 : Array Bool} {a a1 : Act} {w : World}
    (h : wpAnyH P md ops Q S fuel l1 a1 w) (hS : S w := by first | exact hs.out | exact HS.out _ hBc) (hi : ops[i]? = some oi := by rfl)
    (hs : Region.noSelect ops = true := by as_aux_lemma => kernel_rfl) (hf : Region.free md ops listed i = true := by as_aux_lemma => kernel_rfl) (hr : (Region.ready md ops listed).contains i = true := by as_aux_lemma => kernel_rfl)
    (hw : Region.wanted oi (yielded ops a.tmps) = false := by rfl)
    (hQ : ∀ c a w, Q (.panic c) (a.put oi.dst undef) w → Q (.panic c) a w := by exact fun _ _ _ h => h)
    (hl : listed.setIfInBounds i true = l1 := by simp only [s1, s2, s3]; rfl) (ha : a.put oi.dst undef = a1 := by simp only [sq]; rfl) : wpAnyH P md ops Q S (fuel + 1) listed a w := by
  subst hl ha; exact wpAnyH_take hi hs hf hr hQ (.inr ⟨hw, rfl⟩) hS h
theorem cQ (i : Nat) (o : Oper) {fuel : Nat} {listed l1 : Array Bool} {a a1 : Act} {w : World}
    (h : wpAnyH P md ops Q S fuel l1 a1 w) (hS : S w := by first | exact hs.out | exact HS.out _ hBc)
    (ho : ops[i]? = some o := by rfl) (hr : Region.ready md ops listed = [i] := by as_aux_lemma => kernel_rfl) (hw : Region.wanted o (yielded ops a.tmps) = false := by rfl)
    (hl : listed.setIfInBounds i true = l1 := by simp only [s1, s2, s3]; rfl) (ha : a.put o.dst undef = a1 := by simp only [sq]; rfl) : wpAnyH P md ops Q S (fuel + 1) listed a w := by
  subst hl ha; exact rd i o (fun K' hK => by rw [hw]; exact hK.out _ _ hS (fun _ => h)) ho hr
end
end Go.Proofs.YtepfinenocpneaaGreat
