/- What an act makes of a state; rows that are kept. -/
import Derived.Test.YtdknoflkingodaaGreatQ23
set_option maxHeartbeats 16000000
namespace Go.Proofs.YtdknoflkingodaaGreat
open Value (int)
open IntKind (i64)
set_option maxRecDepth 100000
set_option linter.unusedVariables false
open Go.RowKit
theorem Gz {k : Int} {o y : ByteArray} {v : Int} (h : J6 k o y v) (hk : k = 1 ∨ k = 4 ∨ k = 6) : 0 ≤ v ∧ v ≤ 999999 := by
 have h2 := h.2.2.2
 unfold UD at h2
 rwa [if_pos hk] at h2
def JE (m : Bool) (v : Int) (A : Ac) : Li := ⟨m, A.o, A.y, v, A.r, A.s⟩
def Zs (A : Ac) : Ce := ⟨A.o, A.r, A.s, A.t, A.x, A.z, A.v, false⟩
def ZI (x : Li) (l : List Li) : List Li := ins (fun y => decide (Jn x.r x.s y.r y.s)) x l
def UA (x : Ce) (l : List Ce) : List Ce := ins (fun y => decide (Jn x.r x.s y.r y.s)) x l
def ZB (C : List Ce) (k : Nat) : List Ce := match C[k]? with | some c => C.set k { c with g := true } | none => C
theorem Jd5 (l : List Ce) (k : Nat) (h : k < l.length) : (ceV l).set (k * 8 + 7) (.bool true) = ceV (ZB l k) := by
 have e : ZB l k = l.set k { l[k] with g := true } := by unfold ZB; simp [h]
 rw [e]
 clear e
 induction l generalizing k with
 | nil => simp at h
 | cons a l ih =>
  cases k with
  | zero => simp [ceV, Ce.cs]
  | succ k =>
   have := ih k (by simpa using h)
   have e : (k + 1) * 8 + 7 = k * 8 + 7 + 1 + 1 + 1 + 1 + 1 + 1 + 1 + 1 := by omega
   rw [e]
   show (Ce.cs a ++ ceV l).set _ _ = Ce.cs a ++ ceV (l.set k _)
   simp only [Ce.cs, List.cons_append, List.nil_append, List.set_cons_succ]
   rw [this]; rfl
theorem YS (l : List Ce) (k : Nat) : (ZB l k).length = l.length := by
 unfold ZB
 cases l[k]? with
 | none => rfl
 | some c => simp
def doS (S : Sta) (A : Ac) : Sta :=
 if A.k = 1 then ⟨S.l.set A.r.toNat A.s, JA S.T A.o A.r A.v, S.L, S.C⟩
 else if A.k = 2 then ⟨S.l.set A.r.toNat A.s, S.T, ZI (JE false 0 A) S.L, S.C⟩
 else if A.k = 3 then ⟨S.l.set A.r.toNat A.s, S.T, Je S.L false A.o A.y A.l, S.C⟩
 else if A.k = 4 then ⟨S.l.set A.r.toNat A.s, S.T, ZI (JE true A.v A) (Je S.L true A.o A.y A.l), S.C⟩
 else if A.k = 5 then ⟨S.l.set A.r.toNat A.s, S.T, Je S.L true A.o A.y A.l, S.C⟩
 else if A.k = 6 then ⟨S.l.set A.r.toNat A.s, S.T, S.L, UA (Zs A) S.C⟩
 else ⟨S.l.set A.r.toNat A.s, S.T, S.L, ZB S.C (cellAt S.C A.x A.z 0).toNat⟩
def Zp (p : Nat) (v0 v1 v2 v3 : Value) : Prop := (∀ k, v0.ownBlock = some k → k ≠ p) ∧ (∀ k, v1.ownBlock = some k → k ≠ p) ∧ (∀ k, v2.ownBlock = some k → k ≠ p) ∧ (∀ k, v3.ownBlock = some k → k ≠ p)
def FrB (w w' : World) (B p : Nat) : Prop := w'.os = w.os ∧ w'.tape = w.tape ∧ w'.output = w.output ∧ w.heap.size ≤ w'.heap.size ∧ ∀ j, j < B → j ≠ p → w'.heap[j]? = w.heap[j]?
theorem FrB.trans {w1 w2 w3 : World} {B p : Nat} (h : FrB w1 w2 B p) (k : FrB w2 w3 B p) : FrB w1 w3 B p := ⟨k.1.trans h.1, k.2.1.trans h.2.1, k.2.2.1.trans h.2.2.1, Nat.le_trans h.2.2.2.1 k.2.2.2.1, fun j hj hp => (k.2.2.2.2 j hj hp).trans (h.2.2.2.2 j hj hp)⟩
theorem FrB.grown {w w' : World} {B p : Nat} (h : w.grownBy w' (some p)) (hB : B ≤ w.heap.size) : FrB w w' B p := ⟨h.os, h.tape, h.output, h.size, fun j hj hp => h.block j (Nat.lt_of_lt_of_le hj hB) (fun e => hp (by injection e))⟩
theorem FrB.frm {w w' : World} {B p : Nat} {u : Value} (h : Frm w w' p u) (hB : B ≤ w.heap.size) (hu : ∀ j, u.ownBlock = some j → B ≤ j) : FrB w w' B p := ⟨h.1, h.2.1, h.2.2.1, h.2.2.2.1, fun j hj hp => h.2.2.2.2 j (Nat.lt_of_lt_of_le hj hB) hp (fun e => by have := hu j e; omega)⟩
theorem G0 {w w' : World} {B n s : Nat} {e : TypeId} {v : Value} {xs : List Value} (h : w.ownsRow B e s v n xs) (hs : ∀ j, v.ownBlock = some j → w'.heap[j]? = w.heap[j]?) : w'.ownsRow B e s v n xs := by
 obtain ⟨h1, h2⟩ := h
 refine ⟨h1, ?_⟩
 rcases h2 with h0 | ⟨g, cap, cur, rfl, hb, hg, r⟩
 ·exact .inl h0
 ·exact .inr ⟨g, cap, cur, rfl, hb, (hs g rfl).trans hg, r⟩
theorem ownO.same {w w' : World} {B : Nat} {a : Option Rwd} (h : ownO w B a) (hs : ∀ r, a = some r → ∀ j, r.v.ownBlock = some j → w'.heap[j]? = w.heap[j]?) : ownO w' B a := by
 cases a with
 | none => trivial
 | some r => exact G0 h (hs r rfl)
theorem ownO.lt {w : World} {B : Nat} {r : Rwd} (h : ownO w B (some r)) : ∀ j, r.v.ownBlock = some j → B ≤ j ∧ j < w.heap.size := fun j hj => World.ownsRow.lt h j hj
def JeR (p : Nat) : Option Rwd → Prop
 | none => True
 | some r => ∀ k, r.v.ownBlock = some k → k ≠ p
def Je1 (p : Nat) (a b c d : Option Rwd) : Prop := JeR p a ∧ JeR p b ∧ JeR p c ∧ JeR p d
theorem Own4.swap1 {w w' : World} {B p : Nat} {b c d : Option Rwd} {r q : Rwd} (h : Own4 w B (some r) b c d) (hoff : Je1 p (some r) b c d) (hF : ∀ k, k < w.heap.size → k ≠ p → r.v.ownBlock ≠ some k → w'.heap[k]? = w.heap[k]?) (ho : ownO w' B (some q)) (hq : ∀ k, q.v.ownBlock = some k → r.v.ownBlock = some k ∨ w.heap.size ≤ k) : Own4 w' B (some q) b c d := by
 obtain ⟨⟨h1, h2, h3, h4⟩, d1, d2, d3, d4, d5, d6⟩ := h
 obtain ⟨f1, f2, f3, f4⟩ := hoff
 have k2 : ownO w' B b := h2.same (fun x hx k hk => by subst hx; exact hF k (World.ownsRow.lt h2 k hk).2 (f2 k hk) (fun e => d1 k e hk))
 have k3 : ownO w' B c := h3.same (fun x hx k hk => by subst hx; exact hF k (World.ownsRow.lt h3 k hk).2 (f3 k hk) (fun e => d2 k e hk))
 have k4 : ownO w' B d := h4.same (fun x hx k hk => by subst hx; exact hF k (World.ownsRow.lt h4 k hk).2 (f4 k hk) (fun e => d3 k e hk))
 have n2 : apaO b (some q) := by
  cases b with
  | none => trivial
  | some x => exact fun k hk e => (hq k e).elim (fun e2 => d1 k e2 hk) (fun e2 => by have := (World.ownsRow.lt h2 k hk).2; omega)
 have n3 : apaO c (some q) := by
  cases c with
  | none => trivial
  | some x => exact fun k hk e => (hq k e).elim (fun e2 => d2 k e2 hk) (fun e2 => by have := (World.ownsRow.lt h3 k hk).2; omega)
 have n4 : apaO d (some q) := by
  cases d with
  | none => trivial
  | some x => exact fun k hk e => (hq k e).elim (fun e2 => d3 k e2 hk) (fun e2 => by have := (World.ownsRow.lt h4 k hk).2; omega)
 exact ⟨⟨ho, k2, k3, k4⟩, n2.sym, n3.sym, n4.sym, d4, d5, d6⟩
theorem Own4.swap2 {w w' : World} {B p : Nat} {a c d : Option Rwd} {r q : Rwd} (h : Own4 w B a (some r) c d) (hoff : Je1 p a (some r) c d) (hF : ∀ k, k < w.heap.size → k ≠ p → r.v.ownBlock ≠ some k → w'.heap[k]? = w.heap[k]?) (ho : ownO w' B (some q)) (hq : ∀ k, q.v.ownBlock = some k → r.v.ownBlock = some k ∨ w.heap.size ≤ k) : Own4 w' B a (some q) c d := by
 obtain ⟨⟨h1, h2, h3, h4⟩, d1, d2, d3, d4, d5, d6⟩ := h
 obtain ⟨f1, f2, f3, f4⟩ := hoff
 have k1 : ownO w' B a := h1.same (fun x hx k hk => by subst hx; exact hF k (World.ownsRow.lt h1 k hk).2 (f1 k hk) (fun e => d1 k hk e))
 have k3 : ownO w' B c := h3.same (fun x hx k hk => by subst hx; exact hF k (World.ownsRow.lt h3 k hk).2 (f3 k hk) (fun e => d4 k e hk))
 have k4 : ownO w' B d := h4.same (fun x hx k hk => by subst hx; exact hF k (World.ownsRow.lt h4 k hk).2 (f4 k hk) (fun e => d5 k e hk))
 have n1 : apaO a (some q) := by
  cases a with
  | none => trivial
  | some x => exact fun k hk e => (hq k e).elim (fun e2 => d1 k hk e2) (fun e2 => by have := (World.ownsRow.lt h1 k hk).2; omega)
 have n3 : apaO c (some q) := by
  cases c with
  | none => trivial
  | some x => exact fun k hk e => (hq k e).elim (fun e2 => d4 k e2 hk) (fun e2 => by have := (World.ownsRow.lt h3 k hk).2; omega)
 have n4 : apaO d (some q) := by
  cases d with
  | none => trivial
  | some x => exact fun k hk e => (hq k e).elim (fun e2 => d5 k e2 hk) (fun e2 => by have := (World.ownsRow.lt h4 k hk).2; omega)
 exact ⟨⟨k1, ho, k3, k4⟩, n1, d2, d3, n3.sym, n4.sym, d6⟩
theorem Own4.swap3 {w w' : World} {B p : Nat} {a b d : Option Rwd} {r q : Rwd} (h : Own4 w B a b (some r) d) (hoff : Je1 p a b (some r) d) (hF : ∀ k, k < w.heap.size → k ≠ p → r.v.ownBlock ≠ some k → w'.heap[k]? = w.heap[k]?) (ho : ownO w' B (some q)) (hq : ∀ k, q.v.ownBlock = some k → r.v.ownBlock = some k ∨ w.heap.size ≤ k) : Own4 w' B a b (some q) d := by
 obtain ⟨⟨h1, h2, h3, h4⟩, d1, d2, d3, d4, d5, d6⟩ := h
 obtain ⟨f1, f2, f3, f4⟩ := hoff
 have k1 : ownO w' B a := h1.same (fun x hx k hk => by subst hx; exact hF k (World.ownsRow.lt h1 k hk).2 (f1 k hk) (fun e => d2 k hk e))
 have k2 : ownO w' B b := h2.same (fun x hx k hk => by subst hx; exact hF k (World.ownsRow.lt h2 k hk).2 (f2 k hk) (fun e => d4 k hk e))
 have k4 : ownO w' B d := h4.same (fun x hx k hk => by subst hx; exact hF k (World.ownsRow.lt h4 k hk).2 (f4 k hk) (fun e => d6 k e hk))
 have n1 : apaO a (some q) := by
  cases a with
  | none => trivial
  | some x => exact fun k hk e => (hq k e).elim (fun e2 => d2 k hk e2) (fun e2 => by have := (World.ownsRow.lt h1 k hk).2; omega)
 have n2 : apaO b (some q) := by
  cases b with
  | none => trivial
  | some x => exact fun k hk e => (hq k e).elim (fun e2 => d4 k hk e2) (fun e2 => by have := (World.ownsRow.lt h2 k hk).2; omega)
 have n4 : apaO d (some q) := by
  cases d with
  | none => trivial
  | some x => exact fun k hk e => (hq k e).elim (fun e2 => d6 k e2 hk) (fun e2 => by have := (World.ownsRow.lt h4 k hk).2; omega)
 exact ⟨⟨k1, k2, ho, k4⟩, d1, n1, d3, n2, d5, n4.sym⟩
theorem Own4.swap4 {w w' : World} {B p : Nat} {a b c : Option Rwd} {r q : Rwd} (h : Own4 w B a b c (some r)) (hoff : Je1 p a b c (some r)) (hF : ∀ k, k < w.heap.size → k ≠ p → r.v.ownBlock ≠ some k → w'.heap[k]? = w.heap[k]?) (ho : ownO w' B (some q)) (hq : ∀ k, q.v.ownBlock = some k → r.v.ownBlock = some k ∨ w.heap.size ≤ k) : Own4 w' B a b c (some q) := by
 obtain ⟨⟨h1, h2, h3, h4⟩, d1, d2, d3, d4, d5, d6⟩ := h
 obtain ⟨f1, f2, f3, f4⟩ := hoff
 have k1 : ownO w' B a := h1.same (fun x hx k hk => by subst hx; exact hF k (World.ownsRow.lt h1 k hk).2 (f1 k hk) (fun e => d3 k hk e))
 have k2 : ownO w' B b := h2.same (fun x hx k hk => by subst hx; exact hF k (World.ownsRow.lt h2 k hk).2 (f2 k hk) (fun e => d5 k hk e))
 have k3 : ownO w' B c := h3.same (fun x hx k hk => by subst hx; exact hF k (World.ownsRow.lt h3 k hk).2 (f3 k hk) (fun e => d6 k hk e))
 have n1 : apaO a (some q) := by
  cases a with
  | none => trivial
  | some x => exact fun k hk e => (hq k e).elim (fun e2 => d3 k hk e2) (fun e2 => by have := (World.ownsRow.lt h1 k hk).2; omega)
 have n2 : apaO b (some q) := by
  cases b with
  | none => trivial
  | some x => exact fun k hk e => (hq k e).elim (fun e2 => d5 k hk e2) (fun e2 => by have := (World.ownsRow.lt h2 k hk).2; omega)
 have n3 : apaO c (some q) := by
  cases c with
  | none => trivial
  | some x => exact fun k hk e => (hq k e).elim (fun e2 => d6 k hk e2) (fun e2 => by have := (World.ownsRow.lt h3 k hk).2; omega)
 exact ⟨⟨k1, k2, k3, ho⟩, d1, d2, n1, d4, n2, n3⟩
theorem KR (a b c : Ta) (h : JQ a b) (k : JQ b c) : JQ a c := by
 rcases h with h | ⟨h1, h2⟩
 ·rcases k with k | ⟨k1, k2⟩
  ·exact .inl (List.lt_trans h k)
  ·exact .inl (k1 ▸ h)
 ·rcases k with k | ⟨k1, k2⟩
  ·exact .inl (h1 ▸ k)
  ·exact .inr ⟨h1.trans k1, by omega⟩
theorem KP {a b c d e f : Int} (h : Jn a b c d) (k : Jn c d e f) : Jn a b e f := by unfold Jn at *; omega
theorem VS {a b c d : Int} (h : ¬ (a = c ∧ b = d)) (k : ¬ Jn a b c d) : Jn c d a b := by unfold Jn at *; omega
theorem K0 (a b c : Li) (h : J4 a b) (k : J4 b c) : J4 a c := KP h k
theorem Zt (a b c : Ce) (h : JF a b) (k : JF b c) : JF a c := KP h k
theorem JaN {α : Type} {ok : α → Prop} {lt : α → α → Prop} (ht : ∀ a b c, lt a b → lt b c → lt a c) (r : α → Bool) (x : α) (l : List α) (h : Asc ok lt l) (hx : ok x) (h1 : ∀ a ∈ l, r a = true → lt x a) (h2 : ∀ a ∈ l, r a = false → lt a x) : Asc ok lt (ins r x l) := by
 refine Asc.of_pair (fun a ha => ?_) (JdO lt ht r x l (h.pair ht) h1 h2)
 rcases (Zr r x l a).1 ha with e | e
 ·exact e ▸ hx
 ·exact h.mem a e
theorem JbY {α : Type} {ok : α → Prop} {lt : α → α → Prop} (ht : ∀ a b c, lt a b → lt b c → lt a c) (f : α → Bool) (l : List α) (h : Asc ok lt l) : Asc ok lt (l.filter f) :=
 Asc.of_pair (fun a ha => h.mem a (List.mem_filter.1 ha).1) ((h.pair ht).filter f)
theorem Jcm (l : List Li) (x : Li) (h : Asc Ue J4 l) (hx : Ue x) (hd : ∀ a ∈ l, ¬ (x.r = a.r ∧ x.s = a.s)) : Asc Ue J4 (ZI x l) :=
 JaN K0 _ x l h hx (fun a _ e => (of_decide_eq_true e : Jn x.r x.s a.r a.s)) (fun a ha e => VS (hd a ha) (of_decide_eq_false e : ¬ Jn x.r x.s a.r a.s))
theorem Je3 (l : List Ce) (x : Ce) (h : Asc Ge JF l) (hx : Ge x) (hd : ∀ a ∈ l, ¬ (x.r = a.r ∧ x.s = a.s)) : Asc Ge JF (UA x l) :=
 JaN Zt _ x l h hx (fun a _ e => (of_decide_eq_true e : Jn x.r x.s a.r a.s)) (fun a ha e => VS (hd a ha) (of_decide_eq_false e : ¬ Jn x.r x.s a.r a.s))
theorem GP (l : List Li) (m : Bool) (o y : ByteArray) (kl : List Int) (h : Asc Ue J4 l) : Asc Ue J4 (Je l m o y kl) := JbY K0 _ l h
theorem Jb5 (T : List Ta) (o : ByteArray) (r v : Int) (h : Asc Yg JQ T) (ho : NOk o) (hr : 0 ≤ r ∧ r ≤ 2) (hv : 0 ≤ v ∧ v ≤ 999999) : Asc Yg JQ (JA T o r v) := by
 unfold JA
 cases e : T.findIdx? (Gd o r) with
 | some i =>
  obtain ⟨hi, h1, -⟩ := List.findIdx?_eq_some_iff_getElem.1 e
  simp only [List.getElem?_eq_getElem hi]
  intro j hj
  rw [List.length_set] at hj
  have key : ∀ q (hq : q < T.length), ∃ n, 0 ≤ n ∧ n ≤ 999999 ∧ (T.set i { T[i] with n := (T[i].n + v) % 1000000 })[q]'(by rw [List.length_set]; exact hq) = { T[q] with n := n } := by
   intro q hq
   by_cases hqi : i = q
   ·subst hqi
    exact ⟨(T[i].n + v) % 1000000, by omega, by omega, by rw [List.getElem_set_self]⟩
   ·have := (h q hq).1.2.2
    exact ⟨T[q].n, this.1, this.2, by rw [List.getElem_set_ne hqi]⟩
  obtain ⟨n, n1, n2, e1⟩ := key j hj
  rw [e1]
  have hjj := h j hj
  refine ⟨⟨hjj.1.1, hjj.1.2.1, n1, n2⟩, fun h0 => ?_⟩
  obtain ⟨m, -, -, e2⟩ := key (j - 1) (by omega)
  rw [e2]
  exact hjj.2 h0
 | none =>
  have hno := List.findIdx?_eq_none_iff.1 e
  refine JaN KR _ _ T h ⟨ho, hr, hv⟩ (fun a _ hg => ?_) (fun a ha hg => ?_)
  ·rcases of_decide_eq_true hg with e | ⟨e1, e2⟩
   ·exact .inl e
   ·exact .inr ⟨e1.symm, e2⟩
  ·have hn := hno a ha
   have hg' := of_decide_eq_false hg
   by_cases hao : a.o = o
   ·right
    refine ⟨hao, ?_⟩
    have h3 : ¬ a.r = r := fun e => by
     have : Gd o r a = true := by unfold Gd; exact decide_eq_true ⟨hao, e⟩
     rw [this] at hn; cases hn
    have h4 : ¬ r < a.r := fun e => hg' (.inr ⟨hao, e⟩)
    show a.r < r
    omega
   ·left
    have h5 : ¬ o.data.toList < a.o.data.toList := fun e => hg' (.inl e)
    exact Jec (List.not_lt.1 h5) (fun e => hao (ByteArray.ext (Array.ext' e)))
theorem JdY (C : List Ce) (k : Nat) (h : Asc Ge JF C) : Asc Ge JF (ZB C k) := by
 unfold ZB
 cases e : C[k]? with
 | none => exact h
 | some c =>
  obtain ⟨hk, e1⟩ := List.getElem?_eq_some_iff.1 e
  have key : ∀ q (hq : q < C.length), ∃ g, (C.set k { c with g := true })[q]'(by rw [List.length_set]; exact hq) = { C[q] with g := g } := by
   intro q hq
   by_cases hqi : k = q
   ·subst hqi
    exact ⟨true, by rw [List.getElem_set_self, e1]⟩
   ·exact ⟨C[q].g, by rw [List.getElem_set_ne hqi]⟩
  intro j hj
  have hj' : j < C.length := by simpa using hj
  obtain ⟨g, e2⟩ := key j hj'
  show Ge (C.set k { c with g := true })[j] ∧ _
  rw [e2]
  refine ⟨(h j hj').1, fun h0 => ?_⟩
  obtain ⟨g', e3⟩ := key (j - 1) (by omega)
  show JF (C.set k { c with g := true })[j - 1] _
  rw [e3]
  exact (h j hj').2 h0
theorem Jb7 {l : List Int} (h : KOk l) (rn : Nat) {s : Int} (hs : 0 ≤ s ∧ s ≤ 1000) : KOk (l.set rn s) :=
 ⟨by rw [List.length_set]; exact h.1, fun x hx => (List.mem_or_eq_of_mem_set hx).elim (h.2 x) (fun e => e ▸ hs)⟩
theorem Jdd {l : List Int} (h : KOk l) (rn : Nat) {s r' s' : Int} (hs : 0 ≤ s ∧ s ≤ 1000) (hge : l.getD rn 0 ≤ s) (hk : Jd l r' s' = true) : Jd (l.set rn s) r' s' = true := by
 unfold Jd at *
 simp only [Bool.and_eq_true, decide_eq_true_eq] at *
 refine ⟨⟨Jb7 h rn hs, hk.1.2⟩, ?_⟩
 have h2 := hk.2
 by_cases e : rn = r'.toNat
 ·subst e
  by_cases hl : r'.toNat < l.length
  ·rw [show (l.set r'.toNat s).getD r'.toNat 0 = s by simp [List.getD, hl]]; omega
  ·rw [List.set_eq_of_length_le (by omega)]; exact h2
 ·rw [show (l.set rn s).getD r'.toNat 0 = l.getD r'.toNat 0 by simp [List.getD, e]]; exact h2
theorem Jc1 {l : List Int} (h : KOk l) {rn : Nat} {s : Int} (hd : DOk (rn : Int) s) : Jd (l.set rn s) (rn : Int) s = true := by
 unfold Jd
 simp only [Bool.and_eq_true, decide_eq_true_eq]
 have hl := h.1
 have h3 := hd.2.1
 refine ⟨⟨Jb7 h rn ⟨by have := hd.2.2.1; omega, hd.2.2.2⟩, hd⟩, ?_⟩
 rw [show ((rn : Int)).toNat = rn by omega, show (l.set rn s).getD rn 0 = s by simp [List.getD, show rn < l.length by omega]]
 exact Int.le_refl _
theorem JeI {l m : List Int} {rn : Nat} {s : Int} (hm : KOk m) (hl : KOk l) (hd : DOk (rn : Int) s) (hk : Jd m (rn : Int) s = false) : m.getD rn 0 ≤ s := by
 unfold Jd at hk
 rw [decide_eq_true hm, decide_eq_true hd] at hk
 simp only [Bool.true_and, decide_eq_false_iff_not] at hk
 rw [show ((rn : Int)).toNat = rn by omega] at hk
 omega
theorem Vu {l : List Int} {r s r' s' : Int} (h : Jd l r s = false) (k : Jd l r' s' = true) : ¬ (r = r' ∧ s = s') := fun e => by rw [e.1, e.2, k] at h; cases h
theorem UJ : ∀ (C : List Ce) (k0 : Int) (b : Ce), C.Pairwise JF → b ∈ C → ∃ k, ∃ h : k < C.length, cellAt C b.r b.s k0 = k0 + (k : Int) ∧ C[k] = b
 | [], _, _, _, h => by cases h
 | c :: l, k0, b, hp, hb => by
  by_cases e : c.r = b.r ∧ c.s = b.s
  ·rcases List.mem_cons.1 hb with rfl | hb
   ·exact ⟨0, by simp, by unfold cellAt; rw [if_pos e]; simp, rfl⟩
   ·have := List.rel_of_pairwise_cons hp hb
    unfold JF Jn at this; omega
  ·rcases List.mem_cons.1 hb with rfl | hb
   ·exact absurd ⟨rfl, rfl⟩ e
   ·obtain ⟨k, hk, h1, h2⟩ := UJ l (k0 + 1) b (List.Pairwise.of_cons hp) hb
    refine ⟨k + 1, by simpa using hk, ?_, by simpa using h2⟩
    unfold cellAt; rw [if_neg e, h1]; omega
theorem V7 : ∀ (l : List Ce) (r s k : Int), cellAt l r s k = -1 ∨ k ≤ cellAt l r s k
 | [], _, _, _ => .inl rfl
 | c :: l, r, s, k => by
  unfold cellAt
  by_cases hc : c.r = r ∧ c.s = s
  ·rw [if_pos hc]; exact .inr (Int.le_refl _)
  ·rw [if_neg hc]
   rcases V7 l r s (k + 1) with h | h
   ·exact .inl h
   ·right; omega
theorem Kg : ∀ (C : List Ce) (r s k0 : Int) (k : Nat) (h : k < C.length), 0 ≤ k0 → cellAt C r s k0 = k0 + (k : Int) → C[k].r = r ∧ C[k].s = s
 | [], _, _, _, k, h, _, _ => by simp at h
 | c :: l, r, s, k0, k, h, h0, e => by
  unfold cellAt at e
  by_cases hc : c.r = r ∧ c.s = s
  ·rw [if_pos hc] at e
   obtain rfl : k = 0 := by omega
   exact hc
  ·rw [if_neg hc] at e
   cases k with
   | zero =>
    exfalso
    have := V7 l r s (k0 + 1)
    simp only [Int.ofNat_zero] at e
    omega
   | succ k => exact Kg l r s (k0 + 1) k (by simpa using h) (by omega) (by rw [e]; push_cast; omega)
theorem UX {C : List Ce} (hp : C.Pairwise JF) (a : Ce) : ZV C a ↔ (a.x = 0 ∧ a.z = 0) ∨ ∃ b ∈ C, b.r = a.x ∧ b.s = a.z ∧ b.o = a.o ∧ b.t < a.t := by
 constructor
 ·rintro (h | ⟨k, h, h1, h2, h3⟩)
  ·exact .inl h
  ·have := Kg C a.x a.z 0 k h (Int.le_refl _) (by omega)
   exact .inr ⟨C[k], List.getElem_mem h, this.1, this.2, h2, h3⟩
 ·rintro (h | ⟨b, hb, h1, h2, h3, h4⟩)
  ·exact .inl h
  ·obtain ⟨k, hk, e1, e2⟩ := UJ C 0 b hp hb
   exact .inr ⟨k, hk, by rw [← h1, ← h2, e1]; omega, by rw [e2]; exact h3, by rw [e2]; exact h4⟩
def JfB (a b : Ce) : Prop := a.o = b.o ∧ a.r = b.r ∧ a.s = b.s ∧ a.t = b.t ∧ a.x = b.x ∧ a.z = b.z
theorem GI (C : List Ce) (k : Nat) : ∀ a ∈ ZB C k, ∃ b ∈ C, JfB a b := by
 intro a ha
 unfold ZB at ha
 cases e : C[k]? with
 | none => rw [e] at ha; exact ⟨a, ha, rfl, rfl, rfl, rfl, rfl, rfl⟩
 | some c =>
  rw [e] at ha
  obtain ⟨hk, e1⟩ := List.getElem?_eq_some_iff.1 e
  rcases List.mem_or_eq_of_mem_set ha with h | h
  ·exact ⟨a, h, rfl, rfl, rfl, rfl, rfl, rfl⟩
  ·exact ⟨c, e1 ▸ List.getElem_mem hk, by rw [h], by rw [h], by rw [h], by rw [h], by rw [h], by rw [h]⟩
theorem Jds (C : List Ce) (k : Nat) : ∀ b ∈ C, ∃ a ∈ ZB C k, JfB a b := by
 intro b hb
 unfold ZB
 cases e : C[k]? with
 | none => exact ⟨b, hb, rfl, rfl, rfl, rfl, rfl, rfl⟩
 | some c =>
  obtain ⟨hk, e1⟩ := List.getElem?_eq_some_iff.1 e
  obtain ⟨j, hj, e2⟩ := List.mem_iff_getElem.1 hb
  by_cases hjk : k = j
  ·subst hjk
   have hbc : b = c := by rw [← e2, e1]
   refine ⟨{ c with g := true }, List.mem_iff_getElem.2 ⟨k, by simpa using hk, by simp⟩, ?_⟩
   rw [hbc]; exact ⟨rfl, rfl, rfl, rfl, rfl, rfl⟩
  ·refine ⟨b, List.mem_iff_getElem.2 ⟨j, by simpa using hj, ?_⟩, rfl, rfl, rfl, rfl, rfl, rfl⟩
   rw [List.getElem_set_ne hjk]; exact e2
theorem SOk.of {l : List Int} {T : List Ta} {L : List Li} {C : List Ce} (h1 : KOk l) (h2 : GR T) (h3 : Ug L) (h4 : Ut C) (h5 : ∀ a ∈ L, Jd l a.r a.s = true) (h6 : ∀ a ∈ C, Jd l a.r a.s = true) (h7 : ∀ a ∈ C, (a.x = 0 ∧ a.z = 0) ∨ ∃ b ∈ C, b.r = a.x ∧ b.s = a.z ∧ b.o = a.o ∧ b.t < a.t) : SOk ⟨l, T, L, C⟩ :=
 ⟨h1, h2, h3, h4, fun i hi => h5 _ (List.getElem_mem hi), fun i hi => ⟨h6 _ (List.getElem_mem hi), (UX (h4.2.pair Zt) _).2 (h7 _ (List.getElem_mem hi))⟩⟩
theorem SOk.lives {S : Sta} (h : SOk S) : ∀ a ∈ S.L, Jd S.l a.r a.s = true := fun a ha => by
 obtain ⟨i, hi, rfl⟩ := List.mem_iff_getElem.1 ha
 exact h.2.2.2.2.1 i hi
theorem SOk.cells {S : Sta} (h : SOk S) : ∀ a ∈ S.C, Jd S.l a.r a.s = true := fun a ha => by
 obtain ⟨i, hi, rfl⟩ := List.mem_iff_getElem.1 ha
 exact (h.2.2.2.2.2 i hi).1
theorem SOk.refs {S : Sta} (h : SOk S) : ∀ a ∈ S.C, (a.x = 0 ∧ a.z = 0) ∨ ∃ b ∈ S.C, b.r = a.x ∧ b.s = a.z ∧ b.o = a.o ∧ b.t < a.t := fun a ha => by
 obtain ⟨i, hi, rfl⟩ := List.mem_iff_getElem.1 ha
 exact (UX (h.2.2.2.1.2.pair Zt) _).1 (h.2.2.2.2.2 i hi).2
theorem JdR {k : Int} {o y : ByteArray} {v : Int} (h : J6 k o y v) (hk : 2 ≤ k ∧ k ≤ 5) : NOk y := by
 have h2 := h.2.2.1
 unfold GE at h2
 rwa [if_pos hk] at h2
theorem SOk.step {S : Sta} {A : Ac} (hS : SOk S) (hA : AOk A) (hk : Jd S.l A.r A.s = false) (hr : JU S A) (hf : (doS S A).T.length ≤ 120 ∧ (doS S A).L.length ≤ 120 ∧ (doS S A).C.length ≤ 120) : SOk (doS S A) := by
 obtain ⟨rn, hrn⟩ : ∃ rn : Nat, A.r = rn := Int.eq_ofNat_of_zero_le hA.1.1
 have hn : A.r.toNat = rn := by omega
 have hd : DOk (rn : Int) A.s := hrn ▸ hA.1
 have hs : 0 ≤ A.s ∧ A.s ≤ 1000 := ⟨by have := hA.1.2.2.1; omega, hA.1.2.2.2⟩
 have hk' : Jd S.l (rn : Int) A.s = false := hrn ▸ hk
 have hge := JeI hS.1 hS.1 hd hk'
 have hl' : KOk (S.l.set rn A.s) := Jb7 hS.1 rn hs
 have mono : ∀ r s, Jd S.l r s = true → Jd (S.l.set rn A.s) r s = true := fun r s h => Jdd hS.1 rn hs hge h
 have hnew : Jd (S.l.set rn A.s) A.r A.s = true := by rw [hrn]; exact Jc1 hS.1 hd
 have hP := hA.2.2.2.2.1
 have hNo : NOk A.o := hP.2.1
 have m5 : ∀ a ∈ S.L, Jd (S.l.set rn A.s) a.r a.s = true := fun a ha => mono _ _ (hS.lives a ha)
 have m6 : ∀ a ∈ S.C, Jd (S.l.set rn A.s) a.r a.s = true := fun a ha => mono _ _ (hS.cells a ha)
 have hc : A.k = 1 ∨ A.k = 2 ∨ A.k = 3 ∨ A.k = 4 ∨ A.k = 5 ∨ A.k = 6 ∨ A.k = 7 := by have := hP.1; omega
 have mc : ∀ m, ∀ a ∈ Je S.L m A.o A.y A.l, a ∈ S.L := fun m a ha => (List.mem_filter.1 ha).1
 rcases hc with h | h | h | h | h | h | h
 ·have e : doS S A = ⟨S.l.set rn A.s, JA S.T A.o A.r A.v, S.L, S.C⟩ := by unfold doS; rw [hn, h]; rfl
  rw [e] at hf ⊢
  exact SOk.of hl' ⟨hf.1, Jb5 S.T A.o A.r A.v hS.2.1.2 hNo ⟨by omega, by have := hd.2.1; omega⟩ (Gz hP (.inl h))⟩ hS.2.2.1 hS.2.2.2.1 m5 m6 hS.refs
 ·have e : doS S A = ⟨S.l.set rn A.s, S.T, ZI (JE false 0 A) S.L, S.C⟩ := by unfold doS; rw [hn, h]; rfl
  rw [e] at hf ⊢
  refine SOk.of hl' hS.2.1 ⟨hf.2.1, Jcm _ _ hS.2.2.1.2 ⟨hA.1, hNo, JdR hP (by omega), by show (0 : Int) ≤ 0 ∧ (0 : Int) ≤ 999999; omega, fun _ => rfl⟩ (fun a ha => Vu hk (hS.lives a ha))⟩ hS.2.2.2.1 (fun a ha => ?_) m6 hS.refs
  rcases (Zr _ _ _ a).1 ha with e | e
  ·rw [e]; exact hnew
  ·exact m5 a e
 ·have e : doS S A = ⟨S.l.set rn A.s, S.T, Je S.L false A.o A.y A.l, S.C⟩ := by unfold doS; rw [hn, h]; rfl
  rw [e] at hf ⊢
  exact SOk.of hl' hS.2.1 ⟨hf.2.1, GP _ _ _ _ _ hS.2.2.1.2⟩ hS.2.2.2.1 (fun a ha => m5 a (mc _ a ha)) m6 hS.refs
 ·have e : doS S A = ⟨S.l.set rn A.s, S.T, ZI (JE true A.v A) (Je S.L true A.o A.y A.l), S.C⟩ := by unfold doS; rw [hn, h]; rfl
  rw [e] at hf ⊢
  refine SOk.of hl' hS.2.1 ⟨hf.2.1, Jcm _ _ (GP _ _ _ _ _ hS.2.2.1.2) ⟨hA.1, hNo, JdR hP (by omega), Gz hP (.inr (.inl h)), fun e => by cases e⟩ (fun a ha => Vu hk (hS.lives a (mc _ a ha)))⟩ hS.2.2.2.1 (fun a ha => ?_) m6 hS.refs
  rcases (Zr _ _ _ a).1 ha with e | e
  ·rw [e]; exact hnew
  ·exact m5 a (mc _ a e)
 ·have e : doS S A = ⟨S.l.set rn A.s, S.T, Je S.L true A.o A.y A.l, S.C⟩ := by unfold doS; rw [hn, h]; rfl
  rw [e] at hf ⊢
  exact SOk.of hl' hS.2.1 ⟨hf.2.1, GP _ _ _ _ _ hS.2.2.1.2⟩ hS.2.2.2.1 (fun a ha => m5 a (mc _ a ha)) m6 hS.refs
 ·have e : doS S A = ⟨S.l.set rn A.s, S.T, S.L, UA (Zs A) S.C⟩ := by unfold doS; rw [hn, h]; rfl
  rw [e] at hf ⊢
  have hro := hA.2.2.2.2.2
  unfold KN at hro
  rw [if_neg (by omega), if_pos h] at hro
  have hre : (A.x = 0 ∧ A.z = 0) ∨ DOk A.x A.z := hro.elim .inl (fun e => .inr (by unfold Jd at e; simp only [Bool.and_eq_true, decide_eq_true_eq] at e; exact e.1.2))
  refine SOk.of hl' hS.2.1 hS.2.2.1 ⟨hf.2.2, Je3 _ _ hS.2.2.2.1.2 ⟨hA.1, hNo, hA.2.2.2.1, Gz hP (.inr (.inr h)), hre⟩ (fun a ha => Vu hk (hS.cells a ha))⟩ m5 (fun a ha => ?_) (fun a ha => ?_)
  ·rcases (Zr _ _ _ a).1 ha with e | e
   ·rw [e]; exact hnew
   ·exact m6 a e
  ·rcases (Zr _ _ _ a).1 ha with e | e
   ·rcases hr with ⟨-, hr⟩ | ⟨k, hk1, h1, h2, h3⟩
    ·rw [e]; exact .inl (hr.resolve_left (fun e => e h))
    ·have := Kg S.C A.x A.z 0 k hk1 (Int.le_refl _) (by omega)
     rw [e]
     exact .inr ⟨S.C[k], (Zr _ _ _ _).2 (.inr (List.getElem_mem hk1)), this.1, this.2, h2, h3.resolve_left (by omega)⟩
   ·rcases hS.refs a e with h0 | ⟨b, hb, h1⟩
    ·exact .inl h0
    ·exact .inr ⟨b, (Zr _ _ _ _).2 (.inr hb), h1⟩
 ·have e : doS S A = ⟨S.l.set rn A.s, S.T, S.L, ZB S.C (cellAt S.C A.x A.z 0).toNat⟩ := by unfold doS; rw [hn, h]; rfl
  rw [e] at hf ⊢
  refine SOk.of hl' hS.2.1 hS.2.2.1 ⟨hf.2.2, JdY _ _ hS.2.2.2.1.2⟩ m5 (fun a ha => ?_) (fun a ha => ?_)
  ·obtain ⟨b, hb, e⟩ := GI _ _ a ha
   rw [e.2.1, e.2.2.1]; exact m6 b hb
  ·obtain ⟨b, hb, e⟩ := GI _ _ a ha
   rcases hS.refs b hb with h0 | ⟨c, hc, h1, h2, h3, h4⟩
   ·left; rw [e.2.2.2.2.1, e.2.2.2.2.2]; exact h0
   ·obtain ⟨d, hd2, f⟩ := Jds S.C (cellAt S.C A.x A.z 0).toNat c hc
    refine .inr ⟨d, hd2, ?_, ?_, ?_, ?_⟩
    ·rw [f.2.1, h1, e.2.2.2.2.1]
    ·rw [f.2.2.1, h2, e.2.2.2.2.2]
    ·rw [f.1, h3, e.1]
    ·rw [f.2.2.2.1, e.2.2.2.1]; exact h4
def Zo (a b : Ce) : Bool := if a.t = b.t then (if a.r = b.r then decide (b.s < a.s) else decide (b.r < a.r)) else decide (b.t < a.t)
def K8 (o : ByteArray) (x z : Int) (c : Ce) : Bool := decide (c.o = o ∧ c.x = x ∧ c.z = z)
def J0 (C : List Ce) (o : ByteArray) (x z : Int) : List Ce := C.foldl (fun l c => if K8 o x z c then ins (fun y => Zo c y) c l else l) []
theorem Y5 (C : List Ce) (c : Ce) (o : ByteArray) (x z : Int) : J0 (C ++ [c]) o x z = if K8 o x z c then ins (fun y => Zo c y) c (J0 C o x z) else J0 C o x z := by unfold J0; rw [List.foldl_append]; rfl
theorem UF (o : ByteArray) (x z : Int) (C : List Ce) : (J0 C o x z).Perm (C.filter (K8 o x z)) := by
 suffices h : ∀ D : List Ce, (J0 D.reverse o x z).Perm (D.reverse.filter (K8 o x z)) by have := h C.reverse; rwa [List.reverse_reverse] at this
 intro D
 induction D with
 | nil => exact List.Perm.refl _
 | cons c D ih =>
  rw [List.reverse_cons, Y5, List.filter_append]
  by_cases hc : K8 o x z c = true
  ·rw [if_pos hc]
   have e : [c].filter (K8 o x z) = [c] := by simp [List.filter, hc]
   rw [e]
   refine (Jbv _ _ _).trans ?_
   refine (List.Perm.cons _ ih).trans ?_
   exact (List.perm_append_comm (l₁ := [c]))
  ·rw [if_neg hc]
   have e : [c].filter (K8 o x z) = [] := by simp [List.filter, hc]
   rw [e, List.append_nil]
   exact ih
theorem Ka {C : List Ce} {o : ByteArray} {x z : Int} {c : Ce} : c ∈ J0 C o x z ↔ c ∈ C ∧ c.o = o ∧ c.x = x ∧ c.z = z := by
 rw [(UF o x z C).mem_iff, List.mem_filter]; unfold K8; simp
theorem Jd4 (C : List Ce) (o : ByteArray) (x z : Int) : (J0 C o x z).length ≤ C.length := by
 rw [(UF o x z C).length_eq]; exact List.length_filter_le _ _
def below (C : List Ce) (o : ByteArray) : Nat → Int → Int → List Ce
 | 0, _, _ => []
 | n + 1, x, z => (J0 C o x z).flatMap fun k => k :: below C o n k.r k.s
structure Tree (C : List Ce) : Prop where
 one : ∀ a ∈ C, ∀ b ∈ C, a.r = b.r → a.s = b.s → a = b
 nod : C.Nodup
 pos : ∀ a ∈ C, 1 ≤ a.s
 tim : ∀ a ∈ C, 1 ≤ a.t ∧ a.t ≤ 10000
 up : ∀ a ∈ C, (a.x = 0 ∧ a.z = 0) ∨ ∃ b ∈ C, b.r = a.x ∧ b.s = a.z ∧ b.o = a.o ∧ b.t < a.t
inductive Up (C : List Ce) (k : Ce) : Ce → Prop
 | here {c : Ce} (h : c ∈ C) (hx : c.x = k.r) (hz : c.z = k.s) : Up C k c
 | more {c p : Ce} (h : c ∈ C) (hp : p ∈ C) (hx : c.x = p.r) (hz : c.z = p.s) (hu : Up C k p) : Up C k c
theorem Tree.par {C : List Ce} (T : Tree C) {a p : Ce} (ha : a ∈ C) (hp : p ∈ C) (hx : a.x = p.r) (hz : a.z = p.s) : p.t < a.t := by
 rcases T.up a ha with ⟨h1, h2⟩ | ⟨b, hb, h1, h2, -, h4⟩
 ·have := T.pos p hp; omega
 ·rw [T.one p hp b hb (by omega) (by omega)]; exact h4
theorem Up.late {C : List Ce} (T : Tree C) {k c : Ce} (hk : k ∈ C) (h : Up C k c) : k.t < c.t := by
 induction h with
 | here h hx hz => exact T.par h hk hx hz
 | more h hp hx hz hu ih => exact Int.lt_trans ih (T.par h hp hx hz)
theorem Up.beside {C : List Ce} (T : Tree C) {k j : Ce} (hk : k ∈ C) (hj : j ∈ C) (ex : j.x = k.x) (ez : j.z = k.z) (h : Up C k j) : False := by
 cases h with
 | here h hx hz => have := T.par hk hk (by omega) (by omega); omega
 | more h hp hx hz hu =>
  have h1 := Up.late T hk hu
  have h2 := T.par hk hp (by omega) (by omega)
  omega
theorem Up.one {C : List Ce} (T : Tree C) {k j c : Ce} (hk : k ∈ C) (hj : j ∈ C) (ex : j.x = k.x) (ez : j.z = k.z) (h1 : Up C k c) (h2 : Up C j c) : k = j := by
 induction h1 with
 | here h hx hz =>
  cases h2 with
  | here _ hx' hz' => exact T.one k hk j hj (by omega) (by omega)
  | more _ hp hx' hz' hu =>
   rw [T.one _ hp k hk (by omega) (by omega)] at hu
   exact (Up.beside T hj hk ex.symm ez.symm hu).elim
 | more h hp hx hz hu ih =>
  cases h2 with
  | here _ hx' hz' =>
   rw [T.one _ hp j hj (by omega) (by omega)] at hu
   exact (Up.beside T hk hj ex ez hu).elim
  | more _ hp' hx' hz' hu' =>
   rw [T.one _ hp' _ hp (by omega) (by omega)] at hu'
   exact ih hu'
theorem KG {C : List Ce} {o : ByteArray} : ∀ (n : Nat) {k c : Ce}, k ∈ C → c ∈ below C o n k.r k.s → Up C k c
 | 0, k, c, _, h => by simp [below] at h
 | n + 1, k, c, hk, h => by
  unfold below at h
  obtain ⟨j, hj, hc⟩ := List.mem_flatMap.1 h
  obtain ⟨hjC, -, hx, hz⟩ := Ka.1 hj
  rcases List.mem_cons.1 hc with rfl | hd
  ·exact .here hjC hx hz
  ·have := KG n hjC hd
   clear h hc hd
   induction this with
   | here h hx' hz' => exact .more h hjC hx' hz' (.here hjC hx hz)
   | more h hp hx' hz' hu ih => exact .more h hp hx' hz' ih
theorem UK {C : List Ce} {o : ByteArray} : ∀ (n : Nat) {x z : Int} {c : Ce}, c ∈ below C o n x z → c ∈ C ∧ c.o = o
 | 0, _, _, c, h => by simp [below] at h
 | n + 1, x, z, c, h => by
  unfold below at h
  obtain ⟨j, hj, hc⟩ := List.mem_flatMap.1 h
  obtain ⟨hjC, ho, -, -⟩ := Ka.1 hj
  rcases List.mem_cons.1 hc with rfl | hc
  ·exact ⟨hjC, ho⟩
  ·exact UK n hc
theorem U2 {C : List Ce} (T : Tree C) {o : ByteArray} : ∀ (n : Nat) (x z : Int), (below C o n x z).Nodup
 | 0, _, _ => by unfold below; exact List.nodup_nil
 | n + 1, x, z => by
  unfold below
  refine List.pairwise_flatMap.2 ⟨fun k hk => ?_, ?_⟩
  ·obtain ⟨hkC, -, hx, hz⟩ := Ka.1 hk
   refine List.nodup_cons.2 ⟨fun h => ?_, U2 T n _ _⟩
   have := Up.late T hkC (KG n hkC h)
   omega
  ·have hn : (J0 C o x z).Nodup := (UF o x z C).nodup_iff.2 (T.nod.sublist List.filter_sublist)
   refine List.Pairwise.imp_of_mem ?_ hn
   intro a b ha hb hab c hc d hd e
   subst e
   obtain ⟨haC, -, hx, hz⟩ := Ka.1 ha
   obtain ⟨hbC, -, hx', hz'⟩ := Ka.1 hb
   rcases List.mem_cons.1 hc with rfl | hc
   ·rcases List.mem_cons.1 hd with rfl | hd
    ·exact hab rfl
    ·exact Up.beside T hbC haC (by omega) (by omega) (KG n hbC hd)
   ·rcases List.mem_cons.1 hd with rfl | hd
    ·exact Up.beside T haC hbC (by omega) (by omega) (KG n haC hc)
    ·exact hab (Up.one T haC hbC (by omega) (by omega) (KG n haC hc) (KG n hbC hd))
theorem Jai {α : Type} [DecidableEq α] : ∀ (l m : List α), l.Nodup → (∀ a ∈ l, a ∈ m) → l.length ≤ m.length
 | [], m, _, _ => Nat.zero_le _
 | a :: l, m, h, hm => by
  obtain ⟨h1, h2⟩ := List.nodup_cons.1 h
  have ha : a ∈ m := hm a (by simp)
  have := Jai l (m.erase a) h2 (fun b hb => (List.mem_erase_of_ne (fun e => h1 (by rw [← e]; exact hb))).2 (hm b (by simp [hb])))
  have h3 := List.length_erase_of_mem ha
  have h4 := List.length_pos_of_mem ha
  simp only [List.length_cons]
  omega
theorem Jdl {C : List Ce} (T : Tree C) (o : ByteArray) (n : Nat) (x z : Int) : (below C o n x z).length ≤ C.length :=
 Jai _ _ (U2 T n x z) (fun a h => (UK n h).1)
theorem JaL {α : Type} {lt : α → α → Prop} : ∀ {l : List α}, l.Pairwise lt → ∀ a ∈ l, ∀ b ∈ l, a = b ∨ lt a b ∨ lt b a
 | [], _, a, ha, _, _ => by cases ha
 | c :: l, h, a, ha, b, hb => by
  obtain ⟨h1, h2⟩ := List.pairwise_cons.1 h
  rcases List.mem_cons.1 ha with e | ha'
  ·rcases List.mem_cons.1 hb with e2 | hb'
   ·exact .inl (e.trans e2.symm)
   ·exact .inr (.inl (e ▸ h1 b hb'))
  ·rcases List.mem_cons.1 hb with e2 | hb'
   ·exact .inr (.inr (e2 ▸ h1 a ha'))
   ·exact JaL h2 a ha' b hb'
theorem Asc.all {α : Type} {ok : α → Prop} {lt : α → α → Prop} {l : List α} (h : Asc ok lt l) : ∀ a ∈ l, ok a := fun a ha => by
 obtain ⟨i, hi, rfl⟩ := List.getElem_of_mem ha
 exact (h i hi).1
theorem SOk.tree {S : Sta} (h : SOk S) : Tree S.C := by
 have ha := h.2.2.2.1.2
 have hp := Asc.pair Zt ha
 refine ⟨fun a hA b hB e1 e2 => ?_, ?_, fun a hA => (ha.all a hA).1.2.2.1, fun a hA => (ha.all a hA).2.2.1, h.refs⟩
 ·rcases JaL hp a hA b hB with e | e | e
  ·exact e
  ·unfold JF Jn at e; omega
  ·unfold JF Jn at e; omega
 ·refine List.Pairwise.imp ?_ hp
  intro a b hl e
  subst e
  unfold JF Jn at hl
  omega
def Jb3 (C : List Ce) (o : ByteArray) : List Ce := below C o 10000 0 0
theorem NOk.size {o : ByteArray} (h : NOk o) : o.size ≤ 8 := h.1.2
theorem SOk.small {S : Sta} (h : SOk S) : Small S := ⟨by have := h.1.1; omega, by have := h.2.1.1; omega, by have := h.2.2.1.1; omega, by have := h.2.2.2.1.1; omega⟩
theorem SOk.named {S : Sta} (h : SOk S) : YU S := by
 refine ⟨fun a ha => ?_, fun a ha => ⟨?_, ?_⟩, fun a ha => ?_⟩
 ·have := ((h.2.1.2.all a ha).1).size; omega
 ·have := ((h.2.2.1.2.all a ha).2.1).size; omega
 ·have := ((h.2.2.1.2.all a ha).2.2.1).size; omega
 ·have := ((h.2.2.2.1.2.all a ha).2.1).size; omega
theorem SOk.row_len {S : Sta} (h : SOk S) (o : ByteArray) : (Jb3 S.C o).length ≤ 120 := by
 have := Jdl h.tree o 10000 0 0
 have := h.2.2.2.1.1
 unfold Jb3
 omega
abbrev Ji1 : Oper := oq 4 (.move (.tmp 0)) 169 "l07_done.go:87" #[] none
abbrev Jkk : Oper := oq 5 (.nilCheck (.tmp 4)) 0 "l07_done.go:87" #[eD 0] none
abbrev Ji2 : Oper := oq 6 (.fieldAddr 29 (.tmp 5) 0) 0 "l07_done.go:87" #[eD 1] none
abbrev Jiq : Oper := oq 7 (.load 24 (.tmp 6)) 24 "l07_done.go:87" #[eD 2] none
abbrev Jh2 : Oper := oq 8 (.fieldAddr 62 (.tmp 3) 0) 0 "l07_done.go:87" #[] none
abbrev JjN : Oper := oq 9 (.fieldAddr 33 (.tmp 8) 0) 0 "l07_done.go:87" #[eD 4] none
abbrev Jju : Oper := oq 10 (.load 3 (.tmp 9)) 3 "l07_done.go:87" #[eD 5] none
abbrev Jko : Oper := oq 11 (.fieldAddr 62 (.tmp 3) 0) 0 "l07_done.go:87" #[] none
abbrev Jh8 : Oper := oq 12 (.fieldAddr 33 (.tmp 11) 1) 0 "l07_done.go:87" #[eD 7] none
abbrev JjA : Oper := oq 13 (.load 3 (.tmp 12)) 3 "l07_done.go:87" #[eD 8] none
abbrev JfH : Oper := oq 14 (.indexAddr 24 (.tmp 7) (.tmp 10)) 0 "l07_done.go:87" #[eD 3, eD 6, eP 0, eP 1, eP 2, eP 3, eP 4, eP 5, eP 6, eP 7, eP 8, eP 9] none
abbrev Jhv : Oper := oz (.store 3 (.tmp 14) (.tmp 13)) 0 "l07_done.go:87" #[eD 10, eD 9, eP 0, eP 1, eP 2, eP 3, eP 4, eP 5, eP 6, eP 7, eP 8, eP 9] none
theorem JcO (S : Sta) (A : Ac) (u : Value) (p : Nat) (u0 u1 u2 u3 : Value) (B : Nat) (w : World) (hS : SOk S) (hA : AOk A) (hR : JU S A) (hk : A.k = 1) (hp : Row w p #[u0, u1, u2, u3] 29) (hpl : p < w.heap.size) (hB : B ≤ w.heap.size) (hO : OwnS w B S u0 u1 u2 u3) (hoff : Zp p u0 u1 u2 u3) (hU : ∀ wx, FrB w wx B p → IntsAt wx u A.l) :
  Calls Tryz.prog 142 #[.pointer (some ⟨p, 0, none⟩), .agg #[int i64 A.r, int i64 A.s, int i64 A.t, u, int i64 A.k, .string A.o, .string A.y, int i64 A.v, int i64 A.x, int i64 A.z]] w fun e w' => e = .returned (.tuple #[]) ∧ ∃ v0 v1 v2 v3, Row w' p #[v0, v1, v2, v3] 29 ∧ OwnS w' B (doS S A) v0 v1 v2 v3 ∧ FrB w w' B p := by
 obtain ⟨a0, c0, a1, c1, a2, c2, a3, c3, rfl, rfl, rfl, rfl⟩ := hO.at.shape
 have hl3 : S.l.length = 3 := hS.1.1
 obtain ⟨g0, rfl⟩ : ∃ g, a0 = some ⟨g, 0, none⟩ := by
  rcases hO.1.1.2 with ⟨h0, h1⟩ | ⟨g, cap, cur, e, -⟩
  ·rw [hl3] at h1; cases h1
  ·injection e with e1; exact ⟨g, e1⟩
 obtain ⟨rn, hrn⟩ : ∃ rn : Nat, A.r = rn := Int.eq_ofNat_of_zero_le hA.1.1
 have hr3 : rn < 3 := by have := hA.1.2.1; omega
 have hO0 : w.ownsRow B 3 1 (.slice (some ⟨g0, 0, none⟩) S.l.length c0) S.l.length (Jj S.l) := hO.1.1
 have hg0 := hO0.lt g0 rfl
 have hg0p : g0 ≠ p := hoff.1 g0 rfl
 have HOFF := Ja hoff
 obtain ⟨W, hW⟩ : ∃ W, W = w.alloc (.cells #[int i64 A.r, int i64 A.s, int i64 A.t, u, int i64 A.k, .string A.o, .string A.y, int i64 A.v, int i64 A.x, int i64 A.z] 62) := ⟨_, rfl⟩
 have hBW : Below w.heap.size w W := by rw [hW]; exact (Below.refl _ _).alloc (Nat.le_refl _) _
 have hWs : W.heap.size = w.heap.size + 1 := by rw [hW]; simp
 have hRA : Row W w.heap.size #[int i64 A.r, int i64 A.s, int i64 A.t, u, int i64 A.k, .string A.o, .string A.y, int i64 A.v, int i64 A.x, int i64 A.z] 62 := by rw [hW]; exact Jb w _ _ rfl
 have hRP : Row W p #[.slice (some ⟨g0, 0, none⟩) S.l.length c0, .slice a1 S.T.length c1, .slice a2 S.L.length c2, .slice a3 S.C.length c3] 29 := hp.next hBW
 have hOW : OwnS W B S (.slice (some ⟨g0, 0, none⟩) S.l.length c0) (.slice a1 S.T.length c1) (.slice a2 S.L.length c2) (.slice a3 S.C.length c3) := Own4.next hO hBW
 have HW : Hid (w.alloc (.cells #[int i64 A.r, int i64 A.s, int i64 A.t, u, int i64 A.k, .string A.o, .string A.y, int i64 A.v, int i64 A.x, int i64 A.z] 62) = W) := hW.symm
 have HU := Ja hU
 have HLT3 : Hid (∀ j, (Value.slice a3 S.C.length c3).ownBlock = some j → j < w.heap.size) := fun j hj => (World.ownsRow.lt hO.1.2.2.2 j hj).2
 have HS := Ja hS
 have HA := Ja hA
 have HR := Ja hR
 have HK : Hid (A.k = 1) := hk
 have HL3 := Ja hl3
 have HRN := Ja hrn
 have hi1 : (rn : Int) < S.l.length := by omega
 have hi0 : (0 : Int) ≤ rn := by omega
 have HSS : Hid (∀ wx, Below W.heap.size W wx → wx.cell? ⟨p, 0, none⟩ = some (.slice (some ⟨g0, 0, none⟩) S.l.length c0) ∧ wx.cell? ⟨w.heap.size, 0, none⟩ = some (int i64 (rn : Int)) ∧ wx.cell? ⟨w.heap.size, 1, none⟩ = some (int i64 A.s)) := fun wx h => ⟨(hRP.next h).cell 0 rfl, by have := (hRA.next h).cell 0 rfl; rw [← HRN.out]; exact this, (hRA.next h).cell 1 rfl⟩
 have hBc : Below W.heap.size W W.drew := (Below.refl _ _).drew
 -- behind the store
 obtain ⟨Y, hY⟩ : ∃ Y, Y = W.drew.setCell ⟨g0, rn, none⟩ (int i64 A.s) := ⟨_, rfl⟩
 have hOD : W.drew.ownsRow B 3 1 (.slice (some ⟨g0, 0, none⟩) S.l.length c0) S.l.length (Jj S.l) := Jf hOW.1.1 hBc
 have y0 : W.drew.cell? ⟨g0, rn, none⟩ = some (int i64 (S.l.getD rn 0)) := by
  rw [hOD.cellAt rn (by omega)]; simp [Jj, List.getD, show rn < S.l.length by omega]
 have y1 := hOD.frozenAt rn
 have hYb : ∀ j, j ≠ g0 → Y.heap[j]? = W.drew.heap[j]? := fun j hj => by rw [hY]; exact Below.heap_setCell W.drew _ _ j (fun e => hj e)
 have hYs : Y.heap.size = W.heap.size := by rw [hY]; simp [World.setCell]
 have HYP : Hid (Row Y p #[.slice (some ⟨g0, 0, none⟩) S.l.length c0, .slice a1 S.T.length c1, .slice a2 S.L.length c2, .slice a3 S.C.length c3] 29) := by rw [hY]; exact (hRP.next hBc).other (by simp; omega) _
 have HYA : Hid (Row Y w.heap.size #[int i64 A.r, int i64 A.s, int i64 A.t, u, int i64 A.k, .string A.o, .string A.y, int i64 A.v, int i64 A.x, int i64 A.z] 62) := by rw [hY]; exact (hRA.next hBc).other (by simp; omega) _
 have hset : (Jj S.l).set rn (int i64 A.s) = Jj (S.l.set rn A.s) := by simp [Jj, List.map_set]
 have HYO : Hid (OwnS Y B ⟨S.l.set rn A.s, S.T, S.L, S.C⟩ (.slice (some ⟨g0, 0, none⟩) S.l.length c0) (.slice a1 S.T.length c1) (.slice a2 S.L.length c2) (.slice a3 S.C.length c3)) := by
  have hD : OwnS W.drew B S (.slice (some ⟨g0, 0, none⟩) S.l.length c0) (.slice a1 S.T.length c1) (.slice a2 S.L.length c2) (.slice a3 S.C.length c3) := Own4.next hOW hBc
  have ho1 : ownO Y B (some ⟨.slice (some ⟨g0, 0, none⟩) S.l.length c0, 3, 1, (S.l.set rn A.s).length, Jj (S.l.set rn A.s)⟩) := by
   show World.ownsRow _ _ _ _ _ _ _
   rw [← hset, List.length_set, hY]
   exact (hOD.stored rn (int i64 A.s)).1
  refine Own4.swap1 (p := p) hD HOFF.out (fun k hk hp hr => hYb k (fun e => hr (by rw [e]; rfl))) ho1 (fun k hk => .inl hk)
 have HYF : Hid (FrB w Y B p) := ⟨by rw [hY]; exact hBW.os, by rw [hY]; exact hBW.tape, by rw [hY]; exact hBW.output, by rw [hYs, hWs]; omega, fun j hj _ => by rw [hYb j (by omega)]; exact hBW.block j (by omega)⟩
 have HDS : Hid (doS S A = ⟨S.l.set rn A.s, JA S.T A.o A.r A.v, S.L, S.C⟩) := by show _ = _; have e : A.r.toNat = rn := (by omega); unfold doS; rw [e, hk]; rfl
 have HYZ : Hid (Y.heap.size = w.heap.size + 1) := by show _ = _; omega
 have HY : Hid (W.drew.setCell ⟨g0, rn, none⟩ (int i64 A.s) = Y) := hY.symm
 rw [hrn]
 rw [hrn] at HW
 clear hS hA hR hU hp hO hoff hW hBW hRA hRP hOW hO0 hOD hset hYb hrn hl3 hWs hk hY hYs
 go_enter Tryz.func142, Tryz.ntmps142
 go_wp2
 rw [HW.out]
 try simp only [List.append_eq, List.cons_append, List.nil_append]
 refine wph HSS hBc 12 ?_
 refine tQ 0 Ji1 ?_ (HSS.out _ hBc); refine tQ 1 Jkk ?_ (HSS.out _ hBc); refine tQ 2 Ji2 ?_ (HSS.out _ hBc); refine tQ 3 Jiq ?_ (HSS.out _ hBc); refine tQ 4 Jh2 ?_ (HSS.out _ hBc); refine tQ 5 JjN ?_ (HSS.out _ hBc); refine tQ 6 Jju ?_ (HSS.out _ hBc); refine tQ 7 Jko ?_ (HSS.out _ hBc); refine tQ 8 Jh8 ?_ (HSS.out _ hBc); refine tQ 9 JjA ?_ (HSS.out _ hBc); refine tQ 10 JfH ?_ (HSS.out _ hBc)
 have hS2 : Y.cell? ⟨p, 0, none⟩ = some (.slice (some ⟨g0, 0, none⟩) S.l.length c0) ∧ Y.cell? ⟨w.heap.size, 0, none⟩ = some (int i64 (rn : Int)) ∧ Y.cell? ⟨w.heap.size, 1, none⟩ = some (int i64 A.s) := ⟨HYP.out.cell 0 rfl, by have := HYA.out.cell 0 rfl; rw [← HRN.out]; exact this, HYA.out.cell 1 rfl⟩
 refine rd 11 Jhv (fun K hK => ?_)
 go_simp
 rw [show (W.setCell ⟨g0, rn, none⟩ (int i64 A.s)).drew = W.drew.setCell ⟨g0, rn, none⟩ (int i64 A.s) from rfl, HY.out]
 refine hK.out _ _ hS2 (fun hcl => ?_)
 clear hK K hS2 y0 y1 HY HSS hBc HW hcl
 refine wpd ?_
 have m0 := HYA.out.cell 0 rfl
 have m4 := HYA.out.cell 4 rfl
 have m5 := HYA.out.cell 5 rfl
 have m7 := HYA.out.cell 7 rfl
 have b1 : (A.k == 1) = true := by simp [HK.out]
 have HTC := Ja (Va S.T p (.slice (some ⟨g0, 0, none⟩) S.l.length c0) (.slice a1 S.T.length c1) (.slice a2 S.L.length c2) (.slice a3 S.C.length c3) A.o A.r A.v B Y (Nat.le_trans HS.out.2.1.1 (by omega)) (fun a ha => (HS.out.2.1.2.mem a ha).2.2) (by have h5 := HA.out.2.2.2.2.1; exact Gz h5 (.inl HK.out)) HYP.out (by have := HYZ.out; omega) HOFF.out.2.1 (by have := HYZ.out; omega) HYO.out.1.2.1)
 go_wp2_with fail
 refine HTC.out.mono ?_
 rintro e w2 ⟨rfl, a1', d1', hRw, hOw, hlt, hF⟩
 have HRF := Ja hRw
 have HOF : Hid (OwnS w2 B (doS S A) (.slice (some ⟨g0, 0, none⟩) S.l.length c0) (.slice a1' (JA S.T A.o A.r A.v).length d1') (.slice a2 S.L.length c2) (.slice a3 S.C.length c3)) := by
  show OwnS _ _ _ _ _ _ _
  rw [HDS.out]
  exact Own4.swap2 (p := p) HYO.out HOFF.out (fun k hk hp hr => hF.2.2.2.2 k hk hp hr) hOw (fun k hk => hlt k hk)
 have HFF : Hid (FrB w w2 B p) := HYF.out.trans (FrB.frm hF (by have := HYZ.out; omega) (fun j hj => (HYO.out.1.2.1.lt j hj).1))
 clear hRw hOw hlt hF HTC m0 m4 m5 m7
 go_wp2
 go_end0
 exact ⟨rfl, _, _, _, _, HRF.out, HOF.out, HFF.out⟩
abbrev Ji8 : Oper := oq 4 (.move (.tmp 0)) 169 "l07_done.go:87" #[] none
abbrev JiC : Oper := oq 5 (.nilCheck (.tmp 4)) 0 "l07_done.go:87" #[eD 0] none
abbrev Jja : Oper := oq 6 (.fieldAddr 29 (.tmp 5) 0) 0 "l07_done.go:87" #[eD 1] none
abbrev JiT : Oper := oq 7 (.load 24 (.tmp 6)) 24 "l07_done.go:87" #[eD 2] none
abbrev Jkh : Oper := oq 8 (.fieldAddr 62 (.tmp 3) 0) 0 "l07_done.go:87" #[] none
abbrev JiB : Oper := oq 9 (.fieldAddr 33 (.tmp 8) 0) 0 "l07_done.go:87" #[eD 4] none
abbrev JiD : Oper := oq 10 (.load 3 (.tmp 9)) 3 "l07_done.go:87" #[eD 5] none
abbrev Jj1 : Oper := oq 11 (.fieldAddr 62 (.tmp 3) 0) 0 "l07_done.go:87" #[] none
abbrev Jio : Oper := oq 12 (.fieldAddr 33 (.tmp 11) 1) 0 "l07_done.go:87" #[eD 7] none
abbrev Jj4 : Oper := oq 13 (.load 3 (.tmp 12)) 3 "l07_done.go:87" #[eD 8] none
abbrev Jf2 : Oper := oq 14 (.indexAddr 24 (.tmp 7) (.tmp 10)) 0 "l07_done.go:87" #[eD 3, eD 6, eP 0, eP 1, eP 2, eP 3, eP 4, eP 5, eP 6, eP 7, eP 8, eP 9] none
abbrev JgT : Oper := oz (.store 3 (.tmp 14) (.tmp 13)) 0 "l07_done.go:87" #[eD 10, eD 9, eP 0, eP 1, eP 2, eP 3, eP 4, eP 5, eP 6, eP 7, eP 8, eP 9] none
abbrev JgL : Oper := oq 30 (.move (.tmp 0)) 169 "l07_done.go:92" #[] none
abbrev Jhg : Oper := oq 31 (.move (.tmp 0)) 169 "l07_done.go:92" #[] none
abbrev JgQ : Oper := oq 32 (.nilCheck (.tmp 31)) 0 "l07_done.go:92" #[eD 1] none
abbrev JhK : Oper := oq 33 (.fieldAddr 29 (.tmp 32) 2) 0 "l07_done.go:92" #[eD 2] none
abbrev JgB : Oper := oq 35 (.fieldAddr 62 (.tmp 3) 4) 0 "l07_done.go:92" #[] none
abbrev Jf8 : Oper := oq 36 (.load 9 (.tmp 35)) 9 "l07_done.go:92" #[eD 5] none
abbrev JgN : Oper := oq 37 (.fieldAddr 62 (.tmp 3) 5) 0 "l07_done.go:92" #[] none
abbrev JfG : Oper := oq 38 (.load 9 (.tmp 37)) 9 "l07_done.go:92" #[eD 7] none
abbrev JhS : Oper := oq 39 (.fieldAddr 62 (.tmp 3) 0) 0 "l07_done.go:92" #[] none
abbrev JfW : Oper := oq 40 (.load 33 (.tmp 39)) 33 "l07_done.go:92" #[eD 9] none
abbrev JhT : Oper := oq 41 (.build 40 #[(1, .tmp 36), (2, .tmp 38), (4, .tmp 40)]) 40 "l07_done.go:92" #[eD 6, eD 8, eD 10] none
abbrev Jhe : Oper := oq 34 (.load 26 (.tmp 33)) 26 "l07_done.go:92" #[eD 3] none
abbrev JhV : Oper := oq 42 (.call ⟨.value (.func 103), #[.tmp 34, .tmp 41], #[26, 40]⟩) 26 "l07_done.go:92" #[eD 4, eD 11] none
abbrev Jhy : Oper := oq 43 (.nilCheck (.tmp 30)) 0 "l07_done.go:92" #[eD 0, eP 0, eP 1, eP 2, eP 3, eP 4, eP 5, eP 6, eP 7, eP 8, eP 9, eP 10, eP 11, eP 12] none
abbrev Jf3 : Oper := oq 44 (.fieldAddr 29 (.tmp 43) 2) 0 "l07_done.go:92" #[eD 13, eP 0, eP 1, eP 2, eP 3, eP 4, eP 5, eP 6, eP 7, eP 8, eP 9, eP 10, eP 11, eP 12] none
abbrev Jgj : Oper := oz (.store 26 (.tmp 44) (.tmp 42)) 0 "l07_done.go:92" #[eD 14, eD 12, eC 12, eP 0, eP 1, eP 2, eP 3, eP 4, eP 5, eP 6, eP 7, eP 8, eP 9, eP 10, eP 11, eP 12] none
theorem JcV (S : Sta) (A : Ac) (u : Value) (p : Nat) (u0 u1 u2 u3 : Value) (B : Nat) (w : World) (hS : SOk S) (hA : AOk A) (hR : JU S A) (hk : A.k = 2) (hp : Row w p #[u0, u1, u2, u3] 29) (hpl : p < w.heap.size) (hB : B ≤ w.heap.size) (hO : OwnS w B S u0 u1 u2 u3) (hoff : Zp p u0 u1 u2 u3) (hU : ∀ wx, FrB w wx B p → IntsAt wx u A.l) :
  Calls Tryz.prog 142 #[.pointer (some ⟨p, 0, none⟩), .agg #[int i64 A.r, int i64 A.s, int i64 A.t, u, int i64 A.k, .string A.o, .string A.y, int i64 A.v, int i64 A.x, int i64 A.z]] w fun e w' => e = .returned (.tuple #[]) ∧ ∃ v0 v1 v2 v3, Row w' p #[v0, v1, v2, v3] 29 ∧ OwnS w' B (doS S A) v0 v1 v2 v3 ∧ FrB w w' B p := by
 obtain ⟨a0, c0, a1, c1, a2, c2, a3, c3, rfl, rfl, rfl, rfl⟩ := hO.at.shape
 have hl3 : S.l.length = 3 := hS.1.1
 obtain ⟨g0, rfl⟩ : ∃ g, a0 = some ⟨g, 0, none⟩ := by
  rcases hO.1.1.2 with ⟨h0, h1⟩ | ⟨g, cap, cur, e, -⟩
  ·rw [hl3] at h1; cases h1
  ·injection e with e1; exact ⟨g, e1⟩
 obtain ⟨rn, hrn⟩ : ∃ rn : Nat, A.r = rn := Int.eq_ofNat_of_zero_le hA.1.1
 have hr3 : rn < 3 := by have := hA.1.2.1; omega
 have hO0 : w.ownsRow B 3 1 (.slice (some ⟨g0, 0, none⟩) S.l.length c0) S.l.length (Jj S.l) := hO.1.1
 have hg0 := hO0.lt g0 rfl
 have hg0p : g0 ≠ p := hoff.1 g0 rfl
 have HOFF := Ja hoff
 obtain ⟨W, hW⟩ : ∃ W, W = w.alloc (.cells #[int i64 A.r, int i64 A.s, int i64 A.t, u, int i64 A.k, .string A.o, .string A.y, int i64 A.v, int i64 A.x, int i64 A.z] 62) := ⟨_, rfl⟩
 have hBW : Below w.heap.size w W := by rw [hW]; exact (Below.refl _ _).alloc (Nat.le_refl _) _
 have hWs : W.heap.size = w.heap.size + 1 := by rw [hW]; simp
 have hRA : Row W w.heap.size #[int i64 A.r, int i64 A.s, int i64 A.t, u, int i64 A.k, .string A.o, .string A.y, int i64 A.v, int i64 A.x, int i64 A.z] 62 := by rw [hW]; exact Jb w _ _ rfl
 have hRP : Row W p #[.slice (some ⟨g0, 0, none⟩) S.l.length c0, .slice a1 S.T.length c1, .slice a2 S.L.length c2, .slice a3 S.C.length c3] 29 := hp.next hBW
 have hOW : OwnS W B S (.slice (some ⟨g0, 0, none⟩) S.l.length c0) (.slice a1 S.T.length c1) (.slice a2 S.L.length c2) (.slice a3 S.C.length c3) := Own4.next hO hBW
 have HW : Hid (w.alloc (.cells #[int i64 A.r, int i64 A.s, int i64 A.t, u, int i64 A.k, .string A.o, .string A.y, int i64 A.v, int i64 A.x, int i64 A.z] 62) = W) := hW.symm
 have HU := Ja hU
 have HLT3 : Hid (∀ j, (Value.slice a3 S.C.length c3).ownBlock = some j → j < w.heap.size) := fun j hj => (World.ownsRow.lt hO.1.2.2.2 j hj).2
 have HS := Ja hS
 have HA := Ja hA
 have HR := Ja hR
 have HK : Hid (A.k = 2) := hk
 have HL3 := Ja hl3
 have HRN := Ja hrn
 have hi1 : (rn : Int) < S.l.length := by omega
 have hi0 : (0 : Int) ≤ rn := by omega
 have HSS : Hid (∀ wx, Below W.heap.size W wx → wx.cell? ⟨p, 0, none⟩ = some (.slice (some ⟨g0, 0, none⟩) S.l.length c0) ∧ wx.cell? ⟨w.heap.size, 0, none⟩ = some (int i64 (rn : Int)) ∧ wx.cell? ⟨w.heap.size, 1, none⟩ = some (int i64 A.s)) := fun wx h => ⟨(hRP.next h).cell 0 rfl, by have := (hRA.next h).cell 0 rfl; rw [← HRN.out]; exact this, (hRA.next h).cell 1 rfl⟩
 have hBc : Below W.heap.size W W.drew := (Below.refl _ _).drew
 -- behind the store
 obtain ⟨Y, hY⟩ : ∃ Y, Y = W.drew.setCell ⟨g0, rn, none⟩ (int i64 A.s) := ⟨_, rfl⟩
 have hOD : W.drew.ownsRow B 3 1 (.slice (some ⟨g0, 0, none⟩) S.l.length c0) S.l.length (Jj S.l) := Jf hOW.1.1 hBc
 have y0 : W.drew.cell? ⟨g0, rn, none⟩ = some (int i64 (S.l.getD rn 0)) := by
  rw [hOD.cellAt rn (by omega)]; simp [Jj, List.getD, show rn < S.l.length by omega]
 have y1 := hOD.frozenAt rn
 have hYb : ∀ j, j ≠ g0 → Y.heap[j]? = W.drew.heap[j]? := fun j hj => by rw [hY]; exact Below.heap_setCell W.drew _ _ j (fun e => hj e)
 have hYs : Y.heap.size = W.heap.size := by rw [hY]; simp [World.setCell]
 have HYP : Hid (Row Y p #[.slice (some ⟨g0, 0, none⟩) S.l.length c0, .slice a1 S.T.length c1, .slice a2 S.L.length c2, .slice a3 S.C.length c3] 29) := by rw [hY]; exact (hRP.next hBc).other (by simp; omega) _
 have HYA : Hid (Row Y w.heap.size #[int i64 A.r, int i64 A.s, int i64 A.t, u, int i64 A.k, .string A.o, .string A.y, int i64 A.v, int i64 A.x, int i64 A.z] 62) := by rw [hY]; exact (hRA.next hBc).other (by simp; omega) _
 have hset : (Jj S.l).set rn (int i64 A.s) = Jj (S.l.set rn A.s) := by simp [Jj, List.map_set]
 have HYO : Hid (OwnS Y B ⟨S.l.set rn A.s, S.T, S.L, S.C⟩ (.slice (some ⟨g0, 0, none⟩) S.l.length c0) (.slice a1 S.T.length c1) (.slice a2 S.L.length c2) (.slice a3 S.C.length c3)) := by
  have hD : OwnS W.drew B S (.slice (some ⟨g0, 0, none⟩) S.l.length c0) (.slice a1 S.T.length c1) (.slice a2 S.L.length c2) (.slice a3 S.C.length c3) := Own4.next hOW hBc
  have ho1 : ownO Y B (some ⟨.slice (some ⟨g0, 0, none⟩) S.l.length c0, 3, 1, (S.l.set rn A.s).length, Jj (S.l.set rn A.s)⟩) := by
   show World.ownsRow _ _ _ _ _ _ _
   rw [← hset, List.length_set, hY]
   exact (hOD.stored rn (int i64 A.s)).1
  refine Own4.swap1 (p := p) hD HOFF.out (fun k hk hp hr => hYb k (fun e => hr (by rw [e]; rfl))) ho1 (fun k hk => .inl hk)
 have HYF : Hid (FrB w Y B p) := ⟨by rw [hY]; exact hBW.os, by rw [hY]; exact hBW.tape, by rw [hY]; exact hBW.output, by rw [hYs, hWs]; omega, fun j hj _ => by rw [hYb j (by omega)]; exact hBW.block j (by omega)⟩
 have HDS : Hid (doS S A = ⟨S.l.set rn A.s, S.T, ZI (JE false 0 A) S.L, S.C⟩) := by show _ = _; have e : A.r.toNat = rn := (by omega); unfold doS; rw [e, hk]; rfl
 have HYZ : Hid (Y.heap.size = w.heap.size + 1) := by show _ = _; omega
 have HY : Hid (W.drew.setCell ⟨g0, rn, none⟩ (int i64 A.s) = Y) := hY.symm
 rw [hrn]
 rw [hrn] at HW
 clear hS hA hR hU hp hO hoff hW hBW hRA hRP hOW hO0 hOD hset hYb hrn hl3 hWs hk hY hYs
 go_enter Tryz.func142, Tryz.ntmps142
 go_wp2
 rw [HW.out]
 try simp only [List.append_eq, List.cons_append, List.nil_append]
 refine wph HSS hBc 12 ?_
 refine tQ 0 Ji8 ?_ (HSS.out _ hBc); refine tQ 1 JiC ?_ (HSS.out _ hBc); refine tQ 2 Jja ?_ (HSS.out _ hBc); refine tQ 3 JiT ?_ (HSS.out _ hBc); refine tQ 4 Jkh ?_ (HSS.out _ hBc); refine tQ 5 JiB ?_ (HSS.out _ hBc); refine tQ 6 JiD ?_ (HSS.out _ hBc); refine tQ 7 Jj1 ?_ (HSS.out _ hBc); refine tQ 8 Jio ?_ (HSS.out _ hBc); refine tQ 9 Jj4 ?_ (HSS.out _ hBc); refine tQ 10 Jf2 ?_ (HSS.out _ hBc)
 have hS2 : Y.cell? ⟨p, 0, none⟩ = some (.slice (some ⟨g0, 0, none⟩) S.l.length c0) ∧ Y.cell? ⟨w.heap.size, 0, none⟩ = some (int i64 (rn : Int)) ∧ Y.cell? ⟨w.heap.size, 1, none⟩ = some (int i64 A.s) := ⟨HYP.out.cell 0 rfl, by have := HYA.out.cell 0 rfl; rw [← HRN.out]; exact this, HYA.out.cell 1 rfl⟩
 refine rd 11 JgT (fun K hK => ?_)
 go_simp
 rw [show (W.setCell ⟨g0, rn, none⟩ (int i64 A.s)).drew = W.drew.setCell ⟨g0, rn, none⟩ (int i64 A.s) from rfl, HY.out]
 refine hK.out _ _ hS2 (fun hcl => ?_)
 clear hK K hS2 y0 y1 HY HSS hBc HW hcl
 refine wpd ?_
 obtain ⟨m0, m1, m2, m3, m4, m5, m6, m7, m8, m9⟩ := Z7 HYA.out
 have b1 : (A.k == 1) = false := by simp [HK.out]
 have b2 : (A.k == 2) = true := by simp [HK.out]
 have HSY : Hid (∀ wx, Below Y.heap.size Y wx → wx.cell? ⟨p, 0, none⟩ = some (.slice (some ⟨g0, 0, none⟩) S.l.length c0) ∧ wx.cell? ⟨p, 1, none⟩ = some (.slice a1 S.T.length c1) ∧ wx.cell? ⟨p, 3, none⟩ = some (.slice a3 S.C.length c3) ∧ wx.cell? ⟨w.heap.size, 0, none⟩ = some (int i64 A.r) ∧ wx.cell? ⟨w.heap.size, 1, none⟩ = some (int i64 A.s) ∧ wx.cell? ⟨w.heap.size, 2, none⟩ = some (int i64 A.t) ∧ wx.cell? ⟨w.heap.size, 3, none⟩ = some (u) ∧ wx.cell? ⟨w.heap.size, 4, none⟩ = some (int i64 A.k) ∧ wx.cell? ⟨w.heap.size, 5, none⟩ = some (.string A.o) ∧ wx.cell? ⟨w.heap.size, 6, none⟩ = some (.string A.y) ∧ wx.cell? ⟨w.heap.size, 7, none⟩ = some (int i64 A.v) ∧ wx.cell? ⟨w.heap.size, 8, none⟩ = some (int i64 A.x) ∧ wx.cell? ⟨w.heap.size, 9, none⟩ = some (int i64 A.z)) := fun wx h => ⟨(HYP.out.next h).cell 0 rfl, (HYP.out.next h).cell 1 rfl, (HYP.out.next h).cell 3 rfl, (HYA.out.next h).cell 0 rfl, (HYA.out.next h).cell 1 rfl, (HYA.out.next h).cell 2 rfl, (HYA.out.next h).cell 3 rfl, (HYA.out.next h).cell 4 rfl, (HYA.out.next h).cell 5 rfl, (HYA.out.next h).cell 6 rfl, (HYA.out.next h).cell 7 rfl, (HYA.out.next h).cell 8 rfl, (HYA.out.next h).cell 9 rfl⟩
 have hBc : Below Y.heap.size Y Y.drew := (Below.refl _ _).drew
 go_wp2
 try simp only [List.append_eq, List.cons_append, List.nil_append]
 refine wph HSY hBc 16 ?_
 refine tQ 0 JgL ?_ (HSY.out _ hBc)
 refine tQ 1 Jhg ?_ (HSY.out _ hBc)
 refine tQ 2 JgQ ?_ (HSY.out _ hBc)
 refine tQ 3 JhK ?_ (HSY.out _ hBc)
 refine tQ 5 JgB ?_ (HSY.out _ hBc)
 refine tQ 6 Jf8 ?_ (HSY.out _ hBc)
 refine tQ 7 JgN ?_ (HSY.out _ hBc)
 refine tQ 8 JfG ?_ (HSY.out _ hBc)
 refine tQ 9 JhS ?_ (HSY.out _ hBc)
 refine tQ 10 JfW ?_ (HSY.out _ hBc)
 refine tQ 11 JhT ?_ (HSY.out _ hBc)
 refine rd 4 Jhe (fun K hK => ?_)
 have zc := (HYP.out.next hBc).cell 2 rfl
 go_simp
 refine hK.out _ _ (HSY.out _ hBc) (fun hcl => ?_)
 clear hK K hcl zc
 try simp only [s1, s2, s3]
 refine rd 12 JhV (fun K hK => ?_)
 go_simp
 have hBd := hBc
 refine (Ko S.L _ (JE false 0 A) _ (Nat.le_trans HS.out.2.2.1.1 (by omega)) (LiAt.below (LiAt.own HYO.out.1.2.2.1 rfl) hBc)).mono ?_
 rintro e wn ⟨vv, rfl, hov, hbn⟩
 replace hBc := nx hBc hbn
 obtain ⟨av, dv, rfl, -⟩ := LiAt.own hov rfl
 have hvlt : ∀ j, (Value.slice av (ZI (JE false 0 A) S.L).length dv).ownBlock = some j → Y.heap.size ≤ j := fun j hj => Nat.le_trans hBd.size (hov.lt j hj).1
 replace hov : wn.ownsRow B 40 6 (.slice av (ZI (JE false 0 A) S.L).length dv) (ZI (JE false 0 A) S.L).length (liV (ZI (JE false 0 A) S.L)) := Jo hov (Nat.le_trans (by have := HYZ.out; omega) hBd.size)
 clear hbn hBd
 try go_wp2_with fail
 refine hK.out _ _ (HSY.out _ hBc) (fun hcl => ?_)
 clear hK K hcl
 try simp only [s1, s2, s3]
 refine tQ 13 Jhy ?_ (HSY.out _ hBc)
 refine tQ 14 Jf3 ?_ (HSY.out _ hBc)
 have z0 := (HYP.out.next hBc).cell 2 rfl
 have z1 := (HYP.out.next hBc).free 2
 obtain ⟨V, hV⟩ : ∃ V, V = wn.setCell ⟨p, 2, none⟩ (.slice av (ZI (JE false 0 A) S.L).length dv) := ⟨_, rfl⟩
 have hVP : Row V p #[.slice (some ⟨g0, 0, none⟩) S.l.length c0, .slice a1 S.T.length c1, .slice av (ZI (JE false 0 A) S.L).length dv, .slice a3 S.C.length c3] 29 := by rw [hV]; exact (HYP.out.next hBc).st2 _
 have hVA : Row V w.heap.size #[int i64 A.r, int i64 A.s, int i64 A.t, u, int i64 A.k, .string A.o, .string A.y, int i64 A.v, int i64 A.x, int i64 A.z] 62 := by rw [hV]; exact (HYA.out.next hBc).other (by simp; omega) _
 have hVb : ∀ j, j ≠ p → V.heap[j]? = wn.heap[j]? := fun j hj => by rw [hV]; exact Below.heap_setCell wn _ _ j (fun e => hj e)
 have hVs : wn.heap.size ≤ V.heap.size := by rw [hV]; simp [World.setCell]
 have hV3 : V.os = wn.os ∧ V.tape = wn.tape ∧ V.output = wn.output := by rw [hV]; exact ⟨rfl, rfl, rfl⟩
 have HV : Hid (wn.setCell ⟨p, 2, none⟩ (.slice av (ZI (JE false 0 A) S.L).length dv) = V) := hV.symm
 clear hV
 have HOF : Hid (OwnS V B (doS S A) (.slice (some ⟨g0, 0, none⟩) S.l.length c0) (.slice a1 S.T.length c1) (.slice av (ZI (JE false 0 A) S.L).length dv) (.slice a3 S.C.length c3)) := by
  show OwnS _ _ _ _ _ _ _
  rw [HDS.out]
  exact Own4.swap3 (p := p) HYO.out HOFF.out (fun k hk hp hr => by rw [hVb k hp]; exact hBc.block k hk) (G0 hov (fun k hk => hVb k (by have := hvlt k hk; have := HYZ.out; omega))) (fun k hk => .inr (hvlt k hk))
 have HFF : Hid (FrB w V B p) := HYF.out.trans ⟨hV3.1.trans hBc.os, hV3.2.1.trans hBc.tape, hV3.2.2.trans hBc.output, Nat.le_trans hBc.size hVs, fun k hk hp => by rw [hVb k hp]; exact hBc.block k (by have := HYZ.out; omega)⟩
 have HRF := Ja hVP
 refine rd 15 Jgj (fun K hK => ?_)
 go_simp
 rw [show wn.setCell ⟨p, 2, none⟩ (.slice av (ins (fun y => decide (Jn (JE false 0 A).r (JE false 0 A).s y.r y.s)) (JE false 0 A) S.L).length dv) = V from HV.out]
 refine hK.out _ _ ⟨hVP.cell 0 rfl, hVP.cell 1 rfl, hVP.cell 3 rfl, hVA.cell 0 rfl, hVA.cell 1 rfl, hVA.cell 2 rfl, hVA.cell 3 rfl, hVA.cell 4 rfl, hVA.cell 5 rfl, hVA.cell 6 rfl, hVA.cell 7 rfl, hVA.cell 8 rfl, hVA.cell 9 rfl⟩ (fun hcl => ?_)
 clear hK K hcl z0 z1 hVP hVA hVb hVs hV3 HV hBc HSY hov hvlt m0 m1 m2 m3 m4 m5 m6 m7 m8 m9
 refine wpd ?_
 go_wp2
 go_end0
 exact ⟨rfl, _, _, _, _, HRF.out, HOF.out, HFF.out⟩
end Go.Proofs.YtdknoflkingodaaGreat
