/- What an act makes of a state; rows that are kept. -/
import Derived.Test.YtepfinenocpneaaGreatQ23
set_option maxHeartbeats 16000000
namespace Go.Proofs.YtepfinenocpneaaGreat
open Value (int)
open IntKind (i64)
set_option maxRecDepth 100000
set_option linter.unusedVariables false
open Go.RowKit
theorem Z0 {k : Int} {o y : ByteArray} {v : Int} (h : JL k o y v) (hk : k = 1 ∨ k = 4 ∨ k = 6) : 0 ≤ v ∧ v ≤ 999999 := by
 have h2 := h.2.2.2
 unfold Zk at h2
 rwa [if_pos hk] at h2
def Jj (m : Bool) (v : Int) (A : Ac) : Li := ⟨m, A.o, A.y, v, A.r, A.s⟩
def JI (A : Ac) : Ce := ⟨A.o, A.r, A.s, A.t, A.x, A.z, A.v, false⟩
def JE (x : Li) (l : List Li) : List Li := ins (fun y => decide (Jo x.r x.s y.r y.s)) x l
def Zg (x : Ce) (l : List Ce) : List Ce := ins (fun y => decide (Jo x.r x.s y.r y.s)) x l
def Zw (C : List Ce) (k : Nat) : List Ce := match C[k]? with | some c => C.set k { c with g := true } | none => C
theorem JaS (l : List Ce) (k : Nat) (h : k < l.length) : (ceV l).set (k * 8 + 7) (.bool true) = ceV (Zw l k) := by
 have e : Zw l k = l.set k { l[k] with g := true } := by unfold Zw; simp [h]
 rw [e]
 clear e
 induction l generalizing k with
 | nil => simp at h
 | cons a l ih =>
  cases k with
  | zero => simp [ceV, Ce.cs]
  | succ k =>
   have := ih k (by simpa using h)
   have e : (k + 1) * 8 + 7 = k * 8 + 7 + 1 + 1 + 1 + 1 + 1 + 1 + 1 + 1 := by omega
   rw [e]
   show (Ce.cs a ++ ceV l).set _ _ = Ce.cs a ++ ceV (l.set k _)
   simp only [Ce.cs, List.cons_append, List.nil_append, List.set_cons_succ]
   rw [this]; rfl
theorem Yo (l : List Ce) (k : Nat) : (Zw l k).length = l.length := by
 unfold Zw
 cases l[k]? with
 | none => rfl
 | some c => simp
def doS (S : Sta) (A : Ac) : Sta :=
 if A.k = 1 then ⟨S.l.set A.r.toNat A.s, Jv S.T A.o A.r A.v, S.L, S.C⟩
 else if A.k = 2 then ⟨S.l.set A.r.toNat A.s, S.T, JE (Jj false 0 A) S.L, S.C⟩
 else if A.k = 3 then ⟨S.l.set A.r.toNat A.s, S.T, Jd S.L false A.o A.y A.l, S.C⟩
 else if A.k = 4 then ⟨S.l.set A.r.toNat A.s, S.T, JE (Jj true A.v A) (Jd S.L true A.o A.y A.l), S.C⟩
 else if A.k = 5 then ⟨S.l.set A.r.toNat A.s, S.T, Jd S.L true A.o A.y A.l, S.C⟩
 else if A.k = 6 then ⟨S.l.set A.r.toNat A.s, S.T, S.L, Zg (JI A) S.C⟩
 else ⟨S.l.set A.r.toNat A.s, S.T, S.L, Zw S.C (cellAt S.C A.x A.z 0).toNat⟩
def ZX (p : Nat) (v0 v1 v2 v3 : Value) : Prop := (∀ k, v0.ownBlock = some k → k ≠ p) ∧ (∀ k, v1.ownBlock = some k → k ≠ p) ∧ (∀ k, v2.ownBlock = some k → k ≠ p) ∧ (∀ k, v3.ownBlock = some k → k ≠ p)
def FrB (w w' : World) (B p : Nat) : Prop := w'.os = w.os ∧ w'.tape = w.tape ∧ w'.output = w.output ∧ w.heap.size ≤ w'.heap.size ∧ ∀ j, j < B → j ≠ p → w'.heap[j]? = w.heap[j]?
theorem FrB.trans {w1 w2 w3 : World} {B p : Nat} (h : FrB w1 w2 B p) (k : FrB w2 w3 B p) : FrB w1 w3 B p := ⟨k.1.trans h.1, k.2.1.trans h.2.1, k.2.2.1.trans h.2.2.1, Nat.le_trans h.2.2.2.1 k.2.2.2.1, fun j hj hp => (k.2.2.2.2 j hj hp).trans (h.2.2.2.2 j hj hp)⟩
theorem FrB.grown {w w' : World} {B p : Nat} (h : w.grownBy w' (some p)) (hB : B ≤ w.heap.size) : FrB w w' B p := ⟨h.os, h.tape, h.output, h.size, fun j hj hp => h.block j (Nat.lt_of_lt_of_le hj hB) (fun e => hp (by injection e))⟩
theorem FrB.frm {w w' : World} {B p : Nat} {u : Value} (h : Frm w w' p u) (hB : B ≤ w.heap.size) (hu : ∀ j, u.ownBlock = some j → B ≤ j) : FrB w w' B p := ⟨h.1, h.2.1, h.2.2.1, h.2.2.2.1, fun j hj hp => h.2.2.2.2 j (Nat.lt_of_lt_of_le hj hB) hp (fun e => by have := hu j e; omega)⟩
theorem Gh {w w' : World} {B n s : Nat} {e : TypeId} {v : Value} {xs : List Value} (h : w.ownsRow B e s v n xs) (hs : ∀ j, v.ownBlock = some j → w'.heap[j]? = w.heap[j]?) : w'.ownsRow B e s v n xs := by
 obtain ⟨h1, h2⟩ := h
 refine ⟨h1, ?_⟩
 rcases h2 with h0 | ⟨g, cap, cur, rfl, hb, hg, r⟩
 ·exact .inl h0
 ·exact .inr ⟨g, cap, cur, rfl, hb, (hs g rfl).trans hg, r⟩
theorem ownO.same {w w' : World} {B : Nat} {a : Option Rwd} (h : ownO w B a) (hs : ∀ r, a = some r → ∀ j, r.v.ownBlock = some j → w'.heap[j]? = w.heap[j]?) : ownO w' B a := by
 cases a with
 | none => trivial
 | some r => exact Gh h (hs r rfl)
theorem ownO.lt {w : World} {B : Nat} {r : Rwd} (h : ownO w B (some r)) : ∀ j, r.v.ownBlock = some j → B ≤ j ∧ j < w.heap.size := fun j hj => World.ownsRow.lt h j hj
def Jd2 (p : Nat) : Option Rwd → Prop
 | none => True
 | some r => ∀ k, r.v.ownBlock = some k → k ≠ p
def Jeh (p : Nat) (a b c d : Option Rwd) : Prop := Jd2 p a ∧ Jd2 p b ∧ Jd2 p c ∧ Jd2 p d
theorem Own4.swap1 {w w' : World} {B p : Nat} {b c d : Option Rwd} {r q : Rwd} (h : Own4 w B (some r) b c d) (hoff : Jeh p (some r) b c d) (hF : ∀ k, k < w.heap.size → k ≠ p → r.v.ownBlock ≠ some k → w'.heap[k]? = w.heap[k]?) (ho : ownO w' B (some q)) (hq : ∀ k, q.v.ownBlock = some k → r.v.ownBlock = some k ∨ w.heap.size ≤ k) : Own4 w' B (some q) b c d := by
 obtain ⟨⟨h1, h2, h3, h4⟩, d1, d2, d3, d4, d5, d6⟩ := h
 obtain ⟨f1, f2, f3, f4⟩ := hoff
 have k2 : ownO w' B b := h2.same (fun x hx k hk => by subst hx; exact hF k (World.ownsRow.lt h2 k hk).2 (f2 k hk) (fun e => d1 k e hk))
 have k3 : ownO w' B c := h3.same (fun x hx k hk => by subst hx; exact hF k (World.ownsRow.lt h3 k hk).2 (f3 k hk) (fun e => d2 k e hk))
 have k4 : ownO w' B d := h4.same (fun x hx k hk => by subst hx; exact hF k (World.ownsRow.lt h4 k hk).2 (f4 k hk) (fun e => d3 k e hk))
 have n2 : apaO b (some q) := by
  cases b with
  | none => trivial
  | some x => exact fun k hk e => (hq k e).elim (fun e2 => d1 k e2 hk) (fun e2 => by have := (World.ownsRow.lt h2 k hk).2; omega)
 have n3 : apaO c (some q) := by
  cases c with
  | none => trivial
  | some x => exact fun k hk e => (hq k e).elim (fun e2 => d2 k e2 hk) (fun e2 => by have := (World.ownsRow.lt h3 k hk).2; omega)
 have n4 : apaO d (some q) := by
  cases d with
  | none => trivial
  | some x => exact fun k hk e => (hq k e).elim (fun e2 => d3 k e2 hk) (fun e2 => by have := (World.ownsRow.lt h4 k hk).2; omega)
 exact ⟨⟨ho, k2, k3, k4⟩, n2.sym, n3.sym, n4.sym, d4, d5, d6⟩
theorem Own4.swap2 {w w' : World} {B p : Nat} {a c d : Option Rwd} {r q : Rwd} (h : Own4 w B a (some r) c d) (hoff : Jeh p a (some r) c d) (hF : ∀ k, k < w.heap.size → k ≠ p → r.v.ownBlock ≠ some k → w'.heap[k]? = w.heap[k]?) (ho : ownO w' B (some q)) (hq : ∀ k, q.v.ownBlock = some k → r.v.ownBlock = some k ∨ w.heap.size ≤ k) : Own4 w' B a (some q) c d := by
 obtain ⟨⟨h1, h2, h3, h4⟩, d1, d2, d3, d4, d5, d6⟩ := h
 obtain ⟨f1, f2, f3, f4⟩ := hoff
 have k1 : ownO w' B a := h1.same (fun x hx k hk => by subst hx; exact hF k (World.ownsRow.lt h1 k hk).2 (f1 k hk) (fun e => d1 k hk e))
 have k3 : ownO w' B c := h3.same (fun x hx k hk => by subst hx; exact hF k (World.ownsRow.lt h3 k hk).2 (f3 k hk) (fun e => d4 k e hk))
 have k4 : ownO w' B d := h4.same (fun x hx k hk => by subst hx; exact hF k (World.ownsRow.lt h4 k hk).2 (f4 k hk) (fun e => d5 k e hk))
 have n1 : apaO a (some q) := by
  cases a with
  | none => trivial
  | some x => exact fun k hk e => (hq k e).elim (fun e2 => d1 k hk e2) (fun e2 => by have := (World.ownsRow.lt h1 k hk).2; omega)
 have n3 : apaO c (some q) := by
  cases c with
  | none => trivial
  | some x => exact fun k hk e => (hq k e).elim (fun e2 => d4 k e2 hk) (fun e2 => by have := (World.ownsRow.lt h3 k hk).2; omega)
 have n4 : apaO d (some q) := by
  cases d with
  | none => trivial
  | some x => exact fun k hk e => (hq k e).elim (fun e2 => d5 k e2 hk) (fun e2 => by have := (World.ownsRow.lt h4 k hk).2; omega)
 exact ⟨⟨k1, ho, k3, k4⟩, n1, d2, d3, n3.sym, n4.sym, d6⟩
theorem Own4.swap3 {w w' : World} {B p : Nat} {a b d : Option Rwd} {r q : Rwd} (h : Own4 w B a b (some r) d) (hoff : Jeh p a b (some r) d) (hF : ∀ k, k < w.heap.size → k ≠ p → r.v.ownBlock ≠ some k → w'.heap[k]? = w.heap[k]?) (ho : ownO w' B (some q)) (hq : ∀ k, q.v.ownBlock = some k → r.v.ownBlock = some k ∨ w.heap.size ≤ k) : Own4 w' B a b (some q) d := by
 obtain ⟨⟨h1, h2, h3, h4⟩, d1, d2, d3, d4, d5, d6⟩ := h
 obtain ⟨f1, f2, f3, f4⟩ := hoff
 have k1 : ownO w' B a := h1.same (fun x hx k hk => by subst hx; exact hF k (World.ownsRow.lt h1 k hk).2 (f1 k hk) (fun e => d2 k hk e))
 have k2 : ownO w' B b := h2.same (fun x hx k hk => by subst hx; exact hF k (World.ownsRow.lt h2 k hk).2 (f2 k hk) (fun e => d4 k hk e))
 have k4 : ownO w' B d := h4.same (fun x hx k hk => by subst hx; exact hF k (World.ownsRow.lt h4 k hk).2 (f4 k hk) (fun e => d6 k e hk))
 have n1 : apaO a (some q) := by
  cases a with
  | none => trivial
  | some x => exact fun k hk e => (hq k e).elim (fun e2 => d2 k hk e2) (fun e2 => by have := (World.ownsRow.lt h1 k hk).2; omega)
 have n2 : apaO b (some q) := by
  cases b with
  | none => trivial
  | some x => exact fun k hk e => (hq k e).elim (fun e2 => d4 k hk e2) (fun e2 => by have := (World.ownsRow.lt h2 k hk).2; omega)
 have n4 : apaO d (some q) := by
  cases d with
  | none => trivial
  | some x => exact fun k hk e => (hq k e).elim (fun e2 => d6 k e2 hk) (fun e2 => by have := (World.ownsRow.lt h4 k hk).2; omega)
 exact ⟨⟨k1, k2, ho, k4⟩, d1, n1, d3, n2, d5, n4.sym⟩
theorem Own4.swap4 {w w' : World} {B p : Nat} {a b c : Option Rwd} {r q : Rwd} (h : Own4 w B a b c (some r)) (hoff : Jeh p a b c (some r)) (hF : ∀ k, k < w.heap.size → k ≠ p → r.v.ownBlock ≠ some k → w'.heap[k]? = w.heap[k]?) (ho : ownO w' B (some q)) (hq : ∀ k, q.v.ownBlock = some k → r.v.ownBlock = some k ∨ w.heap.size ≤ k) : Own4 w' B a b c (some q) := by
 obtain ⟨⟨h1, h2, h3, h4⟩, d1, d2, d3, d4, d5, d6⟩ := h
 obtain ⟨f1, f2, f3, f4⟩ := hoff
 have k1 : ownO w' B a := h1.same (fun x hx k hk => by subst hx; exact hF k (World.ownsRow.lt h1 k hk).2 (f1 k hk) (fun e => d3 k hk e))
 have k2 : ownO w' B b := h2.same (fun x hx k hk => by subst hx; exact hF k (World.ownsRow.lt h2 k hk).2 (f2 k hk) (fun e => d5 k hk e))
 have k3 : ownO w' B c := h3.same (fun x hx k hk => by subst hx; exact hF k (World.ownsRow.lt h3 k hk).2 (f3 k hk) (fun e => d6 k hk e))
 have n1 : apaO a (some q) := by
  cases a with
  | none => trivial
  | some x => exact fun k hk e => (hq k e).elim (fun e2 => d3 k hk e2) (fun e2 => by have := (World.ownsRow.lt h1 k hk).2; omega)
 have n2 : apaO b (some q) := by
  cases b with
  | none => trivial
  | some x => exact fun k hk e => (hq k e).elim (fun e2 => d5 k hk e2) (fun e2 => by have := (World.ownsRow.lt h2 k hk).2; omega)
 have n3 : apaO c (some q) := by
  cases c with
  | none => trivial
  | some x => exact fun k hk e => (hq k e).elim (fun e2 => d6 k hk e2) (fun e2 => by have := (World.ownsRow.lt h3 k hk).2; omega)
 exact ⟨⟨k1, k2, k3, ho⟩, d1, d2, n1, d4, n2, n3⟩
abbrev Jis : Oper := oq 4 (.move (.tmp 0)) 83 "l07_done.go:87" #[] none
abbrev Jiu : Oper := oq 5 (.nilCheck (.tmp 4)) 0 "l07_done.go:87" #[eD 0] none
abbrev Jit : Oper := oq 6 (.fieldAddr 29 (.tmp 5) 0) 0 "l07_done.go:87" #[eD 1] none
abbrev Jhl : Oper := oq 7 (.load 24 (.tmp 6)) 24 "l07_done.go:87" #[eD 2] none
abbrev JgI : Oper := oq 8 (.fieldAddr 44 (.tmp 3) 0) 0 "l07_done.go:87" #[] none
abbrev JhG : Oper := oq 9 (.fieldAddr 42 (.tmp 8) 0) 0 "l07_done.go:87" #[eD 4] none
abbrev Jg3 : Oper := oq 10 (.load 3 (.tmp 9)) 3 "l07_done.go:87" #[eD 5] none
abbrev JiD : Oper := oq 11 (.fieldAddr 44 (.tmp 3) 0) 0 "l07_done.go:87" #[] none
abbrev JgT : Oper := oq 12 (.fieldAddr 42 (.tmp 11) 1) 0 "l07_done.go:87" #[eD 7] none
abbrev Jhd : Oper := oq 13 (.load 3 (.tmp 12)) 3 "l07_done.go:87" #[eD 8] none
abbrev JeM : Oper := oq 14 (.indexAddr 24 (.tmp 7) (.tmp 10)) 0 "l07_done.go:87" #[eD 3, eD 6, eP 0, eP 1, eP 2, eP 3, eP 4, eP 5, eP 6, eP 7, eP 8, eP 9] none
abbrev JfK : Oper := oz (.store 3 (.tmp 14) (.tmp 13)) 0 "l07_done.go:87" #[eD 10, eD 9, eP 0, eP 1, eP 2, eP 3, eP 4, eP 5, eP 6, eP 7, eP 8, eP 9] none
theorem Jb5 (S : Sta) (A : Ac) (u : Value) (p : Nat) (u0 u1 u2 u3 : Value) (B : Nat) (w : World) (hS : SOk S) (hA : AOk A) (hR : Jt S A) (hk : A.k = 1) (hp : Row w p #[u0, u1, u2, u3] 29) (hpl : p < w.heap.size) (hB : B ≤ w.heap.size) (hO : OwnS w B S u0 u1 u2 u3) (hoff : ZX p u0 u1 u2 u3) (hU : ∀ wx, FrB w wx B p → IntsAt wx u A.l) :
  Calls Tryz.prog 54 #[.pointer (some ⟨p, 0, none⟩), .agg #[int i64 A.r, int i64 A.s, int i64 A.t, u, int i64 A.k, .string A.o, .string A.y, int i64 A.v, int i64 A.x, int i64 A.z]] w fun e w' => e = .returned (.tuple #[]) ∧ ∃ v0 v1 v2 v3, Row w' p #[v0, v1, v2, v3] 29 ∧ OwnS w' B (doS S A) v0 v1 v2 v3 ∧ FrB w w' B p := by
 obtain ⟨a0, c0, a1, c1, a2, c2, a3, c3, rfl, rfl, rfl, rfl⟩ := hO.at.shape
 have hl3 : S.l.length = 3 := hS.1.1
 obtain ⟨g0, rfl⟩ : ∃ g, a0 = some ⟨g, 0, none⟩ := by
  rcases hO.1.1.2 with ⟨h0, h1⟩ | ⟨g, cap, cur, e, -⟩
  ·rw [hl3] at h1; cases h1
  ·injection e with e1; exact ⟨g, e1⟩
 obtain ⟨rn, hrn⟩ : ∃ rn : Nat, A.r = rn := Int.eq_ofNat_of_zero_le hA.1.1
 have hr3 : rn < 3 := by have := hA.1.2.1; omega
 have hO0 : w.ownsRow B 3 1 (.slice (some ⟨g0, 0, none⟩) S.l.length c0) S.l.length (Je S.l) := hO.1.1
 have hg0 := hO0.lt g0 rfl
 have hg0p : g0 ≠ p := hoff.1 g0 rfl
 have HOFF := Ja hoff
 obtain ⟨W, hW⟩ : ∃ W, W = w.alloc (.cells #[int i64 A.r, int i64 A.s, int i64 A.t, u, int i64 A.k, .string A.o, .string A.y, int i64 A.v, int i64 A.x, int i64 A.z] 44) := ⟨_, rfl⟩
 have hBW : Below w.heap.size w W := by rw [hW]; exact (Below.refl _ _).alloc (Nat.le_refl _) _
 have hWs : W.heap.size = w.heap.size + 1 := by rw [hW]; simp
 have hRA : Row W w.heap.size #[int i64 A.r, int i64 A.s, int i64 A.t, u, int i64 A.k, .string A.o, .string A.y, int i64 A.v, int i64 A.x, int i64 A.z] 44 := by rw [hW]; exact Jb w _ _ rfl
 have hRP : Row W p #[.slice (some ⟨g0, 0, none⟩) S.l.length c0, .slice a1 S.T.length c1, .slice a2 S.L.length c2, .slice a3 S.C.length c3] 29 := hp.next hBW
 have hOW : OwnS W B S (.slice (some ⟨g0, 0, none⟩) S.l.length c0) (.slice a1 S.T.length c1) (.slice a2 S.L.length c2) (.slice a3 S.C.length c3) := Own4.next hO hBW
 have HW : Hid (w.alloc (.cells #[int i64 A.r, int i64 A.s, int i64 A.t, u, int i64 A.k, .string A.o, .string A.y, int i64 A.v, int i64 A.x, int i64 A.z] 44) = W) := hW.symm
 have HU := Ja hU
 have HLT3 : Hid (∀ j, (Value.slice a3 S.C.length c3).ownBlock = some j → j < w.heap.size) := fun j hj => (World.ownsRow.lt hO.1.2.2.2 j hj).2
 have HS := Ja hS
 have HA := Ja hA
 have HR := Ja hR
 have HK : Hid (A.k = 1) := hk
 have HL3 := Ja hl3
 have HRN := Ja hrn
 have hi1 : (rn : Int) < S.l.length := by omega
 have hi0 : (0 : Int) ≤ rn := by omega
 have HSS : Hid (∀ wx, Below W.heap.size W wx → wx.cell? ⟨p, 0, none⟩ = some (.slice (some ⟨g0, 0, none⟩) S.l.length c0) ∧ wx.cell? ⟨w.heap.size, 0, none⟩ = some (int i64 (rn : Int)) ∧ wx.cell? ⟨w.heap.size, 1, none⟩ = some (int i64 A.s)) := fun wx h => ⟨(hRP.next h).cell 0 rfl, by have := (hRA.next h).cell 0 rfl; rw [← HRN.out]; exact this, (hRA.next h).cell 1 rfl⟩
 have hBc : Below W.heap.size W W.drew := (Below.refl _ _).drew
 -- behind the store
 obtain ⟨Y, hY⟩ : ∃ Y, Y = W.drew.setCell ⟨g0, rn, none⟩ (int i64 A.s) := ⟨_, rfl⟩
 have hOD : W.drew.ownsRow B 3 1 (.slice (some ⟨g0, 0, none⟩) S.l.length c0) S.l.length (Je S.l) := Jh hOW.1.1 hBc
 have y0 : W.drew.cell? ⟨g0, rn, none⟩ = some (int i64 (S.l.getD rn 0)) := by
  rw [hOD.cellAt rn (by omega)]; simp [Je, List.getD, show rn < S.l.length by omega]
 have y1 := hOD.frozenAt rn
 have hYb : ∀ j, j ≠ g0 → Y.heap[j]? = W.drew.heap[j]? := fun j hj => by rw [hY]; exact Below.heap_setCell W.drew _ _ j (fun e => hj e)
 have hYs : Y.heap.size = W.heap.size := by rw [hY]; simp [World.setCell]
 have HYP : Hid (Row Y p #[.slice (some ⟨g0, 0, none⟩) S.l.length c0, .slice a1 S.T.length c1, .slice a2 S.L.length c2, .slice a3 S.C.length c3] 29) := by rw [hY]; exact (hRP.next hBc).other (by simp; omega) _
 have HYA : Hid (Row Y w.heap.size #[int i64 A.r, int i64 A.s, int i64 A.t, u, int i64 A.k, .string A.o, .string A.y, int i64 A.v, int i64 A.x, int i64 A.z] 44) := by rw [hY]; exact (hRA.next hBc).other (by simp; omega) _
 have hset : (Je S.l).set rn (int i64 A.s) = Je (S.l.set rn A.s) := by simp [Je, List.map_set]
 have HYO : Hid (OwnS Y B ⟨S.l.set rn A.s, S.T, S.L, S.C⟩ (.slice (some ⟨g0, 0, none⟩) S.l.length c0) (.slice a1 S.T.length c1) (.slice a2 S.L.length c2) (.slice a3 S.C.length c3)) := by
  have hD : OwnS W.drew B S (.slice (some ⟨g0, 0, none⟩) S.l.length c0) (.slice a1 S.T.length c1) (.slice a2 S.L.length c2) (.slice a3 S.C.length c3) := Own4.next hOW hBc
  have ho1 : ownO Y B (some ⟨.slice (some ⟨g0, 0, none⟩) S.l.length c0, 3, 1, (S.l.set rn A.s).length, Je (S.l.set rn A.s)⟩) := by
   show World.ownsRow _ _ _ _ _ _ _
   rw [← hset, List.length_set, hY]
   exact (hOD.stored rn (int i64 A.s)).1
  refine Own4.swap1 (p := p) hD HOFF.out (fun k hk hp hr => hYb k (fun e => hr (by rw [e]; rfl))) ho1 (fun k hk => .inl hk)
 have HYF : Hid (FrB w Y B p) := ⟨by rw [hY]; exact hBW.os, by rw [hY]; exact hBW.tape, by rw [hY]; exact hBW.output, by rw [hYs, hWs]; omega, fun j hj _ => by rw [hYb j (by omega)]; exact hBW.block j (by omega)⟩
 have HDS : Hid (doS S A = ⟨S.l.set rn A.s, Jv S.T A.o A.r A.v, S.L, S.C⟩) := by show _ = _; have e : A.r.toNat = rn := (by omega); unfold doS; rw [e, hk]; rfl
 have HYZ : Hid (Y.heap.size = w.heap.size + 1) := by show _ = _; omega
 have HY : Hid (W.drew.setCell ⟨g0, rn, none⟩ (int i64 A.s) = Y) := hY.symm
 rw [hrn]
 rw [hrn] at HW
 clear hS hA hR hU hp hO hoff hW hBW hRA hRP hOW hO0 hOD hset hYb hrn hl3 hWs hk hY hYs
 go_enter Tryz.func54, Tryz.ntmps54
 go_wp2
 rw [HW.out]
 try simp only [List.append_eq, List.cons_append, List.nil_append]
 refine wph HSS hBc 12 ?_
 refine tQ 0 Jis ?_ (HSS.out _ hBc); refine tQ 1 Jiu ?_ (HSS.out _ hBc); refine tQ 2 Jit ?_ (HSS.out _ hBc); refine tQ 3 Jhl ?_ (HSS.out _ hBc); refine tQ 4 JgI ?_ (HSS.out _ hBc); refine tQ 5 JhG ?_ (HSS.out _ hBc); refine tQ 6 Jg3 ?_ (HSS.out _ hBc); refine tQ 7 JiD ?_ (HSS.out _ hBc); refine tQ 8 JgT ?_ (HSS.out _ hBc); refine tQ 9 Jhd ?_ (HSS.out _ hBc); refine tQ 10 JeM ?_ (HSS.out _ hBc)
 have hS2 : Y.cell? ⟨p, 0, none⟩ = some (.slice (some ⟨g0, 0, none⟩) S.l.length c0) ∧ Y.cell? ⟨w.heap.size, 0, none⟩ = some (int i64 (rn : Int)) ∧ Y.cell? ⟨w.heap.size, 1, none⟩ = some (int i64 A.s) := ⟨HYP.out.cell 0 rfl, by have := HYA.out.cell 0 rfl; rw [← HRN.out]; exact this, HYA.out.cell 1 rfl⟩
 refine rd 11 JfK (fun K hK => ?_)
 go_simp
 rw [show (W.setCell ⟨g0, rn, none⟩ (int i64 A.s)).drew = W.drew.setCell ⟨g0, rn, none⟩ (int i64 A.s) from rfl, HY.out]
 refine hK.out _ _ hS2 (fun hcl => ?_)
 clear hK K hS2 y0 y1 HY HSS hBc HW hcl
 refine wpd ?_
 have m0 := HYA.out.cell 0 rfl
 have m4 := HYA.out.cell 4 rfl
 have m5 := HYA.out.cell 5 rfl
 have m7 := HYA.out.cell 7 rfl
 have b1 : (A.k == 1) = true := by simp [HK.out]
 have HTC := Ja (Ug S.T p (.slice (some ⟨g0, 0, none⟩) S.l.length c0) (.slice a1 S.T.length c1) (.slice a2 S.L.length c2) (.slice a3 S.C.length c3) A.o A.r A.v B Y (Nat.le_trans HS.out.2.1.1 (by omega)) (fun a ha => (HS.out.2.1.2.mem a ha).2.2) (by have h5 := HA.out.2.2.2.2.1; exact Z0 h5 (.inl HK.out)) HYP.out (by have := HYZ.out; omega) HOFF.out.2.1 (by have := HYZ.out; omega) HYO.out.1.2.1)
 go_wp2_with fail
 refine HTC.out.mono ?_
 rintro e w2 ⟨rfl, a1', d1', hRw, hOw, hlt, hF⟩
 have HRF := Ja hRw
 have HOF : Hid (OwnS w2 B (doS S A) (.slice (some ⟨g0, 0, none⟩) S.l.length c0) (.slice a1' (Jv S.T A.o A.r A.v).length d1') (.slice a2 S.L.length c2) (.slice a3 S.C.length c3)) := by
  show OwnS _ _ _ _ _ _ _
  rw [HDS.out]
  exact Own4.swap2 (p := p) HYO.out HOFF.out (fun k hk hp hr => hF.2.2.2.2 k hk hp hr) hOw (fun k hk => hlt k hk)
 have HFF : Hid (FrB w w2 B p) := HYF.out.trans (FrB.frm hF (by have := HYZ.out; omega) (fun j hj => (HYO.out.1.2.1.lt j hj).1))
 clear hRw hOw hlt hF HTC m0 m4 m5 m7
 go_wp2
 go_end0
 exact ⟨rfl, _, _, _, _, HRF.out, HOF.out, HFF.out⟩
abbrev JiH : Oper := oq 4 (.move (.tmp 0)) 83 "l07_done.go:87" #[] none
abbrev JhQ : Oper := oq 5 (.nilCheck (.tmp 4)) 0 "l07_done.go:87" #[eD 0] none
abbrev JiJ : Oper := oq 6 (.fieldAddr 29 (.tmp 5) 0) 0 "l07_done.go:87" #[eD 1] none
abbrev Jik : Oper := oq 7 (.load 24 (.tmp 6)) 24 "l07_done.go:87" #[eD 2] none
abbrev Jiq : Oper := oq 8 (.fieldAddr 44 (.tmp 3) 0) 0 "l07_done.go:87" #[] none
abbrev JhN : Oper := oq 9 (.fieldAddr 42 (.tmp 8) 0) 0 "l07_done.go:87" #[eD 4] none
abbrev JhR : Oper := oq 10 (.load 3 (.tmp 9)) 3 "l07_done.go:87" #[eD 5] none
abbrev Jh2 : Oper := oq 11 (.fieldAddr 44 (.tmp 3) 0) 0 "l07_done.go:87" #[] none
abbrev Jhg : Oper := oq 12 (.fieldAddr 42 (.tmp 11) 1) 0 "l07_done.go:87" #[eD 7] none
abbrev Jh6 : Oper := oq 13 (.load 3 (.tmp 12)) 3 "l07_done.go:87" #[eD 8] none
abbrev Jfk : Oper := oq 14 (.indexAddr 24 (.tmp 7) (.tmp 10)) 0 "l07_done.go:87" #[eD 3, eD 6, eP 0, eP 1, eP 2, eP 3, eP 4, eP 5, eP 6, eP 7, eP 8, eP 9] none
abbrev Jgz : Oper := oz (.store 3 (.tmp 14) (.tmp 13)) 0 "l07_done.go:87" #[eD 10, eD 9, eP 0, eP 1, eP 2, eP 3, eP 4, eP 5, eP 6, eP 7, eP 8, eP 9] none
abbrev Jgl : Oper := oq 30 (.move (.tmp 0)) 83 "l07_done.go:92" #[] none
abbrev Jfj : Oper := oq 31 (.move (.tmp 0)) 83 "l07_done.go:92" #[] none
abbrev Jgu : Oper := oq 32 (.nilCheck (.tmp 31)) 0 "l07_done.go:92" #[eD 1] none
abbrev Jf5 : Oper := oq 33 (.fieldAddr 29 (.tmp 32) 2) 0 "l07_done.go:92" #[eD 2] none
abbrev Jf7 : Oper := oq 35 (.fieldAddr 44 (.tmp 3) 4) 0 "l07_done.go:92" #[] none
abbrev Jfn : Oper := oq 36 (.load 9 (.tmp 35)) 9 "l07_done.go:92" #[eD 5] none
abbrev Jgn : Oper := oq 37 (.fieldAddr 44 (.tmp 3) 5) 0 "l07_done.go:92" #[] none
abbrev JeK : Oper := oq 38 (.load 9 (.tmp 37)) 9 "l07_done.go:92" #[eD 7] none
abbrev Jgq : Oper := oq 39 (.fieldAddr 44 (.tmp 3) 0) 0 "l07_done.go:92" #[] none
abbrev Je6 : Oper := oq 40 (.load 42 (.tmp 39)) 42 "l07_done.go:92" #[eD 9] none
abbrev Jgt : Oper := oq 41 (.build 88 #[(1, .tmp 36), (2, .tmp 38), (4, .tmp 40)]) 88 "l07_done.go:92" #[eD 6, eD 8, eD 10] none
abbrev Jfg : Oper := oq 34 (.load 26 (.tmp 33)) 26 "l07_done.go:92" #[eD 3] none
abbrev Jgx : Oper := oq 42 (.call ⟨.value (.func 103), #[.tmp 34, .tmp 41], #[26, 88]⟩) 26 "l07_done.go:92" #[eD 4, eD 11] none
abbrev JfN : Oper := oq 43 (.nilCheck (.tmp 30)) 0 "l07_done.go:92" #[eD 0, eP 0, eP 1, eP 2, eP 3, eP 4, eP 5, eP 6, eP 7, eP 8, eP 9, eP 10, eP 11, eP 12] none
abbrev Jfl : Oper := oq 44 (.fieldAddr 29 (.tmp 43) 2) 0 "l07_done.go:92" #[eD 13, eP 0, eP 1, eP 2, eP 3, eP 4, eP 5, eP 6, eP 7, eP 8, eP 9, eP 10, eP 11, eP 12] none
abbrev JfF : Oper := oz (.store 26 (.tmp 44) (.tmp 42)) 0 "l07_done.go:92" #[eD 14, eD 12, eC 12, eP 0, eP 1, eP 2, eP 3, eP 4, eP 5, eP 6, eP 7, eP 8, eP 9, eP 10, eP 11, eP 12] none
theorem Jcr (S : Sta) (A : Ac) (u : Value) (p : Nat) (u0 u1 u2 u3 : Value) (B : Nat) (w : World) (hS : SOk S) (hA : AOk A) (hR : Jt S A) (hk : A.k = 2) (hp : Row w p #[u0, u1, u2, u3] 29) (hpl : p < w.heap.size) (hB : B ≤ w.heap.size) (hO : OwnS w B S u0 u1 u2 u3) (hoff : ZX p u0 u1 u2 u3) (hU : ∀ wx, FrB w wx B p → IntsAt wx u A.l) :
  Calls Tryz.prog 54 #[.pointer (some ⟨p, 0, none⟩), .agg #[int i64 A.r, int i64 A.s, int i64 A.t, u, int i64 A.k, .string A.o, .string A.y, int i64 A.v, int i64 A.x, int i64 A.z]] w fun e w' => e = .returned (.tuple #[]) ∧ ∃ v0 v1 v2 v3, Row w' p #[v0, v1, v2, v3] 29 ∧ OwnS w' B (doS S A) v0 v1 v2 v3 ∧ FrB w w' B p := by
 obtain ⟨a0, c0, a1, c1, a2, c2, a3, c3, rfl, rfl, rfl, rfl⟩ := hO.at.shape
 have hl3 : S.l.length = 3 := hS.1.1
 obtain ⟨g0, rfl⟩ : ∃ g, a0 = some ⟨g, 0, none⟩ := by
  rcases hO.1.1.2 with ⟨h0, h1⟩ | ⟨g, cap, cur, e, -⟩
  ·rw [hl3] at h1; cases h1
  ·injection e with e1; exact ⟨g, e1⟩
 obtain ⟨rn, hrn⟩ : ∃ rn : Nat, A.r = rn := Int.eq_ofNat_of_zero_le hA.1.1
 have hr3 : rn < 3 := by have := hA.1.2.1; omega
 have hO0 : w.ownsRow B 3 1 (.slice (some ⟨g0, 0, none⟩) S.l.length c0) S.l.length (Je S.l) := hO.1.1
 have hg0 := hO0.lt g0 rfl
 have hg0p : g0 ≠ p := hoff.1 g0 rfl
 have HOFF := Ja hoff
 obtain ⟨W, hW⟩ : ∃ W, W = w.alloc (.cells #[int i64 A.r, int i64 A.s, int i64 A.t, u, int i64 A.k, .string A.o, .string A.y, int i64 A.v, int i64 A.x, int i64 A.z] 44) := ⟨_, rfl⟩
 have hBW : Below w.heap.size w W := by rw [hW]; exact (Below.refl _ _).alloc (Nat.le_refl _) _
 have hWs : W.heap.size = w.heap.size + 1 := by rw [hW]; simp
 have hRA : Row W w.heap.size #[int i64 A.r, int i64 A.s, int i64 A.t, u, int i64 A.k, .string A.o, .string A.y, int i64 A.v, int i64 A.x, int i64 A.z] 44 := by rw [hW]; exact Jb w _ _ rfl
 have hRP : Row W p #[.slice (some ⟨g0, 0, none⟩) S.l.length c0, .slice a1 S.T.length c1, .slice a2 S.L.length c2, .slice a3 S.C.length c3] 29 := hp.next hBW
 have hOW : OwnS W B S (.slice (some ⟨g0, 0, none⟩) S.l.length c0) (.slice a1 S.T.length c1) (.slice a2 S.L.length c2) (.slice a3 S.C.length c3) := Own4.next hO hBW
 have HW : Hid (w.alloc (.cells #[int i64 A.r, int i64 A.s, int i64 A.t, u, int i64 A.k, .string A.o, .string A.y, int i64 A.v, int i64 A.x, int i64 A.z] 44) = W) := hW.symm
 have HU := Ja hU
 have HLT3 : Hid (∀ j, (Value.slice a3 S.C.length c3).ownBlock = some j → j < w.heap.size) := fun j hj => (World.ownsRow.lt hO.1.2.2.2 j hj).2
 have HS := Ja hS
 have HA := Ja hA
 have HR := Ja hR
 have HK : Hid (A.k = 2) := hk
 have HL3 := Ja hl3
 have HRN := Ja hrn
 have hi1 : (rn : Int) < S.l.length := by omega
 have hi0 : (0 : Int) ≤ rn := by omega
 have HSS : Hid (∀ wx, Below W.heap.size W wx → wx.cell? ⟨p, 0, none⟩ = some (.slice (some ⟨g0, 0, none⟩) S.l.length c0) ∧ wx.cell? ⟨w.heap.size, 0, none⟩ = some (int i64 (rn : Int)) ∧ wx.cell? ⟨w.heap.size, 1, none⟩ = some (int i64 A.s)) := fun wx h => ⟨(hRP.next h).cell 0 rfl, by have := (hRA.next h).cell 0 rfl; rw [← HRN.out]; exact this, (hRA.next h).cell 1 rfl⟩
 have hBc : Below W.heap.size W W.drew := (Below.refl _ _).drew
 -- behind the store
 obtain ⟨Y, hY⟩ : ∃ Y, Y = W.drew.setCell ⟨g0, rn, none⟩ (int i64 A.s) := ⟨_, rfl⟩
 have hOD : W.drew.ownsRow B 3 1 (.slice (some ⟨g0, 0, none⟩) S.l.length c0) S.l.length (Je S.l) := Jh hOW.1.1 hBc
 have y0 : W.drew.cell? ⟨g0, rn, none⟩ = some (int i64 (S.l.getD rn 0)) := by
  rw [hOD.cellAt rn (by omega)]; simp [Je, List.getD, show rn < S.l.length by omega]
 have y1 := hOD.frozenAt rn
 have hYb : ∀ j, j ≠ g0 → Y.heap[j]? = W.drew.heap[j]? := fun j hj => by rw [hY]; exact Below.heap_setCell W.drew _ _ j (fun e => hj e)
 have hYs : Y.heap.size = W.heap.size := by rw [hY]; simp [World.setCell]
 have HYP : Hid (Row Y p #[.slice (some ⟨g0, 0, none⟩) S.l.length c0, .slice a1 S.T.length c1, .slice a2 S.L.length c2, .slice a3 S.C.length c3] 29) := by rw [hY]; exact (hRP.next hBc).other (by simp; omega) _
 have HYA : Hid (Row Y w.heap.size #[int i64 A.r, int i64 A.s, int i64 A.t, u, int i64 A.k, .string A.o, .string A.y, int i64 A.v, int i64 A.x, int i64 A.z] 44) := by rw [hY]; exact (hRA.next hBc).other (by simp; omega) _
 have hset : (Je S.l).set rn (int i64 A.s) = Je (S.l.set rn A.s) := by simp [Je, List.map_set]
 have HYO : Hid (OwnS Y B ⟨S.l.set rn A.s, S.T, S.L, S.C⟩ (.slice (some ⟨g0, 0, none⟩) S.l.length c0) (.slice a1 S.T.length c1) (.slice a2 S.L.length c2) (.slice a3 S.C.length c3)) := by
  have hD : OwnS W.drew B S (.slice (some ⟨g0, 0, none⟩) S.l.length c0) (.slice a1 S.T.length c1) (.slice a2 S.L.length c2) (.slice a3 S.C.length c3) := Own4.next hOW hBc
  have ho1 : ownO Y B (some ⟨.slice (some ⟨g0, 0, none⟩) S.l.length c0, 3, 1, (S.l.set rn A.s).length, Je (S.l.set rn A.s)⟩) := by
   show World.ownsRow _ _ _ _ _ _ _
   rw [← hset, List.length_set, hY]
   exact (hOD.stored rn (int i64 A.s)).1
  refine Own4.swap1 (p := p) hD HOFF.out (fun k hk hp hr => hYb k (fun e => hr (by rw [e]; rfl))) ho1 (fun k hk => .inl hk)
 have HYF : Hid (FrB w Y B p) := ⟨by rw [hY]; exact hBW.os, by rw [hY]; exact hBW.tape, by rw [hY]; exact hBW.output, by rw [hYs, hWs]; omega, fun j hj _ => by rw [hYb j (by omega)]; exact hBW.block j (by omega)⟩
 have HDS : Hid (doS S A = ⟨S.l.set rn A.s, S.T, JE (Jj false 0 A) S.L, S.C⟩) := by show _ = _; have e : A.r.toNat = rn := (by omega); unfold doS; rw [e, hk]; rfl
 have HYZ : Hid (Y.heap.size = w.heap.size + 1) := by show _ = _; omega
 have HY : Hid (W.drew.setCell ⟨g0, rn, none⟩ (int i64 A.s) = Y) := hY.symm
 rw [hrn]
 rw [hrn] at HW
 clear hS hA hR hU hp hO hoff hW hBW hRA hRP hOW hO0 hOD hset hYb hrn hl3 hWs hk hY hYs
 go_enter Tryz.func54, Tryz.ntmps54
 go_wp2
 rw [HW.out]
 try simp only [List.append_eq, List.cons_append, List.nil_append]
 refine wph HSS hBc 12 ?_
 refine tQ 0 JiH ?_ (HSS.out _ hBc); refine tQ 1 JhQ ?_ (HSS.out _ hBc); refine tQ 2 JiJ ?_ (HSS.out _ hBc); refine tQ 3 Jik ?_ (HSS.out _ hBc); refine tQ 4 Jiq ?_ (HSS.out _ hBc); refine tQ 5 JhN ?_ (HSS.out _ hBc); refine tQ 6 JhR ?_ (HSS.out _ hBc); refine tQ 7 Jh2 ?_ (HSS.out _ hBc); refine tQ 8 Jhg ?_ (HSS.out _ hBc); refine tQ 9 Jh6 ?_ (HSS.out _ hBc); refine tQ 10 Jfk ?_ (HSS.out _ hBc)
 have hS2 : Y.cell? ⟨p, 0, none⟩ = some (.slice (some ⟨g0, 0, none⟩) S.l.length c0) ∧ Y.cell? ⟨w.heap.size, 0, none⟩ = some (int i64 (rn : Int)) ∧ Y.cell? ⟨w.heap.size, 1, none⟩ = some (int i64 A.s) := ⟨HYP.out.cell 0 rfl, by have := HYA.out.cell 0 rfl; rw [← HRN.out]; exact this, HYA.out.cell 1 rfl⟩
 refine rd 11 Jgz (fun K hK => ?_)
 go_simp
 rw [show (W.setCell ⟨g0, rn, none⟩ (int i64 A.s)).drew = W.drew.setCell ⟨g0, rn, none⟩ (int i64 A.s) from rfl, HY.out]
 refine hK.out _ _ hS2 (fun hcl => ?_)
 clear hK K hS2 y0 y1 HY HSS hBc HW hcl
 refine wpd ?_
 obtain ⟨m0, m1, m2, m3, m4, m5, m6, m7, m8, m9⟩ := ZH HYA.out
 have b1 : (A.k == 1) = false := by simp [HK.out]
 have b2 : (A.k == 2) = true := by simp [HK.out]
 have HSY : Hid (∀ wx, Below Y.heap.size Y wx → wx.cell? ⟨p, 0, none⟩ = some (.slice (some ⟨g0, 0, none⟩) S.l.length c0) ∧ wx.cell? ⟨p, 1, none⟩ = some (.slice a1 S.T.length c1) ∧ wx.cell? ⟨p, 3, none⟩ = some (.slice a3 S.C.length c3) ∧ wx.cell? ⟨w.heap.size, 0, none⟩ = some (int i64 A.r) ∧ wx.cell? ⟨w.heap.size, 1, none⟩ = some (int i64 A.s) ∧ wx.cell? ⟨w.heap.size, 2, none⟩ = some (int i64 A.t) ∧ wx.cell? ⟨w.heap.size, 3, none⟩ = some (u) ∧ wx.cell? ⟨w.heap.size, 4, none⟩ = some (int i64 A.k) ∧ wx.cell? ⟨w.heap.size, 5, none⟩ = some (.string A.o) ∧ wx.cell? ⟨w.heap.size, 6, none⟩ = some (.string A.y) ∧ wx.cell? ⟨w.heap.size, 7, none⟩ = some (int i64 A.v) ∧ wx.cell? ⟨w.heap.size, 8, none⟩ = some (int i64 A.x) ∧ wx.cell? ⟨w.heap.size, 9, none⟩ = some (int i64 A.z)) := fun wx h => ⟨(HYP.out.next h).cell 0 rfl, (HYP.out.next h).cell 1 rfl, (HYP.out.next h).cell 3 rfl, (HYA.out.next h).cell 0 rfl, (HYA.out.next h).cell 1 rfl, (HYA.out.next h).cell 2 rfl, (HYA.out.next h).cell 3 rfl, (HYA.out.next h).cell 4 rfl, (HYA.out.next h).cell 5 rfl, (HYA.out.next h).cell 6 rfl, (HYA.out.next h).cell 7 rfl, (HYA.out.next h).cell 8 rfl, (HYA.out.next h).cell 9 rfl⟩
 have hBc : Below Y.heap.size Y Y.drew := (Below.refl _ _).drew
 go_wp2
 try simp only [List.append_eq, List.cons_append, List.nil_append]
 refine wph HSY hBc 16 ?_
 refine tQ 0 Jgl ?_ (HSY.out _ hBc)
 refine tQ 1 Jfj ?_ (HSY.out _ hBc)
 refine tQ 2 Jgu ?_ (HSY.out _ hBc)
 refine tQ 3 Jf5 ?_ (HSY.out _ hBc)
 refine tQ 5 Jf7 ?_ (HSY.out _ hBc)
 refine tQ 6 Jfn ?_ (HSY.out _ hBc)
 refine tQ 7 Jgn ?_ (HSY.out _ hBc)
 refine tQ 8 JeK ?_ (HSY.out _ hBc)
 refine tQ 9 Jgq ?_ (HSY.out _ hBc)
 refine tQ 10 Je6 ?_ (HSY.out _ hBc)
 refine tQ 11 Jgt ?_ (HSY.out _ hBc)
 refine rd 4 Jfg (fun K hK => ?_)
 have zc := (HYP.out.next hBc).cell 2 rfl
 go_simp
 refine hK.out _ _ (HSY.out _ hBc) (fun hcl => ?_)
 clear hK K hcl zc
 try simp only [s1, s2, s3]
 refine rd 12 Jgx (fun K hK => ?_)
 go_simp
 have hBd := hBc
 refine (ZL S.L _ (Jj false 0 A) _ (Nat.le_trans HS.out.2.2.1.1 (by omega)) (LiAt.below (LiAt.own HYO.out.1.2.2.1 rfl) hBc)).mono ?_
 rintro e wn ⟨vv, rfl, hov, hbn⟩
 replace hBc := nx hBc hbn
 obtain ⟨av, dv, rfl, -⟩ := LiAt.own hov rfl
 have hvlt : ∀ j, (Value.slice av (JE (Jj false 0 A) S.L).length dv).ownBlock = some j → Y.heap.size ≤ j := fun j hj => Nat.le_trans hBd.size (hov.lt j hj).1
 replace hov : wn.ownsRow B 88 6 (.slice av (JE (Jj false 0 A) S.L).length dv) (JE (Jj false 0 A) S.L).length (liV (JE (Jj false 0 A) S.L)) := Jk hov (Nat.le_trans (by have := HYZ.out; omega) hBd.size)
 clear hbn hBd
 try go_wp2_with fail
 refine hK.out _ _ (HSY.out _ hBc) (fun hcl => ?_)
 clear hK K hcl
 try simp only [s1, s2, s3]
 refine tQ 13 JfN ?_ (HSY.out _ hBc)
 refine tQ 14 Jfl ?_ (HSY.out _ hBc)
 have z0 := (HYP.out.next hBc).cell 2 rfl
 have z1 := (HYP.out.next hBc).free 2
 obtain ⟨V, hV⟩ : ∃ V, V = wn.setCell ⟨p, 2, none⟩ (.slice av (JE (Jj false 0 A) S.L).length dv) := ⟨_, rfl⟩
 have hVP : Row V p #[.slice (some ⟨g0, 0, none⟩) S.l.length c0, .slice a1 S.T.length c1, .slice av (JE (Jj false 0 A) S.L).length dv, .slice a3 S.C.length c3] 29 := by rw [hV]; exact (HYP.out.next hBc).st2 _
 have hVA : Row V w.heap.size #[int i64 A.r, int i64 A.s, int i64 A.t, u, int i64 A.k, .string A.o, .string A.y, int i64 A.v, int i64 A.x, int i64 A.z] 44 := by rw [hV]; exact (HYA.out.next hBc).other (by simp; omega) _
 have hVb : ∀ j, j ≠ p → V.heap[j]? = wn.heap[j]? := fun j hj => by rw [hV]; exact Below.heap_setCell wn _ _ j (fun e => hj e)
 have hVs : wn.heap.size ≤ V.heap.size := by rw [hV]; simp [World.setCell]
 have hV3 : V.os = wn.os ∧ V.tape = wn.tape ∧ V.output = wn.output := by rw [hV]; exact ⟨rfl, rfl, rfl⟩
 have HV : Hid (wn.setCell ⟨p, 2, none⟩ (.slice av (JE (Jj false 0 A) S.L).length dv) = V) := hV.symm
 clear hV
 have HOF : Hid (OwnS V B (doS S A) (.slice (some ⟨g0, 0, none⟩) S.l.length c0) (.slice a1 S.T.length c1) (.slice av (JE (Jj false 0 A) S.L).length dv) (.slice a3 S.C.length c3)) := by
  show OwnS _ _ _ _ _ _ _
  rw [HDS.out]
  exact Own4.swap3 (p := p) HYO.out HOFF.out (fun k hk hp hr => by rw [hVb k hp]; exact hBc.block k hk) (Gh hov (fun k hk => hVb k (by have := hvlt k hk; have := HYZ.out; omega))) (fun k hk => .inr (hvlt k hk))
 have HFF : Hid (FrB w V B p) := HYF.out.trans ⟨hV3.1.trans hBc.os, hV3.2.1.trans hBc.tape, hV3.2.2.trans hBc.output, Nat.le_trans hBc.size hVs, fun k hk hp => by rw [hVb k hp]; exact hBc.block k (by have := HYZ.out; omega)⟩
 have HRF := Ja hVP
 refine rd 15 JfF (fun K hK => ?_)
 go_simp
 rw [show wn.setCell ⟨p, 2, none⟩ (.slice av (ins (fun y => decide (Jo (Jj false 0 A).r (Jj false 0 A).s y.r y.s)) (Jj false 0 A) S.L).length dv) = V from HV.out]
 refine hK.out _ _ ⟨hVP.cell 0 rfl, hVP.cell 1 rfl, hVP.cell 3 rfl, hVA.cell 0 rfl, hVA.cell 1 rfl, hVA.cell 2 rfl, hVA.cell 3 rfl, hVA.cell 4 rfl, hVA.cell 5 rfl, hVA.cell 6 rfl, hVA.cell 7 rfl, hVA.cell 8 rfl, hVA.cell 9 rfl⟩ (fun hcl => ?_)
 clear hK K hcl z0 z1 hVP hVA hVb hVs hV3 HV hBc HSY hov hvlt m0 m1 m2 m3 m4 m5 m6 m7 m8 m9
 refine wpd ?_
 go_wp2
 go_end0
 exact ⟨rfl, _, _, _, _, HRF.out, HOF.out, HFF.out⟩
abbrev JhK : Oper := oq 4 (.move (.tmp 0)) 83 "l07_done.go:87" #[] none
abbrev JiG : Oper := oq 5 (.nilCheck (.tmp 4)) 0 "l07_done.go:87" #[eD 0] none
abbrev Jix : Oper := oq 6 (.fieldAddr 29 (.tmp 5) 0) 0 "l07_done.go:87" #[eD 1] none
abbrev JhW : Oper := oq 7 (.load 24 (.tmp 6)) 24 "l07_done.go:87" #[eD 2] none
abbrev Jg9 : Oper := oq 8 (.fieldAddr 44 (.tmp 3) 0) 0 "l07_done.go:87" #[] none
abbrev JhH : Oper := oq 9 (.fieldAddr 42 (.tmp 8) 0) 0 "l07_done.go:87" #[eD 4] none
abbrev JgH : Oper := oq 10 (.load 3 (.tmp 9)) 3 "l07_done.go:87" #[eD 5] none
abbrev JhI : Oper := oq 11 (.fieldAddr 44 (.tmp 3) 0) 0 "l07_done.go:87" #[] none
abbrev Jhv : Oper := oq 12 (.fieldAddr 42 (.tmp 11) 1) 0 "l07_done.go:87" #[eD 7] none
abbrev Jg7 : Oper := oq 13 (.load 3 (.tmp 12)) 3 "l07_done.go:87" #[eD 8] none
abbrev Jfc : Oper := oq 14 (.indexAddr 24 (.tmp 7) (.tmp 10)) 0 "l07_done.go:87" #[eD 3, eD 6, eP 0, eP 1, eP 2, eP 3, eP 4, eP 5, eP 6, eP 7, eP 8, eP 9] none
abbrev Jgw : Oper := oz (.store 3 (.tmp 14) (.tmp 13)) 0 "l07_done.go:87" #[eD 10, eD 9, eP 0, eP 1, eP 2, eP 3, eP 4, eP 5, eP 6, eP 7, eP 8, eP 9] none
theorem Jch (S : Sta) (A : Ac) (u : Value) (p : Nat) (u0 u1 u2 u3 : Value) (B : Nat) (w : World) (hS : SOk S) (hA : AOk A) (hR : Jt S A) (hk : A.k = 3) (hp : Row w p #[u0, u1, u2, u3] 29) (hpl : p < w.heap.size) (hB : B ≤ w.heap.size) (hO : OwnS w B S u0 u1 u2 u3) (hoff : ZX p u0 u1 u2 u3) (hU : ∀ wx, FrB w wx B p → IntsAt wx u A.l) :
  Calls Tryz.prog 54 #[.pointer (some ⟨p, 0, none⟩), .agg #[int i64 A.r, int i64 A.s, int i64 A.t, u, int i64 A.k, .string A.o, .string A.y, int i64 A.v, int i64 A.x, int i64 A.z]] w fun e w' => e = .returned (.tuple #[]) ∧ ∃ v0 v1 v2 v3, Row w' p #[v0, v1, v2, v3] 29 ∧ OwnS w' B (doS S A) v0 v1 v2 v3 ∧ FrB w w' B p := by
 obtain ⟨a0, c0, a1, c1, a2, c2, a3, c3, rfl, rfl, rfl, rfl⟩ := hO.at.shape
 have hl3 : S.l.length = 3 := hS.1.1
 obtain ⟨g0, rfl⟩ : ∃ g, a0 = some ⟨g, 0, none⟩ := by
  rcases hO.1.1.2 with ⟨h0, h1⟩ | ⟨g, cap, cur, e, -⟩
  ·rw [hl3] at h1; cases h1
  ·injection e with e1; exact ⟨g, e1⟩
 obtain ⟨rn, hrn⟩ : ∃ rn : Nat, A.r = rn := Int.eq_ofNat_of_zero_le hA.1.1
 have hr3 : rn < 3 := by have := hA.1.2.1; omega
 have hO0 : w.ownsRow B 3 1 (.slice (some ⟨g0, 0, none⟩) S.l.length c0) S.l.length (Je S.l) := hO.1.1
 have hg0 := hO0.lt g0 rfl
 have hg0p : g0 ≠ p := hoff.1 g0 rfl
 have HOFF := Ja hoff
 obtain ⟨W, hW⟩ : ∃ W, W = w.alloc (.cells #[int i64 A.r, int i64 A.s, int i64 A.t, u, int i64 A.k, .string A.o, .string A.y, int i64 A.v, int i64 A.x, int i64 A.z] 44) := ⟨_, rfl⟩
 have hBW : Below w.heap.size w W := by rw [hW]; exact (Below.refl _ _).alloc (Nat.le_refl _) _
 have hWs : W.heap.size = w.heap.size + 1 := by rw [hW]; simp
 have hRA : Row W w.heap.size #[int i64 A.r, int i64 A.s, int i64 A.t, u, int i64 A.k, .string A.o, .string A.y, int i64 A.v, int i64 A.x, int i64 A.z] 44 := by rw [hW]; exact Jb w _ _ rfl
 have hRP : Row W p #[.slice (some ⟨g0, 0, none⟩) S.l.length c0, .slice a1 S.T.length c1, .slice a2 S.L.length c2, .slice a3 S.C.length c3] 29 := hp.next hBW
 have hOW : OwnS W B S (.slice (some ⟨g0, 0, none⟩) S.l.length c0) (.slice a1 S.T.length c1) (.slice a2 S.L.length c2) (.slice a3 S.C.length c3) := Own4.next hO hBW
 have HW : Hid (w.alloc (.cells #[int i64 A.r, int i64 A.s, int i64 A.t, u, int i64 A.k, .string A.o, .string A.y, int i64 A.v, int i64 A.x, int i64 A.z] 44) = W) := hW.symm
 have HU := Ja hU
 have HLT3 : Hid (∀ j, (Value.slice a3 S.C.length c3).ownBlock = some j → j < w.heap.size) := fun j hj => (World.ownsRow.lt hO.1.2.2.2 j hj).2
 have HS := Ja hS
 have HA := Ja hA
 have HR := Ja hR
 have HK : Hid (A.k = 3) := hk
 have HL3 := Ja hl3
 have HRN := Ja hrn
 have hi1 : (rn : Int) < S.l.length := by omega
 have hi0 : (0 : Int) ≤ rn := by omega
 have HSS : Hid (∀ wx, Below W.heap.size W wx → wx.cell? ⟨p, 0, none⟩ = some (.slice (some ⟨g0, 0, none⟩) S.l.length c0) ∧ wx.cell? ⟨w.heap.size, 0, none⟩ = some (int i64 (rn : Int)) ∧ wx.cell? ⟨w.heap.size, 1, none⟩ = some (int i64 A.s)) := fun wx h => ⟨(hRP.next h).cell 0 rfl, by have := (hRA.next h).cell 0 rfl; rw [← HRN.out]; exact this, (hRA.next h).cell 1 rfl⟩
 have hBc : Below W.heap.size W W.drew := (Below.refl _ _).drew
 -- behind the store
 obtain ⟨Y, hY⟩ : ∃ Y, Y = W.drew.setCell ⟨g0, rn, none⟩ (int i64 A.s) := ⟨_, rfl⟩
 have hOD : W.drew.ownsRow B 3 1 (.slice (some ⟨g0, 0, none⟩) S.l.length c0) S.l.length (Je S.l) := Jh hOW.1.1 hBc
 have y0 : W.drew.cell? ⟨g0, rn, none⟩ = some (int i64 (S.l.getD rn 0)) := by
  rw [hOD.cellAt rn (by omega)]; simp [Je, List.getD, show rn < S.l.length by omega]
 have y1 := hOD.frozenAt rn
 have hYb : ∀ j, j ≠ g0 → Y.heap[j]? = W.drew.heap[j]? := fun j hj => by rw [hY]; exact Below.heap_setCell W.drew _ _ j (fun e => hj e)
 have hYs : Y.heap.size = W.heap.size := by rw [hY]; simp [World.setCell]
 have HYP : Hid (Row Y p #[.slice (some ⟨g0, 0, none⟩) S.l.length c0, .slice a1 S.T.length c1, .slice a2 S.L.length c2, .slice a3 S.C.length c3] 29) := by rw [hY]; exact (hRP.next hBc).other (by simp; omega) _
 have HYA : Hid (Row Y w.heap.size #[int i64 A.r, int i64 A.s, int i64 A.t, u, int i64 A.k, .string A.o, .string A.y, int i64 A.v, int i64 A.x, int i64 A.z] 44) := by rw [hY]; exact (hRA.next hBc).other (by simp; omega) _
 have hset : (Je S.l).set rn (int i64 A.s) = Je (S.l.set rn A.s) := by simp [Je, List.map_set]
 have HYO : Hid (OwnS Y B ⟨S.l.set rn A.s, S.T, S.L, S.C⟩ (.slice (some ⟨g0, 0, none⟩) S.l.length c0) (.slice a1 S.T.length c1) (.slice a2 S.L.length c2) (.slice a3 S.C.length c3)) := by
  have hD : OwnS W.drew B S (.slice (some ⟨g0, 0, none⟩) S.l.length c0) (.slice a1 S.T.length c1) (.slice a2 S.L.length c2) (.slice a3 S.C.length c3) := Own4.next hOW hBc
  have ho1 : ownO Y B (some ⟨.slice (some ⟨g0, 0, none⟩) S.l.length c0, 3, 1, (S.l.set rn A.s).length, Je (S.l.set rn A.s)⟩) := by
   show World.ownsRow _ _ _ _ _ _ _
   rw [← hset, List.length_set, hY]
   exact (hOD.stored rn (int i64 A.s)).1
  refine Own4.swap1 (p := p) hD HOFF.out (fun k hk hp hr => hYb k (fun e => hr (by rw [e]; rfl))) ho1 (fun k hk => .inl hk)
 have HYF : Hid (FrB w Y B p) := ⟨by rw [hY]; exact hBW.os, by rw [hY]; exact hBW.tape, by rw [hY]; exact hBW.output, by rw [hYs, hWs]; omega, fun j hj _ => by rw [hYb j (by omega)]; exact hBW.block j (by omega)⟩
 have HDS : Hid (doS S A = ⟨S.l.set rn A.s, S.T, Jd S.L false A.o A.y A.l, S.C⟩) := by show _ = _; have e : A.r.toNat = rn := (by omega); unfold doS; rw [e, hk]; rfl
 have HYZ : Hid (Y.heap.size = w.heap.size + 1) := by show _ = _; omega
 have HY : Hid (W.drew.setCell ⟨g0, rn, none⟩ (int i64 A.s) = Y) := hY.symm
 rw [hrn]
 rw [hrn] at HW
 clear hS hA hR hU hp hO hoff hW hBW hRA hRP hOW hO0 hOD hset hYb hrn hl3 hWs hk hY hYs
 go_enter Tryz.func54, Tryz.ntmps54
 go_wp2
 rw [HW.out]
 try simp only [List.append_eq, List.cons_append, List.nil_append]
 refine wph HSS hBc 12 ?_
 refine tQ 0 JhK ?_ (HSS.out _ hBc); refine tQ 1 JiG ?_ (HSS.out _ hBc); refine tQ 2 Jix ?_ (HSS.out _ hBc); refine tQ 3 JhW ?_ (HSS.out _ hBc); refine tQ 4 Jg9 ?_ (HSS.out _ hBc); refine tQ 5 JhH ?_ (HSS.out _ hBc); refine tQ 6 JgH ?_ (HSS.out _ hBc); refine tQ 7 JhI ?_ (HSS.out _ hBc); refine tQ 8 Jhv ?_ (HSS.out _ hBc); refine tQ 9 Jg7 ?_ (HSS.out _ hBc); refine tQ 10 Jfc ?_ (HSS.out _ hBc)
 have hS2 : Y.cell? ⟨p, 0, none⟩ = some (.slice (some ⟨g0, 0, none⟩) S.l.length c0) ∧ Y.cell? ⟨w.heap.size, 0, none⟩ = some (int i64 (rn : Int)) ∧ Y.cell? ⟨w.heap.size, 1, none⟩ = some (int i64 A.s) := ⟨HYP.out.cell 0 rfl, by have := HYA.out.cell 0 rfl; rw [← HRN.out]; exact this, HYA.out.cell 1 rfl⟩
 refine rd 11 Jgw (fun K hK => ?_)
 go_simp
 rw [show (W.setCell ⟨g0, rn, none⟩ (int i64 A.s)).drew = W.drew.setCell ⟨g0, rn, none⟩ (int i64 A.s) from rfl, HY.out]
 refine hK.out _ _ hS2 (fun hcl => ?_)
 clear hK K hS2 y0 y1 HY HSS hBc HW hcl
 refine wpd ?_
 obtain ⟨m0, m1, m2, m3, m4, m5, m6, m7, m8, m9⟩ := ZH HYA.out
 have b1 : (A.k == 1) = false := by simp [HK.out]
 have b2 : (A.k == 2) = false := by simp [HK.out]
 have b3 : (A.k == 3) = true := by simp [HK.out]
 have hAl : A.l.length ≤ 1048576 := by have := HA.out.2.1.1; omega
 have HTC := Ja (Zy S.L p (.slice (some ⟨g0, 0, none⟩) S.l.length c0) (.slice a1 S.T.length c1) (.slice a2 S.L.length c2) (.slice a3 S.C.length c3) false A.o A.y A.l u Y (Nat.le_trans HS.out.2.2.1.1 (by omega)) hAl HYP.out (LiAt.own HYO.out.1.2.2.1 rfl) (HU.out Y HYF.out))
 clear hAl
 go_wp2_with fail
 refine HTC.out.mono ?_
 rintro e w2 ⟨rfl, a2', d2', hRw, hOw, hF⟩
 have HRF := Ja hRw
 have HOF : Hid (OwnS w2 B (doS S A) (.slice (some ⟨g0, 0, none⟩) S.l.length c0) (.slice a1 S.T.length c1) (.slice a2' (Jd S.L false A.o A.y A.l).length d2') (.slice a3 S.C.length c3)) := by
  show OwnS _ _ _ _ _ _ _
  rw [HDS.out]
  exact Own4.swap3 (p := p) HYO.out HOFF.out (fun k hk hp hr => hF.block k hk (fun e => hp (by injection e))) (Jk hOw (by have := HYZ.out; omega)) (fun k hk => .inr (hOw.lt k hk).1)
 have HFF : Hid (FrB w w2 B p) := HYF.out.trans (FrB.grown hF (by have := HYZ.out; omega))
 clear hRw hOw hF HTC
 clear m0 m1 m2 m3 m4 m5 m6 m7 m8 m9
 go_wp2
 go_end0
 exact ⟨rfl, _, _, _, _, HRF.out, HOF.out, HFF.out⟩
end Go.Proofs.YtepfinenocpneaaGreat
