/- Rows of one's own, each in a block of its own; what is appen. -/
import Derived.Deep.AppendLies
import Derived.Test.YtepfinenocpneaaGreatQ20
set_option maxHeartbeats 16000000
namespace Go.Proofs.YtepfinenocpneaaGreat
open Value (int)
open IntKind (i64)
set_option maxRecDepth 100000
set_option linter.unusedVariables false
open Go.RowKit
def VP (w : World) (aa : Option Addr) (n s : Nat) (xs : List Value) : Prop :=
 xs.length = n * s ∧ (∀ u ∈ xs, u.oneCell' = true) ∧ (0 < n → ∃ g off, aa = some ⟨g, off, none⟩ ∧ ∀ j u, xs[j]? = some u → w.cell? ⟨g, off + j, none⟩ = some u)
theorem KI {w : World} {g off s : Nat} {rs : List (List Value)} (hs : 0 < s) (hw : GR s rs) (h : ∀ i (hi : i < rs.length) k x, (rs[i])[k]? = some x → w.cell? ⟨g, off + i * s + k, none⟩ = some x) :
  ∀ j u, rs.flatten[j]? = some u → w.cell? ⟨g, off + j, none⟩ = some u := by
 intro j u hu
 have hj := (List.getElem?_eq_some_iff.1 hu).1
 rw [Za hw] at hj
 have hi : j / s < rs.length := Nat.div_lt_of_lt_mul (by rw [Nat.mul_comm]; exact hj)
 have e : j / s * s + j % s = j := Nat.div_add_mod' j s
 have hk : j % s < s := Nat.mod_lt _ hs
 have := ZB hw (j / s) hi (j % s) hk
 rw [e, hu] at this
 have := h (j / s) hi (j % s) u this.symm
 rwa [show off + j / s * s + j % s = off + j by omega] at this
theorem IntsAt.src {w : World} {aa : Option Addr} {ca : Nat} {l : List Int} (h : IntsAt w (.slice aa l.length ca) l) : VP w aa l.length 1 (Je l) := by
 obtain ⟨a, c, e, hg⟩ := h
 simp only [Value.slice.injEq] at e
 obtain ⟨rfl, -, rfl⟩ := e
 refine ⟨by simp [Je], fun u hu => ?_, fun h0 => ?_⟩
 ·simp only [Je, List.mem_map] at hu; obtain ⟨z, -, rfl⟩ := hu; rfl
 ·obtain ⟨g, rfl, h1, h2⟩ := hg h0
  refine ⟨g, 0, rfl, fun j u hu => ?_⟩
  have hj : j < l.length := by have := (List.getElem?_eq_some_iff.1 hu).1; simpa [Je] using this
  rw [Nat.zero_add, h2 j hj, ← hu]; simp [Je, hj]
theorem TaAt.src {w : World} {aa : Option Addr} {ca : Nat} {l : List Ta} (h : TaAt w (.slice aa l.length ca) l) : VP w aa l.length 3 (taV l) := by
 obtain ⟨a, c, e, hg⟩ := h
 simp only [Value.slice.injEq] at e
 obtain ⟨rfl, -, rfl⟩ := e
 refine ⟨by have := Za (Ku l); simpa [taV] using this, fun u hu => ?_, fun h0 => ?_⟩
 ·simp only [taV, List.mem_flatten, List.mem_map] at hu
  obtain ⟨r, ⟨a, -, rfl⟩, hu⟩ := hu
  simp [Ta.cs] at hu; rcases hu with rfl | rfl | rfl <;> rfl
 ·obtain ⟨g, off, rfl, h1, h2⟩ := hg h0
  refine ⟨g, off, rfl, KI (by omega) (Ku l) (fun i hi k x hx => ?_)⟩
  rw [List.getElem_map] at hx
  obtain ⟨q0, q1, q2⟩ := h2 i (by simpa using hi)
  match k, hx with
  | 0, hx => simp [Ta.cs] at hx; subst hx; exact q0
  | 1, hx => simp [Ta.cs] at hx; subst hx; exact q1
  | 2, hx => simp [Ta.cs] at hx; subst hx; exact q2
  | k + 3, hx => simp [Ta.cs] at hx
theorem LiAt.src {w : World} {aa : Option Addr} {ca : Nat} {l : List Li} (h : LiAt w (.slice aa l.length ca) l) : VP w aa l.length 6 (liV l) := by
 obtain ⟨a, c, e, hg⟩ := h
 simp only [Value.slice.injEq] at e
 obtain ⟨rfl, -, rfl⟩ := e
 refine ⟨by have := Za (Zq l); simpa [liV] using this, fun u hu => ?_, fun h0 => ?_⟩
 ·simp only [liV, List.mem_flatten, List.mem_map] at hu
  obtain ⟨r, ⟨a, -, rfl⟩, hu⟩ := hu
  simp [Li.cs] at hu; rcases hu with rfl | rfl | rfl | rfl | rfl | rfl <;> rfl
 ·obtain ⟨g, off, rfl, h1, h2⟩ := hg h0
  refine ⟨g, off, rfl, KI (by omega) (Zq l) (fun i hi k x hx => ?_)⟩
  rw [List.getElem_map] at hx
  obtain ⟨q0, q1, q2, q3, q4, q5⟩ := h2 i (by simpa using hi)
  match k, hx with
  | 0, hx => simp [Li.cs] at hx; subst hx; exact q0
  | 1, hx => simp [Li.cs] at hx; subst hx; exact q1
  | 2, hx => simp [Li.cs] at hx; subst hx; exact q2
  | 3, hx => simp [Li.cs] at hx; subst hx; exact q3
  | 4, hx => simp [Li.cs] at hx; subst hx; exact q4
  | 5, hx => simp [Li.cs] at hx; subst hx; exact q5
  | k + 6, hx => simp [Li.cs] at hx
theorem CeAt.src {w : World} {aa : Option Addr} {ca : Nat} {l : List Ce} (h : CeAt w (.slice aa l.length ca) l) : VP w aa l.length 8 (ceV l) := by
 obtain ⟨a, c, e, hg⟩ := h
 simp only [Value.slice.injEq] at e
 obtain ⟨rfl, -, rfl⟩ := e
 refine ⟨by have := Za (Ky l); simpa [ceV] using this, fun u hu => ?_, fun h0 => ?_⟩
 ·simp only [ceV, List.mem_flatten, List.mem_map] at hu
  obtain ⟨r, ⟨a, -, rfl⟩, hu⟩ := hu
  simp [Ce.cs] at hu; rcases hu with rfl | rfl | rfl | rfl | rfl | rfl | rfl | rfl <;> rfl
 ·obtain ⟨g, off, rfl, h1, h2⟩ := hg h0
  refine ⟨g, off, rfl, KI (by omega) (Ky l) (fun i hi k x hx => ?_)⟩
  rw [List.getElem_map] at hx
  obtain ⟨q0, q1, q2, q3, q4, q5, q6, q7⟩ := h2 i (by simpa using hi)
  match k, hx with
  | 0, hx => simp [Ce.cs] at hx; subst hx; exact q0
  | 1, hx => simp [Ce.cs] at hx; subst hx; exact q1
  | 2, hx => simp [Ce.cs] at hx; subst hx; exact q2
  | 3, hx => simp [Ce.cs] at hx; subst hx; exact q3
  | 4, hx => simp [Ce.cs] at hx; subst hx; exact q4
  | 5, hx => simp [Ce.cs] at hx; subst hx; exact q5
  | 6, hx => simp [Ce.cs] at hx; subst hx; exact q6
  | 7, hx => simp [Ce.cs] at hx; subst hx; exact q7
  | k + 8, hx => simp [Ce.cs] at hx
theorem Ui {P : Program} (w : World) (t ty e : TypeId) (i : TypeInfo) (ht : P.underlying t = some (.slice e)) (hi : P.info? e = some i) (g c : Nat) :
  (Builtin.append_ #[t, t] ty #[.slice (some ⟨g, 0, none⟩) 0 0, .slice none 0 c]).run P w = .ok (.slice (some ⟨g, 0, none⟩) 0 0) w := by
 simp [Builtin.append_, run_underlying ht, sizeOf, typeInfo, hi, Builtin.lenOf, Builtin.firstCells, loadCells, loadCellsFrom, storeCells]
theorem JH {P : Program} {ops : Array Oper} {o : Oper} {a : Act} {w : World} {K : Act → World → Prop} {Q : Exit → Act → World → Prop} {E : Prop} (hgd : o.guard = none) (s x : Operand) (t : TypeId)
  (ho : o.op = .call { callee := .builtin .append, args := #[s, x], argTypes := #[t, t] })
  (base : Nat) (e : TypeId) (i : TypeInfo) (z : Value) (size bytes : Nat) (ht : P.underlying t = some (.slice e)) (hi : P.info? e = some i) (hz : i.zero = some z)
  (hsize : i.size = size) (hby : i.bytes = bytes) (hzs : z.cells.size = size) (hsz : 0 < size)
  (g : Nat) (hs : a.eval s = .slice (some ⟨g, 0, none⟩) 0 0) (hown : w.ownsRow base e size (.slice (some ⟨g, 0, none⟩) 0 0) 0 [])
  (aa : Option Addr) (m c : Nat) (xs : List Value) (hx : a.eval x = .slice aa m c) (hsrc : VP w aa m size xs) (hm : m ≤ 1048576) (hb : bytes ≤ 1000) (hbase : base ≤ w.heap.size)
  (h : ∀ v' w', w'.ownsRow base e size v' m xs → w.grownBy w' (some g) → (v'.ownBlock = some g ∨ v'.ownBlock = some w.heap.size) → K (a.put o.dst v') w') :
  if Region.wanted o (yielded ops a.tmps) = true then Oper.wp P o a w K Q else E := by
 have hw : Region.wanted o (yielded ops a.tmps) = true := by simp [Region.wanted, hgd]
 rw [if_pos hw]
 have key : ∃ v' w', (Builtin.append_ #[t, t] o.type #[.slice (some ⟨g, 0, none⟩) 0 0, .slice aa m c]).run P w = .ok v' w' ∧ w'.ownsRow base e size v' m xs ∧ w.grownBy w' (some g) ∧ (v'.ownBlock = some g ∨ v'.ownBlock = some w.heap.size) := by
  obtain ⟨h1, h2, h3⟩ := hsrc
  cases aa with
  | none =>
   have hm0 : m = 0 := by
    rcases Nat.eq_zero_or_pos m with e | e
    ·exact e
    ·obtain ⟨g', off, h4, -⟩ := h3 e; cases h4
   subst hm0
   have hx0 : xs = [] := List.eq_nil_of_length_eq_zero (by simpa using h1)
   subst hx0
   exact ⟨_, w, Ui w t o.type e i ht hi g c, hown, ⟨rfl, rfl, rfl, Nat.le_refl _, fun _ _ _ => rfl⟩, .inl rfl⟩
  | some ad =>
   have hnews : ∀ j u, xs[j]? = some u → w.cell? (ad.add j) = some u := by
    intro j u hu
    have hj := (List.getElem?_eq_some_iff.1 hu).1
    have hm0 : 0 < m := by
     rcases Nat.eq_zero_or_pos m with e | e
     ·rw [h1, e] at hj; simp at hj
     ·exact e
    obtain ⟨g', off, h4, h5⟩ := h3 hm0
    injection h4 with h4
    subst h4
    have := h5 j u hu
    by_cases hj0 : j = 0
    ·subst hj0; simpa [Addr.add] using this
    ·simpa [Addr.add, hj0] using this
   obtain ⟨v', w', r1, r2, r3, -, r5⟩ := run_append_own_at (P := P) w base t o.type e i z size bytes ht hi hz hsize hby hzs hsz _ 0 [] hown ad m c xs h1 hnews h2 (by unfold maxLen; omega) (by
    have : (0 + m) * bytes ≤ 1048576 * 1000 := Nat.mul_le_mul (by omega) hb
    omega) hbase
   simp only [Nat.zero_add, List.nil_append] at r2
   exact ⟨v', w', r1, r2, r3, r5⟩
 obtain ⟨v', w', hr, k1, k2, k3⟩ := key
 unfold Oper.wp execOp
 simp only [ho, resolve, invoke, builtin, Sem.run_bind, Sem.run_pure, Result.andThen_ok, List.map_toArray, List.map_cons, List.map_nil, hs, hx, hr]
 exact h v' w' k1 k2 k3
structure Rwd where
 (v : Value)
 (T : TypeId)
 (s n : Nat)
 (xs : List Value)
def ownO (w : World) (B : Nat) : Option Rwd → Prop
 | none => True
 | some r => w.ownsRow B r.T r.s r.v r.n r.xs
def apaO : Option Rwd → Option Rwd → Prop
 | some r, some q => ∀ k, r.v.ownBlock = some k → q.v.ownBlock ≠ some k
 | _, _ => True
def Own4 (w : World) (B : Nat) (a b c d : Option Rwd) : Prop := (ownO w B a ∧ ownO w B b ∧ ownO w B c ∧ ownO w B d) ∧ apaO a b ∧ apaO a c ∧ apaO a d ∧ apaO b c ∧ apaO b d ∧ apaO c d
theorem apaO.sym {a b : Option Rwd} (h : apaO a b) : apaO b a := by
 cases a <;> cases b <;> first | trivial | exact fun k h1 h2 => h k h2 h1
theorem ownO.alloc {w : World} {B : Nat} {a : Option Rwd} (h : ownO w B a) (o : Obj) : ownO (w.alloc o) B a := by
 cases a with
 | none => trivial
 | some r => exact World.ownsRow.alloc h o
theorem ownO.new {w : World} {B : Nat} {a : Option Rwd} (h : ownO w B a) (r : Rwd) (hr : r.v.ownBlock = some w.heap.size) : apaO a (some r) := by
 cases a with
 | none => trivial
 | some q => exact fun k h1 h2 => by rw [hr] at h2; injection h2 with h2; have := (World.ownsRow.lt h k h1).2; omega
theorem ownO.grown {w w' : World} {B g : Nat} {a : Option Rwd} (h : ownO w B a) (hg : w.grownBy w' (some g)) (ha : ∀ r, a = some r → r.v.ownBlock ≠ some g) : ownO w' B a := by
 cases a with
 | none => trivial
 | some r =>
  refine World.ownsRow.kept h hg ?_
  cases hv : r.v.ownBlock with
  | none => exact .inl rfl
  | some k => exact .inr (fun e => ha r rfl (by rw [hv]; exact e))
theorem apaO.turn {w : World} {B g : Nat} {a : Option Rwd} {v : Value} (h : ownO w B a) (ha : ∀ r, a = some r → r.v.ownBlock ≠ some g) (hv : v.ownBlock = some g ∨ v.ownBlock = some w.heap.size) (T : TypeId) (s n : Nat) (xs : List Value) : apaO a (some ⟨v, T, s, n, xs⟩) := by
 cases a with
 | none => trivial
 | some r =>
  intro k h1 h2
  rcases hv with e | e
  ·rw [show (Rwd.v ⟨v, T, s, n, xs⟩) = v from rfl, e] at h2; injection h2 with h2; subst h2; exact ha r rfl h1
  ·rw [show (Rwd.v ⟨v, T, s, n, xs⟩) = v from rfl, e] at h2; injection h2 with h2; have := (World.ownsRow.lt h k h1).2; omega
theorem apaO.ne {a : Option Rwd} {g T s n : Nat} {xs : List Value} {c : Nat} (h : apaO a (some ⟨.slice (some ⟨g, 0, none⟩) 0 c, T, s, n, xs⟩)) : ∀ r, a = some r → r.v.ownBlock ≠ some g := fun r e hk => by
 subst e; exact h g hk rfl
theorem Own4.new1 {w : World} {B : Nat} {a b c d : Option Rwd} (h : Own4 w B a b c d) (hB : B ≤ w.heap.size) (T s : Nat) : Own4 (w.alloc (.cells #[] T)) B (some ⟨.slice (some ⟨w.heap.size, 0, none⟩) 0 0, T, s, 0, []⟩) b c d := by
 obtain ⟨⟨h1, h2, h3, h4⟩, d1, d2, d3, d4, d5, d6⟩ := h
 have hn : ownO (w.alloc (.cells #[] T)) B (some ⟨.slice (some ⟨w.heap.size, 0, none⟩) 0 0, T, s, 0, []⟩) := J1 w T s rfl hB
 exact ⟨⟨hn, h2.alloc _, h3.alloc _, h4.alloc _⟩, (h2.new _ rfl).sym, (h3.new _ rfl).sym, (h4.new _ rfl).sym, d4, d5, d6⟩
theorem Own4.new2 {w : World} {B : Nat} {a b c d : Option Rwd} (h : Own4 w B a b c d) (hB : B ≤ w.heap.size) (T s : Nat) : Own4 (w.alloc (.cells #[] T)) B a (some ⟨.slice (some ⟨w.heap.size, 0, none⟩) 0 0, T, s, 0, []⟩) c d := by
 obtain ⟨⟨h1, h2, h3, h4⟩, d1, d2, d3, d4, d5, d6⟩ := h
 have hn : ownO (w.alloc (.cells #[] T)) B (some ⟨.slice (some ⟨w.heap.size, 0, none⟩) 0 0, T, s, 0, []⟩) := J1 w T s rfl hB
 exact ⟨⟨h1.alloc _, hn, h3.alloc _, h4.alloc _⟩, h1.new _ rfl, d2, d3, (h3.new _ rfl).sym, (h4.new _ rfl).sym, d6⟩
theorem Own4.new3 {w : World} {B : Nat} {a b c d : Option Rwd} (h : Own4 w B a b c d) (hB : B ≤ w.heap.size) (T s : Nat) : Own4 (w.alloc (.cells #[] T)) B a b (some ⟨.slice (some ⟨w.heap.size, 0, none⟩) 0 0, T, s, 0, []⟩) d := by
 obtain ⟨⟨h1, h2, h3, h4⟩, d1, d2, d3, d4, d5, d6⟩ := h
 have hn : ownO (w.alloc (.cells #[] T)) B (some ⟨.slice (some ⟨w.heap.size, 0, none⟩) 0 0, T, s, 0, []⟩) := J1 w T s rfl hB
 exact ⟨⟨h1.alloc _, h2.alloc _, hn, h4.alloc _⟩, d1, h1.new _ rfl, d3, h2.new _ rfl, d5, (h4.new _ rfl).sym⟩
theorem Own4.new4 {w : World} {B : Nat} {a b c d : Option Rwd} (h : Own4 w B a b c d) (hB : B ≤ w.heap.size) (T s : Nat) : Own4 (w.alloc (.cells #[] T)) B a b c (some ⟨.slice (some ⟨w.heap.size, 0, none⟩) 0 0, T, s, 0, []⟩) := by
 obtain ⟨⟨h1, h2, h3, h4⟩, d1, d2, d3, d4, d5, d6⟩ := h
 have hn : ownO (w.alloc (.cells #[] T)) B (some ⟨.slice (some ⟨w.heap.size, 0, none⟩) 0 0, T, s, 0, []⟩) := J1 w T s rfl hB
 exact ⟨⟨h1.alloc _, h2.alloc _, h3.alloc _, hn⟩, d1, d2, h1.new _ rfl, d4, h2.new _ rfl, h3.new _ rfl⟩
theorem Own4.more1 {w w' : World} {B g : Nat} {b c d : Option Rwd} {T s n : Nat} {xs : List Value} {v : Value} (h : Own4 w B (some ⟨.slice (some ⟨g, 0, none⟩) 0 0, T, s, 0, []⟩) b c d) (ho : w'.ownsRow B T s v n xs) (hg : w.grownBy w' (some g)) (hv : v.ownBlock = some g ∨ v.ownBlock = some w.heap.size) : Own4 w' B (some ⟨v, T, s, n, xs⟩) b c d := by
 obtain ⟨⟨h1, h2, h3, h4⟩, d1, d2, d3, d4, d5, d6⟩ := h
 have n2 := d1.sym.ne
 have n3 := d2.sym.ne
 have n4 := d3.sym.ne
 exact ⟨⟨ho, h2.grown hg n2, h3.grown hg n3, h4.grown hg n4⟩, (apaO.turn h2 n2 hv _ _ _ _).sym, (apaO.turn h3 n3 hv _ _ _ _).sym, (apaO.turn h4 n4 hv _ _ _ _).sym, d4, d5, d6⟩
theorem Own4.more2 {w w' : World} {B g : Nat} {a c d : Option Rwd} {T s n : Nat} {xs : List Value} {v : Value} (h : Own4 w B a (some ⟨.slice (some ⟨g, 0, none⟩) 0 0, T, s, 0, []⟩) c d) (ho : w'.ownsRow B T s v n xs) (hg : w.grownBy w' (some g)) (hv : v.ownBlock = some g ∨ v.ownBlock = some w.heap.size) : Own4 w' B a (some ⟨v, T, s, n, xs⟩) c d := by
 obtain ⟨⟨h1, h2, h3, h4⟩, d1, d2, d3, d4, d5, d6⟩ := h
 have n1 := d1.ne
 have n3 := d4.sym.ne
 have n4 := d5.sym.ne
 exact ⟨⟨h1.grown hg n1, ho, h3.grown hg n3, h4.grown hg n4⟩, apaO.turn h1 n1 hv _ _ _ _, d2, d3, (apaO.turn h3 n3 hv _ _ _ _).sym, (apaO.turn h4 n4 hv _ _ _ _).sym, d6⟩
theorem Own4.more3 {w w' : World} {B g : Nat} {a b d : Option Rwd} {T s n : Nat} {xs : List Value} {v : Value} (h : Own4 w B a b (some ⟨.slice (some ⟨g, 0, none⟩) 0 0, T, s, 0, []⟩) d) (ho : w'.ownsRow B T s v n xs) (hg : w.grownBy w' (some g)) (hv : v.ownBlock = some g ∨ v.ownBlock = some w.heap.size) : Own4 w' B a b (some ⟨v, T, s, n, xs⟩) d := by
 obtain ⟨⟨h1, h2, h3, h4⟩, d1, d2, d3, d4, d5, d6⟩ := h
 have n1 := d2.ne
 have n2 := d4.ne
 have n4 := d6.sym.ne
 exact ⟨⟨h1.grown hg n1, h2.grown hg n2, ho, h4.grown hg n4⟩, d1, apaO.turn h1 n1 hv _ _ _ _, d3, apaO.turn h2 n2 hv _ _ _ _, d5, (apaO.turn h4 n4 hv _ _ _ _).sym⟩
theorem Own4.more4 {w w' : World} {B g : Nat} {a b c : Option Rwd} {T s n : Nat} {xs : List Value} {v : Value} (h : Own4 w B a b c (some ⟨.slice (some ⟨g, 0, none⟩) 0 0, T, s, 0, []⟩)) (ho : w'.ownsRow B T s v n xs) (hg : w.grownBy w' (some g)) (hv : v.ownBlock = some g ∨ v.ownBlock = some w.heap.size) : Own4 w' B a b c (some ⟨v, T, s, n, xs⟩) := by
 obtain ⟨⟨h1, h2, h3, h4⟩, d1, d2, d3, d4, d5, d6⟩ := h
 have n1 := d3.ne
 have n2 := d5.ne
 have n3 := d6.ne
 exact ⟨⟨h1.grown hg n1, h2.grown hg n2, h3.grown hg n3, ho⟩, d1, d2, apaO.turn h1 n1 hv _ _ _ _, d4, apaO.turn h2 n2 hv _ _ _ _, apaO.turn h3 n3 hv _ _ _ _⟩
theorem ownO.base {w : World} {B B' : Nat} {a : Option Rwd} (h : ownO w B a) (hB : B' ≤ B) : ownO w B' a := by
 cases a with
 | none => trivial
 | some r => exact Jk h hB
theorem ownO.put {w : World} {B g i : Nat} {x : Value} {a : Option Rwd} (h : ownO w B a) (hg : g < B) : ownO (w.setCell ⟨g, i, none⟩ x) B a := by
 cases a with
 | none => trivial
 | some r => exact JF h hg
theorem ownO.next {w w' : World} {B : Nat} {a : Option Rwd} (h : ownO w B a) (hb : Below w.heap.size w w') : ownO w' B a := by
 cases a with
 | none => trivial
 | some r => exact Jh h hb
theorem Own4.base {w : World} {B B' : Nat} {a b c d : Option Rwd} (h : Own4 w B a b c d) (hB : B' ≤ B) : Own4 w B' a b c d := ⟨⟨h.1.1.base hB, h.1.2.1.base hB, h.1.2.2.1.base hB, h.1.2.2.2.base hB⟩, h.2⟩
theorem Own4.put {w : World} {B g i : Nat} {x : Value} {a b c d : Option Rwd} (h : Own4 w B a b c d) (hg : g < B) : Own4 (w.setCell ⟨g, i, none⟩ x) B a b c d := ⟨⟨h.1.1.put hg, h.1.2.1.put hg, h.1.2.2.1.put hg, h.1.2.2.2.put hg⟩, h.2⟩
theorem Own4.next {w w' : World} {B : Nat} {a b c d : Option Rwd} (h : Own4 w B a b c d) (hb : Below w.heap.size w w') : Own4 w' B a b c d := ⟨⟨h.1.1.next hb, h.1.2.1.next hb, h.1.2.2.1.next hb, h.1.2.2.2.next hb⟩, h.2⟩
def OwnS (w : World) (B : Nat) (S : Sta) (v0 v1 v2 v3 : Value) : Prop := Own4 w B (some ⟨v0, 3, 1, S.l.length, Je S.l⟩) (some ⟨v1, 86, 3, S.T.length, taV S.T⟩) (some ⟨v2, 88, 6, S.L.length, liV S.L⟩) (some ⟨v3, 90, 8, S.C.length, ceV S.C⟩)
theorem OwnS.at {w : World} {B : Nat} {S : Sta} {v0 v1 v2 v3 : Value} (h : OwnS w B S v0 v1 v2 v3) : StAt w S v0 v1 v2 v3 := ⟨IntsAt.own h.1.1 rfl, TaAt.own h.1.2.1 rfl, LiAt.own h.1.2.2.1 rfl, CeAt.own h.1.2.2.2 rfl⟩
theorem ZL (l : List Li) (u : Value) (x : Li) (w : World) (hn : l.length ≤ 1048576) (h : LiAt w u l) :
  Calls Tryz.prog 103 #[u, .agg #[.bool x.m, .string x.o, .string x.y, int i64 x.v, int i64 x.r, int i64 x.s]] w fun e w' => ∃ v, e = .returned v ∧ w'.ownsRow w.heap.size 88 6 v (ins (fun y => decide (Jo x.r x.s y.r y.s)) x l).length (liV (ins (fun y => decide (Jo x.r x.s y.r y.s)) x l)) ∧ Below w.heap.size w w' := by
 obtain ⟨aa, ca, rfl, hga⟩ := id h
 obtain ⟨W, hW⟩ : ∃ W, W = w.alloc (.cells #[.bool x.m, .string x.o, .string x.y, int i64 x.v, int i64 x.r, int i64 x.s] 88) := ⟨_, rfl⟩
 have hRX : Row W w.heap.size #[.bool x.m, .string x.o, .string x.y, int i64 x.v, int i64 x.r, int i64 x.s] 88 := by rw [hW]; exact Jb w _ _ rfl
 have HBX : Hid (∀ wx, Below W.heap.size W wx → wx.cell? ⟨w.heap.size, 0, none⟩ = some (.bool x.m) ∧ wx.cell? ⟨w.heap.size, 1, none⟩ = some (.string x.o) ∧ wx.cell? ⟨w.heap.size, 2, none⟩ = some (.string x.y) ∧ wx.cell? ⟨w.heap.size, 3, none⟩ = some (int i64 x.v) ∧ wx.cell? ⟨w.heap.size, 4, none⟩ = some (int i64 x.r) ∧ wx.cell? ⟨w.heap.size, 5, none⟩ = some (int i64 x.s)) := fun wx h => ⟨(hRX.next h).cell 0 rfl, (hRX.next h).cell 1 rfl, (hRX.next h).cell 2 rfl, (hRX.next h).cell 3 rfl, (hRX.next h).cell 4 rfl, (hRX.next h).cell 5 rfl⟩
 have HB : Hid (Below w.heap.size w W) := by rw [hW]; exact (Below.refl _ _).alloc (Nat.le_refl _) _
 have HGA : Hid (LiG W aa l) := by
  obtain ⟨a, c, e, hg⟩ : LiAt W (.slice aa l.length ca) l := by rw [hW]; exact h.alloc _
  simp only [Value.slice.injEq] at e
  rw [e.1]; exact hg
 obtain ⟨n, hnl⟩ : ∃ n, n = l.length := ⟨_, rfl⟩
 have HL : Hid (n = l.length) := hnl
 have HEN : Hid (∀ (P : List Li) (b : Bool), Zh (fun y => decide (Jo x.r x.s y.r y.s)) x (l.take n) = (P, b) → ins (fun y => decide (Jo x.r x.s y.r y.s)) x l = if b then P else P ++ [x]) := fun P b h => by
  rw [hnl, List.take_length] at h
  rw [← Ve, h]
 obtain ⟨X, hX⟩ : ∃ X, X = W.alloc (.cells #[] 88) := ⟨_, rfl⟩
 have HO0 : Hid (X.ownsRow W.heap.size 88 6 (.slice (some ⟨W.heap.size, 0, none⟩) 0 0) ([] : List Li).length (liV [])) := by rw [hX]; exact J1 W 88 6 rfl (Nat.le_refl _)
 have HB0 : Hid (Below W.heap.size W X) := by rw [hX]; exact (Below.refl _ _).alloc (Nat.le_refl _) _
 have hWs : W.heap.size = w.heap.size + 1 := by rw [hW]; simp
 have HX : Hid ((w.alloc (.cells #[.bool x.m, .string x.o, .string x.y, int i64 x.v, int i64 x.r, int i64 x.s] 88)).alloc (.cells #[] 88) = X) := by rw [← hW]; exact hX.symm
 have HWS : Hid (W.heap.size = w.heap.size + 1) := hWs
 rw [← hnl] at hn ⊢
 obtain ⟨i0, hi, hz0, hz1, hz2⟩ := info_parts ZF
 clear hnl hga h hRX hW hX
 go_enter Tryz.func103, Tryz.ntmps103
 go_wp2
 rw [HX.out]
 try rw [show w.heap.size + 1 = W.heap.size from hWs.symm]
 clear HX hWs
 go_loopw [5, 6, 7] (fun x' q z wr => ∃ (k : Nat) (P : List Li) (b : Bool), k ≤ n ∧ z = int i64 k ∧ q = .bool b ∧ P.length ≤ k + 1 ∧ (b = false → P.length ≤ k) ∧ Zh (fun y => decide (Jo x.r x.s y.r y.s)) x (l.take k) = (P, b) ∧ wr.ownsRow W.heap.size 88 6 x' P.length (liV P) ∧ Below W.heap.size W wr) (fun _ _ z _ => n - (intOf z).toNat)
 case atStart => exact ⟨0, [], false, Nat.zero_le _, rfl, rfl, by simp, by simp, rfl, HO0.out, HB0.out⟩
 case round =>
  clear HO0 HB0
  obtain ⟨k, P, b, hk, rfl, rfl, hpl, hpf, hin, hown, hbel⟩ := hrel
  have HOW := Ja hown
  have HBE := Ja hbel
  have HIN := Ja hin
  have HPF := Ja hpf
  have hsz := hbel.size
  clear hown hin hpf
  by_cases hlt : k < n
  ·have hkl : k < l.length := by rw [← HL.out]; exact hlt
   obtain ⟨g, f, rfl, hg, hcc⟩ := HGA.out (by omega)
   have hk1 : (k : Int) < n := by omega
   have hk0 : (0 : Int) ≤ k := by omega
   have HCC : Hid (∀ wx, Below W.heap.size W wx → liC wx g (f + k * 6) l[k]) := fun wx h => (hcc k hkl).below h hg
   have HIS := Ja (KB (fun y => decide (Jo x.r x.s y.r y.s)) x (l.take k) l[k])
   replace HIS : Hid (Zh (fun y => decide (Jo x.r x.s y.r y.s)) x (l.take (k + 1)) = if b = false ∧ decide (Jo x.r x.s l[k].r l[k].s) = true then (P ++ [x] ++ [l[k]], true) else (P ++ [l[k]], b)) := by
    show _ = _
    rw [GI l k hkl, HIS.out, HIN.out]
   generalize l[k] = y at *
   have HS2 : Hid (∀ wx, Below W.heap.size W wx → wx.cell? ⟨w.heap.size, 4, none⟩ = some (int i64 x.r) ∧ wx.cell? ⟨w.heap.size, 5, none⟩ = some (int i64 x.s) ∧ wx.cell? ⟨g, f + k * 6 + 4, none⟩ = some (int i64 y.r) ∧ wx.cell? ⟨g, f + k * 6 + 5, none⟩ = some (int i64 y.s)) := fun wx h => ⟨(HBX.out wx h).2.2.2.2.1, (HBX.out wx h).2.2.2.2.2, (HCC.out wx h).2.2.2.2.1, (HCC.out wx h).2.2.2.2.2⟩
   clear hcc hkl
   cases b with
   | true =>
    have HIE : Hid (Zh (fun y => decide (Jo x.r x.s y.r y.s)) x (l.take (k + 1)) = (P ++ [y], true)) := by show _ = _; rw [HIS.out, if_neg (by simp)]
    clear HIS HIN
    go_wp2
    go_quiet (fail)
    have HBV := Ja (Ji HBE.out nq)
    have hoq := Jh HOW.out (Ji (Below.refl _ _) nq)
    generalize wr.drewN nq = wv at *
    clear HBE HOW hbel
    have hqs := HBV.out.size
    have HOWN := Ja (hoq.alloc (.cells #[.bool y.m, .string y.o, .string y.y, int i64 y.v, int i64 y.r, int i64 y.s] 88))
    have HOB : Hid (∀ k', u5.ownBlock = some k' → W.heap.size ≤ k') := fun k' hk' => (hoq.lt k' hk').1
    have HNN : Hid (∀ j u, [.bool y.m, .string y.o, .string y.y, int i64 y.v, int i64 y.r, int i64 y.s][j]? = some u → (wv.alloc (.cells #[.bool y.m, .string y.o, .string y.y, int i64 y.v, int i64 y.r, int i64 y.s] 88)).cell? (Addr.add ⟨wv.heap.size, 0, none⟩ j) = some u) := Jr wv [.bool y.m, .string y.o, .string y.y, int i64 y.v, int i64 y.r, int i64 y.s] 88 rfl
    have q := HCC.out wv HBV.out
    unfold liC at q
    obtain ⟨q0, q1, q2, q3, q4, q5⟩ := q
    clear hoq
    go_wp2_with (at_builtin; refine wpList_append_own _ rfl _ _ 26 rfl W.heap.size 88 i0 (.agg #[.bool false, .string ⟨#[]⟩, .string ⟨#[]⟩, int i64 0, int i64 0, int i64 0]) 6 64 Tryz.underlying26 hi hz0 hz1 hz2 rfl (by decide) _ _ _ rfl HOWN.out ⟨wv.heap.size, 0, none⟩ 1 1 [.bool y.m, .string y.o, .string y.y, int i64 y.v, int i64 y.r, int i64 y.s] rfl rfl HNN.out (by intro u' hu'; simp at hu'; rcases hu' with rfl | rfl | rfl | rfl | rfl | rfl <;> rfl) (by unfold maxLen; omega) (by omega) (by simp; omega) ?_)
    intro v2 w3 hown3 hgrow hne
    have hb3 : Below W.heap.size W w3 := (HBV.out.alloc hqs _).grown hgrow (by simp; omega) HOB.out
    have HO3 : Hid (w3.ownsRow W.heap.size 88 6 v2 (P ++ [y]).length (liV (P ++ [y]))) := by
     show World.ownsRow _ _ _ _ _ _ _
     rw [Zj, Jq]; exact hown3
    clear hown3 hgrow hne HOWN HOB HNN q0 q1 q2 q3 q4 q5
    go_wp2
    go_roundw
    case rel => exact ⟨k + 1, P ++ [y], true, by omega, by go_num, rfl, by simp; omega, (fun h => by cases h), HIE.out, HO3.out, hb3⟩
    case measure => simp [intOf]; omega
   | false =>
    have hpk := HPF.out (by simp)
    have HBF := Ja (fun wx => ZA x.r x.s y.r y.s wx)
    obtain ⟨bb, hbb⟩ : ∃ bb, bb = decide (Jo x.r x.s y.r y.s) := ⟨_, rfl⟩
    rw [← hbb] at HBF HIS
    have hVd : Below W.heap.size W wr.drew := hbel.drew
    have SS := HS2.out _ hVd
    obtain ⟨s0, s1, s2, s3⟩ := HS2.out _ hbel
    clear hbb HIN
    go_wp2
    go_region_held3 (fun w' => w'.cell? ⟨w.heap.size, 4, none⟩ = some (int i64 x.r) ∧ w'.cell? ⟨w.heap.size, 5, none⟩ = some (int i64 x.s) ∧ w'.cell? ⟨g, f + k * 6 + 4, none⟩ = some (int i64 y.r) ∧ w'.cell? ⟨g, f + k * 6 + 5, none⟩ = some (int i64 y.s)) (first | exact SS | exact SS2 | go_keep) (first
     | (go_at_call 109; refine (HBF.out _).mono ?_; rintro e wv ⟨rfl, hb2⟩; have hV2 : Below W.heap.size W wv := hVd.trans (hb2.mono hVd.size); have SS2 := HS2.out _ hV2))
    have hoq := Jh (World.ownsRow.drew HOW.out) hb2
    have HBV := Ja hV2
    clear SS SS2 hVd hb2 hV2 s0 s1 s2 s3 hbel HBF HOW HBE
    have hqs := HBV.out.size
    have HOB : Hid (∀ k', u5.ownBlock = some k' → W.heap.size ≤ k') := fun k' hk' => (hoq.lt k' hk').1
    cases bb with
    | false =>
     have HIE : Hid (Zh (fun y => decide (Jo x.r x.s y.r y.s)) x (l.take (k + 1)) = (P ++ [y], false)) := by show _ = _; rw [HIS.out, if_neg (by simp)]
     have HOWN := Ja (hoq.alloc (.cells #[.bool y.m, .string y.o, .string y.y, int i64 y.v, int i64 y.r, int i64 y.s] 88))
     have HNN : Hid (∀ j u, [.bool y.m, .string y.o, .string y.y, int i64 y.v, int i64 y.r, int i64 y.s][j]? = some u → (wv.alloc (.cells #[.bool y.m, .string y.o, .string y.y, int i64 y.v, int i64 y.r, int i64 y.s] 88)).cell? (Addr.add ⟨wv.heap.size, 0, none⟩ j) = some u) := Jr wv [.bool y.m, .string y.o, .string y.y, int i64 y.v, int i64 y.r, int i64 y.s] 88 rfl
     have q := HCC.out wv HBV.out
     unfold liC at q
     obtain ⟨q0, q1, q2, q3, q4, q5⟩ := q
     clear hoq HIS
     go_wp2_with (at_builtin; refine wpList_append_own _ rfl _ _ 26 rfl W.heap.size 88 i0 (.agg #[.bool false, .string ⟨#[]⟩, .string ⟨#[]⟩, int i64 0, int i64 0, int i64 0]) 6 64 Tryz.underlying26 hi hz0 hz1 hz2 rfl (by decide) _ _ _ rfl HOWN.out ⟨wv.heap.size, 0, none⟩ 1 1 [.bool y.m, .string y.o, .string y.y, int i64 y.v, int i64 y.r, int i64 y.s] rfl rfl HNN.out (by intro u' hu'; simp at hu'; rcases hu' with rfl | rfl | rfl | rfl | rfl | rfl <;> rfl) (by unfold maxLen; omega) (by omega) (by simp; omega) ?_)
     intro v2 w3 hown3 hgrow hne
     have hb3 : Below W.heap.size W w3 := (HBV.out.alloc hqs _).grown hgrow (by simp; omega) HOB.out
     have HO3 : Hid (w3.ownsRow W.heap.size 88 6 v2 (P ++ [y]).length (liV (P ++ [y]))) := by
      show World.ownsRow _ _ _ _ _ _ _
      rw [Zj, Jq]; exact hown3
     clear hown3 hgrow hne HOWN HOB HNN q0 q1 q2 q3 q4 q5
     go_wp2
     go_roundw
     case rel => exact ⟨k + 1, P ++ [y], false, by omega, by go_num, rfl, by simp; omega, (fun _ => by simp; omega), HIE.out, HO3.out, hb3⟩
     case measure => simp [intOf]; omega
    | true =>
     have HIE : Hid (Zh (fun y => decide (Jo x.r x.s y.r y.s)) x (l.take (k + 1)) = (P ++ [x] ++ [y], true)) := by show _ = _; rw [HIS.out, if_pos (by simp)]
     have HOWN := Ja (hoq.alloc (.cells #[.bool x.m, .string x.o, .string x.y, int i64 x.v, int i64 x.r, int i64 x.s] 88))
     have HNN : Hid (∀ j u, [.bool x.m, .string x.o, .string x.y, int i64 x.v, int i64 x.r, int i64 x.s][j]? = some u → (wv.alloc (.cells #[.bool x.m, .string x.o, .string x.y, int i64 x.v, int i64 x.r, int i64 x.s] 88)).cell? (Addr.add ⟨wv.heap.size, 0, none⟩ j) = some u) := Jr wv [.bool x.m, .string x.o, .string x.y, int i64 x.v, int i64 x.r, int i64 x.s] 88 rfl
     obtain ⟨m0, m1, m2, m3, m4, m5⟩ := HBX.out wv HBV.out
     clear hoq HIS
     go_wp2_with (at_builtin; refine wpList_append_own _ rfl _ _ 26 rfl W.heap.size 88 i0 (.agg #[.bool false, .string ⟨#[]⟩, .string ⟨#[]⟩, int i64 0, int i64 0, int i64 0]) 6 64 Tryz.underlying26 hi hz0 hz1 hz2 rfl (by decide) _ _ _ rfl HOWN.out ⟨wv.heap.size, 0, none⟩ 1 1 [.bool x.m, .string x.o, .string x.y, int i64 x.v, int i64 x.r, int i64 x.s] rfl rfl HNN.out (by intro u' hu'; simp at hu'; rcases hu' with rfl | rfl | rfl | rfl | rfl | rfl <;> rfl) (by unfold maxLen; omega) (by omega) (by simp; omega) ?_)
     intro v2 w3 hown3 hgrow hne
     have hb3 : Below W.heap.size W w3 := (HBV.out.alloc hqs _).grown hgrow (by simp; omega) HOB.out
     have hs3 := hb3.size
     have HO2 : Hid ((w3.alloc (.cells #[.bool y.m, .string y.o, .string y.y, int i64 y.v, int i64 y.r, int i64 y.s] 88)).ownsRow W.heap.size 88 6 v2 (P ++ [x]).length (liV (P ++ [x]))) := by
      refine World.ownsRow.alloc ?_ _
      rw [Zj, Jq]; exact hown3
     have HNN2 : Hid (∀ j u, [.bool y.m, .string y.o, .string y.y, int i64 y.v, int i64 y.r, int i64 y.s][j]? = some u → (w3.alloc (.cells #[.bool y.m, .string y.o, .string y.y, int i64 y.v, int i64 y.r, int i64 y.s] 88)).cell? (Addr.add ⟨w3.heap.size, 0, none⟩ j) = some u) := Jr w3 [.bool y.m, .string y.o, .string y.y, int i64 y.v, int i64 y.r, int i64 y.s] 88 rfl
     have HOB2 : Hid (∀ k', v2.ownBlock = some k' → W.heap.size ≤ k') := fun k' hk' => (hown3.lt k' hk').1
     have hlp : (P ++ [x]).length = P.length + 1 := Jq _ _
     have q := HCC.out w3 hb3
     unfold liC at q
     obtain ⟨q0, q1, q2, q3, q4, q5⟩ := q
     have HB3 := Ja hb3
     clear hown3 hgrow hne HOWN HOB HNN m0 m1 m2 m3 m4 m5 hb3
     go_wp2_with (at_builtin; refine wpList_append_own _ rfl _ _ 26 rfl W.heap.size 88 i0 (.agg #[.bool false, .string ⟨#[]⟩, .string ⟨#[]⟩, int i64 0, int i64 0, int i64 0]) 6 64 Tryz.underlying26 hi hz0 hz1 hz2 rfl (by decide) _ _ _ rfl HO2.out ⟨w3.heap.size, 0, none⟩ 1 1 [.bool y.m, .string y.o, .string y.y, int i64 y.v, int i64 y.r, int i64 y.s] rfl rfl HNN2.out (by intro u' hu'; simp at hu'; rcases hu' with rfl | rfl | rfl | rfl | rfl | rfl <;> rfl) (by unfold maxLen; omega) (by omega) (by simp; omega) ?_)
     intro v3 w4 hown4 hgrow4 hne4
     have hb4 : Below W.heap.size W w4 := (HB3.out.alloc hs3 _).grown hgrow4 (by simp; omega) HOB2.out
     have HO4 : Hid (w4.ownsRow W.heap.size 88 6 v3 (P ++ [x] ++ [y]).length (liV (P ++ [x] ++ [y]))) := by
      show World.ownsRow _ _ _ _ _ _ _
      rw [Zj, Jq, Jq]; exact hown4
     clear hown4 hgrow4 hne4 HO2 HOB2 HNN2 HB3 q0 q1 q2 q3 q4 q5
     go_wp2
     go_roundw
     case rel => exact ⟨k + 1, P ++ [x] ++ [y], true, by omega, by go_num, rfl, by simp; omega, (fun h => by cases h), HIE.out, HO4.out, hb4⟩
     case measure => simp [intOf]; omega
  ·have hk1 : ¬ ((k : Int) < n) := by omega
   have HE : Hid (ins (fun y => decide (Jo x.r x.s y.r y.s)) x l = if b then P else P ++ [x]) := by
    have hkn : k = n := by omega
    exact HEN.out P b (hkn ▸ HIN.out)
   have hww : w.heap.size ≤ W.heap.size := HB.out.size
   cases b with
   | true =>
    have HR : Hid (wr.ownsRow w.heap.size 88 6 u5 (ins (fun y => decide (Jo x.r x.s y.r y.s)) x l).length (liV (ins (fun y => decide (Jo x.r x.s y.r y.s)) x l))) := by
     show World.ownsRow _ _ _ _ _ _ _
     rw [HE.out]; exact Jk HOW.out hww
    have HF := Ja (HB.out.trans (HBE.out.mono hww))
    clear HOW
    go_wp2
    go_ret
    exact ⟨_, rfl, HR.out, HF.out⟩
   | false =>
    have hoq := HOW.out
    have HOB : Hid (∀ k', u5.ownBlock = some k' → W.heap.size ≤ k') := fun k' hk' => (hoq.lt k' hk').1
    generalize wr = wv at *
    have HOWN := Ja (hoq.alloc (.cells #[.bool x.m, .string x.o, .string x.y, int i64 x.v, int i64 x.r, int i64 x.s] 88))
    have HNN : Hid (∀ j u, [.bool x.m, .string x.o, .string x.y, int i64 x.v, int i64 x.r, int i64 x.s][j]? = some u → (wv.alloc (.cells #[.bool x.m, .string x.o, .string x.y, int i64 x.v, int i64 x.r, int i64 x.s] 88)).cell? (Addr.add ⟨wv.heap.size, 0, none⟩ j) = some u) := Jr wv [.bool x.m, .string x.o, .string x.y, int i64 x.v, int i64 x.r, int i64 x.s] 88 rfl
    obtain ⟨m0, m1, m2, m3, m4, m5⟩ := HBX.out wv HBE.out
    clear hoq hbel HOW
    go_wp2_with (at_builtin; refine wpList_append_own _ rfl _ _ 26 rfl W.heap.size 88 i0 (.agg #[.bool false, .string ⟨#[]⟩, .string ⟨#[]⟩, int i64 0, int i64 0, int i64 0]) 6 64 Tryz.underlying26 hi hz0 hz1 hz2 rfl (by decide) _ _ _ rfl HOWN.out ⟨wv.heap.size, 0, none⟩ 1 1 [.bool x.m, .string x.o, .string x.y, int i64 x.v, int i64 x.r, int i64 x.s] rfl rfl HNN.out (by intro u' hu'; simp at hu'; rcases hu' with rfl | rfl | rfl | rfl | rfl | rfl <;> rfl) (by unfold maxLen; omega) (by omega) (by simp; omega) ?_)
    intro v2 w3 hown3 hgrow hne
    have hb3 : Below W.heap.size W w3 := (HBE.out.alloc hsz _).grown hgrow (by simp; omega) HOB.out
    have HF := Ja (HB.out.trans (hb3.mono hww))
    have HR : Hid (w3.ownsRow w.heap.size 88 6 v2 (ins (fun y => decide (Jo x.r x.s y.r y.s)) x l).length (liV (ins (fun y => decide (Jo x.r x.s y.r y.s)) x l))) := by
     show World.ownsRow _ _ _ _ _ _ _
     rw [HE.out]
     simp only [Bool.false_eq_true, if_false]
     rw [Zj, Jq]; exact Jk hown3 hww
    clear hown3 hgrow hne HOWN HOB HNN m0 m1 m2 m3 m4 m5 hb3
    go_wp2
    go_ret
    exact ⟨_, rfl, HR.out, HF.out⟩
theorem Km (l : List Ce) (x : Ce) : ceV (l ++ [x]) = ceV l ++ x.cs := by simp [ceV]
theorem Gd (l : List Ce) (u : Value) (x : Ce) (w : World) (hn : l.length ≤ 1048576) (h : CeAt w u l) :
  Calls Tryz.prog 105 #[u, .agg #[.string x.o, int i64 x.r, int i64 x.s, int i64 x.t, int i64 x.x, int i64 x.z, int i64 x.v, .bool x.g]] w fun e w' => ∃ v, e = .returned v ∧ w'.ownsRow w.heap.size 90 8 v (ins (fun y => decide (Jo x.r x.s y.r y.s)) x l).length (ceV (ins (fun y => decide (Jo x.r x.s y.r y.s)) x l)) ∧ Below w.heap.size w w' := by
 obtain ⟨aa, ca, rfl, hga⟩ := id h
 obtain ⟨W, hW⟩ : ∃ W, W = w.alloc (.cells #[.string x.o, int i64 x.r, int i64 x.s, int i64 x.t, int i64 x.x, int i64 x.z, int i64 x.v, .bool x.g] 90) := ⟨_, rfl⟩
 have hRX : Row W w.heap.size #[.string x.o, int i64 x.r, int i64 x.s, int i64 x.t, int i64 x.x, int i64 x.z, int i64 x.v, .bool x.g] 90 := by rw [hW]; exact Jb w _ _ rfl
 have HBX : Hid (∀ wx, Below W.heap.size W wx → wx.cell? ⟨w.heap.size, 0, none⟩ = some (.string x.o) ∧ wx.cell? ⟨w.heap.size, 1, none⟩ = some (int i64 x.r) ∧ wx.cell? ⟨w.heap.size, 2, none⟩ = some (int i64 x.s) ∧ wx.cell? ⟨w.heap.size, 3, none⟩ = some (int i64 x.t) ∧ wx.cell? ⟨w.heap.size, 4, none⟩ = some (int i64 x.x) ∧ wx.cell? ⟨w.heap.size, 5, none⟩ = some (int i64 x.z) ∧ wx.cell? ⟨w.heap.size, 6, none⟩ = some (int i64 x.v) ∧ wx.cell? ⟨w.heap.size, 7, none⟩ = some (.bool x.g)) := fun wx h => ⟨(hRX.next h).cell 0 rfl, (hRX.next h).cell 1 rfl, (hRX.next h).cell 2 rfl, (hRX.next h).cell 3 rfl, (hRX.next h).cell 4 rfl, (hRX.next h).cell 5 rfl, (hRX.next h).cell 6 rfl, (hRX.next h).cell 7 rfl⟩
 have HB : Hid (Below w.heap.size w W) := by rw [hW]; exact (Below.refl _ _).alloc (Nat.le_refl _) _
 have HGA : Hid (CeG W aa l) := by
  obtain ⟨a, c, e, hg⟩ : CeAt W (.slice aa l.length ca) l := by rw [hW]; exact h.alloc _
  simp only [Value.slice.injEq] at e
  rw [e.1]; exact hg
 obtain ⟨n, hnl⟩ : ∃ n, n = l.length := ⟨_, rfl⟩
 have HL : Hid (n = l.length) := hnl
 have HEN : Hid (∀ (P : List Ce) (b : Bool), Zh (fun y => decide (Jo x.r x.s y.r y.s)) x (l.take n) = (P, b) → ins (fun y => decide (Jo x.r x.s y.r y.s)) x l = if b then P else P ++ [x]) := fun P b h => by
  rw [hnl, List.take_length] at h
  rw [← Ve, h]
 obtain ⟨X, hX⟩ : ∃ X, X = W.alloc (.cells #[] 90) := ⟨_, rfl⟩
 have HO0 : Hid (X.ownsRow W.heap.size 90 8 (.slice (some ⟨W.heap.size, 0, none⟩) 0 0) ([] : List Ce).length (ceV [])) := by rw [hX]; exact J1 W 90 8 rfl (Nat.le_refl _)
 have HB0 : Hid (Below W.heap.size W X) := by rw [hX]; exact (Below.refl _ _).alloc (Nat.le_refl _) _
 have hWs : W.heap.size = w.heap.size + 1 := by rw [hW]; simp
 have HX : Hid ((w.alloc (.cells #[.string x.o, int i64 x.r, int i64 x.s, int i64 x.t, int i64 x.x, int i64 x.z, int i64 x.v, .bool x.g] 90)).alloc (.cells #[] 90) = X) := by rw [← hW]; exact hX.symm
 have HWS : Hid (W.heap.size = w.heap.size + 1) := hWs
 rw [← hnl] at hn ⊢
 obtain ⟨i0, hi, hz0, hz1, hz2⟩ := info_parts KX
 clear hnl hga h hRX hW hX
 go_enter Tryz.func105, Tryz.ntmps105
 go_wp2
 rw [HX.out]
 try rw [show w.heap.size + 1 = W.heap.size from hWs.symm]
 clear HX hWs
 go_loopw [5, 6, 7] (fun x' q z wr => ∃ (k : Nat) (P : List Ce) (b : Bool), k ≤ n ∧ z = int i64 k ∧ q = .bool b ∧ P.length ≤ k + 1 ∧ (b = false → P.length ≤ k) ∧ Zh (fun y => decide (Jo x.r x.s y.r y.s)) x (l.take k) = (P, b) ∧ wr.ownsRow W.heap.size 90 8 x' P.length (ceV P) ∧ Below W.heap.size W wr) (fun _ _ z _ => n - (intOf z).toNat)
 case atStart => exact ⟨0, [], false, Nat.zero_le _, rfl, rfl, by simp, by simp, rfl, HO0.out, HB0.out⟩
 case round =>
  clear HO0 HB0
  obtain ⟨k, P, b, hk, rfl, rfl, hpl, hpf, hin, hown, hbel⟩ := hrel
  have HOW := Ja hown
  have HBE := Ja hbel
  have HIN := Ja hin
  have HPF := Ja hpf
  have hsz := hbel.size
  clear hown hin hpf
  by_cases hlt : k < n
  ·have hkl : k < l.length := by rw [← HL.out]; exact hlt
   obtain ⟨g, f, rfl, hg, hcc⟩ := HGA.out (by omega)
   have hk1 : (k : Int) < n := by omega
   have hk0 : (0 : Int) ≤ k := by omega
   have HCC : Hid (∀ wx, Below W.heap.size W wx → ceC wx g (f + k * 8) l[k]) := fun wx h => (hcc k hkl).below h hg
   have HIS := Ja (KB (fun y => decide (Jo x.r x.s y.r y.s)) x (l.take k) l[k])
   replace HIS : Hid (Zh (fun y => decide (Jo x.r x.s y.r y.s)) x (l.take (k + 1)) = if b = false ∧ decide (Jo x.r x.s l[k].r l[k].s) = true then (P ++ [x] ++ [l[k]], true) else (P ++ [l[k]], b)) := by
    show _ = _
    rw [GI l k hkl, HIS.out, HIN.out]
   generalize l[k] = y at *
   have HS2 : Hid (∀ wx, Below W.heap.size W wx → wx.cell? ⟨w.heap.size, 1, none⟩ = some (int i64 x.r) ∧ wx.cell? ⟨w.heap.size, 2, none⟩ = some (int i64 x.s) ∧ wx.cell? ⟨g, f + k * 8 + 1, none⟩ = some (int i64 y.r) ∧ wx.cell? ⟨g, f + k * 8 + 2, none⟩ = some (int i64 y.s)) := fun wx h => ⟨(HBX.out wx h).2.1, (HBX.out wx h).2.2.1, (HCC.out wx h).2.1, (HCC.out wx h).2.2.1⟩
   clear hcc hkl
   cases b with
   | true =>
    have HIE : Hid (Zh (fun y => decide (Jo x.r x.s y.r y.s)) x (l.take (k + 1)) = (P ++ [y], true)) := by show _ = _; rw [HIS.out, if_neg (by simp)]
    clear HIS HIN
    go_wp2
    go_quiet (fail)
    have HBV := Ja (Ji HBE.out nq)
    have hoq := Jh HOW.out (Ji (Below.refl _ _) nq)
    generalize wr.drewN nq = wv at *
    clear HBE HOW hbel
    have hqs := HBV.out.size
    have HOWN := Ja (hoq.alloc (.cells #[.string y.o, int i64 y.r, int i64 y.s, int i64 y.t, int i64 y.x, int i64 y.z, int i64 y.v, .bool y.g] 90))
    have HOB : Hid (∀ k', u5.ownBlock = some k' → W.heap.size ≤ k') := fun k' hk' => (hoq.lt k' hk').1
    have HNN : Hid (∀ j u, [.string y.o, int i64 y.r, int i64 y.s, int i64 y.t, int i64 y.x, int i64 y.z, int i64 y.v, .bool y.g][j]? = some u → (wv.alloc (.cells #[.string y.o, int i64 y.r, int i64 y.s, int i64 y.t, int i64 y.x, int i64 y.z, int i64 y.v, .bool y.g] 90)).cell? (Addr.add ⟨wv.heap.size, 0, none⟩ j) = some u) := Jr wv [.string y.o, int i64 y.r, int i64 y.s, int i64 y.t, int i64 y.x, int i64 y.z, int i64 y.v, .bool y.g] 90 rfl
    have q := HCC.out wv HBV.out
    unfold ceC at q
    obtain ⟨q0, q1, q2, q3, q4, q5, q6, q7⟩ := q
    clear hoq
    go_wp2_with (at_builtin; refine wpList_append_own _ rfl _ _ 27 rfl W.heap.size 90 i0 (.agg #[.string ⟨#[]⟩, int i64 0, int i64 0, int i64 0, int i64 0, int i64 0, int i64 0, .bool false]) 8 72 Tryz.underlying27 hi hz0 hz1 hz2 rfl (by decide) _ _ _ rfl HOWN.out ⟨wv.heap.size, 0, none⟩ 1 1 [.string y.o, int i64 y.r, int i64 y.s, int i64 y.t, int i64 y.x, int i64 y.z, int i64 y.v, .bool y.g] rfl rfl HNN.out (by intro u' hu'; simp at hu'; rcases hu' with rfl | rfl | rfl | rfl | rfl | rfl | rfl | rfl <;> rfl) (by unfold maxLen; omega) (by omega) (by simp; omega) ?_)
    intro v2 w3 hown3 hgrow hne
    have hb3 : Below W.heap.size W w3 := (HBV.out.alloc hqs _).grown hgrow (by simp; omega) HOB.out
    have HO3 : Hid (w3.ownsRow W.heap.size 90 8 v2 (P ++ [y]).length (ceV (P ++ [y]))) := by
     show World.ownsRow _ _ _ _ _ _ _
     rw [Km, Jq]; exact hown3
    clear hown3 hgrow hne HOWN HOB HNN q0 q1 q2 q3 q4 q5 q6 q7
    go_wp2
    go_roundw
    case rel => exact ⟨k + 1, P ++ [y], true, by omega, by go_num, rfl, by simp; omega, (fun h => by cases h), HIE.out, HO3.out, hb3⟩
    case measure => simp [intOf]; omega
   | false =>
    have hpk := HPF.out (by simp)
    have HBF := Ja (fun wx => ZA x.r x.s y.r y.s wx)
    obtain ⟨bb, hbb⟩ : ∃ bb, bb = decide (Jo x.r x.s y.r y.s) := ⟨_, rfl⟩
    rw [← hbb] at HBF HIS
    have hVd : Below W.heap.size W wr.drew := hbel.drew
    have SS := HS2.out _ hVd
    obtain ⟨s0, s1, s2, s3⟩ := HS2.out _ hbel
    clear hbb HIN
    go_wp2
    go_region_held3 (fun w' => w'.cell? ⟨w.heap.size, 1, none⟩ = some (int i64 x.r) ∧ w'.cell? ⟨w.heap.size, 2, none⟩ = some (int i64 x.s) ∧ w'.cell? ⟨g, f + k * 8 + 1, none⟩ = some (int i64 y.r) ∧ w'.cell? ⟨g, f + k * 8 + 2, none⟩ = some (int i64 y.s)) (first | exact SS | exact SS2 | go_keep) (first
     | (go_at_call 109; refine (HBF.out _).mono ?_; rintro e wv ⟨rfl, hb2⟩; have hV2 : Below W.heap.size W wv := hVd.trans (hb2.mono hVd.size); have SS2 := HS2.out _ hV2))
    have hoq := Jh (World.ownsRow.drew HOW.out) hb2
    have HBV := Ja hV2
    clear SS SS2 hVd hb2 hV2 s0 s1 s2 s3 hbel HBF HOW HBE
    have hqs := HBV.out.size
    have HOB : Hid (∀ k', u5.ownBlock = some k' → W.heap.size ≤ k') := fun k' hk' => (hoq.lt k' hk').1
    cases bb with
    | false =>
     have HIE : Hid (Zh (fun y => decide (Jo x.r x.s y.r y.s)) x (l.take (k + 1)) = (P ++ [y], false)) := by show _ = _; rw [HIS.out, if_neg (by simp)]
     have HOWN := Ja (hoq.alloc (.cells #[.string y.o, int i64 y.r, int i64 y.s, int i64 y.t, int i64 y.x, int i64 y.z, int i64 y.v, .bool y.g] 90))
     have HNN : Hid (∀ j u, [.string y.o, int i64 y.r, int i64 y.s, int i64 y.t, int i64 y.x, int i64 y.z, int i64 y.v, .bool y.g][j]? = some u → (wv.alloc (.cells #[.string y.o, int i64 y.r, int i64 y.s, int i64 y.t, int i64 y.x, int i64 y.z, int i64 y.v, .bool y.g] 90)).cell? (Addr.add ⟨wv.heap.size, 0, none⟩ j) = some u) := Jr wv [.string y.o, int i64 y.r, int i64 y.s, int i64 y.t, int i64 y.x, int i64 y.z, int i64 y.v, .bool y.g] 90 rfl
     have q := HCC.out wv HBV.out
     unfold ceC at q
     obtain ⟨q0, q1, q2, q3, q4, q5, q6, q7⟩ := q
     clear hoq HIS
     go_wp2_with (at_builtin; refine wpList_append_own _ rfl _ _ 27 rfl W.heap.size 90 i0 (.agg #[.string ⟨#[]⟩, int i64 0, int i64 0, int i64 0, int i64 0, int i64 0, int i64 0, .bool false]) 8 72 Tryz.underlying27 hi hz0 hz1 hz2 rfl (by decide) _ _ _ rfl HOWN.out ⟨wv.heap.size, 0, none⟩ 1 1 [.string y.o, int i64 y.r, int i64 y.s, int i64 y.t, int i64 y.x, int i64 y.z, int i64 y.v, .bool y.g] rfl rfl HNN.out (by intro u' hu'; simp at hu'; rcases hu' with rfl | rfl | rfl | rfl | rfl | rfl | rfl | rfl <;> rfl) (by unfold maxLen; omega) (by omega) (by simp; omega) ?_)
     intro v2 w3 hown3 hgrow hne
     have hb3 : Below W.heap.size W w3 := (HBV.out.alloc hqs _).grown hgrow (by simp; omega) HOB.out
     have HO3 : Hid (w3.ownsRow W.heap.size 90 8 v2 (P ++ [y]).length (ceV (P ++ [y]))) := by
      show World.ownsRow _ _ _ _ _ _ _
      rw [Km, Jq]; exact hown3
     clear hown3 hgrow hne HOWN HOB HNN q0 q1 q2 q3 q4 q5 q6 q7
     go_wp2
     go_roundw
     case rel => exact ⟨k + 1, P ++ [y], false, by omega, by go_num, rfl, by simp; omega, (fun _ => by simp; omega), HIE.out, HO3.out, hb3⟩
     case measure => simp [intOf]; omega
    | true =>
     have HIE : Hid (Zh (fun y => decide (Jo x.r x.s y.r y.s)) x (l.take (k + 1)) = (P ++ [x] ++ [y], true)) := by show _ = _; rw [HIS.out, if_pos (by simp)]
     have HOWN := Ja (hoq.alloc (.cells #[.string x.o, int i64 x.r, int i64 x.s, int i64 x.t, int i64 x.x, int i64 x.z, int i64 x.v, .bool x.g] 90))
     have HNN : Hid (∀ j u, [.string x.o, int i64 x.r, int i64 x.s, int i64 x.t, int i64 x.x, int i64 x.z, int i64 x.v, .bool x.g][j]? = some u → (wv.alloc (.cells #[.string x.o, int i64 x.r, int i64 x.s, int i64 x.t, int i64 x.x, int i64 x.z, int i64 x.v, .bool x.g] 90)).cell? (Addr.add ⟨wv.heap.size, 0, none⟩ j) = some u) := Jr wv [.string x.o, int i64 x.r, int i64 x.s, int i64 x.t, int i64 x.x, int i64 x.z, int i64 x.v, .bool x.g] 90 rfl
     obtain ⟨m0, m1, m2, m3, m4, m5, m6, m7⟩ := HBX.out wv HBV.out
     clear hoq HIS
     go_wp2_with (at_builtin; refine wpList_append_own _ rfl _ _ 27 rfl W.heap.size 90 i0 (.agg #[.string ⟨#[]⟩, int i64 0, int i64 0, int i64 0, int i64 0, int i64 0, int i64 0, .bool false]) 8 72 Tryz.underlying27 hi hz0 hz1 hz2 rfl (by decide) _ _ _ rfl HOWN.out ⟨wv.heap.size, 0, none⟩ 1 1 [.string x.o, int i64 x.r, int i64 x.s, int i64 x.t, int i64 x.x, int i64 x.z, int i64 x.v, .bool x.g] rfl rfl HNN.out (by intro u' hu'; simp at hu'; rcases hu' with rfl | rfl | rfl | rfl | rfl | rfl | rfl | rfl <;> rfl) (by unfold maxLen; omega) (by omega) (by simp; omega) ?_)
     intro v2 w3 hown3 hgrow hne
     have hb3 : Below W.heap.size W w3 := (HBV.out.alloc hqs _).grown hgrow (by simp; omega) HOB.out
     have hs3 := hb3.size
     have HO2 : Hid ((w3.alloc (.cells #[.string y.o, int i64 y.r, int i64 y.s, int i64 y.t, int i64 y.x, int i64 y.z, int i64 y.v, .bool y.g] 90)).ownsRow W.heap.size 90 8 v2 (P ++ [x]).length (ceV (P ++ [x]))) := by
      refine World.ownsRow.alloc ?_ _
      rw [Km, Jq]; exact hown3
     have HNN2 : Hid (∀ j u, [.string y.o, int i64 y.r, int i64 y.s, int i64 y.t, int i64 y.x, int i64 y.z, int i64 y.v, .bool y.g][j]? = some u → (w3.alloc (.cells #[.string y.o, int i64 y.r, int i64 y.s, int i64 y.t, int i64 y.x, int i64 y.z, int i64 y.v, .bool y.g] 90)).cell? (Addr.add ⟨w3.heap.size, 0, none⟩ j) = some u) := Jr w3 [.string y.o, int i64 y.r, int i64 y.s, int i64 y.t, int i64 y.x, int i64 y.z, int i64 y.v, .bool y.g] 90 rfl
     have HOB2 : Hid (∀ k', v2.ownBlock = some k' → W.heap.size ≤ k') := fun k' hk' => (hown3.lt k' hk').1
     have hlp : (P ++ [x]).length = P.length + 1 := Jq _ _
     have q := HCC.out w3 hb3
     unfold ceC at q
     obtain ⟨q0, q1, q2, q3, q4, q5, q6, q7⟩ := q
     have HB3 := Ja hb3
     clear hown3 hgrow hne HOWN HOB HNN m0 m1 m2 m3 m4 m5 m6 m7 hb3
     go_wp2_with (at_builtin; refine wpList_append_own _ rfl _ _ 27 rfl W.heap.size 90 i0 (.agg #[.string ⟨#[]⟩, int i64 0, int i64 0, int i64 0, int i64 0, int i64 0, int i64 0, .bool false]) 8 72 Tryz.underlying27 hi hz0 hz1 hz2 rfl (by decide) _ _ _ rfl HO2.out ⟨w3.heap.size, 0, none⟩ 1 1 [.string y.o, int i64 y.r, int i64 y.s, int i64 y.t, int i64 y.x, int i64 y.z, int i64 y.v, .bool y.g] rfl rfl HNN2.out (by intro u' hu'; simp at hu'; rcases hu' with rfl | rfl | rfl | rfl | rfl | rfl | rfl | rfl <;> rfl) (by unfold maxLen; omega) (by omega) (by simp; omega) ?_)
     intro v3 w4 hown4 hgrow4 hne4
     have hb4 : Below W.heap.size W w4 := (HB3.out.alloc hs3 _).grown hgrow4 (by simp; omega) HOB2.out
     have HO4 : Hid (w4.ownsRow W.heap.size 90 8 v3 (P ++ [x] ++ [y]).length (ceV (P ++ [x] ++ [y]))) := by
      show World.ownsRow _ _ _ _ _ _ _
      rw [Km, Jq, Jq]; exact hown4
     clear hown4 hgrow4 hne4 HO2 HOB2 HNN2 HB3 q0 q1 q2 q3 q4 q5 q6 q7
     go_wp2
     go_roundw
     case rel => exact ⟨k + 1, P ++ [x] ++ [y], true, by omega, by go_num, rfl, by simp; omega, (fun h => by cases h), HIE.out, HO4.out, hb4⟩
     case measure => simp [intOf]; omega
  ·have hk1 : ¬ ((k : Int) < n) := by omega
   have HE : Hid (ins (fun y => decide (Jo x.r x.s y.r y.s)) x l = if b then P else P ++ [x]) := by
    have hkn : k = n := by omega
    exact HEN.out P b (hkn ▸ HIN.out)
   have hww : w.heap.size ≤ W.heap.size := HB.out.size
   cases b with
   | true =>
    have HR : Hid (wr.ownsRow w.heap.size 90 8 u5 (ins (fun y => decide (Jo x.r x.s y.r y.s)) x l).length (ceV (ins (fun y => decide (Jo x.r x.s y.r y.s)) x l))) := by
     show World.ownsRow _ _ _ _ _ _ _
     rw [HE.out]; exact Jk HOW.out hww
    have HF := Ja (HB.out.trans (HBE.out.mono hww))
    clear HOW
    go_wp2
    go_ret
    exact ⟨_, rfl, HR.out, HF.out⟩
   | false =>
    have hoq := HOW.out
    have HOB : Hid (∀ k', u5.ownBlock = some k' → W.heap.size ≤ k') := fun k' hk' => (hoq.lt k' hk').1
    generalize wr = wv at *
    have HOWN := Ja (hoq.alloc (.cells #[.string x.o, int i64 x.r, int i64 x.s, int i64 x.t, int i64 x.x, int i64 x.z, int i64 x.v, .bool x.g] 90))
    have HNN : Hid (∀ j u, [.string x.o, int i64 x.r, int i64 x.s, int i64 x.t, int i64 x.x, int i64 x.z, int i64 x.v, .bool x.g][j]? = some u → (wv.alloc (.cells #[.string x.o, int i64 x.r, int i64 x.s, int i64 x.t, int i64 x.x, int i64 x.z, int i64 x.v, .bool x.g] 90)).cell? (Addr.add ⟨wv.heap.size, 0, none⟩ j) = some u) := Jr wv [.string x.o, int i64 x.r, int i64 x.s, int i64 x.t, int i64 x.x, int i64 x.z, int i64 x.v, .bool x.g] 90 rfl
    obtain ⟨m0, m1, m2, m3, m4, m5, m6, m7⟩ := HBX.out wv HBE.out
    clear hoq hbel HOW
    go_wp2_with (at_builtin; refine wpList_append_own _ rfl _ _ 27 rfl W.heap.size 90 i0 (.agg #[.string ⟨#[]⟩, int i64 0, int i64 0, int i64 0, int i64 0, int i64 0, int i64 0, .bool false]) 8 72 Tryz.underlying27 hi hz0 hz1 hz2 rfl (by decide) _ _ _ rfl HOWN.out ⟨wv.heap.size, 0, none⟩ 1 1 [.string x.o, int i64 x.r, int i64 x.s, int i64 x.t, int i64 x.x, int i64 x.z, int i64 x.v, .bool x.g] rfl rfl HNN.out (by intro u' hu'; simp at hu'; rcases hu' with rfl | rfl | rfl | rfl | rfl | rfl | rfl | rfl <;> rfl) (by unfold maxLen; omega) (by omega) (by simp; omega) ?_)
    intro v2 w3 hown3 hgrow hne
    have hb3 : Below W.heap.size W w3 := (HBE.out.alloc hsz _).grown hgrow (by simp; omega) HOB.out
    have HF := Ja (HB.out.trans (hb3.mono hww))
    have HR : Hid (w3.ownsRow w.heap.size 90 8 v2 (ins (fun y => decide (Jo x.r x.s y.r y.s)) x l).length (ceV (ins (fun y => decide (Jo x.r x.s y.r y.s)) x l))) := by
     show World.ownsRow _ _ _ _ _ _ _
     rw [HE.out]
     simp only [Bool.false_eq_true, if_false]
     rw [Km, Jq]; exact Jk hown3 hww
    clear hown3 hgrow hne HOWN HOB HNN m0 m1 m2 m3 m4 m5 m6 m7 hb3
    go_wp2
    go_ret
    exact ⟨_, rfl, HR.out, HF.out⟩
def JV (m : Bool) (o y : ByteArray) (kl : List Int) (x : Li) : Bool := decide (x.m = m ∧ x.o = o ∧ x.y = y) && Jf kl x.r x.s
def Jd (l : List Li) (m : Bool) (o y : ByteArray) (kl : List Int) : List Li := l.filter fun x => !JV m o y kl x
theorem Jad (l : List Li) (m : Bool) (o y : ByteArray) (kl : List Int) (k : Nat) (h : k < l.length) (hx : JV m o y kl l[k] = false) : Jd (l.take (k + 1)) m o y kl = Jd (l.take k) m o y kl ++ [l[k]] := by
 unfold Jd
 rw [List.take_succ_eq_append_getElem h, List.filter_append]
 congr 1
 simp [hx]
theorem Jbd (l : List Li) (m : Bool) (o y : ByteArray) (kl : List Int) (k : Nat) (h : k < l.length) (hx : JV m o y kl l[k] = true) : Jd (l.take (k + 1)) m o y kl = Jd (l.take k) m o y kl := by
 unfold Jd
 rw [List.take_succ_eq_append_getElem h, List.filter_append]
 simp [hx]
theorem Y0 (l : List Li) (m : Bool) (o y : ByteArray) (kl : List Int) (k : Nat) : (Jd (l.take k) m o y kl).length ≤ k := by
 have h1 : (Jd (l.take k) m o y kl).length ≤ (l.take k).length := List.length_filter_le _ _
 have h2 : (l.take k).length ≤ k := by rw [List.length_take]; omega
 omega
theorem Zy (L : List Li) (p : Nat) (u0 u1 u2 u3 : Value) (m : Bool) (o y : ByteArray) (kl : List Int) (v : Value) (w : World) (hn : L.length ≤ 1048576) (hk : kl.length ≤ 1048576) (hp : Row w p #[u0, u1, u2, u3] 29) (hL : LiAt w u2 L) (hv : IntsAt w v kl) :
  Calls Tryz.prog 104 #[.pointer (some ⟨p, 0, none⟩), .bool m, .string o, .string y, v] w fun e w' => e = .returned (.tuple #[]) ∧ ∃ a2 d2, Row w' p #[u0, u1, .slice a2 (Jd L m o y kl).length d2, u3] 29 ∧ w'.ownsRow w.heap.size 88 6 (.slice a2 (Jd L m o y kl).length d2) (Jd L m o y kl).length (liV (Jd L m o y kl)) ∧ w.grownBy w' (some p) := by
 obtain ⟨aa, ca, rfl, hga⟩ := hL
 have hpl : p < w.heap.size := hp.lt
 have HP : Hid (∀ wx, Below w.heap.size w wx → Row wx p #[u0, u1, .slice aa L.length ca, u3] 29) := fun wx h => hp.next h
 have HGA : Hid (LiG w aa L) := hga
 have HK : Hid (∀ wx r s, Below w.heap.size w wx → Calls Tryz.prog 20 #[v, .agg #[int i64 r, int i64 s]] wx fun e w' => e = .returned (.bool (Jf kl r s)) ∧ Below wx.heap.size wx w') := fun wx r s h => Zc kl v r s wx hk (hv.below h)
 obtain ⟨va, vc, rfl, -⟩ := hv
 obtain ⟨n, hnl⟩ : ∃ n, n = L.length := ⟨_, rfl⟩
 have HL : Hid (n = L.length) := hnl
 have HALL : Hid (Jd (L.take n) m o y kl = Jd L m o y kl) := by show _ = _; rw [hnl, List.take_length]
 rw [← hnl] at hn HP
 obtain ⟨i0, hi, hz0, hz1, hz2⟩ := info_parts ZF
 obtain ⟨X, hX⟩ : ∃ X, X = w.alloc (.cells #[] 88) := ⟨_, rfl⟩
 have HO : Hid (X.ownsRow w.heap.size 88 6 (.slice (some ⟨w.heap.size, 0, none⟩) 0 0) (Jd (L.take 0) m o y kl).length (liV (Jd (L.take 0) m o y kl))) := by rw [hX]; exact J1 w 88 6 rfl (Nat.le_refl _)
 have HBX : Hid (Below w.heap.size w X) := by rw [hX]; exact (Below.refl _ _).alloc (Nat.le_refl _) _
 have HX : Hid (w.alloc (.cells #[] 88) = X) := hX.symm
 clear hnl hX hga hp hk
 go_enter Tryz.func104, Tryz.ntmps104
 go_wp2
 rw [HX.out]
 clear HX
 go_loopw [10, 11] (fun x z wr => ∃ k : Nat, k ≤ n ∧ z = int i64 k ∧ wr.ownsRow w.heap.size 88 6 x (Jd (L.take k) m o y kl).length (liV (Jd (L.take k) m o y kl)) ∧ Below w.heap.size w wr) (fun _ z _ => n - (intOf z).toNat)
 case atStart => exact ⟨0, Nat.zero_le _, rfl, HO.out, HBX.out⟩
 case round =>
  clear HO HBX
  obtain ⟨k, hk, rfl, hown, hbel⟩ := hrel
  have HOW := Ja hown
  have HBE := Ja hbel
  obtain ⟨d0, d1, d2, d3⟩ := Row.four (HP.out wr hbel)
  have hsz := hbel.size
  have hcl := Y0 L m o y kl k
  clear hown
  by_cases hlt : k < n
  ·have hkl : k < L.length := by rw [← HL.out]; exact hlt
   obtain ⟨g, f, rfl, hg, hcc⟩ := HGA.out (by omega)
   have hk1 : (k : Int) < n := by omega
   have hk0 : (0 : Int) ≤ k := by omega
   have q := (hcc k hkl).below hbel hg
   have HY : Hid (JV m o y kl L[k] = false → Jd (L.take (k + 1)) m o y kl = Jd (L.take k) m o y kl ++ [L[k]]) := Jad L m o y kl k hkl
   have HN : Hid (JV m o y kl L[k] = true → Jd (L.take (k + 1)) m o y kl = Jd (L.take k) m o y kl) := Jbd L m o y kl k hkl
   generalize L[k] = x at *
   unfold liC at q
   obtain ⟨q0, q1, q2, q3, q4, q5⟩ := q
   obtain ⟨WW, hWW⟩ : ∃ WW, WW = wr.alloc (.cells #[.bool x.m, .string x.o, .string x.y, int i64 x.v, int i64 x.r, int i64 x.s] 88) := ⟨_, rfl⟩
   have hBW : Below w.heap.size w WW := by rw [hWW]; exact hbel.alloc hsz _
   have hOW : WW.ownsRow w.heap.size 88 6 u10 (Jd (L.take k) m o y kl).length (liV (Jd (L.take k) m o y kl)) := by rw [hWW]; exact HOW.out.alloc _
   have hRW : Row WW wr.heap.size #[.bool x.m, .string x.o, .string x.y, int i64 x.v, int i64 x.r, int i64 x.s] 88 := by rw [hWW]; exact Jb wr _ _ rfl
   have HRX : Hid (∀ wx, Below WW.heap.size WW wx → wx.cell? ⟨wr.heap.size, 0, none⟩ = some (.bool x.m) ∧ wx.cell? ⟨wr.heap.size, 1, none⟩ = some (.string x.o) ∧ wx.cell? ⟨wr.heap.size, 2, none⟩ = some (.string x.y) ∧ wx.cell? ⟨wr.heap.size, 3, none⟩ = some (int i64 x.v) ∧ wx.cell? ⟨wr.heap.size, 4, none⟩ = some (int i64 x.r) ∧ wx.cell? ⟨wr.heap.size, 5, none⟩ = some (int i64 x.s)) := fun wx h => ⟨(hRW.next h).cell 0 rfl, (hRW.next h).cell 1 rfl, (hRW.next h).cell 2 rfl, (hRW.next h).cell 3 rfl, (hRW.next h).cell 4 rfl, (hRW.next h).cell 5 rfl⟩
   have HWW : Hid (wr.alloc (.cells #[.bool x.m, .string x.o, .string x.y, int i64 x.v, int i64 x.r, int i64 x.s] 88) = WW) := hWW.symm
   have HAPP : Hid (JV m o y kl x = false → ∀ wv, Below WW.heap.size WW wv → Below w.heap.size w wv ∧ (wv.alloc (.cells #[.bool x.m, .string x.o, .string x.y, int i64 x.v, int i64 x.r, int i64 x.s] 88)).ownsRow w.heap.size 88 6 u10 (Jd (L.take k) m o y kl).length (liV (Jd (L.take k) m o y kl))) := fun _ wv h => ⟨hBW.trans (h.mono hBW.size), (Jh hOW h).alloc _⟩
   have HSK : Hid (JV m o y kl x = true → ∀ wv, Below WW.heap.size WW wv → Below w.heap.size w wv ∧ wv.ownsRow w.heap.size 88 6 u10 (Jd (L.take (k + 1)) m o y kl).length (liV (Jd (L.take (k + 1)) m o y kl))) := fun h1 wv h => ⟨hBW.trans (h.mono hBW.size), by rw [HN.out h1]; exact Jh hOW h⟩
   have HOB : Hid (∀ k', u10.ownBlock = some k' → w.heap.size ≤ k') := fun k' hk' => (HOW.out.lt k' hk').1
   have HBW := Ja hBW
   have hwz := hBW.size
   clear hcc hbel hkl hWW hOW hRW HOW HN
   by_cases h1 : x.m = m
   case neg =>
    have HG : Hid (JV m o y kl x = false) := by show _ = _; unfold JV; rw [decide_eq_false (fun h => h1 h.1)]; rfl
    have b1 : (x.m != m) = true := by simp [h1]
    have b1' : (x.m == m) = false := by simp [h1]
    have hap := HAPP.out HG.out WW (Below.refl _ _)
    have HOWN := Ja hap.2
    have HNN : Hid (∀ j u, [.bool x.m, .string x.o, .string x.y, int i64 x.v, int i64 x.r, int i64 x.s][j]? = some u → (WW.alloc (.cells #[.bool x.m, .string x.o, .string x.y, int i64 x.v, int i64 x.r, int i64 x.s] 88)).cell? (Addr.add ⟨WW.heap.size, 0, none⟩ j) = some u) := Jr WW [.bool x.m, .string x.o, .string x.y, int i64 x.v, int i64 x.r, int i64 x.s] 88 rfl
    clear h1
    clear HSK hap
    have HOWN2 : Hid (((wr.alloc (.cells #[.bool x.m, .string x.o, .string x.y, int i64 x.v, int i64 x.r, int i64 x.s] 88)).alloc (.cells #[.bool x.m, .string x.o, .string x.y, int i64 x.v, int i64 x.r, int i64 x.s] 88)).ownsRow w.heap.size 88 6 u10 (Jd (L.take k) m o y kl).length (liV (Jd (L.take k) m o y kl))) := by rw [HWW.out]; exact HOWN.out
    have HNN2 : Hid (∀ j u, [.bool x.m, .string x.o, .string x.y, int i64 x.v, int i64 x.r, int i64 x.s][j]? = some u → ((wr.alloc (.cells #[.bool x.m, .string x.o, .string x.y, int i64 x.v, int i64 x.r, int i64 x.s] 88)).alloc (.cells #[.bool x.m, .string x.o, .string x.y, int i64 x.v, int i64 x.r, int i64 x.s] 88)).cell? (Addr.add ⟨wr.heap.size + 1, 0, none⟩ j) = some u) := Jr (wr.alloc (.cells #[.bool x.m, .string x.o, .string x.y, int i64 x.v, int i64 x.r, int i64 x.s] 88)) [.bool x.m, .string x.o, .string x.y, int i64 x.v, int i64 x.r, int i64 x.s] 88 (by simp)
    have HB1 : Hid (Below w.heap.size w ((wr.alloc (.cells #[.bool x.m, .string x.o, .string x.y, int i64 x.v, int i64 x.r, int i64 x.s] 88)).alloc (.cells #[.bool x.m, .string x.o, .string x.y, int i64 x.v, int i64 x.r, int i64 x.s] 88))) := by rw [HWW.out]; exact HBW.out.alloc HBW.out.size _
    have HSZ : Hid (w.heap.size ≤ ((wr.alloc (.cells #[.bool x.m, .string x.o, .string x.y, int i64 x.v, int i64 x.r, int i64 x.s] 88)).alloc (.cells #[.bool x.m, .string x.o, .string x.y, int i64 x.v, int i64 x.r, int i64 x.s] 88)).heap.size) := HB1.out.size
    clear HOWN HNN HAPP HRX
    go_wp2_with (at_builtin; refine wpList_append_own _ rfl _ _ 26 rfl w.heap.size 88 i0 (.agg #[.bool false, .string ⟨#[]⟩, .string ⟨#[]⟩, int i64 0, int i64 0, int i64 0]) 6 64 Tryz.underlying26 hi hz0 hz1 hz2 rfl (by decide) _ _ _ rfl HOWN2.out ⟨wr.heap.size + 1, 0, none⟩ 1 1 [.bool x.m, .string x.o, .string x.y, int i64 x.v, int i64 x.r, int i64 x.s] rfl rfl HNN2.out (by intro u' hu'; simp at hu'; rcases hu' with rfl | rfl | rfl | rfl | rfl | rfl <;> rfl) (by unfold maxLen; omega) (by omega) HSZ.out ?_)
    intro v2 w4 hown4 hgrow hne2
    have hb4 : Below w.heap.size w w4 := HB1.out.grown hgrow (by simp; omega) HOB.out
    have HO4 : Hid (w4.ownsRow w.heap.size 88 6 v2 (Jd (L.take (k + 1)) m o y kl).length (liV (Jd (L.take (k + 1)) m o y kl))) := by
     show World.ownsRow _ _ _ _ _ _ _
     rw [HY.out HG.out, Zj, Jq]; exact hown4
    clear hown4 hgrow hne2 HOWN2 HNN2 HB1 HSZ HY HG
    go_wp2
    go_roundw
    case rel => exact ⟨k + 1, by omega, by go_num, HO4.out, hb4⟩
    case measure => simp [intOf]; omega
   have b1 : (x.m != m) = false := by simp [h1]
   have b1' : (x.m == m) = true := by simp [h1]
   by_cases h2 : x.o = o
   case neg =>
    have HG : Hid (JV m o y kl x = false) := by show _ = _; unfold JV; rw [decide_eq_false (fun h => h2 h.2.1)]; rfl
    have b2 := JY x.o o h2
    have hap := HAPP.out HG.out WW (Below.refl _ _)
    have HOWN := Ja hap.2
    have HNN : Hid (∀ j u, [.bool x.m, .string x.o, .string x.y, int i64 x.v, int i64 x.r, int i64 x.s][j]? = some u → (WW.alloc (.cells #[.bool x.m, .string x.o, .string x.y, int i64 x.v, int i64 x.r, int i64 x.s] 88)).cell? (Addr.add ⟨WW.heap.size, 0, none⟩ j) = some u) := Jr WW [.bool x.m, .string x.o, .string x.y, int i64 x.v, int i64 x.r, int i64 x.s] 88 rfl
    clear h1 h2
    clear HSK hap
    have HOWN2 : Hid (((wr.alloc (.cells #[.bool x.m, .string x.o, .string x.y, int i64 x.v, int i64 x.r, int i64 x.s] 88)).alloc (.cells #[.bool x.m, .string x.o, .string x.y, int i64 x.v, int i64 x.r, int i64 x.s] 88)).ownsRow w.heap.size 88 6 u10 (Jd (L.take k) m o y kl).length (liV (Jd (L.take k) m o y kl))) := by rw [HWW.out]; exact HOWN.out
    have HNN2 : Hid (∀ j u, [.bool x.m, .string x.o, .string x.y, int i64 x.v, int i64 x.r, int i64 x.s][j]? = some u → ((wr.alloc (.cells #[.bool x.m, .string x.o, .string x.y, int i64 x.v, int i64 x.r, int i64 x.s] 88)).alloc (.cells #[.bool x.m, .string x.o, .string x.y, int i64 x.v, int i64 x.r, int i64 x.s] 88)).cell? (Addr.add ⟨wr.heap.size + 1, 0, none⟩ j) = some u) := Jr (wr.alloc (.cells #[.bool x.m, .string x.o, .string x.y, int i64 x.v, int i64 x.r, int i64 x.s] 88)) [.bool x.m, .string x.o, .string x.y, int i64 x.v, int i64 x.r, int i64 x.s] 88 (by simp)
    have HB1 : Hid (Below w.heap.size w ((wr.alloc (.cells #[.bool x.m, .string x.o, .string x.y, int i64 x.v, int i64 x.r, int i64 x.s] 88)).alloc (.cells #[.bool x.m, .string x.o, .string x.y, int i64 x.v, int i64 x.r, int i64 x.s] 88))) := by rw [HWW.out]; exact HBW.out.alloc HBW.out.size _
    have HSZ : Hid (w.heap.size ≤ ((wr.alloc (.cells #[.bool x.m, .string x.o, .string x.y, int i64 x.v, int i64 x.r, int i64 x.s] 88)).alloc (.cells #[.bool x.m, .string x.o, .string x.y, int i64 x.v, int i64 x.r, int i64 x.s] 88)).heap.size) := HB1.out.size
    clear HOWN HNN HAPP HRX
    go_wp2_with (at_builtin; refine wpList_append_own _ rfl _ _ 26 rfl w.heap.size 88 i0 (.agg #[.bool false, .string ⟨#[]⟩, .string ⟨#[]⟩, int i64 0, int i64 0, int i64 0]) 6 64 Tryz.underlying26 hi hz0 hz1 hz2 rfl (by decide) _ _ _ rfl HOWN2.out ⟨wr.heap.size + 1, 0, none⟩ 1 1 [.bool x.m, .string x.o, .string x.y, int i64 x.v, int i64 x.r, int i64 x.s] rfl rfl HNN2.out (by intro u' hu'; simp at hu'; rcases hu' with rfl | rfl | rfl | rfl | rfl | rfl <;> rfl) (by unfold maxLen; omega) (by omega) HSZ.out ?_)
    intro v2 w4 hown4 hgrow hne2
    have hb4 : Below w.heap.size w w4 := HB1.out.grown hgrow (by simp; omega) HOB.out
    have HO4 : Hid (w4.ownsRow w.heap.size 88 6 v2 (Jd (L.take (k + 1)) m o y kl).length (liV (Jd (L.take (k + 1)) m o y kl))) := by
     show World.ownsRow _ _ _ _ _ _ _
     rw [HY.out HG.out, Zj, Jq]; exact hown4
    clear hown4 hgrow hne2 HOWN2 HNN2 HB1 HSZ HY HG
    go_wp2
    go_roundw
    case rel => exact ⟨k + 1, by omega, by go_num, HO4.out, hb4⟩
    case measure => simp [intOf]; omega
   have b2 := JM x.o o h2
   by_cases h3 : x.y = y
   case neg =>
    have HG : Hid (JV m o y kl x = false) := by show _ = _; unfold JV; rw [decide_eq_false (fun h => h3 h.2.2)]; rfl
    have b3 := JY x.y y h3
    have hap := HAPP.out HG.out WW (Below.refl _ _)
    have HOWN := Ja hap.2
    have HNN : Hid (∀ j u, [.bool x.m, .string x.o, .string x.y, int i64 x.v, int i64 x.r, int i64 x.s][j]? = some u → (WW.alloc (.cells #[.bool x.m, .string x.o, .string x.y, int i64 x.v, int i64 x.r, int i64 x.s] 88)).cell? (Addr.add ⟨WW.heap.size, 0, none⟩ j) = some u) := Jr WW [.bool x.m, .string x.o, .string x.y, int i64 x.v, int i64 x.r, int i64 x.s] 88 rfl
    clear h1 h2 h3
    clear HSK hap
    have HOWN2 : Hid (((wr.alloc (.cells #[.bool x.m, .string x.o, .string x.y, int i64 x.v, int i64 x.r, int i64 x.s] 88)).alloc (.cells #[.bool x.m, .string x.o, .string x.y, int i64 x.v, int i64 x.r, int i64 x.s] 88)).ownsRow w.heap.size 88 6 u10 (Jd (L.take k) m o y kl).length (liV (Jd (L.take k) m o y kl))) := by rw [HWW.out]; exact HOWN.out
    have HNN2 : Hid (∀ j u, [.bool x.m, .string x.o, .string x.y, int i64 x.v, int i64 x.r, int i64 x.s][j]? = some u → ((wr.alloc (.cells #[.bool x.m, .string x.o, .string x.y, int i64 x.v, int i64 x.r, int i64 x.s] 88)).alloc (.cells #[.bool x.m, .string x.o, .string x.y, int i64 x.v, int i64 x.r, int i64 x.s] 88)).cell? (Addr.add ⟨wr.heap.size + 1, 0, none⟩ j) = some u) := Jr (wr.alloc (.cells #[.bool x.m, .string x.o, .string x.y, int i64 x.v, int i64 x.r, int i64 x.s] 88)) [.bool x.m, .string x.o, .string x.y, int i64 x.v, int i64 x.r, int i64 x.s] 88 (by simp)
    have HB1 : Hid (Below w.heap.size w ((wr.alloc (.cells #[.bool x.m, .string x.o, .string x.y, int i64 x.v, int i64 x.r, int i64 x.s] 88)).alloc (.cells #[.bool x.m, .string x.o, .string x.y, int i64 x.v, int i64 x.r, int i64 x.s] 88))) := by rw [HWW.out]; exact HBW.out.alloc HBW.out.size _
    have HSZ : Hid (w.heap.size ≤ ((wr.alloc (.cells #[.bool x.m, .string x.o, .string x.y, int i64 x.v, int i64 x.r, int i64 x.s] 88)).alloc (.cells #[.bool x.m, .string x.o, .string x.y, int i64 x.v, int i64 x.r, int i64 x.s] 88)).heap.size) := HB1.out.size
    clear HOWN HNN HAPP HRX
    go_wp2_with (at_builtin; refine wpList_append_own _ rfl _ _ 26 rfl w.heap.size 88 i0 (.agg #[.bool false, .string ⟨#[]⟩, .string ⟨#[]⟩, int i64 0, int i64 0, int i64 0]) 6 64 Tryz.underlying26 hi hz0 hz1 hz2 rfl (by decide) _ _ _ rfl HOWN2.out ⟨wr.heap.size + 1, 0, none⟩ 1 1 [.bool x.m, .string x.o, .string x.y, int i64 x.v, int i64 x.r, int i64 x.s] rfl rfl HNN2.out (by intro u' hu'; simp at hu'; rcases hu' with rfl | rfl | rfl | rfl | rfl | rfl <;> rfl) (by unfold maxLen; omega) (by omega) HSZ.out ?_)
    intro v2 w4 hown4 hgrow hne2
    have hb4 : Below w.heap.size w w4 := HB1.out.grown hgrow (by simp; omega) HOB.out
    have HO4 : Hid (w4.ownsRow w.heap.size 88 6 v2 (Jd (L.take (k + 1)) m o y kl).length (liV (Jd (L.take (k + 1)) m o y kl))) := by
     show World.ownsRow _ _ _ _ _ _ _
     rw [HY.out HG.out, Zj, Jq]; exact hown4
    clear hown4 hgrow hne2 HOWN2 HNN2 HB1 HSZ HY HG
    go_wp2
    go_roundw
    case rel => exact ⟨k + 1, by omega, by go_num, HO4.out, hb4⟩
    case measure => simp [intOf]; omega
   have b3 := JM x.y y h3
   have HKG : Hid (JV m o y kl x = Jf kl x.r x.s) := by show _ = _; unfold JV; rw [decide_eq_true ⟨h1, h2, h3⟩]; rfl
   have HKX := Ja (HK.out WW x.r x.s hBW)
   generalize Jf kl x.r x.s = kb at *
   obtain ⟨m0, m1, m2, m3, m4, m5⟩ := HRX.out WW (Below.refl _ _)
   rw [← HWW.out] at m0 m1 m2 m3 m4 m5
   clear h1 h2 h3
   go_wp2_with fail
   rw [HWW.out]
   refine HKX.out.mono ?_
   rintro e wv ⟨rfl, hbv⟩
   clear HKX m0 m1 m2 m3 m4 m5 q0 q1 q2 q3 q4 q5 d0 d1 d2 d3
   cases kb with
   | false =>
    have HG : Hid (JV m o y kl x = false) := HKG.out
    have HBV := Ja hbv
    clear hbv HKG
    have hap := HAPP.out HG.out wv HBV.out
    have HOWN := Ja hap.2
    have HB1 := Ja hap.1
    have hs1 := hap.1.size
    have HNN : Hid (∀ j u, [.bool x.m, .string x.o, .string x.y, int i64 x.v, int i64 x.r, int i64 x.s][j]? = some u → (wv.alloc (.cells #[.bool x.m, .string x.o, .string x.y, int i64 x.v, int i64 x.r, int i64 x.s] 88)).cell? (Addr.add ⟨wv.heap.size, 0, none⟩ j) = some u) := Jr wv [.bool x.m, .string x.o, .string x.y, int i64 x.v, int i64 x.r, int i64 x.s] 88 rfl
    obtain ⟨m0, m1, m2, m3, m4, m5⟩ := HRX.out wv HBV.out
    clear hap HAPP HSK
    go_wp2_with (at_builtin; refine wpList_append_own _ rfl _ _ 26 rfl w.heap.size 88 i0 (.agg #[.bool false, .string ⟨#[]⟩, .string ⟨#[]⟩, int i64 0, int i64 0, int i64 0]) 6 64 Tryz.underlying26 hi hz0 hz1 hz2 rfl (by decide) _ _ _ rfl HOWN.out ⟨wv.heap.size, 0, none⟩ 1 1 [.bool x.m, .string x.o, .string x.y, int i64 x.v, int i64 x.r, int i64 x.s] rfl rfl HNN.out (by intro u' hu'; simp at hu'; rcases hu' with rfl | rfl | rfl | rfl | rfl | rfl <;> rfl) (by unfold maxLen; omega) (by omega) (by simp; omega) ?_)
    intro v2 w4 hown4 hgrow hne2
    have hb4 : Below w.heap.size w w4 := (HB1.out.alloc hs1 _).grown hgrow (by simp; omega) HOB.out
    have HO4 : Hid (w4.ownsRow w.heap.size 88 6 v2 (Jd (L.take (k + 1)) m o y kl).length (liV (Jd (L.take (k + 1)) m o y kl))) := by
     show World.ownsRow _ _ _ _ _ _ _
     rw [HY.out HG.out, Zj, Jq]; exact hown4
    clear hown4 hgrow hne2 HOWN HNN m0 m1 m2 m3 m4 m5 HY HG
    go_wp2
    go_roundw
    case rel => exact ⟨k + 1, by omega, by go_num, HO4.out, hb4⟩
    case measure => simp [intOf]; omega
   | true =>
    have HG : Hid (JV m o y kl x = true) := HKG.out
    have hap := HSK.out HG.out wv hbv
    have HO4 := Ja hap.2
    have hb4 := hap.1
    clear hap HSK HAPP hbv HKG
    go_wp2
    go_roundw
    case rel => exact ⟨k + 1, by omega, by go_num, HO4.out, hb4⟩
    case measure => simp [intOf]; omega
  ·have hk1 : ¬ ((k : Int) < n) := by omega
   have hkn : k = n := by omega
   have hE := HOW.out
   rw [hkn, HALL.out] at hE
   obtain ⟨a2, e2, rfl, -⟩ := LiAt.own hE rfl
   have f2 := (HP.out wr hbel).free 2
   have HR : Hid (Row (wr.setCell ⟨p, 2, none⟩ (.slice a2 (Jd L m o y kl).length e2)) p #[u0, u1, .slice a2 (Jd L m o y kl).length e2, u3] 29) := (HP.out wr hbel).st2 _
   have HO5 : Hid ((wr.setCell ⟨p, 2, none⟩ (.slice a2 (Jd L m o y kl).length e2)).ownsRow w.heap.size 88 6 (.slice a2 (Jd L m o y kl).length e2) (Jd L m o y kl).length (liV (Jd L m o y kl))) := JF hE hpl
   have HG5 : Hid (w.grownBy (wr.setCell ⟨p, 2, none⟩ (.slice a2 (Jd L m o y kl).length e2)) (some p)) := by
    refine ⟨hbel.os, hbel.tape, hbel.output, by simpa [World.setCell] using hbel.size, fun j hj hne => ?_⟩
    rw [Below.heap_setCell wr _ _ j (fun e => hne (by rw [e]))]
    exact hbel.block j hj
   clear HOW hE hkn hbel
   go_wp2
   go_end0
   exact ⟨rfl, a2, e2, HR.out, HO5.out, HG5.out⟩
end Go.Proofs.YtepfinenocpneaaGreat
