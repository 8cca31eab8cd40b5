/- The dots that one knowledge has and another has not, as the program lists them. -/
import Derived.Test.YtpojipiagnbgjaaKKnows
import Derived.Maps.AppendAt
import Derived.Laws.StructEq
namespace Go.Proofs.Ytpojipiagnbgjaa
open Go.RowKit

/-- One of three. -/
def at3 (a b c : Int) : Nat → Int
  | 0 => a
  | 1 => b
  | _ => c

set_option maxHeartbeats 800000 in
theorem last_calls (a b c : Int) (i : Nat) (hi : i < 3) (w : World) :
    Calls Try.prog 58 #[arr a b c, .int .i64 (i : Int)] w fun r w' => r = .returned (dot i (at3 a b c i)) ∧ Below w.heap.size w w' := by
  unfold arr
  have hc : i = 0 ∨ i = 1 ∨ i = 2 := by omega
  rcases hc with rfl | rfl | rfl
  all_goals
    go_enter Try.func58, Try.ntmps58
    go_wp2
    exact bodyPost_ret (ret_dot rfl rfl (dotAt_new _ _ _ (by simp))) rfl ⟨rfl, ((Below.refl _ _).alloc (Nat.le_refl _) _).alloc (by simp) _⟩

/-- k dots of one replica from behind x on; the cells of dots. -/
def dotsN (i x : Int) (k : Nat) : List (Int × Int) := (List.range k).map fun (j : Nat) => (i, x + 1 + (j : Int))
def dotsOf (i x y : Int) : List (Int × Int) := dotsN i x (y - x).toNat
theorem dotsN_succ (i x : Int) (k : Nat) : dotsN i x (k + 1) = dotsN i x k ++ [(i, x + 1 + (k : Int))] := by simp [dotsN, List.range_succ]
theorem dotsN_len (i x : Int) (k : Nat) : (dotsN i x k).length = k := by simp [dotsN]
def dotV (l : List (Int × Int)) : List Value := l.flatMap fun p => [Value.int .i64 p.1, Value.int .i64 p.2]
theorem dotV_app (l m : List (Int × Int)) : dotV (l ++ m) = dotV l ++ dotV m := by simp [dotV]
theorem dotV_one (i x : Int) : dotV [(i, x)] = [Value.int .i64 i, Value.int .i64 x] := rfl
/-- The dots of the first j replicas. -/
def dotsTo (p q : Nat → Int) (j : Nat) : List (Int × Int) := (List.range j).flatMap fun (i : Nat) => dotsOf (i : Int) (p i) (q i)
theorem dotsTo_succ (p q : Nat → Int) (j : Nat) : dotsTo p q (j + 1) = dotsTo p q j ++ dotsOf j (p j) (q j) := by simp [dotsTo, List.range_succ]
theorem dotsTo_len (p q : Nat → Int) (hq : ∀ i, q i - p i ≤ 1000) (j : Nat) : (dotsTo p q j).length ≤ 1000 * j := by
  induction j with
  | zero => simp [dotsTo]
  | succ j ih =>
    rw [dotsTo_succ, List.length_append, dotsOf, dotsN_len]
    have := hq j
    omega

theorem infoDot : (Try.prog.info? 32).map (fun i => (i.zero, i.size, i.bytes)) = some (some (.agg #[.int .i64 0, .int .i64 0]), 2, 16) := by kernel_rfl
theorem dot_fields : Try.prog.underlying 32 = some (.struct (Try.prog.fieldsOf 32)) := by kernel_rfl
theorem dot_held : Try.prog.stoodInHeld 32 = false := by kernel_rfl
theorem dot_guard : Try.prog.eqGuardType Try.prog.depth 32 = false := by kernel_rfl
theorem eq_dot_run (r s r' s' : Int) (w : World) : (Op.equalIn 10000 32 (.agg #[.int .i64 r, .int .i64 s]) (.agg #[.int .i64 r', .int .i64 s'])).run Try.prog w = .ok (decide (r = r') && decide (s = s')) w := by
  rw [run_equalIn_struct w 9999 32 _ _ dot_fields dot_held]
  simp only [Program.fieldsOf, Try.underlying32]
  by_cases h1 : r = r' <;> by_cases h2 : s = s' <;> simp [Op.eqFields, go_sem, h1, h2]

theorem two_new (w : World) (x y : Value) (e : TypeId) : ∀ j u, [x, y][j]? = some u → (w.alloc (.cells #[x, y] e)).cell? (Addr.add ⟨w.heap.size, 0, none⟩ j) = some u := by
  intro j u hj
  match j, hj with
  | 0, hj => simp at hj; subst hj; simp [Addr.add]
  | 1, hj => simp at hj; subst hj; simp [Addr.add]

/-- A row of dots lies in no array's block. -/
theorem own_off {w : World} {B n g : Nat} {u : Value} {xs : List Value} {a b c : Int} (h : w.ownsRow B 32 2 u n xs) (hA : ArrAt w g a b c) : u.ownBlock ≠ some g := by
  intro e
  rcases h.2 with ⟨rfl, -⟩ | ⟨k, cap, cur, rfl, -, hk, -⟩
  · cases e
  · cases e
    rw [hA] at hk
    cases hk

/-- What the loops of lacks hold. -/
structure Lk (w wr : World) (u : Value) (l : List (Int × Int)) (g : Nat) (a b c d e f : Int) : Prop where
  own : wr.ownsRow w.heap.size 32 2 u l.length (dotV l)
  one : ArrAt wr w.heap.size a b c
  two : ArrAt wr g d e f
  below : Below w.heap.size w wr

theorem Lk.next {w wr w2 : World} {u : Value} {l : List (Int × Int)} {g : Nat} {a b c d e f : Int} (h : Lk w wr u l g a b c d e f) (hb : Below wr.heap.size wr w2) : Lk w w2 u l g a b c d e f := by
  refine ⟨h.own.kept (row := none) ⟨hb.os, hb.tape, hb.output, hb.size, fun k hk _ => hb.block k hk⟩ ?_, h.one.below hb h.one.lt, h.two.below hb h.two.lt, h.below.trans (hb.mono h.below.size)⟩
  cases hv : u.ownBlock with
  | none => exact .inl rfl
  | some k => exact .inr (by simp)
theorem Lk.alloc {w wr : World} {u : Value} {l : List (Int × Int)} {g : Nat} {a b c d e f : Int} (h : Lk w wr u l g a b c d e f) (o : Obj) : Lk w (wr.alloc o) u l g a b c d e f := h.next ((Below.refl _ _).alloc (Nat.le_refl _) o)
theorem Lk.cells {w wr : World} {u : Value} {l : List (Int × Int)} {g : Nat} {a b c d e f : Int} (h : Lk w wr u l g a b c d e f) : (wr.cell? ⟨w.heap.size, 0, none⟩ = some (.int .i64 a) ∧ wr.cell? ⟨w.heap.size, 1, none⟩ = some (.int .i64 b) ∧ wr.cell? ⟨w.heap.size, 2, none⟩ = some (.int .i64 c)) ∧ (wr.cell? ⟨g, 0, none⟩ = some (.int .i64 d) ∧ wr.cell? ⟨g, 1, none⟩ = some (.int .i64 e) ∧ wr.cell? ⟨g, 2, none⟩ = some (.int .i64 f)) :=
  ⟨⟨h.one.c0, h.one.c1, h.one.c2⟩, ⟨h.two.c0, h.two.c1, h.two.c2⟩⟩

theorem set_by (w : World) (b j : Nat) (x : Value) : w.grownBy (w.setCell ⟨b, j, none⟩ x) (some b) :=
  ⟨rfl, rfl, rfl, by simp, fun k _ hne => Below.heap_setCell w ⟨b, j, none⟩ x k (fun e => hne (by rw [e]))⟩
theorem DotAt.off {w : World} {g k : Nat} {r s a b c : Int} (h : DotAt w g r s) (hA : ArrAt w k a b c) : k ≠ g := by
  rintro rfl
  have h' : w.heap[k]? = _ := h
  rw [hA] at h'
  cases h'
theorem DotAt.grown {w w' : World} {g : Nat} {r s : Int} {row : Option Nat} (h : DotAt w g r s) (hg : w.grownBy w' row) (hne : row ≠ some g) : DotAt w' g r s :=
  (hg.block g h.lt (fun e => hne e.symm)).trans h
theorem ArrAt.grown {w w' : World} {g : Nat} {a b c : Int} {row : Option Nat} (h : ArrAt w g a b c) (hg : w.grownBy w' row) (hne : row ≠ some g) : ArrAt w' g a b c :=
  (hg.block g h.lt (fun e => hne e.symm)).trans h

theorem Lk.set {w wr : World} {u : Value} {l : List (Int × Int)} {g g9 : Nat} {a b c d e f r s : Int} (h : Lk w wr u l g a b c d e f) (hD : DotAt wr g9 r s) (hu : u.ownBlock ≠ some g9) (hg : w.heap.size ≤ g9) (j : Nat) (x : Value) : Lk w (wr.setCell ⟨g9, j, none⟩ x) u l g a b c d e f :=
  ⟨h.own.kept (set_by wr g9 j x) (.inr hu), h.one.other (p := ⟨g9, j, none⟩) (hD.off h.one) _, h.two.other (p := ⟨g9, j, none⟩) (hD.off h.two) _, h.below.setCell (p := ⟨g9, j, none⟩) hg _⟩

/-- One dot more: what the append leaves. -/
theorem Lk.more {w wr w2 : World} {u v : Value} {l : List (Int × Int)} {g : Nat} {a b c d e f i x : Int} (h : Lk w wr u l g a b c d e f) (hown : w2.ownsRow w.heap.size 32 2 v (l.length + 1) (dotV l ++ [Value.int .i64 i, Value.int .i64 x])) (hg : wr.grownBy w2 u.ownBlock) : Lk w w2 v (l ++ [(i, x)]) g a b c d e f := by
  refine ⟨?_, h.one.grown hg (own_off h.own h.one), h.two.grown hg (own_off h.own h.two), h.below.grown hg h.below.size (fun k hk => (h.own.lt k hk).1)⟩
  rw [dotV_app, dotV_one, List.length_append]
  exact hown

/-- What the inner loop holds. -/
structure In (w wr : World) (u : Value) (l : List (Int × Int)) (g g8 g9 : Nat) (a b c d e f i x y : Int) : Prop where
  lk : Lk w wr u l g a b c d e f
  cur : DotAt wr g9 i x
  stop : DotAt wr g8 i y
  ne : g9 ≠ g8
  off9 : u.ownBlock ≠ some g9
  off8 : u.ownBlock ≠ some g8
  le : w.heap.size ≤ g9
theorem In.set {w wr : World} {u : Value} {l : List (Int × Int)} {g g8 g9 : Nat} {a b c d e f i x y : Int} (h : In w wr u l g g8 g9 a b c d e f i x y) (z : Int) : In w (wr.setCell ⟨g9, 1, none⟩ (.int .i64 z)) u l g g8 g9 a b c d e f i z y :=
  ⟨h.lk.set h.cur h.off9 h.le 1 _, h.cur.set1 z, h.stop.other (p := ⟨g9, 1, none⟩) h.ne.symm _, h.ne, h.off9, h.off8, h.le⟩
theorem In.alloc {w wr : World} {u : Value} {l : List (Int × Int)} {g g8 g9 : Nat} {a b c d e f i x y : Int} (h : In w wr u l g g8 g9 a b c d e f i x y) (o : Obj) : In w (wr.alloc o) u l g g8 g9 a b c d e f i x y :=
  ⟨h.lk.alloc o, h.cur.alloc o, h.stop.alloc o, h.ne, h.off9, h.off8, h.le⟩
theorem In.more {w wr w2 : World} {u v : Value} {l : List (Int × Int)} {g g8 g9 : Nat} {a b c d e f i x y : Int} (h : In w wr u l g g8 g9 a b c d e f i x y) (hown : w2.ownsRow w.heap.size 32 2 v (l.length + 1) (dotV l ++ [Value.int .i64 i, Value.int .i64 x])) (hg : wr.grownBy w2 u.ownBlock) {M : Nat} (hM : M = wr.heap.size) (hat : v.ownBlock = u.ownBlock ∨ v.ownBlock = some M) : In w w2 v (l ++ [(i, x)]) g g8 g9 a b c d e f i x y := by
  have h9 := h.cur.lt
  have h8 := h.stop.lt
  refine ⟨h.lk.more hown hg, h.cur.grown hg h.off9, h.stop.grown hg h.off8, h.ne, ?_, ?_, h.le⟩
  · rcases hat with e | e <;> rw [e]
    · exact h.off9
    · intro h'; cases h'; omega
  · rcases hat with e | e <;> rw [e]
    · exact h.off8
    · intro h'; cases h'; omega
theorem In.fresh {w wr : World} {u : Value} {l : List (Int × Int)} {g g8 g9 : Nat} {a b c d e f i x y : Int} (h : In w wr u l g g8 g9 a b c d e f i x y) : In w (wr.alloc (.cells #[.int .i64 i, .int .i64 x] 32)) u l g g8 wr.heap.size a b c d e f i x y :=
  ⟨h.lk.alloc _, dotAt_new wr i x rfl, h.stop.alloc _, fun e => by have := h.stop.lt; omega, fun e => by have := (h.lk.own.lt _ e).2; omega, h.off8, h.lk.below.size⟩

set_option maxHeartbeats 3200000 in
theorem lacks_calls (a b c d e f : Int) (w : World) (ha : 0 ≤ a ∧ a ≤ 1000) (hb : 0 ≤ b ∧ b ≤ 1000) (hc : 0 ≤ c ∧ c ≤ 1000) (hd : 0 ≤ d ∧ d ≤ 1000) (he : 0 ≤ e ∧ e ≤ 1000) (hf : 0 ≤ f ∧ f ≤ 1000) :
    Calls Try.prog 49 #[arr a b c, arr d e f] w fun r w' => ∃ u, r = .returned u ∧ w'.ownsRow w.heap.size 32 2 u (dotsTo (at3 a b c) (at3 (mx a d) (mx b e) (mx c f)) 3).length (dotV (dotsTo (at3 a b c) (at3 (mx a d) (mx b e) (mx c f)) 3)) ∧ Below w.heap.size w w' := by
  obtain ⟨W, hW⟩ : ∃ W, W = ((w.alloc (.cells #[.int .i64 a, .int .i64 b, .int .i64 c] 53)).alloc (.cells #[.int .i64 d, .int .i64 e, .int .i64 f] 53)).alloc (.cells #[] 32) := ⟨_, rfl⟩
  have hT : Two w W a b c d e f := by
    rw [hW]
    exact ⟨((arrAt_new w a b c rfl).alloc _).alloc _, (arrAt_new _ d e f (by simp)).alloc _, (((Below.refl _ _).alloc (Nat.le_refl _) _).alloc (by simp) _).alloc (by simp; omega) _⟩
  have hO : W.ownsRow w.heap.size 32 2 (.slice (some ⟨w.heap.size + 1 + 1, 0, none⟩) 0 0) 0 [] := by
    rw [hW]; exact own_none _ _ _ (by simp) (by omega)
  have HW : Hid (((w.alloc (.cells #[.int .i64 a, .int .i64 b, .int .i64 c] 53)).alloc (.cells #[.int .i64 d, .int .i64 e, .int .i64 f] 53)).alloc (.cells #[] 32) = W) := hW.symm
  clear hW
  have HQ : Hid (∀ i, i < 3 → 0 ≤ at3 a b c i ∧ at3 a b c i ≤ at3 (mx a d) (mx b e) (mx c f) i ∧ at3 (mx a d) (mx b e) (mx c f) i ≤ 1000) := by
    intro i hi
    have h3 : i = 0 ∨ i = 1 ∨ i = 2 := by omega
    rcases h3 with rfl | rfl | rfl <;> (simp only [at3, mx]; split <;> omega)
  have HLEN : Hid (∀ j, (dotsTo (at3 a b c) (at3 (mx a d) (mx b e) (mx c f)) j).length ≤ 1000 * j) := by
    refine dotsTo_len _ _ ?_
    intro i
    match i with
    | 0 => simp only [at3, mx]; split <;> omega
    | 1 => simp only [at3, mx]; split <;> omega
    | _ + 2 => simp only [at3, mx]; split <;> omega
  obtain ⟨⟨c0, c1, c2⟩, d0, d1, d2⟩ := pair_cells (w := w) (w1 := W) ⟨hT.1, hT.2.1, hT.2.2, Nat.le_refl _⟩
  clear ha hb hc hd he hf
  have HT : Hid (Two w W a b c d e f) := hT
  have HO : Hid (W.ownsRow w.heap.size 32 2 (.slice (some ⟨w.heap.size + 1 + 1, 0, none⟩) 0 0) 0 []) := hO
  clear hT hO
  have HMC : Hid (∀ wx, Calls Try.prog 46 #[arr a b c, arr d e f] wx fun r w' => r = .returned (arr (mx a d) (mx b e) (mx c f)) ∧ Below wx.heap.size wx w') := fun wx => most_calls a b c d e f wx
  generalize mx a d = A at *
  generalize mx b e = B at *
  generalize mx c f = C at *
  obtain ⟨p, hp⟩ : ∃ p, p = at3 a b c := ⟨_, rfl⟩
  obtain ⟨q, hq⟩ : ∃ q, q = at3 A B C := ⟨_, rfl⟩
  rw [← hp, ← hq] at HQ HLEN ⊢
  have HP : Hid (at3 a b c = p) := hp.symm
  have HQQ : Hid (at3 A B C = q) := hq.symm
  clear hp hq
  obtain ⟨i0, hi, hz0, hz1, hz2⟩ := info_parts infoDot
  have hgd := dot_guard
  unfold arr
  go_enter Try.func49, Try.ntmps49
  go_wp2_with fail
  rw [HW.out]
  refine (HMC.out W).mono ?_
  rintro r w1 ⟨rfl, hb1⟩
  unfold arr
  have hL : Lk w (w1.alloc (.cells #[.int .i64 A, .int .i64 B, .int .i64 C] 53)) (.slice (some ⟨w.heap.size + 1 + 1, 0, none⟩) 0 0) (dotsTo p q 0) w1.heap.size a b c A B C := by
    have hT1 := HT.out.next hb1
    refine ⟨?_, hT1.1.alloc _, arrAt_new w1 A B C rfl, hT1.2.2.alloc hT1.2.2.size _⟩
    exact (HO.out.kept (row := none) ⟨hb1.os, hb1.tape, hb1.output, hb1.size, fun k hk _ => hb1.block k hk⟩ (.inr (by simp [Value.ownBlock]))).alloc _
  have HL0 : Hid (Lk w (w1.alloc (.cells #[.int .i64 A, .int .i64 B, .int .i64 C] 53)) (.slice (some ⟨w.heap.size + 1 + 1, 0, none⟩) 0 0) (dotsTo p q 0) w1.heap.size a b c A B C) := hL
  clear hb1 hL c0 c1 c2 d0 d1 d2 HT HO HMC HW
  go_wp2
  go_loopw [5, 14] (fun u z wr => ∃ j : Nat, j ≤ 3 ∧ z = .int .i64 j ∧ Lk w wr u (dotsTo p q j) w1.heap.size a b c A B C) (fun _ z _ => 3 - (intOf z).toNat)
  case atStart => exact ⟨0, Nat.zero_le _, rfl, HL0.out⟩
  case round =>
    clear HL0
    obtain ⟨j, hj, rfl, hL⟩ := hrel
    have HL : Hid (Lk w wr u5 (dotsTo p q j) w1.heap.size a b c A B C) := hL
    obtain ⟨⟨c0, c1, c2⟩, d0, d1, d2⟩ := hL.cells
    clear hL
    by_cases hlt : j < 3
    · have hj1 : (j : Int) < 3 := by omega
      go_wp2_with fail
      refine (last_calls A B C j hlt wr).mono ?_
      rw [HQQ.out]
      rintro r w2 ⟨rfl, hb2⟩
      unfold dot
      have HL2 : Hid (Lk w (w2.alloc (.cells #[.int .i64 (j : Int), .int .i64 (q j)] 32)) u5 (dotsTo p q j) w1.heap.size a b c A B C) := (HL.out.next hb2).alloc _
      have HE2 : Hid (DotAt (w2.alloc (.cells #[.int .i64 (j : Int), .int .i64 (q j)] 32)) w2.heap.size (j : Int) (q j)) := dotAt_new w2 _ _ rfl
      have HU2 : Hid (u5.ownBlock ≠ some w2.heap.size) := fun h => by have := ((HL.out.next hb2).own.lt _ h).2; omega
      obtain ⟨⟨e0, e1, e2⟩, -⟩ := HL2.out.cells
      clear c0 c1 c2 d0 d1 d2 hb2
      go_wp2_with fail
      refine (last_calls a b c j hlt _).mono ?_
      rw [HP.out]
      rintro r w3 ⟨rfl, hb3⟩
      unfold dot
      have HL3 : Hid (Lk w (w3.alloc (.cells #[.int .i64 (j : Int), .int .i64 (p j)] 32)) u5 (dotsTo p q j) w1.heap.size a b c A B C) := (HL2.out.next hb3).alloc _
      have HE3 : Hid (DotAt (w3.alloc (.cells #[.int .i64 (j : Int), .int .i64 (p j)] 32)) w2.heap.size (j : Int) (q j)) := (HE2.out.below hb3 HE2.out.lt).alloc _
      have HD3 : Hid (DotAt (w3.alloc (.cells #[.int .i64 (j : Int), .int .i64 (p j)] 32)) w3.heap.size (j : Int) (p j)) := dotAt_new w3 _ _ rfl
      have HU3 : Hid (u5.ownBlock ≠ some w3.heap.size) := fun h => by have := ((HL2.out.next hb3).own.lt _ h).2; omega
      have HN3 : Hid (w3.heap.size ≠ w2.heap.size) := fun h => by have := (HE2.out.below hb3 HE2.out.lt).lt; omega
      have hcn := HQ.out j hlt
      obtain ⟨cnt, hcnt⟩ : ∃ cnt : Nat, (cnt : Int) = q j - p j := ⟨(q j - p j).toNat, by omega⟩
      have HDO : Hid (dotsTo p q (j + 1) = dotsTo p q j ++ dotsN (j : Int) (p j) cnt) := by
        show _ = _
        rw [dotsTo_succ, dotsOf]
        have : (q j - p j).toNat = cnt := by omega
        rw [this]
      have hlen := HLEN.out j
      generalize p j = pj at *
      generalize q j = qj at *
      generalize dotsTo p q j = pre at *
      have HI : Hid (In w (w3.alloc (.cells #[.int .i64 (j : Int), .int .i64 pj] 32)) u5 (pre ++ dotsN (j : Int) pj 0) w1.heap.size w2.heap.size w3.heap.size a b c A B C (j : Int) (pj + (0 : Nat)) qj) := by
        have e1 : pre ++ dotsN (j : Int) pj 0 = pre := by simp [dotsN]
        have e2 : pj + ((0 : Nat) : Int) = pj := by simp
        show In _ _ _ _ _ _ _ _ _ _ _ _ _ _ _ _
        rw [e1, e2]
        exact ⟨HL3.out, HD3.out, HE3.out, HN3.out, HU3.out, HU2.out, by have := HL2.out.below.size; have := hb3.size; omega⟩
      have HLE : Hid (pre.length + cnt ≤ 4000) := by show _ ≤ _; omega
      clear e0 e1 e2 hb3 HL2 HE2 HU2 HL3 HD3 HE3 HN3 HU3 HL hlen
      go_wp2
      go_loopg [5, 9] cnt (fun gg u x wr => ∃ k g9 : Nat, k + gg = cnt ∧ x = .pointer (some ⟨g9, 0, none⟩) ∧ In w wr u (pre ++ dotsN (j : Int) pj k) w1.heap.size w2.heap.size g9 a b c A B C (j : Int) (pj + k) qj)
      case atStart => exact ⟨0, w3.heap.size, by omega, rfl, HI.out⟩
      case round =>
        clear HI
        obtain ⟨k, g9, hk, rfl, hI⟩ := hrel
        have hl1 : (pre ++ dotsN (j : Int) pj k).length + 1 ≤ 4001 := by rw [List.length_append, dotsN_len]; have := HLE.out; omega
        have HS : Hid (pre ++ dotsN (j : Int) pj (k + 1) = (pre ++ dotsN (j : Int) pj k) ++ [((j : Int), pj + k + 1)]) := by
          show _ = _
          rw [dotsN_succ, List.append_assoc, show pj + 1 + (k : Int) = pj + k + 1 by omega]
        obtain ⟨s, hs⟩ : ∃ s, s = pj + (k : Int) := ⟨_, rfl⟩
        by_cases hlt2 : k < cnt
        · have heq : ∀ wx, (Op.equalIn 10000 32 (.agg #[.int .i64 (j : Int), .int .i64 s]) (.agg #[.int .i64 (j : Int), .int .i64 qj])).run Try.prog wx = .ok false wx := by
            intro wx
            rw [eq_dot_run]
            have : ¬ s = qj := by omega
            simp [this]
          have hwr : IntKind.i64.wrap (s + 1) = s + 1 := by rw [IntKind.wrap_i64]; omega
          have HK : Hid (pj + ((k + 1 : Nat) : Int) = s + 1) := by show _ = _; omega
          have HGK : Hid (k + 1 + (gk - 1) = cnt ∧ gk - 1 < gk) := ⟨by omega, by omega⟩
          rw [← hs] at hI HS
          generalize pre ++ dotsN (j : Int) pj k = L at *
          have c0 := hI.cur.c0
          have c1 := hI.cur.c1
          have f1 := hI.cur.free 1
          have e0 := hI.stop.c0
          have e1 := hI.stop.c1
          have HI : Hid (In w (wr.setCell ⟨g9, 1, none⟩ (.int .i64 (s + 1))) u5 L w1.heap.size w2.heap.size g9 a b c A B C (j : Int) (s + 1) qj) := hI.set _
          have HIA : Hid (In w ((wr.setCell ⟨g9, 1, none⟩ (.int .i64 (s + 1))).alloc (.cells #[.int .i64 (j : Int), .int .i64 (s + 1)] 32)) u5 L w1.heap.size w2.heap.size g9 a b c A B C (j : Int) (s + 1) qj) := HI.out.alloc _
          have HN : Hid (∀ j' u, [Value.int .i64 (j : Int), Value.int .i64 (s + 1)][j']? = some u → ((wr.setCell ⟨g9, 1, none⟩ (.int .i64 (s + 1))).alloc (.cells #[.int .i64 (j : Int), .int .i64 (s + 1)] 32)).cell? (Addr.add ⟨wr.heap.size, 0, none⟩ j') = some u) := by
            have h := two_new (wr.setCell ⟨g9, 1, none⟩ (.int .i64 (s + 1))) (.int .i64 (j : Int)) (.int .i64 (s + 1)) 32
            rw [show (wr.setCell ⟨g9, 1, none⟩ (.int .i64 (s + 1))).heap.size = wr.heap.size by simp] at h
            exact h
          have HB0 : Hid (w.heap.size ≤ ((wr.setCell ⟨g9, 1, none⟩ (.int .i64 (s + 1))).alloc (.cells #[.int .i64 (j : Int), .int .i64 (s + 1)] 32)).heap.size) := HIA.out.lk.below.size
          clear hs hI hk hcn hcnt
          go_wp2_with (at_builtin; refine wpList_append_own_at _ rfl _ _ 28 rfl w.heap.size 32 i0 (.agg #[.int .i64 0, .int .i64 0]) 2 16 Try.underlying28 hi hz0 hz1 hz2 rfl (by decide) _ _ _ rfl HIA.out.lk.own ⟨wr.heap.size, 0, none⟩ 1 1 [Value.int .i64 (j : Int), Value.int .i64 (s + 1)] rfl rfl HN.out (by intro u' hu'; simp at hu'; rcases hu' with rfl | rfl <;> rfl) (by unfold maxLen; omega) (by omega) HB0.out ?_)
          intro v2 w4 hown2 hgrow hnil hat
          have hI4 := HIA.out.more hown2 hgrow (by simp) hat
          have HI5 : Hid (In w (w4.alloc (.cells #[.int .i64 (j : Int), .int .i64 (s + 1)] 32)) v2 (L ++ [((j : Int), s + 1)]) w1.heap.size w2.heap.size w4.heap.size a b c A B C (j : Int) (s + 1) qj) := hI4.fresh
          have g0 := hI4.cur.c0
          have g1 := hI4.cur.c1
          clear hown2 hgrow hnil hat hI4 HI HIA HN HB0 c0 c1 f1 e0 e1 heq
          go_wp2
          go_roundg (gk - 1)
          case measure => exact HGK.out.2
          case rel => exact ⟨k + 1, w4.heap.size, HGK.out.1, rfl, by rw [HS.out, HK.out]; exact HI5.out⟩
        · have heq : ∀ wx, (Op.equalIn 10000 32 (.agg #[.int .i64 (j : Int), .int .i64 s]) (.agg #[.int .i64 (j : Int), .int .i64 qj])).run Try.prog wx = .ok true wx := by
            intro wx
            rw [eq_dot_run]
            have : s = qj := by omega
            simp [this]
          have hkc : k = cnt := by omega
          rw [hkc, ← HDO.out] at hI
          rw [hkc] at hs
          rw [← hs] at hI
          have c0 := hI.cur.c0
          have c1 := hI.cur.c1
          have e0 := hI.stop.c0
          have e1 := hI.stop.c1
          have HI : Hid (Lk w wr u5 (dotsTo p q (j + 1)) w1.heap.size a b c A B C) := hI.lk
          clear hs hI hk hcn hcnt hkc HS
          go_wp2
          go_roundw
          case rel => exact ⟨j + 1, by omega, by go_num, HI.out⟩
          case measure => simp [intOf]; omega
    · have hj1 : ¬ ((j : Int) < 3) := by omega
      obtain rfl : j = 3 := by omega
      go_wp2
      go_ret
      exact ⟨_, rfl, HL.out.own, HL.out.below⟩

/-- All dots that one has and the other has not. -/
def dots (l m : List Int) : List (Int × Int) := if KOk l ∧ KOk m then dotsTo (fun i => l.getD i 0) (fun i => m.getD i 0) 3 else []

theorem dotsOf_mx (i x y : Int) : dotsOf i x (mx x y) = dotsOf i x y := by
  unfold dotsOf mx
  by_cases h : x < y
  · rw [if_pos h]
  · rw [if_neg h, show (x - x).toNat = 0 by omega, show (y - x).toNat = 0 by omega]
theorem dots_ok {l m : List Int} {a b c d e f : Int} (h1 : KOk l) (h2 : KOk m) (e1 : l = [a, b, c]) (e2 : m = [d, e, f]) : dots l m = dotsTo (at3 a b c) (at3 (mx a d) (mx b e) (mx c f)) 3 := by
  unfold dots
  rw [if_pos ⟨h1, h2⟩]
  subst e1 e2
  simp [dotsTo, List.range, List.range.loop, at3, dotsOf_mx]

set_option maxHeartbeats 1600000 in
theorem dotsIn_calls (l m : List Int) (u v : Value) (w : World) (hl : IntsAt w u l) (hm : IntsAt w v m) :
    Calls Try.prog 16 #[u, v] w fun r w' => ∃ x, r = .returned x ∧ w'.ownsRow w.heap.size 32 2 x (dots l m).length (dotV (dots l m)) ∧ Below w.heap.size w w' := by
  have HL : Hid (IntsAt w u l) := hl
  have HM : Hid (IntsAt w v m) := hm
  clear hl hm
  cases hq : (decide (KOk l) && decide (KOk m))
  · have hk : dots l m = [] := by
      unfold dots; rw [if_neg]; rintro ⟨h1, h2⟩; simp [h1, h2] at hq
    rw [hk]
    clear hk
    go_enter Try.func16, Try.ntmps16
    go_wp2_with fail
    refine (both_calls l m u v w HL.out HM.out).mono ?_
    rw [hq]
    rintro r w1 ⟨a, b, c, d, e, f, rfl, hla, hmd, hb1⟩
    unfold arr
    have hP := (pair_new hb1 a b c d e f).end0 (by simp) 32 2
    clear hb1
    go_wp2
    go_ret
    exact ⟨_, rfl, hP.1, hP.2⟩
  · have hk1 : KOk l := by cases h : decide (KOk l) <;> simp [h] at hq; exact of_decide_eq_true h
    have hk2 : KOk m := by cases h : decide (KOk m) <;> simp [h] at hq; exact of_decide_eq_true h
    have HK1 : Hid (KOk l) := hk1
    have HK2 : Hid (KOk m) := hk2
    clear hk1 hk2
    go_enter Try.func16, Try.ntmps16
    go_wp2_with fail
    refine (both_calls l m u v w HL.out HM.out).mono ?_
    rw [hq]
    rintro r w1 ⟨a, b, c, d, e, f, rfl, hla, hmd, hb1⟩
    unfold arr
    have hP := pair_new hb1 a b c d e f
    have HP : Hid (Pair w _ _ a b c d e f) := hP
    obtain ⟨⟨c0, c1, c2⟩, d0, d1, d2⟩ := pair_cells hP
    have HD : Hid (dots l m = dotsTo (at3 a b c) (at3 (mx a d) (mx b e) (mx c f)) 3) := dots_ok HK1.out HK2.out (hla.out HK1.out) (hmd.out HK2.out)
    have HLC : Hid (∀ wx, Calls Try.prog 49 #[.agg #[.int .i64 a, .int .i64 b, .int .i64 c], .agg #[.int .i64 d, .int .i64 e, .int .i64 f]] wx fun r w' => ∃ u, r = .returned u ∧ w'.ownsRow wx.heap.size 32 2 u (dots l m).length (dotV (dots l m)) ∧ Below wx.heap.size wx w') := by
      intro wx
      rw [HD.out]
      have h1 := HK1.out.2
      rw [hla.out HK1.out] at h1
      have h2 := HK2.out.2
      rw [hmd.out HK2.out] at h2
      exact lacks_calls a b c d e f wx (h1 a (by simp)) (h1 b (by simp)) (h1 c (by simp)) (h2 d (by simp)) (h2 e (by simp)) (h2 f (by simp))
    clear hb1 hP
    go_wp2_with fail
    refine (HLC.out _).mono ?_
    rintro r w2 ⟨x, rfl, ho2, hb2⟩
    have HB2 : Hid (Below w.heap.size w w2) := HP.out.2.2.1.trans (hb2.mono HP.out.2.2.1.size)
    have HO2 : Hid (w2.ownsRow w.heap.size 32 2 x (dots l m).length (dotV (dots l m))) := own_base ho2 HP.out.2.2.1.size
    clear hb2 ho2
    go_wp2
    go_ret
    exact ⟨_, rfl, HO2.out, HB2.out⟩

end Go.Proofs.Ytpojipiagnbgjaa
