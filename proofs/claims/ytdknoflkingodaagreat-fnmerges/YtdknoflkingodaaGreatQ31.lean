/- What an edit becomes: its place, its act; a right state stay. -/
import Derived.Test.YtdknoflkingodaaGreatQ25
import Derived.Test.YtdknoflkingodaaGreatQ30
set_option maxHeartbeats 16000000
namespace Go.Proofs.YtdknoflkingodaaGreat
open Value (int)
open IntKind (i64)
set_option maxRecDepth 100000
set_option linter.unusedVariables false
theorem Jbn {S : Sta} (A : Ac) (h : SOk S) : SOk (Jv S A) := by
 unfold Jv
 by_cases hc : Zk S A = 0
 ·rw [if_pos hc]
  unfold Zk at hc
  by_cases h1 : SOk S ∧ AOk A
  ·rw [if_neg (by simpa using h1)] at hc
   by_cases h2 : Jd S.l A.r A.s = true
   ·rw [if_pos h2] at hc; cases hc
   rw [if_neg h2] at hc
   by_cases h3 : kin A.l S.l = false
   ·rw [if_pos h3] at hc; cases hc
   rw [if_neg h3] at hc
   by_cases h4 : ¬ JU S A
   ·rw [if_pos h4] at hc; cases hc
   rw [if_neg h4] at hc
   by_cases h5 : 120 < (doS S A).T.length ∨ 120 < (doS S A).L.length ∨ 120 < (doS S A).C.length
   ·rw [if_pos h5] at hc; cases hc
   exact SOk.step h h1.2 (by simpa using h2) (Classical.not_not.1 h4) ⟨by omega, by omega, by omega⟩
  ·rw [if_pos (by simpa using h1)] at hc; cases hc
 ·rw [if_neg hc]; exact h
structure Bnd (m : Nat) (S : Sta) : Prop where
 T : S.T.length ≤ m
 L : S.L.length ≤ m
 C : S.C.length ≤ m
 l : ∀ x ∈ S.l, x ≤ (m : Int)
 t : ∀ c ∈ S.C, c.t ≤ 2 * (m : Int)
theorem Bnd.mono {m m' : Nat} {S : Sta} (h : Bnd m S) (hm : m ≤ m') : Bnd m' S :=
 ⟨Nat.le_trans h.T hm, Nat.le_trans h.L hm, Nat.le_trans h.C hm, fun x hx => by have := h.l x hx; omega, fun c hc => by have := h.t c hc; omega⟩
theorem Jbo (T : List Ta) (o : ByteArray) (r v : Int) : (JA T o r v).length ≤ T.length + 1 := by
 unfold JA
 split
 ·split <;> simp
 ·rw [JaC]; omega
theorem Je9 {m : Nat} {S : Sta} {A : Ac} (h : Bnd m S) (hs : A.s ≤ (m : Int) + 1) (ht : A.t ≤ 2 * (m : Int) + 2) : Bnd (m + 1) (doS S A) := by
 have hl : ∀ x ∈ S.l.set A.r.toNat A.s, x ≤ ((m + 1 : Nat) : Int) := fun x hx => by
  rcases List.mem_or_eq_of_mem_set hx with e | e
  ·have := h.l x e; omega
  ·subst e; omega
 have h1 := h.T
 have h2 := h.L
 have h3 := h.C
 have h4 : ∀ c ∈ S.C, c.t ≤ 2 * ((m + 1 : Nat) : Int) := fun c hc => by have := h.t c hc; omega
 have hp : ∀ (x : Li) (l : List Li), (ZI x l).length = l.length + 1 := fun x l => JaC _ _ _
 have hc : ∀ mp, (Je S.L mp A.o A.y A.l).length ≤ S.L.length := fun mp => List.length_filter_le _ _
 unfold doS
 split
 ·exact ⟨Nat.le_trans (Jbo _ _ _ _) (by omega), by show S.L.length ≤ _; omega, by show S.C.length ≤ _; omega, hl, h4⟩
 split
 ·exact ⟨by show S.T.length ≤ _; omega, by show (ZI _ _).length ≤ _; rw [hp]; omega, by show S.C.length ≤ _; omega, hl, h4⟩
 split
 ·exact ⟨by show S.T.length ≤ _; omega, by show (Je _ _ _ _ _).length ≤ _; have := hc false; omega, by show S.C.length ≤ _; omega, hl, h4⟩
 split
 ·exact ⟨by show S.T.length ≤ _; omega, by show (ZI _ _).length ≤ _; rw [hp]; have := hc true; omega, by show S.C.length ≤ _; omega, hl, h4⟩
 split
 ·exact ⟨by show S.T.length ≤ _; omega, by show (Je _ _ _ _ _).length ≤ _; have := hc true; omega, by show S.C.length ≤ _; omega, hl, h4⟩
 split
 ·refine ⟨by show S.T.length ≤ _; omega, by show S.L.length ≤ _; omega, by show (UA _ _).length ≤ _; unfold UA; rw [JaC]; omega, hl, fun c hcm => ?_⟩
  rcases (Zr _ _ _ c).1 hcm with e | e
  ·subst e; show A.t ≤ _; omega
  ·exact h4 c e
 ·refine ⟨by show S.T.length ≤ _; omega, by show S.L.length ≤ _; omega, by show (ZB _ _).length ≤ _; rw [YS]; omega, hl, fun c hcm => ?_⟩
  obtain ⟨b, hb, e⟩ := GI _ _ c hcm
  rw [e.2.2.2.1]; exact h4 b hb
theorem Yu {m : Nat} {S : Sta} {A : Ac} (h : Bnd m S) (hs : A.s ≤ (m : Int) + 1) (ht : A.t ≤ 2 * (m : Int) + 2) : Bnd (m + 1) (Jv S A) := by
 unfold Jv
 by_cases hc : Zk S A = 0
 ·rw [if_pos hc]; exact Je9 h hs ht
 ·rw [if_neg hc]; exact h.mono (by omega)
theorem GB {C : List Ce} {b : Int} (h0 : 0 ≤ b) (h : ∀ c ∈ C, c.t ≤ b) : JP C ≤ b := by
 suffices H : ∀ D : List Ce, (∀ c ∈ D, c.t ≤ b) → JP D.reverse ≤ b by
  have := H C.reverse (fun c hc => h c (by simpa using hc)); rwa [List.reverse_reverse] at this
 intro D
 induction D with
 | nil => intro _; exact h0
 | cons c D ih =>
  intro hD
  have h1 := ih (fun d hd => hD d (by simp [hd]))
  have h2 := hD c (by simp)
  rw [List.reverse_cons, Gf]
  split <;> omega
theorem YK (C : List Ce) : 0 ≤ JP C ∧ ∀ c ∈ C, c.t ≤ JP C := by
 suffices H : ∀ D : List Ce, 0 ≤ JP D.reverse ∧ ∀ c ∈ D.reverse, c.t ≤ JP D.reverse by
  have := H C.reverse; rwa [List.reverse_reverse] at this
 intro D
 induction D with
 | nil => exact ⟨Int.le_refl _, fun c hc => by simp at hc⟩
 | cons c D ih =>
  rw [List.reverse_cons, Gf]
  refine ⟨by split <;> omega, fun d hd => ?_⟩
  rcases List.mem_append.1 hd with e | e
  ·have := ih.2 d e; split <;> omega
  ·rw [List.mem_singleton] at e; subst e; split <;> omega
def ZX (L : List Ce) : List Ce := L.filter (fun c => !c.g)
open Classical in
noncomputable def Zc (S : Sta) (o : ByteArray) (i : Int) : Option Ce := if SOk S ∧ 0 ≤ i then (ZX (Jb3 S.C o))[i.toNat]? else none
theorem Jaz {S : Sta} {o : ByteArray} {i : Int} {c : Ce} (h : Zc S o i = some c) : c ∈ S.C ∧ c.o = o ∧ c.g = false := by
 unfold Zc at h
 split at h
 ·have h1 := List.mem_of_getElem? h
  unfold ZX at h1
  obtain ⟨h2, h3⟩ := List.mem_filter.1 h1
  have h4 := UK 10000 h2
  exact ⟨h4.1, h4.2, by simpa using h3⟩
 ·cases h
noncomputable def Zv (S : Sta) (k : Int) (o : ByteArray) (p : Int) : Option (Int × Int) :=
 if k = 7 then (Zc S o p).map (fun c => (c.r, c.s)) else if k = 6 ∧ 0 < p then (Zc S o (p - 1)).map (fun c => (c.r, c.s)) else some (0, 0)
open Classical in
noncomputable def JK (S : Sta) (r t k : Int) (o y : ByteArray) (v p : Int) : Int :=
 if ¬ (SOk S ∧ EOk k o y v p ∧ (0 ≤ r ∧ r ≤ 2) ∧ (1 ≤ t ∧ t ≤ 10000)) then 3 else if ¬ DOk r (S.l.getD r.toNat 0 + 1) then 3 else if Zv S k o p = none then 5 else 0
def JJ : Ac := ⟨0, 0, 0, 0, 0, 0, 0, ⟨#[]⟩, ⟨#[]⟩, []⟩
noncomputable def Jcf (S : Sta) (r t k : Int) (o y : ByteArray) (v p : Int) : Ac :=
 ⟨r, S.l.getD r.toNat 0 + 1, t, k, v, ((Zv S k o p).getD (0, 0)).1, ((Zv S k o p).getD (0, 0)).2, o, y, S.l⟩
noncomputable def JB (S : Sta) (r t k : Int) (o y : ByteArray) (v p : Int) : Ac := if JK S r t k o y v p = 0 then Jcf S r t k o y v p else JJ
theorem Jbd {S : Sta} {r t k : Int} {o y : ByteArray} {v p : Int} (h : JK S r t k o y v p = 0) : SOk S ∧ EOk k o y v p ∧ (0 ≤ r ∧ r ≤ 2) ∧ (1 ≤ t ∧ t ≤ 10000) ∧ DOk r (S.l.getD r.toNat 0 + 1) ∧ ∃ q, Zv S k o p = some q := by
 unfold JK at h
 split at h
 ·cases h
 rename_i h1
 split at h
 ·cases h
 rename_i h2
 split at h
 ·cases h
 rename_i h3
 have h1 := Classical.not_not.1 h1
 refine ⟨h1.1, h1.2.1, h1.2.2.1, h1.2.2.2, Classical.not_not.1 h2, ?_⟩
 cases e : Zv S k o p with
 | none => exact absurd e h3
 | some q => exact ⟨q, rfl⟩
theorem Jet {S : Sta} {k : Int} {o : ByteArray} {p : Int} {q : Int × Int} (hS : SOk S) (h : Zv S k o p = some q) : KN S.l k q.1 q.2 := by
 have key : ∀ i c, Zc S o i = some c → Jd S.l c.r c.s = true := fun i c hc => hS.cells c (Jaz hc).1
 unfold Zv at h
 unfold KN
 by_cases h7 : k = 7
 ·rw [if_pos h7] at h ⊢
  obtain ⟨c, hc, rfl⟩ := Option.map_eq_some_iff.1 h
  exact key _ _ hc
 rw [if_neg h7] at h ⊢
 by_cases h6 : k = 6
 ·rw [if_pos h6]
  by_cases hp : 0 < p
  ·rw [if_pos ⟨h6, hp⟩] at h
   obtain ⟨c, hc, rfl⟩ := Option.map_eq_some_iff.1 h
   exact .inr (key _ _ hc)
  ·rw [if_neg (fun e => hp e.2)] at h
   injection h with h; subst h; exact .inl ⟨rfl, rfl⟩
 ·rw [if_neg h6]
  rw [if_neg (fun e => h6 e.1)] at h
  injection h with h; subst h; exact ⟨rfl, rfl⟩
theorem Uo {S : Sta} {r t k : Int} {o y : ByteArray} {v p : Int} (h : JK S r t k o y v p = 0) : AOk (Jcf S r t k o y v p) := by
 obtain ⟨h1, h2, h3, h4, h5, q, h6⟩ := Jbd h
 refine ⟨h5, h1.1, ?_, h4, h2.1, ?_⟩
 ·show S.l.getD r.toNat 0 = S.l.getD r.toNat 0 + 1 - 1; omega
 ·unfold Jcf; rw [h6]; exact Jet h1 h6
open Go.RowKit
theorem Yh (S : Sta) (u0 u1 u2 u3 : Value) (o : ByteArray) (w : World) (hS : SOk S) (h : StAt w S u0 u1 u2 u3) :
  Calls Tryz.prog 194 #[.agg #[u0, u1, u2, u3], .string o] w fun e w' => ∃ v, e = .returned v ∧ w'.ownsRow w.heap.size 35 8 v (Jb3 S.C o).length (ceV (Jb3 S.C o)) ∧ Below w.heap.size w w' := by
 obtain ⟨a0, c0, a1, c1, a2, c2, a3, c3, rfl, rfl, rfl, rfl⟩ := h.shape
 obtain ⟨W, hW⟩ : ∃ W, W = (w.alloc (.cells #[.slice a0 S.l.length c0, .slice a1 S.T.length c1, .slice a2 S.L.length c2, .slice a3 S.C.length c3] 29)).alloc (.cells #[] 35) := ⟨_, rfl⟩
 have hb : Below w.heap.size w W := by rw [hW]; exact ((Below.refl _ _).alloc (Nat.le_refl _) _).alloc (by simp) _
 have hown : W.ownsRow w.heap.size 35 8 (.slice (some ⟨w.heap.size + 1, 0, none⟩) 0 0) ([] : List Ce).length (ceV []) := by rw [hW]; exact Jo (Jy _ 35 8 (by simp) (Nat.le_refl _)) (by simp)
 have hlen := hS.row_len o
 have hC := K9 S _ _ _ _ o w hS.small.2.2.2 hS.tree h 10000 0 0 0 (fun c hc _ _ => by have := hS.tree.tim c hc; omega) (by omega) [] _ W hb hown (by simp; unfold Jb3 at hlen; omega)
 rw [List.nil_append] at hC
 have HC := Ja hC
 have HB : Hid (∀ wx v', Grew W (.slice (some ⟨w.heap.size + 1, 0, none⟩) 0 0) wx v' → Below w.heap.size w wx) := fun wx v' hg => hb.trans (hg.below hb.size (fun j hj => by simp [Value.ownBlock] at hj; omega))
 have HW : Hid ((w.alloc (.cells #[.slice a0 S.l.length c0, .slice a1 S.T.length c1, .slice a2 S.L.length c2, .slice a3 S.C.length c3] 29)).alloc (.cells #[] 35) = W) := hW.symm
 clear hW hb hown hlen hC
 go_enter Tryz.func194, Tryz.ntmps194
 go_wp2_with fail
 rw [HW.out]
 refine HC.out.mono ?_
 rintro e w1 ⟨v', rfl, hown, hg⟩
 have HO := Ja hown
 have HBB := Ja (HB.out _ _ hg)
 clear hown hg HB HC HW
 go_wp2
 go_ret
 exact ⟨_, rfl, HO.out, HBB.out⟩
def GJ : Option Ce → Value
 | some c => .tuple #[.agg #[int i64 c.r, int i64 c.s], .bool true]
 | none => .tuple #[.agg #[int i64 0, int i64 0], .bool false]
theorem Ub {fn : Func} {q v : Tmp} (h : fn.results = #[.cell q 33, .tmp v]) {tmps : Array Value} {w : World} {g : Nat} {cs : Array Value} {x : Value} (hc : cs.size = 2) (hp : tmps.getD q undef = .pointer (some ⟨g, 0, none⟩)) (hv : tmps.getD v undef = x) (hg : Row w g cs 33) :
  (results fn tmps).run Tryz.prog w = .ok (.tuple #[.agg cs, x]) w := by
 rw [results_cell_tmp h, hp, hv]
 simp [asAddr, Result.andThen, run_loadVar_row w g 33 33 _ (0, 0) _ hg Tryz.underlying33 rfl (by rw [hc]; kernel_rfl)]
theorem Row.d0 {w : World} {g : Nat} {T : TypeId} {c0 c1 : Value} (h : Row w g #[c0, c1] T) (x : Value) : Row (w.setCell ⟨g, 0, none⟩ x) g #[x, c1] T := h.set 0 x
theorem Row.d1 {w : World} {g : Nat} {T : TypeId} {c0 c1 : Value} (h : Row w g #[c0, c1] T) (x : Value) : Row (w.setCell ⟨g, 1, none⟩ x) g #[c0, x] T := h.set 1 x
theorem Jb8 (L : List Ce) (k : Nat) (h : k < L.length) : ZX (L.drop k) = if L[k].g then ZX (L.drop (k + 1)) else L[k] :: ZX (L.drop (k + 1)) := by
 rw [List.drop_eq_getElem_cons h]
 unfold ZX
 cases hg : L[k].g <;> simp [List.filter, hg]
theorem Ks (S : Sta) (u0 u1 u2 u3 : Value) (o : ByteArray) (i : Int) (w : World) (hi64 : i ≤ 9223372036854775807) (hn : Small S) (hst : YU S) (h : StAt w S u0 u1 u2 u3) :
  Calls Tryz.prog 144 #[.agg #[u0, u1, u2, u3], .string o, int i64 i] w fun e w' => e = .returned (GJ (Zc S o i)) ∧ Below w.heap.size w w' := by
 obtain ⟨a0, c0, a1, c1, a2, c2, a3, c3, rfl, rfl, rfl, rfl⟩ := h.shape
 obtain ⟨W, hW⟩ : ∃ W, W = (w.alloc (.cells #[.slice a0 S.l.length c0, .slice a1 S.T.length c1, .slice a2 S.L.length c2, .slice a3 S.C.length c3] 29)).alloc (.cells #[int i64 0, int i64 0] 33) := ⟨_, rfl⟩
 have hB0 : Below w.heap.size w W := by rw [hW]; exact ((Below.refl _ _).alloc (Nat.le_refl _) _).alloc (by simp) _
 have hR1 : Row W w.heap.size #[.slice a0 S.l.length c0, .slice a1 S.T.length c1, .slice a2 S.L.length c2, .slice a3 S.C.length c3] 29 := by rw [hW]; exact (Jb w _ _ rfl).alloc _
 have hR2 : Row W (w.heap.size + 1) #[int i64 0, int i64 0] 33 := by rw [hW]; exact Jb _ _ _ (by simp)
 have HS : Hid (∀ wx, Below W.heap.size W wx → StAt wx S (.slice a0 S.l.length c0) (.slice a1 S.T.length c1) (.slice a2 S.L.length c2) (.slice a3 S.C.length c3)) := fun wx hb => h.below (hB0.trans (hb.mono hB0.size))
 have HR1 : Hid (∀ wx, Below W.heap.size W wx → Row wx w.heap.size #[.slice a0 S.l.length c0, .slice a1 S.T.length c1, .slice a2 S.L.length c2, .slice a3 S.C.length c3] 29) := fun wx hb => hR1.next hb
 have HR2 : Hid (∀ wx, Below W.heap.size W wx → Row wx (w.heap.size + 1) #[int i64 0, int i64 0] 33) := fun wx hb => hR2.next hb
 have HF : Hid (∀ wx, Below W.heap.size W wx → Below w.heap.size w wx) := fun wx hb => hB0.trans (hb.mono hB0.size)
 have HW : Hid ((w.alloc (.cells #[.slice a0 S.l.length c0, .slice a1 S.T.length c1, .slice a2 S.L.length c2, .slice a3 S.C.length c3] 29)).alloc (.cells #[int i64 0, int i64 0] 33) = W) := hW.symm
 have HSO := Ja (ZD S _ _ _ _ W hn hst (HS.out W (Below.refl _ _)))
 obtain ⟨PL, hPL⟩ : ∃ PL, PL = Zc S o i := ⟨_, rfl⟩
 rw [← hPL]
 obtain ⟨e0, e1, e2, e3⟩ := Row.four hR1
 rw [hW] at e0 e1 e2 e3
 clear hW hR1 hR2 hB0
 go_enter Tryz.func144, Tryz.ntmps144
 go_wp2_with fail
 rw [HW.out]
 refine HSO.out.mono ?_
 rintro e w1 ⟨⟨q, rfl, hq⟩, hb⟩
 clear HW HSO e0 e1 e2 e3
 have none_end : ∀ (wx : World), Below W.heap.size W wx → Hid (Row ((wx.setCell ⟨w.heap.size + 1, 0, none⟩ (int i64 0)).setCell ⟨w.heap.size + 1, 1, none⟩ (int i64 0)) (w.heap.size + 1) #[int i64 0, int i64 0] 33 ∧ Below w.heap.size w ((wx.setCell ⟨w.heap.size + 1, 0, none⟩ (int i64 0)).setCell ⟨w.heap.size + 1, 1, none⟩ (int i64 0))) := fun wx hb =>
  ⟨((HR2.out wx hb).d0 _).d1 _, ((HF.out wx hb).setCell (by simp) _).setCell (by simp) _⟩
 have HNE := Ja none_end
 clear none_end
 cases q with
 | false =>
  have HP : Hid (PL = none) := by
   show _ = _
   rw [hPL]; unfold Zc; rw [if_neg (fun h => by have := hq.2 h.1; cases this)]
  clear hq hPL
  have hr := HR2.out w1 hb
  have d0 := hr.cell 0 rfl
  have d1 := hr.cell 1 rfl
  have f0 := hr.free 0
  have f1 := hr.free 1
  have HE := HNE.out w1 hb
  clear hr
  go_wp2
  exact bodyPost_ret (Ub rfl rfl rfl rfl HE.out.1) rfl ⟨by rw [HP.out]; rfl, HE.out.2⟩
 | true =>
 have hS : SOk S := hq.1 rfl
 clear hq
 by_cases hi : i < 0
 ·have HP : Hid (PL = none) := by
   show _ = _
   rw [hPL]; unfold Zc; rw [if_neg (fun h => by omega)]
  clear hPL
  have hr := HR2.out w1 hb
  have d0 := hr.cell 0 rfl
  have d1 := hr.cell 1 rfl
  have f0 := hr.free 0
  have f1 := hr.free 1
  have HE := HNE.out w1 hb
  clear hr
  go_wp2
  exact bodyPost_ret (Ub rfl rfl rfl rfl HE.out.1) rfl ⟨by rw [HP.out]; rfl, HE.out.2⟩
 obtain ⟨m, rfl⟩ : ∃ m : Nat, i = m := Int.eq_ofNat_of_zero_le (by omega)
 obtain ⟨L, hL⟩ : ∃ L, L = Jb3 S.C o := ⟨_, rfl⟩
 have hP2 : PL = (ZX (L.drop 0))[m]? := by
  rw [hPL]; unfold Zc; rw [if_pos ⟨hS, by omega⟩, List.drop_zero, hL]; rfl
 have hlen := hS.row_len o
 have hRC := Yh S _ _ _ _ o w1 hS (HS.out w1 hb)
 rw [← hL] at hlen hRC
 have HRC := Ja hRC
 have HP2 := Ja hP2
 obtain ⟨e0, e1, e2, e3⟩ := Row.four (HR1.out w1 hb)
 clear hPL hRC hP2 hS hL
 go_wp2_with fail
 refine HRC.out.mono ?_
 rintro e w2 ⟨v, rfl, hown, hb2⟩
 have hb := hb.trans (hb2.mono hb.size)
 obtain ⟨aa, ca, rfl, hga⟩ := CeAt.own hown rfl
 have HGA : Hid (CeG w2 aa L) := hga
 obtain ⟨N, hN⟩ : ∃ N, N = L.length := ⟨_, rfl⟩
 have HL : Hid (N = L.length) := hN
 have HBE := Ja hb
 rw [← hN] at hlen ⊢
 clear hown hga hN HRC e0 e1 e2 e3 hb hb2 HS HR1
 go_wp2
 go_loopw [2, 9] (fun x z wr => ∃ k j : Nat, k ≤ N ∧ (j : Int) ≤ 9223372036854775807 ∧ z = int i64 k ∧ x = int i64 j ∧ PL = (ZX (L.drop k))[j]? ∧ wr = w2) (fun _ z _ => N - (intOf z).toNat)
 case atStart => exact ⟨0, m, Nat.zero_le _, hi64, rfl, rfl, HP2.out, rfl⟩
 case round =>
  clear HP2
  obtain ⟨k, j, hk, hj64, rfl, rfl, hpl, hw⟩ := hrel
  replace hw := hw.symm
  subst hw
  have HPL := Ja hpl
  clear hpl
  by_cases hlt : k < N
  ·have hkl : k < L.length := by rw [← HL.out]; exact hlt
   obtain ⟨g, f, rfl, hg, hcc⟩ := HGA.out (by omega)
   have hk1 : (k : Int) < N := by omega
   have hk0 : (0 : Int) ≤ k := by omega
   have q := hcc k hkl
   have HSC := Ja (Jb8 L k hkl)
   generalize L[k] = x at *
   unfold ceC at q
   obtain ⟨-, q1, q2, -, -, -, -, q7⟩ := q
   clear hcc hkl
   cases hgx : x.g with
   | true =>
    rw [hgx] at q7
    have HE : Hid (PL = (ZX (L.drop (k + 1)))[j]?) := by show _ = _; rw [HPL.out, HSC.out, if_pos hgx]
    clear hgx
    go_wp2
    go_roundw
    case rel => exact ⟨k + 1, j, by omega, by omega, by go_num, rfl, HE.out, by trivial⟩
    case measure => simp [intOf]; omega
   | false =>
    rw [hgx] at q7
    have HSD : Hid (ZX (L.drop k) = x :: ZX (L.drop (k + 1))) := by show _ = _; rw [HSC.out, if_neg (by rw [hgx]; simp)]
    clear hgx
    cases j with
    | zero =>
     have HE : Hid (PL = some x) := by show _ = _; rw [HPL.out, HSD.out]; rfl
     have hr := HR2.out w2 HBE.out
     have d0 := hr.cell 0 rfl
     have d1 := hr.cell 1 rfl
     have f0 := hr.free 0
     have f1 := hr.free 1
     have HRR := Ja ((hr.d0 (int i64 x.r)).d1 (int i64 x.s))
     have HBB : Hid (Below w.heap.size w ((w2.setCell ⟨w.heap.size + 1, 0, none⟩ (int i64 x.r)).setCell ⟨w.heap.size + 1, 1, none⟩ (int i64 x.s))) := ((HF.out w2 HBE.out).setCell (by simp) _).setCell (by simp) _
     clear hr
     go_wp2
     exact bodyPost_ret (Ub rfl rfl rfl rfl HRR.out) rfl ⟨by rw [HE.out]; rfl, HBB.out⟩
    | succ j =>
     have HE : Hid (PL = (ZX (L.drop (k + 1)))[j]?) := by show _ = _; rw [HPL.out, HSD.out]; rfl
     obtain ⟨J, hJ⟩ : ∃ J : Int, J = ((j + 1 : Nat) : Int) := ⟨_, rfl⟩
     have hj : ¬ (J = 0) := by omega
     have hj2 : (J == 0) = false := by simp; omega
     have hw : IntKind.i64.wrap (J - 1) = J - 1 := by rw [IntKind.wrap_i64] <;> omega
     have HJ : Hid (J - 1 = (j : Int)) := by show _ = _; omega
     rw [← hJ]
     rw [← hJ] at hj64
     clear hJ
     go_wp2
     go_roundw
     case rel => exact ⟨k + 1, j, by omega, by have := HJ.out; omega, by go_num, congrArg (Value.int .i64) HJ.out, HE.out, by trivial⟩
     case measure => simp [intOf]; omega
  ·have hk1 : ¬ ((k : Int) < N) := by omega
   have HP : Hid (PL = none) := by
    show _ = _
    have e : k = L.length := (by have h1 : N = L.length := HL.out; omega)
    rw [HPL.out, e, List.drop_length]; rfl
   have hr := HR2.out w2 HBE.out
   have d0 := hr.cell 0 rfl
   have d1 := hr.cell 1 rfl
   have f0 := hr.free 0
   have f1 := hr.free 1
   have HE := HNE.out w2 HBE.out
   clear hr
   go_wp2
   exact bodyPost_ret (Ub rfl rfl rfl rfl HE.out.1) rfl ⟨by rw [HP.out]; rfl, HE.out.2⟩
def IOk (S : Sta) : Prop := KOk S.l ∧ Jx taR JQ S.T ∧ Jx (liR S.l) J4 S.L ∧ Jx (ceR S.l) JF S.C ∧ (∀ i (h : i < S.C.length), ZV S.C S.C[i])
theorem Asc.imp {α : Type} {ok ok' : α → Prop} {lt : α → α → Prop} {l : List α} (h : Asc ok lt l) (f : ∀ a ∈ l, ok a → ok' a) : Asc ok' lt l := fun i hi => ⟨f _ (List.getElem_mem hi) (h i hi).1, (h i hi).2⟩
theorem UM {l : List Int} {r s : Int} (h : Jd l r s = true) : DOk r s := by
 unfold Jd at h
 simp only [Bool.and_eq_true, decide_eq_true_eq] at h
 exact h.1.2
theorem Vr {S : Sta} (hn : ∀ a ∈ S.T, NOk a.o) : IOk S ↔ SOk S := by
 constructor
 ·rintro ⟨h1, h2, h3, h4, h5⟩
  refine ⟨h1, ⟨h2.1, h2.2.imp fun a ha h => ⟨hn a ha, h⟩⟩, ⟨h3.1, h3.2.imp fun a ha h => ⟨UM h.1, h.2⟩⟩, ⟨h4.1, h4.2.imp fun a ha h => ⟨UM h.1, h.2.1, h.2.2.2, h.2.2.1, ?_⟩⟩, fun i hi => (h3.2 i hi).1.1, fun i hi => ⟨(h4.2 i hi).1.1, h5 i hi⟩⟩
  obtain ⟨i, hi, rfl⟩ := List.getElem_of_mem ha
  rcases h5 i hi with e | ⟨k, hk, e1, -, -⟩
  ·exact .inl e
  ·obtain ⟨e3, e4⟩ := Kg S.C _ _ 0 k hk (by omega) (by rw [e1]; omega)
   rw [← e3, ← e4]
   exact .inr (UM (h4.2 k hk).1.1)
 ·rintro ⟨h1, h2, h3, h4, h5, h6⟩
  refine ⟨h1, ⟨h2.1, h2.2.imp fun a ha h => h.2⟩, ⟨h3.1, h3.2.imp fun a ha h => ?_⟩, ⟨h4.1, h4.2.imp fun a ha h => ?_⟩, fun i hi => (h6 i hi).2⟩
  ·obtain ⟨i, hi, rfl⟩ := List.getElem_of_mem ha
   exact ⟨h5 i hi, h.2⟩
  ·obtain ⟨i, hi, rfl⟩ := List.getElem_of_mem ha
   exact ⟨(h6 i hi).1, h.2.1, h.2.2.2.1, h.2.2.1⟩
def Cut (C : List Ce) (r s : Int) (k : Nat) : Prop := (∀ i (h : i < C.length), i < k → Jn C[i].r C[i].s r s) ∧ (∀ i (h : i < C.length), k ≤ i → ¬ Jn C[i].r C[i].s r s)
theorem JdV {C : List Ce} (hp : C.Pairwise JF) {j k : Nat} (hj : j < C.length) (hk : k < C.length) (e : C[j].r = C[k].r ∧ C[j].s = C[k].s) : j = k := by
 rcases Nat.lt_trichotomy j k with h | h | h
 ·have h5 := List.pairwise_iff_getElem.1 hp j k hj hk h
  unfold JF Jn at h5; omega
 ·exact h
 ·have h5 := List.pairwise_iff_getElem.1 hp k j hk hj h
  unfold JF Jn at h5; omega
theorem JeV {C : List Ce} {r s : Int} {k : Nat} (hp : C.Pairwise JF) (hk : k < C.length) (e : C[k].r = r ∧ C[k].s = s) : cellAt C r s 0 = (k : Int) := by
 obtain ⟨j, hj, h1, h2⟩ := UJ C 0 C[k] hp (List.getElem_mem hk)
 have h3 := JdV hp hj hk ⟨by rw [h2], by rw [h2]⟩
 rw [e.1, e.2] at h1
 omega
theorem JbO {C : List Ce} {r s : Int} {k : Nat} (h : Cut C r s k) (e : ∀ (hk : k < C.length), ¬ (C[k].r = r ∧ C[k].s = s)) (hp : C.Pairwise JF) : ¬ ∃ j, ∃ hj : j < C.length, cellAt C r s 0 = (j : Int) := by
 rintro ⟨j, hj, h1⟩
 have e2 := Kg C r s 0 j hj (by omega) (by omega)
 have h3 : ¬ j < k := fun hjk => by
  have := h.1 j hj hjk
  rw [e2.1, e2.2] at this; unfold Jn at this; omega
 by_cases hjk : j = k
 ·subst hjk; exact e hj e2
 ·have hkl : k < C.length := by omega
  have h5 := List.pairwise_iff_getElem.1 hp k j hkl hj (by omega)
  have h6 := h.2 k hkl (Nat.le_refl _)
  unfold JF at h5
  rw [e2.1, e2.2] at h5
  exact h6 h5
abbrev kc0 : Oper := oq 5 (.load 35 (.tmp 2)) 35 "l06_state.go:88" #[] none
abbrev kc1 : Oper := oq 6 (.makeInterface 35 (.tmp 5)) 205 "l06_state.go:88" #[eD 0] none
abbrev kc2 : Oper := oq 7 (.call ⟨.value (.func 123), #[.tmp 6], #[205]⟩) 147 "l06_state.go:88" #[eD 1] none
abbrev kc3 : Oper := oq 8 (.load 147 (.tmp 3)) 147 "l06_state.go:88" #[] none
abbrev kc4 : Oper := oq 9 (.call ⟨.value (.func 124), #[.tmp 7, .tmp 8], #[147, 147]⟩) 3 "l06_state.go:88" #[eD 2, eD 3, eC 2] none
abbrev kc5 : Oper := oq 4 (.assign (.tmp 9)) 3 "l06_state.go:88" #[eD 4, eC 4, eP 0, eP 1, eP 2, eP 3, eP 4] none
abbrev ka0 : Oper := oq 24 (.move (.tmp 2)) 208 "sort.go:160" #[] none
abbrev ka1 : Oper := oq 25 (.move (.tmp 0)) 27 "sort.go:160" #[] none
abbrev ka2 : Oper := oq 26 (.move (.tmp 11)) 3 "sort.go:160" #[] none
abbrev ka3 : Oper := oq 27 (.indexAddr 27 (.tmp 25) (.tmp 26)) 0 "sort.go:160" #[eD 1, eD 2] none
abbrev ka4 : Oper := oq 28 (.load 35 (.tmp 27)) 35 "sort.go:160" #[eD 3] none
abbrev ka5 : Oper := oq 29 (.load 147 (.tmp 4)) 147 "sort.go:160" #[] none
abbrev ka6 : Oper := oq 30 (.call ⟨.value (.tmp 24), #[.tmp 28, .tmp 29], #[35, 147]⟩) 3 "sort.go:160" #[eD 0, eD 4, eD 5] none
abbrev ka7 : Oper := oq 31 (.binOp .lss 3 (.tmp 30) (.const (int i64 0)) 3) 4 "sort.go:160" #[eD 6] none
abbrev kb0 : Oper := oq 35 (.move (.tmp 9)) 3 "sort.go:167" #[] none
abbrev kb1 : Oper := oq 36 (.move (.tmp 9)) 3 "sort.go:167" #[] none
abbrev kb2 : Oper := oq 37 (.move (.tmp 8)) 3 "sort.go:167" #[] none
abbrev kb3 : Oper := oq 38 (.binOp .lss 3 (.tmp 36) (.tmp 37) 3) 4 "sort.go:167" #[eD 1, eD 2] none
abbrev kb4 : Oper := oq 39 (.move (.tmp 38)) 4 "sort.go:167" #[eD 3] none
abbrev kb5 : Oper := oq 40 (.move (.tmp 2)) 208 "sort.go:167" #[eG 4] (some (4, true))
abbrev kb6 : Oper := oq 41 (.move (.tmp 0)) 27 "sort.go:167" #[eG 4] (some (4, true))
abbrev kb7 : Oper := oq 42 (.move (.tmp 9)) 3 "sort.go:167" #[eG 4] (some (4, true))
abbrev kb8 : Oper := oq 43 (.indexAddr 27 (.tmp 41) (.tmp 42)) 0 "sort.go:167" #[eD 6, eD 7, eG 4] (some (4, true))
abbrev kb9 : Oper := oq 44 (.load 35 (.tmp 43)) 35 "sort.go:167" #[eD 8, eG 4] (some (4, true))
abbrev Jji : Oper := oq 45 (.load 147 (.tmp 4)) 147 "sort.go:167" #[eG 4] (some (4, true))
abbrev Jku : Oper := oq 46 (.call ⟨.value (.tmp 40), #[.tmp 44, .tmp 45], #[35, 147]⟩) 3 "sort.go:167" #[eD 5, eD 9, eD 10, eC 4, eG 4] (some (4, true))
abbrev JhL : Oper := oq 47 (.binOp .eql 3 (.tmp 46) (.const (int i64 0)) 3) 4 "sort.go:167" #[eD 11, eG 4, { on := 14, ground := .gcOnly .lateStores }] (some (4, true))
abbrev JgX : Oper := oq 48 (.pick (.tmp 39) (.tmp 47) (.const (.bool false))) 4 "sort.go:167" #[eD 4, eD 12, { on := 14, ground := .gcOnly .lateStores }] none
abbrev Jf1 : Oper := oq 6 (.assign (.tmp 35)) 3 "sort.go:167" #[eD 0, eC 11, eP 0, { on := 1, ground := .textOnly .lateStores }, { on := 2, ground := .textOnly .lateStores }, { on := 3, ground := .textOnly .lateStores }, { on := 4, ground := .textOnly .lateStores }, { on := 5, ground := .textOnly .lateStores }, { on := 6, ground := .textOnly .lateStores }, { on := 7, ground := .textOnly .lateStores }, { on := 8, ground := .textOnly .lateStores }, { on := 9, ground := .textOnly .lateStores }, { on := 10, ground := .textOnly .lateStores }, { on := 11, ground := .textOnly .lateStoresUnsure }, { on := 12, ground := .textOnly .lateStores }, { on := 13, ground := .textOnly .lateStores }] none
abbrev Jhp : Oper := oq 7 (.assign (.tmp 48)) 4 "sort.go:167" #[eD 13, eC 14, eP 0, eP 1, eP 2, eP 3, eP 4, eP 5, eP 6, eP 7, eP 8, eP 9, eP 10, eP 11, eP 12, eP 13, eP 14] none
theorem GU (x : Ce) (r s : Int) (w : World) :
  Calls Tryz.prog 177 #[.agg #[.string x.o, int i64 x.r, int i64 x.s, int i64 x.t, int i64 x.x, int i64 x.z, int i64 x.v, .bool x.g], .agg #[.string ⟨#[]⟩, int i64 r, int i64 s]] w fun e w' => e = .returned (int i64 (rkD x.r x.s r s)) ∧ Below w.heap.size w w' := by
 obtain ⟨WW, hWW⟩ : ∃ WW, WW = (w.alloc (.cells #[.string x.o, int i64 x.r, int i64 x.s, int i64 x.t, int i64 x.x, int i64 x.z, int i64 x.v, .bool x.g] 35)).alloc (.cells #[.string ⟨#[]⟩, int i64 r, int i64 s] 147) := ⟨_, rfl⟩
 have h1 : Row WW w.heap.size #[.string x.o, int i64 x.r, int i64 x.s, int i64 x.t, int i64 x.x, int i64 x.z, int i64 x.v, .bool x.g] 35 := by rw [hWW]; exact (Jb w _ _ rfl).alloc _
 have h2 : Row WW (w.heap.size + 1) #[.string ⟨#[]⟩, int i64 r, int i64 s] 147 := by rw [hWW]; exact Jb _ _ _ (by simp)
 have HBA : Hid (Below w.heap.size w WW) := by rw [hWW]; exact ((Below.refl _ _).alloc (Nat.le_refl _) _).alloc (by simp) _
 have HWW : Hid ((w.alloc (.cells #[.string x.o, int i64 x.r, int i64 x.s, int i64 x.t, int i64 x.x, int i64 x.z, int i64 x.v, .bool x.g] 35)).alloc (.cells #[.string ⟨#[]⟩, int i64 r, int i64 s] 147) = WW) := hWW.symm
 have HS : Hid (∀ wx, Below WW.heap.size WW wx → wx.cell? ⟨w.heap.size, 0, none⟩ = some (.string x.o) ∧ wx.cell? ⟨w.heap.size, 1, none⟩ = some (int i64 x.r) ∧ wx.cell? ⟨w.heap.size, 2, none⟩ = some (int i64 x.s) ∧ wx.cell? ⟨w.heap.size, 3, none⟩ = some (int i64 x.t) ∧ wx.cell? ⟨w.heap.size, 4, none⟩ = some (int i64 x.x) ∧ wx.cell? ⟨w.heap.size, 5, none⟩ = some (int i64 x.z) ∧ wx.cell? ⟨w.heap.size, 6, none⟩ = some (int i64 x.v) ∧ wx.cell? ⟨w.heap.size, 7, none⟩ = some (.bool x.g) ∧ wx.cell? ⟨w.heap.size + 1, 0, none⟩ = some (.string ⟨#[]⟩) ∧ wx.cell? ⟨w.heap.size + 1, 1, none⟩ = some (int i64 r) ∧ wx.cell? ⟨w.heap.size + 1, 2, none⟩ = some (int i64 s)) := fun wx h => ⟨(h1.next h).cell 0 rfl, (h1.next h).cell 1 rfl, (h1.next h).cell 2 rfl, (h1.next h).cell 3 rfl, (h1.next h).cell 4 rfl, (h1.next h).cell 5 rfl, (h1.next h).cell 6 rfl, (h1.next h).cell 7 rfl, (h2.next h).cell 0 rfl, (h2.next h).cell 1 rfl, (h2.next h).cell 2 rfl⟩
 obtain ⟨R, hR⟩ : ∃ R, R = rkD x.r x.s r s := ⟨_, rfl⟩
 have HK : Hid (∀ wx, Calls Tryz.prog 123 #[.iface 35 (.agg #[.string x.o, int i64 x.r, int i64 x.s, int i64 x.t, int i64 x.x, int i64 x.z, int i64 x.v, .bool x.g])] wx fun e w' => e = .returned (.agg #[.string ⟨#[]⟩, int i64 x.r, int i64 x.s]) ∧ Below wx.heap.size wx w') := fun wx => ZA x wx
 have HC : Hid (∀ wx, Calls Tryz.prog 124 #[.agg #[.string ⟨#[]⟩, int i64 x.r, int i64 x.s], .agg #[.string ⟨#[]⟩, int i64 r, int i64 s]] wx fun e w' => e = .returned (int i64 R) ∧ Below wx.heap.size wx w') := fun wx => by rw [hR]; exact JZ _ _ _ _ _ _ wx
 rw [← hR]
 have hBc : Below WW.heap.size WW WW := Below.refl _ _
 clear hWW h1 h2 hR
 go_enter Tryz.func177, Tryz.ntmps177
 go_wp2
 rw [HWW.out]
 clear HWW
 replace hBc := hBc.drew
 have hs := Ja (HS.out _ hBc)
 refine wph HS hBc 6 ?_
 refine tQ 0 kc0 ?_; refine tQ 1 kc1 ?_; refine tQ 3 kc3 ?_
 refine rd 2 kc2 (fun K hK => ?_)
 go_simp
 refine (HK.out _).mono ?_
 rintro e wn ⟨rfl, hbn⟩
 replace hBc := nx hBc hbn
 clear hbn
 try go_wp2_with fail
 replace hs := Ja (HS.out _ hBc)
 refine hK.out _ _ hs.out (fun hx => ?_)
 clear hx hK K
 try simp only [s1, s2, s3]
 clear HK
 refine rd 4 kc4 (fun K hK => ?_)
 go_simp
 refine (HC.out _).mono ?_
 rintro e wn ⟨rfl, hbn⟩
 replace hBc := nx hBc hbn
 clear hbn
 try go_wp2_with fail
 replace hs := Ja (HS.out _ hBc)
 refine hK.out _ _ hs.out (fun hx => ?_)
 clear hx hK K
 try simp only [s1, s2, s3]
 clear HC
 refine tQ 5 kc5 ?_
 refine wpd ?_
 have HBF := Ja (HBA.out.trans (hBc.mono HBA.out.size))
 clear hs hBc HS
 go_wp2
 go_ret
 exact ⟨rfl, HBF.out⟩
def Ja4 (e : Ending) (l : List Ce) (r s : Int) : Prop := ∃ (k : Nat) (b : Bool), e = .returned (.tuple #[int i64 k, .bool b]) ∧ (b = true → k < l.length ∧ cellAt l r s 0 = (k : Int)) ∧ (b = false → ¬ ∃ j, ∃ _ : j < l.length, cellAt l r s 0 = (j : Int))
def LoHi (l : List Ce) (r s : Int) (lo hi : Nat) : Prop := (∀ i (h : i < l.length), i < lo → Jn l[i].r l[i].s r s) ∧ (∀ i (h : i < l.length), hi ≤ i → ¬ Jn l[i].r l[i].s r s)
theorem LoHi.up {l : List Ce} {r s : Int} {lo hi m : Nat} (h : LoHi l r s lo hi) (hp : l.Pairwise JF) (hm : m < l.length) (hd : Jn l[m].r l[m].s r s) : LoHi l r s (m + 1) hi := ⟨fun i hi him => by
 by_cases e : i = m
 ·subst e; exact hd
 ·exact KP (List.pairwise_iff_getElem.1 hp i m hi hm (by omega)) hd, h.2⟩
theorem LoHi.down {l : List Ce} {r s : Int} {lo hi m : Nat} (h : LoHi l r s lo hi) (hp : l.Pairwise JF) (hm : m < l.length) (hd : ¬ Jn l[m].r l[m].s r s) : LoHi l r s lo m := ⟨h.1, fun i hi him k => by
 by_cases e : i = m
 ·subst e; exact hd k
 ·exact hd (KP (List.pairwise_iff_getElem.1 hp m i hm hi (by omega)) k)⟩
theorem LoHi.cut {l : List Ce} {r s : Int} {k : Nat} (h : LoHi l r s k k) : Cut l r s k := h
theorem JaS (l : List Ce) (v : Value) (r s : Int) (w : World) (hn : l.length ≤ 1048576) (hp : l.Pairwise JF) (h : CeAt w v l) :
  Calls Tryz.prog 176 #[v, .agg #[.string ⟨#[]⟩, int i64 r, int i64 s], .func (.func 177) #[] #[]] w fun e w' => Ja4 e l r s ∧ Below w.heap.size w w' := by
 obtain ⟨aa, ca, rfl, hga⟩ := h
 obtain ⟨W, hW⟩ : ∃ W, W = w.alloc (.cells #[.string ⟨#[]⟩, int i64 r, int i64 s] 147) := ⟨_, rfl⟩
 have HBW : Hid (Below w.heap.size w W) := by rw [hW]; exact (Below.refl _ _).alloc (Nat.le_refl _) _
 have hRW : Row W w.heap.size #[.string ⟨#[]⟩, int i64 r, int i64 s] 147 := by rw [hW]; exact Jb w _ _ rfl
 have HWW : Hid (w.alloc (.cells #[.string ⟨#[]⟩, int i64 r, int i64 s] 147) = W) := hW.symm
 have HRK : Hid (∀ wx, Below W.heap.size W wx → wx.cell? ⟨w.heap.size, 0, none⟩ = some (.string ⟨#[]⟩) ∧ wx.cell? ⟨w.heap.size, 1, none⟩ = some (int i64 r) ∧ wx.cell? ⟨w.heap.size, 2, none⟩ = some (int i64 s)) := fun wx h => ⟨(hRW.next h).cell 0 rfl, (hRW.next h).cell 1 rfl, (hRW.next h).cell 2 rfl⟩
 have HGA : Hid (0 < l.length → ∃ g f, aa = some ⟨g, f, none⟩ ∧ ∀ j (h : j < l.length) wx, Below W.heap.size W wx → ceC wx g (f + j * 8) l[j]) := fun h0 => by
  obtain ⟨g, f, e, hg, hc⟩ := hga h0
  exact ⟨g, f, e, fun j hj wx hx => (hc j hj).below (HBW.out.trans (hx.mono HBW.out.size)) hg⟩
 have HP := Ja hp
 obtain ⟨n, hnl⟩ : ∃ n, n = l.length := ⟨_, rfl⟩
 have HL : Hid (n = l.length) := hnl
 rw [← hnl] at hn ⊢
 clear hnl hga hp hW hRW
 go_enter Tryz.func176, Tryz.ntmps176
 go_wp2
 rw [HWW.out]
 clear HWW
 go_loopw [9, 10] (fun x z wr => ∃ lo hi : Nat, x = int i64 lo ∧ z = int i64 hi ∧ lo ≤ hi ∧ hi ≤ n ∧ LoHi l r s lo hi ∧ Below W.heap.size W wr) (fun x z _ => (intOf z - intOf x).toNat)
 case atStart => exact ⟨0, n, rfl, rfl, Nat.zero_le _, Nat.le_refl _, ⟨fun i _ h => by omega, fun i h1 h2 => by have := HL.out; omega⟩, Below.refl _ _⟩
 case round =>
  obtain ⟨lo, hi, rfl, rfl, hlh, hhn, hin, hbel⟩ := hrel
  have HIN := Ja hin
  have HBE := Ja hbel
  clear hin
  by_cases hlt : lo < hi
  ·have hml : (lo + hi) / 2 < l.length := by have := HL.out; omega
   obtain ⟨g, f, rfl, hcc⟩ := HGA.out (by omega)
   have hm0 : (0 : Int) ≤ ((lo : Int) + hi) / 2 := by omega
   have hm1 : ((lo : Int) + hi) / 2 < n := by omega
   have hmt : (((lo : Int) + hi) / 2).toNat = (lo + hi) / 2 := by omega
   have hw1 : IntKind.i64.wrap ((lo : Int) + hi) = (lo : Int) + hi := by rw [IntKind.wrap_i64] <;> omega
   have hw2 : IntKind.u64.wrap ((lo : Int) + hi) = (lo : Int) + hi := by rw [IntKind.wrap_u64]; omega
   have hw3 : IntKind.i64.wrap (((lo : Int) + hi) / 2) = ((lo : Int) + hi) / 2 := by rw [IntKind.wrap_i64] <;> omega
   have hw5 : IntKind.u64.wrap (((lo : Int) + hi) / 2) = ((lo : Int) + hi) / 2 := by rw [IntKind.wrap_u64]; omega
   have hw4 : IntKind.i64.wrap (((lo : Int) + hi) / 2 + 1) = ((lo : Int) + hi) / 2 + 1 := by rw [IntKind.wrap_i64] <;> omega
   have hlt1 : (lo : Int) < hi := by omega
   have HUP : Hid (Jn l[(lo + hi) / 2].r l[(lo + hi) / 2].s r s → LoHi l r s ((lo + hi) / 2 + 1) hi) := fun h => HIN.out.up HP.out hml h
   have HDN : Hid (¬ Jn l[(lo + hi) / 2].r l[(lo + hi) / 2].s r s → LoHi l r s lo ((lo + hi) / 2)) := fun h => HIN.out.down HP.out hml h
   have HX : Hid (∀ wx, Below W.heap.size W wx → ceC wx g (f + (lo + hi) / 2 * 8) l[(lo + hi) / 2]) := fun wx h => hcc _ hml wx h
   generalize l[(lo + hi) / 2] = x at *
   have HS : Hid (∀ wx, Below W.heap.size W wx → wx.cell? ⟨w.heap.size, 0, none⟩ = some (.string ⟨#[]⟩) ∧ wx.cell? ⟨w.heap.size, 1, none⟩ = some (int i64 r) ∧ wx.cell? ⟨w.heap.size, 2, none⟩ = some (int i64 s) ∧ wx.cell? ⟨g, f + (lo + hi) / 2 * 8, none⟩ = some (.string x.o) ∧ wx.cell? ⟨g, f + (lo + hi) / 2 * 8 + 1, none⟩ = some (int i64 x.r) ∧ wx.cell? ⟨g, f + (lo + hi) / 2 * 8 + 2, none⟩ = some (int i64 x.s) ∧ wx.cell? ⟨g, f + (lo + hi) / 2 * 8 + 3, none⟩ = some (int i64 x.t) ∧ wx.cell? ⟨g, f + (lo + hi) / 2 * 8 + 4, none⟩ = some (int i64 x.x) ∧ wx.cell? ⟨g, f + (lo + hi) / 2 * 8 + 5, none⟩ = some (int i64 x.z) ∧ wx.cell? ⟨g, f + (lo + hi) / 2 * 8 + 6, none⟩ = some (int i64 x.v) ∧ wx.cell? ⟨g, f + (lo + hi) / 2 * 8 + 7, none⟩ = some (.bool x.g)) := fun wx h => by
    obtain ⟨t0, t1, t2⟩ := HRK.out wx h
    have hq := HX.out wx h
    unfold ceC at hq
    exact ⟨t0, t1, t2, hq⟩
   obtain ⟨R, hR⟩ : ∃ R, R = rkD x.r x.s r s := ⟨_, rfl⟩
   have HC : Hid (∀ wx, Calls Tryz.prog 177 #[.agg #[.string x.o, int i64 x.r, int i64 x.s, int i64 x.t, int i64 x.x, int i64 x.z, int i64 x.v, .bool x.g], .agg #[.string ⟨#[]⟩, int i64 r, int i64 s]] wx fun e w' => e = .returned (int i64 R) ∧ Below wx.heap.size wx w') := fun wx => by rw [hR]; exact GU x r s wx
   have HRC : Hid ((Jn x.r x.s r s ∧ decide (R < 0) = true) ∨ (¬ Jn x.r x.s r s ∧ decide (R < 0) = false)) := by
    show _ ∨ _
    rw [hR]
    rcases ZN x.r x.s r s with ⟨h1, h2⟩ | ⟨h1, h2⟩ | ⟨h1, h2⟩
    ·exact .inl ⟨h1, decide_eq_true h2⟩
    ·exact .inr ⟨by unfold Jn; omega, decide_eq_false (by omega)⟩
    ·exact .inr ⟨by unfold Jn at h1 ⊢; omega, decide_eq_false (by omega)⟩
   have hBc : Below W.heap.size W wr := HBE.out
   clear hcc hml hbel hR HX
   go_wp2
   replace hBc := hBc.drew
   have hs := Ja (HS.out _ hBc)
   refine wph HS hBc 8 ?_
   refine tQ 0 ka0 ?_; refine tQ 1 ka1 ?_; refine tQ 2 ka2 ?_; refine tQ 3 ka3 ?_; refine tQ 4 ka4 ?_; refine tQ 5 ka5 ?_
   refine rd 6 ka6 (fun K hK => ?_)
   go_simp
   refine (HC.out _).mono ?_
   rintro e wn ⟨rfl, hbn⟩
   replace hBc := nx hBc hbn
   clear hbn
   try go_wp2_with fail
   replace hs := Ja (HS.out _ hBc)
   refine hK.out _ _ hs.out (fun hx => ?_)
   clear hx hK K
   try simp only [s1, s2, s3]
   clear HC
   rcases HRC.out with ⟨h2, hd⟩ | ⟨h2, hd⟩
   ·have HE := Ja (HUP.out h2)
    clear HUP HDN h2 HRC
    refine tQ 7 ka7 ?_
    refine wpd ?_
    have HBF := Ja hBc
    clear hs hBc HS
    go_wp2
    go_roundw
    case rel => exact ⟨(lo + hi) / 2 + 1, hi, by go_num, rfl, by omega, hhn, HE.out, HBF.out⟩
    case measure => simp [intOf]; omega
   ·have HE := Ja (HDN.out h2)
    clear HUP HDN h2 HRC
    refine tQ 7 ka7 ?_
    refine wpd ?_
    have HBF := Ja hBc
    clear hs hBc HS
    go_wp2
    go_roundw
    case rel => exact ⟨lo, (lo + hi) / 2, rfl, by go_num, by omega, by omega, HE.out, HBF.out⟩
    case measure => simp [intOf]; omega
  ·have hlt1 : ¬ ((lo : Int) < hi) := by omega
   have hlh2 : lo = hi := by omega
   have HCU : Hid (Cut l r s lo) := by have := HIN.out; rw [← hlh2] at this; exact this.cut
   clear HIN
   by_cases hln : lo < n
   ·have hml : lo < l.length := by have := HL.out; omega
    obtain ⟨g, f, rfl, hcc⟩ := HGA.out (by omega)
    have hk1 : (lo : Int) < n := by omega
    have hk0 : (0 : Int) ≤ lo := by omega
    have HYE : Hid (l[lo].r = r ∧ l[lo].s = s → Ja4 (.returned (.tuple #[int i64 (lo : Int), .bool true])) l r s) := fun h => ⟨lo, true, rfl, fun _ => ⟨hml, JeV HP.out hml h⟩, fun h => by cases h⟩
    have HNO : Hid (¬ (l[lo].r = r ∧ l[lo].s = s) → Ja4 (.returned (.tuple #[int i64 (lo : Int), .bool false])) l r s) := fun h => ⟨lo, false, rfl, (fun h => by cases h), fun _ => JbO HCU.out (fun _ => h) HP.out⟩
    have HX : Hid (∀ wx, Below W.heap.size W wx → ceC wx g (f + lo * 8) l[lo]) := fun wx h => hcc _ hml wx h
    generalize l[lo] = x at *
    have HS : Hid (∀ wx, Below W.heap.size W wx → wx.cell? ⟨w.heap.size, 0, none⟩ = some (.string ⟨#[]⟩) ∧ wx.cell? ⟨w.heap.size, 1, none⟩ = some (int i64 r) ∧ wx.cell? ⟨w.heap.size, 2, none⟩ = some (int i64 s) ∧ wx.cell? ⟨g, f + lo * 8, none⟩ = some (.string x.o) ∧ wx.cell? ⟨g, f + lo * 8 + 1, none⟩ = some (int i64 x.r) ∧ wx.cell? ⟨g, f + lo * 8 + 2, none⟩ = some (int i64 x.s) ∧ wx.cell? ⟨g, f + lo * 8 + 3, none⟩ = some (int i64 x.t) ∧ wx.cell? ⟨g, f + lo * 8 + 4, none⟩ = some (int i64 x.x) ∧ wx.cell? ⟨g, f + lo * 8 + 5, none⟩ = some (int i64 x.z) ∧ wx.cell? ⟨g, f + lo * 8 + 6, none⟩ = some (int i64 x.v) ∧ wx.cell? ⟨g, f + lo * 8 + 7, none⟩ = some (.bool x.g)) := fun wx h => by
     obtain ⟨t0, t1, t2⟩ := HRK.out wx h
     have hq := HX.out wx h
     unfold ceC at hq
     exact ⟨t0, t1, t2, hq⟩
    obtain ⟨R, hR⟩ : ∃ R, R = rkD x.r x.s r s := ⟨_, rfl⟩
    have HC : Hid (∀ wx, Calls Tryz.prog 177 #[.agg #[.string x.o, int i64 x.r, int i64 x.s, int i64 x.t, int i64 x.x, int i64 x.z, int i64 x.v, .bool x.g], .agg #[.string ⟨#[]⟩, int i64 r, int i64 s]] wx fun e w' => e = .returned (int i64 R) ∧ Below wx.heap.size wx w') := fun wx => by rw [hR]; exact GU x r s wx
    have HRC : Hid (((x.r = r ∧ x.s = s) ∧ (R == 0) = true) ∨ (¬ (x.r = r ∧ x.s = s) ∧ (R == 0) = false)) := by
     show _ ∨ _
     rw [hR]
     rcases ZN x.r x.s r s with ⟨h1, h2⟩ | ⟨h1, h2⟩ | ⟨h1, h2⟩
     ·exact .inr ⟨by unfold Jn at h1; omega, by simp; omega⟩
     ·exact .inl ⟨h1, by simp [h2]⟩
     ·exact .inr ⟨by unfold Jn at h1; omega, by simp; omega⟩
    have hBc : Below W.heap.size W wr := HBE.out
    clear hcc hml hbel hR HX hlh2 HGA HCU HP
    go_wp2
    replace hBc := hBc.drew
    have hs := Ja (HS.out _ hBc)
    refine wph HS hBc 16 ?_
    refine tQ 0 kb0 ?_; refine tQ 1 kb1 ?_; refine tQ 2 kb2 ?_; refine tQ 3 kb3 ?_; refine tQ 4 kb4 ?_; refine tQ 5 kb5 ?_; refine tQ 6 kb6 ?_; refine tQ 7 kb7 ?_; refine tQ 8 kb8 ?_; refine tQ 9 kb9 ?_; refine tQ 10 Jji ?_
    refine rd 11 Jku (fun K hK => ?_)
    go_simp
    refine (HC.out _).mono ?_
    rintro e wn ⟨rfl, hbn⟩
    replace hBc := nx hBc hbn
    clear hbn
    try go_wp2_with fail
    replace hs := Ja (HS.out _ hBc)
    refine hK.out _ _ hs.out (fun hx => ?_)
    clear hx hK K
    try simp only [s1, s2, s3]
    clear HC
    rcases HRC.out with ⟨h2, hd⟩ | ⟨h2, hd⟩
    ·have HE := Ja (HYE.out h2)
     clear HYE HNO h2 HRC
     refine tQ 12 JhL ?_; refine tQ 13 JgX ?_; refine tQ 14 Jf1 ?_; refine tQ 15 Jhp ?_
     refine wpd ?_
     have HBF := Ja (HBW.out.trans (hBc.mono HBW.out.size))
     clear hs hBc HS
     go_wp2
     go_ret2
     exact ⟨HE.out, HBF.out⟩
    ·have HE := Ja (HNO.out h2)
     clear HYE HNO h2 HRC
     refine tQ 12 JhL ?_; refine tQ 13 JgX ?_; refine tQ 14 Jf1 ?_; refine tQ 15 Jhp ?_
     refine wpd ?_
     have HBF := Ja (HBW.out.trans (hBc.mono HBW.out.size))
     clear hs hBc HS
     go_wp2
     go_ret2
     exact ⟨HE.out, HBF.out⟩
   ·have hk1 : ¬ ((lo : Int) < n) := by omega
    have HE : Hid (¬ ∃ j, ∃ _ : j < l.length, cellAt l r s 0 = (j : Int)) := JbO HCU.out (fun hk => by have := HL.out; omega) HP.out
    have HS : Hid (∀ wx, Below W.heap.size W wx → wx.cell? ⟨w.heap.size, 0, none⟩ = some (.string ⟨#[]⟩) ∧ wx.cell? ⟨w.heap.size, 1, none⟩ = some (int i64 r) ∧ wx.cell? ⟨w.heap.size, 2, none⟩ = some (int i64 s)) := HRK
    have hBc : Below W.heap.size W wr := HBE.out
    clear hbel hlh2 HGA HCU HP
    go_wp2
    replace hBc := hBc.drew
    have hs := Ja (HS.out _ hBc)
    refine wph HS hBc 16 ?_
    refine tQ 0 kb0 ?_; refine tQ 1 kb1 ?_; refine tQ 2 kb2 ?_; refine tQ 3 kb3 ?_; refine tQ 4 kb4 ?_; refine sQ 5 kb5 ?_; refine sQ 6 kb6 ?_; refine sQ 7 kb7 ?_; refine sQ 8 kb8 ?_; refine sQ 9 kb9 ?_; refine sQ 10 Jji ?_; refine cQ 11 Jku ?_; refine sQ 12 JhL ?_; refine tQ 13 JgX ?_; refine tQ 14 Jf1 ?_; refine tQ 15 Jhp ?_
    refine wpd ?_
    have HBF := Ja (HBW.out.trans (hBc.mono HBW.out.size))
    clear hs hBc HS
    go_wp2
    go_ret2
    exact ⟨⟨lo, false, rfl, (fun h => by cases h), fun _ => HE.out⟩, HBF.out⟩
theorem Yd (l : List Ce) (v : Value) (r s : Int) (w : World) (hn : l.length ≤ 1048576) (hp : l.Pairwise JF) (h : CeAt w v l) :
  Calls Tryz.prog 125 #[v, .agg #[.string ⟨#[]⟩, int i64 r, int i64 s]] w fun e w' => Ja4 e l r s ∧ Below w.heap.size w w' := by
 obtain ⟨W, hW⟩ : ∃ W, W = w.alloc (.cells #[.string ⟨#[]⟩, int i64 r, int i64 s] 147) := ⟨_, rfl⟩
 have HBW : Hid (Below w.heap.size w W) := by rw [hW]; exact (Below.refl _ _).alloc (Nat.le_refl _) _
 have hRW : Row W w.heap.size #[.string ⟨#[]⟩, int i64 r, int i64 s] 147 := by rw [hW]; exact Jb w _ _ rfl
 have HWW : Hid (w.alloc (.cells #[.string ⟨#[]⟩, int i64 r, int i64 s] 147) = W) := hW.symm
 have HC := Ja (JaS l v r s W hn hp (by rw [hW]; exact h.alloc _))
 obtain ⟨t0, t1, t2⟩ : W.cell? ⟨w.heap.size, 0, none⟩ = some (.string ⟨#[]⟩) ∧ W.cell? ⟨w.heap.size, 1, none⟩ = some (int i64 r) ∧ W.cell? ⟨w.heap.size, 2, none⟩ = some (int i64 s) := ⟨hRW.cell 0 rfl, hRW.cell 1 rfl, hRW.cell 2 rfl⟩
 rw [hW] at t0 t1 t2
 clear hW hRW h
 go_enter Tryz.func125, Tryz.ntmps125
 go_wp2_with fail
 rw [HWW.out]
 refine HC.out.mono ?_
 rintro e w1 ⟨⟨k, b, rfl, hq⟩, hb⟩
 have HQ := Ja hq
 have HBF := Ja (HBW.out.trans (hb.mono HBW.out.size))
 clear hb hq HC t0 t1 t2
 go_wp2
 go_ret2
 exact ⟨⟨k, b, rfl, HQ.out⟩, HBF.out⟩
end Go.Proofs.YtdknoflkingodaaGreat
