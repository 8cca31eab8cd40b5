/- An edit becomes an act, as the specification tells it. -/
import Derived.Test.YtdknoflkingodaaGreatQ31
set_option maxHeartbeats 16000000
namespace Go.Proofs.YtdknoflkingodaaGreat
open Value (int)
open IntKind (i64)
set_option maxRecDepth 100000
set_option linter.unusedVariables false
open Go.RowKit
theorem Jz {fn : Func} {q v : Tmp} (h : fn.results = #[.cell q 62, .tmp v]) {tmps : Array Value} {w : World} {g : Nat} {cs : Array Value} {x : Value} (hc : cs.size = 10) (hp : tmps.getD q undef = .pointer (some ⟨g, 0, none⟩)) (hv : tmps.getD v undef = x) (hg : Row w g cs 62) :
  (results fn tmps).run Tryz.prog w = .ok (.tuple #[.agg cs, x]) w := by
 rw [results_cell_tmp h, hp, hv]
 simp [asAddr, Result.andThen, run_loadVar_row w g 62 62 _ (0, 0) _ hg Tryz.underlying62 rfl (by rw [hc]; kernel_rfl)]
theorem J7 (w : World) (B : Nat) (e : TypeId) (s : Nat) : w.ownsRow B e s (.slice none 0 0) 0 [] := ⟨by simp, .inl ⟨rfl, rfl⟩⟩
theorem JL {w : World} {B n g i : Nat} {e : TypeId} {s : Nat} {u x : Value} {xs : List Value} (h : w.ownsRow B e s u n xs) (hg : ∀ j, u.ownBlock = some j → j ≠ g) : (w.setCell ⟨g, i, none⟩ x).ownsRow B e s u n xs := by
 refine h.kept (row := some g) ⟨rfl, rfl, rfl, by simp [World.setCell], fun k hk hne => Below.heap_setCell w _ x k (fun e => hne (by rw [e]))⟩ ?_
 cases hv : u.ownBlock with
 | none => exact .inl rfl
 | some j => exact .inr (fun e => hg j hv (by injection e))
theorem GK {w : World} {B n g : Nat} {e : TypeId} {s : Nat} {v : Value} {xs : List Value} (h : w.ownsRow B e s v n xs) (hg : ∀ j, v.ownBlock = some j → j ≠ g) (A : Ac) (u : Value) : (Jk w g A u).ownsRow B e s v n xs := by
 unfold Jk
 exact JL (JL (JL (JL (JL (JL (JL (JL (JL (JL h hg) hg) hg) hg) hg) hg) hg) hg) hg) hg
abbrev Jih : Oper := oq 31 (.move (.tmp 1)) 3 "l09_edit.go:24" #[] none
abbrev JjH : Oper := oq 32 (.fieldAddr 29 (.tmp 4) 0) 0 "l09_edit.go:24" #[] none
abbrev JiZ : Oper := oq 33 (.load 24 (.tmp 32)) 24 "l09_edit.go:24" #[eD 1] none
abbrev Jkt : Oper := oq 34 (.move (.tmp 1)) 3 "l09_edit.go:24" #[] none
abbrev JiE : Oper := oq 35 (.indexAddr 24 (.tmp 33) (.tmp 34)) 0 "l09_edit.go:24" #[eD 2, eD 3] none
abbrev Jii : Oper := oq 36 (.load 3 (.tmp 35)) 3 "l09_edit.go:24" #[eD 4] none
abbrev JjP : Oper := oq 37 (.binOp .add 3 (.tmp 36) (.const (int i64 1)) 3) 3 "l09_edit.go:24" #[eD 5] none
abbrev Jiz : Oper := oq 38 (.build 33 #[(0, .tmp 31), (1, .tmp 37)]) 33 "l09_edit.go:24" #[eD 0, eD 6] none
abbrev Jix : Oper := oq 39 (.move (.tmp 2)) 3 "l09_edit.go:24" #[] none
abbrev JgV : Oper := oq 40 (.buildSlice 24 0 #[]) 24 "l09_edit.go:24" #[] none
abbrev Jfk : Oper := oq 41 (.fieldAddr 29 (.tmp 4) 0) 0 "l09_edit.go:24" #[] none
abbrev Jfs : Oper := oq 42 (.load 24 (.tmp 41)) 24 "l09_edit.go:24" #[eD 10] none
abbrev Jcj : Oper := oq 43 (.call ⟨.builtin .append, #[.tmp 40, .tmp 42], #[24, 24]⟩) 24 "l09_edit.go:24" #[eD 9, eD 11] none
abbrev Jff : Oper := oq 44 (.fieldAddr 113 (.tmp 7) 0) 0 "l09_edit.go:24" #[] none
abbrev Jfn : Oper := oq 45 (.load 3 (.tmp 44)) 3 "l09_edit.go:24" #[eD 13] none
abbrev Jfm : Oper := oq 46 (.fieldAddr 113 (.tmp 7) 1) 0 "l09_edit.go:24" #[] none
abbrev Jfz : Oper := oq 47 (.load 9 (.tmp 46)) 9 "l09_edit.go:24" #[eD 15] none
abbrev Jfv : Oper := oq 48 (.fieldAddr 113 (.tmp 7) 2) 0 "l09_edit.go:24" #[] none
abbrev Jfy : Oper := oq 49 (.load 9 (.tmp 48)) 9 "l09_edit.go:24" #[eD 17] none
abbrev Jfb : Oper := oq 50 (.fieldAddr 113 (.tmp 7) 3) 0 "l09_edit.go:24" #[] none
abbrev Jfr : Oper := oq 51 (.load 3 (.tmp 50)) 3 "l09_edit.go:24" #[eD 19] none
abbrev JcA : Oper := oq 52 (.build 62 #[(0, .tmp 38), (1, .tmp 39), (2, .tmp 43), (3, .tmp 45), (4, .tmp 47), (5, .tmp 49), (6, .tmp 51)]) 62 "l09_edit.go:24" #[eD 7, eD 8, eD 12, eD 14, eD 16, eD 18, eD 20] none
abbrev Jcv : Oper := oq 10 (.alloc 62) 0 "l09_edit.go:24" #[] none
abbrev Jfg : Oper := oz (.store 62 (.tmp 10) (.tmp 52)) 0 "l09_edit.go:24" #[eD 22, eD 21, eC 12, eP 0, eP 1, eP 2, eP 3, eP 4, eP 5, eP 6, eP 7, eP 8, eP 9, eP 10, eP 11, eP 12, eP 13, eP 14, eP 15, eP 16, eP 17, eP 18, eP 19, eP 20, eP 21, eP 22] none
abbrev JfD : Array Oper := #[Jih, JjH, JiZ, Jkt, JiE, Jii, JjP, Jiz, Jix, JgV, Jfk, Jfs, Jcj, Jff, Jfn, Jfm, Jfz, Jfv, Jfy, Jfb, Jfr, JcA, Jcv, Jfg]
theorem Jc2 {Q : Exit → Act → World → Prop} {SS : World → Prop} {W : World} {B n : Nat} {l : List Int} {r sn t k v : Int} {o y : ByteArray} {a0 : Option Addr} {c0 : Nat} {x0 x1 x2 x3 x4 x5 x6 x7 x8 x9 x11 x12 x13 x14 x15 x16 x17 x18 x19 x20 x21 x22 x23 x24 x25 x26 x27 x28 x29 x30 x31 x32 x33 x34 x35 x36 x37 x41 x44 x46 x48 x50 x53 x54 x55 x56 x57 x58 x59 x60 x61 x62 x63 x64 x65 x66 x67 x68 x69 x70 x71 x72 x73 x74 x75 x76 x77 x78 x79 x80 x81 x82 x83 x84 x85 x86 x87 x88 x89 x90 x91 x92 x93 x94 x95 x96 x97 : Value} (hl : l.length = n) (hn : n ≤ 1048576) (hBW : B = W.heap.size) (hP : ∀ c a d v w, Q (.panic c) (a.put d v) w → Q (.panic c) a w)
  (hI : ∀ wx, Below B W wx → IntsAt wx (.slice a0 n c0) l) (hS : ∀ wx, Below B W wx → SS wx)
  (hQ : ∀ (b u : Value) (ga : Nat) (wx : World), Below B W wx → Row wx ga #[int i64 0, int i64 0, int i64 0, .slice none 0 0, int i64 0, .string ⟨#[]⟩, .string ⟨#[]⟩, int i64 0, int i64 0, int i64 0] 62 → B ≤ ga → wx.ownsRow B 3 1 u n (Jj l) → (∀ j, u.ownBlock = some j → j ≠ ga) → wpAnyH Tryz.prog .any JfD Q SS 1 #[true, true, true, true, true, true, true, true, true, true, true, true, true, true, true, true, true, true, true, true, true, true, true, false] ⟨#[x0, x1, x2, x3, x4, x5, x6, x7, x8, x9, .pointer (some ⟨ga, 0, none⟩), x11, x12, x13, x14, x15, x16, x17, x18, x19, x20, x21, x22, x23, x24, x25, x26, x27, x28, x29, x30, x31, x32, x33, x34, x35, x36, x37, .agg #[int i64 r, int i64 sn], int i64 t, b, x41, .slice a0 n c0, u, x44, int i64 k, x46, .string o, x48, .string y, x50, int i64 v, .agg #[int i64 r, int i64 sn, int i64 t, u, int i64 k, .string o, .string y, int i64 v, int i64 0, int i64 0], x53, x54, x55, x56, x57, x58, x59, x60, x61, x62, x63, x64, x65, x66, x67, x68, x69, x70, x71, x72, x73, x74, x75, x76, x77, x78, x79, x80, x81, x82, x83, x84, x85, x86, x87, x88, x89, x90, x91, x92, x93, x94, x95, x96, x97], []⟩ wx) :
  wpAnyH Tryz.prog .any JfD Q SS 5 #[true, true, true, true, true, true, true, true, true, false, true, true, false, true, true, true, true, true, true, true, true, false, false, false] ⟨#[x0, x1, x2, x3, x4, x5, x6, x7, x8, x9, undef, x11, x12, x13, x14, x15, x16, x17, x18, x19, x20, x21, x22, x23, x24, x25, x26, x27, x28, x29, x30, x31, x32, x33, x34, x35, x36, x37, .agg #[int i64 r, int i64 sn], int i64 t, undef, x41, .slice a0 n c0, undef, x44, int i64 k, x46, .string o, x48, .string y, x50, int i64 v, undef, x53, x54, x55, x56, x57, x58, x59, x60, x61, x62, x63, x64, x65, x66, x67, x68, x69, x70, x71, x72, x73, x74, x75, x76, x77, x78, x79, x80, x81, x82, x83, x84, x85, x86, x87, x88, x89, x90, x91, x92, x93, x94, x95, x96, x97], []⟩ W := by
 subst hBW
 subst hl
 have hb0 : Below W.heap.size W W := Below.refl _ _
 obtain ⟨i0, hi, hz0, hz1, hz2⟩ := info_parts Zy
 refine wpAnyH_ready (rs := [9, 22]) (by as_aux_lemma => kernel_rfl) (by simp) ?_
 refine AllReadyH.cons (o := JgV) rfl (fun K hK => ?_) (AllReadyH.cons (o := Jcv) rfl (fun K hK => ?_) AllReadyH.nil)
 ·have hb1 : Below W.heap.size W (W.alloc (.cells #[] 3)) := hb0.alloc (Nat.le_refl _) _
  have ho1 : (W.alloc (.cells #[] 3)).ownsRow W.heap.size 3 1 (.slice (some ⟨W.heap.size, 0, none⟩) 0 0) 0 [] := Jy W 3 1 rfl (Nat.le_refl _)
  go_simp
  refine hK.out _ _ (hS _ hb1) (fun _ => ?_)
  clear hK K
  simp only [List.setIfInBounds_toArray, List.set_cons_zero, List.set_cons_succ]
  refine wpAnyH_ready (rs := [12, 22]) (by as_aux_lemma => kernel_rfl) (by simp) ?_
  refine AllReadyH.cons (o := Jcj) rfl (fun K hK => ?_) (AllReadyH.cons (o := Jcv) rfl (fun K hK => ?_) AllReadyH.nil)
  ·refine JC rfl (.tmp 40) (.tmp 42) 24 rfl W.heap.size 3 i0 (int i64 0) 1 8 Tryz.underlying24 hi hz0 hz1 hz2 rfl (by decide) W.heap.size rfl ho1 a0 l.length c0 (Jj l) rfl (hI _ hb1).src (by omega) (by decide) (hb1).size ?_
   intro v' w' k1 k2 k3
   obtain ⟨au, cu, rfl, -⟩ := IntsAt.own (l := l) k1 rfl
   have hbA : Below W.heap.size W w' := (hb1).grown k2 (hb1).size (fun j hj => by injection hj with hj; subst hj; exact ((ho1).lt _ rfl).1)
   refine hK.out _ _ (hS _ hbA) (fun _ => ?_)
   clear hK K
   simp only [sq]
   refine tk 21 JcA (hS _ hbA) ?_ (hQ := fun c a w h => hP c a _ _ w h)
   simp only [sq]
   refine rd 22 Jcv (fun K hK => ?_)
   have hbB : Below W.heap.size W (w'.alloc (.cells #[int i64 0, int i64 0, int i64 0, .slice none 0 0, int i64 0, .string ⟨#[]⟩, .string ⟨#[]⟩, int i64 0, int i64 0, int i64 0] 62)) := hbA.alloc hbA.size _
   go_simp
   refine hK.out _ _ (hS _ hbB) (fun _ => ?_)
   clear hK K
   simp only [List.setIfInBounds_toArray, List.set_cons_zero, List.set_cons_succ]
   exact hQ _ _ _ _ hbB (Jb _ _ _ rfl) hbA.size (k1.alloc _) (fun j hj => by have := (k1.lt j hj).2; omega)
  ·have hb2 : Below W.heap.size W ((W.alloc (.cells #[] 3)).alloc (.cells #[int i64 0, int i64 0, int i64 0, .slice none 0 0, int i64 0, .string ⟨#[]⟩, .string ⟨#[]⟩, int i64 0, int i64 0, int i64 0] 62)) := hb1.alloc hb1.size _
   have hr2 : Row ((W.alloc (.cells #[] 3)).alloc (.cells #[int i64 0, int i64 0, int i64 0, .slice none 0 0, int i64 0, .string ⟨#[]⟩, .string ⟨#[]⟩, int i64 0, int i64 0, int i64 0] 62)) (W.heap.size + 1) #[int i64 0, int i64 0, int i64 0, .slice none 0 0, int i64 0, .string ⟨#[]⟩, .string ⟨#[]⟩, int i64 0, int i64 0, int i64 0] 62 := Jb _ _ _ (by simp)
   have ho2 := World.ownsRow.alloc ho1 (.cells #[int i64 0, int i64 0, int i64 0, .slice none 0 0, int i64 0, .string ⟨#[]⟩, .string ⟨#[]⟩, int i64 0, int i64 0, int i64 0] 62)
   have hs2 : ((W.alloc (.cells #[] 3)).alloc (.cells #[int i64 0, int i64 0, int i64 0, .slice none 0 0, int i64 0, .string ⟨#[]⟩, .string ⟨#[]⟩, int i64 0, int i64 0, int i64 0] 62)).heap.size = W.heap.size + 1 + 1 := by simp
   go_simp
   refine hK.out _ _ (hS _ hb2) (fun _ => ?_)
   clear hK K
   simp only [List.setIfInBounds_toArray, List.set_cons_zero, List.set_cons_succ]
   refine rd 12 Jcj (fun K hK => ?_)
   generalize (W.alloc (.cells #[] 3)).alloc (.cells #[int i64 0, int i64 0, int i64 0, .slice none 0 0, int i64 0, .string ⟨#[]⟩, .string ⟨#[]⟩, int i64 0, int i64 0, int i64 0] 62) = Y at *
   refine JC rfl (.tmp 40) (.tmp 42) 24 rfl W.heap.size 3 i0 (int i64 0) 1 8 Tryz.underlying24 hi hz0 hz1 hz2 rfl (by decide) W.heap.size rfl ho2 a0 l.length c0 (Jj l) rfl (hI _ hb2).src (by omega) (by decide) (hb2).size ?_
   intro v' w' k1 k2 k3
   obtain ⟨au, cu, rfl, -⟩ := IntsAt.own (l := l) k1 rfl
   have hbA : Below W.heap.size W w' := (hb2).grown k2 (hb2).size (fun j hj => by injection hj with hj; subst hj; exact ((ho2).lt _ rfl).1)
   have hrA := hr2.grown k2 (by intro e; injection e with e; omega)
   refine hK.out _ _ (hS _ hbA) (fun _ => ?_)
   clear hK K
   simp only [sq]
   refine tk 21 JcA (hS _ hbA) ?_ (hQ := fun c a w h => hP c a _ _ w h)
   simp only [sq]
   exact hQ _ _ _ _ hbA hrA (by omega) k1 (fun j hj => by rcases k3 with e | e <;> rw [e] at hj <;> injection hj with hj <;> omega)
 ·have hb1 : Below W.heap.size W (W.alloc (.cells #[int i64 0, int i64 0, int i64 0, .slice none 0 0, int i64 0, .string ⟨#[]⟩, .string ⟨#[]⟩, int i64 0, int i64 0, int i64 0] 62)) := hb0.alloc (Nat.le_refl _) _
  go_simp
  refine hK.out _ _ (hS _ hb1) (fun _ => ?_)
  clear hK K
  simp only [List.setIfInBounds_toArray, List.set_cons_zero, List.set_cons_succ]
  refine rd 9 JgV (fun K hK => ?_)
  have hb2 : Below W.heap.size W ((W.alloc (.cells #[int i64 0, int i64 0, int i64 0, .slice none 0 0, int i64 0, .string ⟨#[]⟩, .string ⟨#[]⟩, int i64 0, int i64 0, int i64 0] 62)).alloc (.cells #[] 3)) := hb1.alloc hb1.size _
  have hr2 : Row ((W.alloc (.cells #[int i64 0, int i64 0, int i64 0, .slice none 0 0, int i64 0, .string ⟨#[]⟩, .string ⟨#[]⟩, int i64 0, int i64 0, int i64 0] 62)).alloc (.cells #[] 3)) W.heap.size #[int i64 0, int i64 0, int i64 0, .slice none 0 0, int i64 0, .string ⟨#[]⟩, .string ⟨#[]⟩, int i64 0, int i64 0, int i64 0] 62 := (Jb _ _ _ rfl).alloc _
  have ho2 : ((W.alloc (.cells #[int i64 0, int i64 0, int i64 0, .slice none 0 0, int i64 0, .string ⟨#[]⟩, .string ⟨#[]⟩, int i64 0, int i64 0, int i64 0] 62)).alloc (.cells #[] 3)).ownsRow W.heap.size 3 1 (.slice (some ⟨W.heap.size + 1, 0, none⟩) 0 0) 0 [] := Jy _ 3 1 (by simp) (by simp)
  have hs2 : ((W.alloc (.cells #[int i64 0, int i64 0, int i64 0, .slice none 0 0, int i64 0, .string ⟨#[]⟩, .string ⟨#[]⟩, int i64 0, int i64 0, int i64 0] 62)).alloc (.cells #[] 3)).heap.size = W.heap.size + 1 + 1 := by simp
  go_simp
  refine hK.out _ _ (hS _ hb2) (fun _ => ?_)
  clear hK K
  simp only [List.setIfInBounds_toArray, List.set_cons_zero, List.set_cons_succ]
  refine rd 12 Jcj (fun K hK => ?_)
  generalize (W.alloc (.cells #[int i64 0, int i64 0, int i64 0, .slice none 0 0, int i64 0, .string ⟨#[]⟩, .string ⟨#[]⟩, int i64 0, int i64 0, int i64 0] 62)).alloc (.cells #[] 3) = Y at *
  refine JC rfl (.tmp 40) (.tmp 42) 24 rfl W.heap.size 3 i0 (int i64 0) 1 8 Tryz.underlying24 hi hz0 hz1 hz2 rfl (by decide) (W.heap.size + 1) rfl ho2 a0 l.length c0 (Jj l) rfl (hI _ hb2).src (by omega) (by decide) (hb2).size ?_
  intro v' w' k1 k2 k3
  obtain ⟨au, cu, rfl, -⟩ := IntsAt.own (l := l) k1 rfl
  have hbA : Below W.heap.size W w' := (hb2).grown k2 (hb2).size (fun j hj => by injection hj with hj; subst hj; exact ((ho2).lt _ rfl).1)
  have hrA := hr2.grown k2 (by intro e; injection e with e; omega)
  refine hK.out _ _ (hS _ hbA) (fun _ => ?_)
  clear hK K
  simp only [sq]
  refine tk 21 JcA (hS _ hbA) ?_ (hQ := fun c a w h => hP c a _ _ w h)
  simp only [sq]
  exact hQ _ _ _ _ hbA hrA (Nat.le_refl _) k1 (fun j hj => by rcases k3 with e | e <;> rw [e] at hj <;> injection hj with hj <;> omega)
theorem JO {S : Sta} {r t k : Int} {o y : ByteArray} {v p : Int} (h : ¬ JK S r t k o y v p = 0) : JB S r t k o y v p = JJ := by unfold JB; rw [if_neg h]
theorem Ga (S : Sta) (u0 u1 u2 u3 : Value) (r t k : Int) (o y : ByteArray) (v pl : Int) (w : World) (hn : Small S) (hst : YU S) (h : StAt w S u0 u1 u2 u3) (ho : o.size ≤ 1048576) (hy : y.size ≤ 1048576) (hp64 : pl ≤ 9223372036854775807) :
  Calls Tryz.prog 89 #[.agg #[u0, u1, u2, u3], int i64 r, int i64 t, .agg #[int i64 k, .string o, .string y, int i64 v, int i64 pl]] w fun e w' => ∃ u, e = .returned (.tuple #[(JB S r t k o y v pl).val u, int i64 (JK S r t k o y v pl)]) ∧ w'.ownsRow w.heap.size 3 1 u (JB S r t k o y v pl).l.length (Jj (JB S r t k o y v pl).l) ∧ Below w.heap.size w w' := by
 obtain ⟨a0, c0, a1, c1, a2, c2, a3, c3, rfl, rfl, rfl, rfl⟩ := h.shape
 obtain ⟨W, hW⟩ : ∃ W, W = ((w.alloc (.cells #[.slice a0 S.l.length c0, .slice a1 S.T.length c1, .slice a2 S.L.length c2, .slice a3 S.C.length c3] 29)).alloc (.cells #[int i64 k, .string o, .string y, int i64 v, int i64 pl] 113)).alloc (.cells #[int i64 0, int i64 0, int i64 0, .slice none 0 0, int i64 0, .string ⟨#[]⟩, .string ⟨#[]⟩, int i64 0, int i64 0, int i64 0] 62) := ⟨_, rfl⟩
 have hWs : W.heap.size = w.heap.size + 1 + 1 + 1 := by rw [hW]; simp
 have hB0 : Below w.heap.size w W := by rw [hW]; exact (((Below.refl _ _).alloc (Nat.le_refl _) _).alloc (by simp) _).alloc (by simp; omega) _
 have hR1 : Row W w.heap.size #[.slice a0 S.l.length c0, .slice a1 S.T.length c1, .slice a2 S.L.length c2, .slice a3 S.C.length c3] 29 := by rw [hW]; exact ((Jb w _ _ rfl).alloc _).alloc _
 have hR2 : Row W (w.heap.size + 1) #[int i64 k, .string o, .string y, int i64 v, int i64 pl] 113 := by rw [hW]; exact (Jb _ _ _ (by simp)).alloc _
 have hR3 : Row W (w.heap.size + 1 + 1) #[int i64 0, int i64 0, int i64 0, .slice none 0 0, int i64 0, .string ⟨#[]⟩, .string ⟨#[]⟩, int i64 0, int i64 0, int i64 0] 62 := by rw [hW]; exact Jb _ _ _ (by simp)
 have HS : Hid (∀ wx, Below W.heap.size W wx → StAt wx S (.slice a0 S.l.length c0) (.slice a1 S.T.length c1) (.slice a2 S.L.length c2) (.slice a3 S.C.length c3)) := fun wx hb => h.below (hB0.trans (hb.mono hB0.size))
 have HR1 : Hid (∀ wx, Below W.heap.size W wx → Row wx w.heap.size #[.slice a0 S.l.length c0, .slice a1 S.T.length c1, .slice a2 S.L.length c2, .slice a3 S.C.length c3] 29) := fun wx hb => hR1.next hb
 have HR2 : Hid (∀ wx, Below W.heap.size W wx → Row wx (w.heap.size + 1) #[int i64 k, .string o, .string y, int i64 v, int i64 pl] 113) := fun wx hb => hR2.next hb
 have HR3 : Hid (∀ wx, Below W.heap.size W wx → Row wx (w.heap.size + 1 + 1) #[int i64 0, int i64 0, int i64 0, .slice none 0 0, int i64 0, .string ⟨#[]⟩, .string ⟨#[]⟩, int i64 0, int i64 0, int i64 0] 62) := fun wx hb => hR3.next hb
 have HF : Hid (∀ wx, Below W.heap.size W wx → Below w.heap.size w wx) := fun wx hb => hB0.trans (hb.mono hB0.size)
 have HW : Hid (((w.alloc (.cells #[.slice a0 S.l.length c0, .slice a1 S.T.length c1, .slice a2 S.L.length c2, .slice a3 S.C.length c3] 29)).alloc (.cells #[int i64 k, .string o, .string y, int i64 v, int i64 pl] 113)).alloc (.cells #[int i64 0, int i64 0, int i64 0, .slice none 0 0, int i64 0, .string ⟨#[]⟩, .string ⟨#[]⟩, int i64 0, int i64 0, int i64 0] 62) = W) := hW.symm
 have HSO := Ja (ZD S _ _ _ _ W hn hst (HS.out W (Below.refl _ _)))
 have HEO := Ja (fun wx => UW k o y v pl wx ho hy)
 have HSM := Ja hn
 have HSN := Ja hst
 obtain ⟨e0, e1, e2, e3⟩ := Row.four hR1
 rw [hW] at e0 e1 e2 e3
 have hb0 : Below W.heap.size W W := Below.refl _ _
 clear hW hR1 hR2 hR3 hB0 h hn hst
 go_enter Tryz.func89, Tryz.ntmps89
 go_wp2_with fail
 rw [HW.out]
 refine HSO.out.mono ?_
 rintro e w1 ⟨⟨q, rfl, hq⟩, hb⟩
 clear HW HSO e0 e1 e2 e3
 cases q with
 | false =>
  have HCD : Hid (JK S r t k o y v pl = 3) := by show _ = _; unfold JK; rw [if_pos (fun h => by have := hq.2 h.1; cases this)]
  have HAW : Hid (JB S r t k o y v pl = JJ) := JO (by rw [HCD.out]; decide)
  clear hq
  have HO := HR3.out w1 hb
  obtain ⟨o0, o1, o2, o3, o4, o5, o6, o7, o8, o9⟩ := Row.ten HO
  obtain ⟨g0, g1, g2, g3, g4, g5, g6, g7, g8, g9⟩ := HO.frees
  have HRW := Ja (Js HO JJ (.slice none 0 0))
  have HBF : Hid (Below w.heap.size w (Jk w1 (w.heap.size + 1 + 1) JJ (.slice none 0 0))) := Jp (HF.out w1 hb) (by omega) _ _
  clear HO
  go_wp2
  rw [show _ = Jk w1 (w.heap.size + 1 + 1) ⟨0, 0, 0, 0, 0, 0, 0, ⟨#[]⟩, ⟨#[]⟩, []⟩ (.slice none 0 0) from Jt w1 (w.heap.size + 1 + 1) ⟨0, 0, 0, 0, 0, 0, 0, ⟨#[]⟩, ⟨#[]⟩, []⟩ (.slice none 0 0)]
  exact bodyPost_ret (Jz rfl rfl rfl rfl HRW.out) rfl ⟨.slice none 0 0, by rw [HCD.out, HAW.out]; rfl, by rw [HAW.out]; exact J7 _ _ _ _, HBF.out⟩
 | true =>
 have hS : SOk S := hq.1 rfl
 clear hq
 obtain ⟨d0, d1, d2, d3, d4⟩ := Row.fiveC (HR2.out w1 hb)
 go_wp2_with fail
 refine (HEO.out w1).mono ?_
 rintro e w2 ⟨⟨q, rfl, hq⟩, hb2⟩
 have hb := hb.trans (hb2.mono hb.size)
 clear hb2 d0 d1 d2 d3 d4 HEO
 cases q with
 | false =>
  have HCD : Hid (JK S r t k o y v pl = 3) := by show _ = _; unfold JK; rw [if_pos (fun h => by have := hq.2 h.2.1; cases this)]
  have HAW : Hid (JB S r t k o y v pl = JJ) := JO (by rw [HCD.out]; decide)
  clear hq
  have HO := HR3.out w2 hb
  obtain ⟨o0, o1, o2, o3, o4, o5, o6, o7, o8, o9⟩ := Row.ten HO
  obtain ⟨g0, g1, g2, g3, g4, g5, g6, g7, g8, g9⟩ := HO.frees
  have HRW := Ja (Js HO JJ (.slice none 0 0))
  have HBF : Hid (Below w.heap.size w (Jk w2 (w.heap.size + 1 + 1) JJ (.slice none 0 0))) := Jp (HF.out w2 hb) (by omega) _ _
  clear HO
  go_wp2
  rw [show _ = Jk w2 (w.heap.size + 1 + 1) ⟨0, 0, 0, 0, 0, 0, 0, ⟨#[]⟩, ⟨#[]⟩, []⟩ (.slice none 0 0) from Jt w2 (w.heap.size + 1 + 1) ⟨0, 0, 0, 0, 0, 0, 0, ⟨#[]⟩, ⟨#[]⟩, []⟩ (.slice none 0 0)]
  exact bodyPost_ret (Jz rfl rfl rfl rfl HRW.out) rfl ⟨.slice none 0 0, by rw [HCD.out, HAW.out]; rfl, by rw [HAW.out]; exact J7 _ _ _ _, HBF.out⟩
 | true =>
 have hE : EOk k o y v pl := hq.1 rfl
 clear hq
 by_cases hr : 0 ≤ r ∧ r ≤ 2
 case neg =>
  have hbb : (decide (0 ≤ r) && decide (r ≤ 2)) = false := by
   by_cases ha : 0 ≤ r <;> by_cases hb : r ≤ 2 <;> simp [ha, hb] <;> exact hr ⟨ha, hb⟩
  have HCD : Hid (JK S r t k o y v pl = 3) := by show _ = _; unfold JK; rw [if_pos (fun h => hr h.2.2.1)]
  have HAW : Hid (JB S r t k o y v pl = JJ) := JO (by rw [HCD.out]; decide)
  have HIC := Ja (JD r 0 2 w2)
  rw [hbb] at HIC
  clear hr hbb hS hE
  go_wp2_with fail
  refine HIC.out.mono ?_
  rintro e wq ⟨rfl, hq⟩
  replace hq := hq.symm
  subst hq
  have HO := HR3.out w2 hb
  obtain ⟨o0, o1, o2, o3, o4, o5, o6, o7, o8, o9⟩ := Row.ten HO
  obtain ⟨g0, g1, g2, g3, g4, g5, g6, g7, g8, g9⟩ := HO.frees
  have HRW := Ja (Js HO JJ (.slice none 0 0))
  have HBF : Hid (Below w.heap.size w (Jk w2 (w.heap.size + 1 + 1) JJ (.slice none 0 0))) := Jp (HF.out w2 hb) (by omega) _ _
  clear HO
  go_wp2
  rw [show _ = Jk w2 (w.heap.size + 1 + 1) ⟨0, 0, 0, 0, 0, 0, 0, ⟨#[]⟩, ⟨#[]⟩, []⟩ (.slice none 0 0) from Jt w2 (w.heap.size + 1 + 1) ⟨0, 0, 0, 0, 0, 0, 0, ⟨#[]⟩, ⟨#[]⟩, []⟩ (.slice none 0 0)]
  exact bodyPost_ret (Jz rfl rfl rfl rfl HRW.out) rfl ⟨.slice none 0 0, by rw [HCD.out, HAW.out]; rfl, by rw [HAW.out]; exact J7 _ _ _ _, HBF.out⟩
 have hbb : (decide (0 ≤ r) && decide (r ≤ 2)) = true := by simp [hr]
 have HIC := Ja (JD r 0 2 w2)
 rw [hbb] at HIC
 go_wp2_with fail
 refine HIC.out.mono ?_
 rintro e wq ⟨rfl, hq⟩
 replace hq := hq.symm
 subst hq
 clear hbb HIC
 by_cases ht : 1 ≤ t ∧ t ≤ 10000
 case neg =>
  have hbb : (decide (1 ≤ t) && decide (t ≤ 10000)) = false := by
   by_cases ha : 1 ≤ t <;> by_cases hb : t ≤ 10000 <;> simp [ha, hb] <;> exact ht ⟨ha, hb⟩
  have HCD : Hid (JK S r t k o y v pl = 3) := by show _ = _; unfold JK; rw [if_pos (fun h => ht h.2.2.2)]
  have HAW : Hid (JB S r t k o y v pl = JJ) := JO (by rw [HCD.out]; decide)
  have HIC := Ja (JD t 1 10000 w2)
  rw [hbb] at HIC
  clear hr ht hbb hS hE
  go_wp2_with fail
  refine HIC.out.mono ?_
  rintro e wq ⟨rfl, hq⟩
  replace hq := hq.symm
  subst hq
  have HO := HR3.out w2 hb
  obtain ⟨o0, o1, o2, o3, o4, o5, o6, o7, o8, o9⟩ := Row.ten HO
  obtain ⟨g0, g1, g2, g3, g4, g5, g6, g7, g8, g9⟩ := HO.frees
  have HRW := Ja (Js HO JJ (.slice none 0 0))
  have HBF : Hid (Below w.heap.size w (Jk w2 (w.heap.size + 1 + 1) JJ (.slice none 0 0))) := Jp (HF.out w2 hb) (by omega) _ _
  clear HO
  go_wp2
  rw [show _ = Jk w2 (w.heap.size + 1 + 1) ⟨0, 0, 0, 0, 0, 0, 0, ⟨#[]⟩, ⟨#[]⟩, []⟩ (.slice none 0 0) from Jt w2 (w.heap.size + 1 + 1) ⟨0, 0, 0, 0, 0, 0, 0, ⟨#[]⟩, ⟨#[]⟩, []⟩ (.slice none 0 0)]
  exact bodyPost_ret (Jz rfl rfl rfl rfl HRW.out) rfl ⟨.slice none 0 0, by rw [HCD.out, HAW.out]; rfl, by rw [HAW.out]; exact J7 _ _ _ _, HBF.out⟩
 have hbb : (decide (1 ≤ t) && decide (t ≤ 10000)) = true := by simp [ht]
 have HIC := Ja (JD t 1 10000 w2)
 rw [hbb] at HIC
 have HCB : Hid (JK S r t k o y v pl = if ¬ DOk r (S.l.getD r.toNat 0 + 1) then 3 else if Zv S k o pl = none then 5 else 0) := by show _ = _; unfold JK; rw [if_neg (fun h => h ⟨hS, hE, hr, ht⟩)]
 obtain ⟨rn, hrn⟩ : ∃ rn : Nat, r = (rn : Int) := Int.eq_ofNat_of_zero_le hr.1
 have hrl : rn < S.l.length := by rw [hS.1.1]; omega
 have hx0 := hS.1.2 _ (List.getElem_mem hrl)
 have hgd : S.l.getD r.toNat 0 = S.l[rn] := by rw [show r.toNat = rn by omega]; simp [List.getD, hrl]
 have HWA : Hid (JK S r t k o y v pl = 0 → JB S r t k o y v pl = ⟨r, S.l[rn] + 1, t, k, v, ((Zv S k o pl).getD (0, 0)).1, ((Zv S k o pl).getD (0, 0)).2, o, y, S.l⟩) := fun h => by unfold JB; rw [if_pos h]; unfold Jcf; rw [hgd]
 rw [hgd] at HCB
 have hl3 : S.l.length = 3 := hS.1.1
 have HSS := Ja hS
 obtain ⟨x, hx⟩ : ∃ x, x = S.l[rn] := ⟨_, rfl⟩
 have HCX : Hid (∀ wx, Below W.heap.size W wx → ∃ g f, a0 = some ⟨g, f, none⟩ ∧ wx.cell? ⟨g, f + rn, none⟩ = some (int i64 x)) := fun wx hb => by
  obtain ⟨aa, ca, hq, hg⟩ := (HS.out wx hb).1
  simp only [Value.slice.injEq] at hq
  obtain ⟨g, rfl', -, hcc⟩ := hg (by omega)
  exact ⟨g, 0, by rw [hq.1, rfl'], by rw [hx, Nat.zero_add]; exact hcc rn hrl⟩
 have HIU : Hid (∀ wx, Below W.heap.size W wx → IntsAt wx (.slice a0 S.l.length c0) S.l) := fun wx hb => (HS.out wx hb).1
 rw [← hx] at HCB HWA hx0
 have HKI : Hid (1 ≤ k ∧ k ≤ 7) := hE.1.1
 have HP0 : Hid (0 ≤ pl) := hE.2.1
 clear hE hS hgd
 go_wp2_with fail
 refine HIC.out.mono ?_
 rintro e wq ⟨rfl, hq⟩
 replace hq := hq.symm
 subst hq
 clear HIC hbb hx
 subst hrn
 have hnn : ((rn : Int)).toNat = rn := by omega
 have hx1 : (rn : Int) < (S.l.length : Int) := by omega
 have hx2 : (0 : Int) ≤ (rn : Int) := by omega
 obtain ⟨gk, fk, ha0, hcx0⟩ := HCX.out w2 hb
 subst ha0
 have HSC : Hid (∀ wx, Below W.heap.size W wx → wx.cell? ⟨w.heap.size, 0, none⟩ = some (.slice (some ⟨gk, fk, none⟩) S.l.length c0) ∧ wx.cell? ⟨w.heap.size + 1, 0, none⟩ = some (int i64 k) ∧ wx.cell? ⟨w.heap.size + 1, 1, none⟩ = some (.string o) ∧ wx.cell? ⟨w.heap.size + 1, 2, none⟩ = some (.string y) ∧ wx.cell? ⟨w.heap.size + 1, 3, none⟩ = some (int i64 v) ∧ wx.cell? ⟨gk, fk + rn, none⟩ = some (int i64 x)) := fun wx hb => by
  obtain ⟨e0, e1, e2, e3⟩ := Row.four (HR1.out wx hb)
  obtain ⟨d0, d1, d2, d3, d4⟩ := Row.fiveC (HR2.out wx hb)
  obtain ⟨g', f', hgf, hcx⟩ := HCX.out wx hb
  simp only [Option.some.injEq, Addr.mk.injEq, and_true] at hgf
  obtain ⟨rfl, rfl⟩ := hgf
  exact ⟨e0, d0, d1, d2, d3, hcx⟩
 clear hcx0 HCX
 have HL3 := Ja hl3
 clear hl3 hrl
 go_wp2
 try simp only [List.append_eq, List.cons_append, List.nil_append]
 have hBc : Below W.heap.size W w2.drew := hb.drew
 have hw1 : IntKind.i64.wrap (x + 1) = x + 1 := by rw [IntKind.wrap_i64] <;> omega

 refine wph HSC hBc 24 ?_
 refine tQ 0 Jih ?_ (HSC.out _ hBc)
 refine tQ 1 JjH ?_ (HSC.out _ hBc)
 refine tQ 2 JiZ ?_ (HSC.out _ hBc)
 refine tQ 3 Jkt ?_ (HSC.out _ hBc)
 refine tQ 4 JiE ?_ (HSC.out _ hBc)
 refine tQ 5 Jii ?_ (HSC.out _ hBc)
 refine tQ 6 JjP ?_ (HSC.out _ hBc)
 refine tQ 7 Jiz ?_ (HSC.out _ hBc)
 refine tQ 8 Jix ?_ (HSC.out _ hBc)
 refine tQ 10 Jfk ?_ (HSC.out _ hBc)
 refine tQ 11 Jfs ?_ (HSC.out _ hBc)
 refine tQ 13 Jff ?_ (HSC.out _ hBc)
 refine tQ 14 Jfn ?_ (HSC.out _ hBc)
 refine tQ 15 Jfm ?_ (HSC.out _ hBc)
 refine tQ 16 Jfz ?_ (HSC.out _ hBc)
 refine tQ 17 Jfv ?_ (HSC.out _ hBc)
 refine tQ 18 Jfy ?_ (HSC.out _ hBc)
 refine tQ 19 Jfb ?_ (HSC.out _ hBc)
 refine tQ 20 Jfr ?_ (HSC.out _ hBc)
 refine Jc2 (W := w2.drew) (B := w2.drew.heap.size) (l := S.l) rfl (by have := HL3.out; omega) rfl ?hP (fun wx h => HIU.out wx (hBc.trans (h.mono hBc.size))) (fun wx h => HSC.out wx (hBc.trans (h.mono hBc.size))) ?_
 case hP => exact fun _ _ d _ _ h => by cases d <;> exact h
 intro b u ga wx hbx hrx hga howx hne
 have hbY := hBc.trans (hbx.mono hBc.size)
 have hsw := hBc.size
 obtain ⟨A0, hA0⟩ : ∃ A0 : Ac, A0 = ⟨(rn : Int), x + 1, t, k, v, 0, 0, o, y, S.l⟩ := ⟨_, rfl⟩
 obtain ⟨au, cu, rfl, -⟩ := IntsAt.own (l := S.l) howx rfl
 refine rd 23 Jfg (fun K hK => ?_)
 obtain ⟨q0, q1, q2, q3, q4, q5, q6, q7, q8, q9⟩ := Row.ten hrx
 obtain ⟨f0, f1, f2, f3, f4, f5, f6, f7, f8, f9⟩ := hrx.frees
 have hga2 : W.heap.size ≤ ga := Nat.le_trans hBc.size hga
 go_simp
 rw [show _ = Jk wx ga ⟨(rn : Int), x + 1, t, k, v, 0, 0, o, y, S.l⟩ (.slice au S.l.length cu) from Jt wx ga ⟨(rn : Int), x + 1, t, k, v, 0, 0, o, y, S.l⟩ (.slice au S.l.length cu)]
 have hrY := Js hrx ⟨(rn : Int), x + 1, t, k, v, 0, 0, o, y, S.l⟩ (.slice au S.l.length cu)
 have hbYY : Below W.heap.size W (Jk wx ga ⟨(rn : Int), x + 1, t, k, v, 0, 0, o, y, S.l⟩ (.slice au S.l.length cu)) := Jp hbY hga2 _ _
 have hwx : w2.drew.heap.size ≤ wx.heap.size := hbx.size
 have howY : (Jk wx ga ⟨(rn : Int), x + 1, t, k, v, 0, 0, o, y, S.l⟩ (.slice au S.l.length cu)).ownsRow W.heap.size 3 1 (.slice au S.l.length cu) S.l.length (Jj S.l) := Jo (GK howx (fun j hj => hne j hj) _ _) hBc.size
 generalize Jk wx ga ⟨(rn : Int), x + 1, t, k, v, 0, 0, o, y, S.l⟩ (.slice au S.l.length cu) = Y at *
 clear q0 q1 q2 q3 q4 q5 q6 q7 q8 q9 f0 f1 f2 f3 f4 f5 f6 f7 f8 f9
 refine hK.out _ _ (HSC.out _ hbYY) (fun _ => ?_)
 have hneX := hne
 clear hK K hrx hbx howx hne
 simp only [s1, s2, s3]
 refine wpd ?_
 have hneY : ∀ j, (Value.slice au S.l.length cu).ownBlock = some j → j ≠ ga := hneX
 have HRY := Ja hrY
 have HOY := Ja howY
 clear hrY howY hbY hBc hsw
 clear hwx hga hb
 obtain ⟨d0, d1, d2, d3, d4⟩ := Row.fiveC (HR2.out Y hbYY)
 by_cases h7 : k = 7
 ·have b7 : (k == 7) = true := by simp [h7]
  have b6 : (k == 6) = false := by simp [h7]
  have H7 := Ja h7
  clear h7
  have HPI : Hid (∀ wx, Below W.heap.size W wx → Calls Tryz.prog 144 #[.agg #[.slice (some ⟨gk, fk, none⟩) S.l.length c0, .slice a1 S.T.length c1, .slice a2 S.L.length c2, .slice a3 S.C.length c3], .string o, int i64 pl] wx fun e w' => e = .returned (GJ (Zc S o pl)) ∧ Below wx.heap.size wx w') := fun wx hb => Ks S _ _ _ _ o pl wx (by omega) HSM.out HSN.out (HS.out wx hb)
  obtain ⟨e0, e1, e2, e3⟩ := Row.four (HR1.out Y hbYY)
  go_wp2_with fail
  refine (HPI.out Y hbYY).mono ?_
  rintro e Y2 ⟨rfl, hbz⟩
  have HRY2 := Ja (HRY.out.next hbz)
  have HOY2 := Ja (Jf HOY.out hbz)
  have hbY2 := hbYY.trans (hbz.mono hbYY.size)
  clear hbz e0 e1 e2 e3 d0 d1 d2 d3 d4 HPI HRY HOY hbYY
  obtain ⟨d0, d1, d2, d3, d4⟩ := Row.fiveC (HR2.out Y2 hbY2)
  obtain ⟨q0, q1, q2, q3, q4, q5, q6, q7, q8, q9⟩ := Row.ten HRY2.out
  obtain ⟨f0, f1, f2, f3, f4, f5, f6, f7, f8, f9⟩ := HRY2.out.frees
  obtain ⟨pr, hpr⟩ : ∃ pr, pr = Zc S o pl := ⟨_, rfl⟩
  rw [← hpr]
  cases pr with
  | none =>
   have HRF : Hid (Zv S k o pl = none) := by show _ = _; unfold Zv; rw [if_pos H7.out, ← hpr]; rfl
   clear hpr
   obtain ⟨V, hV⟩ : ∃ V, V = (Y2.setCell ⟨ga, 8, none⟩ (int i64 0)).setCell ⟨ga, 9, none⟩ (int i64 0) := ⟨_, rfl⟩
   have HRV : Hid (Row V ga #[int i64 (rn : Int), int i64 (x + 1), int i64 t, (.slice au S.l.length cu), int i64 k, .string o, .string y, int i64 v, int i64 0, int i64 0] 62) := by rw [hV]; exact (HRY2.out.s8 _).s9 _
   have hbV : Below W.heap.size W V := by rw [hV]; exact (hbY2.setCell hga2 _).setCell hga2 _
   have HOV : Hid (V.ownsRow W.heap.size 3 1 (.slice au S.l.length cu) S.l.length (Jj S.l)) := by rw [hV]; exact JL (JL HOY2.out hneY) hneY
   have HVV : Hid ((Y2.setCell ⟨ga, 8, none⟩ (int i64 0)).setCell ⟨ga, 9, none⟩ (int i64 0) = V) := hV.symm
   have HDV := Ja (HR2.out V hbV)
   obtain ⟨dd0, dd1, dd2, dd3, dd4⟩ := Row.fiveC HDV.out
   rw [hV] at dd0 dd1 dd2 dd3 dd4
   obtain ⟨qq0, qq1, qq2, qq3, qq4, qq5, qq6, qq7, qq8, qq9⟩ := Row.ten HRV.out
   rw [hV] at qq0 qq1 qq2 qq3 qq4 qq5 qq6 qq7 qq8 qq9
   clear hV HRY2 HOY2 hbY2
   unfold GJ
   go_wp2_with fail
   rw [HVV.out]
   refine (Jr (rn : Int) (x + 1) V).mono ?_
   rintro e Z ⟨rfl, hbz⟩
   have HRZ := Ja (HRV.out.next hbz)
   have HOZ := Ja (Jf HOV.out hbz)
   have hbZ := hbV.trans (hbz.mono hbV.size)
   clear hbz HVV q0 q1 q2 q3 q4 q5 q6 q7 q8 q9 f0 f1 f2 f3 f4 f5 f6 f7 f8 f9 dd0 dd1 dd2 dd3 dd4 qq0 qq1 qq2 qq3 qq4 qq5 qq6 qq7 qq8 qq9 d0 d1 d2 d3 d4
   by_cases hd : DOk (rn : Int) (x + 1)
   case neg =>
    rw [decide_eq_false hd]
    have HCD : Hid (JK S (rn : Int) t k o y v pl = 3) := by show _ = _; rw [HCB.out, if_pos hd]
    have HAW : Hid (JB S (rn : Int) t k o y v pl = JJ) := JO (by rw [HCD.out]; decide)
    clear hd
    have HO := HR3.out Z hbZ
    obtain ⟨o0, o1, o2, o3, o4, o5, o6, o7, o8, o9⟩ := Row.ten HO
    obtain ⟨g0, g1, g2, g3, g4, g5, g6, g7, g8, g9⟩ := HO.frees
    have HRW := Ja (Js HO JJ (.slice none 0 0))
    have HBF : Hid (Below w.heap.size w (Jk Z (w.heap.size + 1 + 1) JJ (.slice none 0 0))) := Jp (HF.out Z hbZ) (by omega) _ _
    clear HO
    go_wp2
    rw [show _ = Jk Z (w.heap.size + 1 + 1) ⟨0, 0, 0, 0, 0, 0, 0, ⟨#[]⟩, ⟨#[]⟩, []⟩ (.slice none 0 0) from Jt Z (w.heap.size + 1 + 1) ⟨0, 0, 0, 0, 0, 0, 0, ⟨#[]⟩, ⟨#[]⟩, []⟩ (.slice none 0 0)]
    exact bodyPost_ret (Jz rfl rfl rfl rfl HRW.out) rfl ⟨.slice none 0 0, by rw [HCD.out, HAW.out]; rfl, by rw [HAW.out]; exact J7 _ _ _ _, HBF.out⟩
   rw [decide_eq_true hd]
   have HCD : Hid (JK S (rn : Int) t k o y v pl = 5) := by show _ = _; rw [HCB.out, if_neg (fun h => h hd), if_pos HRF.out]
   have HAW : Hid (JB S (rn : Int) t k o y v pl = JJ) := JO (by rw [HCD.out]; decide)
   clear hd
   have HO := HR3.out Z hbZ
   obtain ⟨o0, o1, o2, o3, o4, o5, o6, o7, o8, o9⟩ := Row.ten HO
   obtain ⟨g0, g1, g2, g3, g4, g5, g6, g7, g8, g9⟩ := HO.frees
   have HRW := Ja (Js HO JJ (.slice none 0 0))
   have HBF : Hid (Below w.heap.size w (Jk Z (w.heap.size + 1 + 1) JJ (.slice none 0 0))) := Jp (HF.out Z hbZ) (by omega) _ _
   clear HO
   go_wp2
   rw [show _ = Jk Z (w.heap.size + 1 + 1) ⟨0, 0, 0, 0, 0, 0, 0, ⟨#[]⟩, ⟨#[]⟩, []⟩ (.slice none 0 0) from Jt Z (w.heap.size + 1 + 1) ⟨0, 0, 0, 0, 0, 0, 0, ⟨#[]⟩, ⟨#[]⟩, []⟩ (.slice none 0 0)]
   exact bodyPost_ret (Jz rfl rfl rfl rfl HRW.out) rfl ⟨.slice none 0 0, by rw [HCD.out, HAW.out]; rfl, by rw [HAW.out]; exact J7 _ _ _ _, HBF.out⟩
  | some c =>
   have HRF : Hid (Zv S k o pl = some (c.r, c.s)) := by show _ = _; unfold Zv; rw [if_pos H7.out, ← hpr]; rfl
   clear hpr
   obtain ⟨V, hV⟩ : ∃ V, V = (Y2.setCell ⟨ga, 8, none⟩ (int i64 c.r)).setCell ⟨ga, 9, none⟩ (int i64 c.s) := ⟨_, rfl⟩
   have HRV : Hid (Row V ga #[int i64 (rn : Int), int i64 (x + 1), int i64 t, (.slice au S.l.length cu), int i64 k, .string o, .string y, int i64 v, int i64 c.r, int i64 c.s] 62) := by rw [hV]; exact (HRY2.out.s8 _).s9 _
   have hbV : Below W.heap.size W V := by rw [hV]; exact (hbY2.setCell hga2 _).setCell hga2 _
   have HOV : Hid (V.ownsRow W.heap.size 3 1 (.slice au S.l.length cu) S.l.length (Jj S.l)) := by rw [hV]; exact JL (JL HOY2.out hneY) hneY
   have HVV : Hid ((Y2.setCell ⟨ga, 8, none⟩ (int i64 c.r)).setCell ⟨ga, 9, none⟩ (int i64 c.s) = V) := hV.symm
   have HDV := Ja (HR2.out V hbV)
   obtain ⟨dd0, dd1, dd2, dd3, dd4⟩ := Row.fiveC HDV.out
   rw [hV] at dd0 dd1 dd2 dd3 dd4
   obtain ⟨qq0, qq1, qq2, qq3, qq4, qq5, qq6, qq7, qq8, qq9⟩ := Row.ten HRV.out
   rw [hV] at qq0 qq1 qq2 qq3 qq4 qq5 qq6 qq7 qq8 qq9
   clear hV HRY2 HOY2 hbY2
   unfold GJ
   go_wp2_with fail
   rw [HVV.out]
   refine (Jr (rn : Int) (x + 1) V).mono ?_
   rintro e Z ⟨rfl, hbz⟩
   have HRZ := Ja (HRV.out.next hbz)
   have HOZ := Ja (Jf HOV.out hbz)
   have hbZ := hbV.trans (hbz.mono hbV.size)
   clear hbz HVV q0 q1 q2 q3 q4 q5 q6 q7 q8 q9 f0 f1 f2 f3 f4 f5 f6 f7 f8 f9 dd0 dd1 dd2 dd3 dd4 qq0 qq1 qq2 qq3 qq4 qq5 qq6 qq7 qq8 qq9 d0 d1 d2 d3 d4
   by_cases hd : DOk (rn : Int) (x + 1)
   case neg =>
    rw [decide_eq_false hd]
    have HCD : Hid (JK S (rn : Int) t k o y v pl = 3) := by show _ = _; rw [HCB.out, if_pos hd]
    have HAW : Hid (JB S (rn : Int) t k o y v pl = JJ) := JO (by rw [HCD.out]; decide)
    clear hd
    have HO := HR3.out Z hbZ
    obtain ⟨o0, o1, o2, o3, o4, o5, o6, o7, o8, o9⟩ := Row.ten HO
    obtain ⟨g0, g1, g2, g3, g4, g5, g6, g7, g8, g9⟩ := HO.frees
    have HRW := Ja (Js HO JJ (.slice none 0 0))
    have HBF : Hid (Below w.heap.size w (Jk Z (w.heap.size + 1 + 1) JJ (.slice none 0 0))) := Jp (HF.out Z hbZ) (by omega) _ _
    clear HO
    go_wp2
    rw [show _ = Jk Z (w.heap.size + 1 + 1) ⟨0, 0, 0, 0, 0, 0, 0, ⟨#[]⟩, ⟨#[]⟩, []⟩ (.slice none 0 0) from Jt Z (w.heap.size + 1 + 1) ⟨0, 0, 0, 0, 0, 0, 0, ⟨#[]⟩, ⟨#[]⟩, []⟩ (.slice none 0 0)]
    exact bodyPost_ret (Jz rfl rfl rfl rfl HRW.out) rfl ⟨.slice none 0 0, by rw [HCD.out, HAW.out]; rfl, by rw [HAW.out]; exact J7 _ _ _ _, HBF.out⟩
   rw [decide_eq_true hd]
   have HCD : Hid (JK S (rn : Int) t k o y v pl = 0) := by show _ = _; rw [HCB.out, if_neg (fun h => h hd), if_neg (by rw [HRF.out]; simp)]
   have HAW : Hid (JB S (rn : Int) t k o y v pl = ⟨(rn : Int), x + 1, t, k, v, c.r, c.s, o, y, S.l⟩) := by show _ = _; rw [HWA.out HCD.out, HRF.out]; rfl
   have hAok : AOk ⟨(rn : Int), x + 1, t, k, v, c.r, c.s, o, y, S.l⟩ := by rw [← HAW.out]; unfold JB; rw [if_pos HCD.out]; exact Uo HCD.out
   have HAC := Ja (J8 ⟨(rn : Int), x + 1, t, k, v, c.r, c.s, o, y, S.l⟩ (.slice au S.l.length cu) Z ⟨HSM.out.1, ho, hy⟩ (IntsAt.own HOZ.out rfl))
   rw [decide_eq_true hAok] at HAC
   clear hd hAok
   obtain ⟨q0, q1, q2, q3, q4, q5, q6, q7, q8, q9⟩ := Row.ten HRZ.out
   go_wp2_with fail
   refine HAC.out.mono ?_
   rintro e Z2 ⟨rfl, hbz⟩
   have HRW2 := Ja (HRZ.out.next hbz)
   have HOW2 := Ja (Jf HOZ.out hbz)
   have hbZ2 := hbZ.trans (hbz.mono hbZ.size)
   clear hbz q0 q1 q2 q3 q4 q5 q6 q7 q8 q9 HAC
   obtain ⟨q0, q1, q2, q3, q4, q5, q6, q7, q8, q9⟩ := Row.ten HRW2.out
   have HO := HR3.out Z2 hbZ2
   obtain ⟨o0, o1, o2, o3, o4, o5, o6, o7, o8, o9⟩ := Row.ten HO
   obtain ⟨g0, g1, g2, g3, g4, g5, g6, g7, g8, g9⟩ := HO.frees
   have HRW := Ja (Js HO ⟨(rn : Int), x + 1, t, k, v, c.r, c.s, o, y, S.l⟩ (.slice au S.l.length cu))
   have HBF : Hid (Below w.heap.size w (Jk Z2 (w.heap.size + 1 + 1) ⟨(rn : Int), x + 1, t, k, v, c.r, c.s, o, y, S.l⟩ (.slice au S.l.length cu))) := Jp (HF.out Z2 hbZ2) (by omega) _ _
   have HOF : Hid ((Jk Z2 (w.heap.size + 1 + 1) ⟨(rn : Int), x + 1, t, k, v, c.r, c.s, o, y, S.l⟩ (.slice au S.l.length cu)).ownsRow w.heap.size 3 1 (.slice au S.l.length cu) S.l.length (Jj S.l)) := Jo (Ku HOW2.out (by omega) _ _) (by omega)
   clear HO
   go_wp2
   rw [show _ = Jk Z2 (w.heap.size + 1 + 1) ⟨(rn : Int), x + 1, t, k, v, c.r, c.s, o, y, S.l⟩ (.slice au S.l.length cu) from Jt Z2 (w.heap.size + 1 + 1) ⟨(rn : Int), x + 1, t, k, v, c.r, c.s, o, y, S.l⟩ (.slice au S.l.length cu)]
   exact bodyPost_ret (Jz rfl rfl rfl rfl HRW.out) rfl ⟨(.slice au S.l.length cu), by rw [HCD.out, HAW.out]; rfl, by rw [HAW.out]; exact HOF.out, HBF.out⟩
 have b7 : (k == 7) = false := by simp [h7]
 by_cases h6 : k = 6 ∧ 0 < pl
 ·have b6 : (k == 6) = true := by simp [h6.1]
  have hp0 := h6.2
  have hwp : IntKind.i64.wrap (pl - 1) = pl - 1 := by rw [IntKind.wrap_i64] <;> omega
  have H6 := Ja h6
  clear h6
  have HPI : Hid (∀ wx, Below W.heap.size W wx → Calls Tryz.prog 144 #[.agg #[.slice (some ⟨gk, fk, none⟩) S.l.length c0, .slice a1 S.T.length c1, .slice a2 S.L.length c2, .slice a3 S.C.length c3], .string o, int i64 (pl - 1)] wx fun e w' => e = .returned (GJ (Zc S o (pl - 1))) ∧ Below wx.heap.size wx w') := fun wx hb => Ks S _ _ _ _ o (pl - 1) wx (by omega) HSM.out HSN.out (HS.out wx hb)
  obtain ⟨e0, e1, e2, e3⟩ := Row.four (HR1.out Y hbYY)
  go_wp2_with fail
  refine (HPI.out Y hbYY).mono ?_
  rintro e Y2 ⟨rfl, hbz⟩
  have HRY2 := Ja (HRY.out.next hbz)
  have HOY2 := Ja (Jf HOY.out hbz)
  have hbY2 := hbYY.trans (hbz.mono hbYY.size)
  clear hbz e0 e1 e2 e3 d0 d1 d2 d3 d4 HPI HRY HOY hbYY
  obtain ⟨d0, d1, d2, d3, d4⟩ := Row.fiveC (HR2.out Y2 hbY2)
  obtain ⟨q0, q1, q2, q3, q4, q5, q6, q7, q8, q9⟩ := Row.ten HRY2.out
  obtain ⟨f0, f1, f2, f3, f4, f5, f6, f7, f8, f9⟩ := HRY2.out.frees
  obtain ⟨pr, hpr⟩ : ∃ pr, pr = Zc S o (pl - 1) := ⟨_, rfl⟩
  rw [← hpr]
  cases pr with
  | none =>
   have HRF : Hid (Zv S k o pl = none) := by show _ = _; unfold Zv; rw [if_neg h7, if_pos H6.out, ← hpr]; rfl
   clear hpr
   obtain ⟨V, hV⟩ : ∃ V, V = (Y2.setCell ⟨ga, 8, none⟩ (int i64 0)).setCell ⟨ga, 9, none⟩ (int i64 0) := ⟨_, rfl⟩
   have HRV : Hid (Row V ga #[int i64 (rn : Int), int i64 (x + 1), int i64 t, (.slice au S.l.length cu), int i64 k, .string o, .string y, int i64 v, int i64 0, int i64 0] 62) := by rw [hV]; exact (HRY2.out.s8 _).s9 _
   have hbV : Below W.heap.size W V := by rw [hV]; exact (hbY2.setCell hga2 _).setCell hga2 _
   have HOV : Hid (V.ownsRow W.heap.size 3 1 (.slice au S.l.length cu) S.l.length (Jj S.l)) := by rw [hV]; exact JL (JL HOY2.out hneY) hneY
   have HVV : Hid ((Y2.setCell ⟨ga, 8, none⟩ (int i64 0)).setCell ⟨ga, 9, none⟩ (int i64 0) = V) := hV.symm
   have HDV := Ja (HR2.out V hbV)
   obtain ⟨dd0, dd1, dd2, dd3, dd4⟩ := Row.fiveC HDV.out
   rw [hV] at dd0 dd1 dd2 dd3 dd4
   obtain ⟨qq0, qq1, qq2, qq3, qq4, qq5, qq6, qq7, qq8, qq9⟩ := Row.ten HRV.out
   rw [hV] at qq0 qq1 qq2 qq3 qq4 qq5 qq6 qq7 qq8 qq9
   clear hV HRY2 HOY2 hbY2
   unfold GJ
   go_wp2_with fail
   rw [HVV.out]
   refine (Jr (rn : Int) (x + 1) V).mono ?_
   rintro e Z ⟨rfl, hbz⟩
   have HRZ := Ja (HRV.out.next hbz)
   have HOZ := Ja (Jf HOV.out hbz)
   have hbZ := hbV.trans (hbz.mono hbV.size)
   clear hbz HVV q0 q1 q2 q3 q4 q5 q6 q7 q8 q9 f0 f1 f2 f3 f4 f5 f6 f7 f8 f9 dd0 dd1 dd2 dd3 dd4 qq0 qq1 qq2 qq3 qq4 qq5 qq6 qq7 qq8 qq9 d0 d1 d2 d3 d4
   by_cases hd : DOk (rn : Int) (x + 1)
   case neg =>
    rw [decide_eq_false hd]
    have HCD : Hid (JK S (rn : Int) t k o y v pl = 3) := by show _ = _; rw [HCB.out, if_pos hd]
    have HAW : Hid (JB S (rn : Int) t k o y v pl = JJ) := JO (by rw [HCD.out]; decide)
    clear hd
    have HO := HR3.out Z hbZ
    obtain ⟨o0, o1, o2, o3, o4, o5, o6, o7, o8, o9⟩ := Row.ten HO
    obtain ⟨g0, g1, g2, g3, g4, g5, g6, g7, g8, g9⟩ := HO.frees
    have HRW := Ja (Js HO JJ (.slice none 0 0))
    have HBF : Hid (Below w.heap.size w (Jk Z (w.heap.size + 1 + 1) JJ (.slice none 0 0))) := Jp (HF.out Z hbZ) (by omega) _ _
    clear HO
    go_wp2
    rw [show _ = Jk Z (w.heap.size + 1 + 1) ⟨0, 0, 0, 0, 0, 0, 0, ⟨#[]⟩, ⟨#[]⟩, []⟩ (.slice none 0 0) from Jt Z (w.heap.size + 1 + 1) ⟨0, 0, 0, 0, 0, 0, 0, ⟨#[]⟩, ⟨#[]⟩, []⟩ (.slice none 0 0)]
    exact bodyPost_ret (Jz rfl rfl rfl rfl HRW.out) rfl ⟨.slice none 0 0, by rw [HCD.out, HAW.out]; rfl, by rw [HAW.out]; exact J7 _ _ _ _, HBF.out⟩
   rw [decide_eq_true hd]
   have HCD : Hid (JK S (rn : Int) t k o y v pl = 5) := by show _ = _; rw [HCB.out, if_neg (fun h => h hd), if_pos HRF.out]
   have HAW : Hid (JB S (rn : Int) t k o y v pl = JJ) := JO (by rw [HCD.out]; decide)
   clear hd
   have HO := HR3.out Z hbZ
   obtain ⟨o0, o1, o2, o3, o4, o5, o6, o7, o8, o9⟩ := Row.ten HO
   obtain ⟨g0, g1, g2, g3, g4, g5, g6, g7, g8, g9⟩ := HO.frees
   have HRW := Ja (Js HO JJ (.slice none 0 0))
   have HBF : Hid (Below w.heap.size w (Jk Z (w.heap.size + 1 + 1) JJ (.slice none 0 0))) := Jp (HF.out Z hbZ) (by omega) _ _
   clear HO
   go_wp2
   rw [show _ = Jk Z (w.heap.size + 1 + 1) ⟨0, 0, 0, 0, 0, 0, 0, ⟨#[]⟩, ⟨#[]⟩, []⟩ (.slice none 0 0) from Jt Z (w.heap.size + 1 + 1) ⟨0, 0, 0, 0, 0, 0, 0, ⟨#[]⟩, ⟨#[]⟩, []⟩ (.slice none 0 0)]
   exact bodyPost_ret (Jz rfl rfl rfl rfl HRW.out) rfl ⟨.slice none 0 0, by rw [HCD.out, HAW.out]; rfl, by rw [HAW.out]; exact J7 _ _ _ _, HBF.out⟩
  | some c =>
   have HRF : Hid (Zv S k o pl = some (c.r, c.s)) := by show _ = _; unfold Zv; rw [if_neg h7, if_pos H6.out, ← hpr]; rfl
   clear hpr
   obtain ⟨V, hV⟩ : ∃ V, V = (Y2.setCell ⟨ga, 8, none⟩ (int i64 c.r)).setCell ⟨ga, 9, none⟩ (int i64 c.s) := ⟨_, rfl⟩
   have HRV : Hid (Row V ga #[int i64 (rn : Int), int i64 (x + 1), int i64 t, (.slice au S.l.length cu), int i64 k, .string o, .string y, int i64 v, int i64 c.r, int i64 c.s] 62) := by rw [hV]; exact (HRY2.out.s8 _).s9 _
   have hbV : Below W.heap.size W V := by rw [hV]; exact (hbY2.setCell hga2 _).setCell hga2 _
   have HOV : Hid (V.ownsRow W.heap.size 3 1 (.slice au S.l.length cu) S.l.length (Jj S.l)) := by rw [hV]; exact JL (JL HOY2.out hneY) hneY
   have HVV : Hid ((Y2.setCell ⟨ga, 8, none⟩ (int i64 c.r)).setCell ⟨ga, 9, none⟩ (int i64 c.s) = V) := hV.symm
   have HDV := Ja (HR2.out V hbV)
   obtain ⟨dd0, dd1, dd2, dd3, dd4⟩ := Row.fiveC HDV.out
   rw [hV] at dd0 dd1 dd2 dd3 dd4
   obtain ⟨qq0, qq1, qq2, qq3, qq4, qq5, qq6, qq7, qq8, qq9⟩ := Row.ten HRV.out
   rw [hV] at qq0 qq1 qq2 qq3 qq4 qq5 qq6 qq7 qq8 qq9
   clear hV HRY2 HOY2 hbY2
   unfold GJ
   go_wp2_with fail
   rw [HVV.out]
   refine (Jr (rn : Int) (x + 1) V).mono ?_
   rintro e Z ⟨rfl, hbz⟩
   have HRZ := Ja (HRV.out.next hbz)
   have HOZ := Ja (Jf HOV.out hbz)
   have hbZ := hbV.trans (hbz.mono hbV.size)
   clear hbz HVV q0 q1 q2 q3 q4 q5 q6 q7 q8 q9 f0 f1 f2 f3 f4 f5 f6 f7 f8 f9 dd0 dd1 dd2 dd3 dd4 qq0 qq1 qq2 qq3 qq4 qq5 qq6 qq7 qq8 qq9 d0 d1 d2 d3 d4
   by_cases hd : DOk (rn : Int) (x + 1)
   case neg =>
    rw [decide_eq_false hd]
    have HCD : Hid (JK S (rn : Int) t k o y v pl = 3) := by show _ = _; rw [HCB.out, if_pos hd]
    have HAW : Hid (JB S (rn : Int) t k o y v pl = JJ) := JO (by rw [HCD.out]; decide)
    clear hd
    have HO := HR3.out Z hbZ
    obtain ⟨o0, o1, o2, o3, o4, o5, o6, o7, o8, o9⟩ := Row.ten HO
    obtain ⟨g0, g1, g2, g3, g4, g5, g6, g7, g8, g9⟩ := HO.frees
    have HRW := Ja (Js HO JJ (.slice none 0 0))
    have HBF : Hid (Below w.heap.size w (Jk Z (w.heap.size + 1 + 1) JJ (.slice none 0 0))) := Jp (HF.out Z hbZ) (by omega) _ _
    clear HO
    go_wp2
    rw [show _ = Jk Z (w.heap.size + 1 + 1) ⟨0, 0, 0, 0, 0, 0, 0, ⟨#[]⟩, ⟨#[]⟩, []⟩ (.slice none 0 0) from Jt Z (w.heap.size + 1 + 1) ⟨0, 0, 0, 0, 0, 0, 0, ⟨#[]⟩, ⟨#[]⟩, []⟩ (.slice none 0 0)]
    exact bodyPost_ret (Jz rfl rfl rfl rfl HRW.out) rfl ⟨.slice none 0 0, by rw [HCD.out, HAW.out]; rfl, by rw [HAW.out]; exact J7 _ _ _ _, HBF.out⟩
   rw [decide_eq_true hd]
   have HCD : Hid (JK S (rn : Int) t k o y v pl = 0) := by show _ = _; rw [HCB.out, if_neg (fun h => h hd), if_neg (by rw [HRF.out]; simp)]
   have HAW : Hid (JB S (rn : Int) t k o y v pl = ⟨(rn : Int), x + 1, t, k, v, c.r, c.s, o, y, S.l⟩) := by show _ = _; rw [HWA.out HCD.out, HRF.out]; rfl
   have hAok : AOk ⟨(rn : Int), x + 1, t, k, v, c.r, c.s, o, y, S.l⟩ := by rw [← HAW.out]; unfold JB; rw [if_pos HCD.out]; exact Uo HCD.out
   have HAC := Ja (J8 ⟨(rn : Int), x + 1, t, k, v, c.r, c.s, o, y, S.l⟩ (.slice au S.l.length cu) Z ⟨HSM.out.1, ho, hy⟩ (IntsAt.own HOZ.out rfl))
   rw [decide_eq_true hAok] at HAC
   clear hd hAok
   obtain ⟨q0, q1, q2, q3, q4, q5, q6, q7, q8, q9⟩ := Row.ten HRZ.out
   go_wp2_with fail
   refine HAC.out.mono ?_
   rintro e Z2 ⟨rfl, hbz⟩
   have HRW2 := Ja (HRZ.out.next hbz)
   have HOW2 := Ja (Jf HOZ.out hbz)
   have hbZ2 := hbZ.trans (hbz.mono hbZ.size)
   clear hbz q0 q1 q2 q3 q4 q5 q6 q7 q8 q9 HAC
   obtain ⟨q0, q1, q2, q3, q4, q5, q6, q7, q8, q9⟩ := Row.ten HRW2.out
   have HO := HR3.out Z2 hbZ2
   obtain ⟨o0, o1, o2, o3, o4, o5, o6, o7, o8, o9⟩ := Row.ten HO
   obtain ⟨g0, g1, g2, g3, g4, g5, g6, g7, g8, g9⟩ := HO.frees
   have HRW := Ja (Js HO ⟨(rn : Int), x + 1, t, k, v, c.r, c.s, o, y, S.l⟩ (.slice au S.l.length cu))
   have HBF : Hid (Below w.heap.size w (Jk Z2 (w.heap.size + 1 + 1) ⟨(rn : Int), x + 1, t, k, v, c.r, c.s, o, y, S.l⟩ (.slice au S.l.length cu))) := Jp (HF.out Z2 hbZ2) (by omega) _ _
   have HOF : Hid ((Jk Z2 (w.heap.size + 1 + 1) ⟨(rn : Int), x + 1, t, k, v, c.r, c.s, o, y, S.l⟩ (.slice au S.l.length cu)).ownsRow w.heap.size 3 1 (.slice au S.l.length cu) S.l.length (Jj S.l)) := Jo (Ku HOW2.out (by omega) _ _) (by omega)
   clear HO
   go_wp2
   rw [show _ = Jk Z2 (w.heap.size + 1 + 1) ⟨(rn : Int), x + 1, t, k, v, c.r, c.s, o, y, S.l⟩ (.slice au S.l.length cu) from Jt Z2 (w.heap.size + 1 + 1) ⟨(rn : Int), x + 1, t, k, v, c.r, c.s, o, y, S.l⟩ (.slice au S.l.length cu)]
   exact bodyPost_ret (Jz rfl rfl rfl rfl HRW.out) rfl ⟨(.slice au S.l.length cu), by rw [HCD.out, HAW.out]; rfl, by rw [HAW.out]; exact HOF.out, HBF.out⟩
 have HRF : Hid (Zv S k o pl = some (0, 0)) := by show _ = _; unfold Zv; rw [if_neg h7, if_neg h6]
 by_cases h6k : k = 6
 ·have b6 : (k == 6) = true := by simp [h6k]
  have hp0 : ¬ (0 < pl) := fun h => h6 ⟨h6k, h⟩
  clear h6 h6k
  obtain ⟨q0, q1, q2, q3, q4, q5, q6, q7, q8, q9⟩ := Row.ten HRY.out
  go_wp2_with fail
  refine (Jr (rn : Int) (x + 1) _).mono ?_
  rintro e Z ⟨rfl, hbz⟩
  have HRZ := Ja (HRY.out.next hbz)
  have HOZ := Ja (Jf HOY.out hbz)
  have hbZ := (hbYY).trans (hbz.mono (hbYY).size)
  clear hbz q0 q1 q2 q3 q4 q5 q6 q7 q8 q9
  by_cases hd : DOk (rn : Int) (x + 1)
  case neg =>
   rw [decide_eq_false hd]
   have HCD : Hid (JK S (rn : Int) t k o y v pl = 3) := by show _ = _; rw [HCB.out, if_pos hd]
   have HAW : Hid (JB S (rn : Int) t k o y v pl = JJ) := JO (by rw [HCD.out]; decide)
   clear hd
   have HO := HR3.out Z hbZ
   obtain ⟨o0, o1, o2, o3, o4, o5, o6, o7, o8, o9⟩ := Row.ten HO
   obtain ⟨g0, g1, g2, g3, g4, g5, g6, g7, g8, g9⟩ := HO.frees
   have HRW := Ja (Js HO JJ (.slice none 0 0))
   have HBF : Hid (Below w.heap.size w (Jk Z (w.heap.size + 1 + 1) JJ (.slice none 0 0))) := Jp (HF.out Z hbZ) (by omega) _ _
   clear HO
   go_wp2
   rw [show _ = Jk Z (w.heap.size + 1 + 1) ⟨0, 0, 0, 0, 0, 0, 0, ⟨#[]⟩, ⟨#[]⟩, []⟩ (.slice none 0 0) from Jt Z (w.heap.size + 1 + 1) ⟨0, 0, 0, 0, 0, 0, 0, ⟨#[]⟩, ⟨#[]⟩, []⟩ (.slice none 0 0)]
   exact bodyPost_ret (Jz rfl rfl rfl rfl HRW.out) rfl ⟨.slice none 0 0, by rw [HCD.out, HAW.out]; rfl, by rw [HAW.out]; exact J7 _ _ _ _, HBF.out⟩
  rw [decide_eq_true hd]
  have HCD : Hid (JK S (rn : Int) t k o y v pl = 0) := by show _ = _; rw [HCB.out, if_neg (fun h => h hd), if_neg (by rw [HRF.out]; simp)]
  have HAW : Hid (JB S (rn : Int) t k o y v pl = ⟨(rn : Int), x + 1, t, k, v, 0, 0, o, y, S.l⟩) := by show _ = _; rw [HWA.out HCD.out, HRF.out]; rfl
  have hAok : AOk ⟨(rn : Int), x + 1, t, k, v, 0, 0, o, y, S.l⟩ := by rw [← HAW.out]; unfold JB; rw [if_pos HCD.out]; exact Uo HCD.out
  have HAC := Ja (J8 ⟨(rn : Int), x + 1, t, k, v, 0, 0, o, y, S.l⟩ (.slice au S.l.length cu) Z ⟨HSM.out.1, ho, hy⟩ (IntsAt.own HOZ.out rfl))
  rw [decide_eq_true hAok] at HAC
  clear hd hAok
  obtain ⟨q0, q1, q2, q3, q4, q5, q6, q7, q8, q9⟩ := Row.ten HRZ.out
  go_wp2_with fail
  refine HAC.out.mono ?_
  rintro e Z2 ⟨rfl, hbz⟩
  have HRW2 := Ja (HRZ.out.next hbz)
  have HOW2 := Ja (Jf HOZ.out hbz)
  have hbZ2 := hbZ.trans (hbz.mono hbZ.size)
  clear hbz q0 q1 q2 q3 q4 q5 q6 q7 q8 q9 HAC
  obtain ⟨q0, q1, q2, q3, q4, q5, q6, q7, q8, q9⟩ := Row.ten HRW2.out
  have HO := HR3.out Z2 hbZ2
  obtain ⟨o0, o1, o2, o3, o4, o5, o6, o7, o8, o9⟩ := Row.ten HO
  obtain ⟨g0, g1, g2, g3, g4, g5, g6, g7, g8, g9⟩ := HO.frees
  have HRW := Ja (Js HO ⟨(rn : Int), x + 1, t, k, v, 0, 0, o, y, S.l⟩ (.slice au S.l.length cu))
  have HBF : Hid (Below w.heap.size w (Jk Z2 (w.heap.size + 1 + 1) ⟨(rn : Int), x + 1, t, k, v, 0, 0, o, y, S.l⟩ (.slice au S.l.length cu))) := Jp (HF.out Z2 hbZ2) (by omega) _ _
  have HOF : Hid ((Jk Z2 (w.heap.size + 1 + 1) ⟨(rn : Int), x + 1, t, k, v, 0, 0, o, y, S.l⟩ (.slice au S.l.length cu)).ownsRow w.heap.size 3 1 (.slice au S.l.length cu) S.l.length (Jj S.l)) := Jo (Ku HOW2.out (by omega) _ _) (by omega)
  clear HO
  go_wp2
  rw [show _ = Jk Z2 (w.heap.size + 1 + 1) ⟨(rn : Int), x + 1, t, k, v, 0, 0, o, y, S.l⟩ (.slice au S.l.length cu) from Jt Z2 (w.heap.size + 1 + 1) ⟨(rn : Int), x + 1, t, k, v, 0, 0, o, y, S.l⟩ (.slice au S.l.length cu)]
  exact bodyPost_ret (Jz rfl rfl rfl rfl HRW.out) rfl ⟨(.slice au S.l.length cu), by rw [HCD.out, HAW.out]; rfl, by rw [HAW.out]; exact HOF.out, HBF.out⟩
 have b6 : (k == 6) = false := by simp [h6k]
 obtain ⟨q0, q1, q2, q3, q4, q5, q6, q7, q8, q9⟩ := Row.ten HRY.out
 go_wp2_with fail
 refine (Jr (rn : Int) (x + 1) _).mono ?_
 rintro e Z ⟨rfl, hbz⟩
 have HRZ := Ja (HRY.out.next hbz)
 have HOZ := Ja (Jf HOY.out hbz)
 have hbZ := (hbYY).trans (hbz.mono (hbYY).size)
 clear hbz q0 q1 q2 q3 q4 q5 q6 q7 q8 q9
 by_cases hd : DOk (rn : Int) (x + 1)
 case neg =>
  rw [decide_eq_false hd]
  have HCD : Hid (JK S (rn : Int) t k o y v pl = 3) := by show _ = _; rw [HCB.out, if_pos hd]
  have HAW : Hid (JB S (rn : Int) t k o y v pl = JJ) := JO (by rw [HCD.out]; decide)
  clear hd
  have HO := HR3.out Z hbZ
  obtain ⟨o0, o1, o2, o3, o4, o5, o6, o7, o8, o9⟩ := Row.ten HO
  obtain ⟨g0, g1, g2, g3, g4, g5, g6, g7, g8, g9⟩ := HO.frees
  have HRW := Ja (Js HO JJ (.slice none 0 0))
  have HBF : Hid (Below w.heap.size w (Jk Z (w.heap.size + 1 + 1) JJ (.slice none 0 0))) := Jp (HF.out Z hbZ) (by omega) _ _
  clear HO
  go_wp2
  rw [show _ = Jk Z (w.heap.size + 1 + 1) ⟨0, 0, 0, 0, 0, 0, 0, ⟨#[]⟩, ⟨#[]⟩, []⟩ (.slice none 0 0) from Jt Z (w.heap.size + 1 + 1) ⟨0, 0, 0, 0, 0, 0, 0, ⟨#[]⟩, ⟨#[]⟩, []⟩ (.slice none 0 0)]
  exact bodyPost_ret (Jz rfl rfl rfl rfl HRW.out) rfl ⟨.slice none 0 0, by rw [HCD.out, HAW.out]; rfl, by rw [HAW.out]; exact J7 _ _ _ _, HBF.out⟩
 rw [decide_eq_true hd]
 have HCD : Hid (JK S (rn : Int) t k o y v pl = 0) := by show _ = _; rw [HCB.out, if_neg (fun h => h hd), if_neg (by rw [HRF.out]; simp)]
 have HAW : Hid (JB S (rn : Int) t k o y v pl = ⟨(rn : Int), x + 1, t, k, v, 0, 0, o, y, S.l⟩) := by show _ = _; rw [HWA.out HCD.out, HRF.out]; rfl
 have hAok : AOk ⟨(rn : Int), x + 1, t, k, v, 0, 0, o, y, S.l⟩ := by rw [← HAW.out]; unfold JB; rw [if_pos HCD.out]; exact Uo HCD.out
 have HAC := Ja (J8 ⟨(rn : Int), x + 1, t, k, v, 0, 0, o, y, S.l⟩ (.slice au S.l.length cu) Z ⟨HSM.out.1, ho, hy⟩ (IntsAt.own HOZ.out rfl))
 rw [decide_eq_true hAok] at HAC
 clear hd hAok
 obtain ⟨q0, q1, q2, q3, q4, q5, q6, q7, q8, q9⟩ := Row.ten HRZ.out
 go_wp2_with fail
 refine HAC.out.mono ?_
 rintro e Z2 ⟨rfl, hbz⟩
 have HRW2 := Ja (HRZ.out.next hbz)
 have HOW2 := Ja (Jf HOZ.out hbz)
 have hbZ2 := hbZ.trans (hbz.mono hbZ.size)
 clear hbz q0 q1 q2 q3 q4 q5 q6 q7 q8 q9 HAC
 obtain ⟨q0, q1, q2, q3, q4, q5, q6, q7, q8, q9⟩ := Row.ten HRW2.out
 have HO := HR3.out Z2 hbZ2
 obtain ⟨o0, o1, o2, o3, o4, o5, o6, o7, o8, o9⟩ := Row.ten HO
 obtain ⟨g0, g1, g2, g3, g4, g5, g6, g7, g8, g9⟩ := HO.frees
 have HRW := Ja (Js HO ⟨(rn : Int), x + 1, t, k, v, 0, 0, o, y, S.l⟩ (.slice au S.l.length cu))
 have HBF : Hid (Below w.heap.size w (Jk Z2 (w.heap.size + 1 + 1) ⟨(rn : Int), x + 1, t, k, v, 0, 0, o, y, S.l⟩ (.slice au S.l.length cu))) := Jp (HF.out Z2 hbZ2) (by omega) _ _
 have HOF : Hid ((Jk Z2 (w.heap.size + 1 + 1) ⟨(rn : Int), x + 1, t, k, v, 0, 0, o, y, S.l⟩ (.slice au S.l.length cu)).ownsRow w.heap.size 3 1 (.slice au S.l.length cu) S.l.length (Jj S.l)) := Jo (Ku HOW2.out (by omega) _ _) (by omega)
 clear HO
 go_wp2
 rw [show _ = Jk Z2 (w.heap.size + 1 + 1) ⟨(rn : Int), x + 1, t, k, v, 0, 0, o, y, S.l⟩ (.slice au S.l.length cu) from Jt Z2 (w.heap.size + 1 + 1) ⟨(rn : Int), x + 1, t, k, v, 0, 0, o, y, S.l⟩ (.slice au S.l.length cu)]
 exact bodyPost_ret (Jz rfl rfl rfl rfl HRW.out) rfl ⟨(.slice au S.l.length cu), by rw [HCD.out, HAW.out]; rfl, by rw [HAW.out]; exact HOF.out, HBF.out⟩
end Go.Proofs.YtdknoflkingodaaGreat
