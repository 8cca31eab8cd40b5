/- A state grows by drawn edits. -/
import Derived.Test.YtdknoflkingodaaGreatQ32
import Derived.Test.YtdknoflkingodaaGreatQ35
import Derived.Test.YtdknoflkingodaaGreatQ38
set_option maxHeartbeats 16000000
namespace Go.Proofs.YtdknoflkingodaaGreat
open Value (int)
open IntKind (i64)
set_option maxRecDepth 100000
set_option linter.unusedVariables false
open Go.RowKit
abbrev JjB : Oper := oq 22 (.load 29 (.tmp 4)) 29 "l06_state.go:129" #[] none
abbrev Jjs : Oper := oq 23 (.move (.tmp 8)) 3 "l06_state.go:129" #[] none
abbrev JiR : Oper := oq 24 (.load 29 (.tmp 4)) 29 "l06_state.go:129" #[] none
abbrev JfO : Oper := oq 25 (.call ⟨.value (.func 90), #[.tmp 24], #[29]⟩) 3 "l06_state.go:129" #[eD 2] none
abbrev Jg0 : Oper := oq 26 (.binOp .add 3 (.tmp 25) (.const (int i64 1)) 3) 3 "l06_state.go:129" #[eD 3] none
abbrev Jkf : Oper := oq 27 (.move (.tmp 0)) 85 "l06_state.go:129" #[] none
abbrev Jgr : Oper := oq 28 (.call ⟨.value (.func 63), #[.tmp 27, .const (int i64 2)], #[85, 3]⟩) 3 "l06_state.go:129" #[eD 5, eC 3] none
abbrev Jhx : Oper := oq 29 (.binOp .add 3 (.tmp 26) (.tmp 28) 3) 3 "l06_state.go:129" #[eD 4, eD 6] none
abbrev JiU : Oper := oq 30 (.load 113 (.tmp 9)) 113 "l06_state.go:129" #[] none
abbrev Jgy : Oper := oq 31 (.call ⟨.value (.func 89), #[.tmp 22, .tmp 23, .tmp 29, .tmp 30], #[29, 3, 3, 113]⟩) 114 "l06_state.go:129" #[eD 0, eD 1, eD 7, eD 8, eC 6] none
abbrev JdE : Oper := oq 21 (.move (.tmp 31)) 114 "l06_state.go:129" #[eD 9] none
abbrev JdT : Oper := oq 32 (.extract (.tmp 21) 0) 62 "l06_state.go:129" #[eD 10] none
abbrev JdM : Oper := oq 33 (.extract (.tmp 21) 1) 3 "l06_state.go:129" #[eD 10, { on := 14, ground := .gcOnly .lateStores }] none
abbrev Jbu : Oper := oq 10 (.alloc 62) 0 "l06_state.go:129" #[] none
abbrev Jfu : Oper := oz (.store 62 (.tmp 10) (.tmp 32)) 0 "l06_state.go:129" #[eD 13, eD 11, eC 9, eP 0, eP 1, eP 2, eP 3, eP 4, eP 5, eP 6, eP 7, eP 8, eP 9, eP 10, eP 11, { on := 12, ground := .textOnly .lateStores }, eP 13] none
abbrev Jfi : Oper := oq 11 (.assign (.tmp 33)) 3 "l06_state.go:129" #[eD 12, eC 14, eP 0, eP 1, eP 2, eP 3, eP 4, eP 5, eP 6, eP 7, eP 8, eP 9, eP 10, eP 11, eP 12, eP 13, eP 14] none
abbrev U6 : Array Oper := #[JjB, Jjs, JiR, JfO, Jg0, Jkf, Jgr, Jhx, JiU, Jgy, JdE, JdT, JdM, Jbu, Jfu, Jfi]
theorem JcW {Q : Exit → Act → World → Prop} {SS : World → Prop} {W : World} {B p n : Nat} {v : Value} {rep T : Int} {sv ev : Value} (A : Nat → Ac) (cd : Nat → Int) {x0 x1 x2 x3 x4 x5 x6 x7 x8 x9 x10 x11 x12 x13 x14 x15 x16 x17 x18 x19 x20 x21 x25 x26 x28 x29 x31 x32 x33 x34 x35 x36 x37 x38 x39 x40 x41 x42 : Value} (hp : p < W.heap.size) (hB : B ≤ W.heap.size) (hT0 : 0 ≤ T ∧ T ≤ 10000)
  (hc : Cur W B p v n) (hP : ∀ c a d v w, Q (.panic c) (a.put d v) w → Q (.panic c) a w) (hS : ∀ wx, Drew W wx B p v n → SS wx)
  (hT : ∀ wx, Drew W wx B p v n → Calls Tryz.prog 90 #[sv] wx fun e w' => e = .returned (int i64 T) ∧ Below wx.heap.size wx w')
  (hX : ∀ wx, Drew W wx B p v n → Calls Tryz.prog 63 #[.pointer (some ⟨p, 0, none⟩), int i64 2] wx fun e w' => ∃ x : Nat, e = .returned (int i64 x) ∧ x < 2 ∧ Drew wx w' B p v n)
  (hA : ∀ wx (x : Nat), x < 2 → Drew W wx B p v n → Calls Tryz.prog 89 #[sv, int i64 rep, int i64 (T + 1 + (x : Int)), ev] wx fun e w' => ∃ au cu, e = .returned (.tuple #[.agg #[int i64 (A x).r, int i64 (A x).s, int i64 (A x).t, .slice au (A x).l.length cu, int i64 (A x).k, .string (A x).o, .string (A x).y, int i64 (A x).v, int i64 (A x).x, int i64 (A x).z], int i64 (cd x)]) ∧ w'.ownsRow wx.heap.size 3 1 (.slice au (A x).l.length cu) (A x).l.length (Jj (A x).l) ∧ Below wx.heap.size wx w')
  (hQ : ∀ (x : Nat) (au : Option Addr) (cu ga : Nat) (wx : World), x < 2 → Drew W wx B p v n → Row wx ga #[int i64 0, int i64 0, int i64 0, .slice none 0 0, int i64 0, .string ⟨#[]⟩, .string ⟨#[]⟩, int i64 0, int i64 0, int i64 0] 62 → W.heap.size ≤ ga → wx.ownsRow W.heap.size 3 1 (.slice au (A x).l.length cu) (A x).l.length (Jj (A x).l) → (∀ j, (Value.slice au (A x).l.length cu).ownBlock = some j → j ≠ ga) → wpAnyH Tryz.prog .any U6 Q SS 2 #[true, true, true, true, true, true, true, true, true, true, true, true, true, true, false, false] ⟨#[x0, x1, x2, x3, x4, x5, x6, x7, x8, x9, .pointer (some ⟨ga, 0, none⟩), x11, x12, x13, x14, x15, x16, x17, x18, x19, x20, .tuple #[.agg #[int i64 (A x).r, int i64 (A x).s, int i64 (A x).t, .slice au (A x).l.length cu, int i64 (A x).k, .string (A x).o, .string (A x).y, int i64 (A x).v, int i64 (A x).x, int i64 (A x).z], int i64 (cd x)], sv, int i64 rep, sv, int i64 T, int i64 (T + 1), .pointer (some ⟨p, 0, none⟩), int i64 (x : Int), int i64 (T + 1 + (x : Int)), ev, .tuple #[.agg #[int i64 (A x).r, int i64 (A x).s, int i64 (A x).t, .slice au (A x).l.length cu, int i64 (A x).k, .string (A x).o, .string (A x).y, int i64 (A x).v, int i64 (A x).x, int i64 (A x).z], int i64 (cd x)], .agg #[int i64 (A x).r, int i64 (A x).s, int i64 (A x).t, .slice au (A x).l.length cu, int i64 (A x).k, .string (A x).o, .string (A x).y, int i64 (A x).v, int i64 (A x).x, int i64 (A x).z], int i64 (cd x), x34, x35, x36, x37, x38, x39, x40, x41, x42], []⟩ wx) :
  wpAnyH Tryz.prog .any U6 Q SS 11 #[true, true, true, false, false, true, false, false, true, false, false, false, false, false, false, false] ⟨#[x0, x1, x2, x3, x4, x5, x6, x7, x8, x9, x10, x11, x12, x13, x14, x15, x16, x17, x18, x19, x20, x21, sv, int i64 rep, sv, x25, x26, .pointer (some ⟨p, 0, none⟩), x28, x29, ev, x31, x32, x33, x34, x35, x36, x37, x38, x39, x40, x41, x42], []⟩ W := by
 have hw1 : IntKind.i64.wrap (T + 1) = T + 1 := by rw [IntKind.wrap_i64] <;> omega
 have hw2 : ∀ x : Nat, x < 2 → IntKind.i64.wrap (T + 1 + (x : Int)) = T + 1 + (x : Int) := fun x hx => by rw [IntKind.wrap_i64] <;> omega
 have hpg : ∀ ga : Nat, W.heap.size ≤ ga → (some p : Option Nat) ≠ some ga := fun ga h e => by injection e with e; omega
 have hnew : ∀ wx : World, Drew W wx B p v n → Drew W (wx.alloc (.cells #[int i64 0, int i64 0, int i64 0, .slice none 0 0, int i64 0, .string ⟨#[]⟩, .string ⟨#[]⟩, int i64 0, int i64 0, int i64 0] 62)) B p v n := fun wx h => h.alloc hp hB _
 have s3n : ∀ (x : Nat) (au : Option Addr) (cu : Nat) (wx : World), x < 2 → Drew W wx B p v n → wx.ownsRow W.heap.size 3 1 (.slice au (A x).l.length cu) (A x).l.length (Jj (A x).l) → wpAnyH Tryz.prog .any U6 Q SS 3 #[true, true, true, true, true, true, true, true, true, true, true, true, true, false, false, false] ⟨#[x0, x1, x2, x3, x4, x5, x6, x7, x8, x9, x10, x11, x12, x13, x14, x15, x16, x17, x18, x19, x20, .tuple #[.agg #[int i64 (A x).r, int i64 (A x).s, int i64 (A x).t, .slice au (A x).l.length cu, int i64 (A x).k, .string (A x).o, .string (A x).y, int i64 (A x).v, int i64 (A x).x, int i64 (A x).z], int i64 (cd x)], sv, int i64 rep, sv, int i64 T, int i64 (T + 1), .pointer (some ⟨p, 0, none⟩), int i64 (x : Int), int i64 (T + 1 + (x : Int)), ev, .tuple #[.agg #[int i64 (A x).r, int i64 (A x).s, int i64 (A x).t, .slice au (A x).l.length cu, int i64 (A x).k, .string (A x).o, .string (A x).y, int i64 (A x).v, int i64 (A x).x, int i64 (A x).z], int i64 (cd x)], .agg #[int i64 (A x).r, int i64 (A x).s, int i64 (A x).t, .slice au (A x).l.length cu, int i64 (A x).k, .string (A x).o, .string (A x).y, int i64 (A x).v, int i64 (A x).x, int i64 (A x).z], int i64 (cd x), x34, x35, x36, x37, x38, x39, x40, x41, x42], []⟩ wx := by
  intro x au cu wx hx hd ho
  refine rd 13 Jbu (fun K hK => ?_)
  have hd2 := hnew wx hd
  go_simp
  refine hK.out _ _ (hS _ hd2) (fun _ => ?_)
  clear hK K
  simp only [s1, s2, s3]
  exact hQ x au cu _ _ hx hd2 (Jb _ _ _ rfl) hd.2.size (ho.alloc _) (fun j hj => by have := (ho.lt j hj).2; omega)
 have s2y : ∀ (x ga : Nat) (wx : World), x < 2 → Drew W wx B p v n → Row wx ga #[int i64 0, int i64 0, int i64 0, .slice none 0 0, int i64 0, .string ⟨#[]⟩, .string ⟨#[]⟩, int i64 0, int i64 0, int i64 0] 62 → W.heap.size ≤ ga → wpAnyH Tryz.prog .any U6 Q SS 6 #[true, true, true, true, true, true, true, true, true, false, false, false, false, true, false, false] ⟨#[x0, x1, x2, x3, x4, x5, x6, x7, x8, x9, .pointer (some ⟨ga, 0, none⟩), x11, x12, x13, x14, x15, x16, x17, x18, x19, x20, x21, sv, int i64 rep, sv, int i64 T, int i64 (T + 1), .pointer (some ⟨p, 0, none⟩), int i64 (x : Int), int i64 (T + 1 + (x : Int)), ev, x31, x32, x33, x34, x35, x36, x37, x38, x39, x40, x41, x42], []⟩ wx := by
  intro x ga wx hx hd hr hg
  refine rd 9 Jgy (fun K hK => ?_)
  have hAx := hA wx x hx hd
  have hgl := hr.lt
  have hss := hd.2.size
  go_simp
  refine hAx.mono ?_
  rintro e w' ⟨au, cu, rfl, ho, hb⟩
  have hd2 := hd.call hp hB hb
  have hr2 := hr.next hb
  have hne : ∀ j, (Value.slice au (A x).l.length cu).ownBlock = some j → j ≠ ga := fun j hj => by have := (ho.lt j hj).1; omega
  try go_wp2_with fail
  refine hK.out _ _ (hS _ hd2) (fun _ => ?_)
  clear hK K
  simp only [s1, s2, s3]
  refine tk 10 JdE (hS _ hd2) ?_ (hQ := fun c a w h => hP c a _ _ w h)
  simp only [sq]
  refine tk 11 JdT (hS _ hd2) ?_ (hQ := fun c a w h => hP c a _ _ w h)
  simp only [sq]
  refine tk 12 JdM (hS _ hd2) ?_ (hQ := fun c a w h => hP c a _ _ w h)
  simp only [sq]
  exact hQ x au cu ga _ hx hd2 hr2 hg (Jo ho hss) hne
 have s2n : ∀ (x : Nat) (wx : World), x < 2 → Drew W wx B p v n → wpAnyH Tryz.prog .any U6 Q SS 7 #[true, true, true, true, true, true, true, true, true, false, false, false, false, false, false, false] ⟨#[x0, x1, x2, x3, x4, x5, x6, x7, x8, x9, x10, x11, x12, x13, x14, x15, x16, x17, x18, x19, x20, x21, sv, int i64 rep, sv, int i64 T, int i64 (T + 1), .pointer (some ⟨p, 0, none⟩), int i64 (x : Int), int i64 (T + 1 + (x : Int)), ev, x31, x32, x33, x34, x35, x36, x37, x38, x39, x40, x41, x42], []⟩ wx := by
  intro x wx hx hd
  refine wpAnyH_ready (rs := [9, 13]) (by as_aux_lemma => kernel_rfl) (by simp) ?_
  refine AllReadyH.cons (o := Jgy) rfl (fun K hK => ?_) (AllReadyH.cons (o := Jbu) rfl (fun K hK => ?_) AllReadyH.nil)
  ·have hAx := hA wx x hx hd
   have hss := hd.2.size
   go_simp
   refine hAx.mono ?_
   rintro e w' ⟨au, cu, rfl, ho, hb⟩
   have hd2 := hd.call hp hB hb
   try go_wp2_with fail
   refine hK.out _ _ (hS _ hd2) (fun _ => ?_)
   clear hK K
   simp only [s1, s2, s3]
   refine tk 10 JdE (hS _ hd2) ?_ (hQ := fun c a w h => hP c a _ _ w h)
   simp only [sq]
   refine tk 11 JdT (hS _ hd2) ?_ (hQ := fun c a w h => hP c a _ _ w h)
   simp only [sq]
   refine tk 12 JdM (hS _ hd2) ?_ (hQ := fun c a w h => hP c a _ _ w h)
   simp only [sq]
   exact s3n x au cu _ hx hd2 (Jo ho hss)
  ·have hd2 := hnew wx hd
   go_simp
   refine hK.out _ _ (hS _ hd2) (fun _ => ?_)
   clear hK K
   simp only [s1, s2, s3]
   exact s2y x _ _ hx hd2 (Jb _ _ _ rfl) hd.2.size
 have s1y : ∀ (ga : Nat) (wx : World), Drew W wx B p v n → Row wx ga #[int i64 0, int i64 0, int i64 0, .slice none 0 0, int i64 0, .string ⟨#[]⟩, .string ⟨#[]⟩, int i64 0, int i64 0, int i64 0] 62 → W.heap.size ≤ ga → wpAnyH Tryz.prog .any U6 Q SS 8 #[true, true, true, true, true, true, false, false, true, false, false, false, false, true, false, false] ⟨#[x0, x1, x2, x3, x4, x5, x6, x7, x8, x9, .pointer (some ⟨ga, 0, none⟩), x11, x12, x13, x14, x15, x16, x17, x18, x19, x20, x21, sv, int i64 rep, sv, int i64 T, int i64 (T + 1), .pointer (some ⟨p, 0, none⟩), x28, x29, ev, x31, x32, x33, x34, x35, x36, x37, x38, x39, x40, x41, x42], []⟩ wx := by
  intro ga wx hd hr hg
  refine rd 6 Jgr (fun K hK => ?_)
  have hXx := hX wx hd
  go_simp
  refine hXx.mono ?_
  rintro e w' ⟨x, rfl, hx, hdx⟩
  have hd2 := hd.trans hdx
  have hr2 := hr.grown hdx.2 (hpg ga hg)
  have hw3 := hw2 x hx
  try go_wp2_with fail
  refine hK.out _ _ (hS _ hd2) (fun _ => ?_)
  clear hK K
  simp only [s1, s2, s3]
  refine tk 7 Jhx (hS _ hd2) ?_ (hQ := fun c a w h => hP c a _ _ w h)
  simp only [sq]
  exact s2y x ga _ hx hd2 hr2 hg
 have s1n : ∀ (wx : World), Drew W wx B p v n → wpAnyH Tryz.prog .any U6 Q SS 9 #[true, true, true, true, true, true, false, false, true, false, false, false, false, false, false, false] ⟨#[x0, x1, x2, x3, x4, x5, x6, x7, x8, x9, x10, x11, x12, x13, x14, x15, x16, x17, x18, x19, x20, x21, sv, int i64 rep, sv, int i64 T, int i64 (T + 1), .pointer (some ⟨p, 0, none⟩), x28, x29, ev, x31, x32, x33, x34, x35, x36, x37, x38, x39, x40, x41, x42], []⟩ wx := by
  intro wx hd
  refine wpAnyH_ready (rs := [6, 13]) (by as_aux_lemma => kernel_rfl) (by simp) ?_
  refine AllReadyH.cons (o := Jgr) rfl (fun K hK => ?_) (AllReadyH.cons (o := Jbu) rfl (fun K hK => ?_) AllReadyH.nil)
  ·have hXx := hX wx hd
   go_simp
   refine hXx.mono ?_
   rintro e w' ⟨x, rfl, hx, hdx⟩
   have hd2 := hd.trans hdx
   have hw3 := hw2 x hx
   try go_wp2_with fail
   refine hK.out _ _ (hS _ hd2) (fun _ => ?_)
   clear hK K
   simp only [s1, s2, s3]
   refine tk 7 Jhx (hS _ hd2) ?_ (hQ := fun c a w h => hP c a _ _ w h)
   simp only [sq]
   exact s2n x _ hx hd2
  ·have hd2 := hnew wx hd
   go_simp
   refine hK.out _ _ (hS _ hd2) (fun _ => ?_)
   clear hK K
   simp only [s1, s2, s3]
   exact s1y _ _ hd2 (Jb _ _ _ rfl) hd.2.size
 have s0y : ∀ (ga : Nat) (wx : World), Drew W wx B p v n → Row wx ga #[int i64 0, int i64 0, int i64 0, .slice none 0 0, int i64 0, .string ⟨#[]⟩, .string ⟨#[]⟩, int i64 0, int i64 0, int i64 0] 62 → W.heap.size ≤ ga → wpAnyH Tryz.prog .any U6 Q SS 10 #[true, true, true, false, false, true, false, false, true, false, false, false, false, true, false, false] ⟨#[x0, x1, x2, x3, x4, x5, x6, x7, x8, x9, .pointer (some ⟨ga, 0, none⟩), x11, x12, x13, x14, x15, x16, x17, x18, x19, x20, x21, sv, int i64 rep, sv, x25, x26, .pointer (some ⟨p, 0, none⟩), x28, x29, ev, x31, x32, x33, x34, x35, x36, x37, x38, x39, x40, x41, x42], []⟩ wx := by
  intro ga wx hd hr hg
  refine rd 3 JfO (fun K hK => ?_)
  have hTx := hT wx hd
  go_simp
  refine hTx.mono ?_
  rintro e w' ⟨rfl, hb⟩
  have hd2 := hd.call hp hB hb
  have hr2 := hr.next hb
  try go_wp2_with fail
  refine hK.out _ _ (hS _ hd2) (fun _ => ?_)
  clear hK K
  simp only [s1, s2, s3]
  refine tk 4 Jg0 (hS _ hd2) ?_ (hQ := fun c a w h => hP c a _ _ w h)
  simp only [sq]
  exact s1y ga _ hd2 hr2 hg
 have hd : Drew W W B p v n := Drew.refl hc
 refine wpAnyH_ready (rs := [3, 13]) (by as_aux_lemma => kernel_rfl) (by simp) ?_
 refine AllReadyH.cons (o := JfO) rfl (fun K hK => ?_) (AllReadyH.cons (o := Jbu) rfl (fun K hK => ?_) AllReadyH.nil)
 ·have hTx := hT W hd
  go_simp
  refine hTx.mono ?_
  rintro e w' ⟨rfl, hb⟩
  have hd2 := hd.call hp hB hb
  try go_wp2_with fail
  refine hK.out _ _ (hS _ hd2) (fun _ => ?_)
  clear hK K
  simp only [s1, s2, s3]
  refine tk 4 Jg0 (hS _ hd2) ?_ (hQ := fun c a w h => hP c a _ _ w h)
  simp only [sq]
  exact s1n _ hd2
 ·have hd2 := hnew W hd
  go_simp
  refine hK.out _ _ (hS _ hd2) (fun _ => ?_)
  clear hK K
  simp only [s1, s2, s3]
  exact s0y _ _ hd2 (Jb _ _ _ rfl) (Nat.le_refl _)
theorem JbL {m : Nat} {S : Sta} {r t k : Int} {o y : ByteArray} {v pl : Int} (h : JK S r t k o y v pl = 0) (hb : Bnd m S) : (JB S r t k o y v pl).s ≤ (m : Int) + 1 ∧ (JB S r t k o y v pl).t = t ∧ ((JB S r t k o y v pl).l.length ≤ 1048576 ∧ (JB S r t k o y v pl).o = o ∧ (JB S r t k o y v pl).y = y) := by
 obtain ⟨h1, h2, h3, -, -, -⟩ := Jbd h
 unfold JB
 rw [if_pos h]
 refine ⟨?_, rfl, ?_, rfl, rfl⟩
 ·show S.l.getD r.toNat 0 + 1 ≤ _
  have hl : r.toNat < S.l.length := by rw [h1.1.1]; omega
  have := hb.l S.l[r.toNat] (List.getElem_mem hl)
  rw [show S.l.getD r.toNat 0 = S.l[r.toNat] by simp [List.getD, hl]]
  omega
 ·show S.l.length ≤ _
  rw [h1.1.1]; omega
theorem Zw {k : Int} {o y : ByteArray} {v pl : Int} (h : EOk k o y v pl) : o.size ≤ 1048576 ∧ y.size ≤ 1048576 := by
 refine ⟨by have := h.1.2.1.1; omega, ?_⟩
 have hk := h.1.2.2.1
 unfold GE at hk
 by_cases hc : 2 ≤ k ∧ k ≤ 5
 ·rw [if_pos hc] at hk; have := hk.1; omega
 ·rw [if_neg hc] at hk
  by_cases h0 : 0 < y.size
  ·rw [V2 y h0] at hk; cases hk
  ·omega
theorem OwnS.keep {w w' : World} {B : Nat} {S : Sta} {v0 v1 v2 v3 : Value} (h : OwnS w B S v0 v1 v2 v3) (hk : ∀ j, B ≤ j → j < w.heap.size → (v0.ownBlock = some j ∨ v1.ownBlock = some j ∨ v2.ownBlock = some j ∨ v3.ownBlock = some j) → w'.heap[j]? = w.heap[j]?) : OwnS w' B S v0 v1 v2 v3 := by
 obtain ⟨⟨h1, h2, h3, h4⟩, hd⟩ := h
 refine ⟨⟨h1.same ?_, h2.same ?_, h3.same ?_, h4.same ?_⟩, hd⟩
 ·intro r hr j hj; injection hr with hr; subst hr; have := World.ownsRow.lt h1 j hj; exact hk j this.1 this.2 (.inl hj)
 ·intro r hr j hj; injection hr with hr; subst hr; have := World.ownsRow.lt h2 j hj; exact hk j this.1 this.2 (.inr (.inl hj))
 ·intro r hr j hj; injection hr with hr; subst hr; have := World.ownsRow.lt h3 j hj; exact hk j this.1 this.2 (.inr (.inr (.inl hj)))
 ·intro r hr j hj; injection hr with hr; subst hr; have := World.ownsRow.lt h4 j hj; exact hk j this.1 this.2 (.inr (.inr (.inr hj)))
theorem OwnS.drewC {w w' : World} {b B p n : Nat} {v : Value} {S : Sta} {v0 v1 v2 v3 : Value} (h : OwnS w b S v0 v1 v2 v3) (hd : Drew w w' B p v n) (hp : p < b) : OwnS w' b S v0 v1 v2 v3 :=
 h.keep (fun j hj hl _ => hd.2.block j hl (fun e => by injection e with e; omega))
theorem OwnS.put {w : World} {b g i : Nat} {x : Value} {S : Sta} {v0 v1 v2 v3 : Value} (h : OwnS w b S v0 v1 v2 v3) (ho : Zp g v0 v1 v2 v3) : OwnS (w.setCell ⟨g, i, none⟩ x) b S v0 v1 v2 v3 :=
 h.keep (fun j _ hl hj => Below.heap_setCell w _ x j (fun e => by
  rcases hj with hj | hj | hj | hj
  ·exact ho.1 j hj e
  ·exact ho.2.1 j hj e
  ·exact ho.2.2.1 j hj e
  ·exact ho.2.2.2 j hj e))
theorem OwnS.off {w : World} {b g : Nat} {S : Sta} {v0 v1 v2 v3 : Value} (h : OwnS w b S v0 v1 v2 v3) (hg : g < b ∨ w.heap.size ≤ g) : Zp g v0 v1 v2 v3 := by
 obtain ⟨⟨h1, h2, h3, h4⟩, -⟩ := h
 refine ⟨fun j hj => ?_, fun j hj => ?_, fun j hj => ?_, fun j hj => ?_⟩
 ·have := World.ownsRow.lt h1 j hj; omega
 ·have := World.ownsRow.lt h2 j hj; omega
 ·have := World.ownsRow.lt h3 j hj; omega
 ·have := World.ownsRow.lt h4 j hj; omega
theorem Jgn (m0 N : Nat) (hN : N ≤ 100) (b B p : Nat) (v : Value) (n : Nat) (hn : n ≤ 1048576) (w : World) (hB : B ≤ w.heap.size) (hc : Cur w B p v n) (hpb : p < b) (hb : b ≤ w.heap.size) (S0 : Sta) (u0 u1 u2 u3 : Value) (hS0 : SOk S0) (hM0 : Bnd m0 S0) (hO0 : OwnS w b S0 u0 u1 u2 u3) :
  Calls Tryz.prog 120 #[.pointer (some ⟨p, 0, none⟩), .agg #[u0, u1, u2, u3], int i64 (N : Int)] w fun e w' => ∃ S' : Sta, SOk S' ∧ Bnd (m0 + N) S' ∧ ∃ v0 v1 v2 v3 : Value, e = .returned (.agg #[v0, v1, v2, v3]) ∧ OwnS w' b S' v0 v1 v2 v3 ∧ Drew w w' B p v n := by
 obtain ⟨a0, c0, a1, c1, a2, c2, a3, c3, rfl, rfl, rfl, rfl⟩ := hO0.at.shape
 have hp := hc.lt
 obtain ⟨W, hW⟩ : ∃ W, W = (w.alloc (.cells #[.slice a0 S0.l.length c0, .slice a1 S0.T.length c1, .slice a2 S0.L.length c2, .slice a3 S0.C.length c3] 29)).alloc (.cells #[.slice none 0 0, .slice none 0 0, .slice none 0 0, .slice none 0 0] 29) := ⟨_, rfl⟩
 have hWs : W.heap.size = w.heap.size + 1 + 1 := by rw [hW]; simp
 have hD0 : Drew w W B p v n := by rw [hW]; exact ((Drew.refl hc).alloc hp hB _).alloc hp hB _
 have hR1 : Row W w.heap.size #[.slice a0 S0.l.length c0, .slice a1 S0.T.length c1, .slice a2 S0.L.length c2, .slice a3 S0.C.length c3] 29 := by rw [hW]; exact (Jb w _ _ rfl).alloc _
 have hR2 : Row W (w.heap.size + 1) #[.slice none 0 0, .slice none 0 0, .slice none 0 0, .slice none 0 0] 29 := by rw [hW]; exact Jb _ _ _ (by simp)
 have hOW : OwnS W b S0 (.slice a0 S0.l.length c0) (.slice a1 S0.T.length c1) (.slice a2 S0.L.length c2) (.slice a3 S0.C.length c3) := by
  rw [hW]; exact Own4.next hO0 (((Below.refl _ _).alloc (Nat.le_refl _) _).alloc (by simp) _)
 have hX1 : Zp w.heap.size (.slice a0 S0.l.length c0) (.slice a1 S0.T.length c1) (.slice a2 S0.L.length c2) (.slice a3 S0.C.length c3) := hO0.off (.inr (Nat.le_refl _))
 have hX2 : Zp (w.heap.size + 1) (.slice a0 S0.l.length c0) (.slice a1 S0.T.length c1) (.slice a2 S0.L.length c2) (.slice a3 S0.C.length c3) := hO0.off (.inr (by omega))
 have HI0 : Hid (∃ (S : Sta) (v0 v1 v2 v3 : Value), SOk S ∧ Bnd (m0 + 0) S ∧ Row W w.heap.size #[v0, v1, v2, v3] 29 ∧ Row W (w.heap.size + 1) #[.slice none 0 0, .slice none 0 0, .slice none 0 0, .slice none 0 0] 29 ∧ OwnS W b S v0 v1 v2 v3 ∧ Zp w.heap.size v0 v1 v2 v3 ∧ Zp (w.heap.size + 1) v0 v1 v2 v3 ∧ Drew w W B p v n) := ⟨S0, _, _, _, _, hS0, hM0, hR1, hR2, hOW, hX1, hX2, hD0⟩
 have HW : Hid ((w.alloc (.cells #[.slice a0 S0.l.length c0, .slice a1 S0.T.length c1, .slice a2 S0.L.length c2, .slice a3 S0.C.length c3] 29)).alloc (.cells #[.slice none 0 0, .slice none 0 0, .slice none 0 0, .slice none 0 0] 29) = W) := hW.symm
 clear hW hD0 hR1 hR2 hOW hX1 hX2 hS0 hM0 hO0
 go_enter Tryz.func120, Tryz.ntmps120
 go_wp2
 rw [HW.out]
 clear HW
 go_loopw [7] (fun z wr => ∃ k : Nat, k ≤ N ∧ z = int i64 k ∧ ∃ (S : Sta) (v0 v1 v2 v3 : Value), SOk S ∧ Bnd (m0 + k) S ∧ Row wr w.heap.size #[v0, v1, v2, v3] 29 ∧ Row wr (w.heap.size + 1) #[.slice none 0 0, .slice none 0 0, .slice none 0 0, .slice none 0 0] 29 ∧ OwnS wr b S v0 v1 v2 v3 ∧ Zp w.heap.size v0 v1 v2 v3 ∧ Zp (w.heap.size + 1) v0 v1 v2 v3 ∧ Drew w wr B p v n) (fun z _ => N - (intOf z).toNat)
 case atStart => exact ⟨0, Nat.zero_le _, rfl, HI0.out⟩
 case round =>
  clear HI0
  obtain ⟨j, hj, rfl, S, v0, v1, v2, v3, hS, hM, hr1, hr2, hown, hx1, hx2, hdr⟩ := hrel
  obtain ⟨a0, c0, a1, c1, a2, c2, a3, c3, rfl, rfl, rfl, rfl⟩ := hown.at.shape
  have HS := Ja hS
  have HM := Ja hM
  have HX1 := Ja hx1
  have HX2 := Ja hx2
  have hs0 := hdr.2.size
  have hr2l := hr2.lt
  clear hS hM hx1 hx2
  by_cases hlt : j < N
  ·have hj1 : (j : Int) < N := by omega
   go_wp2_with fail
   refine (KU 3 (by omega) (by omega) B p v n hn _ hdr.1).mono ?_
   rintro e w1 ⟨rp, rfl, hrp, hd1⟩
   have hdr1 := hdr.trans hd1
   have HR1 := Ja (hr1.grown hd1.2 (by intro e; injection e with e; omega))
   have HR2 := Ja (hr2.grown hd1.2 (by intro e; injection e with e; omega))
   have HO := Ja (hown.drewC hd1 hpb)
   have hs1 := hd1.2.size
   clear hd1 hdr hr1 hr2 hown
   go_wp2_with fail
   refine (Jfp B p v n hn _ (by omega) hdr1.1).mono ?_
   rintro e w2 ⟨k, o, y, vv, pl, ⟨hE, hpl⟩, rfl, hd2⟩
   have hdr2 := hdr1.trans hd2
   replace HR1 := Ja (HR1.out.grown hd2.2 (by intro e; injection e with e; omega))
   replace HR2 := Ja (HR2.out.grown hd2.2 (by intro e; injection e with e; omega))
   replace HO := Ja (HO.out.drewC hd2 hpb)
   have hs2 := hd2.2.size
   have HE := Ja hE
   have HPL := Ja hpl
   clear hd2 hdr1 hE hpl
   obtain ⟨X, hX⟩ : ∃ X, X = w2.alloc (.cells #[int i64 k, .string o, .string y, int i64 vv, int i64 pl] 113) := ⟨_, rfl⟩
   have hXs : X.heap.size = w2.heap.size + 1 := by rw [hX]; simp
   have HRE : Hid (Row X w2.heap.size #[int i64 k, .string o, .string y, int i64 vv, int i64 pl] 113) := by rw [hX]; exact Jb _ _ _ rfl
   replace HR1 : Hid (Row X w.heap.size #[.slice a0 S.l.length c0, .slice a1 S.T.length c1, .slice a2 S.L.length c2, .slice a3 S.C.length c3] 29) := by rw [hX]; exact HR1.out.alloc _
   replace HR2 : Hid (Row X (w.heap.size + 1) #[.slice none 0 0, .slice none 0 0, .slice none 0 0, .slice none 0 0] 29) := by rw [hX]; exact HR2.out.alloc _
   replace HO : Hid (OwnS X b S (.slice a0 S.l.length c0) (.slice a1 S.T.length c1) (.slice a2 S.L.length c2) (.slice a3 S.C.length c3)) := by rw [hX]; exact Own4.next HO.out ((Below.refl _ _).alloc (Nat.le_refl _) _)
   have HDX : Hid (Drew w X B p v n) := by rw [hX]; exact hdr2.alloc hp hB _
   have HXX : Hid (w2.alloc (.cells #[int i64 k, .string o, .string y, int i64 vv, int i64 pl] 113) = X) := hX.symm
   clear hX hdr2
   have HSC : Hid (∀ wx, Drew X.drew wx B p v n → wx.cell? ⟨w.heap.size, 0, none⟩ = some (.slice a0 S.l.length c0) ∧ wx.cell? ⟨w.heap.size, 1, none⟩ = some (.slice a1 S.T.length c1) ∧ wx.cell? ⟨w.heap.size, 2, none⟩ = some (.slice a2 S.L.length c2) ∧ wx.cell? ⟨w.heap.size, 3, none⟩ = some (.slice a3 S.C.length c3) ∧ wx.cell? ⟨w2.heap.size, 0, none⟩ = some (int i64 k) ∧ wx.cell? ⟨w2.heap.size, 1, none⟩ = some (.string o) ∧ wx.cell? ⟨w2.heap.size, 2, none⟩ = some (.string y) ∧ wx.cell? ⟨w2.heap.size, 3, none⟩ = some (int i64 vv) ∧ wx.cell? ⟨w2.heap.size, 4, none⟩ = some (int i64 pl)) := fun wx h => by
    obtain ⟨e0, e1, e2, e3⟩ := Row.four (Row.grown (w := X.drew) (HR1.out) h.2 (by intro e; injection e with e; omega))
    obtain ⟨d0, d1, d2, d3, d4⟩ := Row.fiveC (Row.grown (w := X.drew) (HRE.out) h.2 (by intro e; injection e with e; omega))
    exact ⟨e0, e1, e2, e3, d0, d1, d2, d3, d4⟩
   have hcX : Cur X.drew B p v n := HDX.out.1
   have hpX : p < X.drew.heap.size := hcX.lt
   have hBX : B ≤ X.drew.heap.size := by show B ≤ X.heap.size; omega
   have hSt : ∀ wx, Drew X.drew wx B p v n → OwnS wx b S (.slice a0 S.l.length c0) (.slice a1 S.T.length c1) (.slice a2 S.L.length c2) (.slice a3 S.C.length c3) := fun wx h => OwnS.drewC (w := X.drew) HO.out h hpb
   have hT := GB (C := S.C) (b := 10000) (by omega) (fun c hc => by have := HS.out.tree.tim c hc; omega)
   have hT0 := (YK S.C).1
   obtain ⟨T, hTe⟩ : ∃ T, T = JP S.C := ⟨_, rfl⟩
   have HTT : Hid (∀ wx, Drew X.drew wx B p v n → Calls Tryz.prog 90 #[.agg #[.slice a0 S.l.length c0, .slice a1 S.T.length c1, .slice a2 S.L.length c2, .slice a3 S.C.length c3]] wx fun e w' => e = .returned (int i64 T) ∧ Below wx.heap.size wx w') := fun wx h => by rw [hTe]; exact KE S _ _ _ _ wx HS.out.small.2.2.2 (hSt wx h).at
   have HAA : Hid (∀ wx (x : Nat), x < 2 → Drew X.drew wx B p v n → Calls Tryz.prog 89 #[.agg #[.slice a0 S.l.length c0, .slice a1 S.T.length c1, .slice a2 S.L.length c2, .slice a3 S.C.length c3], int i64 (rp : Int), int i64 (T + 1 + (x : Int)), .agg #[int i64 k, .string o, .string y, int i64 vv, int i64 pl]] wx fun e w' => ∃ au cu, e = .returned (.tuple #[.agg #[int i64 (JB S (rp : Int) (T + 1 + (x : Int)) k o y vv pl).r, int i64 (JB S (rp : Int) (T + 1 + (x : Int)) k o y vv pl).s, int i64 (JB S (rp : Int) (T + 1 + (x : Int)) k o y vv pl).t, .slice au (JB S (rp : Int) (T + 1 + (x : Int)) k o y vv pl).l.length cu, int i64 (JB S (rp : Int) (T + 1 + (x : Int)) k o y vv pl).k, .string (JB S (rp : Int) (T + 1 + (x : Int)) k o y vv pl).o, .string (JB S (rp : Int) (T + 1 + (x : Int)) k o y vv pl).y, int i64 (JB S (rp : Int) (T + 1 + (x : Int)) k o y vv pl).v, int i64 (JB S (rp : Int) (T + 1 + (x : Int)) k o y vv pl).x, int i64 (JB S (rp : Int) (T + 1 + (x : Int)) k o y vv pl).z], int i64 (JK S (rp : Int) (T + 1 + (x : Int)) k o y vv pl)]) ∧ w'.ownsRow wx.heap.size 3 1 (.slice au (JB S (rp : Int) (T + 1 + (x : Int)) k o y vv pl).l.length cu) (JB S (rp : Int) (T + 1 + (x : Int)) k o y vv pl).l.length (Jj (JB S (rp : Int) (T + 1 + (x : Int)) k o y vv pl).l) ∧ Below wx.heap.size wx w') := fun wx x _ h => by
    refine (Ga S _ _ _ _ (rp : Int) (T + 1 + (x : Int)) k o y vv pl wx HS.out.small HS.out.named (hSt wx h).at (Zw HE.out).1 (Zw HE.out).2 (by have := HPL.out; omega)).mono ?_
    rintro e w' ⟨u, rfl, ho, hb⟩
    obtain ⟨au, cu, rfl, -⟩ := IntsAt.own (l := (JB S (rp : Int) (T + 1 + (x : Int)) k o y vv pl).l) ho rfl
    exact ⟨au, cu, rfl, ho, hb⟩
   have HBT : Hid (∀ x : Nat, x < 2 → T + 1 + (x : Int) ≤ 2 * ((m0 + j : Nat) : Int) + 2) := fun x hx => by
    have h1 := GB (C := S.C) (b := 2 * ((m0 + j : Nat) : Int)) (by omega) HM.out.t
    omega
   rw [← hTe] at hT hT0
   have hsX : w.heap.size + 1 + 1 ≤ X.heap.size := by omega
   have HSZ : Hid (w2.heap.size + 1 = X.heap.size) := hXs.symm
   obtain ⟨e0, e1, e2, e3⟩ := Row.four HR1.out
   obtain ⟨d0, d1, d2, d3, d4⟩ := Row.fiveC HRE.out
   clear hTe hSt hXs
   go_wp2
   rw [HXX.out]
   try simp only [List.append_eq, List.cons_append, List.nil_append]
   clear HXX
   have hDd : Drew X.drew X.drew B p v n := Drew.refl hcX
   refine wp_region_held_drew (S := fun w' => w'.cell? ⟨w.heap.size, 0, none⟩ = some (.slice a0 S.l.length c0) ∧ w'.cell? ⟨w.heap.size, 1, none⟩ = some (.slice a1 S.T.length c1) ∧ w'.cell? ⟨w.heap.size, 2, none⟩ = some (.slice a2 S.L.length c2) ∧ w'.cell? ⟨w.heap.size, 3, none⟩ = some (.slice a3 S.C.length c3) ∧ w'.cell? ⟨w2.heap.size, 0, none⟩ = some (int i64 k) ∧ w'.cell? ⟨w2.heap.size, 1, none⟩ = some (.string o) ∧ w'.cell? ⟨w2.heap.size, 2, none⟩ = some (.string y) ∧ w'.cell? ⟨w2.heap.size, 3, none⟩ = some (int i64 vv) ∧ w'.cell? ⟨w2.heap.size, 4, none⟩ = some (int i64 pl)) (by kernel_rfl) (HSC.out _ hDd) (fun _ => ?_)
   refine U0 (l' := #[false, false, false, false, false, false, false, false, false, false, false, false, false, false, false, false]) (by as_aux_lemma => kernel_rfl) ?_
   refine tQ 0 JjB ?_ (HSC.out _ hDd)
   refine tQ 1 Jjs ?_ (HSC.out _ hDd)
   refine tQ 2 JiR ?_ (HSC.out _ hDd)
   refine tQ 5 Jkf ?_ (HSC.out _ hDd)
   refine tQ 8 JiU ?_ (HSC.out _ hDd)
   refine JcW (W := X.drew) (T := T) (fun x => (JB S (rp : Int) (T + 1 + (x : Int)) k o y vv pl)) (fun x => JK S (rp : Int) (T + 1 + (x : Int)) k o y vv pl) hpX hBX ⟨hT0, hT⟩ hcX ?hP HSC.out HTT.out (fun wx h => KU 2 (by omega) (by omega) B p v n hn wx h.1) HAA.out ?hQQ
   case hP => exact fun _ _ d _ _ h => by cases d <;> exact h
   case hQQ =>
    intro x au cu ga wx hx hdx hrx hga hox hne
    refine rd 14 Jfu (fun K hK => ?_)
    obtain ⟨q0, q1, q2, q3, q4, q5, q6, q7, q8, q9⟩ := Row.ten hrx
    obtain ⟨f0, f1, f2, f3, f4, f5, f6, f7, f8, f9⟩ := hrx.frees
    obtain ⟨A, hA⟩ : ∃ A, A = (JB S (rp : Int) (T + 1 + (x : Int)) k o y vv pl) := ⟨_, rfl⟩
    rw [← hA] at hox hne ⊢
    have HAE := Ja hA
    obtain ⟨C, hC⟩ : ∃ C, C = JK S (rp : Int) (T + 1 + (x : Int)) k o y vv pl := ⟨_, rfl⟩
    rw [← hC]
    have HCE := Ja hC
    clear hA hC
    have hXd : X.drew.heap.size = X.heap.size := rfl
    have hga2 : w.heap.size ≤ ga := by omega
    go_simp
    rw [show _ = Jk wx ga A (.slice au A.l.length cu) from Jt wx ga A (.slice au A.l.length cu)]
    have hrY := Js hrx A (.slice au A.l.length cu)
    have hdY : Drew X.drew (Jk wx ga A (.slice au A.l.length cu)) B p v n := by
     unfold Jk
     exact (((((((((hdx.set hpX hBX hga _ _).set hpX hBX hga _ _).set hpX hBX hga _ _).set hpX hBX hga _ _).set hpX hBX hga _ _).set hpX hBX hga _ _).set hpX hBX hga _ _).set hpX hBX hga _ _).set hpX hBX hga _ _).set hpX hBX hga _ _
    have hoY : (Jk wx ga A (.slice au A.l.length cu)).ownsRow X.drew.heap.size 3 1 (.slice au A.l.length cu) A.l.length (Jj A.l) := GK hox (fun j hj => hne j hj) _ _
    generalize Jk wx ga A (.slice au A.l.length cu) = Y at *
    clear q0 q1 q2 q3 q4 q5 q6 q7 q8 q9 f0 f1 f2 f3 f4 f5 f6 f7 f8 f9
    refine hK.out _ _ (HSC.out _ hdY) (fun _ => ?_)
    clear hK K
    simp only [s1, s2, s3]
    refine tQ 15 Jfi ?_ (HSC.out _ hdY)
    refine wpd ?_
    have hszY : X.heap.size ≤ Y.heap.size := hdY.2.size
    have HDY : Hid (Drew w Y B p v n) := (HDX.out.call hp hB ((Below.refl _ _).drew)).trans hdY
    have HR1Y : Hid (Row Y w.heap.size #[.slice a0 S.l.length c0, .slice a1 S.T.length c1, .slice a2 S.L.length c2, .slice a3 S.C.length c3] 29) := Row.grown (w := X.drew) HR1.out hdY.2 (by intro e; injection e with e; omega)
    have HR2Y : Hid (Row Y (w.heap.size + 1) #[.slice none 0 0, .slice none 0 0, .slice none 0 0, .slice none 0 0] 29) := Row.grown (w := X.drew) HR2.out hdY.2 (by intro e; injection e with e; omega)
    have HOY : Hid (OwnS Y b S (.slice a0 S.l.length c0) (.slice a1 S.T.length c1) (.slice a2 S.L.length c2) (.slice a3 S.C.length c3)) := OwnS.drewC (w := X.drew) HO.out hdY hpb
    have HRA := Ja hrY
    have HUA := Ja hoY
    clear hrY hoY hdY hdx hrx hox hne
    clear e0 e1 e2 e3 d0 d1 d2 d3 d4
    by_cases h0 : C = 0
    ·have bC : (C == 0) = true := by simp [h0]
     have hcw : JK S (rp : Int) (T + 1 + (x : Int)) k o y vv pl = 0 := HCE.out.symm.trans h0
     have hab := JbL hcw HM.out
     rw [← HAE.out] at hab
     have HBN : Hid (Bnd (m0 + (j + 1)) (Jv S A)) := Yu (m := m0 + j) HM.out (by have := hab.1; omega) (by rw [hab.2.1]; exact HBT.out x hx)
     have HDC := Ja (K7 S _ _ _ _ A (.slice au A.l.length cu) Y HS.out.small HS.out.named HOY.out.at ⟨hab.2.2.1, by rw [hab.2.2.2.1]; exact (Zw HE.out).1, by rw [hab.2.2.2.2]; exact (Zw HE.out).2⟩ (IntsAt.own HUA.out rfl))
     clear h0 hcw hab
     obtain ⟨q0, q1, q2, q3, q4, q5, q6, q7, q8, q9⟩ := Row.ten HRA.out
     obtain ⟨e0, e1, e2, e3⟩ := Row.four HR1Y.out
     go_wp2_with fail
     refine HDC.out.mono ?_
     rintro e Z ⟨y0, y1, y2, y3, rfl, hOZ, hbz⟩
     obtain ⟨b0, d0, b1, d1, b2, d2, b3, d3, rfl, rfl, rfl, rfl⟩ := hOZ.at.shape
     have hr1z := HR1Y.out.next hbz
     have hr2z := HR2Y.out.next hbz
     have hdz := HDY.out.call hp hB hbz
     have hx1z := hOZ.off (g := w.heap.size) (.inl (by omega))
     have hx2z := hOZ.off (g := w.heap.size + 1) (.inl (by omega))
     clear q0 q1 q2 q3 q4 q5 q6 q7 q8 q9 e0 e1 e2 e3 HDC hbz
     obtain ⟨e0, e1, e2, e3⟩ := Row.four hr1z
     have k0 := hr1z.free 0
     have k1 := hr1z.free 1
     have k2 := hr1z.free 2
     have k3 := hr1z.free 3
     obtain ⟨G, hG⟩ : ∃ G, G = Jv S A := ⟨_, rfl⟩
     have HGK : Hid (SOk G) := by rw [hG]; exact Jbn A HS.out
     rw [← hG] at HBN hOZ hx1z hx2z ⊢
     obtain ⟨YY, hYY⟩ : ∃ YY, YY = ((((Z.setCell ⟨w.heap.size, 0, none⟩ (.slice b0 G.l.length d0)).setCell ⟨w.heap.size, 1, none⟩ (.slice b1 G.T.length d1)).setCell ⟨w.heap.size, 2, none⟩ (.slice b2 G.L.length d2)).setCell ⟨w.heap.size, 3, none⟩ (.slice b3 G.C.length d3)) := ⟨_, rfl⟩
     have HZY : Hid (Row YY w.heap.size #[.slice b0 G.l.length d0, .slice b1 G.T.length d1, .slice b2 G.L.length d2, .slice b3 G.C.length d3] 29) := by rw [hYY]; exact (((hr1z.st0 _).st1 _).st2 _).st3 _
     have HZ2 : Hid (Row YY (w.heap.size + 1) #[.slice none 0 0, .slice none 0 0, .slice none 0 0, .slice none 0 0] 29) := by rw [hYY]; exact (((hr2z.other (by simp) _).other (by simp) _).other (by simp) _).other (by simp) _
     have HOZ : Hid (OwnS YY b G (.slice b0 G.l.length d0) (.slice b1 G.T.length d1) (.slice b2 G.L.length d2) (.slice b3 G.C.length d3)) := by rw [hYY]; exact Own4.base ((((OwnS.put hOZ hx1z).put hx1z).put hx1z).put hx1z) (by omega)
     have HDZ : Hid (Drew w YY B p v n) := by rw [hYY]; exact (((hdz.set hp hB (Nat.le_refl _) _ _).set hp hB (Nat.le_refl _) _ _).set hp hB (Nat.le_refl _) _ _).set hp hB (Nat.le_refl _) _ _
     have HYY : Hid (((((Z.setCell ⟨w.heap.size, 0, none⟩ (.slice b0 G.l.length d0)).setCell ⟨w.heap.size, 1, none⟩ (.slice b1 G.T.length d1)).setCell ⟨w.heap.size, 2, none⟩ (.slice b2 G.L.length d2)).setCell ⟨w.heap.size, 3, none⟩ (.slice b3 G.C.length d3)) = YY) := hYY.symm
     have HX1Z := Ja hx1z
     have HX2Z := Ja hx2z
     clear hYY hOZ hdz hr1z hr2z hx1z hx2z hG
     go_wp2
     rw [HYY.out]
     go_roundw
     case rel => exact ⟨j + 1, by omega, by go_num, G, _, _, _, _, HGK.out, HBN.out, HZY.out, HZ2.out, HOZ.out, HX1Z.out, HX2Z.out, HDZ.out⟩
     case measure => simp [intOf]; omega
    ·have bC : (C == 0) = false := by simp [h0]
     clear h0
     go_wp2
     go_roundw
     case rel => exact ⟨j + 1, by omega, by go_num, S, _, _, _, _, HS.out, HM.out.mono (by omega), HR1Y.out, HR2Y.out, HOY.out, HX1.out, HX2.out, HDY.out⟩
     case measure => simp [intOf]; omega
  ·have hj1 : ¬ ((j : Int) < N) := by omega
   have hjn : j = N := by omega
   obtain ⟨e0, e1, e2, e3⟩ := Row.four hr1
   obtain ⟨z0, z1, z2, z3⟩ := Row.four hr2
   have k0 := hr2.free 0
   have k1 := hr2.free 1
   have k2 := hr2.free 2
   have k3 := hr2.free 3
   obtain ⟨YY, hYY⟩ : ∃ YY, YY = ((((wr.setCell ⟨w.heap.size + 1, 0, none⟩ (.slice a0 S.l.length c0)).setCell ⟨w.heap.size + 1, 1, none⟩ (.slice a1 S.T.length c1)).setCell ⟨w.heap.size + 1, 2, none⟩ (.slice a2 S.L.length c2)).setCell ⟨w.heap.size + 1, 3, none⟩ (.slice a3 S.C.length c3)) := ⟨_, rfl⟩
   have HZY : Hid (Row YY (w.heap.size + 1) #[.slice a0 S.l.length c0, .slice a1 S.T.length c1, .slice a2 S.L.length c2, .slice a3 S.C.length c3] 29) := by rw [hYY]; exact (((hr2.st0 _).st1 _).st2 _).st3 _
   have HOY : Hid (OwnS YY b S (.slice a0 S.l.length c0) (.slice a1 S.T.length c1) (.slice a2 S.L.length c2) (.slice a3 S.C.length c3)) := by rw [hYY]; exact (((hown.put HX2.out).put HX2.out).put HX2.out).put HX2.out
   have HDY : Hid (Drew w YY B p v n) := by rw [hYY]; exact (((hdr.set hp hB (by omega) _ _).set hp hB (by omega) _ _).set hp hB (by omega) _ _).set hp hB (by omega) _ _
   have HYY : Hid (((((wr.setCell ⟨w.heap.size + 1, 0, none⟩ (.slice a0 S.l.length c0)).setCell ⟨w.heap.size + 1, 1, none⟩ (.slice a1 S.T.length c1)).setCell ⟨w.heap.size + 1, 2, none⟩ (.slice a2 S.L.length c2)).setCell ⟨w.heap.size + 1, 3, none⟩ (.slice a3 S.C.length c3)) = YY) := hYY.symm
   have HMN : Hid (Bnd (m0 + N) S) := by rw [← hjn]; exact HM.out
   clear hYY hjn hown hdr hr1 hr2
   go_wp2
   rw [HYY.out]
   exact bodyPost_ret (Kf rfl rfl rfl HZY.out) rfl ⟨S, HS.out, HMN.out, _, _, _, _, rfl, HOY.out, HDY.out⟩
abbrev Jh4 : Oper := oq 12 (.load 29 (.tmp 4)) 29 "l10_merge.go:126" #[] none
abbrev Jj2 : Oper := oq 13 (.move (.tmp 2)) 3 "l10_merge.go:126" #[] none
abbrev JjF : Oper := oq 14 (.load 29 (.tmp 4)) 29 "l10_merge.go:126" #[] none
abbrev JhQ : Oper := oq 15 (.call ⟨.value (.func 90), #[.tmp 14], #[29]⟩) 3 "l10_merge.go:126" #[eD 2] none
abbrev Jgx : Oper := oq 16 (.binOp .add 3 (.tmp 15) (.const (int i64 1)) 3) 3 "l10_merge.go:126" #[eD 3] none
abbrev Jjb : Oper := oq 17 (.move (.tmp 0)) 85 "l10_merge.go:126" #[] none
abbrev Jf6 : Oper := oq 18 (.call ⟨.value (.func 139), #[.tmp 17], #[85]⟩) 113 "l10_merge.go:126" #[eD 5, eC 3] none
abbrev Jhd : Oper := oq 19 (.call ⟨.value (.func 89), #[.tmp 12, .tmp 13, .tmp 16, .tmp 18], #[29, 3, 3, 113]⟩) 114 "l10_merge.go:126" #[eD 0, eD 1, eD 4, eD 6, eC 6] none
abbrev Jhb : Oper := oq 11 (.move (.tmp 19)) 114 "l10_merge.go:126" #[eD 7] none
abbrev Jgm : Oper := oq 20 (.extract (.tmp 11) 0) 62 "l10_merge.go:126" #[eD 8] none
abbrev Jej : Oper := oq 21 (.extract (.tmp 11) 1) 3 "l10_merge.go:126" #[eD 8, { on := 12, ground := .gcOnly .lateStores }] none
abbrev JbK : Oper := oq 7 (.alloc 62) 0 "l10_merge.go:126" #[] none
abbrev Jfh : Oper := oz (.store 62 (.tmp 7) (.tmp 20)) 0 "l10_merge.go:126" #[eD 11, eD 9, eC 7, eP 0, eP 1, eP 2, eP 3, eP 4, eP 5, eP 6, eP 7, eP 8, eP 9, { on := 10, ground := .textOnly .lateStores }, eP 11] none
abbrev Jfc : Oper := oq 8 (.assign (.tmp 21)) 3 "l10_merge.go:126" #[eD 10, eC 12, eP 0, eP 1, eP 2, eP 3, eP 4, eP 5, eP 6, eP 7, eP 8, eP 9, eP 10, eP 11, eP 12] none
abbrev U3 : Array Oper := #[Jh4, Jj2, JjF, JhQ, Jgx, Jjb, Jf6, Jhd, Jhb, Jgm, Jej, JbK, Jfh, Jfc]
theorem JcU {ι : Type} {Q : Exit → Act → World → Prop} {SS : World → Prop} {W : World} {B p n : Nat} {v : Value} {rep T : Int} {sv : Value} (okx : ι → Prop) (ev : ι → Value) (A : ι → Ac) (cd : ι → Int) {x0 x1 x2 x3 x4 x5 x6 x7 x8 x9 x10 x11 x15 x16 x18 x19 x20 x21 x22 x23 x24 x25 x26 x27 x28 x29 x30 x31 : Value} (hp : p < W.heap.size) (hB : B ≤ W.heap.size) (hT0 : 0 ≤ T ∧ T ≤ 10000)
  (hc : Cur W B p v n) (hP : ∀ c a d v w, Q (.panic c) (a.put d v) w → Q (.panic c) a w) (hS : ∀ wx, Drew W wx B p v n → SS wx)
  (hT : ∀ wx, Drew W wx B p v n → Calls Tryz.prog 90 #[sv] wx fun e w' => e = .returned (int i64 T) ∧ Below wx.heap.size wx w')
  (hX : ∀ wx, Drew W wx B p v n → Calls Tryz.prog 139 #[.pointer (some ⟨p, 0, none⟩)] wx fun e w' => ∃ x : ι, okx x ∧ e = .returned (ev x) ∧ Drew wx w' B p v n)
  (hA : ∀ wx (x : ι), okx x → Drew W wx B p v n → Calls Tryz.prog 89 #[sv, int i64 rep, int i64 (T + 1), ev x] wx fun e w' => ∃ au cu, e = .returned (.tuple #[.agg #[int i64 (A x).r, int i64 (A x).s, int i64 (A x).t, .slice au (A x).l.length cu, int i64 (A x).k, .string (A x).o, .string (A x).y, int i64 (A x).v, int i64 (A x).x, int i64 (A x).z], int i64 (cd x)]) ∧ w'.ownsRow wx.heap.size 3 1 (.slice au (A x).l.length cu) (A x).l.length (Jj (A x).l) ∧ Below wx.heap.size wx w')
  (hQ : ∀ (x : ι) (au : Option Addr) (cu ga : Nat) (wx : World), okx x → Drew W wx B p v n → Row wx ga #[int i64 0, int i64 0, int i64 0, .slice none 0 0, int i64 0, .string ⟨#[]⟩, .string ⟨#[]⟩, int i64 0, int i64 0, int i64 0] 62 → W.heap.size ≤ ga → wx.ownsRow W.heap.size 3 1 (.slice au (A x).l.length cu) (A x).l.length (Jj (A x).l) → (∀ j, (Value.slice au (A x).l.length cu).ownBlock = some j → j ≠ ga) → wpAnyH Tryz.prog .any U3 Q SS 2 #[true, true, true, true, true, true, true, true, true, true, true, true, false, false] ⟨#[x0, x1, x2, x3, x4, x5, x6, .pointer (some ⟨ga, 0, none⟩), x8, x9, x10, .tuple #[.agg #[int i64 (A x).r, int i64 (A x).s, int i64 (A x).t, .slice au (A x).l.length cu, int i64 (A x).k, .string (A x).o, .string (A x).y, int i64 (A x).v, int i64 (A x).x, int i64 (A x).z], int i64 (cd x)], sv, int i64 rep, sv, int i64 T, int i64 (T + 1), .pointer (some ⟨p, 0, none⟩), ev x, .tuple #[.agg #[int i64 (A x).r, int i64 (A x).s, int i64 (A x).t, .slice au (A x).l.length cu, int i64 (A x).k, .string (A x).o, .string (A x).y, int i64 (A x).v, int i64 (A x).x, int i64 (A x).z], int i64 (cd x)], .agg #[int i64 (A x).r, int i64 (A x).s, int i64 (A x).t, .slice au (A x).l.length cu, int i64 (A x).k, .string (A x).o, .string (A x).y, int i64 (A x).v, int i64 (A x).x, int i64 (A x).z], int i64 (cd x), x22, x23, x24, x25, x26, x27, x28, x29, x30, x31], []⟩ wx) :
  wpAnyH Tryz.prog .any U3 Q SS 10 #[true, true, true, false, false, true, false, false, false, false, false, false, false, false] ⟨#[x0, x1, x2, x3, x4, x5, x6, x7, x8, x9, x10, x11, sv, int i64 rep, sv, x15, x16, .pointer (some ⟨p, 0, none⟩), x18, x19, x20, x21, x22, x23, x24, x25, x26, x27, x28, x29, x30, x31], []⟩ W := by
 have hw1 : IntKind.i64.wrap (T + 1) = T + 1 := by rw [IntKind.wrap_i64] <;> omega
 have hpg : ∀ ga : Nat, W.heap.size ≤ ga → (some p : Option Nat) ≠ some ga := fun ga h e => by injection e with e; omega
 have hnew : ∀ wx : World, Drew W wx B p v n → Drew W (wx.alloc (.cells #[int i64 0, int i64 0, int i64 0, .slice none 0 0, int i64 0, .string ⟨#[]⟩, .string ⟨#[]⟩, int i64 0, int i64 0, int i64 0] 62)) B p v n := fun wx h => h.alloc hp hB _
 have s3n : ∀ (x : ι) (au : Option Addr) (cu : Nat) (wx : World), okx x → Drew W wx B p v n → wx.ownsRow W.heap.size 3 1 (.slice au (A x).l.length cu) (A x).l.length (Jj (A x).l) → wpAnyH Tryz.prog .any U3 Q SS 3 #[true, true, true, true, true, true, true, true, true, true, true, false, false, false] ⟨#[x0, x1, x2, x3, x4, x5, x6, x7, x8, x9, x10, .tuple #[.agg #[int i64 (A x).r, int i64 (A x).s, int i64 (A x).t, .slice au (A x).l.length cu, int i64 (A x).k, .string (A x).o, .string (A x).y, int i64 (A x).v, int i64 (A x).x, int i64 (A x).z], int i64 (cd x)], sv, int i64 rep, sv, int i64 T, int i64 (T + 1), .pointer (some ⟨p, 0, none⟩), ev x, .tuple #[.agg #[int i64 (A x).r, int i64 (A x).s, int i64 (A x).t, .slice au (A x).l.length cu, int i64 (A x).k, .string (A x).o, .string (A x).y, int i64 (A x).v, int i64 (A x).x, int i64 (A x).z], int i64 (cd x)], .agg #[int i64 (A x).r, int i64 (A x).s, int i64 (A x).t, .slice au (A x).l.length cu, int i64 (A x).k, .string (A x).o, .string (A x).y, int i64 (A x).v, int i64 (A x).x, int i64 (A x).z], int i64 (cd x), x22, x23, x24, x25, x26, x27, x28, x29, x30, x31], []⟩ wx := by
  intro x au cu wx hx hd ho
  refine rd 11 JbK (fun K hK => ?_)
  have hd2 := hnew wx hd
  go_simp
  refine hK.out _ _ (hS _ hd2) (fun _ => ?_)
  clear hK K
  simp only [s1, s2, s3]
  exact hQ x au cu _ _ hx hd2 (Jb _ _ _ rfl) hd.2.size (ho.alloc _) (fun j hj => by have := (ho.lt j hj).2; omega)
 have s2y : ∀ (x : ι) (ga : Nat) (wx : World), okx x → Drew W wx B p v n → Row wx ga #[int i64 0, int i64 0, int i64 0, .slice none 0 0, int i64 0, .string ⟨#[]⟩, .string ⟨#[]⟩, int i64 0, int i64 0, int i64 0] 62 → W.heap.size ≤ ga → wpAnyH Tryz.prog .any U3 Q SS 6 #[true, true, true, true, true, true, true, false, false, false, false, true, false, false] ⟨#[x0, x1, x2, x3, x4, x5, x6, .pointer (some ⟨ga, 0, none⟩), x8, x9, x10, x11, sv, int i64 rep, sv, int i64 T, int i64 (T + 1), .pointer (some ⟨p, 0, none⟩), ev x, x19, x20, x21, x22, x23, x24, x25, x26, x27, x28, x29, x30, x31], []⟩ wx := by
  intro x ga wx hx hd hr hg
  refine rd 7 Jhd (fun K hK => ?_)
  have hAx := hA wx x hx hd
  have hgl := hr.lt
  have hss := hd.2.size
  go_simp
  refine hAx.mono ?_
  rintro e w' ⟨au, cu, rfl, ho, hb⟩
  have hd2 := hd.call hp hB hb
  have hr2 := hr.next hb
  have hne : ∀ j, (Value.slice au (A x).l.length cu).ownBlock = some j → j ≠ ga := fun j hj => by have := (ho.lt j hj).1; omega
  try go_wp2_with fail
  refine hK.out _ _ (hS _ hd2) (fun _ => ?_)
  clear hK K
  simp only [s1, s2, s3]
  refine tk 8 Jhb (hS _ hd2) ?_ (hQ := fun c a w h => hP c a _ _ w h)
  simp only [sq]
  refine tk 9 Jgm (hS _ hd2) ?_ (hQ := fun c a w h => hP c a _ _ w h)
  simp only [sq]
  refine tk 10 Jej (hS _ hd2) ?_ (hQ := fun c a w h => hP c a _ _ w h)
  simp only [sq]
  exact hQ x au cu ga _ hx hd2 hr2 hg (Jo ho hss) hne
 have s2n : ∀ (x : ι) (wx : World), okx x → Drew W wx B p v n → wpAnyH Tryz.prog .any U3 Q SS 7 #[true, true, true, true, true, true, true, false, false, false, false, false, false, false] ⟨#[x0, x1, x2, x3, x4, x5, x6, x7, x8, x9, x10, x11, sv, int i64 rep, sv, int i64 T, int i64 (T + 1), .pointer (some ⟨p, 0, none⟩), ev x, x19, x20, x21, x22, x23, x24, x25, x26, x27, x28, x29, x30, x31], []⟩ wx := by
  intro x wx hx hd
  refine wpAnyH_ready (rs := [7, 11]) (by as_aux_lemma => kernel_rfl) (by simp) ?_
  refine AllReadyH.cons (o := Jhd) rfl (fun K hK => ?_) (AllReadyH.cons (o := JbK) rfl (fun K hK => ?_) AllReadyH.nil)
  ·have hAx := hA wx x hx hd
   have hss := hd.2.size
   go_simp
   refine hAx.mono ?_
   rintro e w' ⟨au, cu, rfl, ho, hb⟩
   have hd2 := hd.call hp hB hb
   try go_wp2_with fail
   refine hK.out _ _ (hS _ hd2) (fun _ => ?_)
   clear hK K
   simp only [s1, s2, s3]
   refine tk 8 Jhb (hS _ hd2) ?_ (hQ := fun c a w h => hP c a _ _ w h)
   simp only [sq]
   refine tk 9 Jgm (hS _ hd2) ?_ (hQ := fun c a w h => hP c a _ _ w h)
   simp only [sq]
   refine tk 10 Jej (hS _ hd2) ?_ (hQ := fun c a w h => hP c a _ _ w h)
   simp only [sq]
   exact s3n x au cu _ hx hd2 (Jo ho hss)
  ·have hd2 := hnew wx hd
   go_simp
   refine hK.out _ _ (hS _ hd2) (fun _ => ?_)
   clear hK K
   simp only [s1, s2, s3]
   exact s2y x _ _ hx hd2 (Jb _ _ _ rfl) hd.2.size
 have s1y : ∀ (ga : Nat) (wx : World), Drew W wx B p v n → Row wx ga #[int i64 0, int i64 0, int i64 0, .slice none 0 0, int i64 0, .string ⟨#[]⟩, .string ⟨#[]⟩, int i64 0, int i64 0, int i64 0] 62 → W.heap.size ≤ ga → wpAnyH Tryz.prog .any U3 Q SS 7 #[true, true, true, true, true, true, false, false, false, false, false, true, false, false] ⟨#[x0, x1, x2, x3, x4, x5, x6, .pointer (some ⟨ga, 0, none⟩), x8, x9, x10, x11, sv, int i64 rep, sv, int i64 T, int i64 (T + 1), .pointer (some ⟨p, 0, none⟩), x18, x19, x20, x21, x22, x23, x24, x25, x26, x27, x28, x29, x30, x31], []⟩ wx := by
  intro ga wx hd hr hg
  refine rd 6 Jf6 (fun K hK => ?_)
  have hXx := hX wx hd
  go_simp
  refine hXx.mono ?_
  rintro e w' ⟨x, hx, rfl, hdx⟩
  have hd2 := hd.trans hdx
  have hr2 := hr.grown hdx.2 (hpg ga hg)
  try go_wp2_with fail
  refine hK.out _ _ (hS _ hd2) (fun _ => ?_)
  clear hK K
  simp only [s1, s2, s3]
  exact s2y x ga _ hx hd2 hr2 hg
 have s1n : ∀ (wx : World), Drew W wx B p v n → wpAnyH Tryz.prog .any U3 Q SS 8 #[true, true, true, true, true, true, false, false, false, false, false, false, false, false] ⟨#[x0, x1, x2, x3, x4, x5, x6, x7, x8, x9, x10, x11, sv, int i64 rep, sv, int i64 T, int i64 (T + 1), .pointer (some ⟨p, 0, none⟩), x18, x19, x20, x21, x22, x23, x24, x25, x26, x27, x28, x29, x30, x31], []⟩ wx := by
  intro wx hd
  refine wpAnyH_ready (rs := [6, 11]) (by as_aux_lemma => kernel_rfl) (by simp) ?_
  refine AllReadyH.cons (o := Jf6) rfl (fun K hK => ?_) (AllReadyH.cons (o := JbK) rfl (fun K hK => ?_) AllReadyH.nil)
  ·have hXx := hX wx hd
   go_simp
   refine hXx.mono ?_
   rintro e w' ⟨x, hx, rfl, hdx⟩
   have hd2 := hd.trans hdx
   try go_wp2_with fail
   refine hK.out _ _ (hS _ hd2) (fun _ => ?_)
   clear hK K
   simp only [s1, s2, s3]
   exact s2n x _ hx hd2
  ·have hd2 := hnew wx hd
   go_simp
   refine hK.out _ _ (hS _ hd2) (fun _ => ?_)
   clear hK K
   simp only [s1, s2, s3]
   exact s1y _ _ hd2 (Jb _ _ _ rfl) hd.2.size
 have s0y : ∀ (ga : Nat) (wx : World), Drew W wx B p v n → Row wx ga #[int i64 0, int i64 0, int i64 0, .slice none 0 0, int i64 0, .string ⟨#[]⟩, .string ⟨#[]⟩, int i64 0, int i64 0, int i64 0] 62 → W.heap.size ≤ ga → wpAnyH Tryz.prog .any U3 Q SS 9 #[true, true, true, false, false, true, false, false, false, false, false, true, false, false] ⟨#[x0, x1, x2, x3, x4, x5, x6, .pointer (some ⟨ga, 0, none⟩), x8, x9, x10, x11, sv, int i64 rep, sv, x15, x16, .pointer (some ⟨p, 0, none⟩), x18, x19, x20, x21, x22, x23, x24, x25, x26, x27, x28, x29, x30, x31], []⟩ wx := by
  intro ga wx hd hr hg
  refine rd 3 JhQ (fun K hK => ?_)
  have hTx := hT wx hd
  go_simp
  refine hTx.mono ?_
  rintro e w' ⟨rfl, hb⟩
  have hd2 := hd.call hp hB hb
  have hr2 := hr.next hb
  try go_wp2_with fail
  refine hK.out _ _ (hS _ hd2) (fun _ => ?_)
  clear hK K
  simp only [s1, s2, s3]
  refine tk 4 Jgx (hS _ hd2) ?_ (hQ := fun c a w h => hP c a _ _ w h)
  simp only [sq]
  exact s1y ga _ hd2 hr2 hg
 have hd : Drew W W B p v n := Drew.refl hc
 refine wpAnyH_ready (rs := [3, 11]) (by as_aux_lemma => kernel_rfl) (by simp) ?_
 refine AllReadyH.cons (o := JhQ) rfl (fun K hK => ?_) (AllReadyH.cons (o := JbK) rfl (fun K hK => ?_) AllReadyH.nil)
 ·have hTx := hT W hd
  go_simp
  refine hTx.mono ?_
  rintro e w' ⟨rfl, hb⟩
  have hd2 := hd.call hp hB hb
  try go_wp2_with fail
  refine hK.out _ _ (hS _ hd2) (fun _ => ?_)
  clear hK K
  simp only [s1, s2, s3]
  refine tk 4 Jgx (hS _ hd2) ?_ (hQ := fun c a w h => hP c a _ _ w h)
  simp only [sq]
  exact s1n _ hd2
 ·have hd2 := hnew W hd
  go_simp
  refine hK.out _ _ (hS _ hd2) (fun _ => ?_)
  clear hK K
  simp only [s1, s2, s3]
  exact s0y _ _ hd2 (Jb _ _ _ rfl) (Nat.le_refl _)
def EdD (x : Int × ByteArray × ByteArray × Int × Int) : Prop := EOk x.1 x.2.1 x.2.2.1 x.2.2.2.1 x.2.2.2.2 ∧ x.2.2.2.2 < 3
theorem Jfx (r : Nat) (m : Nat) (b B p : Nat) (v : Value) (n : Nat) (hn : n ≤ 1048576) (w : World) (hB : B ≤ w.heap.size) (hc : Cur w B p v n) (hpb : p < b) (hb : b ≤ w.heap.size) (S : Sta) (u0 u1 u2 u3 : Value) (hS : SOk S) (hM : Bnd m S) (hO : OwnS w b S u0 u1 u2 u3) :
  Calls Tryz.prog 130 #[.pointer (some ⟨p, 0, none⟩), .agg #[u0, u1, u2, u3], int i64 (r : Int)] w fun e w' => ∃ S' : Sta, SOk S' ∧ Bnd (m + 1) S' ∧ (∀ M, Went (r : Int) M S → Went (r : Int) M S') ∧ ∃ v0 v1 v2 v3 : Value, e = .returned (.agg #[v0, v1, v2, v3]) ∧ OwnS w' b S' v0 v1 v2 v3 ∧ (∀ g, g < w.heap.size → Zp g u0 u1 u2 u3 → Zp g v0 v1 v2 v3) ∧ Drew w w' B p v n := by
 obtain ⟨a0, c0, a1, c1, a2, c2, a3, c3, rfl, rfl, rfl, rfl⟩ := hO.at.shape
 have hp := hc.lt
 obtain ⟨X, hX⟩ : ∃ X, X = (w.alloc (.cells #[.slice a0 S.l.length c0, .slice a1 S.T.length c1, .slice a2 S.L.length c2, .slice a3 S.C.length c3] 29)).alloc (.cells #[.slice none 0 0, .slice none 0 0, .slice none 0 0, .slice none 0 0] 29) := ⟨_, rfl⟩
 have hXs : X.heap.size = w.heap.size + 1 + 1 := by rw [hX]; simp
 have HDX : Hid (Drew w X B p v n) := by rw [hX]; exact ((Drew.refl hc).alloc hp hB _).alloc hp hB _
 have HR1 : Hid (Row X w.heap.size #[.slice a0 S.l.length c0, .slice a1 S.T.length c1, .slice a2 S.L.length c2, .slice a3 S.C.length c3] 29) := by rw [hX]; exact (Jb w _ _ rfl).alloc _
 have HR2 : Hid (Row X (w.heap.size + 1) #[.slice none 0 0, .slice none 0 0, .slice none 0 0, .slice none 0 0] 29) := by rw [hX]; exact Jb _ _ _ (by simp)
 have HO : Hid (OwnS X b S (.slice a0 S.l.length c0) (.slice a1 S.T.length c1) (.slice a2 S.L.length c2) (.slice a3 S.C.length c3)) := by
  rw [hX]; exact Own4.next hO (((Below.refl _ _).alloc (Nat.le_refl _) _).alloc (by simp) _)
 have HX2 : Hid (Zp (w.heap.size + 1) (.slice a0 S.l.length c0) (.slice a1 S.T.length c1) (.slice a2 S.L.length c2) (.slice a3 S.C.length c3)) := hO.off (.inr (by omega))
 have HXX : Hid ((w.alloc (.cells #[.slice a0 S.l.length c0, .slice a1 S.T.length c1, .slice a2 S.L.length c2, .slice a3 S.C.length c3] 29)).alloc (.cells #[.slice none 0 0, .slice none 0 0, .slice none 0 0, .slice none 0 0] 29) = X) := hX.symm
 have HS := Ja hS
 have HM := Ja hM
 clear hX hO hM
 have HSC : Hid (∀ wx, Drew X.drew wx B p v n → wx.cell? ⟨w.heap.size, 0, none⟩ = some (.slice a0 S.l.length c0) ∧ wx.cell? ⟨w.heap.size, 1, none⟩ = some (.slice a1 S.T.length c1) ∧ wx.cell? ⟨w.heap.size, 2, none⟩ = some (.slice a2 S.L.length c2) ∧ wx.cell? ⟨w.heap.size, 3, none⟩ = some (.slice a3 S.C.length c3)) := fun wx h => Row.four (Row.grown (w := X.drew) (HR1.out) h.2 (by intro e; injection e with e; omega))
 have hcX : Cur X.drew B p v n := HDX.out.1
 have hpX : p < X.drew.heap.size := hcX.lt
 have hBX : B ≤ X.drew.heap.size := by show B ≤ X.heap.size; omega
 have hSt : ∀ wx, Drew X.drew wx B p v n → OwnS wx b S (.slice a0 S.l.length c0) (.slice a1 S.T.length c1) (.slice a2 S.L.length c2) (.slice a3 S.C.length c3) := fun wx h => OwnS.drewC (w := X.drew) HO.out h hpb
 have hT := GB (C := S.C) (b := 10000) (by omega) (fun c hc => by have := HS.out.tree.tim c hc; omega)
 have hT0 := (YK S.C).1
 obtain ⟨T, hTe⟩ : ∃ T, T = JP S.C := ⟨_, rfl⟩
 have HTT : Hid (∀ wx, Drew X.drew wx B p v n → Calls Tryz.prog 90 #[.agg #[.slice a0 S.l.length c0, .slice a1 S.T.length c1, .slice a2 S.L.length c2, .slice a3 S.C.length c3]] wx fun e w' => e = .returned (int i64 T) ∧ Below wx.heap.size wx w') := fun wx h => by rw [hTe]; exact KE S _ _ _ _ wx HS.out.small.2.2.2 (hSt wx h).at
 have HAA : Hid (∀ wx (x : Int × ByteArray × ByteArray × Int × Int), EdD x → Drew X.drew wx B p v n → Calls Tryz.prog 89 #[.agg #[.slice a0 S.l.length c0, .slice a1 S.T.length c1, .slice a2 S.L.length c2, .slice a3 S.C.length c3], int i64 (r : Int), int i64 (T + 1), .agg #[int i64 x.1, .string x.2.1, .string x.2.2.1, int i64 x.2.2.2.1, int i64 x.2.2.2.2]] wx fun e w' => ∃ au cu, e = .returned (.tuple #[.agg #[int i64 (JB S (r : Int) (T + 1) x.1 x.2.1 x.2.2.1 x.2.2.2.1 x.2.2.2.2).r, int i64 (JB S (r : Int) (T + 1) x.1 x.2.1 x.2.2.1 x.2.2.2.1 x.2.2.2.2).s, int i64 (JB S (r : Int) (T + 1) x.1 x.2.1 x.2.2.1 x.2.2.2.1 x.2.2.2.2).t, .slice au (JB S (r : Int) (T + 1) x.1 x.2.1 x.2.2.1 x.2.2.2.1 x.2.2.2.2).l.length cu, int i64 (JB S (r : Int) (T + 1) x.1 x.2.1 x.2.2.1 x.2.2.2.1 x.2.2.2.2).k, .string (JB S (r : Int) (T + 1) x.1 x.2.1 x.2.2.1 x.2.2.2.1 x.2.2.2.2).o, .string (JB S (r : Int) (T + 1) x.1 x.2.1 x.2.2.1 x.2.2.2.1 x.2.2.2.2).y, int i64 (JB S (r : Int) (T + 1) x.1 x.2.1 x.2.2.1 x.2.2.2.1 x.2.2.2.2).v, int i64 (JB S (r : Int) (T + 1) x.1 x.2.1 x.2.2.1 x.2.2.2.1 x.2.2.2.2).x, int i64 (JB S (r : Int) (T + 1) x.1 x.2.1 x.2.2.1 x.2.2.2.1 x.2.2.2.2).z], int i64 (JK S (r : Int) (T + 1) x.1 x.2.1 x.2.2.1 x.2.2.2.1 x.2.2.2.2)]) ∧ w'.ownsRow wx.heap.size 3 1 (.slice au (JB S (r : Int) (T + 1) x.1 x.2.1 x.2.2.1 x.2.2.2.1 x.2.2.2.2).l.length cu) (JB S (r : Int) (T + 1) x.1 x.2.1 x.2.2.1 x.2.2.2.1 x.2.2.2.2).l.length (Jj (JB S (r : Int) (T + 1) x.1 x.2.1 x.2.2.1 x.2.2.2.1 x.2.2.2.2).l) ∧ Below wx.heap.size wx w') := fun wx x hx h => by
  refine (Ga S _ _ _ _ (r : Int) (T + 1) x.1 x.2.1 x.2.2.1 x.2.2.2.1 x.2.2.2.2 wx HS.out.small HS.out.named (hSt wx h).at (Zw hx.1).1 (Zw hx.1).2 (by have := hx.2; omega)).mono ?_
  rintro e w' ⟨u, rfl, ho, hb⟩
  obtain ⟨au, cu, rfl, -⟩ := IntsAt.own (l := (JB S (r : Int) (T + 1) x.1 x.2.1 x.2.2.1 x.2.2.2.1 x.2.2.2.2).l) ho rfl
  exact ⟨au, cu, rfl, ho, hb⟩
 have HBT : Hid (T + 1 ≤ 2 * (m : Int) + 2) := by
  show _ ≤ _
  have h1 := GB (C := S.C) (b := 2 * (m : Int)) (by omega) HM.out.t
  omega
 rw [← hTe] at hT hT0
 have hsX : w.heap.size + 1 + 1 ≤ X.heap.size := by omega
 have HEE : Hid (∀ wx, Drew X.drew wx B p v n → Calls Tryz.prog 139 #[.pointer (some ⟨p, 0, none⟩)] wx fun e w' => ∃ x, EdD x ∧ e = .returned (.agg #[int i64 x.1, .string x.2.1, .string x.2.2.1, int i64 x.2.2.2.1, int i64 x.2.2.2.2]) ∧ Drew wx w' B p v n) := fun wx h => by
  refine (Jfp B p v n hn wx (by have := h.2.size; omega) h.1).mono ?_
  rintro e w' ⟨k, o, y, z, q, hE, rfl, hd⟩
  exact ⟨(k, o, y, z, q), hE, rfl, hd⟩
 obtain ⟨e0, e1, e2, e3⟩ := Row.four HR1.out
 clear hTe hSt hXs hS
 go_enter Tryz.func130, Tryz.ntmps130
 go_wp2
 rw [HXX.out]
 try simp only [List.append_eq, List.cons_append, List.nil_append]
 clear HXX
 have hDd : Drew X.drew X.drew B p v n := Drew.refl hcX
 refine wp_region_held_drew (S := fun w' => w'.cell? ⟨w.heap.size, 0, none⟩ = some (.slice a0 S.l.length c0) ∧ w'.cell? ⟨w.heap.size, 1, none⟩ = some (.slice a1 S.T.length c1) ∧ w'.cell? ⟨w.heap.size, 2, none⟩ = some (.slice a2 S.L.length c2) ∧ w'.cell? ⟨w.heap.size, 3, none⟩ = some (.slice a3 S.C.length c3)) (by kernel_rfl) (HSC.out _ hDd) (fun _ => ?_)
 refine U0 (l' := #[false, false, false, false, false, false, false, false, false, false, false, false, false, false]) (by as_aux_lemma => kernel_rfl) ?_
 refine tQ 0 Jh4 ?_ (HSC.out _ hDd)
 refine tQ 1 Jj2 ?_ (HSC.out _ hDd)
 refine tQ 2 JjF ?_ (HSC.out _ hDd)
 refine tQ 5 Jjb ?_ (HSC.out _ hDd)
 refine JcU (W := X.drew) (T := T) EdD (fun x => .agg #[int i64 x.1, .string x.2.1, .string x.2.2.1, int i64 x.2.2.2.1, int i64 x.2.2.2.2]) (fun x => (JB S (r : Int) (T + 1) x.1 x.2.1 x.2.2.1 x.2.2.2.1 x.2.2.2.2)) (fun x => JK S (r : Int) (T + 1) x.1 x.2.1 x.2.2.1 x.2.2.2.1 x.2.2.2.2) hpX hBX ⟨hT0, hT⟩ hcX ?hP HSC.out HTT.out HEE.out HAA.out ?hQQ
 case hP => exact fun _ _ d _ _ h => by cases d <;> exact h
 case hQQ =>
  intro x au cu ga wx hx hdx hrx hga hox hne
  refine rd 12 Jfh (fun K hK => ?_)
  obtain ⟨q0, q1, q2, q3, q4, q5, q6, q7, q8, q9⟩ := Row.ten hrx
  obtain ⟨f0, f1, f2, f3, f4, f5, f6, f7, f8, f9⟩ := hrx.frees
  obtain ⟨A, hA⟩ : ∃ A, A = (JB S (r : Int) (T + 1) x.1 x.2.1 x.2.2.1 x.2.2.2.1 x.2.2.2.2) := ⟨_, rfl⟩
  rw [← hA] at hox hne ⊢
  have HAE := Ja hA
  obtain ⟨C, hC⟩ : ∃ C, C = JK S (r : Int) (T + 1) x.1 x.2.1 x.2.2.1 x.2.2.2.1 x.2.2.2.2 := ⟨_, rfl⟩
  rw [← hC]
  have HCE := Ja hC
  clear hA hC
  have hXd : X.drew.heap.size = X.heap.size := rfl
  have hga2 : w.heap.size ≤ ga := by omega
  go_simp
  rw [show _ = Jk wx ga A (.slice au A.l.length cu) from Jt wx ga A (.slice au A.l.length cu)]
  have hrY := Js hrx A (.slice au A.l.length cu)
  have hdY : Drew X.drew (Jk wx ga A (.slice au A.l.length cu)) B p v n := by
   unfold Jk
   exact (((((((((hdx.set hpX hBX hga _ _).set hpX hBX hga _ _).set hpX hBX hga _ _).set hpX hBX hga _ _).set hpX hBX hga _ _).set hpX hBX hga _ _).set hpX hBX hga _ _).set hpX hBX hga _ _).set hpX hBX hga _ _).set hpX hBX hga _ _
  have hoY : (Jk wx ga A (.slice au A.l.length cu)).ownsRow X.drew.heap.size 3 1 (.slice au A.l.length cu) A.l.length (Jj A.l) := GK hox (fun j hj => hne j hj) _ _
  generalize Jk wx ga A (.slice au A.l.length cu) = Y at *
  clear q0 q1 q2 q3 q4 q5 q6 q7 q8 q9 f0 f1 f2 f3 f4 f5 f6 f7 f8 f9
  refine hK.out _ _ (HSC.out _ hdY) (fun _ => ?_)
  clear hK K
  simp only [s1, s2, s3]
  refine tQ 13 Jfc ?_ (HSC.out _ hdY)
  refine wpd ?_
  have hszY : X.heap.size ≤ Y.heap.size := hdY.2.size
  have HDY : Hid (Drew w Y B p v n) := (HDX.out.call hp hB ((Below.refl _ _).drew)).trans hdY
  have HR1Y : Hid (Row Y w.heap.size #[.slice a0 S.l.length c0, .slice a1 S.T.length c1, .slice a2 S.L.length c2, .slice a3 S.C.length c3] 29) := Row.grown (w := X.drew) HR1.out hdY.2 (by intro e; injection e with e; omega)
  have HR2Y : Hid (Row Y (w.heap.size + 1) #[.slice none 0 0, .slice none 0 0, .slice none 0 0, .slice none 0 0] 29) := Row.grown (w := X.drew) HR2.out hdY.2 (by intro e; injection e with e; omega)
  have HOY : Hid (OwnS Y b S (.slice a0 S.l.length c0) (.slice a1 S.T.length c1) (.slice a2 S.L.length c2) (.slice a3 S.C.length c3)) := OwnS.drewC (w := X.drew) HO.out hdY hpb
  have HRA := Ja hrY
  have HUA := Ja hoY
  have HE := Ja hx.1
  clear hrY hoY hdY hdx hrx hox hne e0 e1 e2 e3 HSC HTT HEE HAA
  by_cases h0 : C = 0
  ·have bC : (C == 0) = true := by simp [h0]
   have hcw : JK S (r : Int) (T + 1) x.1 x.2.1 x.2.2.1 x.2.2.2.1 x.2.2.2.2 = 0 := HCE.out.symm.trans h0
   have hab := JbL hcw HM.out
   rw [← HAE.out] at hab
   have HAR : Hid (A.r = (r : Int)) := by show _ = _; rw [HAE.out]; unfold JB; rw [if_pos hcw]; rfl
   have HBN : Hid (Bnd (m + 1) (Jv S A)) := Yu (m := m) HM.out (by have := hab.1; omega) (by rw [hab.2.1]; exact HBT.out)
   have HDC := Ja (K7 S _ _ _ _ A (.slice au A.l.length cu) Y HS.out.small HS.out.named HOY.out.at ⟨hab.2.2.1, by rw [hab.2.2.2.1]; exact (Zw HE.out).1, by rw [hab.2.2.2.2]; exact (Zw HE.out).2⟩ (IntsAt.own HUA.out rfl))
   clear h0 hcw hab
   obtain ⟨q0, q1, q2, q3, q4, q5, q6, q7, q8, q9⟩ := Row.ten HRA.out
   obtain ⟨e0, e1, e2, e3⟩ := Row.four HR1Y.out
   go_wp2_with fail
   refine HDC.out.mono ?_
   rintro e Z ⟨y0, y1, y2, y3, rfl, hOZ, hbz⟩
   obtain ⟨b0, d0, b1, d1, b2, d2, b3, d3, rfl, rfl, rfl, rfl⟩ := hOZ.at.shape
   have hr2z := HR2Y.out.next hbz
   have hdz := HDY.out.call hp hB hbz
   have hx2z := hOZ.off (g := w.heap.size + 1) (.inl (by omega))
   clear q0 q1 q2 q3 q4 q5 q6 q7 q8 q9 e0 e1 e2 e3 HDC hbz
   obtain ⟨G, hG⟩ : ∃ G, G = Jv S A := ⟨_, rfl⟩
   have HGK : Hid (SOk G) := by rw [hG]; exact Jbn A HS.out
   have HGW : Hid (∀ M, Went (r : Int) M S → Went (r : Int) M G) := fun M h => by rw [hG]; exact h.step A HAR.out
   rw [← hG] at HBN hOZ hx2z ⊢
   have hzl := hr2z.lt
   have hnz : (w.heap.size + 1 = Z.heap.size) = False := by simp; omega
   have hnz2 : (Z.heap.size = w.heap.size + 1) = False := by simp; omega
   obtain ⟨ZZ, hZZ⟩ : ∃ ZZ, ZZ = (((Z.setCell ⟨w.heap.size + 1, 0, none⟩ (.slice b0 G.l.length d0)).setCell ⟨w.heap.size + 1, 1, none⟩ (.slice b1 G.T.length d1)).setCell ⟨w.heap.size + 1, 2, none⟩ (.slice b2 G.L.length d2)).setCell ⟨w.heap.size + 1, 3, none⟩ (.slice b3 G.C.length d3) := ⟨_, rfl⟩
   have hr2 : Row ZZ (w.heap.size + 1) #[.slice b0 G.l.length d0, .slice b1 G.T.length d1, .slice b2 G.L.length d2, .slice b3 G.C.length d3] 29 := by rw [hZZ]; exact (((hr2z.st0 _).st1 _).st2 _).st3 _
   have hoz : OwnS ZZ Y.heap.size G (.slice b0 G.l.length d0) (.slice b1 G.T.length d1) (.slice b2 G.L.length d2) (.slice b3 G.C.length d3) := by rw [hZZ]; exact (((OwnS.put hOZ hx2z).put hx2z).put hx2z).put hx2z
   have hdzz : Drew w ZZ B p v n := by rw [hZZ]; exact (((hdz.set hp hB (by omega) _ _).set hp hB (by omega) _ _).set hp hB (by omega) _ _).set hp hB (by omega) _ _
   obtain ⟨YY, hYY⟩ : ∃ YY, YY = ZZ.alloc (.cells #[.slice b0 G.l.length d0, .slice b1 G.T.length d1, .slice b2 G.L.length d2, .slice b3 G.C.length d3] 29) := ⟨_, rfl⟩
   have HZY : Hid (Row YY (w.heap.size + 1) #[.slice b0 G.l.length d0, .slice b1 G.T.length d1, .slice b2 G.L.length d2, .slice b3 G.C.length d3] 29) := by rw [hYY]; exact hr2.alloc _
   have HOZ : Hid (OwnS YY b G (.slice b0 G.l.length d0) (.slice b1 G.T.length d1) (.slice b2 G.L.length d2) (.slice b3 G.C.length d3)) := by rw [hYY]; exact Own4.base (Own4.next hoz ((Below.refl _ _).alloc (Nat.le_refl _) _)) (by omega)
   have HDZ : Hid (Drew w YY B p v n) := by rw [hYY]; exact hdzz.alloc hp hB _
   have HYY : Hid (((((Z.setCell ⟨w.heap.size + 1, 0, none⟩ (.slice b0 G.l.length d0)).setCell ⟨w.heap.size + 1, 1, none⟩ (.slice b1 G.T.length d1)).setCell ⟨w.heap.size + 1, 2, none⟩ (.slice b2 G.L.length d2)).setCell ⟨w.heap.size + 1, 3, none⟩ (.slice b3 G.C.length d3)).alloc (.cells #[.slice b0 G.l.length d0, .slice b1 G.T.length d1, .slice b2 G.L.length d2, .slice b3 G.C.length d3] 29) = YY) := by show _ = _; rw [hYY, hZZ]
   obtain ⟨z0, z1, z2, z3⟩ := Row.four hr2z
   have k0 := hr2z.free 0
   have k1 := hr2z.free 1
   have k2 := hr2z.free 2
   have k3 := hr2z.free 3
   have HOF : Hid (∀ g, g < w.heap.size → Zp g (.slice b0 G.l.length d0) (.slice b1 G.T.length d1) (.slice b2 G.L.length d2) (.slice b3 G.C.length d3)) := fun g hg => OwnS.off hOZ (.inl (by omega))
   clear hYY hZZ hOZ hdz hdzz hr2z hr2 hx2z hG hoz
   go_wp2
   rw [HYY.out]
   exact bodyPost_ret (Kf rfl rfl rfl HZY.out) rfl ⟨G, HGK.out, HBN.out, HGW.out, _, _, _, _, rfl, HOZ.out, fun g hg _ => HOF.out g hg, HDZ.out⟩
  ·have bC : (C == 0) = false := by simp [h0]
   clear h0
   obtain ⟨e0, e1, e2, e3⟩ := Row.four HR1Y.out
   obtain ⟨z0, z1, z2, z3⟩ := Row.four HR2Y.out
   have k0 := HR2Y.out.free 0
   have k1 := HR2Y.out.free 1
   have k2 := HR2Y.out.free 2
   have k3 := HR2Y.out.free 3
   obtain ⟨YY, hYY⟩ : ∃ YY, YY = (((Y.setCell ⟨w.heap.size + 1, 0, none⟩ (.slice a0 S.l.length c0)).setCell ⟨w.heap.size + 1, 1, none⟩ (.slice a1 S.T.length c1)).setCell ⟨w.heap.size + 1, 2, none⟩ (.slice a2 S.L.length c2)).setCell ⟨w.heap.size + 1, 3, none⟩ (.slice a3 S.C.length c3) := ⟨_, rfl⟩
   have HZY : Hid (Row YY (w.heap.size + 1) #[.slice a0 S.l.length c0, .slice a1 S.T.length c1, .slice a2 S.L.length c2, .slice a3 S.C.length c3] 29) := by rw [hYY]; exact (((HR2Y.out.st0 _).st1 _).st2 _).st3 _
   have HOZ : Hid (OwnS YY b S (.slice a0 S.l.length c0) (.slice a1 S.T.length c1) (.slice a2 S.L.length c2) (.slice a3 S.C.length c3)) := by rw [hYY]; exact (((HOY.out.put HX2.out).put HX2.out).put HX2.out).put HX2.out
   have HDZ : Hid (Drew w YY B p v n) := by rw [hYY]; exact (((HDY.out.set hp hB (by omega) _ _).set hp hB (by omega) _ _).set hp hB (by omega) _ _).set hp hB (by omega) _ _
   have HYY : Hid (((((Y.setCell ⟨w.heap.size + 1, 0, none⟩ (.slice a0 S.l.length c0)).setCell ⟨w.heap.size + 1, 1, none⟩ (.slice a1 S.T.length c1)).setCell ⟨w.heap.size + 1, 2, none⟩ (.slice a2 S.L.length c2)).setCell ⟨w.heap.size + 1, 3, none⟩ (.slice a3 S.C.length c3)) = YY) := hYY.symm
   clear hYY
   go_wp2
   rw [HYY.out]
   exact bodyPost_ret (Kf rfl rfl rfl HZY.out) rfl ⟨S, HS.out, HM.out.mono (by omega), fun _ h => h, _, _, _, _, rfl, HOZ.out, fun _ _ h => h, HDZ.out⟩
def Gc : Sta := ⟨[0, 0, 0], [], [], []⟩
theorem Je4 : SOk Gc := ⟨by decide, ⟨by simp [Gc], fun i h => by simp [Gc] at h⟩, ⟨by simp [Gc], fun i h => by simp [Gc] at h⟩, ⟨by simp [Gc], fun i h => by simp [Gc] at h⟩, fun i h => by simp [Gc] at h, fun i h => by simp [Gc] at h⟩
theorem Jd0 : Bnd 0 Gc := ⟨by simp [Gc], by simp [Gc], by simp [Gc], by simp [Gc], by simp [Gc]⟩
theorem JdA {w : World} {B : Nat} {aa : Option Addr} {ca : Nat} (h : w.ownsRow B 3 1 (.slice aa 3 ca) 3 (Jj [0, 0, 0])) : OwnS w B Gc (.slice aa 3 ca) (.slice none 0 0) (.slice none 0 0) (.slice none 0 0) :=
 by refine ⟨⟨h, J7 _ _ _ _, J7 _ _ _ _, J7 _ _ _ _⟩, ?_, ?_, ?_, ?_, ?_, ?_⟩ <;> (intro k h1 h2; first | cases h1 | cases h2)
theorem JbZ (w : World) : Calls Tryz.prog 47 #[] w fun e w' => ∃ v0 v1 v2 v3, e = .returned (.agg #[v0, v1, v2, v3]) ∧ OwnS w' w.heap.size Gc v0 v1 v2 v3 ∧ Below w.heap.size w w' := by
 obtain ⟨W, hW⟩ : ∃ W, W = w.alloc (.cells #[.slice none 0 0, .slice none 0 0, .slice none 0 0, .slice none 0 0] 29) := ⟨_, rfl⟩
 have HP : Hid (Row W w.heap.size #[.slice none 0 0, .slice none 0 0, .slice none 0 0, .slice none 0 0] 29) := by rw [hW]; exact Jb w _ _ rfl
 have HB : Hid (Below w.heap.size w W) := by rw [hW]; exact (Below.refl _ _).alloc (Nat.le_refl _) _
 have hWs : W.heap.size = w.heap.size + 1 := by rw [hW]; simp
 have HW : Hid (w.alloc (.cells #[.slice none 0 0, .slice none 0 0, .slice none 0 0, .slice none 0 0] 29) = W) := hW.symm
 clear hW
 go_enter Tryz.func47, Tryz.ntmps47
 go_wp2_with fail
 rw [HW.out]
 clear HW
 refine (Uv W).mono ?_
 rintro e w1 ⟨u, rfl, ho, hb⟩
 obtain ⟨aa, ca, hu, -⟩ := IntsAt.own (l := [0, 0, 0]) ho rfl
 replace hu : u = .slice aa 3 ca := hu
 subst hu
 have HO := Ja (JdA ho)
 replace HP : Hid (Row w1 w.heap.size #[.slice none 0 0, .slice none 0 0, .slice none 0 0, .slice none 0 0] 29) := HP.out.next hb
 replace HB : Hid (Below w.heap.size w w1) := HB.out.trans (hb.mono HB.out.size)
 clear hb ho
 obtain ⟨o0, o1, o2, o3⟩ := Row.four HP.out
 have g0 := HP.out.free 0
 have g1 := HP.out.free 1
 have g2 := HP.out.free 2
 have g3 := HP.out.free 3
 have HZ := Ja ((((HP.out.st0 (.slice aa 3 ca)).st1 (.slice none 0 0)).st2 (.slice none 0 0)).st3 (.slice none 0 0))
 have HBB := Ja ((((HB.out.setCell (p := ⟨w.heap.size, 0, none⟩) (Nat.le_refl _) (.slice aa 3 ca)).setCell (p := ⟨w.heap.size, 1, none⟩) (Nat.le_refl _) (.slice none 0 0)).setCell (p := ⟨w.heap.size, 2, none⟩) (Nat.le_refl _) (.slice none 0 0)).setCell (p := ⟨w.heap.size, 3, none⟩) (Nat.le_refl _) (.slice none 0 0))
 have HOO := Ja (Own4.base ((((Own4.put (g := w.heap.size) (i := 0) (x := .slice aa 3 ca) HO.out (by omega)).put (g := w.heap.size) (i := 1) (x := .slice none 0 0) (by omega)).put (g := w.heap.size) (i := 2) (x := .slice none 0 0) (by omega)).put (g := w.heap.size) (i := 3) (x := .slice none 0 0) (by omega)) (show w.heap.size ≤ W.heap.size by omega))
 go_wp2
 exact bodyPost_ret (Kf rfl rfl rfl HZ.out) rfl ⟨_, _, _, _, rfl, HOO.out, HBB.out⟩
end Go.Proofs.YtdknoflkingodaaGreat
