/- A state grows by drawn edits. A right state is drawn. -/
import Derived.Test.YtdknoflkingodaaGreatM1
import Derived.Test.YtdknoflkingodaaGreatM2
import Derived.Test.YtdknoflkingodaaGreatM3
import Derived.Test.YtdknoflkingodaaGreatM4
import Derived.Test.YtdknoflkingodaaGreatM5
import Derived.Test.YtdknoflkingodaaGreatM6
import Derived.Test.YtdknoflkingodaaGreatM7
import Derived.Test.YtdknoflkingodaaGreatM8
import Derived.Test.YtdknoflkingodaaGreatM9
import Derived.Test.YtdknoflkingodaaGreatM10
import Derived.Test.YtdknoflkingodaaGreatM11
import Derived.Test.YtdknoflkingodaaGreatM12
import Derived.Test.YtdknoflkingodaaGreatM13
import Derived.Test.YtdknoflkingodaaGreatM14
import Derived.Test.YtdknoflkingodaaGreatM15
import Derived.Test.YtdknoflkingodaaGreatM16
import Derived.Test.YtdknoflkingodaaGreatM17
import Derived.Test.YtdknoflkingodaaGreatM18
import Derived.Test.YtdknoflkingodaaGreatM19
import Derived.Test.YtdknoflkingodaaGreatM20
import Derived.Test.YtdknoflkingodaaGreatM21
import Derived.Test.YtdknoflkingodaaGreatM22
import Derived.Test.YtdknoflkingodaaGreatM23
import Derived.Test.YtdknoflkingodaaGreatM24
import Derived.Test.YtdknoflkingodaaGreatM27
import Derived.Test.YtdknoflkingodaaGreatM28
import Derived.Test.YtdknoflkingodaaGreatM29
import Derived.Test.YtdknoflkingodaaGreatM30
import Derived.Test.YtdknoflkingodaaGreatM31
import Derived.Test.YtdknoflkingodaaGreatM32
import Derived.Test.YtdknoflkingodaaGreatM33
import Derived.Test.YtdknoflkingodaaGreatM34
import Derived.Test.YtdknoflkingodaaGreatM35
import Derived.Test.YtdknoflkingodaaGreatM36
import Derived.Test.YtdknoflkingodaaGreatM37
import Derived.Test.YtdknoflkingodaaGreatM38
import Derived.Test.YtdknoflkingodaaGreatM39
namespace Go.Proofs.YtdknoflkingodaaGreat
set_option maxRecDepth 100000
set_option linter.unusedVariables false
open Go.RowKit
abbrev gro0 : Oper := oq 22 (.load 29 (.tmp 4)) 29 "l06_state.go:129" #[] none
abbrev gro1 : Oper := oq 23 (.move (.tmp 8)) 3 "l06_state.go:129" #[] none
abbrev gro2 : Oper := oq 24 (.load 29 (.tmp 4)) 29 "l06_state.go:129" #[] none
abbrev gro3 : Oper := oq 25 (.call ⟨.value (.func 90), #[.tmp 24], #[29]⟩) 3 "l06_state.go:129" #[eD 2] none
abbrev gro4 : Oper := oq 26 (.binOp .add 3 (.tmp 25) (.const (.int .i64 1)) 3) 3 "l06_state.go:129" #[eD 3] none
abbrev gro5 : Oper := oq 27 (.move (.tmp 0)) 85 "l06_state.go:129" #[] none
abbrev gro6 : Oper := oq 28 (.call ⟨.value (.func 63), #[.tmp 27, .const (.int .i64 2)], #[85, 3]⟩) 3 "l06_state.go:129" #[eD 5, eC 3] none
abbrev gro7 : Oper := oq 29 (.binOp .add 3 (.tmp 26) (.tmp 28) 3) 3 "l06_state.go:129" #[eD 4, eD 6] none
abbrev gro8 : Oper := oq 30 (.load 113 (.tmp 9)) 113 "l06_state.go:129" #[] none
abbrev gro9 : Oper := oq 31 (.call ⟨.value (.func 89), #[.tmp 22, .tmp 23, .tmp 29, .tmp 30], #[29, 3, 3, 113]⟩) 114 "l06_state.go:129" #[eD 0, eD 1, eD 7, eD 8, eC 6] none
abbrev gro10 : Oper := oq 21 (.move (.tmp 31)) 114 "l06_state.go:129" #[eD 9] none
abbrev gro11 : Oper := oq 32 (.extract (.tmp 21) 0) 62 "l06_state.go:129" #[eD 10] none
abbrev gro12 : Oper := oq 33 (.extract (.tmp 21) 1) 3 "l06_state.go:129" #[eD 10, { on := 14, ground := .gcOnly .lateStores }] none
abbrev gro13 : Oper := oq 10 (.alloc 62) 0 "l06_state.go:129" #[] none
abbrev gro14 : Oper := oz (.store 62 (.tmp 10) (.tmp 32)) 0 "l06_state.go:129" #[eD 13, eD 11, eC 9, eP 0, eP 1, eP 2, eP 3, eP 4, eP 5, eP 6, eP 7, eP 8, eP 9, eP 10, eP 11, { on := 12, ground := .textOnly .lateStores }, eP 13] none
abbrev gro15 : Oper := oq 11 (.assign (.tmp 33)) 3 "l06_state.go:129" #[eD 12, eC 14, eP 0, eP 1, eP 2, eP 3, eP 4, eP 5, eP 6, eP 7, eP 8, eP 9, eP 10, eP 11, eP 12, eP 13, eP 14] none
abbrev grOps : Array Oper := #[gro0, gro1, gro2, gro3, gro4, gro5, gro6, gro7, gro8, gro9, gro10, gro11, gro12, gro13, gro14, gro15]
set_option maxHeartbeats 4000000 in
theorem gr_region {Q : Exit → Act → World → Prop} {SS : World → Prop} {W : World} {B p n : Nat} {v : Value} {rep T : Int} {sv ev : Value} (A : Nat → Ac) (cd : Nat → Int) {x0 x1 x2 x3 x4 x5 x6 x7 x8 x9 x10 x11 x12 x13 x14 x15 x16 x17 x18 x19 x20 x21 x25 x26 x28 x29 x31 x32 x33 x34 x35 x36 x37 x38 x39 x40 x41 x42 : Value} (hp : p < W.heap.size) (hB : B ≤ W.heap.size) (hT0 : 0 ≤ T ∧ T ≤ 10000)
  (hc : Cur W B p v n) (hP : ∀ c a d v w, Q (.panic c) (a.put d v) w → Q (.panic c) a w) (hS : ∀ wx, Drew W wx B p v n → SS wx)
  (hT : ∀ wx, Drew W wx B p v n → Calls Tryz.prog 90 #[sv] wx fun e w' => e = .returned (.int .i64 T) ∧ Below wx.heap.size wx w')
  (hX : ∀ wx, Drew W wx B p v n → Calls Tryz.prog 63 #[.pointer (some ⟨p, 0, none⟩), .int .i64 2] wx fun e w' => ∃ x : Nat, e = .returned (.int .i64 x) ∧ x < 2 ∧ Drew wx w' B p v n)
  (hA : ∀ wx (x : Nat), x < 2 → Drew W wx B p v n → Calls Tryz.prog 89 #[sv, .int .i64 rep, .int .i64 (T + 1 + (x : Int)), ev] wx fun e w' => ∃ au cu, e = .returned (.tuple #[.agg #[.int .i64 (A x).r, .int .i64 (A x).s, .int .i64 (A x).t, .slice au (A x).l.length cu, .int .i64 (A x).k, .string (A x).o, .string (A x).y, .int .i64 (A x).v, .int .i64 (A x).x, .int .i64 (A x).z], .int .i64 (cd x)]) ∧ w'.ownsRow wx.heap.size 3 1 (.slice au (A x).l.length cu) (A x).l.length (intV (A x).l) ∧ Below wx.heap.size wx w')
  (hQ : ∀ (x : Nat) (au : Option Addr) (cu ga : Nat) (wx : World), x < 2 → Drew W wx B p v n → Row wx ga #[.int .i64 0, .int .i64 0, .int .i64 0, .slice none 0 0, .int .i64 0, .string { data := #[] }, .string { data := #[] }, .int .i64 0, .int .i64 0, .int .i64 0] 62 → W.heap.size ≤ ga → wx.ownsRow W.heap.size 3 1 (.slice au (A x).l.length cu) (A x).l.length (intV (A x).l) → (∀ j, (Value.slice au (A x).l.length cu).ownBlock = some j → j ≠ ga) → wpAnyH Tryz.prog .any grOps Q SS 2 #[true, true, true, true, true, true, true, true, true, true, true, true, true, true, false, false] ⟨#[x0, x1, x2, x3, x4, x5, x6, x7, x8, x9, .pointer (some ⟨ga, 0, none⟩), x11, x12, x13, x14, x15, x16, x17, x18, x19, x20, .tuple #[.agg #[.int .i64 (A x).r, .int .i64 (A x).s, .int .i64 (A x).t, .slice au (A x).l.length cu, .int .i64 (A x).k, .string (A x).o, .string (A x).y, .int .i64 (A x).v, .int .i64 (A x).x, .int .i64 (A x).z], .int .i64 (cd x)], sv, .int .i64 rep, sv, .int .i64 T, .int .i64 (T + 1), .pointer (some ⟨p, 0, none⟩), .int .i64 (x : Int), .int .i64 (T + 1 + (x : Int)), ev, .tuple #[.agg #[.int .i64 (A x).r, .int .i64 (A x).s, .int .i64 (A x).t, .slice au (A x).l.length cu, .int .i64 (A x).k, .string (A x).o, .string (A x).y, .int .i64 (A x).v, .int .i64 (A x).x, .int .i64 (A x).z], .int .i64 (cd x)], .agg #[.int .i64 (A x).r, .int .i64 (A x).s, .int .i64 (A x).t, .slice au (A x).l.length cu, .int .i64 (A x).k, .string (A x).o, .string (A x).y, .int .i64 (A x).v, .int .i64 (A x).x, .int .i64 (A x).z], .int .i64 (cd x), x34, x35, x36, x37, x38, x39, x40, x41, x42], []⟩ wx) :
  wpAnyH Tryz.prog .any grOps Q SS 11 #[true, true, true, false, false, true, false, false, true, false, false, false, false, false, false, false] ⟨#[x0, x1, x2, x3, x4, x5, x6, x7, x8, x9, x10, x11, x12, x13, x14, x15, x16, x17, x18, x19, x20, x21, sv, .int .i64 rep, sv, x25, x26, .pointer (some ⟨p, 0, none⟩), x28, x29, ev, x31, x32, x33, x34, x35, x36, x37, x38, x39, x40, x41, x42], []⟩ W := by
 have hw1 : IntKind.i64.wrap (T + 1) = T + 1 := by rw [IntKind.wrap_i64] <;> omega
 have hw2 : ∀ x : Nat, x < 2 → IntKind.i64.wrap (T + 1 + (x : Int)) = T + 1 + (x : Int) := fun x hx => by rw [IntKind.wrap_i64] <;> omega
 have hpg : ∀ ga : Nat, W.heap.size ≤ ga → (some p : Option Nat) ≠ some ga := fun ga h e => by injection e with e; omega
 have hnew : ∀ wx : World, Drew W wx B p v n → Drew W (wx.alloc (.cells #[.int .i64 0, .int .i64 0, .int .i64 0, .slice none 0 0, .int .i64 0, .string { data := #[] }, .string { data := #[] }, .int .i64 0, .int .i64 0, .int .i64 0] 62)) B p v n := fun wx h => h.alloc hp hB _
 have s3n : ∀ (x : Nat) (au : Option Addr) (cu : Nat) (wx : World), x < 2 → Drew W wx B p v n → wx.ownsRow W.heap.size 3 1 (.slice au (A x).l.length cu) (A x).l.length (intV (A x).l) → wpAnyH Tryz.prog .any grOps Q SS 3 #[true, true, true, true, true, true, true, true, true, true, true, true, true, false, false, false] ⟨#[x0, x1, x2, x3, x4, x5, x6, x7, x8, x9, x10, x11, x12, x13, x14, x15, x16, x17, x18, x19, x20, .tuple #[.agg #[.int .i64 (A x).r, .int .i64 (A x).s, .int .i64 (A x).t, .slice au (A x).l.length cu, .int .i64 (A x).k, .string (A x).o, .string (A x).y, .int .i64 (A x).v, .int .i64 (A x).x, .int .i64 (A x).z], .int .i64 (cd x)], sv, .int .i64 rep, sv, .int .i64 T, .int .i64 (T + 1), .pointer (some ⟨p, 0, none⟩), .int .i64 (x : Int), .int .i64 (T + 1 + (x : Int)), ev, .tuple #[.agg #[.int .i64 (A x).r, .int .i64 (A x).s, .int .i64 (A x).t, .slice au (A x).l.length cu, .int .i64 (A x).k, .string (A x).o, .string (A x).y, .int .i64 (A x).v, .int .i64 (A x).x, .int .i64 (A x).z], .int .i64 (cd x)], .agg #[.int .i64 (A x).r, .int .i64 (A x).s, .int .i64 (A x).t, .slice au (A x).l.length cu, .int .i64 (A x).k, .string (A x).o, .string (A x).y, .int .i64 (A x).v, .int .i64 (A x).x, .int .i64 (A x).z], .int .i64 (cd x), x34, x35, x36, x37, x38, x39, x40, x41, x42], []⟩ wx := by
  intro x au cu wx hx hd ho
  refine rd 13 gro13 (fun K hK => ?_)
  have hd2 := hnew wx hd
  go_simp
  refine hK.out _ _ (hS _ hd2) (fun _ => ?_)
  clear hK K
  simp only [s1, s2, s3]
  exact hQ x au cu _ _ hx hd2 (row_new _ _ _ rfl) hd.2.size (ho.alloc _) (fun j hj => by have := (ho.lt j hj).2; omega)
 have s2y : ∀ (x ga : Nat) (wx : World), x < 2 → Drew W wx B p v n → Row wx ga #[.int .i64 0, .int .i64 0, .int .i64 0, .slice none 0 0, .int .i64 0, .string { data := #[] }, .string { data := #[] }, .int .i64 0, .int .i64 0, .int .i64 0] 62 → W.heap.size ≤ ga → wpAnyH Tryz.prog .any grOps Q SS 6 #[true, true, true, true, true, true, true, true, true, false, false, false, false, true, false, false] ⟨#[x0, x1, x2, x3, x4, x5, x6, x7, x8, x9, .pointer (some ⟨ga, 0, none⟩), x11, x12, x13, x14, x15, x16, x17, x18, x19, x20, x21, sv, .int .i64 rep, sv, .int .i64 T, .int .i64 (T + 1), .pointer (some ⟨p, 0, none⟩), .int .i64 (x : Int), .int .i64 (T + 1 + (x : Int)), ev, x31, x32, x33, x34, x35, x36, x37, x38, x39, x40, x41, x42], []⟩ wx := by
  intro x ga wx hx hd hr hg
  refine rd 9 gro9 (fun K hK => ?_)
  have hAx := hA wx x hx hd
  have hgl := hr.lt
  have hss := hd.2.size
  go_simp
  refine hAx.mono ?_
  rintro e w' ⟨au, cu, rfl, ho, hb⟩
  have hd2 := hd.call hp hB hb
  have hr2 := hr.next hb
  have hne : ∀ j, (Value.slice au (A x).l.length cu).ownBlock = some j → j ≠ ga := fun j hj => by have := (ho.lt j hj).1; omega
  try go_wp2_with fail
  refine hK.out _ _ (hS _ hd2) (fun _ => ?_)
  clear hK K
  simp only [s1, s2, s3]
  refine tk 10 gro10 (hS _ hd2) ?_ (hQ := fun c a w h => hP c a _ _ w h)
  simp only [sq]
  refine tk 11 gro11 (hS _ hd2) ?_ (hQ := fun c a w h => hP c a _ _ w h)
  simp only [sq]
  refine tk 12 gro12 (hS _ hd2) ?_ (hQ := fun c a w h => hP c a _ _ w h)
  simp only [sq]
  exact hQ x au cu ga _ hx hd2 hr2 hg (own_base ho hss) hne
 have s2n : ∀ (x : Nat) (wx : World), x < 2 → Drew W wx B p v n → wpAnyH Tryz.prog .any grOps Q SS 7 #[true, true, true, true, true, true, true, true, true, false, false, false, false, false, false, false] ⟨#[x0, x1, x2, x3, x4, x5, x6, x7, x8, x9, x10, x11, x12, x13, x14, x15, x16, x17, x18, x19, x20, x21, sv, .int .i64 rep, sv, .int .i64 T, .int .i64 (T + 1), .pointer (some ⟨p, 0, none⟩), .int .i64 (x : Int), .int .i64 (T + 1 + (x : Int)), ev, x31, x32, x33, x34, x35, x36, x37, x38, x39, x40, x41, x42], []⟩ wx := by
  intro x wx hx hd
  refine wpAnyH_ready (rs := [9, 13]) (by as_aux_lemma => kernel_rfl) (by simp) ?_
  refine AllReadyH.cons (o := gro9) rfl (fun K hK => ?_) (AllReadyH.cons (o := gro13) rfl (fun K hK => ?_) AllReadyH.nil)
  ·have hAx := hA wx x hx hd
   have hss := hd.2.size
   go_simp
   refine hAx.mono ?_
   rintro e w' ⟨au, cu, rfl, ho, hb⟩
   have hd2 := hd.call hp hB hb
   try go_wp2_with fail
   refine hK.out _ _ (hS _ hd2) (fun _ => ?_)
   clear hK K
   simp only [s1, s2, s3]
   refine tk 10 gro10 (hS _ hd2) ?_ (hQ := fun c a w h => hP c a _ _ w h)
   simp only [sq]
   refine tk 11 gro11 (hS _ hd2) ?_ (hQ := fun c a w h => hP c a _ _ w h)
   simp only [sq]
   refine tk 12 gro12 (hS _ hd2) ?_ (hQ := fun c a w h => hP c a _ _ w h)
   simp only [sq]
   exact s3n x au cu _ hx hd2 (own_base ho hss)
  ·have hd2 := hnew wx hd
   go_simp
   refine hK.out _ _ (hS _ hd2) (fun _ => ?_)
   clear hK K
   simp only [s1, s2, s3]
   exact s2y x _ _ hx hd2 (row_new _ _ _ rfl) hd.2.size
 have s1y : ∀ (ga : Nat) (wx : World), Drew W wx B p v n → Row wx ga #[.int .i64 0, .int .i64 0, .int .i64 0, .slice none 0 0, .int .i64 0, .string { data := #[] }, .string { data := #[] }, .int .i64 0, .int .i64 0, .int .i64 0] 62 → W.heap.size ≤ ga → wpAnyH Tryz.prog .any grOps Q SS 8 #[true, true, true, true, true, true, false, false, true, false, false, false, false, true, false, false] ⟨#[x0, x1, x2, x3, x4, x5, x6, x7, x8, x9, .pointer (some ⟨ga, 0, none⟩), x11, x12, x13, x14, x15, x16, x17, x18, x19, x20, x21, sv, .int .i64 rep, sv, .int .i64 T, .int .i64 (T + 1), .pointer (some ⟨p, 0, none⟩), x28, x29, ev, x31, x32, x33, x34, x35, x36, x37, x38, x39, x40, x41, x42], []⟩ wx := by
  intro ga wx hd hr hg
  refine rd 6 gro6 (fun K hK => ?_)
  have hXx := hX wx hd
  go_simp
  refine hXx.mono ?_
  rintro e w' ⟨x, rfl, hx, hdx⟩
  have hd2 := hd.trans hdx
  have hr2 := hr.grown hdx.2 (hpg ga hg)
  have hw3 := hw2 x hx
  try go_wp2_with fail
  refine hK.out _ _ (hS _ hd2) (fun _ => ?_)
  clear hK K
  simp only [s1, s2, s3]
  refine tk 7 gro7 (hS _ hd2) ?_ (hQ := fun c a w h => hP c a _ _ w h)
  simp only [sq]
  exact s2y x ga _ hx hd2 hr2 hg
 have s1n : ∀ (wx : World), Drew W wx B p v n → wpAnyH Tryz.prog .any grOps Q SS 9 #[true, true, true, true, true, true, false, false, true, false, false, false, false, false, false, false] ⟨#[x0, x1, x2, x3, x4, x5, x6, x7, x8, x9, x10, x11, x12, x13, x14, x15, x16, x17, x18, x19, x20, x21, sv, .int .i64 rep, sv, .int .i64 T, .int .i64 (T + 1), .pointer (some ⟨p, 0, none⟩), x28, x29, ev, x31, x32, x33, x34, x35, x36, x37, x38, x39, x40, x41, x42], []⟩ wx := by
  intro wx hd
  refine wpAnyH_ready (rs := [6, 13]) (by as_aux_lemma => kernel_rfl) (by simp) ?_
  refine AllReadyH.cons (o := gro6) rfl (fun K hK => ?_) (AllReadyH.cons (o := gro13) rfl (fun K hK => ?_) AllReadyH.nil)
  ·have hXx := hX wx hd
   go_simp
   refine hXx.mono ?_
   rintro e w' ⟨x, rfl, hx, hdx⟩
   have hd2 := hd.trans hdx
   have hw3 := hw2 x hx
   try go_wp2_with fail
   refine hK.out _ _ (hS _ hd2) (fun _ => ?_)
   clear hK K
   simp only [s1, s2, s3]
   refine tk 7 gro7 (hS _ hd2) ?_ (hQ := fun c a w h => hP c a _ _ w h)
   simp only [sq]
   exact s2n x _ hx hd2
  ·have hd2 := hnew wx hd
   go_simp
   refine hK.out _ _ (hS _ hd2) (fun _ => ?_)
   clear hK K
   simp only [s1, s2, s3]
   exact s1y _ _ hd2 (row_new _ _ _ rfl) hd.2.size
 have s0y : ∀ (ga : Nat) (wx : World), Drew W wx B p v n → Row wx ga #[.int .i64 0, .int .i64 0, .int .i64 0, .slice none 0 0, .int .i64 0, .string { data := #[] }, .string { data := #[] }, .int .i64 0, .int .i64 0, .int .i64 0] 62 → W.heap.size ≤ ga → wpAnyH Tryz.prog .any grOps Q SS 10 #[true, true, true, false, false, true, false, false, true, false, false, false, false, true, false, false] ⟨#[x0, x1, x2, x3, x4, x5, x6, x7, x8, x9, .pointer (some ⟨ga, 0, none⟩), x11, x12, x13, x14, x15, x16, x17, x18, x19, x20, x21, sv, .int .i64 rep, sv, x25, x26, .pointer (some ⟨p, 0, none⟩), x28, x29, ev, x31, x32, x33, x34, x35, x36, x37, x38, x39, x40, x41, x42], []⟩ wx := by
  intro ga wx hd hr hg
  refine rd 3 gro3 (fun K hK => ?_)
  have hTx := hT wx hd
  go_simp
  refine hTx.mono ?_
  rintro e w' ⟨rfl, hb⟩
  have hd2 := hd.call hp hB hb
  have hr2 := hr.next hb
  try go_wp2_with fail
  refine hK.out _ _ (hS _ hd2) (fun _ => ?_)
  clear hK K
  simp only [s1, s2, s3]
  refine tk 4 gro4 (hS _ hd2) ?_ (hQ := fun c a w h => hP c a _ _ w h)
  simp only [sq]
  exact s1y ga _ hd2 hr2 hg
 have hd : Drew W W B p v n := Drew.refl hc
 refine wpAnyH_ready (rs := [3, 13]) (by as_aux_lemma => kernel_rfl) (by simp) ?_
 refine AllReadyH.cons (o := gro3) rfl (fun K hK => ?_) (AllReadyH.cons (o := gro13) rfl (fun K hK => ?_) AllReadyH.nil)
 ·have hTx := hT W hd
  go_simp
  refine hTx.mono ?_
  rintro e w' ⟨rfl, hb⟩
  have hd2 := hd.call hp hB hb
  try go_wp2_with fail
  refine hK.out _ _ (hS _ hd2) (fun _ => ?_)
  clear hK K
  simp only [s1, s2, s3]
  refine tk 4 gro4 (hS _ hd2) ?_ (hQ := fun c a w h => hP c a _ _ w h)
  simp only [sq]
  exact s1n _ hd2
 ·have hd2 := hnew W hd
  go_simp
  refine hK.out _ _ (hS _ hd2) (fun _ => ?_)
  clear hK K
  simp only [s1, s2, s3]
  exact s0y _ _ hd2 (row_new _ _ _ rfl) (Nat.le_refl _)
theorem actW_bnd {m : Nat} {S : Sta} {r t k : Int} {o y : ByteArray} {v pl : Int} (h : codeW S r t k o y v pl = 0) (hb : Bnd m S) : (actW S r t k o y v pl).s ≤ (m : Int) + 1 ∧ (actW S r t k o y v pl).t = t ∧ ((actW S r t k o y v pl).l.length ≤ 1048576 ∧ (actW S r t k o y v pl).o = o ∧ (actW S r t k o y v pl).y = y) := by
 obtain ⟨h1, h2, h3, -, -, -⟩ := codeW_ok h
 unfold actW
 rw [if_pos h]
 refine ⟨?_, rfl, ?_, rfl, rfl⟩
 ·show S.l.getD r.toNat 0 + 1 ≤ _
  have hl : r.toNat < S.l.length := by rw [h1.1.1]; omega
  have := hb.l S.l[r.toNat] (List.getElem_mem hl)
  rw [show S.l.getD r.toNat 0 = S.l[r.toNat] by simp [List.getD, hl]]
  omega
 ·show S.l.length ≤ _
  rw [h1.1.1]; omega
theorem eok_small {k : Int} {o y : ByteArray} {v pl : Int} (h : EOk k o y v pl) : o.size ≤ 1048576 ∧ y.size ≤ 1048576 := by
 refine ⟨by have := h.1.2.1.1; omega, ?_⟩
 have hk := h.1.2.2.1
 unfold KeyOk at hk
 by_cases hc : 2 ≤ k ∧ k ≤ 5
 ·rw [if_pos hc] at hk; have := hk.1; omega
 ·rw [if_neg hc] at hk
  by_cases h0 : 0 < y.size
  ·rw [isEmpty_no y h0] at hk; cases hk
  ·omega
theorem OwnS.keep {w w' : World} {B : Nat} {S : Sta} {v0 v1 v2 v3 : Value} (h : OwnS w B S v0 v1 v2 v3) (hk : ∀ j, B ≤ j → j < w.heap.size → (v0.ownBlock = some j ∨ v1.ownBlock = some j ∨ v2.ownBlock = some j ∨ v3.ownBlock = some j) → w'.heap[j]? = w.heap[j]?) : OwnS w' B S v0 v1 v2 v3 := by
 obtain ⟨⟨h1, h2, h3, h4⟩, hd⟩ := h
 refine ⟨⟨h1.same ?_, h2.same ?_, h3.same ?_, h4.same ?_⟩, hd⟩
 ·intro r hr j hj; injection hr with hr; subst hr; have := World.ownsRow.lt h1 j hj; exact hk j this.1 this.2 (.inl hj)
 ·intro r hr j hj; injection hr with hr; subst hr; have := World.ownsRow.lt h2 j hj; exact hk j this.1 this.2 (.inr (.inl hj))
 ·intro r hr j hj; injection hr with hr; subst hr; have := World.ownsRow.lt h3 j hj; exact hk j this.1 this.2 (.inr (.inr (.inl hj)))
 ·intro r hr j hj; injection hr with hr; subst hr; have := World.ownsRow.lt h4 j hj; exact hk j this.1 this.2 (.inr (.inr (.inr hj)))
theorem OwnS.drewC {w w' : World} {b B p n : Nat} {v : Value} {S : Sta} {v0 v1 v2 v3 : Value} (h : OwnS w b S v0 v1 v2 v3) (hd : Drew w w' B p v n) (hp : p < b) : OwnS w' b S v0 v1 v2 v3 :=
 h.keep (fun j hj hl _ => hd.2.block j hl (fun e => by injection e with e; omega))
theorem OwnS.put {w : World} {b g i : Nat} {x : Value} {S : Sta} {v0 v1 v2 v3 : Value} (h : OwnS w b S v0 v1 v2 v3) (ho : OffS g v0 v1 v2 v3) : OwnS (w.setCell ⟨g, i, none⟩ x) b S v0 v1 v2 v3 :=
 h.keep (fun j _ hl hj => Below.heap_setCell w _ x j (fun e => by
  rcases hj with hj | hj | hj | hj
  ·exact ho.1 j hj e
  ·exact ho.2.1 j hj e
  ·exact ho.2.2.1 j hj e
  ·exact ho.2.2.2 j hj e))
theorem OwnS.off {w : World} {b g : Nat} {S : Sta} {v0 v1 v2 v3 : Value} (h : OwnS w b S v0 v1 v2 v3) (hg : g < b ∨ w.heap.size ≤ g) : OffS g v0 v1 v2 v3 := by
 obtain ⟨⟨h1, h2, h3, h4⟩, -⟩ := h
 refine ⟨fun j hj => ?_, fun j hj => ?_, fun j hj => ?_, fun j hj => ?_⟩
 ·have := World.ownsRow.lt h1 j hj; omega
 ·have := World.ownsRow.lt h2 j hj; omega
 ·have := World.ownsRow.lt h3 j hj; omega
 ·have := World.ownsRow.lt h4 j hj; omega
set_option maxHeartbeats 16000000 in
theorem grownD (m0 N : Nat) (hN : N ≤ 100) (b B p : Nat) (v : Value) (n : Nat) (hn : n ≤ 1048576) (w : World) (hB : B ≤ w.heap.size) (hc : Cur w B p v n) (hpb : p < b) (hb : b ≤ w.heap.size) (S0 : Sta) (u0 u1 u2 u3 : Value) (hS0 : SOk S0) (hM0 : Bnd m0 S0) (hO0 : OwnS w b S0 u0 u1 u2 u3) :
  Calls Tryz.prog 120 #[.pointer (some ⟨p, 0, none⟩), .agg #[u0, u1, u2, u3], .int .i64 (N : Int)] w fun e w' => ∃ S' : Sta, SOk S' ∧ Bnd (m0 + N) S' ∧ ∃ v0 v1 v2 v3 : Value, e = .returned (.agg #[v0, v1, v2, v3]) ∧ OwnS w' b S' v0 v1 v2 v3 ∧ Drew w w' B p v n := by
 obtain ⟨a0, c0, a1, c1, a2, c2, a3, c3, rfl, rfl, rfl, rfl⟩ := hO0.at.shape
 have hp := hc.lt
 obtain ⟨W, hW⟩ : ∃ W, W = (w.alloc (.cells #[.slice a0 S0.l.length c0, .slice a1 S0.T.length c1, .slice a2 S0.L.length c2, .slice a3 S0.C.length c3] 29)).alloc (.cells #[.slice none 0 0, .slice none 0 0, .slice none 0 0, .slice none 0 0] 29) := ⟨_, rfl⟩
 have hWs : W.heap.size = w.heap.size + 1 + 1 := by rw [hW]; simp
 have hD0 : Drew w W B p v n := by rw [hW]; exact ((Drew.refl hc).alloc hp hB _).alloc hp hB _
 have hR1 : Row W w.heap.size #[.slice a0 S0.l.length c0, .slice a1 S0.T.length c1, .slice a2 S0.L.length c2, .slice a3 S0.C.length c3] 29 := by rw [hW]; exact (row_new w _ _ rfl).alloc _
 have hR2 : Row W (w.heap.size + 1) #[.slice none 0 0, .slice none 0 0, .slice none 0 0, .slice none 0 0] 29 := by rw [hW]; exact row_new _ _ _ (by simp)
 have hOW : OwnS W b S0 (.slice a0 S0.l.length c0) (.slice a1 S0.T.length c1) (.slice a2 S0.L.length c2) (.slice a3 S0.C.length c3) := by
  rw [hW]; exact Own4.next hO0 (((Below.refl _ _).alloc (Nat.le_refl _) _).alloc (by simp) _)
 have hX1 : OffS w.heap.size (.slice a0 S0.l.length c0) (.slice a1 S0.T.length c1) (.slice a2 S0.L.length c2) (.slice a3 S0.C.length c3) := hO0.off (.inr (Nat.le_refl _))
 have hX2 : OffS (w.heap.size + 1) (.slice a0 S0.l.length c0) (.slice a1 S0.T.length c1) (.slice a2 S0.L.length c2) (.slice a3 S0.C.length c3) := hO0.off (.inr (by omega))
 have HI0 : Hid (∃ (S : Sta) (v0 v1 v2 v3 : Value), SOk S ∧ Bnd (m0 + 0) S ∧ Row W w.heap.size #[v0, v1, v2, v3] 29 ∧ Row W (w.heap.size + 1) #[.slice none 0 0, .slice none 0 0, .slice none 0 0, .slice none 0 0] 29 ∧ OwnS W b S v0 v1 v2 v3 ∧ OffS w.heap.size v0 v1 v2 v3 ∧ OffS (w.heap.size + 1) v0 v1 v2 v3 ∧ Drew w W B p v n) := ⟨S0, _, _, _, _, hS0, hM0, hR1, hR2, hOW, hX1, hX2, hD0⟩
 have HW : Hid ((w.alloc (.cells #[.slice a0 S0.l.length c0, .slice a1 S0.T.length c1, .slice a2 S0.L.length c2, .slice a3 S0.C.length c3] 29)).alloc (.cells #[.slice none 0 0, .slice none 0 0, .slice none 0 0, .slice none 0 0] 29) = W) := hW.symm
 clear hW hD0 hR1 hR2 hOW hX1 hX2 hS0 hM0 hO0
 go_enter Tryz.func120, Tryz.ntmps120
 go_wp2
 rw [HW.out]
 clear HW
 go_loopw [7] (fun z wr => ∃ k : Nat, k ≤ N ∧ z = .int .i64 k ∧ ∃ (S : Sta) (v0 v1 v2 v3 : Value), SOk S ∧ Bnd (m0 + k) S ∧ Row wr w.heap.size #[v0, v1, v2, v3] 29 ∧ Row wr (w.heap.size + 1) #[.slice none 0 0, .slice none 0 0, .slice none 0 0, .slice none 0 0] 29 ∧ OwnS wr b S v0 v1 v2 v3 ∧ OffS w.heap.size v0 v1 v2 v3 ∧ OffS (w.heap.size + 1) v0 v1 v2 v3 ∧ Drew w wr B p v n) (fun z _ => N - (intOf z).toNat)
 case atStart => exact ⟨0, Nat.zero_le _, rfl, HI0.out⟩
 case round =>
  clear HI0
  obtain ⟨j, hj, rfl, S, v0, v1, v2, v3, hS, hM, hr1, hr2, hown, hx1, hx2, hdr⟩ := hrel
  obtain ⟨a0, c0, a1, c1, a2, c2, a3, c3, rfl, rfl, rfl, rfl⟩ := hown.at.shape
  have HS := hidI hS
  have HM := hidI hM
  have HX1 := hidI hx1
  have HX2 := hidI hx2
  have hs0 := hdr.2.size
  have hr2l := hr2.lt
  clear hS hM hx1 hx2
  by_cases hlt : j < N
  ·have hj1 : (j : Int) < N := by omega
   go_wp2_with fail
   refine (belowD 3 (by omega) (by omega) B p v n hn _ hdr.1).mono ?_
   rintro e w1 ⟨rp, rfl, hrp, hd1⟩
   have hdr1 := hdr.trans hd1
   have HR1 := hidI (hr1.grown hd1.2 (by intro e; injection e with e; omega))
   have HR2 := hidI (hr2.grown hd1.2 (by intro e; injection e with e; omega))
   have HO := hidI (hown.drewC hd1 hpb)
   have hs1 := hd1.2.size
   clear hd1 hdr hr1 hr2 hown
   go_wp2_with fail
   refine (editD B p v n hn _ (by omega) hdr1.1).mono ?_
   rintro e w2 ⟨k, o, y, vv, pl, ⟨hE, hpl⟩, rfl, hd2⟩
   have hdr2 := hdr1.trans hd2
   replace HR1 := hidI (HR1.out.grown hd2.2 (by intro e; injection e with e; omega))
   replace HR2 := hidI (HR2.out.grown hd2.2 (by intro e; injection e with e; omega))
   replace HO := hidI (HO.out.drewC hd2 hpb)
   have hs2 := hd2.2.size
   have HE := hidI hE
   have HPL := hidI hpl
   clear hd2 hdr1 hE hpl
   obtain ⟨X, hX⟩ : ∃ X, X = w2.alloc (.cells #[.int .i64 k, .string o, .string y, .int .i64 vv, .int .i64 pl] 113) := ⟨_, rfl⟩
   have hXs : X.heap.size = w2.heap.size + 1 := by rw [hX]; simp
   have HRE : Hid (Row X w2.heap.size #[.int .i64 k, .string o, .string y, .int .i64 vv, .int .i64 pl] 113) := by rw [hX]; exact row_new _ _ _ rfl
   replace HR1 : Hid (Row X w.heap.size #[.slice a0 S.l.length c0, .slice a1 S.T.length c1, .slice a2 S.L.length c2, .slice a3 S.C.length c3] 29) := by rw [hX]; exact HR1.out.alloc _
   replace HR2 : Hid (Row X (w.heap.size + 1) #[.slice none 0 0, .slice none 0 0, .slice none 0 0, .slice none 0 0] 29) := by rw [hX]; exact HR2.out.alloc _
   replace HO : Hid (OwnS X b S (.slice a0 S.l.length c0) (.slice a1 S.T.length c1) (.slice a2 S.L.length c2) (.slice a3 S.C.length c3)) := by rw [hX]; exact Own4.next HO.out ((Below.refl _ _).alloc (Nat.le_refl _) _)
   have HDX : Hid (Drew w X B p v n) := by rw [hX]; exact hdr2.alloc hp hB _
   have HXX : Hid (w2.alloc (.cells #[.int .i64 k, .string o, .string y, .int .i64 vv, .int .i64 pl] 113) = X) := hX.symm
   clear hX hdr2
   have HSC : Hid (∀ wx, Drew X.drew wx B p v n → wx.cell? ⟨w.heap.size, 0, none⟩ = some (.slice a0 S.l.length c0) ∧ wx.cell? ⟨w.heap.size, 1, none⟩ = some (.slice a1 S.T.length c1) ∧ wx.cell? ⟨w.heap.size, 2, none⟩ = some (.slice a2 S.L.length c2) ∧ wx.cell? ⟨w.heap.size, 3, none⟩ = some (.slice a3 S.C.length c3) ∧ wx.cell? ⟨w2.heap.size, 0, none⟩ = some (.int .i64 k) ∧ wx.cell? ⟨w2.heap.size, 1, none⟩ = some (.string o) ∧ wx.cell? ⟨w2.heap.size, 2, none⟩ = some (.string y) ∧ wx.cell? ⟨w2.heap.size, 3, none⟩ = some (.int .i64 vv) ∧ wx.cell? ⟨w2.heap.size, 4, none⟩ = some (.int .i64 pl)) := fun wx h => by
    obtain ⟨e0, e1, e2, e3⟩ := Row.four (Row.grown (w := X.drew) (HR1.out) h.2 (by intro e; injection e with e; omega))
    obtain ⟨d0, d1, d2, d3, d4⟩ := Row.fiveC (Row.grown (w := X.drew) (HRE.out) h.2 (by intro e; injection e with e; omega))
    exact ⟨e0, e1, e2, e3, d0, d1, d2, d3, d4⟩
   have hcX : Cur X.drew B p v n := HDX.out.1
   have hpX : p < X.drew.heap.size := hcX.lt
   have hBX : B ≤ X.drew.heap.size := by show B ≤ X.heap.size; omega
   have hSt : ∀ wx, Drew X.drew wx B p v n → OwnS wx b S (.slice a0 S.l.length c0) (.slice a1 S.T.length c1) (.slice a2 S.L.length c2) (.slice a3 S.C.length c3) := fun wx h => OwnS.drewC (w := X.drew) HO.out h hpb
   have hT := timeOf_le (C := S.C) (b := 10000) (by omega) (fun c hc => by have := HS.out.tree.tim c hc; omega)
   have hT0 := (timeOf_ge S.C).1
   obtain ⟨T, hTe⟩ : ∃ T, T = timeOf S.C := ⟨_, rfl⟩
   have HTT : Hid (∀ wx, Drew X.drew wx B p v n → Calls Tryz.prog 90 #[.agg #[.slice a0 S.l.length c0, .slice a1 S.T.length c1, .slice a2 S.L.length c2, .slice a3 S.C.length c3]] wx fun e w' => e = .returned (.int .i64 T) ∧ Below wx.heap.size wx w') := fun wx h => by rw [hTe]; exact specTimeOf_calls S _ _ _ _ wx HS.out.small.2.2.2 (hSt wx h).at
   have HAA : Hid (∀ wx (x : Nat), x < 2 → Drew X.drew wx B p v n → Calls Tryz.prog 89 #[.agg #[.slice a0 S.l.length c0, .slice a1 S.T.length c1, .slice a2 S.L.length c2, .slice a3 S.C.length c3], .int .i64 (rp : Int), .int .i64 (T + 1 + (x : Int)), .agg #[.int .i64 k, .string o, .string y, .int .i64 vv, .int .i64 pl]] wx fun e w' => ∃ au cu, e = .returned (.tuple #[.agg #[.int .i64 (actW S (rp : Int) (T + 1 + (x : Int)) k o y vv pl).r, .int .i64 (actW S (rp : Int) (T + 1 + (x : Int)) k o y vv pl).s, .int .i64 (actW S (rp : Int) (T + 1 + (x : Int)) k o y vv pl).t, .slice au (actW S (rp : Int) (T + 1 + (x : Int)) k o y vv pl).l.length cu, .int .i64 (actW S (rp : Int) (T + 1 + (x : Int)) k o y vv pl).k, .string (actW S (rp : Int) (T + 1 + (x : Int)) k o y vv pl).o, .string (actW S (rp : Int) (T + 1 + (x : Int)) k o y vv pl).y, .int .i64 (actW S (rp : Int) (T + 1 + (x : Int)) k o y vv pl).v, .int .i64 (actW S (rp : Int) (T + 1 + (x : Int)) k o y vv pl).x, .int .i64 (actW S (rp : Int) (T + 1 + (x : Int)) k o y vv pl).z], .int .i64 (codeW S (rp : Int) (T + 1 + (x : Int)) k o y vv pl)]) ∧ w'.ownsRow wx.heap.size 3 1 (.slice au (actW S (rp : Int) (T + 1 + (x : Int)) k o y vv pl).l.length cu) (actW S (rp : Int) (T + 1 + (x : Int)) k o y vv pl).l.length (intV (actW S (rp : Int) (T + 1 + (x : Int)) k o y vv pl).l) ∧ Below wx.heap.size wx w') := fun wx x _ h => by
    refine (specActOf_calls S _ _ _ _ (rp : Int) (T + 1 + (x : Int)) k o y vv pl wx HS.out.small HS.out.named (hSt wx h).at (eok_small HE.out).1 (eok_small HE.out).2 (by have := HPL.out; omega)).mono ?_
    rintro e w' ⟨u, rfl, ho, hb⟩
    obtain ⟨au, cu, rfl, -⟩ := IntsAt.own (l := (actW S (rp : Int) (T + 1 + (x : Int)) k o y vv pl).l) ho rfl
    exact ⟨au, cu, rfl, ho, hb⟩
   have HBT : Hid (∀ x : Nat, x < 2 → T + 1 + (x : Int) ≤ 2 * ((m0 + j : Nat) : Int) + 2) := fun x hx => by
    have h1 := timeOf_le (C := S.C) (b := 2 * ((m0 + j : Nat) : Int)) (by omega) HM.out.t
    omega
   rw [← hTe] at hT hT0
   have hsX : w.heap.size + 1 + 1 ≤ X.heap.size := by omega
   have HSZ : Hid (w2.heap.size + 1 = X.heap.size) := hXs.symm
   obtain ⟨e0, e1, e2, e3⟩ := Row.four HR1.out
   obtain ⟨d0, d1, d2, d3, d4⟩ := Row.fiveC HRE.out
   clear hTe hSt hXs
   go_wp2
   rw [HXX.out]
   try simp only [List.append_eq, List.cons_append, List.nil_append]
   clear HXX
   have hDd : Drew X.drew X.drew B p v n := Drew.refl hcX
   refine wp_region_held_drew (S := fun w' => w'.cell? ⟨w.heap.size, 0, none⟩ = some (.slice a0 S.l.length c0) ∧ w'.cell? ⟨w.heap.size, 1, none⟩ = some (.slice a1 S.T.length c1) ∧ w'.cell? ⟨w.heap.size, 2, none⟩ = some (.slice a2 S.L.length c2) ∧ w'.cell? ⟨w.heap.size, 3, none⟩ = some (.slice a3 S.C.length c3) ∧ w'.cell? ⟨w2.heap.size, 0, none⟩ = some (.int .i64 k) ∧ w'.cell? ⟨w2.heap.size, 1, none⟩ = some (.string o) ∧ w'.cell? ⟨w2.heap.size, 2, none⟩ = some (.string y) ∧ w'.cell? ⟨w2.heap.size, 3, none⟩ = some (.int .i64 vv) ∧ w'.cell? ⟨w2.heap.size, 4, none⟩ = some (.int .i64 pl)) (by kernel_rfl) (HSC.out _ hDd) (fun _ => ?_)
   refine wpAnyH_list (l' := #[false, false, false, false, false, false, false, false, false, false, false, false, false, false, false, false]) (by as_aux_lemma => kernel_rfl) ?_
   refine tk 0 gro0 (HSC.out _ hDd) ?_; simp only [sq]
   refine tk 1 gro1 (HSC.out _ hDd) ?_; simp only [sq]
   refine tk 2 gro2 (HSC.out _ hDd) ?_; simp only [sq]
   refine tk 5 gro5 (HSC.out _ hDd) ?_; simp only [sq]
   refine tk 8 gro8 (HSC.out _ hDd) ?_; simp only [sq]
   refine gr_region (W := X.drew) (T := T) (fun x => (actW S (rp : Int) (T + 1 + (x : Int)) k o y vv pl)) (fun x => codeW S (rp : Int) (T + 1 + (x : Int)) k o y vv pl) hpX hBX ⟨hT0, hT⟩ hcX ?hP HSC.out HTT.out (fun wx h => belowD 2 (by omega) (by omega) B p v n hn wx h.1) HAA.out ?hQQ
   case hP => exact fun _ _ d _ _ h => by cases d <;> exact h
   case hQQ =>
    intro x au cu ga wx hx hdx hrx hga hox hne
    refine rd 14 gro14 (fun K hK => ?_)
    obtain ⟨q0, q1, q2, q3, q4, q5, q6, q7, q8, q9⟩ := Row.ten hrx
    obtain ⟨f0, f1, f2, f3, f4, f5, f6, f7, f8, f9⟩ := hrx.frees
    obtain ⟨A, hA⟩ : ∃ A, A = (actW S (rp : Int) (T + 1 + (x : Int)) k o y vv pl) := ⟨_, rfl⟩
    rw [← hA] at hox hne ⊢
    have HAE := hidI hA
    obtain ⟨C, hC⟩ : ∃ C, C = codeW S (rp : Int) (T + 1 + (x : Int)) k o y vv pl := ⟨_, rfl⟩
    rw [← hC]
    have HCE := hidI hC
    clear hA hC
    have hXd : X.drew.heap.size = X.heap.size := rfl
    have hga2 : w.heap.size ≤ ga := by omega
    go_simp
    rw [show _ = store10 wx ga A (.slice au A.l.length cu) from store10_eq wx ga A (.slice au A.l.length cu)]
    have hrY := store10_at hrx A (.slice au A.l.length cu)
    have hdY : Drew X.drew (store10 wx ga A (.slice au A.l.length cu)) B p v n := by
     unfold store10
     exact (((((((((hdx.set hpX hBX hga _ _).set hpX hBX hga _ _).set hpX hBX hga _ _).set hpX hBX hga _ _).set hpX hBX hga _ _).set hpX hBX hga _ _).set hpX hBX hga _ _).set hpX hBX hga _ _).set hpX hBX hga _ _).set hpX hBX hga _ _
    have hoY : (store10 wx ga A (.slice au A.l.length cu)).ownsRow X.drew.heap.size 3 1 (.slice au A.l.length cu) A.l.length (intV A.l) := own_storeF hox (fun j hj => hne j hj) _ _
    generalize store10 wx ga A (.slice au A.l.length cu) = Y at *
    clear q0 q1 q2 q3 q4 q5 q6 q7 q8 q9 f0 f1 f2 f3 f4 f5 f6 f7 f8 f9
    refine hK.out _ _ (HSC.out _ hdY) (fun _ => ?_)
    clear hK K
    simp only [s1, s2, s3]
    refine tk 15 gro15 (HSC.out _ hdY) ?_; simp only [sq]
    refine wpAnyH_done (by as_aux_lemma => kernel_rfl) ?_ _
    have hszY : X.heap.size ≤ Y.heap.size := hdY.2.size
    have HDY : Hid (Drew w Y B p v n) := (HDX.out.call hp hB ((Below.refl _ _).drew)).trans hdY
    have HR1Y : Hid (Row Y w.heap.size #[.slice a0 S.l.length c0, .slice a1 S.T.length c1, .slice a2 S.L.length c2, .slice a3 S.C.length c3] 29) := Row.grown (w := X.drew) HR1.out hdY.2 (by intro e; injection e with e; omega)
    have HR2Y : Hid (Row Y (w.heap.size + 1) #[.slice none 0 0, .slice none 0 0, .slice none 0 0, .slice none 0 0] 29) := Row.grown (w := X.drew) HR2.out hdY.2 (by intro e; injection e with e; omega)
    have HOY : Hid (OwnS Y b S (.slice a0 S.l.length c0) (.slice a1 S.T.length c1) (.slice a2 S.L.length c2) (.slice a3 S.C.length c3)) := OwnS.drewC (w := X.drew) HO.out hdY hpb
    have HRA := hidI hrY
    have HUA := hidI hoY
    clear hrY hoY hdY hdx hrx hox hne
    clear e0 e1 e2 e3 d0 d1 d2 d3 d4
    by_cases h0 : C = 0
    ·have bC : (C == 0) = true := by simp [h0]
     have hcw : codeW S (rp : Int) (T + 1 + (x : Int)) k o y vv pl = 0 := HCE.out.symm.trans h0
     have hab := actW_bnd hcw HM.out
     rw [← HAE.out] at hab
     have HBN : Hid (Bnd (m0 + (j + 1)) (nextS S A)) := nextS_bnd (m := m0 + j) HM.out (by have := hab.1; omega) (by rw [hab.2.1]; exact HBT.out x hx)
     have HDC := hidI (specDoAct_calls S _ _ _ _ A (.slice au A.l.length cu) Y HS.out.small HS.out.named HOY.out.at ⟨hab.2.2.1, by rw [hab.2.2.2.1]; exact (eok_small HE.out).1, by rw [hab.2.2.2.2]; exact (eok_small HE.out).2⟩ (IntsAt.own HUA.out rfl))
     clear h0 hcw hab
     obtain ⟨q0, q1, q2, q3, q4, q5, q6, q7, q8, q9⟩ := Row.ten HRA.out
     obtain ⟨e0, e1, e2, e3⟩ := Row.four HR1Y.out
     go_wp2_with fail
     refine HDC.out.mono ?_
     rintro e Z ⟨y0, y1, y2, y3, rfl, hOZ, hbz⟩
     obtain ⟨b0, d0, b1, d1, b2, d2, b3, d3, rfl, rfl, rfl, rfl⟩ := hOZ.at.shape
     have hr1z := HR1Y.out.next hbz
     have hr2z := HR2Y.out.next hbz
     have hdz := HDY.out.call hp hB hbz
     have hx1z := hOZ.off (g := w.heap.size) (.inl (by omega))
     have hx2z := hOZ.off (g := w.heap.size + 1) (.inl (by omega))
     clear q0 q1 q2 q3 q4 q5 q6 q7 q8 q9 e0 e1 e2 e3 HDC hbz
     obtain ⟨e0, e1, e2, e3⟩ := Row.four hr1z
     have k0 := hr1z.free 0
     have k1 := hr1z.free 1
     have k2 := hr1z.free 2
     have k3 := hr1z.free 3
     obtain ⟨G, hG⟩ : ∃ G, G = nextS S A := ⟨_, rfl⟩
     have HGK : Hid (SOk G) := by rw [hG]; exact nextS_ok A HS.out
     rw [← hG] at HBN hOZ hx1z hx2z ⊢
     obtain ⟨YY, hYY⟩ : ∃ YY, YY = ((((Z.setCell ⟨w.heap.size, 0, none⟩ (.slice b0 G.l.length d0)).setCell ⟨w.heap.size, 1, none⟩ (.slice b1 G.T.length d1)).setCell ⟨w.heap.size, 2, none⟩ (.slice b2 G.L.length d2)).setCell ⟨w.heap.size, 3, none⟩ (.slice b3 G.C.length d3)) := ⟨_, rfl⟩
     have HZY : Hid (Row YY w.heap.size #[.slice b0 G.l.length d0, .slice b1 G.T.length d1, .slice b2 G.L.length d2, .slice b3 G.C.length d3] 29) := by rw [hYY]; exact (((hr1z.st0 _).st1 _).st2 _).st3 _
     have HZ2 : Hid (Row YY (w.heap.size + 1) #[.slice none 0 0, .slice none 0 0, .slice none 0 0, .slice none 0 0] 29) := by rw [hYY]; exact (((hr2z.other (by simp) _).other (by simp) _).other (by simp) _).other (by simp) _
     have HOZ : Hid (OwnS YY b G (.slice b0 G.l.length d0) (.slice b1 G.T.length d1) (.slice b2 G.L.length d2) (.slice b3 G.C.length d3)) := by rw [hYY]; exact Own4.base ((((OwnS.put hOZ hx1z).put hx1z).put hx1z).put hx1z) (by omega)
     have HDZ : Hid (Drew w YY B p v n) := by rw [hYY]; exact (((hdz.set hp hB (Nat.le_refl _) _ _).set hp hB (Nat.le_refl _) _ _).set hp hB (Nat.le_refl _) _ _).set hp hB (Nat.le_refl _) _ _
     have HYY : Hid (((((Z.setCell ⟨w.heap.size, 0, none⟩ (.slice b0 G.l.length d0)).setCell ⟨w.heap.size, 1, none⟩ (.slice b1 G.T.length d1)).setCell ⟨w.heap.size, 2, none⟩ (.slice b2 G.L.length d2)).setCell ⟨w.heap.size, 3, none⟩ (.slice b3 G.C.length d3)) = YY) := hYY.symm
     have HX1Z := hidI hx1z
     have HX2Z := hidI hx2z
     clear hYY hOZ hdz hr1z hr2z hx1z hx2z hG
     go_wp2
     rw [HYY.out]
     go_roundw
     case rel => exact ⟨j + 1, by omega, by go_num, G, _, _, _, _, HGK.out, HBN.out, HZY.out, HZ2.out, HOZ.out, HX1Z.out, HX2Z.out, HDZ.out⟩
     case measure => simp [intOf]; omega
    ·have bC : (C == 0) = false := by simp [h0]
     clear h0
     go_wp2
     go_roundw
     case rel => exact ⟨j + 1, by omega, by go_num, S, _, _, _, _, HS.out, HM.out.mono (by omega), HR1Y.out, HR2Y.out, HOY.out, HX1.out, HX2.out, HDY.out⟩
     case measure => simp [intOf]; omega
  ·have hj1 : ¬ ((j : Int) < N) := by omega
   have hjn : j = N := by omega
   obtain ⟨e0, e1, e2, e3⟩ := Row.four hr1
   obtain ⟨z0, z1, z2, z3⟩ := Row.four hr2
   have k0 := hr2.free 0
   have k1 := hr2.free 1
   have k2 := hr2.free 2
   have k3 := hr2.free 3
   obtain ⟨YY, hYY⟩ : ∃ YY, YY = ((((wr.setCell ⟨w.heap.size + 1, 0, none⟩ (.slice a0 S.l.length c0)).setCell ⟨w.heap.size + 1, 1, none⟩ (.slice a1 S.T.length c1)).setCell ⟨w.heap.size + 1, 2, none⟩ (.slice a2 S.L.length c2)).setCell ⟨w.heap.size + 1, 3, none⟩ (.slice a3 S.C.length c3)) := ⟨_, rfl⟩
   have HZY : Hid (Row YY (w.heap.size + 1) #[.slice a0 S.l.length c0, .slice a1 S.T.length c1, .slice a2 S.L.length c2, .slice a3 S.C.length c3] 29) := by rw [hYY]; exact (((hr2.st0 _).st1 _).st2 _).st3 _
   have HOY : Hid (OwnS YY b S (.slice a0 S.l.length c0) (.slice a1 S.T.length c1) (.slice a2 S.L.length c2) (.slice a3 S.C.length c3)) := by rw [hYY]; exact (((hown.put HX2.out).put HX2.out).put HX2.out).put HX2.out
   have HDY : Hid (Drew w YY B p v n) := by rw [hYY]; exact (((hdr.set hp hB (by omega) _ _).set hp hB (by omega) _ _).set hp hB (by omega) _ _).set hp hB (by omega) _ _
   have HYY : Hid (((((wr.setCell ⟨w.heap.size + 1, 0, none⟩ (.slice a0 S.l.length c0)).setCell ⟨w.heap.size + 1, 1, none⟩ (.slice a1 S.T.length c1)).setCell ⟨w.heap.size + 1, 2, none⟩ (.slice a2 S.L.length c2)).setCell ⟨w.heap.size + 1, 3, none⟩ (.slice a3 S.C.length c3)) = YY) := hYY.symm
   have HMN : Hid (Bnd (m0 + N) S) := by rw [← hjn]; exact HM.out
   clear hYY hjn hown hdr hr1 hr2
   go_wp2
   rw [HYY.out]
   exact bodyPost_ret (retState rfl rfl rfl HZY.out) rfl ⟨S, HS.out, HMN.out, _, _, _, _, rfl, HOY.out, HDY.out⟩
end Go.Proofs.YtdknoflkingodaaGreat
namespace Go.Proofs.YtdknoflkingodaaGreat
set_option maxRecDepth 100000
set_option linter.unusedVariables false
open Go.RowKit
/-- A new state. -/
def sta0 : Sta := ⟨[0, 0, 0], [], [], []⟩
theorem sta0_ok : SOk sta0 := ⟨by decide, ⟨by simp [sta0], fun i h => by simp [sta0] at h⟩, ⟨by simp [sta0], fun i h => by simp [sta0] at h⟩, ⟨by simp [sta0], fun i h => by simp [sta0] at h⟩, fun i h => by simp [sta0] at h, fun i h => by simp [sta0] at h⟩
theorem sta0_bnd : Bnd 0 sta0 := ⟨by simp [sta0], by simp [sta0], by simp [sta0], by simp [sta0], by simp [sta0]⟩
theorem sta0_own {w : World} {B : Nat} {aa : Option Addr} {ca : Nat} (h : w.ownsRow B 3 1 (.slice aa 3 ca) 3 (intV [0, 0, 0])) : OwnS w B sta0 (.slice aa 3 ca) (.slice none 0 0) (.slice none 0 0) (.slice none 0 0) :=
 by refine ⟨⟨h, own_nil _ _ _ _, own_nil _ _ _ _, own_nil _ _ _ _⟩, ?_, ?_, ?_, ?_, ?_, ?_⟩ <;> (intro k h1 h2; first | cases h1 | cases h2)
set_option maxHeartbeats 2000000 in
theorem newS_calls (w : World) : Calls Tryz.prog 47 #[] w fun e w' => ∃ v0 v1 v2 v3, e = .returned (.agg #[v0, v1, v2, v3]) ∧ OwnS w' w.heap.size sta0 v0 v1 v2 v3 ∧ Below w.heap.size w w' := by
 obtain ⟨W, hW⟩ : ∃ W, W = w.alloc (.cells #[.slice none 0 0, .slice none 0 0, .slice none 0 0, .slice none 0 0] 29) := ⟨_, rfl⟩
 have HP : Hid (Row W w.heap.size #[.slice none 0 0, .slice none 0 0, .slice none 0 0, .slice none 0 0] 29) := by rw [hW]; exact row_new w _ _ rfl
 have HB : Hid (Below w.heap.size w W) := by rw [hW]; exact (Below.refl _ _).alloc (Nat.le_refl _) _
 have hWs : W.heap.size = w.heap.size + 1 := by rw [hW]; simp
 have HW : Hid (w.alloc (.cells #[.slice none 0 0, .slice none 0 0, .slice none 0 0, .slice none 0 0] 29) = W) := hW.symm
 clear hW
 go_enter Tryz.func47, Tryz.ntmps47
 go_wp2_with fail
 rw [HW.out]
 clear HW
 refine (specKnowNew_calls W).mono ?_
 rintro e w1 ⟨u, rfl, ho, hb⟩
 obtain ⟨aa, ca, hu, -⟩ := IntsAt.own (l := [0, 0, 0]) ho rfl
 replace hu : u = .slice aa 3 ca := hu
 subst hu
 have HO := hidI (sta0_own ho)
 replace HP : Hid (Row w1 w.heap.size #[.slice none 0 0, .slice none 0 0, .slice none 0 0, .slice none 0 0] 29) := HP.out.next hb
 replace HB : Hid (Below w.heap.size w w1) := HB.out.trans (hb.mono HB.out.size)
 clear hb ho
 obtain ⟨o0, o1, o2, o3⟩ := Row.four HP.out
 have g0 := HP.out.free 0
 have g1 := HP.out.free 1
 have g2 := HP.out.free 2
 have g3 := HP.out.free 3
 have HZ := hidI ((((HP.out.st0 (.slice aa 3 ca)).st1 (.slice none 0 0)).st2 (.slice none 0 0)).st3 (.slice none 0 0))
 have HBB := hidI ((((HB.out.setCell (p := ⟨w.heap.size, 0, none⟩) (Nat.le_refl _) (.slice aa 3 ca)).setCell (p := ⟨w.heap.size, 1, none⟩) (Nat.le_refl _) (.slice none 0 0)).setCell (p := ⟨w.heap.size, 2, none⟩) (Nat.le_refl _) (.slice none 0 0)).setCell (p := ⟨w.heap.size, 3, none⟩) (Nat.le_refl _) (.slice none 0 0))
 have HOO := hidI (Own4.base ((((Own4.put (g := w.heap.size) (i := 0) (x := .slice aa 3 ca) HO.out (by omega)).put (g := w.heap.size) (i := 1) (x := .slice none 0 0) (by omega)).put (g := w.heap.size) (i := 2) (x := .slice none 0 0) (by omega)).put (g := w.heap.size) (i := 3) (x := .slice none 0 0) (by omega)) (show w.heap.size ≤ W.heap.size by omega))
 go_wp2
 exact bodyPost_ret (retState rfl rfl rfl HZ.out) rfl ⟨_, _, _, _, rfl, HOO.out, HBB.out⟩
set_option maxHeartbeats 2000000 in
theorem stateD (B p : Nat) (v : Value) (n : Nat) (hn : n ≤ 1048576) (w : World) (hB : B ≤ w.heap.size) (hc : Cur w B p v n) :
  Calls Tryz.prog 55 #[.pointer (some ⟨p, 0, none⟩)] w fun e w' => ∃ S' : Sta, SOk S' ∧ Bnd 10 S' ∧ ∃ v0 v1 v2 v3 : Value, e = .returned (.agg #[v0, v1, v2, v3]) ∧ OwnS w' w.heap.size S' v0 v1 v2 v3 ∧ Drew w w' B p v n := by
 have hp := hc.lt
 obtain ⟨W, hW⟩ : ∃ W, W = w.alloc (.cells #[.slice none 0 0, .slice none 0 0, .slice none 0 0, .slice none 0 0] 29) := ⟨_, rfl⟩
 have HP : Hid (Row W w.heap.size #[.slice none 0 0, .slice none 0 0, .slice none 0 0, .slice none 0 0] 29) := by rw [hW]; exact row_new w _ _ rfl
 have HD : Hid (Drew w W B p v n) := by rw [hW]; exact (Drew.refl hc).alloc hp hB _
 have hWs : W.heap.size = w.heap.size + 1 := by rw [hW]; simp
 have HW : Hid (w.alloc (.cells #[.slice none 0 0, .slice none 0 0, .slice none 0 0, .slice none 0 0] 29) = W) := hW.symm
 clear hW
 go_enter Tryz.func55, Tryz.ntmps55
 go_wp2_with fail
 rw [HW.out]
 clear HW
 refine (newS_calls W).mono ?_
 rintro e w1 ⟨y0, y1, y2, y3, rfl, ho, hb⟩
 replace HP := hidI (HP.out.next hb)
 replace HD := hidI (HD.out.call hp hB hb)
 have hs1 := hb.size
 have HO := hidI ho
 clear ho hb
 go_wp2_with fail
 refine (belowD 9 (by omega) (by omega) B p v n hn _ HD.out.1).mono ?_
 rintro e w2 ⟨x, rfl, hx, hd⟩
 replace HP := hidI (HP.out.grown hd.2 (by intro e; injection e with e; omega))
 replace HD := hidI (HD.out.trans hd)
 replace HO := hidI (OwnS.drewC HO.out hd (by omega))
 have hs2 := hd.2.size
 clear hd
 have hwx : IntKind.i64.wrap (2 + (x : Int)) = ((2 + x : Nat) : Int) := by rw [IntKind.wrap_i64] <;> omega
 go_wp2_with fail
 first | rw [hwx] | rw [show (2 + (x : Int)) = ((2 + x : Nat) : Int) by omega] | skip
 refine (grownD 0 (2 + x) (by omega) W.heap.size B p v n hn w2 (by omega) HD.out.1 (by omega) (by omega) sta0 _ _ _ _ sta0_ok sta0_bnd HO.out).mono ?_
 rintro e w3 ⟨S', hS, hM, v0, v1, v2, v3, rfl, ho, hd⟩
 obtain ⟨a0, c0, a1, c1, a2, c2, a3, c3, rfl, rfl, rfl, rfl⟩ := ho.at.shape
 replace HP := hidI (HP.out.grown hd.2 (by intro e; injection e with e; omega))
 replace HD := hidI (HD.out.trans hd)
 have HSO := hidI hS
 have HMO : Hid (Bnd 10 S') := hM.mono (by omega)
 obtain ⟨o0, o1, o2, o3⟩ := Row.four HP.out
 have g0 := HP.out.free 0
 have g1 := HP.out.free 1
 have g2 := HP.out.free 2
 have g3 := HP.out.free 3
 have HZ := hidI ((((HP.out.st0 (.slice a0 S'.l.length c0)).st1 (.slice a1 S'.T.length c1)).st2 (.slice a2 S'.L.length c2)).st3 (.slice a3 S'.C.length c3))
 have HDD := hidI ((((HD.out.set hp hB (Nat.le_refl w.heap.size) 0 (.slice a0 S'.l.length c0)).set hp hB (Nat.le_refl w.heap.size) 1 (.slice a1 S'.T.length c1)).set hp hB (Nat.le_refl w.heap.size) 2 (.slice a2 S'.L.length c2)).set hp hB (Nat.le_refl w.heap.size) 3 (.slice a3 S'.C.length c3))
 have HOO := hidI (Own4.base ((((Own4.put (g := w.heap.size) (i := 0) (x := .slice a0 S'.l.length c0) ho (by omega)).put (g := w.heap.size) (i := 1) (x := .slice a1 S'.T.length c1) (by omega)).put (g := w.heap.size) (i := 2) (x := .slice a2 S'.L.length c2) (by omega)).put (g := w.heap.size) (i := 3) (x := .slice a3 S'.C.length c3) (by omega)) (show w.heap.size ≤ W.heap.size by omega))
 clear hS hM ho hd
 go_wp2
 exact bodyPost_ret (retState rfl rfl rfl HZ.out) rfl ⟨S', HSO.out, HMO.out, _, _, _, _, rfl, HOO.out, HDD.out⟩
set_option maxHeartbeats 1000000 in
theorem drawState_calls (B : Nat) (v : Value) (n : Nat) (hn : n ≤ 1048576) (w : World) (hB : B ≤ w.heap.size) (hc : CodeIs w B v n) :
  Calls Tryz.prog 9 #[v] w fun e w' => ∃ S' : Sta, SOk S' ∧ Bnd 10 S' ∧ ∃ v0 v1 v2 v3 : Value, e = .returned (.agg #[v0, v1, v2, v3]) ∧ OwnS w' w.heap.size S' v0 v1 v2 v3 ∧ Below w.heap.size w w' := by
 obtain ⟨W, hW⟩ : ∃ W, W = w.alloc (.cells #[.slice none 0 0, .slice none 0 0, .slice none 0 0, .slice none 0 0] 29) := ⟨_, rfl⟩
 have HP : Hid (Row W w.heap.size #[.slice none 0 0, .slice none 0 0, .slice none 0 0, .slice none 0 0] 29) := by rw [hW]; exact row_new w _ _ rfl
 have HB : Hid (Below w.heap.size w W) := by rw [hW]; exact (Below.refl _ _).alloc (Nat.le_refl _) _
 have hWs : W.heap.size = w.heap.size + 1 := by rw [hW]; simp
 have HW : Hid (w.alloc (.cells #[.slice none 0 0, .slice none 0 0, .slice none 0 0, .slice none 0 0] 29) = W) := hW.symm
 have HC : Hid (CodeIs W B v n) := hc.grown (p := w.heap.size) hB ⟨HB.out.os, HB.out.tape, HB.out.output, HB.out.size, fun k hk _ => HB.out.block k hk⟩
 clear hW
 go_enter Tryz.func9, Tryz.ntmps9
 go_wp2_with fail
 rw [HW.out]
 clear HW
 refine (new_calls B v n hn W (by omega) HC.out).mono ?_
 rintro e w1 ⟨rfl, hc1, hb⟩
 rw [hWs] at hc1
 have hs1 := hc1.lt
 replace HP := hidI (HP.out.next hb)
 replace HB := hidI (HB.out.trans (hb.mono HB.out.size))
 have hb1 := hb.size
 clear hb
 go_wp2_with fail
 refine (stateD B (w.heap.size + 1) v n hn w1 (by omega) hc1).mono ?_
 rintro e w3 ⟨S', hS, hM, v0, v1, v2, v3, rfl, ho, hd⟩
 obtain ⟨a0, c0, a1, c1, a2, c2, a3, c3, rfl, rfl, rfl, rfl⟩ := ho.at.shape
 replace HP := hidI (HP.out.grown hd.2 (by intro e; injection e with e; omega))
 replace HB := hidI (Drew.below HB.out hd (by omega))
 have HSO := hidI hS
 have HMO := hidI hM
 obtain ⟨o0, o1, o2, o3⟩ := Row.four HP.out
 have g0 := HP.out.free 0
 have g1 := HP.out.free 1
 have g2 := HP.out.free 2
 have g3 := HP.out.free 3
 have HZ := hidI ((((HP.out.st0 (.slice a0 S'.l.length c0)).st1 (.slice a1 S'.T.length c1)).st2 (.slice a2 S'.L.length c2)).st3 (.slice a3 S'.C.length c3))
 have HBB := hidI ((((HB.out.setCell (p := ⟨w.heap.size, 0, none⟩) (Nat.le_refl _) (.slice a0 S'.l.length c0)).setCell (p := ⟨w.heap.size, 1, none⟩) (Nat.le_refl _) (.slice a1 S'.T.length c1)).setCell (p := ⟨w.heap.size, 2, none⟩) (Nat.le_refl _) (.slice a2 S'.L.length c2)).setCell (p := ⟨w.heap.size, 3, none⟩) (Nat.le_refl _) (.slice a3 S'.C.length c3))
 have HOO := hidI (Own4.base ((((Own4.put (g := w.heap.size) (i := 0) (x := .slice a0 S'.l.length c0) ho (by omega)).put (g := w.heap.size) (i := 1) (x := .slice a1 S'.T.length c1) (by omega)).put (g := w.heap.size) (i := 2) (x := .slice a2 S'.L.length c2) (by omega)).put (g := w.heap.size) (i := 3) (x := .slice a3 S'.C.length c3) (by omega)) (show w.heap.size ≤ w1.heap.size by omega))
 clear hS hM ho hd
 go_wp2
 exact bodyPost_ret (retState rfl rfl rfl HZ.out) rfl ⟨S', HSO.out, HMO.out, _, _, _, _, rfl, HOO.out, HBB.out⟩
end Go.Proofs.YtdknoflkingodaaGreat
