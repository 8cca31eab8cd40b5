/- Two states in one, by the program. -/
import Derived.Test.YtdknoflkingodaaGreatQ39
import Derived.Test.YtdknoflkingodaaGreatQ43
set_option maxHeartbeats 16000000
namespace Go.Proofs.YtdknoflkingodaaGreat
open Value (int)
open IntKind (i64)
set_option maxRecDepth 100000
set_option linter.unusedVariables false
open Go.RowKit
abbrev Jjq : Oper := oq 16 (.fieldAddr 29 (.tmp 2) 0) 0 "l10_merge.go:100" #[] none
abbrev JjV : Oper := oq 17 (.load 24 (.tmp 16)) 24 "l10_merge.go:100" #[eD 0] none
abbrev Jif : Oper := oq 18 (.fieldAddr 29 (.tmp 3) 0) 0 "l10_merge.go:100" #[] none
abbrev JhZ : Oper := oq 19 (.load 24 (.tmp 18)) 24 "l10_merge.go:100" #[eD 2] none
abbrev Jf5 : Oper := oq 20 (.call ⟨.value (.func 131), #[.tmp 17, .tmp 19], #[24, 24]⟩) 24 "l10_merge.go:101" #[eD 1, eD 3] none
abbrev Jim : Oper := oq 21 (.load 29 (.tmp 2)) 29 "l10_merge.go:100" #[] none
abbrev Jh6 : Oper := oq 22 (.load 29 (.tmp 3)) 29 "l10_merge.go:100" #[] none
abbrev Jhw : Oper := oq 23 (.call ⟨.value (.func 132), #[.tmp 21, .tmp 22], #[29, 29]⟩) 25 "l10_merge.go:102" #[eD 5, eD 6, eC 4] none
abbrev Jjl : Oper := oq 24 (.load 29 (.tmp 2)) 29 "l10_merge.go:100" #[] none
abbrev Jks : Oper := oq 25 (.load 29 (.tmp 3)) 29 "l10_merge.go:100" #[] none
abbrev JdS : Oper := oq 26 (.call ⟨.value (.func 133), #[.tmp 24, .tmp 25], #[29, 29]⟩) 26 "l10_merge.go:103" #[eD 8, eD 9, eC 7] none
abbrev Jfe : Oper := oq 27 (.load 29 (.tmp 2)) 29 "l10_merge.go:100" #[] none
abbrev Jfa : Oper := oq 28 (.load 29 (.tmp 3)) 29 "l10_merge.go:100" #[] none
abbrev Jev : Oper := oq 29 (.call ⟨.value (.func 134), #[.tmp 27, .tmp 28], #[29, 29]⟩) 27 "l10_merge.go:104" #[eD 11, eD 12, eC 10] none
abbrev Jef : Oper := oq 30 (.build 29 #[(0, .tmp 20), (1, .tmp 23), (2, .tmp 26), (3, .tmp 29)]) 29 "l10_merge.go:100" #[eD 4, eD 7, eD 10, eD 13] none
abbrev Jac : Oper := oq 6 (.alloc 29) 0 "l10_merge.go:100" #[] none
abbrev Jfq : Oper := oz (.store 29 (.tmp 6) (.tmp 30)) 0 "l10_merge.go:100" #[eD 15, eD 14, eC 13, eP 0, eP 1, eP 2, eP 3, eP 4, eP 5, eP 6, eP 7, eP 8, eP 9, eP 10, eP 11, eP 12, eP 13, eP 14, eP 15] none
abbrev Gm : Array Oper := #[Jjq, JjV, Jif, JhZ, Jf5, Jim, Jh6, Jhw, Jjl, Jks, JdS, Jfe, Jfa, Jev, Jef, Jac, Jfq]
theorem Jde {Q : Exit → Act → World → Prop} {SS : World → Prop} {W : World} {k17 k19 sv rv : Value} {n0 n1 n2 n3 : Nat} (P0 P1 P2 P3 : World → Value → Prop) {x0 x1 x2 x3 x4 x5 x6 x7 x8 x9 x10 x11 x12 x13 x14 x15 x16 x18 x20 x23 x26 x29 x30 x31 x32 x33 : Value} (hP : ∀ c a d v w, Q (.panic c) (a.put d v) w → Q (.panic c) a w) (hS : ∀ wx, Below W.heap.size W wx → SS wx)
  (hk0 : ∀ w w' x, P0 w x → Below w.heap.size w w' → P0 w' x) (hk1 : ∀ w w' x, P1 w x → Below w.heap.size w w' → P1 w' x) (hk2 : ∀ w w' x, P2 w x → Below w.heap.size w w' → P2 w' x) (hk3 : ∀ w w' x, P3 w x → Below w.heap.size w w' → P3 w' x)
  (hc0 : ∀ wx, Below W.heap.size W wx → Calls Tryz.prog 131 #[k17, k19] wx fun e w' => ∃ a c, e = .returned (.slice a n0 c) ∧ P0 w' (.slice a n0 c) ∧ Below wx.heap.size wx w')
  (hc1 : ∀ wx, Below W.heap.size W wx → Calls Tryz.prog 132 #[sv, rv] wx fun e w' => ∃ a c, e = .returned (.slice a n1 c) ∧ P1 w' (.slice a n1 c) ∧ Below wx.heap.size wx w')
  (hc2 : ∀ wx, Below W.heap.size W wx → Calls Tryz.prog 133 #[sv, rv] wx fun e w' => ∃ a c, e = .returned (.slice a n2 c) ∧ P2 w' (.slice a n2 c) ∧ Below wx.heap.size wx w')
  (hc3 : ∀ wx, Below W.heap.size W wx → Calls Tryz.prog 134 #[sv, rv] wx fun e w' => ∃ a c, e = .returned (.slice a n3 c) ∧ P3 w' (.slice a n3 c) ∧ Below wx.heap.size wx w')
  (hQ : ∀ (a0 : Option Addr) (c0 : Nat) (a1 : Option Addr) (c1 : Nat) (a2 : Option Addr) (c2 : Nat) (a3 : Option Addr) (c3 : Nat) (ga : Nat) (wx : World), Below W.heap.size W wx → Row wx ga #[.slice none 0 0, .slice none 0 0, .slice none 0 0, .slice none 0 0] 29 → W.heap.size ≤ ga → P0 wx (.slice a0 n0 c0) → P1 wx (.slice a1 n1 c1) → P2 wx (.slice a2 n2 c2) → P3 wx (.slice a3 n3 c3) → wpAnyH Tryz.prog .any Gm Q SS 1 #[true, true, true, true, true, true, true, true, true, true, true, true, true, true, true, true, false] ⟨#[x0, x1, x2, x3, x4, x5, .pointer (some ⟨ga, 0, none⟩), x7, x8, x9, x10, x11, x12, x13, x14, x15, x16, k17, x18, k19, .slice a0 n0 c0, sv, rv, .slice a1 n1 c1, sv, rv, .slice a2 n2 c2, sv, rv, .slice a3 n3 c3, .agg #[.slice a0 n0 c0, .slice a1 n1 c1, .slice a2 n2 c2, .slice a3 n3 c3], x31, x32, x33], []⟩ wx) :
  wpAnyH Tryz.prog .any Gm Q SS 7 #[true, true, true, true, false, true, true, false, true, true, false, true, true, false, false, false, false] ⟨#[x0, x1, x2, x3, x4, x5, x6, x7, x8, x9, x10, x11, x12, x13, x14, x15, x16, k17, x18, k19, x20, sv, rv, x23, sv, rv, x26, sv, rv, x29, x30, x31, x32, x33], []⟩ W := by
 have hnew : ∀ wx : World, Below W.heap.size W wx → Below W.heap.size W (wx.alloc (.cells #[.slice none 0 0, .slice none 0 0, .slice none 0 0, .slice none 0 0] 29)) := fun wx h => h.alloc h.size _
 have s4n : ∀ (a0 : Option Addr) (c0 : Nat) (a1 : Option Addr) (c1 : Nat) (a2 : Option Addr) (c2 : Nat) (a3 : Option Addr) (c3 : Nat) (wx : World), Below W.heap.size W wx → P0 wx (.slice a0 n0 c0) → P1 wx (.slice a1 n1 c1) → P2 wx (.slice a2 n2 c2) → P3 wx (.slice a3 n3 c3) → wpAnyH Tryz.prog .any Gm Q SS 2 #[true, true, true, true, true, true, true, true, true, true, true, true, true, true, true, false, false] ⟨#[x0, x1, x2, x3, x4, x5, x6, x7, x8, x9, x10, x11, x12, x13, x14, x15, x16, k17, x18, k19, .slice a0 n0 c0, sv, rv, .slice a1 n1 c1, sv, rv, .slice a2 n2 c2, sv, rv, .slice a3 n3 c3, .agg #[.slice a0 n0 c0, .slice a1 n1 c1, .slice a2 n2 c2, .slice a3 n3 c3], x31, x32, x33], []⟩ wx := by
  intro a0 c0 a1 c1 a2 c2 a3 c3 wx hd h0 h1 h2 h3
  refine rd 15 Jac (fun K hK => ?_)
  have hd2 := hnew wx hd
  go_simp
  refine hK.out _ _ (hS _ hd2) (fun _ => ?_)
  clear hK K
  simp only [s1, s2, s3]
  exact hQ _ _ _ _ _ _ _ _ _ _ hd2 (Jb _ _ _ rfl) hd.size (hk0 _ _ _ h0 ((Below.refl _ _).alloc (Nat.le_refl _) _)) (hk1 _ _ _ h1 ((Below.refl _ _).alloc (Nat.le_refl _) _)) (hk2 _ _ _ h2 ((Below.refl _ _).alloc (Nat.le_refl _) _)) (hk3 _ _ _ h3 ((Below.refl _ _).alloc (Nat.le_refl _) _))
 have s3y : ∀ (a0 : Option Addr) (c0 : Nat) (a1 : Option Addr) (c1 : Nat) (a2 : Option Addr) (c2 : Nat) (ga : Nat) (wx : World), Below W.heap.size W wx → Row wx ga #[.slice none 0 0, .slice none 0 0, .slice none 0 0, .slice none 0 0] 29 → W.heap.size ≤ ga → P0 wx (.slice a0 n0 c0) → P1 wx (.slice a1 n1 c1) → P2 wx (.slice a2 n2 c2) → wpAnyH Tryz.prog .any Gm Q SS 3 #[true, true, true, true, true, true, true, true, true, true, true, true, true, false, false, true, false] ⟨#[x0, x1, x2, x3, x4, x5, .pointer (some ⟨ga, 0, none⟩), x7, x8, x9, x10, x11, x12, x13, x14, x15, x16, k17, x18, k19, .slice a0 n0 c0, sv, rv, .slice a1 n1 c1, sv, rv, .slice a2 n2 c2, sv, rv, x29, x30, x31, x32, x33], []⟩ wx := by
  intro a0 c0 a1 c1 a2 c2 ga wx hd hr hg h0 h1 h2
  refine rd 13 Jev (fun K hK => ?_)
  have hcx := hc3 wx hd
  go_simp
  refine hcx.mono ?_
  rintro e w' ⟨a3, c3, rfl, h3, hb⟩
  have hd2 := hd.trans (hb.mono hd.size)
  have h0' := hk0 _ _ _ h0 hb
  have h1' := hk1 _ _ _ h1 hb
  have h2' := hk2 _ _ _ h2 hb
  have hr2 := hr.next hb
  try go_wp2_with fail
  refine hK.out _ _ (hS _ hd2) (fun _ => ?_)
  clear hK K
  simp only [s1, s2, s3]
  refine tk 14 Jef (hS _ hd2) ?_ (hQ := fun c a w h => hP c a _ _ w h)
  simp only [sq]
  exact hQ _ _ _ _ _ _ _ _ _ _ hd2 hr2 hg h0' h1' h2' h3
 have s3n : ∀ (a0 : Option Addr) (c0 : Nat) (a1 : Option Addr) (c1 : Nat) (a2 : Option Addr) (c2 : Nat) (wx : World), Below W.heap.size W wx → P0 wx (.slice a0 n0 c0) → P1 wx (.slice a1 n1 c1) → P2 wx (.slice a2 n2 c2) → wpAnyH Tryz.prog .any Gm Q SS 4 #[true, true, true, true, true, true, true, true, true, true, true, true, true, false, false, false, false] ⟨#[x0, x1, x2, x3, x4, x5, x6, x7, x8, x9, x10, x11, x12, x13, x14, x15, x16, k17, x18, k19, .slice a0 n0 c0, sv, rv, .slice a1 n1 c1, sv, rv, .slice a2 n2 c2, sv, rv, x29, x30, x31, x32, x33], []⟩ wx := by
  intro a0 c0 a1 c1 a2 c2 wx hd h0 h1 h2
  refine wpAnyH_ready (rs := [13, 15]) (by as_aux_lemma => kernel_rfl) (by simp) ?_
  refine AllReadyH.cons (o := Jev) rfl (fun K hK => ?_) (AllReadyH.cons (o := Jac) rfl (fun K hK => ?_) AllReadyH.nil)
  ·have hcx := hc3 wx hd
   go_simp
   refine hcx.mono ?_
   rintro e w' ⟨a3, c3, rfl, h3, hb⟩
   have hd2 := hd.trans (hb.mono hd.size)
   have h0' := hk0 _ _ _ h0 hb
   have h1' := hk1 _ _ _ h1 hb
   have h2' := hk2 _ _ _ h2 hb
   try go_wp2_with fail
   refine hK.out _ _ (hS _ hd2) (fun _ => ?_)
   clear hK K
   simp only [s1, s2, s3]
   refine tk 14 Jef (hS _ hd2) ?_ (hQ := fun c a w h => hP c a _ _ w h)
   simp only [sq]
   exact s4n _ _ _ _ _ _ _ _ _ hd2 h0' h1' h2' h3
  ·have hd2 := hnew wx hd
   go_simp
   refine hK.out _ _ (hS _ hd2) (fun _ => ?_)
   clear hK K
   simp only [s1, s2, s3]
   exact s3y _ _ _ _ _ _ _ _ hd2 (Jb _ _ _ rfl) hd.size (hk0 _ _ _ h0 ((Below.refl _ _).alloc (Nat.le_refl _) _)) (hk1 _ _ _ h1 ((Below.refl _ _).alloc (Nat.le_refl _) _)) (hk2 _ _ _ h2 ((Below.refl _ _).alloc (Nat.le_refl _) _))
 have s2y : ∀ (a0 : Option Addr) (c0 : Nat) (a1 : Option Addr) (c1 : Nat) (ga : Nat) (wx : World), Below W.heap.size W wx → Row wx ga #[.slice none 0 0, .slice none 0 0, .slice none 0 0, .slice none 0 0] 29 → W.heap.size ≤ ga → P0 wx (.slice a0 n0 c0) → P1 wx (.slice a1 n1 c1) → wpAnyH Tryz.prog .any Gm Q SS 4 #[true, true, true, true, true, true, true, true, true, true, false, true, true, false, false, true, false] ⟨#[x0, x1, x2, x3, x4, x5, .pointer (some ⟨ga, 0, none⟩), x7, x8, x9, x10, x11, x12, x13, x14, x15, x16, k17, x18, k19, .slice a0 n0 c0, sv, rv, .slice a1 n1 c1, sv, rv, x26, sv, rv, x29, x30, x31, x32, x33], []⟩ wx := by
  intro a0 c0 a1 c1 ga wx hd hr hg h0 h1
  refine rd 10 JdS (fun K hK => ?_)
  have hcx := hc2 wx hd
  go_simp
  refine hcx.mono ?_
  rintro e w' ⟨a2, c2, rfl, h2, hb⟩
  have hd2 := hd.trans (hb.mono hd.size)
  have h0' := hk0 _ _ _ h0 hb
  have h1' := hk1 _ _ _ h1 hb
  have hr2 := hr.next hb
  try go_wp2_with fail
  refine hK.out _ _ (hS _ hd2) (fun _ => ?_)
  clear hK K
  simp only [s1, s2, s3]
  exact s3y _ _ _ _ _ _ _ _ hd2 hr2 hg h0' h1' h2
 have s2n : ∀ (a0 : Option Addr) (c0 : Nat) (a1 : Option Addr) (c1 : Nat) (wx : World), Below W.heap.size W wx → P0 wx (.slice a0 n0 c0) → P1 wx (.slice a1 n1 c1) → wpAnyH Tryz.prog .any Gm Q SS 5 #[true, true, true, true, true, true, true, true, true, true, false, true, true, false, false, false, false] ⟨#[x0, x1, x2, x3, x4, x5, x6, x7, x8, x9, x10, x11, x12, x13, x14, x15, x16, k17, x18, k19, .slice a0 n0 c0, sv, rv, .slice a1 n1 c1, sv, rv, x26, sv, rv, x29, x30, x31, x32, x33], []⟩ wx := by
  intro a0 c0 a1 c1 wx hd h0 h1
  refine wpAnyH_ready (rs := [10, 15]) (by as_aux_lemma => kernel_rfl) (by simp) ?_
  refine AllReadyH.cons (o := JdS) rfl (fun K hK => ?_) (AllReadyH.cons (o := Jac) rfl (fun K hK => ?_) AllReadyH.nil)
  ·have hcx := hc2 wx hd
   go_simp
   refine hcx.mono ?_
   rintro e w' ⟨a2, c2, rfl, h2, hb⟩
   have hd2 := hd.trans (hb.mono hd.size)
   have h0' := hk0 _ _ _ h0 hb
   have h1' := hk1 _ _ _ h1 hb
   try go_wp2_with fail
   refine hK.out _ _ (hS _ hd2) (fun _ => ?_)
   clear hK K
   simp only [s1, s2, s3]
   exact s3n _ _ _ _ _ _ _ hd2 h0' h1' h2
  ·have hd2 := hnew wx hd
   go_simp
   refine hK.out _ _ (hS _ hd2) (fun _ => ?_)
   clear hK K
   simp only [s1, s2, s3]
   exact s2y _ _ _ _ _ _ hd2 (Jb _ _ _ rfl) hd.size (hk0 _ _ _ h0 ((Below.refl _ _).alloc (Nat.le_refl _) _)) (hk1 _ _ _ h1 ((Below.refl _ _).alloc (Nat.le_refl _) _))
 have s1y : ∀ (a0 : Option Addr) (c0 : Nat) (ga : Nat) (wx : World), Below W.heap.size W wx → Row wx ga #[.slice none 0 0, .slice none 0 0, .slice none 0 0, .slice none 0 0] 29 → W.heap.size ≤ ga → P0 wx (.slice a0 n0 c0) → wpAnyH Tryz.prog .any Gm Q SS 5 #[true, true, true, true, true, true, true, false, true, true, false, true, true, false, false, true, false] ⟨#[x0, x1, x2, x3, x4, x5, .pointer (some ⟨ga, 0, none⟩), x7, x8, x9, x10, x11, x12, x13, x14, x15, x16, k17, x18, k19, .slice a0 n0 c0, sv, rv, x23, sv, rv, x26, sv, rv, x29, x30, x31, x32, x33], []⟩ wx := by
  intro a0 c0 ga wx hd hr hg h0
  refine rd 7 Jhw (fun K hK => ?_)
  have hcx := hc1 wx hd
  go_simp
  refine hcx.mono ?_
  rintro e w' ⟨a1, c1, rfl, h1, hb⟩
  have hd2 := hd.trans (hb.mono hd.size)
  have h0' := hk0 _ _ _ h0 hb
  have hr2 := hr.next hb
  try go_wp2_with fail
  refine hK.out _ _ (hS _ hd2) (fun _ => ?_)
  clear hK K
  simp only [s1, s2, s3]
  exact s2y _ _ _ _ _ _ hd2 hr2 hg h0' h1
 have s1n : ∀ (a0 : Option Addr) (c0 : Nat) (wx : World), Below W.heap.size W wx → P0 wx (.slice a0 n0 c0) → wpAnyH Tryz.prog .any Gm Q SS 6 #[true, true, true, true, true, true, true, false, true, true, false, true, true, false, false, false, false] ⟨#[x0, x1, x2, x3, x4, x5, x6, x7, x8, x9, x10, x11, x12, x13, x14, x15, x16, k17, x18, k19, .slice a0 n0 c0, sv, rv, x23, sv, rv, x26, sv, rv, x29, x30, x31, x32, x33], []⟩ wx := by
  intro a0 c0 wx hd h0
  refine wpAnyH_ready (rs := [7, 15]) (by as_aux_lemma => kernel_rfl) (by simp) ?_
  refine AllReadyH.cons (o := Jhw) rfl (fun K hK => ?_) (AllReadyH.cons (o := Jac) rfl (fun K hK => ?_) AllReadyH.nil)
  ·have hcx := hc1 wx hd
   go_simp
   refine hcx.mono ?_
   rintro e w' ⟨a1, c1, rfl, h1, hb⟩
   have hd2 := hd.trans (hb.mono hd.size)
   have h0' := hk0 _ _ _ h0 hb
   try go_wp2_with fail
   refine hK.out _ _ (hS _ hd2) (fun _ => ?_)
   clear hK K
   simp only [s1, s2, s3]
   exact s2n _ _ _ _ _ hd2 h0' h1
  ·have hd2 := hnew wx hd
   go_simp
   refine hK.out _ _ (hS _ hd2) (fun _ => ?_)
   clear hK K
   simp only [s1, s2, s3]
   exact s1y _ _ _ _ hd2 (Jb _ _ _ rfl) hd.size (hk0 _ _ _ h0 ((Below.refl _ _).alloc (Nat.le_refl _) _))
 have s0y : ∀ (ga : Nat) (wx : World), Below W.heap.size W wx → Row wx ga #[.slice none 0 0, .slice none 0 0, .slice none 0 0, .slice none 0 0] 29 → W.heap.size ≤ ga → wpAnyH Tryz.prog .any Gm Q SS 6 #[true, true, true, true, false, true, true, false, true, true, false, true, true, false, false, true, false] ⟨#[x0, x1, x2, x3, x4, x5, .pointer (some ⟨ga, 0, none⟩), x7, x8, x9, x10, x11, x12, x13, x14, x15, x16, k17, x18, k19, x20, sv, rv, x23, sv, rv, x26, sv, rv, x29, x30, x31, x32, x33], []⟩ wx := by
  intro ga wx hd hr hg
  refine rd 4 Jf5 (fun K hK => ?_)
  have hcx := hc0 wx hd
  go_simp
  refine hcx.mono ?_
  rintro e w' ⟨a0, c0, rfl, h0, hb⟩
  have hd2 := hd.trans (hb.mono hd.size)
  have hr2 := hr.next hb
  try go_wp2_with fail
  refine hK.out _ _ (hS _ hd2) (fun _ => ?_)
  clear hK K
  simp only [s1, s2, s3]
  exact s1y _ _ _ _ hd2 hr2 hg h0
 have s0n : ∀ (wx : World), Below W.heap.size W wx → wpAnyH Tryz.prog .any Gm Q SS 7 #[true, true, true, true, false, true, true, false, true, true, false, true, true, false, false, false, false] ⟨#[x0, x1, x2, x3, x4, x5, x6, x7, x8, x9, x10, x11, x12, x13, x14, x15, x16, k17, x18, k19, x20, sv, rv, x23, sv, rv, x26, sv, rv, x29, x30, x31, x32, x33], []⟩ wx := by
  intro wx hd
  refine wpAnyH_ready (rs := [4, 15]) (by as_aux_lemma => kernel_rfl) (by simp) ?_
  refine AllReadyH.cons (o := Jf5) rfl (fun K hK => ?_) (AllReadyH.cons (o := Jac) rfl (fun K hK => ?_) AllReadyH.nil)
  ·have hcx := hc0 wx hd
   go_simp
   refine hcx.mono ?_
   rintro e w' ⟨a0, c0, rfl, h0, hb⟩
   have hd2 := hd.trans (hb.mono hd.size)
   try go_wp2_with fail
   refine hK.out _ _ (hS _ hd2) (fun _ => ?_)
   clear hK K
   simp only [s1, s2, s3]
   exact s1n _ _ _ hd2 h0
  ·have hd2 := hnew wx hd
   go_simp
   refine hK.out _ _ (hS _ hd2) (fun _ => ?_)
   clear hK K
   simp only [s1, s2, s3]
   exact s0y _ _ hd2 (Jb _ _ _ rfl) hd.size
 exact s0n W (Below.refl _ _)
theorem StAt.keepRow {w w' : World} {S : Sta} {v0 v1 v2 v3 : Value} (h : StAt w S v0 v1 v2 v3) {ga : Nat} {cs : Array Value} {T : TypeId} (hr : Row w ga cs T) (hsl : ∀ (k : Nat) v, cs[k]? = some v → ∃ a n c, v = .slice a n c) (hk : ∀ g : Nat, g ≠ ga → w'.heap[g]? = w.heap[g]?) (hs : w.heap.size ≤ w'.heap.size) : StAt w' S v0 v1 v2 v3 := by
 have ne : ∀ (g k : Nat) (v : Value), w.cell? ⟨g, k, none⟩ = some v → (∀ a n c, v ≠ .slice a n c) → g ≠ ga := fun g k v hc hv e => by
  subst e
  rw [cell_of_row w g k cs T (0, 0) hr] at hc
  obtain ⟨a, n, c, rfl⟩ := hsl k v hc
  exact hv a n c rfl
 obtain ⟨⟨a0, c0, rfl, h0⟩, ⟨a1, c1, rfl, h1⟩, ⟨a2, c2, rfl, h2⟩, ⟨a3, c3, rfl, h3⟩⟩ := h
 refine ⟨⟨a0, c0, rfl, fun hl => ?_⟩, ⟨a1, c1, rfl, fun hl => ?_⟩, ⟨a2, c2, rfl, fun hl => ?_⟩, ⟨a3, c3, rfl, fun hl => ?_⟩⟩
 ·obtain ⟨g, rfl, hg, hc⟩ := h0 hl
  have hne := ne g 0 _ (hc 0 hl) (fun a n c e => by cases e)
  exact ⟨g, rfl, Nat.lt_of_lt_of_le hg hs, fun j hj => by rw [ZP (hk g hne)]; exact hc j hj⟩
 ·obtain ⟨g, f, rfl, hg, hc⟩ := h1 hl
  have hne := ne g _ _ (hc 0 hl).1 (fun a n c e => by cases e)
  refine ⟨g, f, rfl, Nat.lt_of_lt_of_le hg hs, fun j hj => ?_⟩
  have := hc j hj
  unfold taC at this ⊢
  simp only [ZP (hk g hne)]; exact this
 ·obtain ⟨g, f, rfl, hg, hc⟩ := h2 hl
  have hne := ne g _ _ (hc 0 hl).1 (fun a n c e => by cases e)
  refine ⟨g, f, rfl, Nat.lt_of_lt_of_le hg hs, fun j hj => ?_⟩
  have := hc j hj
  unfold liC at this ⊢
  simp only [ZP (hk g hne)]; exact this
 ·obtain ⟨g, f, rfl, hg, hc⟩ := h3 hl
  have hne := ne g _ _ (hc 0 hl).1 (fun a n c e => by cases e)
  refine ⟨g, f, rfl, Nat.lt_of_lt_of_le hg hs, fun j hj => ?_⟩
  have := hc j hj
  unfold ceC at this ⊢
  simp only [ZP (hk g hne)]; exact this
theorem JcD {v0 v1 v2 v3 : Value} (h0 : ∃ a n c, v0 = .slice a n c) (h1 : ∃ a n c, v1 = .slice a n c) (h2 : ∃ a n c, v2 = .slice a n c) (h3 : ∃ a n c, v3 = .slice a n c) : ∀ (k : Nat) v, #[v0, v1, v2, v3][k]? = some v → ∃ a n c, v = .slice a n c := fun k v h => by
 match k, h with
 | 0, h => simp at h; subst h; exact h0
 | 1, h => simp at h; subst h; exact h1
 | 2, h => simp at h; subst h; exact h2
 | 3, h => simp at h; subst h; exact h3
 | k + 4, h => simp at h
theorem Jc7 {fn : Func} {q v : Tmp} (h : fn.results = #[.cell q 29, .tmp v]) {tmps : Array Value} {w : World} {g : Nat} {cs : Array Value} {x : Value} (hc : cs.size = 4) (hp : tmps.getD q undef = .pointer (some ⟨g, 0, none⟩)) (hv : tmps.getD v undef = x) (hg : Row w g cs 29) :
  (results fn tmps).run Tryz.prog w = .ok (.tuple #[.agg cs, x]) w := J9 h hc hp hv hg
theorem Km (S R : Sta) (u0 u1 u2 u3 v0 v1 v2 v3 : Value) (w : World) (hS : SOk S) (hR : SOk R) (hM : SOk (Jm S R)) (hu : StAt w S u0 u1 u2 u3) (hv : StAt w R v0 v1 v2 v3) (cu : Kl u1 u2 u3) (cv : Kl v1 v2 v3) :
  Calls Tryz.prog 83 #[.agg #[u0, u1, u2, u3], .agg #[v0, v1, v2, v3]] w fun e w' => ∃ q0 q1 q2 q3, e = .returned (.tuple #[.agg #[q0, q1, q2, q3], .bool true]) ∧ StAt w' (Jm S R) q0 q1 q2 q3 ∧ Below w.heap.size w w' := by
 obtain ⟨a0, c0, a1, c1, a2, c2, a3, c3, rfl, rfl, rfl, rfl⟩ := hu.shape
 obtain ⟨b0, d0, b1, d1, b2, d2, b3, d3, rfl, rfl, rfl, rfl⟩ := hv.shape
 obtain ⟨W, hW⟩ : ∃ W, W = ((w.alloc (.cells #[.slice a0 S.l.length c0, .slice a1 S.T.length c1, .slice a2 S.L.length c2, .slice a3 S.C.length c3] 29)).alloc (.cells #[.slice b0 R.l.length d0, .slice b1 R.T.length d1, .slice b2 R.L.length d2, .slice b3 R.C.length d3] 29)).alloc (.cells #[.slice none 0 0, .slice none 0 0, .slice none 0 0, .slice none 0 0] 29) := ⟨_, rfl⟩
 have HP : Hid (Row W w.heap.size #[.slice a0 S.l.length c0, .slice a1 S.T.length c1, .slice a2 S.L.length c2, .slice a3 S.C.length c3] 29) := by rw [hW]; exact ((Jb w _ _ rfl).alloc _).alloc _
 have HQ : Hid (Row W (w.heap.size + 1) #[.slice b0 R.l.length d0, .slice b1 R.T.length d1, .slice b2 R.L.length d2, .slice b3 R.C.length d3] 29) := by rw [hW]; exact (Jb _ _ _ (by simp)).alloc _
 have HZ : Hid (Row W (w.heap.size + 1 + 1) #[.slice none 0 0, .slice none 0 0, .slice none 0 0, .slice none 0 0] 29) := by rw [hW]; exact Jb _ _ _ (by simp)
 have HB : Hid (Below w.heap.size w W) := by rw [hW]; exact (((Below.refl _ _).alloc (Nat.le_refl _) _).alloc (by simp) _).alloc (by simp; omega) _
 have HWW : Hid (((w.alloc (.cells #[.slice a0 S.l.length c0, .slice a1 S.T.length c1, .slice a2 S.L.length c2, .slice a3 S.C.length c3] 29)).alloc (.cells #[.slice b0 R.l.length d0, .slice b1 R.T.length d1, .slice b2 R.L.length d2, .slice b3 R.C.length d3] 29)).alloc (.cells #[.slice none 0 0, .slice none 0 0, .slice none 0 0, .slice none 0 0] 29) = W) := hW.symm
 have HU : Hid (StAt W S (.slice a0 S.l.length c0) (.slice a1 S.T.length c1) (.slice a2 S.L.length c2) (.slice a3 S.C.length c3)) := by rw [hW]; exact ((hu.alloc _).alloc _).alloc _
 have HV : Hid (StAt W R (.slice b0 R.l.length d0) (.slice b1 R.T.length d1) (.slice b2 R.L.length d2) (.slice b3 R.C.length d3)) := by rw [hW]; exact ((hv.alloc _).alloc _).alloc _
 have HSO := Ja (ZR S (.slice a0 S.l.length c0) (.slice a1 S.T.length c1) (.slice a2 S.L.length c2) (.slice a3 S.C.length c3) W hS.small hS.named HU.out)
 have HSY : Hid (IOk S) := (Vr (fun a ha => (hS.2.1.2.mem a ha).1)).2 hS
 have HRY : Hid (IOk R) := (Vr (fun a ha => (hR.2.1.2.mem a ha).1)).2 hR
 have HMY : Hid (IOk (Jm S R)) := (Vr (fun a ha => (hM.2.1.2.mem a ha).1)).2 hM
 clear hW hu hv
 obtain ⟨p0, p1, p2, p3⟩ := Row.four HP.out
 go_enter Tryz.func83, Tryz.ntmps83
 go_wp2_with fail
 rw [HWW.out]
 clear HWW
 try go_wp2_with fail
 refine HSO.out.mono ?_
 rintro e w1 ⟨ht, hb1⟩
 have he := ht.is HSY.out
 subst he
 have HRO := Ja (ZR R (.slice b0 R.l.length d0) (.slice b1 R.T.length d1) (.slice b2 R.L.length d2) (.slice b3 R.C.length d3) w1 hR.small hR.named (HV.out.below hb1))
 obtain ⟨q0, q1, q2, q3⟩ := Row.four (HQ.out.next hb1)
 clear ht p0 p1 p2 p3 HSO HSY
 go_wp2_with fail
 refine HRO.out.mono ?_
 rintro e w2 ⟨ht, hb2⟩
 have he := ht.is HRY.out
 subst he
 have hbb : Below W.heap.size W w2 := hb1.trans (hb2.mono hb1.size)
 have HP2 := Ja (HP.out.next hbb)
 have HQ2 := Ja (HQ.out.next hbb)
 have HZ2 := Ja (HZ.out.next hbb)
 have HU2 := Ja (HU.out.below hbb)
 have HV2 := Ja (HV.out.below hbb)
 have HB2 : Hid (Below w.heap.size w w2) := HB.out.trans (hbb.mono HB.out.size)
 clear ht q0 q1 q2 q3 HRO HRY hb1 hb2 hbb HP HQ HZ HU HV HB
 have HSC : Hid (∀ wx, Below w2.drew.heap.size w2.drew wx → wx.cell? ⟨w.heap.size, 0, none⟩ = some (.slice a0 S.l.length c0) ∧ wx.cell? ⟨w.heap.size, 1, none⟩ = some (.slice a1 S.T.length c1) ∧ wx.cell? ⟨w.heap.size, 2, none⟩ = some (.slice a2 S.L.length c2) ∧ wx.cell? ⟨w.heap.size, 3, none⟩ = some (.slice a3 S.C.length c3) ∧ wx.cell? ⟨w.heap.size + 1, 0, none⟩ = some (.slice b0 R.l.length d0) ∧ wx.cell? ⟨w.heap.size + 1, 1, none⟩ = some (.slice b1 R.T.length d1) ∧ wx.cell? ⟨w.heap.size + 1, 2, none⟩ = some (.slice b2 R.L.length d2) ∧ wx.cell? ⟨w.heap.size + 1, 3, none⟩ = some (.slice b3 R.C.length d3)) := fun wx h => by
  obtain ⟨p0, p1, p2, p3⟩ := Row.four (Row.next (w := w2.drew) HP2.out.drew h)
  obtain ⟨q0, q1, q2, q3⟩ := Row.four (Row.next (w := w2.drew) HQ2.out.drew h)
  exact ⟨p0, p1, p2, p3, q0, q1, q2, q3⟩
 have hub : ∀ wx, Below w2.drew.heap.size w2.drew wx → StAt wx S (.slice a0 S.l.length c0) (.slice a1 S.T.length c1) (.slice a2 S.L.length c2) (.slice a3 S.C.length c3) := fun wx h => (HU2.out.below ((Below.refl _ _).drew)).below h
 have hvb : ∀ wx, Below w2.drew.heap.size w2.drew wx → StAt wx R (.slice b0 R.l.length d0) (.slice b1 R.T.length d1) (.slice b2 R.L.length d2) (.slice b3 R.C.length d3) := fun wx h => (HV2.out.below ((Below.refl _ _).drew)).below h
 have HC0 : Hid (∀ wx, Below w2.drew.heap.size w2.drew wx → Calls Tryz.prog 131 #[.slice a0 S.l.length c0, .slice b0 R.l.length d0] wx fun e w' => ∃ a c, e = .returned (.slice a (Za S.l R.l).length c) ∧ IntsAt w' (.slice a (Za S.l R.l).length c) (Za S.l R.l) ∧ Below wx.heap.size wx w') := fun wx h => by
  refine (Ya S.l R.l _ _ wx (hub wx h).1 (hvb wx h).1).mono ?_
  rintro e w' ⟨x, rfl, ho, hb⟩
  have hx := IntsAt.own ho rfl
  have hx2 := hx
  obtain ⟨a, c, rfl, -⟩ := hx2
  exact ⟨a, c, rfl, hx, hb⟩
 have HC1 : Hid (∀ wx, Below w2.drew.heap.size w2.drew wx → Calls Tryz.prog 132 #[.agg #[.slice a0 S.l.length c0, .slice a1 S.T.length c1, .slice a2 S.L.length c2, .slice a3 S.C.length c3], .agg #[.slice b0 R.l.length d0, .slice b1 R.T.length d1, .slice b2 R.L.length d2, .slice b3 R.C.length d3]] wx fun e w' => ∃ a c, e = .returned (.slice a (JX S.l R.l S.T R.T).length c) ∧ TaAt w' (.slice a (JX S.l R.l S.T R.T).length c) (JX S.l R.l S.T R.T) ∧ Below wx.heap.size wx w') := fun wx h => by
  refine (Vd S R _ _ _ _ _ _ _ _ wx hS hR (hub wx h) (hvb wx h) cu cv).mono ?_
  rintro e w' ⟨x, rfl, ho, hb⟩
  have hx := TaAt.own ho rfl
  have hx2 := hx
  obtain ⟨a, c, rfl, -⟩ := hx2
  exact ⟨a, c, rfl, hx, hb⟩
 have HC2 : Hid (∀ wx, Below w2.drew.heap.size w2.drew wx → Calls Tryz.prog 133 #[.agg #[.slice a0 S.l.length c0, .slice a1 S.T.length c1, .slice a2 S.L.length c2, .slice a3 S.C.length c3], .agg #[.slice b0 R.l.length d0, .slice b1 R.T.length d1, .slice b2 R.L.length d2, .slice b3 R.C.length d3]] wx fun e w' => ∃ a c, e = .returned (.slice a (J3 (J1 S.l R.l) S.L R.L).length c) ∧ LiAt w' (.slice a (J3 (J1 S.l R.l) S.L R.L).length c) (J3 (J1 S.l R.l) S.L R.L) ∧ Below wx.heap.size wx w') := fun wx h => by
  refine (Vn S R _ _ _ _ _ _ _ _ wx hS hR (hub wx h) (hvb wx h) cu cv).mono ?_
  rintro e w' ⟨x, rfl, ho, hb⟩
  have hx := LiAt.own ho rfl
  have hx2 := hx
  obtain ⟨a, c, rfl, -⟩ := hx2
  exact ⟨a, c, rfl, hx, hb⟩
 have HC3 : Hid (∀ wx, Below w2.drew.heap.size w2.drew wx → Calls Tryz.prog 134 #[.agg #[.slice a0 S.l.length c0, .slice a1 S.T.length c1, .slice a2 S.L.length c2, .slice a3 S.C.length c3], .agg #[.slice b0 R.l.length d0, .slice b1 R.T.length d1, .slice b2 R.L.length d2, .slice b3 R.C.length d3]] wx fun e w' => ∃ a c, e = .returned (.slice a (JR S.C R.C).length c) ∧ CeAt w' (.slice a (JR S.C R.C).length c) (JR S.C R.C) ∧ Below wx.heap.size wx w') := fun wx h => by
  refine (Vh S R _ _ _ _ _ _ _ _ wx hS hR (hub wx h) (hvb wx h) cu cv).mono ?_
  rintro e w' ⟨x, rfl, ho, hb⟩
  have hx := CeAt.own ho rfl
  have hx2 := hx
  obtain ⟨a, c, rfl, -⟩ := hx2
  exact ⟨a, c, rfl, hx, hb⟩
 clear hub hvb HU2 HV2
 have hzl := HZ2.out.lt
 have hDd : Below w2.drew.heap.size w2.drew w2.drew := Below.refl _ _
 go_wp2_with fail
 refine wph HSC hDd 17 ?_
 refine tQ 0 Jjq ?_ (HSC.out _ hDd)
 refine tQ 1 JjV ?_ (HSC.out _ hDd)
 refine tQ 2 Jif ?_ (HSC.out _ hDd)
 refine tQ 3 JhZ ?_ (HSC.out _ hDd)
 refine tQ 5 Jim ?_ (HSC.out _ hDd)
 refine tQ 6 Jh6 ?_ (HSC.out _ hDd)
 refine tQ 8 Jjl ?_ (HSC.out _ hDd)
 refine tQ 9 Jks ?_ (HSC.out _ hDd)
 refine tQ 11 Jfe ?_ (HSC.out _ hDd)
 refine tQ 12 Jfa ?_ (HSC.out _ hDd)
 refine Jde (W := w2.drew) (fun wx x => IntsAt wx x (Za S.l R.l)) (fun wx x => TaAt wx x (JX S.l R.l S.T R.T)) (fun wx x => LiAt wx x (J3 (J1 S.l R.l) S.L R.L)) (fun wx x => CeAt wx x (JR S.C R.C)) ?hP HSC.out (fun _ _ _ h hb => h.below hb) (fun _ _ _ h hb => h.below hb) (fun _ _ _ h hb => h.below hb) (fun _ _ _ h hb => h.below hb) HC0.out HC1.out HC2.out HC3.out ?hQQ
 case hP => exact fun _ _ d _ _ h => by cases d <;> exact h
 case hQQ =>
  intro e0 f0 e1 f1 e2 f2 e3 f3 ga wx hb hr hg g0 g1 g2 g3
  refine rd 16 Jfq (fun K hK => ?_)
  obtain ⟨z0, z1, z2, z3⟩ := Row.four hr
  have k0 := hr.free 0
  have k1 := hr.free 1
  have k2 := hr.free 2
  have k3 := hr.free 3
  go_simp
  obtain ⟨Y, hY⟩ : ∃ Y, Y = (((wx.setCell ⟨ga, 0, none⟩ (.slice e0 (Za S.l R.l).length f0)).setCell ⟨ga, 1, none⟩ (.slice e1 (JX S.l R.l S.T R.T).length f1)).setCell ⟨ga, 2, none⟩ (.slice e2 (J3 (J1 S.l R.l) S.L R.L).length f2)).setCell ⟨ga, 3, none⟩ (.slice e3 (JR S.C R.C).length f3) := ⟨_, rfl⟩
  rw [← hY]
  have hbY : Below w2.drew.heap.size w2.drew Y := by rw [hY]; exact (((hb.setCell (p := ⟨ga, 0, none⟩) hg _).setCell (p := ⟨ga, 1, none⟩) hg _).setCell (p := ⟨ga, 2, none⟩) hg _).setCell (p := ⟨ga, 3, none⟩) hg _
  have HGA : Hid (Row Y ga #[.slice e0 (Za S.l R.l).length f0, .slice e1 (JX S.l R.l S.T R.T).length f1, .slice e2 (J3 (J1 S.l R.l) S.L R.L).length f2, .slice e3 (JR S.C R.C).length f3] 29) := by rw [hY]; exact (((hr.st0 _).st1 _).st2 _).st3 _
  have HST : Hid (StAt Y (Jm S R) (.slice e0 (Za S.l R.l).length f0) (.slice e1 (JX S.l R.l S.T R.T).length f1) (.slice e2 (J3 (J1 S.l R.l) S.L R.L).length f2) (.slice e3 (JR S.C R.C).length f3)) := by
   refine StAt.keepRow (w := wx) (S := Jm S R) ⟨g0, g1, g2, g3⟩ hr (JcD ⟨_, _, _, rfl⟩ ⟨_, _, _, rfl⟩ ⟨_, _, _, rfl⟩ ⟨_, _, _, rfl⟩) (fun g hne => ?_) ?_
   ·rw [hY, ZS hne, ZS hne, ZS hne, ZS hne]
   ·rw [hY]; exact ((((Below.refl 0 wx).setCell (p := ⟨ga, 0, none⟩) (Nat.zero_le _) _).setCell (p := ⟨ga, 1, none⟩) (Nat.zero_le _) _).setCell (p := ⟨ga, 2, none⟩) (Nat.zero_le _) _).setCell (p := ⟨ga, 3, none⟩) (Nat.zero_le _) _ |>.size
  clear hY z0 z1 z2 z3 k0 k1 k2 k3
  refine hK.out _ _ (HSC.out _ hbY) (fun _ => ?_)
  clear hK K
  simp only [s1, s2, s3]
  refine wpd ?_
  have hwy : w2.heap.size ≤ Y.heap.size := hbY.size
  have HZY : Hid (Row Y (w.heap.size + 1 + 1) #[.slice none 0 0, .slice none 0 0, .slice none 0 0, .slice none 0 0] 29) := Row.next (w := w2.drew) HZ2.out.drew hbY
  have HBY : Hid (Below w.heap.size w Y) := HB2.out.drew.trans (hbY.mono HB2.out.drew.size)
  have HSO := Ja (ZR (Jm S R) (.slice e0 (Za S.l R.l).length f0) (.slice e1 (JX S.l R.l S.T R.T).length f1) (.slice e2 (J3 (J1 S.l R.l) S.L R.L).length f2) (.slice e3 (JR S.C R.C).length f3) Y.drew hM.small hM.named (HST.out.below ((Below.refl _ _).drew)))
  have HNG : Hid (w.heap.size + 1 + 1 < ga) := by show _ < _; have : w2.heap.size ≤ ga := hg; omega
  clear hb hr hg g0 g1 g2 g3 HSC HC0 HC1 HC2 HC3 hDd HP2 HQ2 HZ2 HB2 hbY hzl
  have HSO2 : Hid (Calls Tryz.prog 18 #[.agg #[.slice e0 (Za S.l R.l).length f0, .slice e1 (JX S.l R.l S.T R.T).length f1, .slice e2 (J3 (J1 S.l R.l) S.L R.L).length f2, .slice e3 (JR S.C R.C).length f3]] Y.drew fun e w' => e = .returned (.bool true) ∧ Below Y.drew.heap.size Y.drew w') := HSO.out.mono (fun e w' h => ⟨h.1.is HMY.out, h.2⟩)
  clear HSO
  obtain ⟨m0, m1, m2, m3⟩ := Row.four HGA.out
  obtain ⟨z0, z1, z2, z3⟩ := Row.four HZY.out
  have k0 := HZY.out.free 0
  have k1 := HZY.out.free 1
  have k2 := HZY.out.free 2
  have k3 := HZY.out.free 3
  have n1 : (w.heap.size + 1 + 1 = ga) = False := by have := HNG.out; simp; omega
  have n2 : (ga = w.heap.size + 1 + 1) = False := by have := HNG.out; simp; omega
  go_wp2_with fail
  go_region_with (first | (go_at_call 18; refine HSO2.out.mono ?_; rintro e w4 ⟨rfl, hb4⟩; have HZ4 := Ja (Row.next (w := Y.drew) HZY.out.drew hb4); have HG4 := Ja (Row.next (w := Y.drew) HGA.out.drew hb4); have HS4 := Ja ((HST.out.below ((Below.refl _ _).drew)).below hb4); have HB4 := Ja (HBY.out.drew.trans (hb4.mono HBY.out.drew.size)); obtain ⟨t0, t1, t2, t3⟩ := Row.four HZ4.out; obtain ⟨r0, r1, r2, r3⟩ := Row.four HG4.out; have i0 := HZ4.out.free 0; have i1 := HZ4.out.free 1; have i2 := HZ4.out.free 2; have i3 := HZ4.out.free 3))
  all_goals go_wp2
  all_goals refine bodyPost_ret (Jc7 rfl rfl rfl rfl ((((HZ4.out.st0 _).st1 _).st2 _).st3 _)) rfl ⟨_, _, _, _, rfl, ?_, ?_⟩
  all_goals first
   | exact ((((HB4.out.setCell (p := ⟨w.heap.size + 1 + 1, 0, none⟩) (by simp; omega) _).setCell (p := ⟨w.heap.size + 1 + 1, 1, none⟩) (by simp; omega) _).setCell (p := ⟨w.heap.size + 1 + 1, 2, none⟩) (by simp; omega) _).setCell (p := ⟨w.heap.size + 1 + 1, 3, none⟩) (by simp; omega) _)
   | exact StAt.keepRow HS4.out HZ4.out (JcD ⟨_, _, _, rfl⟩ ⟨_, _, _, rfl⟩ ⟨_, _, _, rfl⟩ ⟨_, _, _, rfl⟩) (fun g hne => by rw [ZS hne, ZS hne, ZS hne, ZS hne]) ((((Below.refl 0 w4).setCell (p := ⟨w.heap.size + 1 + 1, 0, none⟩) (Nat.zero_le _) _).setCell (p := ⟨w.heap.size + 1 + 1, 1, none⟩) (Nat.zero_le _) _).setCell (p := ⟨w.heap.size + 1 + 1, 2, none⟩) (Nat.zero_le _) _ |>.setCell (p := ⟨w.heap.size + 1 + 1, 3, none⟩) (Nat.zero_le _) _).size
end Go.Proofs.YtdknoflkingodaaGreat
