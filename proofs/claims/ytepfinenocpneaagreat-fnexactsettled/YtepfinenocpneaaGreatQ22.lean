/- A state is copied, as the specification does it. -/
import Derived.Test.YtepfinenocpneaaGreatQ21
set_option maxHeartbeats 16000000
namespace Go.Proofs.YtepfinenocpneaaGreat
open Value (int)
open IntKind (i64)
set_option maxRecDepth 100000
set_option linter.unusedVariables false
open Go.RowKit
abbrev YR : Oper := oq 3 (.buildSlice 24 0 #[]) 24 "l06_state.go:121" #[] none
abbrev Jij : Oper := oq 4 (.fieldAddr 29 (.tmp 1) 0) 0 "l06_state.go:121" #[] none
abbrev JhM : Oper := oq 5 (.load 24 (.tmp 4)) 24 "l06_state.go:121" #[eD 1] none
abbrev YN : Oper := oq 6 (.call ⟨.builtin .append, #[.tmp 3, .tmp 5], #[24, 24]⟩) 24 "l06_state.go:121" #[eD 0, eD 2] none
abbrev GU : Oper := oq 7 (.buildSlice 25 0 #[]) 25 "l06_state.go:121" #[] none
abbrev Jht : Oper := oq 8 (.fieldAddr 29 (.tmp 1) 1) 0 "l06_state.go:121" #[] none
abbrev JiK : Oper := oq 9 (.load 25 (.tmp 8)) 25 "l06_state.go:121" #[eD 5] none
abbrev Jds : Oper := oq 10 (.call ⟨.builtin .append, #[.tmp 7, .tmp 9], #[25, 25]⟩) 25 "l06_state.go:121" #[eD 4, eD 6, eC 3] none
abbrev KN : Oper := oq 11 (.buildSlice 26 0 #[]) 26 "l06_state.go:121" #[] none
abbrev Jhi : Oper := oq 12 (.fieldAddr 29 (.tmp 1) 2) 0 "l06_state.go:121" #[] none
abbrev JeD : Oper := oq 13 (.load 26 (.tmp 12)) 26 "l06_state.go:121" #[eD 9] none
abbrev Jc7 : Oper := oq 14 (.call ⟨.builtin .append, #[.tmp 11, .tmp 13], #[26, 26]⟩) 26 "l06_state.go:121" #[eD 8, eD 10, eC 7] none
abbrev Zz : Oper := oq 15 (.buildSlice 27 0 #[]) 27 "l06_state.go:121" #[] none
abbrev Jey : Oper := oq 16 (.fieldAddr 29 (.tmp 1) 3) 0 "l06_state.go:121" #[] none
abbrev Jeu : Oper := oq 17 (.load 27 (.tmp 16)) 27 "l06_state.go:121" #[eD 13] none
abbrev Jew : Oper := oq 18 (.call ⟨.builtin .append, #[.tmp 15, .tmp 17], #[27, 27]⟩) 27 "l06_state.go:121" #[eD 12, eD 14, eC 11] none
abbrev Jer : Oper := oq 19 (.build 29 #[(0, .tmp 6), (1, .tmp 10), (2, .tmp 14), (3, .tmp 18)]) 29 "l06_state.go:121" #[eD 3, eD 7, eD 11, eD 15] none
abbrev JeC : Oper := oz (.store 29 (.tmp 2) (.tmp 19)) 0 "l06_state.go:121" #[eD 16, eC 15, eP 0, eP 1, eP 2, eP 3, eP 4, eP 5, eP 6, eP 7, eP 8, eP 9, eP 10, eP 11, eP 12, eP 13, eP 14, eP 15, eP 16] none
abbrev JQ : Array Oper := #[YR, Jij, JhM, YN, GU, Jht, JiK, Jds, KN, Jhi, JeD, Jc7, Zz, Jey, Jeu, Jew, Jer, JeC]
abbrev cpS (S : Sta) (pt : Nat) (a0 : Option Addr) (c0 : Nat) (a1 : Option Addr) (c1 : Nat) (a2 : Option Addr) (c2 : Nat) (a3 : Option Addr) (c3 : Nat) : World → Prop := fun w' => w'.cell? ⟨pt, 0, none⟩ = some (.slice a0 S.l.length c0) ∧ w'.cell? ⟨pt, 1, none⟩ = some (.slice a1 S.T.length c1) ∧ w'.cell? ⟨pt, 2, none⟩ = some (.slice a2 S.L.length c2) ∧ w'.cell? ⟨pt, 3, none⟩ = some (.slice a3 S.C.length c3)
structure CpEnv (S : Sta) (Q : Exit → Act → World → Prop) (A0 : Value) (pt rt : Nat) (a0 : Option Addr) (c0 : Nat) (a1 : Option Addr) (c1 : Nat) (a2 : Option Addr) (c2 : Nat) (a3 : Option Addr) (c3 : Nat) (W : World) : Prop where
 hn : Small S
 hR : ∀ wx, Below W.heap.size W wx → StAt wx S (.slice a0 S.l.length c0) (.slice a1 S.T.length c1) (.slice a2 S.L.length c2) (.slice a3 S.C.length c3)
 hS : ∀ wx, Below W.heap.size W wx → cpS S pt a0 c0 a1 c1 a2 c2 a3 c3 wx
 hQ : ∀ b0 b1 b2 b3 v0 v1 v2 v3 wx, Below W.heap.size W wx → Own4 wx W.heap.size (some ⟨v0, 3, 1, S.l.length, Je S.l⟩) (some ⟨v1, 86, 3, S.T.length, taV S.T⟩) (some ⟨v2, 88, 6, S.L.length, liV S.L⟩) (some ⟨v3, 90, 8, S.C.length, ceV S.C⟩) → wpAnyH Tryz.prog .any JQ Q (cpS S pt a0 c0 a1 c1 a2 c2 a3 c3) 2 #[true, true, true, true, true, true, true, true, true, true, true, true, true, true, true, true, false, false] ⟨#[A0, .pointer (some ⟨pt, 0, none⟩), .pointer (some ⟨rt, 0, none⟩), b0, .pointer (some ⟨pt, 0, none⟩), .slice a0 S.l.length c0, v0, b1, .pointer (some ⟨pt, 1, none⟩), .slice a1 S.T.length c1, v1, b2, .pointer (some ⟨pt, 2, none⟩), .slice a2 S.L.length c2, v2, b3, .pointer (some ⟨pt, 3, none⟩), .slice a3 S.C.length c3, v3, undef], []⟩ wx
theorem V6 {S : Sta} {Q : Exit → Act → World → Prop} {A0 : Value} {pt rt : Nat} {a0 : Option Addr} {c0 : Nat} {a1 : Option Addr} {c1 : Nat} {a2 : Option Addr} {c2 : Nat} {a3 : Option Addr} {c3 : Nat} {W : World} (E : CpEnv S Q A0 pt rt a0 c0 a1 c1 a2 c2 a3 c3 W) (b0 v0 : Value) (b1 v1 : Value) (b2 v2 : Value) (g3 : Nat) (w : World) (hb : Below W.heap.size W w) (ho : Own4 w W.heap.size (some ⟨v0, 3, 1, S.l.length, Je S.l⟩) (some ⟨v1, 86, 3, S.T.length, taV S.T⟩) (some ⟨v2, 88, 6, S.L.length, liV S.L⟩) (some ⟨.slice (some ⟨g3, 0, none⟩) 0 0, 90, 8, 0, []⟩)) :
  wpAnyH Tryz.prog .any JQ Q (cpS S pt a0 c0 a1 c1 a2 c2 a3 c3) 3 #[true, true, true, true, true, true, true, true, true, true, true, true, true, true, true, false, false, false] ⟨#[A0, .pointer (some ⟨pt, 0, none⟩), .pointer (some ⟨rt, 0, none⟩), b0, .pointer (some ⟨pt, 0, none⟩), .slice a0 S.l.length c0, v0, b1, .pointer (some ⟨pt, 1, none⟩), .slice a1 S.T.length c1, v1, b2, .pointer (some ⟨pt, 2, none⟩), .slice a2 S.L.length c2, v2, .slice (some ⟨g3, 0, none⟩) 0 0, .pointer (some ⟨pt, 3, none⟩), .slice a3 S.C.length c3, undef, undef], []⟩ w := by
 have hsz := hb.size
 refine rd 15 Jew (fun K hK => ?_)
 obtain ⟨i0, hi, hz0, hz1, hz2⟩ := info_parts KX
 have hoi : w.ownsRow W.heap.size 90 8 (.slice (some ⟨g3, 0, none⟩) 0 0) 0 [] := ho.1.2.2.2
 refine JH rfl (.tmp 15) (.tmp 17) 27 rfl W.heap.size 90 i0 (.agg #[.string ⟨#[]⟩, int i64 0, int i64 0, int i64 0, int i64 0, int i64 0, int i64 0, .bool false]) 8 72 Tryz.underlying27 hi hz0 hz1 hz2 rfl (by decide) g3 rfl hoi a3 S.C.length c3 (ceV S.C) rfl (E.hR w hb).2.2.2.src E.hn.2.2.2 (by decide) hsz ?_
 intro v' w' k1 k2 k3
 have hb2 : Below W.heap.size W w' := hb.grown k2 hsz (fun j hj => by injection hj with hj; subst hj; exact (hoi.lt _ rfl).1)
 have ho2 := ho.more4 k1 k2 k3
 refine hK.out _ _ (E.hS _ hb2) (fun _ => ?_)
 clear hK K
 simp only [sq]
 exact E.hQ b0 b1 b2 _ v0 v1 v2 v' _ hb2 ho2
theorem Jck {S : Sta} {Q : Exit → Act → World → Prop} {A0 : Value} {pt rt : Nat} {a0 : Option Addr} {c0 : Nat} {a1 : Option Addr} {c1 : Nat} {a2 : Option Addr} {c2 : Nat} {a3 : Option Addr} {c3 : Nat} {W : World} (E : CpEnv S Q A0 pt rt a0 c0 a1 c1 a2 c2 a3 c3 W) (b0 v0 : Value) (b1 v1 : Value) (b2 v2 : Value) (w : World) (hb : Below W.heap.size W w) (ho : Own4 w W.heap.size (some ⟨v0, 3, 1, S.l.length, Je S.l⟩) (some ⟨v1, 86, 3, S.T.length, taV S.T⟩) (some ⟨v2, 88, 6, S.L.length, liV S.L⟩) none) :
  wpAnyH Tryz.prog .any JQ Q (cpS S pt a0 c0 a1 c1 a2 c2 a3 c3) 4 #[true, true, true, true, true, true, true, true, true, true, true, true, false, true, true, false, false, false] ⟨#[A0, .pointer (some ⟨pt, 0, none⟩), .pointer (some ⟨rt, 0, none⟩), b0, .pointer (some ⟨pt, 0, none⟩), .slice a0 S.l.length c0, v0, b1, .pointer (some ⟨pt, 1, none⟩), .slice a1 S.T.length c1, v1, b2, .pointer (some ⟨pt, 2, none⟩), .slice a2 S.L.length c2, v2, undef, .pointer (some ⟨pt, 3, none⟩), .slice a3 S.C.length c3, undef, undef], []⟩ w := by
 have hsz := hb.size
 refine rd 12 Zz (fun K hK => ?_)
 have hb2 : Below W.heap.size W (w.alloc (.cells #[] 90)) := hb.alloc hsz _
 have ho2 := ho.new4 hsz 90 8
 go_simp
 refine hK.out _ _ (E.hS _ hb2) (fun _ => ?_)
 clear hK K
 try simp only [s1, s2, s3]
 exact V6 E b0 v0 b1 v1 b2 v2 w.heap.size _ hb2 ho2
theorem GN {S : Sta} {Q : Exit → Act → World → Prop} {A0 : Value} {pt rt : Nat} {a0 : Option Addr} {c0 : Nat} {a1 : Option Addr} {c1 : Nat} {a2 : Option Addr} {c2 : Nat} {a3 : Option Addr} {c3 : Nat} {W : World} (E : CpEnv S Q A0 pt rt a0 c0 a1 c1 a2 c2 a3 c3 W) (b0 v0 : Value) (b1 v1 : Value) (g2 : Nat) (g3 : Nat) (w : World) (hb : Below W.heap.size W w) (ho : Own4 w W.heap.size (some ⟨v0, 3, 1, S.l.length, Je S.l⟩) (some ⟨v1, 86, 3, S.T.length, taV S.T⟩) (some ⟨.slice (some ⟨g2, 0, none⟩) 0 0, 88, 6, 0, []⟩) (some ⟨.slice (some ⟨g3, 0, none⟩) 0 0, 90, 8, 0, []⟩)) :
  wpAnyH Tryz.prog .any JQ Q (cpS S pt a0 c0 a1 c1 a2 c2 a3 c3) 4 #[true, true, true, true, true, true, true, true, true, true, true, false, true, true, true, false, false, false] ⟨#[A0, .pointer (some ⟨pt, 0, none⟩), .pointer (some ⟨rt, 0, none⟩), b0, .pointer (some ⟨pt, 0, none⟩), .slice a0 S.l.length c0, v0, b1, .pointer (some ⟨pt, 1, none⟩), .slice a1 S.T.length c1, v1, .slice (some ⟨g2, 0, none⟩) 0 0, .pointer (some ⟨pt, 2, none⟩), .slice a2 S.L.length c2, undef, .slice (some ⟨g3, 0, none⟩) 0 0, .pointer (some ⟨pt, 3, none⟩), .slice a3 S.C.length c3, undef, undef], []⟩ w := by
 have hsz := hb.size
 refine rd 11 Jc7 (fun K hK => ?_)
 obtain ⟨i0, hi, hz0, hz1, hz2⟩ := info_parts ZF
 have hoi : w.ownsRow W.heap.size 88 6 (.slice (some ⟨g2, 0, none⟩) 0 0) 0 [] := ho.1.2.2.1
 refine JH rfl (.tmp 11) (.tmp 13) 26 rfl W.heap.size 88 i0 (.agg #[.bool false, .string ⟨#[]⟩, .string ⟨#[]⟩, int i64 0, int i64 0, int i64 0]) 6 64 Tryz.underlying26 hi hz0 hz1 hz2 rfl (by decide) g2 rfl hoi a2 S.L.length c2 (liV S.L) rfl (E.hR w hb).2.2.1.src E.hn.2.2.1 (by decide) hsz ?_
 intro v' w' k1 k2 k3
 have hb2 : Below W.heap.size W w' := hb.grown k2 hsz (fun j hj => by injection hj with hj; subst hj; exact (hoi.lt _ rfl).1)
 have ho2 := ho.more3 k1 k2 k3
 refine hK.out _ _ (E.hS _ hb2) (fun _ => ?_)
 clear hK K
 simp only [sq]
 exact V6 E b0 v0 b1 v1 _ v' g3 _ hb2 ho2
theorem VQ {S : Sta} {Q : Exit → Act → World → Prop} {A0 : Value} {pt rt : Nat} {a0 : Option Addr} {c0 : Nat} {a1 : Option Addr} {c1 : Nat} {a2 : Option Addr} {c2 : Nat} {a3 : Option Addr} {c3 : Nat} {W : World} (E : CpEnv S Q A0 pt rt a0 c0 a1 c1 a2 c2 a3 c3 W) (b0 v0 : Value) (b1 v1 : Value) (g2 : Nat) (w : World) (hb : Below W.heap.size W w) (ho : Own4 w W.heap.size (some ⟨v0, 3, 1, S.l.length, Je S.l⟩) (some ⟨v1, 86, 3, S.T.length, taV S.T⟩) (some ⟨.slice (some ⟨g2, 0, none⟩) 0 0, 88, 6, 0, []⟩) none) :
  wpAnyH Tryz.prog .any JQ Q (cpS S pt a0 c0 a1 c1 a2 c2 a3 c3) 5 #[true, true, true, true, true, true, true, true, true, true, true, false, false, true, true, false, false, false] ⟨#[A0, .pointer (some ⟨pt, 0, none⟩), .pointer (some ⟨rt, 0, none⟩), b0, .pointer (some ⟨pt, 0, none⟩), .slice a0 S.l.length c0, v0, b1, .pointer (some ⟨pt, 1, none⟩), .slice a1 S.T.length c1, v1, .slice (some ⟨g2, 0, none⟩) 0 0, .pointer (some ⟨pt, 2, none⟩), .slice a2 S.L.length c2, undef, undef, .pointer (some ⟨pt, 3, none⟩), .slice a3 S.C.length c3, undef, undef], []⟩ w := by
 have hsz := hb.size
 refine wpAnyH_ready (rs := [11, 12]) (by as_aux_lemma => kernel_rfl) (by simp) ?_
 refine AllReadyH.cons (o := Jc7) rfl (fun K hK => ?_) ?_
 ·obtain ⟨i0, hi, hz0, hz1, hz2⟩ := info_parts ZF
  have hoi : w.ownsRow W.heap.size 88 6 (.slice (some ⟨g2, 0, none⟩) 0 0) 0 [] := ho.1.2.2.1
  refine JH rfl (.tmp 11) (.tmp 13) 26 rfl W.heap.size 88 i0 (.agg #[.bool false, .string ⟨#[]⟩, .string ⟨#[]⟩, int i64 0, int i64 0, int i64 0]) 6 64 Tryz.underlying26 hi hz0 hz1 hz2 rfl (by decide) g2 rfl hoi a2 S.L.length c2 (liV S.L) rfl (E.hR w hb).2.2.1.src E.hn.2.2.1 (by decide) hsz ?_
  intro v' w' k1 k2 k3
  have hb2 : Below W.heap.size W w' := hb.grown k2 hsz (fun j hj => by injection hj with hj; subst hj; exact (hoi.lt _ rfl).1)
  have ho2 := ho.more3 k1 k2 k3
  refine hK.out _ _ (E.hS _ hb2) (fun _ => ?_)
  clear hK K
  simp only [sq]
  exact Jck E b0 v0 b1 v1 _ v' _ hb2 ho2
 refine AllReadyH.cons (o := Zz) rfl (fun K hK => ?_) AllReadyH.nil
 have hb2 : Below W.heap.size W (w.alloc (.cells #[] 90)) := hb.alloc hsz _
 have ho2 := ho.new4 hsz 90 8
 go_simp
 refine hK.out _ _ (E.hS _ hb2) (fun _ => ?_)
 clear hK K
 try simp only [s1, s2, s3]
 exact GN E b0 v0 b1 v1 g2 w.heap.size _ hb2 ho2
theorem Yj {S : Sta} {Q : Exit → Act → World → Prop} {A0 : Value} {pt rt : Nat} {a0 : Option Addr} {c0 : Nat} {a1 : Option Addr} {c1 : Nat} {a2 : Option Addr} {c2 : Nat} {a3 : Option Addr} {c3 : Nat} {W : World} (E : CpEnv S Q A0 pt rt a0 c0 a1 c1 a2 c2 a3 c3 W) (b0 v0 : Value) (b1 v1 : Value) (g3 : Nat) (w : World) (hb : Below W.heap.size W w) (ho : Own4 w W.heap.size (some ⟨v0, 3, 1, S.l.length, Je S.l⟩) (some ⟨v1, 86, 3, S.T.length, taV S.T⟩) none (some ⟨.slice (some ⟨g3, 0, none⟩) 0 0, 90, 8, 0, []⟩)) :
  wpAnyH Tryz.prog .any JQ Q (cpS S pt a0 c0 a1 c1 a2 c2 a3 c3) 5 #[true, true, true, true, true, true, true, true, false, true, true, false, true, true, true, false, false, false] ⟨#[A0, .pointer (some ⟨pt, 0, none⟩), .pointer (some ⟨rt, 0, none⟩), b0, .pointer (some ⟨pt, 0, none⟩), .slice a0 S.l.length c0, v0, b1, .pointer (some ⟨pt, 1, none⟩), .slice a1 S.T.length c1, v1, undef, .pointer (some ⟨pt, 2, none⟩), .slice a2 S.L.length c2, undef, .slice (some ⟨g3, 0, none⟩) 0 0, .pointer (some ⟨pt, 3, none⟩), .slice a3 S.C.length c3, undef, undef], []⟩ w := by
 have hsz := hb.size
 refine rd 8 KN (fun K hK => ?_)
 have hb2 : Below W.heap.size W (w.alloc (.cells #[] 88)) := hb.alloc hsz _
 have ho2 := ho.new3 hsz 88 6
 go_simp
 refine hK.out _ _ (E.hS _ hb2) (fun _ => ?_)
 clear hK K
 try simp only [s1, s2, s3]
 exact GN E b0 v0 b1 v1 w.heap.size g3 _ hb2 ho2
theorem Jcy {S : Sta} {Q : Exit → Act → World → Prop} {A0 : Value} {pt rt : Nat} {a0 : Option Addr} {c0 : Nat} {a1 : Option Addr} {c1 : Nat} {a2 : Option Addr} {c2 : Nat} {a3 : Option Addr} {c3 : Nat} {W : World} (E : CpEnv S Q A0 pt rt a0 c0 a1 c1 a2 c2 a3 c3 W) (b0 v0 : Value) (b1 v1 : Value) (w : World) (hb : Below W.heap.size W w) (ho : Own4 w W.heap.size (some ⟨v0, 3, 1, S.l.length, Je S.l⟩) (some ⟨v1, 86, 3, S.T.length, taV S.T⟩) none none) :
  wpAnyH Tryz.prog .any JQ Q (cpS S pt a0 c0 a1 c1 a2 c2 a3 c3) 6 #[true, true, true, true, true, true, true, true, false, true, true, false, false, true, true, false, false, false] ⟨#[A0, .pointer (some ⟨pt, 0, none⟩), .pointer (some ⟨rt, 0, none⟩), b0, .pointer (some ⟨pt, 0, none⟩), .slice a0 S.l.length c0, v0, b1, .pointer (some ⟨pt, 1, none⟩), .slice a1 S.T.length c1, v1, undef, .pointer (some ⟨pt, 2, none⟩), .slice a2 S.L.length c2, undef, undef, .pointer (some ⟨pt, 3, none⟩), .slice a3 S.C.length c3, undef, undef], []⟩ w := by
 have hsz := hb.size
 refine wpAnyH_ready (rs := [8, 12]) (by as_aux_lemma => kernel_rfl) (by simp) ?_
 refine AllReadyH.cons (o := KN) rfl (fun K hK => ?_) ?_
 ·have hb2 : Below W.heap.size W (w.alloc (.cells #[] 88)) := hb.alloc hsz _
  have ho2 := ho.new3 hsz 88 6
  go_simp
  refine hK.out _ _ (E.hS _ hb2) (fun _ => ?_)
  clear hK K
  try simp only [s1, s2, s3]
  exact VQ E b0 v0 b1 v1 w.heap.size _ hb2 ho2
 refine AllReadyH.cons (o := Zz) rfl (fun K hK => ?_) AllReadyH.nil
 have hb2 : Below W.heap.size W (w.alloc (.cells #[] 90)) := hb.alloc hsz _
 have ho2 := ho.new4 hsz 90 8
 go_simp
 refine hK.out _ _ (E.hS _ hb2) (fun _ => ?_)
 clear hK K
 try simp only [s1, s2, s3]
 exact Yj E b0 v0 b1 v1 w.heap.size _ hb2 ho2
theorem KA {S : Sta} {Q : Exit → Act → World → Prop} {A0 : Value} {pt rt : Nat} {a0 : Option Addr} {c0 : Nat} {a1 : Option Addr} {c1 : Nat} {a2 : Option Addr} {c2 : Nat} {a3 : Option Addr} {c3 : Nat} {W : World} (E : CpEnv S Q A0 pt rt a0 c0 a1 c1 a2 c2 a3 c3 W) (b0 v0 : Value) (g1 : Nat) (g2 : Nat) (g3 : Nat) (w : World) (hb : Below W.heap.size W w) (ho : Own4 w W.heap.size (some ⟨v0, 3, 1, S.l.length, Je S.l⟩) (some ⟨.slice (some ⟨g1, 0, none⟩) 0 0, 86, 3, 0, []⟩) (some ⟨.slice (some ⟨g2, 0, none⟩) 0 0, 88, 6, 0, []⟩) (some ⟨.slice (some ⟨g3, 0, none⟩) 0 0, 90, 8, 0, []⟩)) :
  wpAnyH Tryz.prog .any JQ Q (cpS S pt a0 c0 a1 c1 a2 c2 a3 c3) 5 #[true, true, true, true, true, true, true, false, true, true, true, false, true, true, true, false, false, false] ⟨#[A0, .pointer (some ⟨pt, 0, none⟩), .pointer (some ⟨rt, 0, none⟩), b0, .pointer (some ⟨pt, 0, none⟩), .slice a0 S.l.length c0, v0, .slice (some ⟨g1, 0, none⟩) 0 0, .pointer (some ⟨pt, 1, none⟩), .slice a1 S.T.length c1, undef, .slice (some ⟨g2, 0, none⟩) 0 0, .pointer (some ⟨pt, 2, none⟩), .slice a2 S.L.length c2, undef, .slice (some ⟨g3, 0, none⟩) 0 0, .pointer (some ⟨pt, 3, none⟩), .slice a3 S.C.length c3, undef, undef], []⟩ w := by
 have hsz := hb.size
 refine rd 7 Jds (fun K hK => ?_)
 obtain ⟨i0, hi, hz0, hz1, hz2⟩ := info_parts Zn
 have hoi : w.ownsRow W.heap.size 86 3 (.slice (some ⟨g1, 0, none⟩) 0 0) 0 [] := ho.1.2.1
 refine JH rfl (.tmp 7) (.tmp 9) 25 rfl W.heap.size 86 i0 (.agg #[.string ⟨#[]⟩, int i64 0, int i64 0]) 3 32 Tryz.underlying25 hi hz0 hz1 hz2 rfl (by decide) g1 rfl hoi a1 S.T.length c1 (taV S.T) rfl (E.hR w hb).2.1.src E.hn.2.1 (by decide) hsz ?_
 intro v' w' k1 k2 k3
 have hb2 : Below W.heap.size W w' := hb.grown k2 hsz (fun j hj => by injection hj with hj; subst hj; exact (hoi.lt _ rfl).1)
 have ho2 := ho.more2 k1 k2 k3
 refine hK.out _ _ (E.hS _ hb2) (fun _ => ?_)
 clear hK K
 simp only [sq]
 exact GN E b0 v0 _ v' g2 g3 _ hb2 ho2
theorem GK {S : Sta} {Q : Exit → Act → World → Prop} {A0 : Value} {pt rt : Nat} {a0 : Option Addr} {c0 : Nat} {a1 : Option Addr} {c1 : Nat} {a2 : Option Addr} {c2 : Nat} {a3 : Option Addr} {c3 : Nat} {W : World} (E : CpEnv S Q A0 pt rt a0 c0 a1 c1 a2 c2 a3 c3 W) (b0 v0 : Value) (g1 : Nat) (g2 : Nat) (w : World) (hb : Below W.heap.size W w) (ho : Own4 w W.heap.size (some ⟨v0, 3, 1, S.l.length, Je S.l⟩) (some ⟨.slice (some ⟨g1, 0, none⟩) 0 0, 86, 3, 0, []⟩) (some ⟨.slice (some ⟨g2, 0, none⟩) 0 0, 88, 6, 0, []⟩) none) :
  wpAnyH Tryz.prog .any JQ Q (cpS S pt a0 c0 a1 c1 a2 c2 a3 c3) 6 #[true, true, true, true, true, true, true, false, true, true, true, false, false, true, true, false, false, false] ⟨#[A0, .pointer (some ⟨pt, 0, none⟩), .pointer (some ⟨rt, 0, none⟩), b0, .pointer (some ⟨pt, 0, none⟩), .slice a0 S.l.length c0, v0, .slice (some ⟨g1, 0, none⟩) 0 0, .pointer (some ⟨pt, 1, none⟩), .slice a1 S.T.length c1, undef, .slice (some ⟨g2, 0, none⟩) 0 0, .pointer (some ⟨pt, 2, none⟩), .slice a2 S.L.length c2, undef, undef, .pointer (some ⟨pt, 3, none⟩), .slice a3 S.C.length c3, undef, undef], []⟩ w := by
 have hsz := hb.size
 refine wpAnyH_ready (rs := [7, 12]) (by as_aux_lemma => kernel_rfl) (by simp) ?_
 refine AllReadyH.cons (o := Jds) rfl (fun K hK => ?_) ?_
 ·obtain ⟨i0, hi, hz0, hz1, hz2⟩ := info_parts Zn
  have hoi : w.ownsRow W.heap.size 86 3 (.slice (some ⟨g1, 0, none⟩) 0 0) 0 [] := ho.1.2.1
  refine JH rfl (.tmp 7) (.tmp 9) 25 rfl W.heap.size 86 i0 (.agg #[.string ⟨#[]⟩, int i64 0, int i64 0]) 3 32 Tryz.underlying25 hi hz0 hz1 hz2 rfl (by decide) g1 rfl hoi a1 S.T.length c1 (taV S.T) rfl (E.hR w hb).2.1.src E.hn.2.1 (by decide) hsz ?_
  intro v' w' k1 k2 k3
  have hb2 : Below W.heap.size W w' := hb.grown k2 hsz (fun j hj => by injection hj with hj; subst hj; exact (hoi.lt _ rfl).1)
  have ho2 := ho.more2 k1 k2 k3
  refine hK.out _ _ (E.hS _ hb2) (fun _ => ?_)
  clear hK K
  simp only [sq]
  exact VQ E b0 v0 _ v' g2 _ hb2 ho2
 refine AllReadyH.cons (o := Zz) rfl (fun K hK => ?_) AllReadyH.nil
 have hb2 : Below W.heap.size W (w.alloc (.cells #[] 90)) := hb.alloc hsz _
 have ho2 := ho.new4 hsz 90 8
 go_simp
 refine hK.out _ _ (E.hS _ hb2) (fun _ => ?_)
 clear hK K
 try simp only [s1, s2, s3]
 exact KA E b0 v0 g1 g2 w.heap.size _ hb2 ho2
theorem GL {S : Sta} {Q : Exit → Act → World → Prop} {A0 : Value} {pt rt : Nat} {a0 : Option Addr} {c0 : Nat} {a1 : Option Addr} {c1 : Nat} {a2 : Option Addr} {c2 : Nat} {a3 : Option Addr} {c3 : Nat} {W : World} (E : CpEnv S Q A0 pt rt a0 c0 a1 c1 a2 c2 a3 c3 W) (b0 v0 : Value) (g1 : Nat) (g3 : Nat) (w : World) (hb : Below W.heap.size W w) (ho : Own4 w W.heap.size (some ⟨v0, 3, 1, S.l.length, Je S.l⟩) (some ⟨.slice (some ⟨g1, 0, none⟩) 0 0, 86, 3, 0, []⟩) none (some ⟨.slice (some ⟨g3, 0, none⟩) 0 0, 90, 8, 0, []⟩)) :
  wpAnyH Tryz.prog .any JQ Q (cpS S pt a0 c0 a1 c1 a2 c2 a3 c3) 6 #[true, true, true, true, true, true, true, false, false, true, true, false, true, true, true, false, false, false] ⟨#[A0, .pointer (some ⟨pt, 0, none⟩), .pointer (some ⟨rt, 0, none⟩), b0, .pointer (some ⟨pt, 0, none⟩), .slice a0 S.l.length c0, v0, .slice (some ⟨g1, 0, none⟩) 0 0, .pointer (some ⟨pt, 1, none⟩), .slice a1 S.T.length c1, undef, undef, .pointer (some ⟨pt, 2, none⟩), .slice a2 S.L.length c2, undef, .slice (some ⟨g3, 0, none⟩) 0 0, .pointer (some ⟨pt, 3, none⟩), .slice a3 S.C.length c3, undef, undef], []⟩ w := by
 have hsz := hb.size
 refine wpAnyH_ready (rs := [7, 8]) (by as_aux_lemma => kernel_rfl) (by simp) ?_
 refine AllReadyH.cons (o := Jds) rfl (fun K hK => ?_) ?_
 ·obtain ⟨i0, hi, hz0, hz1, hz2⟩ := info_parts Zn
  have hoi : w.ownsRow W.heap.size 86 3 (.slice (some ⟨g1, 0, none⟩) 0 0) 0 [] := ho.1.2.1
  refine JH rfl (.tmp 7) (.tmp 9) 25 rfl W.heap.size 86 i0 (.agg #[.string ⟨#[]⟩, int i64 0, int i64 0]) 3 32 Tryz.underlying25 hi hz0 hz1 hz2 rfl (by decide) g1 rfl hoi a1 S.T.length c1 (taV S.T) rfl (E.hR w hb).2.1.src E.hn.2.1 (by decide) hsz ?_
  intro v' w' k1 k2 k3
  have hb2 : Below W.heap.size W w' := hb.grown k2 hsz (fun j hj => by injection hj with hj; subst hj; exact (hoi.lt _ rfl).1)
  have ho2 := ho.more2 k1 k2 k3
  refine hK.out _ _ (E.hS _ hb2) (fun _ => ?_)
  clear hK K
  simp only [sq]
  exact Yj E b0 v0 _ v' g3 _ hb2 ho2
 refine AllReadyH.cons (o := KN) rfl (fun K hK => ?_) AllReadyH.nil
 have hb2 : Below W.heap.size W (w.alloc (.cells #[] 88)) := hb.alloc hsz _
 have ho2 := ho.new3 hsz 88 6
 go_simp
 refine hK.out _ _ (E.hS _ hb2) (fun _ => ?_)
 clear hK K
 try simp only [s1, s2, s3]
 exact KA E b0 v0 g1 w.heap.size g3 _ hb2 ho2
theorem GM {S : Sta} {Q : Exit → Act → World → Prop} {A0 : Value} {pt rt : Nat} {a0 : Option Addr} {c0 : Nat} {a1 : Option Addr} {c1 : Nat} {a2 : Option Addr} {c2 : Nat} {a3 : Option Addr} {c3 : Nat} {W : World} (E : CpEnv S Q A0 pt rt a0 c0 a1 c1 a2 c2 a3 c3 W) (b0 v0 : Value) (g2 : Nat) (g3 : Nat) (w : World) (hb : Below W.heap.size W w) (ho : Own4 w W.heap.size (some ⟨v0, 3, 1, S.l.length, Je S.l⟩) none (some ⟨.slice (some ⟨g2, 0, none⟩) 0 0, 88, 6, 0, []⟩) (some ⟨.slice (some ⟨g3, 0, none⟩) 0 0, 90, 8, 0, []⟩)) :
  wpAnyH Tryz.prog .any JQ Q (cpS S pt a0 c0 a1 c1 a2 c2 a3 c3) 6 #[true, true, true, true, false, true, true, false, true, true, true, false, true, true, true, false, false, false] ⟨#[A0, .pointer (some ⟨pt, 0, none⟩), .pointer (some ⟨rt, 0, none⟩), b0, .pointer (some ⟨pt, 0, none⟩), .slice a0 S.l.length c0, v0, undef, .pointer (some ⟨pt, 1, none⟩), .slice a1 S.T.length c1, undef, .slice (some ⟨g2, 0, none⟩) 0 0, .pointer (some ⟨pt, 2, none⟩), .slice a2 S.L.length c2, undef, .slice (some ⟨g3, 0, none⟩) 0 0, .pointer (some ⟨pt, 3, none⟩), .slice a3 S.C.length c3, undef, undef], []⟩ w := by
 have hsz := hb.size
 refine rd 4 GU (fun K hK => ?_)
 have hb2 : Below W.heap.size W (w.alloc (.cells #[] 86)) := hb.alloc hsz _
 have ho2 := ho.new2 hsz 86 3
 go_simp
 refine hK.out _ _ (E.hS _ hb2) (fun _ => ?_)
 clear hK K
 try simp only [s1, s2, s3]
 exact KA E b0 v0 w.heap.size g2 g3 _ hb2 ho2
theorem Ym {S : Sta} {Q : Exit → Act → World → Prop} {A0 : Value} {pt rt : Nat} {a0 : Option Addr} {c0 : Nat} {a1 : Option Addr} {c1 : Nat} {a2 : Option Addr} {c2 : Nat} {a3 : Option Addr} {c3 : Nat} {W : World} (E : CpEnv S Q A0 pt rt a0 c0 a1 c1 a2 c2 a3 c3 W) (b0 v0 : Value) (g1 : Nat) (w : World) (hb : Below W.heap.size W w) (ho : Own4 w W.heap.size (some ⟨v0, 3, 1, S.l.length, Je S.l⟩) (some ⟨.slice (some ⟨g1, 0, none⟩) 0 0, 86, 3, 0, []⟩) none none) :
  wpAnyH Tryz.prog .any JQ Q (cpS S pt a0 c0 a1 c1 a2 c2 a3 c3) 7 #[true, true, true, true, true, true, true, false, false, true, true, false, false, true, true, false, false, false] ⟨#[A0, .pointer (some ⟨pt, 0, none⟩), .pointer (some ⟨rt, 0, none⟩), b0, .pointer (some ⟨pt, 0, none⟩), .slice a0 S.l.length c0, v0, .slice (some ⟨g1, 0, none⟩) 0 0, .pointer (some ⟨pt, 1, none⟩), .slice a1 S.T.length c1, undef, undef, .pointer (some ⟨pt, 2, none⟩), .slice a2 S.L.length c2, undef, undef, .pointer (some ⟨pt, 3, none⟩), .slice a3 S.C.length c3, undef, undef], []⟩ w := by
 have hsz := hb.size
 refine wpAnyH_ready (rs := [7, 8, 12]) (by as_aux_lemma => kernel_rfl) (by simp) ?_
 refine AllReadyH.cons (o := Jds) rfl (fun K hK => ?_) ?_
 ·obtain ⟨i0, hi, hz0, hz1, hz2⟩ := info_parts Zn
  have hoi : w.ownsRow W.heap.size 86 3 (.slice (some ⟨g1, 0, none⟩) 0 0) 0 [] := ho.1.2.1
  refine JH rfl (.tmp 7) (.tmp 9) 25 rfl W.heap.size 86 i0 (.agg #[.string ⟨#[]⟩, int i64 0, int i64 0]) 3 32 Tryz.underlying25 hi hz0 hz1 hz2 rfl (by decide) g1 rfl hoi a1 S.T.length c1 (taV S.T) rfl (E.hR w hb).2.1.src E.hn.2.1 (by decide) hsz ?_
  intro v' w' k1 k2 k3
  have hb2 : Below W.heap.size W w' := hb.grown k2 hsz (fun j hj => by injection hj with hj; subst hj; exact (hoi.lt _ rfl).1)
  have ho2 := ho.more2 k1 k2 k3
  refine hK.out _ _ (E.hS _ hb2) (fun _ => ?_)
  clear hK K
  simp only [sq]
  exact Jcy E b0 v0 _ v' _ hb2 ho2
 refine AllReadyH.cons (o := KN) rfl (fun K hK => ?_) ?_
 ·have hb2 : Below W.heap.size W (w.alloc (.cells #[] 88)) := hb.alloc hsz _
  have ho2 := ho.new3 hsz 88 6
  go_simp
  refine hK.out _ _ (E.hS _ hb2) (fun _ => ?_)
  clear hK K
  try simp only [s1, s2, s3]
  exact GK E b0 v0 g1 w.heap.size _ hb2 ho2
 refine AllReadyH.cons (o := Zz) rfl (fun K hK => ?_) AllReadyH.nil
 have hb2 : Below W.heap.size W (w.alloc (.cells #[] 90)) := hb.alloc hsz _
 have ho2 := ho.new4 hsz 90 8
 go_simp
 refine hK.out _ _ (E.hS _ hb2) (fun _ => ?_)
 clear hK K
 try simp only [s1, s2, s3]
 exact GL E b0 v0 g1 w.heap.size _ hb2 ho2
theorem Ys {S : Sta} {Q : Exit → Act → World → Prop} {A0 : Value} {pt rt : Nat} {a0 : Option Addr} {c0 : Nat} {a1 : Option Addr} {c1 : Nat} {a2 : Option Addr} {c2 : Nat} {a3 : Option Addr} {c3 : Nat} {W : World} (E : CpEnv S Q A0 pt rt a0 c0 a1 c1 a2 c2 a3 c3 W) (b0 v0 : Value) (g2 : Nat) (w : World) (hb : Below W.heap.size W w) (ho : Own4 w W.heap.size (some ⟨v0, 3, 1, S.l.length, Je S.l⟩) none (some ⟨.slice (some ⟨g2, 0, none⟩) 0 0, 88, 6, 0, []⟩) none) :
  wpAnyH Tryz.prog .any JQ Q (cpS S pt a0 c0 a1 c1 a2 c2 a3 c3) 7 #[true, true, true, true, false, true, true, false, true, true, true, false, false, true, true, false, false, false] ⟨#[A0, .pointer (some ⟨pt, 0, none⟩), .pointer (some ⟨rt, 0, none⟩), b0, .pointer (some ⟨pt, 0, none⟩), .slice a0 S.l.length c0, v0, undef, .pointer (some ⟨pt, 1, none⟩), .slice a1 S.T.length c1, undef, .slice (some ⟨g2, 0, none⟩) 0 0, .pointer (some ⟨pt, 2, none⟩), .slice a2 S.L.length c2, undef, undef, .pointer (some ⟨pt, 3, none⟩), .slice a3 S.C.length c3, undef, undef], []⟩ w := by
 have hsz := hb.size
 refine wpAnyH_ready (rs := [4, 12]) (by as_aux_lemma => kernel_rfl) (by simp) ?_
 refine AllReadyH.cons (o := GU) rfl (fun K hK => ?_) ?_
 ·have hb2 : Below W.heap.size W (w.alloc (.cells #[] 86)) := hb.alloc hsz _
  have ho2 := ho.new2 hsz 86 3
  go_simp
  refine hK.out _ _ (E.hS _ hb2) (fun _ => ?_)
  clear hK K
  try simp only [s1, s2, s3]
  exact GK E b0 v0 w.heap.size g2 _ hb2 ho2
 refine AllReadyH.cons (o := Zz) rfl (fun K hK => ?_) AllReadyH.nil
 have hb2 : Below W.heap.size W (w.alloc (.cells #[] 90)) := hb.alloc hsz _
 have ho2 := ho.new4 hsz 90 8
 go_simp
 refine hK.out _ _ (E.hS _ hb2) (fun _ => ?_)
 clear hK K
 try simp only [s1, s2, s3]
 exact GM E b0 v0 g2 w.heap.size _ hb2 ho2
theorem VJ {S : Sta} {Q : Exit → Act → World → Prop} {A0 : Value} {pt rt : Nat} {a0 : Option Addr} {c0 : Nat} {a1 : Option Addr} {c1 : Nat} {a2 : Option Addr} {c2 : Nat} {a3 : Option Addr} {c3 : Nat} {W : World} (E : CpEnv S Q A0 pt rt a0 c0 a1 c1 a2 c2 a3 c3 W) (b0 v0 : Value) (g3 : Nat) (w : World) (hb : Below W.heap.size W w) (ho : Own4 w W.heap.size (some ⟨v0, 3, 1, S.l.length, Je S.l⟩) none none (some ⟨.slice (some ⟨g3, 0, none⟩) 0 0, 90, 8, 0, []⟩)) :
  wpAnyH Tryz.prog .any JQ Q (cpS S pt a0 c0 a1 c1 a2 c2 a3 c3) 7 #[true, true, true, true, false, true, true, false, false, true, true, false, true, true, true, false, false, false] ⟨#[A0, .pointer (some ⟨pt, 0, none⟩), .pointer (some ⟨rt, 0, none⟩), b0, .pointer (some ⟨pt, 0, none⟩), .slice a0 S.l.length c0, v0, undef, .pointer (some ⟨pt, 1, none⟩), .slice a1 S.T.length c1, undef, undef, .pointer (some ⟨pt, 2, none⟩), .slice a2 S.L.length c2, undef, .slice (some ⟨g3, 0, none⟩) 0 0, .pointer (some ⟨pt, 3, none⟩), .slice a3 S.C.length c3, undef, undef], []⟩ w := by
 have hsz := hb.size
 refine wpAnyH_ready (rs := [4, 8]) (by as_aux_lemma => kernel_rfl) (by simp) ?_
 refine AllReadyH.cons (o := GU) rfl (fun K hK => ?_) ?_
 ·have hb2 : Below W.heap.size W (w.alloc (.cells #[] 86)) := hb.alloc hsz _
  have ho2 := ho.new2 hsz 86 3
  go_simp
  refine hK.out _ _ (E.hS _ hb2) (fun _ => ?_)
  clear hK K
  try simp only [s1, s2, s3]
  exact GL E b0 v0 w.heap.size g3 _ hb2 ho2
 refine AllReadyH.cons (o := KN) rfl (fun K hK => ?_) AllReadyH.nil
 have hb2 : Below W.heap.size W (w.alloc (.cells #[] 88)) := hb.alloc hsz _
 have ho2 := ho.new3 hsz 88 6
 go_simp
 refine hK.out _ _ (E.hS _ hb2) (fun _ => ?_)
 clear hK K
 try simp only [s1, s2, s3]
 exact GM E b0 v0 w.heap.size g3 _ hb2 ho2
theorem Jb2 {S : Sta} {Q : Exit → Act → World → Prop} {A0 : Value} {pt rt : Nat} {a0 : Option Addr} {c0 : Nat} {a1 : Option Addr} {c1 : Nat} {a2 : Option Addr} {c2 : Nat} {a3 : Option Addr} {c3 : Nat} {W : World} (E : CpEnv S Q A0 pt rt a0 c0 a1 c1 a2 c2 a3 c3 W) (b0 v0 : Value) (w : World) (hb : Below W.heap.size W w) (ho : Own4 w W.heap.size (some ⟨v0, 3, 1, S.l.length, Je S.l⟩) none none none) :
  wpAnyH Tryz.prog .any JQ Q (cpS S pt a0 c0 a1 c1 a2 c2 a3 c3) 8 #[true, true, true, true, false, true, true, false, false, true, true, false, false, true, true, false, false, false] ⟨#[A0, .pointer (some ⟨pt, 0, none⟩), .pointer (some ⟨rt, 0, none⟩), b0, .pointer (some ⟨pt, 0, none⟩), .slice a0 S.l.length c0, v0, undef, .pointer (some ⟨pt, 1, none⟩), .slice a1 S.T.length c1, undef, undef, .pointer (some ⟨pt, 2, none⟩), .slice a2 S.L.length c2, undef, undef, .pointer (some ⟨pt, 3, none⟩), .slice a3 S.C.length c3, undef, undef], []⟩ w := by
 have hsz := hb.size
 refine wpAnyH_ready (rs := [4, 8, 12]) (by as_aux_lemma => kernel_rfl) (by simp) ?_
 refine AllReadyH.cons (o := GU) rfl (fun K hK => ?_) ?_
 ·have hb2 : Below W.heap.size W (w.alloc (.cells #[] 86)) := hb.alloc hsz _
  have ho2 := ho.new2 hsz 86 3
  go_simp
  refine hK.out _ _ (E.hS _ hb2) (fun _ => ?_)
  clear hK K
  try simp only [s1, s2, s3]
  exact Ym E b0 v0 w.heap.size _ hb2 ho2
 refine AllReadyH.cons (o := KN) rfl (fun K hK => ?_) ?_
 ·have hb2 : Below W.heap.size W (w.alloc (.cells #[] 88)) := hb.alloc hsz _
  have ho2 := ho.new3 hsz 88 6
  go_simp
  refine hK.out _ _ (E.hS _ hb2) (fun _ => ?_)
  clear hK K
  try simp only [s1, s2, s3]
  exact Ys E b0 v0 w.heap.size _ hb2 ho2
 refine AllReadyH.cons (o := Zz) rfl (fun K hK => ?_) AllReadyH.nil
 have hb2 : Below W.heap.size W (w.alloc (.cells #[] 90)) := hb.alloc hsz _
 have ho2 := ho.new4 hsz 90 8
 go_simp
 refine hK.out _ _ (E.hS _ hb2) (fun _ => ?_)
 clear hK K
 try simp only [s1, s2, s3]
 exact VJ E b0 v0 w.heap.size _ hb2 ho2
theorem Kv {S : Sta} {Q : Exit → Act → World → Prop} {A0 : Value} {pt rt : Nat} {a0 : Option Addr} {c0 : Nat} {a1 : Option Addr} {c1 : Nat} {a2 : Option Addr} {c2 : Nat} {a3 : Option Addr} {c3 : Nat} {W : World} (E : CpEnv S Q A0 pt rt a0 c0 a1 c1 a2 c2 a3 c3 W) (g0 : Nat) (g1 : Nat) (g2 : Nat) (g3 : Nat) (w : World) (hb : Below W.heap.size W w) (ho : Own4 w W.heap.size (some ⟨.slice (some ⟨g0, 0, none⟩) 0 0, 3, 1, 0, []⟩) (some ⟨.slice (some ⟨g1, 0, none⟩) 0 0, 86, 3, 0, []⟩) (some ⟨.slice (some ⟨g2, 0, none⟩) 0 0, 88, 6, 0, []⟩) (some ⟨.slice (some ⟨g3, 0, none⟩) 0 0, 90, 8, 0, []⟩)) :
  wpAnyH Tryz.prog .any JQ Q (cpS S pt a0 c0 a1 c1 a2 c2 a3 c3) 6 #[true, true, true, false, true, true, true, false, true, true, true, false, true, true, true, false, false, false] ⟨#[A0, .pointer (some ⟨pt, 0, none⟩), .pointer (some ⟨rt, 0, none⟩), .slice (some ⟨g0, 0, none⟩) 0 0, .pointer (some ⟨pt, 0, none⟩), .slice a0 S.l.length c0, undef, .slice (some ⟨g1, 0, none⟩) 0 0, .pointer (some ⟨pt, 1, none⟩), .slice a1 S.T.length c1, undef, .slice (some ⟨g2, 0, none⟩) 0 0, .pointer (some ⟨pt, 2, none⟩), .slice a2 S.L.length c2, undef, .slice (some ⟨g3, 0, none⟩) 0 0, .pointer (some ⟨pt, 3, none⟩), .slice a3 S.C.length c3, undef, undef], []⟩ w := by
 have hsz := hb.size
 refine rd 3 YN (fun K hK => ?_)
 obtain ⟨i0, hi, hz0, hz1, hz2⟩ := info_parts Zo
 have hoi : w.ownsRow W.heap.size 3 1 (.slice (some ⟨g0, 0, none⟩) 0 0) 0 [] := ho.1.1
 refine JH rfl (.tmp 3) (.tmp 5) 24 rfl W.heap.size 3 i0 (int i64 0) 1 8 Tryz.underlying24 hi hz0 hz1 hz2 rfl (by decide) g0 rfl hoi a0 S.l.length c0 (Je S.l) rfl (E.hR w hb).1.src E.hn.1 (by decide) hsz ?_
 intro v' w' k1 k2 k3
 have hb2 : Below W.heap.size W w' := hb.grown k2 hsz (fun j hj => by injection hj with hj; subst hj; exact (hoi.lt _ rfl).1)
 have ho2 := ho.more1 k1 k2 k3
 refine hK.out _ _ (E.hS _ hb2) (fun _ => ?_)
 clear hK K
 simp only [sq]
 exact KA E _ v' g1 g2 g3 _ hb2 ho2
theorem GX {S : Sta} {Q : Exit → Act → World → Prop} {A0 : Value} {pt rt : Nat} {a0 : Option Addr} {c0 : Nat} {a1 : Option Addr} {c1 : Nat} {a2 : Option Addr} {c2 : Nat} {a3 : Option Addr} {c3 : Nat} {W : World} (E : CpEnv S Q A0 pt rt a0 c0 a1 c1 a2 c2 a3 c3 W) (g0 : Nat) (g1 : Nat) (g2 : Nat) (w : World) (hb : Below W.heap.size W w) (ho : Own4 w W.heap.size (some ⟨.slice (some ⟨g0, 0, none⟩) 0 0, 3, 1, 0, []⟩) (some ⟨.slice (some ⟨g1, 0, none⟩) 0 0, 86, 3, 0, []⟩) (some ⟨.slice (some ⟨g2, 0, none⟩) 0 0, 88, 6, 0, []⟩) none) :
  wpAnyH Tryz.prog .any JQ Q (cpS S pt a0 c0 a1 c1 a2 c2 a3 c3) 7 #[true, true, true, false, true, true, true, false, true, true, true, false, false, true, true, false, false, false] ⟨#[A0, .pointer (some ⟨pt, 0, none⟩), .pointer (some ⟨rt, 0, none⟩), .slice (some ⟨g0, 0, none⟩) 0 0, .pointer (some ⟨pt, 0, none⟩), .slice a0 S.l.length c0, undef, .slice (some ⟨g1, 0, none⟩) 0 0, .pointer (some ⟨pt, 1, none⟩), .slice a1 S.T.length c1, undef, .slice (some ⟨g2, 0, none⟩) 0 0, .pointer (some ⟨pt, 2, none⟩), .slice a2 S.L.length c2, undef, undef, .pointer (some ⟨pt, 3, none⟩), .slice a3 S.C.length c3, undef, undef], []⟩ w := by
 have hsz := hb.size
 refine wpAnyH_ready (rs := [3, 12]) (by as_aux_lemma => kernel_rfl) (by simp) ?_
 refine AllReadyH.cons (o := YN) rfl (fun K hK => ?_) ?_
 ·obtain ⟨i0, hi, hz0, hz1, hz2⟩ := info_parts Zo
  have hoi : w.ownsRow W.heap.size 3 1 (.slice (some ⟨g0, 0, none⟩) 0 0) 0 [] := ho.1.1
  refine JH rfl (.tmp 3) (.tmp 5) 24 rfl W.heap.size 3 i0 (int i64 0) 1 8 Tryz.underlying24 hi hz0 hz1 hz2 rfl (by decide) g0 rfl hoi a0 S.l.length c0 (Je S.l) rfl (E.hR w hb).1.src E.hn.1 (by decide) hsz ?_
  intro v' w' k1 k2 k3
  have hb2 : Below W.heap.size W w' := hb.grown k2 hsz (fun j hj => by injection hj with hj; subst hj; exact (hoi.lt _ rfl).1)
  have ho2 := ho.more1 k1 k2 k3
  refine hK.out _ _ (E.hS _ hb2) (fun _ => ?_)
  clear hK K
  simp only [sq]
  exact GK E _ v' g1 g2 _ hb2 ho2
 refine AllReadyH.cons (o := Zz) rfl (fun K hK => ?_) AllReadyH.nil
 have hb2 : Below W.heap.size W (w.alloc (.cells #[] 90)) := hb.alloc hsz _
 have ho2 := ho.new4 hsz 90 8
 go_simp
 refine hK.out _ _ (E.hS _ hb2) (fun _ => ?_)
 clear hK K
 try simp only [s1, s2, s3]
 exact Kv E g0 g1 g2 w.heap.size _ hb2 ho2
theorem GO {S : Sta} {Q : Exit → Act → World → Prop} {A0 : Value} {pt rt : Nat} {a0 : Option Addr} {c0 : Nat} {a1 : Option Addr} {c1 : Nat} {a2 : Option Addr} {c2 : Nat} {a3 : Option Addr} {c3 : Nat} {W : World} (E : CpEnv S Q A0 pt rt a0 c0 a1 c1 a2 c2 a3 c3 W) (g0 : Nat) (g1 : Nat) (g3 : Nat) (w : World) (hb : Below W.heap.size W w) (ho : Own4 w W.heap.size (some ⟨.slice (some ⟨g0, 0, none⟩) 0 0, 3, 1, 0, []⟩) (some ⟨.slice (some ⟨g1, 0, none⟩) 0 0, 86, 3, 0, []⟩) none (some ⟨.slice (some ⟨g3, 0, none⟩) 0 0, 90, 8, 0, []⟩)) :
  wpAnyH Tryz.prog .any JQ Q (cpS S pt a0 c0 a1 c1 a2 c2 a3 c3) 7 #[true, true, true, false, true, true, true, false, false, true, true, false, true, true, true, false, false, false] ⟨#[A0, .pointer (some ⟨pt, 0, none⟩), .pointer (some ⟨rt, 0, none⟩), .slice (some ⟨g0, 0, none⟩) 0 0, .pointer (some ⟨pt, 0, none⟩), .slice a0 S.l.length c0, undef, .slice (some ⟨g1, 0, none⟩) 0 0, .pointer (some ⟨pt, 1, none⟩), .slice a1 S.T.length c1, undef, undef, .pointer (some ⟨pt, 2, none⟩), .slice a2 S.L.length c2, undef, .slice (some ⟨g3, 0, none⟩) 0 0, .pointer (some ⟨pt, 3, none⟩), .slice a3 S.C.length c3, undef, undef], []⟩ w := by
 have hsz := hb.size
 refine wpAnyH_ready (rs := [3, 8]) (by as_aux_lemma => kernel_rfl) (by simp) ?_
 refine AllReadyH.cons (o := YN) rfl (fun K hK => ?_) ?_
 ·obtain ⟨i0, hi, hz0, hz1, hz2⟩ := info_parts Zo
  have hoi : w.ownsRow W.heap.size 3 1 (.slice (some ⟨g0, 0, none⟩) 0 0) 0 [] := ho.1.1
  refine JH rfl (.tmp 3) (.tmp 5) 24 rfl W.heap.size 3 i0 (int i64 0) 1 8 Tryz.underlying24 hi hz0 hz1 hz2 rfl (by decide) g0 rfl hoi a0 S.l.length c0 (Je S.l) rfl (E.hR w hb).1.src E.hn.1 (by decide) hsz ?_
  intro v' w' k1 k2 k3
  have hb2 : Below W.heap.size W w' := hb.grown k2 hsz (fun j hj => by injection hj with hj; subst hj; exact (hoi.lt _ rfl).1)
  have ho2 := ho.more1 k1 k2 k3
  refine hK.out _ _ (E.hS _ hb2) (fun _ => ?_)
  clear hK K
  simp only [sq]
  exact GL E _ v' g1 g3 _ hb2 ho2
 refine AllReadyH.cons (o := KN) rfl (fun K hK => ?_) AllReadyH.nil
 have hb2 : Below W.heap.size W (w.alloc (.cells #[] 88)) := hb.alloc hsz _
 have ho2 := ho.new3 hsz 88 6
 go_simp
 refine hK.out _ _ (E.hS _ hb2) (fun _ => ?_)
 clear hK K
 try simp only [s1, s2, s3]
 exact Kv E g0 g1 w.heap.size g3 _ hb2 ho2
theorem GY {S : Sta} {Q : Exit → Act → World → Prop} {A0 : Value} {pt rt : Nat} {a0 : Option Addr} {c0 : Nat} {a1 : Option Addr} {c1 : Nat} {a2 : Option Addr} {c2 : Nat} {a3 : Option Addr} {c3 : Nat} {W : World} (E : CpEnv S Q A0 pt rt a0 c0 a1 c1 a2 c2 a3 c3 W) (g0 : Nat) (g2 : Nat) (g3 : Nat) (w : World) (hb : Below W.heap.size W w) (ho : Own4 w W.heap.size (some ⟨.slice (some ⟨g0, 0, none⟩) 0 0, 3, 1, 0, []⟩) none (some ⟨.slice (some ⟨g2, 0, none⟩) 0 0, 88, 6, 0, []⟩) (some ⟨.slice (some ⟨g3, 0, none⟩) 0 0, 90, 8, 0, []⟩)) :
  wpAnyH Tryz.prog .any JQ Q (cpS S pt a0 c0 a1 c1 a2 c2 a3 c3) 7 #[true, true, true, false, false, true, true, false, true, true, true, false, true, true, true, false, false, false] ⟨#[A0, .pointer (some ⟨pt, 0, none⟩), .pointer (some ⟨rt, 0, none⟩), .slice (some ⟨g0, 0, none⟩) 0 0, .pointer (some ⟨pt, 0, none⟩), .slice a0 S.l.length c0, undef, undef, .pointer (some ⟨pt, 1, none⟩), .slice a1 S.T.length c1, undef, .slice (some ⟨g2, 0, none⟩) 0 0, .pointer (some ⟨pt, 2, none⟩), .slice a2 S.L.length c2, undef, .slice (some ⟨g3, 0, none⟩) 0 0, .pointer (some ⟨pt, 3, none⟩), .slice a3 S.C.length c3, undef, undef], []⟩ w := by
 have hsz := hb.size
 refine wpAnyH_ready (rs := [3, 4]) (by as_aux_lemma => kernel_rfl) (by simp) ?_
 refine AllReadyH.cons (o := YN) rfl (fun K hK => ?_) ?_
 ·obtain ⟨i0, hi, hz0, hz1, hz2⟩ := info_parts Zo
  have hoi : w.ownsRow W.heap.size 3 1 (.slice (some ⟨g0, 0, none⟩) 0 0) 0 [] := ho.1.1
  refine JH rfl (.tmp 3) (.tmp 5) 24 rfl W.heap.size 3 i0 (int i64 0) 1 8 Tryz.underlying24 hi hz0 hz1 hz2 rfl (by decide) g0 rfl hoi a0 S.l.length c0 (Je S.l) rfl (E.hR w hb).1.src E.hn.1 (by decide) hsz ?_
  intro v' w' k1 k2 k3
  have hb2 : Below W.heap.size W w' := hb.grown k2 hsz (fun j hj => by injection hj with hj; subst hj; exact (hoi.lt _ rfl).1)
  have ho2 := ho.more1 k1 k2 k3
  refine hK.out _ _ (E.hS _ hb2) (fun _ => ?_)
  clear hK K
  simp only [sq]
  exact GM E _ v' g2 g3 _ hb2 ho2
 refine AllReadyH.cons (o := GU) rfl (fun K hK => ?_) AllReadyH.nil
 have hb2 : Below W.heap.size W (w.alloc (.cells #[] 86)) := hb.alloc hsz _
 have ho2 := ho.new2 hsz 86 3
 go_simp
 refine hK.out _ _ (E.hS _ hb2) (fun _ => ?_)
 clear hK K
 try simp only [s1, s2, s3]
 exact Kv E g0 w.heap.size g2 g3 _ hb2 ho2
theorem G2 {S : Sta} {Q : Exit → Act → World → Prop} {A0 : Value} {pt rt : Nat} {a0 : Option Addr} {c0 : Nat} {a1 : Option Addr} {c1 : Nat} {a2 : Option Addr} {c2 : Nat} {a3 : Option Addr} {c3 : Nat} {W : World} (E : CpEnv S Q A0 pt rt a0 c0 a1 c1 a2 c2 a3 c3 W) (g1 : Nat) (g2 : Nat) (g3 : Nat) (w : World) (hb : Below W.heap.size W w) (ho : Own4 w W.heap.size none (some ⟨.slice (some ⟨g1, 0, none⟩) 0 0, 86, 3, 0, []⟩) (some ⟨.slice (some ⟨g2, 0, none⟩) 0 0, 88, 6, 0, []⟩) (some ⟨.slice (some ⟨g3, 0, none⟩) 0 0, 90, 8, 0, []⟩)) :
  wpAnyH Tryz.prog .any JQ Q (cpS S pt a0 c0 a1 c1 a2 c2 a3 c3) 7 #[false, true, true, false, true, true, true, false, true, true, true, false, true, true, true, false, false, false] ⟨#[A0, .pointer (some ⟨pt, 0, none⟩), .pointer (some ⟨rt, 0, none⟩), undef, .pointer (some ⟨pt, 0, none⟩), .slice a0 S.l.length c0, undef, .slice (some ⟨g1, 0, none⟩) 0 0, .pointer (some ⟨pt, 1, none⟩), .slice a1 S.T.length c1, undef, .slice (some ⟨g2, 0, none⟩) 0 0, .pointer (some ⟨pt, 2, none⟩), .slice a2 S.L.length c2, undef, .slice (some ⟨g3, 0, none⟩) 0 0, .pointer (some ⟨pt, 3, none⟩), .slice a3 S.C.length c3, undef, undef], []⟩ w := by
 have hsz := hb.size
 refine rd 0 YR (fun K hK => ?_)
 have hb2 : Below W.heap.size W (w.alloc (.cells #[] 3)) := hb.alloc hsz _
 have ho2 := ho.new1 hsz 3 1
 go_simp
 refine hK.out _ _ (E.hS _ hb2) (fun _ => ?_)
 clear hK K
 try simp only [List.setIfInBounds_toArray, List.set_cons_zero]
 exact Kv E w.heap.size g1 g2 g3 _ hb2 ho2
theorem VK {S : Sta} {Q : Exit → Act → World → Prop} {A0 : Value} {pt rt : Nat} {a0 : Option Addr} {c0 : Nat} {a1 : Option Addr} {c1 : Nat} {a2 : Option Addr} {c2 : Nat} {a3 : Option Addr} {c3 : Nat} {W : World} (E : CpEnv S Q A0 pt rt a0 c0 a1 c1 a2 c2 a3 c3 W) (g0 : Nat) (g1 : Nat) (w : World) (hb : Below W.heap.size W w) (ho : Own4 w W.heap.size (some ⟨.slice (some ⟨g0, 0, none⟩) 0 0, 3, 1, 0, []⟩) (some ⟨.slice (some ⟨g1, 0, none⟩) 0 0, 86, 3, 0, []⟩) none none) :
  wpAnyH Tryz.prog .any JQ Q (cpS S pt a0 c0 a1 c1 a2 c2 a3 c3) 8 #[true, true, true, false, true, true, true, false, false, true, true, false, false, true, true, false, false, false] ⟨#[A0, .pointer (some ⟨pt, 0, none⟩), .pointer (some ⟨rt, 0, none⟩), .slice (some ⟨g0, 0, none⟩) 0 0, .pointer (some ⟨pt, 0, none⟩), .slice a0 S.l.length c0, undef, .slice (some ⟨g1, 0, none⟩) 0 0, .pointer (some ⟨pt, 1, none⟩), .slice a1 S.T.length c1, undef, undef, .pointer (some ⟨pt, 2, none⟩), .slice a2 S.L.length c2, undef, undef, .pointer (some ⟨pt, 3, none⟩), .slice a3 S.C.length c3, undef, undef], []⟩ w := by
 have hsz := hb.size
 refine wpAnyH_ready (rs := [3, 8, 12]) (by as_aux_lemma => kernel_rfl) (by simp) ?_
 refine AllReadyH.cons (o := YN) rfl (fun K hK => ?_) ?_
 ·obtain ⟨i0, hi, hz0, hz1, hz2⟩ := info_parts Zo
  have hoi : w.ownsRow W.heap.size 3 1 (.slice (some ⟨g0, 0, none⟩) 0 0) 0 [] := ho.1.1
  refine JH rfl (.tmp 3) (.tmp 5) 24 rfl W.heap.size 3 i0 (int i64 0) 1 8 Tryz.underlying24 hi hz0 hz1 hz2 rfl (by decide) g0 rfl hoi a0 S.l.length c0 (Je S.l) rfl (E.hR w hb).1.src E.hn.1 (by decide) hsz ?_
  intro v' w' k1 k2 k3
  have hb2 : Below W.heap.size W w' := hb.grown k2 hsz (fun j hj => by injection hj with hj; subst hj; exact (hoi.lt _ rfl).1)
  have ho2 := ho.more1 k1 k2 k3
  refine hK.out _ _ (E.hS _ hb2) (fun _ => ?_)
  clear hK K
  simp only [sq]
  exact Ym E _ v' g1 _ hb2 ho2
 refine AllReadyH.cons (o := KN) rfl (fun K hK => ?_) ?_
 ·have hb2 : Below W.heap.size W (w.alloc (.cells #[] 88)) := hb.alloc hsz _
  have ho2 := ho.new3 hsz 88 6
  go_simp
  refine hK.out _ _ (E.hS _ hb2) (fun _ => ?_)
  clear hK K
  try simp only [s1, s2, s3]
  exact GX E g0 g1 w.heap.size _ hb2 ho2
 refine AllReadyH.cons (o := Zz) rfl (fun K hK => ?_) AllReadyH.nil
 have hb2 : Below W.heap.size W (w.alloc (.cells #[] 90)) := hb.alloc hsz _
 have ho2 := ho.new4 hsz 90 8
 go_simp
 refine hK.out _ _ (E.hS _ hb2) (fun _ => ?_)
 clear hK K
 try simp only [s1, s2, s3]
 exact GO E g0 g1 w.heap.size _ hb2 ho2
theorem VG {S : Sta} {Q : Exit → Act → World → Prop} {A0 : Value} {pt rt : Nat} {a0 : Option Addr} {c0 : Nat} {a1 : Option Addr} {c1 : Nat} {a2 : Option Addr} {c2 : Nat} {a3 : Option Addr} {c3 : Nat} {W : World} (E : CpEnv S Q A0 pt rt a0 c0 a1 c1 a2 c2 a3 c3 W) (g0 : Nat) (g2 : Nat) (w : World) (hb : Below W.heap.size W w) (ho : Own4 w W.heap.size (some ⟨.slice (some ⟨g0, 0, none⟩) 0 0, 3, 1, 0, []⟩) none (some ⟨.slice (some ⟨g2, 0, none⟩) 0 0, 88, 6, 0, []⟩) none) :
  wpAnyH Tryz.prog .any JQ Q (cpS S pt a0 c0 a1 c1 a2 c2 a3 c3) 8 #[true, true, true, false, false, true, true, false, true, true, true, false, false, true, true, false, false, false] ⟨#[A0, .pointer (some ⟨pt, 0, none⟩), .pointer (some ⟨rt, 0, none⟩), .slice (some ⟨g0, 0, none⟩) 0 0, .pointer (some ⟨pt, 0, none⟩), .slice a0 S.l.length c0, undef, undef, .pointer (some ⟨pt, 1, none⟩), .slice a1 S.T.length c1, undef, .slice (some ⟨g2, 0, none⟩) 0 0, .pointer (some ⟨pt, 2, none⟩), .slice a2 S.L.length c2, undef, undef, .pointer (some ⟨pt, 3, none⟩), .slice a3 S.C.length c3, undef, undef], []⟩ w := by
 have hsz := hb.size
 refine wpAnyH_ready (rs := [3, 4, 12]) (by as_aux_lemma => kernel_rfl) (by simp) ?_
 refine AllReadyH.cons (o := YN) rfl (fun K hK => ?_) ?_
 ·obtain ⟨i0, hi, hz0, hz1, hz2⟩ := info_parts Zo
  have hoi : w.ownsRow W.heap.size 3 1 (.slice (some ⟨g0, 0, none⟩) 0 0) 0 [] := ho.1.1
  refine JH rfl (.tmp 3) (.tmp 5) 24 rfl W.heap.size 3 i0 (int i64 0) 1 8 Tryz.underlying24 hi hz0 hz1 hz2 rfl (by decide) g0 rfl hoi a0 S.l.length c0 (Je S.l) rfl (E.hR w hb).1.src E.hn.1 (by decide) hsz ?_
  intro v' w' k1 k2 k3
  have hb2 : Below W.heap.size W w' := hb.grown k2 hsz (fun j hj => by injection hj with hj; subst hj; exact (hoi.lt _ rfl).1)
  have ho2 := ho.more1 k1 k2 k3
  refine hK.out _ _ (E.hS _ hb2) (fun _ => ?_)
  clear hK K
  simp only [sq]
  exact Ys E _ v' g2 _ hb2 ho2
 refine AllReadyH.cons (o := GU) rfl (fun K hK => ?_) ?_
 ·have hb2 : Below W.heap.size W (w.alloc (.cells #[] 86)) := hb.alloc hsz _
  have ho2 := ho.new2 hsz 86 3
  go_simp
  refine hK.out _ _ (E.hS _ hb2) (fun _ => ?_)
  clear hK K
  try simp only [s1, s2, s3]
  exact GX E g0 w.heap.size g2 _ hb2 ho2
 refine AllReadyH.cons (o := Zz) rfl (fun K hK => ?_) AllReadyH.nil
 have hb2 : Below W.heap.size W (w.alloc (.cells #[] 90)) := hb.alloc hsz _
 have ho2 := ho.new4 hsz 90 8
 go_simp
 refine hK.out _ _ (E.hS _ hb2) (fun _ => ?_)
 clear hK K
 try simp only [s1, s2, s3]
 exact GY E g0 g2 w.heap.size _ hb2 ho2
theorem VS {S : Sta} {Q : Exit → Act → World → Prop} {A0 : Value} {pt rt : Nat} {a0 : Option Addr} {c0 : Nat} {a1 : Option Addr} {c1 : Nat} {a2 : Option Addr} {c2 : Nat} {a3 : Option Addr} {c3 : Nat} {W : World} (E : CpEnv S Q A0 pt rt a0 c0 a1 c1 a2 c2 a3 c3 W) (g1 : Nat) (g2 : Nat) (w : World) (hb : Below W.heap.size W w) (ho : Own4 w W.heap.size none (some ⟨.slice (some ⟨g1, 0, none⟩) 0 0, 86, 3, 0, []⟩) (some ⟨.slice (some ⟨g2, 0, none⟩) 0 0, 88, 6, 0, []⟩) none) :
  wpAnyH Tryz.prog .any JQ Q (cpS S pt a0 c0 a1 c1 a2 c2 a3 c3) 8 #[false, true, true, false, true, true, true, false, true, true, true, false, false, true, true, false, false, false] ⟨#[A0, .pointer (some ⟨pt, 0, none⟩), .pointer (some ⟨rt, 0, none⟩), undef, .pointer (some ⟨pt, 0, none⟩), .slice a0 S.l.length c0, undef, .slice (some ⟨g1, 0, none⟩) 0 0, .pointer (some ⟨pt, 1, none⟩), .slice a1 S.T.length c1, undef, .slice (some ⟨g2, 0, none⟩) 0 0, .pointer (some ⟨pt, 2, none⟩), .slice a2 S.L.length c2, undef, undef, .pointer (some ⟨pt, 3, none⟩), .slice a3 S.C.length c3, undef, undef], []⟩ w := by
 have hsz := hb.size
 refine wpAnyH_ready (rs := [0, 12]) (by as_aux_lemma => kernel_rfl) (by simp) ?_
 refine AllReadyH.cons (o := YR) rfl (fun K hK => ?_) ?_
 ·have hb2 : Below W.heap.size W (w.alloc (.cells #[] 3)) := hb.alloc hsz _
  have ho2 := ho.new1 hsz 3 1
  go_simp
  refine hK.out _ _ (E.hS _ hb2) (fun _ => ?_)
  clear hK K
  try simp only [List.setIfInBounds_toArray, List.set_cons_zero]
  exact GX E w.heap.size g1 g2 _ hb2 ho2
 refine AllReadyH.cons (o := Zz) rfl (fun K hK => ?_) AllReadyH.nil
 have hb2 : Below W.heap.size W (w.alloc (.cells #[] 90)) := hb.alloc hsz _
 have ho2 := ho.new4 hsz 90 8
 go_simp
 refine hK.out _ _ (E.hS _ hb2) (fun _ => ?_)
 clear hK K
 try simp only [s1, s2, s3]
 exact G2 E g1 g2 w.heap.size _ hb2 ho2
theorem Yx {S : Sta} {Q : Exit → Act → World → Prop} {A0 : Value} {pt rt : Nat} {a0 : Option Addr} {c0 : Nat} {a1 : Option Addr} {c1 : Nat} {a2 : Option Addr} {c2 : Nat} {a3 : Option Addr} {c3 : Nat} {W : World} (E : CpEnv S Q A0 pt rt a0 c0 a1 c1 a2 c2 a3 c3 W) (g0 : Nat) (g3 : Nat) (w : World) (hb : Below W.heap.size W w) (ho : Own4 w W.heap.size (some ⟨.slice (some ⟨g0, 0, none⟩) 0 0, 3, 1, 0, []⟩) none none (some ⟨.slice (some ⟨g3, 0, none⟩) 0 0, 90, 8, 0, []⟩)) :
  wpAnyH Tryz.prog .any JQ Q (cpS S pt a0 c0 a1 c1 a2 c2 a3 c3) 8 #[true, true, true, false, false, true, true, false, false, true, true, false, true, true, true, false, false, false] ⟨#[A0, .pointer (some ⟨pt, 0, none⟩), .pointer (some ⟨rt, 0, none⟩), .slice (some ⟨g0, 0, none⟩) 0 0, .pointer (some ⟨pt, 0, none⟩), .slice a0 S.l.length c0, undef, undef, .pointer (some ⟨pt, 1, none⟩), .slice a1 S.T.length c1, undef, undef, .pointer (some ⟨pt, 2, none⟩), .slice a2 S.L.length c2, undef, .slice (some ⟨g3, 0, none⟩) 0 0, .pointer (some ⟨pt, 3, none⟩), .slice a3 S.C.length c3, undef, undef], []⟩ w := by
 have hsz := hb.size
 refine wpAnyH_ready (rs := [3, 4, 8]) (by as_aux_lemma => kernel_rfl) (by simp) ?_
 refine AllReadyH.cons (o := YN) rfl (fun K hK => ?_) ?_
 ·obtain ⟨i0, hi, hz0, hz1, hz2⟩ := info_parts Zo
  have hoi : w.ownsRow W.heap.size 3 1 (.slice (some ⟨g0, 0, none⟩) 0 0) 0 [] := ho.1.1
  refine JH rfl (.tmp 3) (.tmp 5) 24 rfl W.heap.size 3 i0 (int i64 0) 1 8 Tryz.underlying24 hi hz0 hz1 hz2 rfl (by decide) g0 rfl hoi a0 S.l.length c0 (Je S.l) rfl (E.hR w hb).1.src E.hn.1 (by decide) hsz ?_
  intro v' w' k1 k2 k3
  have hb2 : Below W.heap.size W w' := hb.grown k2 hsz (fun j hj => by injection hj with hj; subst hj; exact (hoi.lt _ rfl).1)
  have ho2 := ho.more1 k1 k2 k3
  refine hK.out _ _ (E.hS _ hb2) (fun _ => ?_)
  clear hK K
  simp only [sq]
  exact VJ E _ v' g3 _ hb2 ho2
 refine AllReadyH.cons (o := GU) rfl (fun K hK => ?_) ?_
 ·have hb2 : Below W.heap.size W (w.alloc (.cells #[] 86)) := hb.alloc hsz _
  have ho2 := ho.new2 hsz 86 3
  go_simp
  refine hK.out _ _ (E.hS _ hb2) (fun _ => ?_)
  clear hK K
  try simp only [s1, s2, s3]
  exact GO E g0 w.heap.size g3 _ hb2 ho2
 refine AllReadyH.cons (o := KN) rfl (fun K hK => ?_) AllReadyH.nil
 have hb2 : Below W.heap.size W (w.alloc (.cells #[] 88)) := hb.alloc hsz _
 have ho2 := ho.new3 hsz 88 6
 go_simp
 refine hK.out _ _ (E.hS _ hb2) (fun _ => ?_)
 clear hK K
 try simp only [s1, s2, s3]
 exact GY E g0 w.heap.size g3 _ hb2 ho2
theorem Yk {S : Sta} {Q : Exit → Act → World → Prop} {A0 : Value} {pt rt : Nat} {a0 : Option Addr} {c0 : Nat} {a1 : Option Addr} {c1 : Nat} {a2 : Option Addr} {c2 : Nat} {a3 : Option Addr} {c3 : Nat} {W : World} (E : CpEnv S Q A0 pt rt a0 c0 a1 c1 a2 c2 a3 c3 W) (g1 : Nat) (g3 : Nat) (w : World) (hb : Below W.heap.size W w) (ho : Own4 w W.heap.size none (some ⟨.slice (some ⟨g1, 0, none⟩) 0 0, 86, 3, 0, []⟩) none (some ⟨.slice (some ⟨g3, 0, none⟩) 0 0, 90, 8, 0, []⟩)) :
  wpAnyH Tryz.prog .any JQ Q (cpS S pt a0 c0 a1 c1 a2 c2 a3 c3) 8 #[false, true, true, false, true, true, true, false, false, true, true, false, true, true, true, false, false, false] ⟨#[A0, .pointer (some ⟨pt, 0, none⟩), .pointer (some ⟨rt, 0, none⟩), undef, .pointer (some ⟨pt, 0, none⟩), .slice a0 S.l.length c0, undef, .slice (some ⟨g1, 0, none⟩) 0 0, .pointer (some ⟨pt, 1, none⟩), .slice a1 S.T.length c1, undef, undef, .pointer (some ⟨pt, 2, none⟩), .slice a2 S.L.length c2, undef, .slice (some ⟨g3, 0, none⟩) 0 0, .pointer (some ⟨pt, 3, none⟩), .slice a3 S.C.length c3, undef, undef], []⟩ w := by
 have hsz := hb.size
 refine wpAnyH_ready (rs := [0, 8]) (by as_aux_lemma => kernel_rfl) (by simp) ?_
 refine AllReadyH.cons (o := YR) rfl (fun K hK => ?_) ?_
 ·have hb2 : Below W.heap.size W (w.alloc (.cells #[] 3)) := hb.alloc hsz _
  have ho2 := ho.new1 hsz 3 1
  go_simp
  refine hK.out _ _ (E.hS _ hb2) (fun _ => ?_)
  clear hK K
  try simp only [List.setIfInBounds_toArray, List.set_cons_zero]
  exact GO E w.heap.size g1 g3 _ hb2 ho2
 refine AllReadyH.cons (o := KN) rfl (fun K hK => ?_) AllReadyH.nil
 have hb2 : Below W.heap.size W (w.alloc (.cells #[] 88)) := hb.alloc hsz _
 have ho2 := ho.new3 hsz 88 6
 go_simp
 refine hK.out _ _ (E.hS _ hb2) (fun _ => ?_)
 clear hK K
 try simp only [s1, s2, s3]
 exact G2 E g1 w.heap.size g3 _ hb2 ho2
theorem VW {S : Sta} {Q : Exit → Act → World → Prop} {A0 : Value} {pt rt : Nat} {a0 : Option Addr} {c0 : Nat} {a1 : Option Addr} {c1 : Nat} {a2 : Option Addr} {c2 : Nat} {a3 : Option Addr} {c3 : Nat} {W : World} (E : CpEnv S Q A0 pt rt a0 c0 a1 c1 a2 c2 a3 c3 W) (g2 : Nat) (g3 : Nat) (w : World) (hb : Below W.heap.size W w) (ho : Own4 w W.heap.size none none (some ⟨.slice (some ⟨g2, 0, none⟩) 0 0, 88, 6, 0, []⟩) (some ⟨.slice (some ⟨g3, 0, none⟩) 0 0, 90, 8, 0, []⟩)) :
  wpAnyH Tryz.prog .any JQ Q (cpS S pt a0 c0 a1 c1 a2 c2 a3 c3) 8 #[false, true, true, false, false, true, true, false, true, true, true, false, true, true, true, false, false, false] ⟨#[A0, .pointer (some ⟨pt, 0, none⟩), .pointer (some ⟨rt, 0, none⟩), undef, .pointer (some ⟨pt, 0, none⟩), .slice a0 S.l.length c0, undef, undef, .pointer (some ⟨pt, 1, none⟩), .slice a1 S.T.length c1, undef, .slice (some ⟨g2, 0, none⟩) 0 0, .pointer (some ⟨pt, 2, none⟩), .slice a2 S.L.length c2, undef, .slice (some ⟨g3, 0, none⟩) 0 0, .pointer (some ⟨pt, 3, none⟩), .slice a3 S.C.length c3, undef, undef], []⟩ w := by
 have hsz := hb.size
 refine wpAnyH_ready (rs := [0, 4]) (by as_aux_lemma => kernel_rfl) (by simp) ?_
 refine AllReadyH.cons (o := YR) rfl (fun K hK => ?_) ?_
 ·have hb2 : Below W.heap.size W (w.alloc (.cells #[] 3)) := hb.alloc hsz _
  have ho2 := ho.new1 hsz 3 1
  go_simp
  refine hK.out _ _ (E.hS _ hb2) (fun _ => ?_)
  clear hK K
  try simp only [List.setIfInBounds_toArray, List.set_cons_zero]
  exact GY E w.heap.size g2 g3 _ hb2 ho2
 refine AllReadyH.cons (o := GU) rfl (fun K hK => ?_) AllReadyH.nil
 have hb2 : Below W.heap.size W (w.alloc (.cells #[] 86)) := hb.alloc hsz _
 have ho2 := ho.new2 hsz 86 3
 go_simp
 refine hK.out _ _ (E.hS _ hb2) (fun _ => ?_)
 clear hK K
 try simp only [s1, s2, s3]
 exact G2 E w.heap.size g2 g3 _ hb2 ho2
theorem Jcd {S : Sta} {Q : Exit → Act → World → Prop} {A0 : Value} {pt rt : Nat} {a0 : Option Addr} {c0 : Nat} {a1 : Option Addr} {c1 : Nat} {a2 : Option Addr} {c2 : Nat} {a3 : Option Addr} {c3 : Nat} {W : World} (E : CpEnv S Q A0 pt rt a0 c0 a1 c1 a2 c2 a3 c3 W) (g0 : Nat) (w : World) (hb : Below W.heap.size W w) (ho : Own4 w W.heap.size (some ⟨.slice (some ⟨g0, 0, none⟩) 0 0, 3, 1, 0, []⟩) none none none) :
  wpAnyH Tryz.prog .any JQ Q (cpS S pt a0 c0 a1 c1 a2 c2 a3 c3) 9 #[true, true, true, false, false, true, true, false, false, true, true, false, false, true, true, false, false, false] ⟨#[A0, .pointer (some ⟨pt, 0, none⟩), .pointer (some ⟨rt, 0, none⟩), .slice (some ⟨g0, 0, none⟩) 0 0, .pointer (some ⟨pt, 0, none⟩), .slice a0 S.l.length c0, undef, undef, .pointer (some ⟨pt, 1, none⟩), .slice a1 S.T.length c1, undef, undef, .pointer (some ⟨pt, 2, none⟩), .slice a2 S.L.length c2, undef, undef, .pointer (some ⟨pt, 3, none⟩), .slice a3 S.C.length c3, undef, undef], []⟩ w := by
 have hsz := hb.size
 refine wpAnyH_ready (rs := [3, 4, 8, 12]) (by as_aux_lemma => kernel_rfl) (by simp) ?_
 refine AllReadyH.cons (o := YN) rfl (fun K hK => ?_) ?_
 ·obtain ⟨i0, hi, hz0, hz1, hz2⟩ := info_parts Zo
  have hoi : w.ownsRow W.heap.size 3 1 (.slice (some ⟨g0, 0, none⟩) 0 0) 0 [] := ho.1.1
  refine JH rfl (.tmp 3) (.tmp 5) 24 rfl W.heap.size 3 i0 (int i64 0) 1 8 Tryz.underlying24 hi hz0 hz1 hz2 rfl (by decide) g0 rfl hoi a0 S.l.length c0 (Je S.l) rfl (E.hR w hb).1.src E.hn.1 (by decide) hsz ?_
  intro v' w' k1 k2 k3
  have hb2 : Below W.heap.size W w' := hb.grown k2 hsz (fun j hj => by injection hj with hj; subst hj; exact (hoi.lt _ rfl).1)
  have ho2 := ho.more1 k1 k2 k3
  refine hK.out _ _ (E.hS _ hb2) (fun _ => ?_)
  clear hK K
  simp only [sq]
  exact Jb2 E _ v' _ hb2 ho2
 refine AllReadyH.cons (o := GU) rfl (fun K hK => ?_) ?_
 ·have hb2 : Below W.heap.size W (w.alloc (.cells #[] 86)) := hb.alloc hsz _
  have ho2 := ho.new2 hsz 86 3
  go_simp
  refine hK.out _ _ (E.hS _ hb2) (fun _ => ?_)
  clear hK K
  try simp only [s1, s2, s3]
  exact VK E g0 w.heap.size _ hb2 ho2
 refine AllReadyH.cons (o := KN) rfl (fun K hK => ?_) ?_
 ·have hb2 : Below W.heap.size W (w.alloc (.cells #[] 88)) := hb.alloc hsz _
  have ho2 := ho.new3 hsz 88 6
  go_simp
  refine hK.out _ _ (E.hS _ hb2) (fun _ => ?_)
  clear hK K
  try simp only [s1, s2, s3]
  exact VG E g0 w.heap.size _ hb2 ho2
 refine AllReadyH.cons (o := Zz) rfl (fun K hK => ?_) AllReadyH.nil
 have hb2 : Below W.heap.size W (w.alloc (.cells #[] 90)) := hb.alloc hsz _
 have ho2 := ho.new4 hsz 90 8
 go_simp
 refine hK.out _ _ (E.hS _ hb2) (fun _ => ?_)
 clear hK K
 try simp only [s1, s2, s3]
 exact Yx E g0 w.heap.size _ hb2 ho2
theorem JbV {S : Sta} {Q : Exit → Act → World → Prop} {A0 : Value} {pt rt : Nat} {a0 : Option Addr} {c0 : Nat} {a1 : Option Addr} {c1 : Nat} {a2 : Option Addr} {c2 : Nat} {a3 : Option Addr} {c3 : Nat} {W : World} (E : CpEnv S Q A0 pt rt a0 c0 a1 c1 a2 c2 a3 c3 W) (g1 : Nat) (w : World) (hb : Below W.heap.size W w) (ho : Own4 w W.heap.size none (some ⟨.slice (some ⟨g1, 0, none⟩) 0 0, 86, 3, 0, []⟩) none none) :
  wpAnyH Tryz.prog .any JQ Q (cpS S pt a0 c0 a1 c1 a2 c2 a3 c3) 9 #[false, true, true, false, true, true, true, false, false, true, true, false, false, true, true, false, false, false] ⟨#[A0, .pointer (some ⟨pt, 0, none⟩), .pointer (some ⟨rt, 0, none⟩), undef, .pointer (some ⟨pt, 0, none⟩), .slice a0 S.l.length c0, undef, .slice (some ⟨g1, 0, none⟩) 0 0, .pointer (some ⟨pt, 1, none⟩), .slice a1 S.T.length c1, undef, undef, .pointer (some ⟨pt, 2, none⟩), .slice a2 S.L.length c2, undef, undef, .pointer (some ⟨pt, 3, none⟩), .slice a3 S.C.length c3, undef, undef], []⟩ w := by
 have hsz := hb.size
 refine wpAnyH_ready (rs := [0, 8, 12]) (by as_aux_lemma => kernel_rfl) (by simp) ?_
 refine AllReadyH.cons (o := YR) rfl (fun K hK => ?_) ?_
 ·have hb2 : Below W.heap.size W (w.alloc (.cells #[] 3)) := hb.alloc hsz _
  have ho2 := ho.new1 hsz 3 1
  go_simp
  refine hK.out _ _ (E.hS _ hb2) (fun _ => ?_)
  clear hK K
  try simp only [List.setIfInBounds_toArray, List.set_cons_zero]
  exact VK E w.heap.size g1 _ hb2 ho2
 refine AllReadyH.cons (o := KN) rfl (fun K hK => ?_) ?_
 ·have hb2 : Below W.heap.size W (w.alloc (.cells #[] 88)) := hb.alloc hsz _
  have ho2 := ho.new3 hsz 88 6
  go_simp
  refine hK.out _ _ (E.hS _ hb2) (fun _ => ?_)
  clear hK K
  try simp only [s1, s2, s3]
  exact VS E g1 w.heap.size _ hb2 ho2
 refine AllReadyH.cons (o := Zz) rfl (fun K hK => ?_) AllReadyH.nil
 have hb2 : Below W.heap.size W (w.alloc (.cells #[] 90)) := hb.alloc hsz _
 have ho2 := ho.new4 hsz 90 8
 go_simp
 refine hK.out _ _ (E.hS _ hb2) (fun _ => ?_)
 clear hK K
 try simp only [s1, s2, s3]
 exact Yk E g1 w.heap.size _ hb2 ho2
theorem Jb7 {S : Sta} {Q : Exit → Act → World → Prop} {A0 : Value} {pt rt : Nat} {a0 : Option Addr} {c0 : Nat} {a1 : Option Addr} {c1 : Nat} {a2 : Option Addr} {c2 : Nat} {a3 : Option Addr} {c3 : Nat} {W : World} (E : CpEnv S Q A0 pt rt a0 c0 a1 c1 a2 c2 a3 c3 W) (g2 : Nat) (w : World) (hb : Below W.heap.size W w) (ho : Own4 w W.heap.size none none (some ⟨.slice (some ⟨g2, 0, none⟩) 0 0, 88, 6, 0, []⟩) none) :
  wpAnyH Tryz.prog .any JQ Q (cpS S pt a0 c0 a1 c1 a2 c2 a3 c3) 9 #[false, true, true, false, false, true, true, false, true, true, true, false, false, true, true, false, false, false] ⟨#[A0, .pointer (some ⟨pt, 0, none⟩), .pointer (some ⟨rt, 0, none⟩), undef, .pointer (some ⟨pt, 0, none⟩), .slice a0 S.l.length c0, undef, undef, .pointer (some ⟨pt, 1, none⟩), .slice a1 S.T.length c1, undef, .slice (some ⟨g2, 0, none⟩) 0 0, .pointer (some ⟨pt, 2, none⟩), .slice a2 S.L.length c2, undef, undef, .pointer (some ⟨pt, 3, none⟩), .slice a3 S.C.length c3, undef, undef], []⟩ w := by
 have hsz := hb.size
 refine wpAnyH_ready (rs := [0, 4, 12]) (by as_aux_lemma => kernel_rfl) (by simp) ?_
 refine AllReadyH.cons (o := YR) rfl (fun K hK => ?_) ?_
 ·have hb2 : Below W.heap.size W (w.alloc (.cells #[] 3)) := hb.alloc hsz _
  have ho2 := ho.new1 hsz 3 1
  go_simp
  refine hK.out _ _ (E.hS _ hb2) (fun _ => ?_)
  clear hK K
  try simp only [List.setIfInBounds_toArray, List.set_cons_zero]
  exact VG E w.heap.size g2 _ hb2 ho2
 refine AllReadyH.cons (o := GU) rfl (fun K hK => ?_) ?_
 ·have hb2 : Below W.heap.size W (w.alloc (.cells #[] 86)) := hb.alloc hsz _
  have ho2 := ho.new2 hsz 86 3
  go_simp
  refine hK.out _ _ (E.hS _ hb2) (fun _ => ?_)
  clear hK K
  try simp only [s1, s2, s3]
  exact VS E w.heap.size g2 _ hb2 ho2
 refine AllReadyH.cons (o := Zz) rfl (fun K hK => ?_) AllReadyH.nil
 have hb2 : Below W.heap.size W (w.alloc (.cells #[] 90)) := hb.alloc hsz _
 have ho2 := ho.new4 hsz 90 8
 go_simp
 refine hK.out _ _ (E.hS _ hb2) (fun _ => ?_)
 clear hK K
 try simp only [s1, s2, s3]
 exact VW E g2 w.heap.size _ hb2 ho2
theorem Jcc {S : Sta} {Q : Exit → Act → World → Prop} {A0 : Value} {pt rt : Nat} {a0 : Option Addr} {c0 : Nat} {a1 : Option Addr} {c1 : Nat} {a2 : Option Addr} {c2 : Nat} {a3 : Option Addr} {c3 : Nat} {W : World} (E : CpEnv S Q A0 pt rt a0 c0 a1 c1 a2 c2 a3 c3 W) (g3 : Nat) (w : World) (hb : Below W.heap.size W w) (ho : Own4 w W.heap.size none none none (some ⟨.slice (some ⟨g3, 0, none⟩) 0 0, 90, 8, 0, []⟩)) :
  wpAnyH Tryz.prog .any JQ Q (cpS S pt a0 c0 a1 c1 a2 c2 a3 c3) 9 #[false, true, true, false, false, true, true, false, false, true, true, false, true, true, true, false, false, false] ⟨#[A0, .pointer (some ⟨pt, 0, none⟩), .pointer (some ⟨rt, 0, none⟩), undef, .pointer (some ⟨pt, 0, none⟩), .slice a0 S.l.length c0, undef, undef, .pointer (some ⟨pt, 1, none⟩), .slice a1 S.T.length c1, undef, undef, .pointer (some ⟨pt, 2, none⟩), .slice a2 S.L.length c2, undef, .slice (some ⟨g3, 0, none⟩) 0 0, .pointer (some ⟨pt, 3, none⟩), .slice a3 S.C.length c3, undef, undef], []⟩ w := by
 have hsz := hb.size
 refine wpAnyH_ready (rs := [0, 4, 8]) (by as_aux_lemma => kernel_rfl) (by simp) ?_
 refine AllReadyH.cons (o := YR) rfl (fun K hK => ?_) ?_
 ·have hb2 : Below W.heap.size W (w.alloc (.cells #[] 3)) := hb.alloc hsz _
  have ho2 := ho.new1 hsz 3 1
  go_simp
  refine hK.out _ _ (E.hS _ hb2) (fun _ => ?_)
  clear hK K
  try simp only [List.setIfInBounds_toArray, List.set_cons_zero]
  exact Yx E w.heap.size g3 _ hb2 ho2
 refine AllReadyH.cons (o := GU) rfl (fun K hK => ?_) ?_
 ·have hb2 : Below W.heap.size W (w.alloc (.cells #[] 86)) := hb.alloc hsz _
  have ho2 := ho.new2 hsz 86 3
  go_simp
  refine hK.out _ _ (E.hS _ hb2) (fun _ => ?_)
  clear hK K
  try simp only [s1, s2, s3]
  exact Yk E w.heap.size g3 _ hb2 ho2
 refine AllReadyH.cons (o := KN) rfl (fun K hK => ?_) AllReadyH.nil
 have hb2 : Below W.heap.size W (w.alloc (.cells #[] 88)) := hb.alloc hsz _
 have ho2 := ho.new3 hsz 88 6
 go_simp
 refine hK.out _ _ (E.hS _ hb2) (fun _ => ?_)
 clear hK K
 try simp only [s1, s2, s3]
 exact VW E w.heap.size g3 _ hb2 ho2
theorem Jb4 {S : Sta} {Q : Exit → Act → World → Prop} {A0 : Value} {pt rt : Nat} {a0 : Option Addr} {c0 : Nat} {a1 : Option Addr} {c1 : Nat} {a2 : Option Addr} {c2 : Nat} {a3 : Option Addr} {c3 : Nat} {W : World} (E : CpEnv S Q A0 pt rt a0 c0 a1 c1 a2 c2 a3 c3 W) (w : World) (hb : Below W.heap.size W w) (ho : Own4 w W.heap.size none none none none) :
  wpAnyH Tryz.prog .any JQ Q (cpS S pt a0 c0 a1 c1 a2 c2 a3 c3) 10 #[false, true, true, false, false, true, true, false, false, true, true, false, false, true, true, false, false, false] ⟨#[A0, .pointer (some ⟨pt, 0, none⟩), .pointer (some ⟨rt, 0, none⟩), undef, .pointer (some ⟨pt, 0, none⟩), .slice a0 S.l.length c0, undef, undef, .pointer (some ⟨pt, 1, none⟩), .slice a1 S.T.length c1, undef, undef, .pointer (some ⟨pt, 2, none⟩), .slice a2 S.L.length c2, undef, undef, .pointer (some ⟨pt, 3, none⟩), .slice a3 S.C.length c3, undef, undef], []⟩ w := by
 have hsz := hb.size
 refine wpAnyH_ready (rs := [0, 4, 8, 12]) (by as_aux_lemma => kernel_rfl) (by simp) ?_
 refine AllReadyH.cons (o := YR) rfl (fun K hK => ?_) ?_
 ·have hb2 : Below W.heap.size W (w.alloc (.cells #[] 3)) := hb.alloc hsz _
  have ho2 := ho.new1 hsz 3 1
  go_simp
  refine hK.out _ _ (E.hS _ hb2) (fun _ => ?_)
  clear hK K
  try simp only [List.setIfInBounds_toArray, List.set_cons_zero]
  exact Jcd E w.heap.size _ hb2 ho2
 refine AllReadyH.cons (o := GU) rfl (fun K hK => ?_) ?_
 ·have hb2 : Below W.heap.size W (w.alloc (.cells #[] 86)) := hb.alloc hsz _
  have ho2 := ho.new2 hsz 86 3
  go_simp
  refine hK.out _ _ (E.hS _ hb2) (fun _ => ?_)
  clear hK K
  try simp only [s1, s2, s3]
  exact JbV E w.heap.size _ hb2 ho2
 refine AllReadyH.cons (o := KN) rfl (fun K hK => ?_) ?_
 ·have hb2 : Below W.heap.size W (w.alloc (.cells #[] 88)) := hb.alloc hsz _
  have ho2 := ho.new3 hsz 88 6
  go_simp
  refine hK.out _ _ (E.hS _ hb2) (fun _ => ?_)
  clear hK K
  try simp only [s1, s2, s3]
  exact Jb7 E w.heap.size _ hb2 ho2
 refine AllReadyH.cons (o := Zz) rfl (fun K hK => ?_) AllReadyH.nil
 have hb2 : Below W.heap.size W (w.alloc (.cells #[] 90)) := hb.alloc hsz _
 have ho2 := ho.new4 hsz 90 8
 go_simp
 refine hK.out _ _ (E.hS _ hb2) (fun _ => ?_)
 clear hK K
 try simp only [s1, s2, s3]
 exact Jcc E w.heap.size _ hb2 ho2
theorem UB (S : Sta) (u0 u1 u2 u3 : Value) (w : World) (hn : Small S) (h : StAt w S u0 u1 u2 u3) :
  Calls Tryz.prog 50 #[.agg #[u0, u1, u2, u3]] w fun e w' => ∃ v0 v1 v2 v3, e = .returned (.agg #[v0, v1, v2, v3]) ∧ OwnS w' w.heap.size S v0 v1 v2 v3 ∧ Below w.heap.size w w' := by
 obtain ⟨a0, c0, a1, c1, a2, c2, a3, c3, rfl, rfl, rfl, rfl⟩ := h.shape
 obtain ⟨W, hW⟩ : ∃ W, W = (w.alloc (.cells #[.slice a0 S.l.length c0, .slice a1 S.T.length c1, .slice a2 S.L.length c2, .slice a3 S.C.length c3] 29)).alloc (.cells Zi 29) := ⟨_, rfl⟩
 have HP : Hid (Row W w.heap.size #[.slice a0 S.l.length c0, .slice a1 S.T.length c1, .slice a2 S.L.length c2, .slice a3 S.C.length c3] 29) := by rw [hW]; exact (Jb w _ _ rfl).alloc _
 have HO : Hid (Row W (w.heap.size + 1) Zi 29) := by rw [hW]; exact Jb _ _ _ (by simp)
 have HB : Hid (Below w.heap.size w W) := by rw [hW]; exact ((Below.refl _ _).alloc (Nat.le_refl _) _).alloc (by simp) _
 have HT : Hid (StAt W S (.slice a0 S.l.length c0) (.slice a1 S.T.length c1) (.slice a2 S.L.length c2) (.slice a3 S.C.length c3)) := by rw [hW]; exact (h.alloc _).alloc _
 have hWs : w.heap.size + 1 < W.heap.size := by rw [hW]; simp
 have HW : Hid ((w.alloc (.cells #[.slice a0 S.l.length c0, .slice a1 S.T.length c1, .slice a2 S.L.length c2, .slice a3 S.C.length c3] 29)).alloc (.cells Zi 29) = W) := hW.symm
 unfold Zi at HW
 clear hW h
 go_enter Tryz.func50, Tryz.ntmps50
 go_wp2
 rw [HW.out]
 try simp only [List.append_eq, List.cons_append, List.nil_append]
 clear HW
 have HS : Hid (∀ wx, Below W.heap.size W wx → cpS S w.heap.size a0 c0 a1 c1 a2 c2 a3 c3 wx) := fun wx h => Row.four (HP.out.next h)
 have hBc : Below W.heap.size W W.drew := (Below.refl _ _).drew
 refine wph HS hBc 18 ?_
 refine wpAnyH_take (i := 1) (oi := Jij) (v := ?v1) rfl (by as_aux_lemma => kernel_rfl) (by as_aux_lemma => kernel_rfl) (by as_aux_lemma => kernel_rfl) (fun _ _ _ h => h) (Or.inl ⟨by rfl, ?hy1⟩) (HS.out _ hBc) ?_
 case hy1 =>
  intro w hSw
  try dsimp only [cpS] at hSw
  go_simp <;> with_reducible rfl
 simp only [sq]
 refine wpAnyH_take (i := 2) (oi := JhM) (v := ?v2) rfl (by as_aux_lemma => kernel_rfl) (by as_aux_lemma => kernel_rfl) (by as_aux_lemma => kernel_rfl) (fun _ _ _ h => h) (Or.inl ⟨by rfl, ?hy2⟩) (HS.out _ hBc) ?_
 case hy2 =>
  intro w hSw
  try dsimp only [cpS] at hSw
  go_simp <;> with_reducible rfl
 simp only [sq]
 refine wpAnyH_take (i := 5) (oi := Jht) (v := ?v5) rfl (by as_aux_lemma => kernel_rfl) (by as_aux_lemma => kernel_rfl) (by as_aux_lemma => kernel_rfl) (fun _ _ _ h => h) (Or.inl ⟨by rfl, ?hy5⟩) (HS.out _ hBc) ?_
 case hy5 =>
  intro w hSw
  try dsimp only [cpS] at hSw
  go_simp <;> with_reducible rfl
 simp only [sq]
 refine wpAnyH_take (i := 6) (oi := JiK) (v := ?v6) rfl (by as_aux_lemma => kernel_rfl) (by as_aux_lemma => kernel_rfl) (by as_aux_lemma => kernel_rfl) (fun _ _ _ h => h) (Or.inl ⟨by rfl, ?hy6⟩) (HS.out _ hBc) ?_
 case hy6 =>
  intro w hSw
  try dsimp only [cpS] at hSw
  go_simp <;> with_reducible rfl
 simp only [sq]
 refine wpAnyH_take (i := 9) (oi := Jhi) (v := ?v9) rfl (by as_aux_lemma => kernel_rfl) (by as_aux_lemma => kernel_rfl) (by as_aux_lemma => kernel_rfl) (fun _ _ _ h => h) (Or.inl ⟨by rfl, ?hy9⟩) (HS.out _ hBc) ?_
 case hy9 =>
  intro w hSw
  try dsimp only [cpS] at hSw
  go_simp <;> with_reducible rfl
 simp only [sq]
 refine wpAnyH_take (i := 10) (oi := JeD) (v := ?v10) rfl (by as_aux_lemma => kernel_rfl) (by as_aux_lemma => kernel_rfl) (by as_aux_lemma => kernel_rfl) (fun _ _ _ h => h) (Or.inl ⟨by rfl, ?hy10⟩) (HS.out _ hBc) ?_
 case hy10 =>
  intro w hSw
  try dsimp only [cpS] at hSw
  go_simp <;> with_reducible rfl
 simp only [sq]
 refine wpAnyH_take (i := 13) (oi := Jey) (v := ?v13) rfl (by as_aux_lemma => kernel_rfl) (by as_aux_lemma => kernel_rfl) (by as_aux_lemma => kernel_rfl) (fun _ _ _ h => h) (Or.inl ⟨by rfl, ?hy13⟩) (HS.out _ hBc) ?_
 case hy13 =>
  intro w hSw
  try dsimp only [cpS] at hSw
  go_simp <;> with_reducible rfl
 simp only [sq]
 refine wpAnyH_take (i := 14) (oi := Jeu) (v := ?v14) rfl (by as_aux_lemma => kernel_rfl) (by as_aux_lemma => kernel_rfl) (by as_aux_lemma => kernel_rfl) (fun _ _ _ h => h) (Or.inl ⟨by rfl, ?hy14⟩) (HS.out _ hBc) ?_
 case hy14 =>
  intro w hSw
  try dsimp only [cpS] at hSw
  go_simp <;> with_reducible rfl
 simp only [sq]
 refine Jb4 (W := W.drew) (pt := w.heap.size) (rt := w.heap.size + 1) ⟨hn, fun wx h => ?_, fun wx h => ?_, ?_⟩ W.drew (Below.refl _ _) ⟨⟨trivial, trivial, trivial, trivial⟩, trivial, trivial, trivial, trivial, trivial, trivial⟩
 ·exact HT.out.below (hBc.trans (h.mono hBc.size))
 ·exact HS.out _ (hBc.trans (h.mono hBc.size))
 intro b0 b1 b2 b3 v0 v1 v2 v3 wx hbx hox
 rw [show W.drew.heap.size = W.heap.size from rfl] at hox
 have hbW : Below W.heap.size W wx := hBc.trans (hbx.mono hBc.size)
 have hX : OwnS wx W.heap.size S v0 v1 v2 v3 := hox
 obtain ⟨e0, f0, e1, f1, e2, f2, e3, f3, rfl, rfl, rfl, rfl⟩ := hX.at.shape
 have hZ : Row wx (w.heap.size + 1) #[.slice none 0 0, .slice none 0 0, .slice none 0 0, .slice none 0 0] 29 := HO.out.next hbW
 obtain ⟨z0, z1, z2, z3⟩ := Row.four hZ
 have k0 := hZ.free 0
 have k1 := hZ.free 1
 have k2 := hZ.free 2
 have k3 := hZ.free 3
 have HX := Ja hX
 have HZ := Ja hZ
 have HBW := Ja hbW
 clear hox hX hZ hbx
 refine wpAnyH_take (i := 16) (oi := Jer) (v := ?v16) rfl (by as_aux_lemma => kernel_rfl) (by as_aux_lemma => kernel_rfl) (by as_aux_lemma => kernel_rfl) (fun _ _ _ h => h) (Or.inl ⟨by rfl, ?hy16⟩) (HS.out _ hbW) ?_
 case hy16 =>
  intro w hSw
  go_simp <;> with_reducible rfl
 simp only [sq]
 refine rd 17 JeC (fun K hK => ?_)
 go_simp
 have hPY : Row ((((wx.setCell ⟨w.heap.size + 1, 0, none⟩ (.slice e0 S.l.length f0)).setCell ⟨w.heap.size + 1, 1, none⟩ (.slice e1 S.T.length f1)).setCell ⟨w.heap.size + 1, 2, none⟩ (.slice e2 S.L.length f2)).setCell ⟨w.heap.size + 1, 3, none⟩ (.slice e3 S.C.length f3)) w.heap.size #[.slice a0 S.l.length c0, .slice a1 S.T.length c1, .slice a2 S.L.length c2, .slice a3 S.C.length c3] 29 := ((((HP.out.next hbW).other (by simp) _).other (by simp) _).other (by simp) _).other (by simp) _
 have hZY : Row ((((wx.setCell ⟨w.heap.size + 1, 0, none⟩ (.slice e0 S.l.length f0)).setCell ⟨w.heap.size + 1, 1, none⟩ (.slice e1 S.T.length f1)).setCell ⟨w.heap.size + 1, 2, none⟩ (.slice e2 S.L.length f2)).setCell ⟨w.heap.size + 1, 3, none⟩ (.slice e3 S.C.length f3)) (w.heap.size + 1) #[.slice e0 S.l.length f0, .slice e1 S.T.length f1, .slice e2 S.L.length f2, .slice e3 S.C.length f3] 29 := (((HZ.out.st0 _).st1 _).st2 _).st3 _
 have hOY : OwnS ((((wx.setCell ⟨w.heap.size + 1, 0, none⟩ (.slice e0 S.l.length f0)).setCell ⟨w.heap.size + 1, 1, none⟩ (.slice e1 S.T.length f1)).setCell ⟨w.heap.size + 1, 2, none⟩ (.slice e2 S.L.length f2)).setCell ⟨w.heap.size + 1, 3, none⟩ (.slice e3 S.C.length f3)) w.heap.size S (.slice e0 S.l.length f0) (.slice e1 S.T.length f1) (.slice e2 S.L.length f2) (.slice e3 S.C.length f3) := Own4.base ((((Own4.put HX.out hWs).put hWs).put hWs).put hWs) (Nat.le_of_lt (Nat.lt_of_succ_lt hWs))
 have hBY : Below w.heap.size w ((((wx.setCell ⟨w.heap.size + 1, 0, none⟩ (.slice e0 S.l.length f0)).setCell ⟨w.heap.size + 1, 1, none⟩ (.slice e1 S.T.length f1)).setCell ⟨w.heap.size + 1, 2, none⟩ (.slice e2 S.L.length f2)).setCell ⟨w.heap.size + 1, 3, none⟩ (.slice e3 S.C.length f3)) := ((((HB.out.trans (HBW.out.mono HB.out.size)).setCell (by simp) _).setCell (by simp) _).setCell (by simp) _).setCell (by simp) _
 generalize ((((wx.setCell ⟨w.heap.size + 1, 0, none⟩ (.slice e0 S.l.length f0)).setCell ⟨w.heap.size + 1, 1, none⟩ (.slice e1 S.T.length f1)).setCell ⟨w.heap.size + 1, 2, none⟩ (.slice e2 S.L.length f2)).setCell ⟨w.heap.size + 1, 3, none⟩ (.slice e3 S.C.length f3)) = Y at *
 have HZY := Ja hZY
 have HOY := Ja hOY
 have HBY := Ja hBY
 refine hK.out _ _ (Row.four hPY) (fun _ => ?_)
 clear hK K hPY hZY hOY hBY z0 z1 z2 z3 k0 k1 k2 k3
 refine wpd ?_
 go_wp2
 exact bodyPost_ret (Vd rfl rfl rfl HZY.out) rfl ⟨_, _, _, _, rfl, HOY.out, HBY.out⟩
end Go.Proofs.YtepfinenocpneaaGreat
