/- An act whose dot is not right. An act whose knowledge is not right. An act that knows of its own replica something else than what was before it. -/
import Derived.Test.YtdknoflkingodaaGreatM1
import Derived.Test.YtdknoflkingodaaGreatM3
import Derived.Test.YtdknoflkingodaaGreatM4
import Derived.Test.YtdknoflkingodaaGreatM5
import Derived.Test.YtdknoflkingodaaGreatM6
import Derived.Test.YtdknoflkingodaaGreatM7
import Derived.Test.YtdknoflkingodaaGreatM8
import Derived.Test.YtdknoflkingodaaGreatM9
import Derived.Test.YtdknoflkingodaaGreatM10
import Derived.Test.YtdknoflkingodaaGreatM11
import Derived.Test.YtdknoflkingodaaGreatM12
namespace Go.Proofs.YtdknoflkingodaaGreat
set_option maxRecDepth 100000
set_option linter.unusedVariables false
open Go.RowKit
abbrev qaoksax0 : Oper := oq 3 (.fieldAddr 62 (.tmp 1) 0) 0 "l05_act.go:29" #[] none
abbrev qaoksax1 : Oper := oq 4 (.load 33 (.tmp 3)) 33 "l05_act.go:29" #[eD 0] none
abbrev qaoksax2 : Oper := oq 5 (.call ⟨.value (.func 88), #[.tmp 4], #[33]⟩) 4 "l05_act.go:29" #[eD 1] none
abbrev qaoksax3 : Oper := oq 6 (.unOp .not 4 (.tmp 5)) 4 "l05_act.go:29" #[eD 2] none
abbrev qaoksax4 : Oper := oq 7 (.move (.tmp 6)) 4 "l05_act.go:29" #[eD 3, eC 2] none
abbrev qaoksax5 : Oper := oq 8 (.fieldAddr 62 (.tmp 1) 2) 0 "l05_act.go:29" #[eG 4] (some (4, false))
abbrev qaoksax6 : Oper := oq 9 (.load 24 (.tmp 8)) 24 "l05_act.go:29" #[eD 5, eG 4] (some (4, false))
abbrev qaoksax7 : Oper := oq 10 (.call ⟨.value (.func 77), #[.tmp 9], #[24]⟩) 4 "l05_act.go:29" #[eD 6, eC 4, eG 4] (some (4, false))
abbrev qaoksax8 : Oper := oq 11 (.unOp .not 4 (.tmp 10)) 4 "l05_act.go:29" #[eD 7, eG 4] (some (4, false))
abbrev qaoksax9 : Oper := oq 12 (.pick (.tmp 7) (.const (.bool true)) (.tmp 11)) 4 "l05_act.go:29" #[eD 4, eD 8] none
abbrev qaoksax10 : Oper := oq 13 (.move (.tmp 12)) 4 "l05_act.go:29" #[eD 9, eC 7] none
abbrev qaoksax11 : Oper := oq 14 (.fieldAddr 62 (.tmp 1) 2) 0 "l05_act.go:29" #[eG 10] (some (10, false))
abbrev qaoksax12 : Oper := oq 15 (.load 24 (.tmp 14)) 24 "l05_act.go:29" #[eD 11, eG 10] (some (10, false))
abbrev qaoksax13 : Oper := oq 16 (.fieldAddr 62 (.tmp 1) 0) 0 "l05_act.go:29" #[eG 10] (some (10, false))
abbrev qaoksax14 : Oper := oq 17 (.fieldAddr 33 (.tmp 16) 0) 0 "l05_act.go:29" #[eD 13, eG 10] (some (10, false))
abbrev qaoksax15 : Oper := oq 18 (.load 3 (.tmp 17)) 3 "l05_act.go:29" #[eD 14, eG 10] (some (10, false))
abbrev qaoksax16 : Oper := oq 19 (.indexAddr 24 (.tmp 15) (.tmp 18)) 0 "l05_act.go:29" #[eD 12, eD 15, eG 10] (some (10, false))
abbrev qaoksax17 : Oper := oq 20 (.load 3 (.tmp 19)) 3 "l05_act.go:29" #[eD 16, eG 10] (some (10, false))
abbrev qaoksax18 : Oper := oq 21 (.fieldAddr 62 (.tmp 1) 0) 0 "l05_act.go:29" #[eG 10] (some (10, false))
abbrev qaoksax19 : Oper := oq 22 (.fieldAddr 33 (.tmp 21) 1) 0 "l05_act.go:29" #[eD 18, eG 10] (some (10, false))
abbrev qaoksax20 : Oper := oq 23 (.load 3 (.tmp 22)) 3 "l05_act.go:29" #[eD 19, eG 10] (some (10, false))
abbrev qaoksax21 : Oper := oq 24 (.binOp .sub 3 (.tmp 23) (.const (.int .i64 1)) 3) 3 "l05_act.go:29" #[eD 20, eG 10] (some (10, false))
abbrev qaoksax22 : Oper := oq 25 (.binOp .neq 3 (.tmp 20) (.tmp 24) 3) 4 "l05_act.go:29" #[eD 17, eD 21, eG 10] (some (10, false))
abbrev qaoksax23 : Oper := oq 26 (.pick (.tmp 13) (.const (.bool true)) (.tmp 25)) 4 "l05_act.go:29" #[eD 10, eD 22] none
abbrev qaoksax24 : Oper := oq 27 (.move (.tmp 26)) 4 "l05_act.go:29" #[eD 23, eC 10] none
abbrev qaoksax25 : Oper := oq 28 (.fieldAddr 62 (.tmp 1) 1) 0 "l05_act.go:29" #[eG 24] (some (24, false))
abbrev qaoksax26 : Oper := oq 29 (.load 3 (.tmp 28)) 3 "l05_act.go:29" #[eD 25, eG 24] (some (24, false))
abbrev qaoksax27 : Oper := oq 30 (.call ⟨.value (.func 126), #[.tmp 29, .const (.int .i64 1), .const (.int .i64 10000)], #[3, 3, 3]⟩) 4 "l05_act.go:29" #[eD 26, eC 24, eG 24] (some (24, false))
abbrev qaoksax28 : Oper := oq 31 (.unOp .not 4 (.tmp 30)) 4 "l05_act.go:29" #[eD 27, eG 24] (some (24, false))
abbrev qaoksax29 : Oper := oq 32 (.pick (.tmp 27) (.const (.bool true)) (.tmp 31)) 4 "l05_act.go:29" #[eD 24, eD 28] none
abbrev qaoksax30 : Oper := oq 33 (.move (.tmp 32)) 4 "l05_act.go:29" #[eD 29, eC 27] none
abbrev qaoksax31 : Oper := oq 34 (.fieldAddr 62 (.tmp 1) 3) 0 "l05_act.go:29" #[eG 30] (some (30, false))
abbrev qaoksax32 : Oper := oq 35 (.load 3 (.tmp 34)) 3 "l05_act.go:29" #[eD 31, eG 30] (some (30, false))
abbrev qaoksax33 : Oper := oq 36 (.fieldAddr 62 (.tmp 1) 4) 0 "l05_act.go:29" #[eG 30] (some (30, false))
abbrev qaoksax34 : Oper := oq 37 (.load 9 (.tmp 36)) 9 "l05_act.go:29" #[eD 33, eG 30] (some (30, false))
abbrev qaoksax35 : Oper := oq 38 (.fieldAddr 62 (.tmp 1) 5) 0 "l05_act.go:29" #[eG 30] (some (30, false))
abbrev qaoksax36 : Oper := oq 39 (.load 9 (.tmp 38)) 9 "l05_act.go:29" #[eD 35, eG 30] (some (30, false))
abbrev qaoksax37 : Oper := oq 40 (.fieldAddr 62 (.tmp 1) 6) 0 "l05_act.go:29" #[eG 30] (some (30, false))
abbrev qaoksax38 : Oper := oq 41 (.load 3 (.tmp 40)) 3 "l05_act.go:29" #[eD 37, eG 30] (some (30, false))
abbrev qaoksax39 : Oper := oq 42 (.call ⟨.value (.func 192), #[.tmp 35, .tmp 37, .tmp 39, .tmp 41], #[3, 9, 9, 3]⟩) 4 "l05_act.go:29" #[eD 32, eD 34, eD 36, eD 38, eC 30, eG 30] (some (30, false))
abbrev qaoksax40 : Oper := oq 43 (.unOp .not 4 (.tmp 42)) 4 "l05_act.go:29" #[eD 39, eG 30] (some (30, false))
abbrev qaoksax41 : Oper := oq 44 (.pick (.tmp 33) (.const (.bool true)) (.tmp 43)) 4 "l05_act.go:29" #[eD 30, eD 40] none
set_option maxHeartbeats 8000000 in
theorem sAct_a (r s t k v x z : Int) (o y : ByteArray) (l : List Int) (u : Value) (w : World) (hl : l.length ≤ 1048576) (ho : o.size ≤ 1048576) (hy : y.size ≤ 1048576) (hu : IntsAt w u l) (hd : ¬ (DOk r s)) :
  Calls Tryz.prog 140 #[.agg #[.int .i64 r, .int .i64 s, .int .i64 t, u, .int .i64 k, .string o, .string y, .int .i64 v, .int .i64 x, .int .i64 z]] w fun e w' => e = .returned (.bool (decide (AOk ⟨r, s, t, k, v, x, z, o, y, l⟩))) ∧ Below w.heap.size w w' := by
 obtain ⟨q, hq⟩ : ∃ q, q = decide (AOk ⟨r, s, t, k, v, x, z, o, y, l⟩) := ⟨_, rfl⟩
 rw [← hq]
 have HNO : Hid (¬ (DOk r s ∧ KOk l ∧ l.getD r.toNat 0 = s - 1 ∧ (1 ≤ t ∧ t ≤ 10000) ∧ PlainOk k o y v ∧ RefOk l k x z) → q = false) := fun h => by rw [hq]; exact decide_eq_false h
 have HQ : Hid (q = decide (DOk r s ∧ KOk l ∧ l.getD r.toNat 0 = s - 1 ∧ (1 ≤ t ∧ t ≤ 10000) ∧ PlainOk k o y v ∧ RefOk l k x z)) := hq
 clear hq
 have mo : o.size ≤ maxLen := by unfold maxLen; omega
 have my : y.size ≤ maxLen := by unfold maxLen; omega
 have hlc : l.length ≤ 1048576 := hl
 obtain ⟨aa, ca, rfl, hug⟩ := id hu
 obtain ⟨W, hW⟩ : ∃ W, W = w.alloc (.cells #[.int .i64 r, .int .i64 s, .int .i64 t, .slice aa l.length ca, .int .i64 k, .string o, .string y, .int .i64 v, .int .i64 x, .int .i64 z] 62) := ⟨_, rfl⟩
 have hR : Row W w.heap.size #[.int .i64 r, .int .i64 s, .int .i64 t, .slice aa l.length ca, .int .i64 k, .string o, .string y, .int .i64 v, .int .i64 x, .int .i64 z] 62 := by rw [hW]; exact row_new _ _ _ rfl
 have hI : IntsAt W (.slice aa l.length ca) l := by rw [hW]; exact hu.alloc _
 have HBW : Hid (Below w.heap.size w W) := by rw [hW]; exact (Below.refl _ _).alloc (Nat.le_refl _) _
 have HW : Hid (w.alloc (.cells #[.int .i64 r, .int .i64 s, .int .i64 t, .slice aa l.length ca, .int .i64 k, .string o, .string y, .int .i64 v, .int .i64 x, .int .i64 z] 62) = W) := hW.symm
 have HC : Hid (∀ wx, Below W.heap.size W wx → wx.cell? ⟨w.heap.size, 0, none⟩ = some (.int .i64 r) ∧ wx.cell? ⟨w.heap.size, 1, none⟩ = some (.int .i64 s) ∧ wx.cell? ⟨w.heap.size, 2, none⟩ = some (.int .i64 t) ∧ wx.cell? ⟨w.heap.size, 3, none⟩ = some (.slice aa l.length ca) ∧ wx.cell? ⟨w.heap.size, 4, none⟩ = some (.int .i64 k) ∧ wx.cell? ⟨w.heap.size, 5, none⟩ = some (.string o) ∧ wx.cell? ⟨w.heap.size, 6, none⟩ = some (.string y) ∧ wx.cell? ⟨w.heap.size, 7, none⟩ = some (.int .i64 v) ∧ wx.cell? ⟨w.heap.size, 8, none⟩ = some (.int .i64 x) ∧ wx.cell? ⟨w.heap.size, 9, none⟩ = some (.int .i64 z)) := fun wx h => Row.ten (hR.next h)
 have HI : Hid (∀ wx, Below W.heap.size W wx → IntsAt wx (.slice aa l.length ca) l) := fun wx h => hI.below h
 have HF : Hid (∀ wx, Below W.heap.size W wx → Below w.heap.size w wx) := fun wx h => HBW.out.trans (h.mono HBW.out.size)
 have HDC : Hid (∀ wx, Calls Tryz.prog 88 #[.agg #[.int .i64 r, .int .i64 s]] wx fun e w' => e = .returned (.bool (decide (DOk r s))) ∧ Below wx.heap.size wx w') := fun wx => specDotOk_calls r s wx
 have HKC : Hid (∀ wx, Below W.heap.size W wx → Calls Tryz.prog 77 #[.slice aa l.length ca] wx fun e w' => e = .returned (.bool (decide (KOk l))) ∧ Below wx.heap.size wx w') := fun wx h => (specKnowOk_calls l _ wx hlc (HI.out wx h)).mono (by rintro e w' ⟨rfl, rfl⟩; exact ⟨rfl, Below.refl _ _⟩)
 have hBc : Below W.heap.size W W := Below.refl _ _
 obtain ⟨c0, c1, c2, c3, c4, c5, c6, c7, c8, c9⟩ := HC.out _ hBc
 clear hW hu hR hl ho hy
 obtain rfl : q = false := HNO.out (fun h => hd h.1)
 rw [decide_eq_false hd] at HDC
 have HS : Hid (∀ wx, Below W.heap.size W wx → wx.cell? ⟨w.heap.size, 0, none⟩ = some (.int .i64 r) ∧ wx.cell? ⟨w.heap.size, 1, none⟩ = some (.int .i64 s) ∧ wx.cell? ⟨w.heap.size, 2, none⟩ = some (.int .i64 t) ∧ wx.cell? ⟨w.heap.size, 3, none⟩ = some (.slice aa l.length ca) ∧ wx.cell? ⟨w.heap.size, 4, none⟩ = some (.int .i64 k) ∧ wx.cell? ⟨w.heap.size, 5, none⟩ = some (.string o) ∧ wx.cell? ⟨w.heap.size, 6, none⟩ = some (.string y) ∧ wx.cell? ⟨w.heap.size, 7, none⟩ = some (.int .i64 v) ∧ wx.cell? ⟨w.heap.size, 8, none⟩ = some (.int .i64 x) ∧ wx.cell? ⟨w.heap.size, 9, none⟩ = some (.int .i64 z)) := fun wx h => HC.out wx h
 clear HQ HNO hd c2 c4 c5 c6 c7 c8 c9
 go_enter Tryz.func140, Tryz.ntmps140
 go_wp2
 rw [HW.out]
 try simp only [List.append_eq, List.cons_append, List.nil_append]
 have hBd := hBc.drew
 replace hBc := hBd
 clear hBd
 refine wp_region_held_drew (S := (fun w' => w'.cell? ⟨w.heap.size, 0, none⟩ = some (.int .i64 r) ∧ w'.cell? ⟨w.heap.size, 1, none⟩ = some (.int .i64 s) ∧ w'.cell? ⟨w.heap.size, 2, none⟩ = some (.int .i64 t) ∧ w'.cell? ⟨w.heap.size, 3, none⟩ = some (.slice aa l.length ca) ∧ w'.cell? ⟨w.heap.size, 4, none⟩ = some (.int .i64 k) ∧ w'.cell? ⟨w.heap.size, 5, none⟩ = some (.string o) ∧ w'.cell? ⟨w.heap.size, 6, none⟩ = some (.string y) ∧ w'.cell? ⟨w.heap.size, 7, none⟩ = some (.int .i64 v) ∧ w'.cell? ⟨w.heap.size, 8, none⟩ = some (.int .i64 x) ∧ w'.cell? ⟨w.heap.size, 9, none⟩ = some (.int .i64 z))) (by kernel_rfl) (HS.out _ hBc) (fun _ => ?_)
 refine wpAnyH_list (l' := #[false, false, false, false, false, false, false, false, false, false, false, false, false, false, false, false, false, false, false, false, false, false, false, false, false, false, false, false, false, false, false, false, false, false, false, false, false, false, false, false, false, false]) (by as_aux_lemma => kernel_rfl) ?_
 refine tk 0 qaoksax0 (HS.out _ hBc) ?_; simp only [sq]; refine tk 1 qaoksax1 (HS.out _ hBc) ?_; simp only [sq]
 refine rd 2 qaoksax2 (fun K hK => ?_)
 go_simp
 refine (HDC.out _).mono ?_
 rintro e wn ⟨rfl, hbn⟩
 replace hBc := hBc.trans (hbn.mono hBc.size)
 clear hbn
 try go_wp2_with fail
 refine hK.out _ _ (HS.out _ hBc) (fun _ => ?_)
 clear hK K
 try simp only [s1, s2, s3]
 refine tk 3 qaoksax3 (HS.out _ hBc) ?_; simp only [sq]; refine tk 4 qaoksax4 (HS.out _ hBc) ?_; simp only [sq]; refine sk 5 qaoksax5 (HS.out _ hBc) ?_; simp only [sq]; refine sk 6 qaoksax6 (HS.out _ hBc) ?_; simp only [sq]; refine sc 7 qaoksax7 (HS.out _ hBc) ?_; simp only [sq]; refine sk 8 qaoksax8 (HS.out _ hBc) ?_; simp only [sq]; refine tk 9 qaoksax9 (HS.out _ hBc) ?_; simp only [sq]; refine tk 10 qaoksax10 (HS.out _ hBc) ?_; simp only [sq]; refine sk 11 qaoksax11 (HS.out _ hBc) ?_; simp only [sq]; refine sk 12 qaoksax12 (HS.out _ hBc) ?_; simp only [sq]; refine sk 13 qaoksax13 (HS.out _ hBc) ?_; simp only [sq]; refine sk 14 qaoksax14 (HS.out _ hBc) ?_; simp only [sq]; refine sk 15 qaoksax15 (HS.out _ hBc) ?_; simp only [sq]; refine sk 16 qaoksax16 (HS.out _ hBc) ?_; simp only [sq]; refine sk 17 qaoksax17 (HS.out _ hBc) ?_; simp only [sq]; refine sk 18 qaoksax18 (HS.out _ hBc) ?_; simp only [sq]; refine sk 19 qaoksax19 (HS.out _ hBc) ?_; simp only [sq]; refine sk 20 qaoksax20 (HS.out _ hBc) ?_; simp only [sq]; refine sk 21 qaoksax21 (HS.out _ hBc) ?_; simp only [sq]; refine sk 22 qaoksax22 (HS.out _ hBc) ?_; simp only [sq]; refine tk 23 qaoksax23 (HS.out _ hBc) ?_; simp only [sq]; refine tk 24 qaoksax24 (HS.out _ hBc) ?_; simp only [sq]; refine sk 25 qaoksax25 (HS.out _ hBc) ?_; simp only [sq]; refine sk 26 qaoksax26 (HS.out _ hBc) ?_; simp only [sq]; refine sc 27 qaoksax27 (HS.out _ hBc) ?_; simp only [sq]; refine sk 28 qaoksax28 (HS.out _ hBc) ?_; simp only [sq]; refine tk 29 qaoksax29 (HS.out _ hBc) ?_; simp only [sq]; refine tk 30 qaoksax30 (HS.out _ hBc) ?_; simp only [sq]; refine sk 31 qaoksax31 (HS.out _ hBc) ?_; simp only [sq]; refine sk 32 qaoksax32 (HS.out _ hBc) ?_; simp only [sq]; refine sk 33 qaoksax33 (HS.out _ hBc) ?_; simp only [sq]; refine sk 34 qaoksax34 (HS.out _ hBc) ?_; simp only [sq]; refine sk 35 qaoksax35 (HS.out _ hBc) ?_; simp only [sq]; refine sk 36 qaoksax36 (HS.out _ hBc) ?_; simp only [sq]; refine sk 37 qaoksax37 (HS.out _ hBc) ?_; simp only [sq]; refine sk 38 qaoksax38 (HS.out _ hBc) ?_; simp only [sq]; refine sc 39 qaoksax39 (HS.out _ hBc) ?_; simp only [sq]; refine sk 40 qaoksax40 (HS.out _ hBc) ?_; simp only [sq]; refine tk 41 qaoksax41 (HS.out _ hBc) ?_; simp only [sq]
 refine wpAnyH_done (by as_aux_lemma => kernel_rfl) ?_ _
 go_wp2
 go_ret
 exact ⟨rfl, HF.out _ hBc⟩
end Go.Proofs.YtdknoflkingodaaGreat
namespace Go.Proofs.YtdknoflkingodaaGreat
set_option maxRecDepth 100000
set_option linter.unusedVariables false
open Go.RowKit
abbrev qaoksbx0 : Oper := oq 3 (.fieldAddr 62 (.tmp 1) 0) 0 "l05_act.go:29" #[] none
abbrev qaoksbx1 : Oper := oq 4 (.load 33 (.tmp 3)) 33 "l05_act.go:29" #[eD 0] none
abbrev qaoksbx2 : Oper := oq 5 (.call ⟨.value (.func 88), #[.tmp 4], #[33]⟩) 4 "l05_act.go:29" #[eD 1] none
abbrev qaoksbx3 : Oper := oq 6 (.unOp .not 4 (.tmp 5)) 4 "l05_act.go:29" #[eD 2] none
abbrev qaoksbx4 : Oper := oq 7 (.move (.tmp 6)) 4 "l05_act.go:29" #[eD 3, eC 2] none
abbrev qaoksbx5 : Oper := oq 8 (.fieldAddr 62 (.tmp 1) 2) 0 "l05_act.go:29" #[eG 4] (some (4, false))
abbrev qaoksbx6 : Oper := oq 9 (.load 24 (.tmp 8)) 24 "l05_act.go:29" #[eD 5, eG 4] (some (4, false))
abbrev qaoksbx7 : Oper := oq 10 (.call ⟨.value (.func 77), #[.tmp 9], #[24]⟩) 4 "l05_act.go:29" #[eD 6, eC 4, eG 4] (some (4, false))
abbrev qaoksbx8 : Oper := oq 11 (.unOp .not 4 (.tmp 10)) 4 "l05_act.go:29" #[eD 7, eG 4] (some (4, false))
abbrev qaoksbx9 : Oper := oq 12 (.pick (.tmp 7) (.const (.bool true)) (.tmp 11)) 4 "l05_act.go:29" #[eD 4, eD 8] none
abbrev qaoksbx10 : Oper := oq 13 (.move (.tmp 12)) 4 "l05_act.go:29" #[eD 9, eC 7] none
abbrev qaoksbx11 : Oper := oq 14 (.fieldAddr 62 (.tmp 1) 2) 0 "l05_act.go:29" #[eG 10] (some (10, false))
abbrev qaoksbx12 : Oper := oq 15 (.load 24 (.tmp 14)) 24 "l05_act.go:29" #[eD 11, eG 10] (some (10, false))
abbrev qaoksbx13 : Oper := oq 16 (.fieldAddr 62 (.tmp 1) 0) 0 "l05_act.go:29" #[eG 10] (some (10, false))
abbrev qaoksbx14 : Oper := oq 17 (.fieldAddr 33 (.tmp 16) 0) 0 "l05_act.go:29" #[eD 13, eG 10] (some (10, false))
abbrev qaoksbx15 : Oper := oq 18 (.load 3 (.tmp 17)) 3 "l05_act.go:29" #[eD 14, eG 10] (some (10, false))
abbrev qaoksbx16 : Oper := oq 19 (.indexAddr 24 (.tmp 15) (.tmp 18)) 0 "l05_act.go:29" #[eD 12, eD 15, eG 10] (some (10, false))
abbrev qaoksbx17 : Oper := oq 20 (.load 3 (.tmp 19)) 3 "l05_act.go:29" #[eD 16, eG 10] (some (10, false))
abbrev qaoksbx18 : Oper := oq 21 (.fieldAddr 62 (.tmp 1) 0) 0 "l05_act.go:29" #[eG 10] (some (10, false))
abbrev qaoksbx19 : Oper := oq 22 (.fieldAddr 33 (.tmp 21) 1) 0 "l05_act.go:29" #[eD 18, eG 10] (some (10, false))
abbrev qaoksbx20 : Oper := oq 23 (.load 3 (.tmp 22)) 3 "l05_act.go:29" #[eD 19, eG 10] (some (10, false))
abbrev qaoksbx21 : Oper := oq 24 (.binOp .sub 3 (.tmp 23) (.const (.int .i64 1)) 3) 3 "l05_act.go:29" #[eD 20, eG 10] (some (10, false))
abbrev qaoksbx22 : Oper := oq 25 (.binOp .neq 3 (.tmp 20) (.tmp 24) 3) 4 "l05_act.go:29" #[eD 17, eD 21, eG 10] (some (10, false))
abbrev qaoksbx23 : Oper := oq 26 (.pick (.tmp 13) (.const (.bool true)) (.tmp 25)) 4 "l05_act.go:29" #[eD 10, eD 22] none
abbrev qaoksbx24 : Oper := oq 27 (.move (.tmp 26)) 4 "l05_act.go:29" #[eD 23, eC 10] none
abbrev qaoksbx25 : Oper := oq 28 (.fieldAddr 62 (.tmp 1) 1) 0 "l05_act.go:29" #[eG 24] (some (24, false))
abbrev qaoksbx26 : Oper := oq 29 (.load 3 (.tmp 28)) 3 "l05_act.go:29" #[eD 25, eG 24] (some (24, false))
abbrev qaoksbx27 : Oper := oq 30 (.call ⟨.value (.func 126), #[.tmp 29, .const (.int .i64 1), .const (.int .i64 10000)], #[3, 3, 3]⟩) 4 "l05_act.go:29" #[eD 26, eC 24, eG 24] (some (24, false))
abbrev qaoksbx28 : Oper := oq 31 (.unOp .not 4 (.tmp 30)) 4 "l05_act.go:29" #[eD 27, eG 24] (some (24, false))
abbrev qaoksbx29 : Oper := oq 32 (.pick (.tmp 27) (.const (.bool true)) (.tmp 31)) 4 "l05_act.go:29" #[eD 24, eD 28] none
abbrev qaoksbx30 : Oper := oq 33 (.move (.tmp 32)) 4 "l05_act.go:29" #[eD 29, eC 27] none
abbrev qaoksbx31 : Oper := oq 34 (.fieldAddr 62 (.tmp 1) 3) 0 "l05_act.go:29" #[eG 30] (some (30, false))
abbrev qaoksbx32 : Oper := oq 35 (.load 3 (.tmp 34)) 3 "l05_act.go:29" #[eD 31, eG 30] (some (30, false))
abbrev qaoksbx33 : Oper := oq 36 (.fieldAddr 62 (.tmp 1) 4) 0 "l05_act.go:29" #[eG 30] (some (30, false))
abbrev qaoksbx34 : Oper := oq 37 (.load 9 (.tmp 36)) 9 "l05_act.go:29" #[eD 33, eG 30] (some (30, false))
abbrev qaoksbx35 : Oper := oq 38 (.fieldAddr 62 (.tmp 1) 5) 0 "l05_act.go:29" #[eG 30] (some (30, false))
abbrev qaoksbx36 : Oper := oq 39 (.load 9 (.tmp 38)) 9 "l05_act.go:29" #[eD 35, eG 30] (some (30, false))
abbrev qaoksbx37 : Oper := oq 40 (.fieldAddr 62 (.tmp 1) 6) 0 "l05_act.go:29" #[eG 30] (some (30, false))
abbrev qaoksbx38 : Oper := oq 41 (.load 3 (.tmp 40)) 3 "l05_act.go:29" #[eD 37, eG 30] (some (30, false))
abbrev qaoksbx39 : Oper := oq 42 (.call ⟨.value (.func 192), #[.tmp 35, .tmp 37, .tmp 39, .tmp 41], #[3, 9, 9, 3]⟩) 4 "l05_act.go:29" #[eD 32, eD 34, eD 36, eD 38, eC 30, eG 30] (some (30, false))
abbrev qaoksbx40 : Oper := oq 43 (.unOp .not 4 (.tmp 42)) 4 "l05_act.go:29" #[eD 39, eG 30] (some (30, false))
abbrev qaoksbx41 : Oper := oq 44 (.pick (.tmp 33) (.const (.bool true)) (.tmp 43)) 4 "l05_act.go:29" #[eD 30, eD 40] none
set_option maxHeartbeats 8000000 in
theorem sAct_b (r s t k v x z : Int) (o y : ByteArray) (l : List Int) (u : Value) (w : World) (hl : l.length ≤ 1048576) (ho : o.size ≤ 1048576) (hy : y.size ≤ 1048576) (hu : IntsAt w u l) (hd : DOk r s) (hk : ¬ (KOk l)) :
  Calls Tryz.prog 140 #[.agg #[.int .i64 r, .int .i64 s, .int .i64 t, u, .int .i64 k, .string o, .string y, .int .i64 v, .int .i64 x, .int .i64 z]] w fun e w' => e = .returned (.bool (decide (AOk ⟨r, s, t, k, v, x, z, o, y, l⟩))) ∧ Below w.heap.size w w' := by
 obtain ⟨q, hq⟩ : ∃ q, q = decide (AOk ⟨r, s, t, k, v, x, z, o, y, l⟩) := ⟨_, rfl⟩
 rw [← hq]
 have HNO : Hid (¬ (DOk r s ∧ KOk l ∧ l.getD r.toNat 0 = s - 1 ∧ (1 ≤ t ∧ t ≤ 10000) ∧ PlainOk k o y v ∧ RefOk l k x z) → q = false) := fun h => by rw [hq]; exact decide_eq_false h
 have HQ : Hid (q = decide (DOk r s ∧ KOk l ∧ l.getD r.toNat 0 = s - 1 ∧ (1 ≤ t ∧ t ≤ 10000) ∧ PlainOk k o y v ∧ RefOk l k x z)) := hq
 clear hq
 have mo : o.size ≤ maxLen := by unfold maxLen; omega
 have my : y.size ≤ maxLen := by unfold maxLen; omega
 have hlc : l.length ≤ 1048576 := hl
 obtain ⟨aa, ca, rfl, hug⟩ := id hu
 obtain ⟨W, hW⟩ : ∃ W, W = w.alloc (.cells #[.int .i64 r, .int .i64 s, .int .i64 t, .slice aa l.length ca, .int .i64 k, .string o, .string y, .int .i64 v, .int .i64 x, .int .i64 z] 62) := ⟨_, rfl⟩
 have hR : Row W w.heap.size #[.int .i64 r, .int .i64 s, .int .i64 t, .slice aa l.length ca, .int .i64 k, .string o, .string y, .int .i64 v, .int .i64 x, .int .i64 z] 62 := by rw [hW]; exact row_new _ _ _ rfl
 have hI : IntsAt W (.slice aa l.length ca) l := by rw [hW]; exact hu.alloc _
 have HBW : Hid (Below w.heap.size w W) := by rw [hW]; exact (Below.refl _ _).alloc (Nat.le_refl _) _
 have HW : Hid (w.alloc (.cells #[.int .i64 r, .int .i64 s, .int .i64 t, .slice aa l.length ca, .int .i64 k, .string o, .string y, .int .i64 v, .int .i64 x, .int .i64 z] 62) = W) := hW.symm
 have HC : Hid (∀ wx, Below W.heap.size W wx → wx.cell? ⟨w.heap.size, 0, none⟩ = some (.int .i64 r) ∧ wx.cell? ⟨w.heap.size, 1, none⟩ = some (.int .i64 s) ∧ wx.cell? ⟨w.heap.size, 2, none⟩ = some (.int .i64 t) ∧ wx.cell? ⟨w.heap.size, 3, none⟩ = some (.slice aa l.length ca) ∧ wx.cell? ⟨w.heap.size, 4, none⟩ = some (.int .i64 k) ∧ wx.cell? ⟨w.heap.size, 5, none⟩ = some (.string o) ∧ wx.cell? ⟨w.heap.size, 6, none⟩ = some (.string y) ∧ wx.cell? ⟨w.heap.size, 7, none⟩ = some (.int .i64 v) ∧ wx.cell? ⟨w.heap.size, 8, none⟩ = some (.int .i64 x) ∧ wx.cell? ⟨w.heap.size, 9, none⟩ = some (.int .i64 z)) := fun wx h => Row.ten (hR.next h)
 have HI : Hid (∀ wx, Below W.heap.size W wx → IntsAt wx (.slice aa l.length ca) l) := fun wx h => hI.below h
 have HF : Hid (∀ wx, Below W.heap.size W wx → Below w.heap.size w wx) := fun wx h => HBW.out.trans (h.mono HBW.out.size)
 have HDC : Hid (∀ wx, Calls Tryz.prog 88 #[.agg #[.int .i64 r, .int .i64 s]] wx fun e w' => e = .returned (.bool (decide (DOk r s))) ∧ Below wx.heap.size wx w') := fun wx => specDotOk_calls r s wx
 have HKC : Hid (∀ wx, Below W.heap.size W wx → Calls Tryz.prog 77 #[.slice aa l.length ca] wx fun e w' => e = .returned (.bool (decide (KOk l))) ∧ Below wx.heap.size wx w') := fun wx h => (specKnowOk_calls l _ wx hlc (HI.out wx h)).mono (by rintro e w' ⟨rfl, rfl⟩; exact ⟨rfl, Below.refl _ _⟩)
 have hBc : Below W.heap.size W W := Below.refl _ _
 obtain ⟨c0, c1, c2, c3, c4, c5, c6, c7, c8, c9⟩ := HC.out _ hBc
 clear hW hu hR hl ho hy
 rw [decide_eq_true hd] at HDC
 obtain rfl : q = false := HNO.out (fun h => hk h.2.1)
 rw [decide_eq_false hk] at HKC
 have HS : Hid (∀ wx, Below W.heap.size W wx → wx.cell? ⟨w.heap.size, 0, none⟩ = some (.int .i64 r) ∧ wx.cell? ⟨w.heap.size, 1, none⟩ = some (.int .i64 s) ∧ wx.cell? ⟨w.heap.size, 2, none⟩ = some (.int .i64 t) ∧ wx.cell? ⟨w.heap.size, 3, none⟩ = some (.slice aa l.length ca) ∧ wx.cell? ⟨w.heap.size, 4, none⟩ = some (.int .i64 k) ∧ wx.cell? ⟨w.heap.size, 5, none⟩ = some (.string o) ∧ wx.cell? ⟨w.heap.size, 6, none⟩ = some (.string y) ∧ wx.cell? ⟨w.heap.size, 7, none⟩ = some (.int .i64 v) ∧ wx.cell? ⟨w.heap.size, 8, none⟩ = some (.int .i64 x) ∧ wx.cell? ⟨w.heap.size, 9, none⟩ = some (.int .i64 z)) := fun wx h => HC.out wx h
 clear HQ HNO hd hk
 go_enter Tryz.func140, Tryz.ntmps140
 go_wp2
 rw [HW.out]
 try simp only [List.append_eq, List.cons_append, List.nil_append]
 have hBd := hBc.drew
 replace hBc := hBd
 clear hBd
 refine wp_region_held_drew (S := (fun w' => w'.cell? ⟨w.heap.size, 0, none⟩ = some (.int .i64 r) ∧ w'.cell? ⟨w.heap.size, 1, none⟩ = some (.int .i64 s) ∧ w'.cell? ⟨w.heap.size, 2, none⟩ = some (.int .i64 t) ∧ w'.cell? ⟨w.heap.size, 3, none⟩ = some (.slice aa l.length ca) ∧ w'.cell? ⟨w.heap.size, 4, none⟩ = some (.int .i64 k) ∧ w'.cell? ⟨w.heap.size, 5, none⟩ = some (.string o) ∧ w'.cell? ⟨w.heap.size, 6, none⟩ = some (.string y) ∧ w'.cell? ⟨w.heap.size, 7, none⟩ = some (.int .i64 v) ∧ w'.cell? ⟨w.heap.size, 8, none⟩ = some (.int .i64 x) ∧ w'.cell? ⟨w.heap.size, 9, none⟩ = some (.int .i64 z))) (by kernel_rfl) (HS.out _ hBc) (fun _ => ?_)
 refine wpAnyH_list (l' := #[false, false, false, false, false, false, false, false, false, false, false, false, false, false, false, false, false, false, false, false, false, false, false, false, false, false, false, false, false, false, false, false, false, false, false, false, false, false, false, false, false, false]) (by as_aux_lemma => kernel_rfl) ?_
 refine tk 0 qaoksbx0 (HS.out _ hBc) ?_; simp only [sq]; refine tk 1 qaoksbx1 (HS.out _ hBc) ?_; simp only [sq]
 refine rd 2 qaoksbx2 (fun K hK => ?_)
 go_simp
 refine (HDC.out _).mono ?_
 rintro e wn ⟨rfl, hbn⟩
 replace hBc := hBc.trans (hbn.mono hBc.size)
 clear hbn
 try go_wp2_with fail
 refine hK.out _ _ (HS.out _ hBc) (fun _ => ?_)
 clear hK K
 try simp only [s1, s2, s3]
 refine tk 3 qaoksbx3 (HS.out _ hBc) ?_; simp only [sq]; refine tk 4 qaoksbx4 (HS.out _ hBc) ?_; simp only [sq]; refine tk 5 qaoksbx5 (HS.out _ hBc) ?_; simp only [sq]; refine tk 6 qaoksbx6 (HS.out _ hBc) ?_; simp only [sq]
 refine rd 7 qaoksbx7 (fun K hK => ?_)
 go_simp
 refine (HKC.out _ hBc).mono ?_
 rintro e wn ⟨rfl, hbn⟩
 replace hBc := hBc.trans (hbn.mono hBc.size)
 clear hbn
 try go_wp2_with fail
 refine hK.out _ _ (HS.out _ hBc) (fun _ => ?_)
 clear hK K
 try simp only [s1, s2, s3]
 refine tk 8 qaoksbx8 (HS.out _ hBc) ?_; simp only [sq]; refine tk 9 qaoksbx9 (HS.out _ hBc) ?_; simp only [sq]; refine tk 10 qaoksbx10 (HS.out _ hBc) ?_; simp only [sq]; refine sk 11 qaoksbx11 (HS.out _ hBc) ?_; simp only [sq]; refine sk 12 qaoksbx12 (HS.out _ hBc) ?_; simp only [sq]; refine sk 13 qaoksbx13 (HS.out _ hBc) ?_; simp only [sq]; refine sk 14 qaoksbx14 (HS.out _ hBc) ?_; simp only [sq]; refine sk 15 qaoksbx15 (HS.out _ hBc) ?_; simp only [sq]; refine sk 16 qaoksbx16 (HS.out _ hBc) ?_; simp only [sq]; refine sk 17 qaoksbx17 (HS.out _ hBc) ?_; simp only [sq]; refine sk 18 qaoksbx18 (HS.out _ hBc) ?_; simp only [sq]; refine sk 19 qaoksbx19 (HS.out _ hBc) ?_; simp only [sq]; refine sk 20 qaoksbx20 (HS.out _ hBc) ?_; simp only [sq]; refine sk 21 qaoksbx21 (HS.out _ hBc) ?_; simp only [sq]; refine sk 22 qaoksbx22 (HS.out _ hBc) ?_; simp only [sq]; refine tk 23 qaoksbx23 (HS.out _ hBc) ?_; simp only [sq]; refine tk 24 qaoksbx24 (HS.out _ hBc) ?_; simp only [sq]; refine sk 25 qaoksbx25 (HS.out _ hBc) ?_; simp only [sq]; refine sk 26 qaoksbx26 (HS.out _ hBc) ?_; simp only [sq]; refine sc 27 qaoksbx27 (HS.out _ hBc) ?_; simp only [sq]; refine sk 28 qaoksbx28 (HS.out _ hBc) ?_; simp only [sq]; refine tk 29 qaoksbx29 (HS.out _ hBc) ?_; simp only [sq]; refine tk 30 qaoksbx30 (HS.out _ hBc) ?_; simp only [sq]; refine sk 31 qaoksbx31 (HS.out _ hBc) ?_; simp only [sq]; refine sk 32 qaoksbx32 (HS.out _ hBc) ?_; simp only [sq]; refine sk 33 qaoksbx33 (HS.out _ hBc) ?_; simp only [sq]; refine sk 34 qaoksbx34 (HS.out _ hBc) ?_; simp only [sq]; refine sk 35 qaoksbx35 (HS.out _ hBc) ?_; simp only [sq]; refine sk 36 qaoksbx36 (HS.out _ hBc) ?_; simp only [sq]; refine sk 37 qaoksbx37 (HS.out _ hBc) ?_; simp only [sq]; refine sk 38 qaoksbx38 (HS.out _ hBc) ?_; simp only [sq]; refine sc 39 qaoksbx39 (HS.out _ hBc) ?_; simp only [sq]; refine sk 40 qaoksbx40 (HS.out _ hBc) ?_; simp only [sq]; refine tk 41 qaoksbx41 (HS.out _ hBc) ?_; simp only [sq]
 refine wpAnyH_done (by as_aux_lemma => kernel_rfl) ?_ _
 go_wp2
 go_ret
 exact ⟨rfl, HF.out _ hBc⟩
end Go.Proofs.YtdknoflkingodaaGreat
namespace Go.Proofs.YtdknoflkingodaaGreat
set_option maxRecDepth 100000
set_option linter.unusedVariables false
open Go.RowKit
abbrev qaokscx0 : Oper := oq 3 (.fieldAddr 62 (.tmp 1) 0) 0 "l05_act.go:29" #[] none
abbrev qaokscx1 : Oper := oq 4 (.load 33 (.tmp 3)) 33 "l05_act.go:29" #[eD 0] none
abbrev qaokscx2 : Oper := oq 5 (.call ⟨.value (.func 88), #[.tmp 4], #[33]⟩) 4 "l05_act.go:29" #[eD 1] none
abbrev qaokscx3 : Oper := oq 6 (.unOp .not 4 (.tmp 5)) 4 "l05_act.go:29" #[eD 2] none
abbrev qaokscx4 : Oper := oq 7 (.move (.tmp 6)) 4 "l05_act.go:29" #[eD 3, eC 2] none
abbrev qaokscx5 : Oper := oq 8 (.fieldAddr 62 (.tmp 1) 2) 0 "l05_act.go:29" #[eG 4] (some (4, false))
abbrev qaokscx6 : Oper := oq 9 (.load 24 (.tmp 8)) 24 "l05_act.go:29" #[eD 5, eG 4] (some (4, false))
abbrev qaokscx7 : Oper := oq 10 (.call ⟨.value (.func 77), #[.tmp 9], #[24]⟩) 4 "l05_act.go:29" #[eD 6, eC 4, eG 4] (some (4, false))
abbrev qaokscx8 : Oper := oq 11 (.unOp .not 4 (.tmp 10)) 4 "l05_act.go:29" #[eD 7, eG 4] (some (4, false))
abbrev qaokscx9 : Oper := oq 12 (.pick (.tmp 7) (.const (.bool true)) (.tmp 11)) 4 "l05_act.go:29" #[eD 4, eD 8] none
abbrev qaokscx10 : Oper := oq 13 (.move (.tmp 12)) 4 "l05_act.go:29" #[eD 9, eC 7] none
abbrev qaokscx11 : Oper := oq 14 (.fieldAddr 62 (.tmp 1) 2) 0 "l05_act.go:29" #[eG 10] (some (10, false))
abbrev qaokscx12 : Oper := oq 15 (.load 24 (.tmp 14)) 24 "l05_act.go:29" #[eD 11, eG 10] (some (10, false))
abbrev qaokscx13 : Oper := oq 16 (.fieldAddr 62 (.tmp 1) 0) 0 "l05_act.go:29" #[eG 10] (some (10, false))
abbrev qaokscx14 : Oper := oq 17 (.fieldAddr 33 (.tmp 16) 0) 0 "l05_act.go:29" #[eD 13, eG 10] (some (10, false))
abbrev qaokscx15 : Oper := oq 18 (.load 3 (.tmp 17)) 3 "l05_act.go:29" #[eD 14, eG 10] (some (10, false))
abbrev qaokscx16 : Oper := oq 19 (.indexAddr 24 (.tmp 15) (.tmp 18)) 0 "l05_act.go:29" #[eD 12, eD 15, eG 10] (some (10, false))
abbrev qaokscx17 : Oper := oq 20 (.load 3 (.tmp 19)) 3 "l05_act.go:29" #[eD 16, eG 10] (some (10, false))
abbrev qaokscx18 : Oper := oq 21 (.fieldAddr 62 (.tmp 1) 0) 0 "l05_act.go:29" #[eG 10] (some (10, false))
abbrev qaokscx19 : Oper := oq 22 (.fieldAddr 33 (.tmp 21) 1) 0 "l05_act.go:29" #[eD 18, eG 10] (some (10, false))
abbrev qaokscx20 : Oper := oq 23 (.load 3 (.tmp 22)) 3 "l05_act.go:29" #[eD 19, eG 10] (some (10, false))
abbrev qaokscx21 : Oper := oq 24 (.binOp .sub 3 (.tmp 23) (.const (.int .i64 1)) 3) 3 "l05_act.go:29" #[eD 20, eG 10] (some (10, false))
abbrev qaokscx22 : Oper := oq 25 (.binOp .neq 3 (.tmp 20) (.tmp 24) 3) 4 "l05_act.go:29" #[eD 17, eD 21, eG 10] (some (10, false))
abbrev qaokscx23 : Oper := oq 26 (.pick (.tmp 13) (.const (.bool true)) (.tmp 25)) 4 "l05_act.go:29" #[eD 10, eD 22] none
abbrev qaokscx24 : Oper := oq 27 (.move (.tmp 26)) 4 "l05_act.go:29" #[eD 23, eC 10] none
abbrev qaokscx25 : Oper := oq 28 (.fieldAddr 62 (.tmp 1) 1) 0 "l05_act.go:29" #[eG 24] (some (24, false))
abbrev qaokscx26 : Oper := oq 29 (.load 3 (.tmp 28)) 3 "l05_act.go:29" #[eD 25, eG 24] (some (24, false))
abbrev qaokscx27 : Oper := oq 30 (.call ⟨.value (.func 126), #[.tmp 29, .const (.int .i64 1), .const (.int .i64 10000)], #[3, 3, 3]⟩) 4 "l05_act.go:29" #[eD 26, eC 24, eG 24] (some (24, false))
abbrev qaokscx28 : Oper := oq 31 (.unOp .not 4 (.tmp 30)) 4 "l05_act.go:29" #[eD 27, eG 24] (some (24, false))
abbrev qaokscx29 : Oper := oq 32 (.pick (.tmp 27) (.const (.bool true)) (.tmp 31)) 4 "l05_act.go:29" #[eD 24, eD 28] none
abbrev qaokscx30 : Oper := oq 33 (.move (.tmp 32)) 4 "l05_act.go:29" #[eD 29, eC 27] none
abbrev qaokscx31 : Oper := oq 34 (.fieldAddr 62 (.tmp 1) 3) 0 "l05_act.go:29" #[eG 30] (some (30, false))
abbrev qaokscx32 : Oper := oq 35 (.load 3 (.tmp 34)) 3 "l05_act.go:29" #[eD 31, eG 30] (some (30, false))
abbrev qaokscx33 : Oper := oq 36 (.fieldAddr 62 (.tmp 1) 4) 0 "l05_act.go:29" #[eG 30] (some (30, false))
abbrev qaokscx34 : Oper := oq 37 (.load 9 (.tmp 36)) 9 "l05_act.go:29" #[eD 33, eG 30] (some (30, false))
abbrev qaokscx35 : Oper := oq 38 (.fieldAddr 62 (.tmp 1) 5) 0 "l05_act.go:29" #[eG 30] (some (30, false))
abbrev qaokscx36 : Oper := oq 39 (.load 9 (.tmp 38)) 9 "l05_act.go:29" #[eD 35, eG 30] (some (30, false))
abbrev qaokscx37 : Oper := oq 40 (.fieldAddr 62 (.tmp 1) 6) 0 "l05_act.go:29" #[eG 30] (some (30, false))
abbrev qaokscx38 : Oper := oq 41 (.load 3 (.tmp 40)) 3 "l05_act.go:29" #[eD 37, eG 30] (some (30, false))
abbrev qaokscx39 : Oper := oq 42 (.call ⟨.value (.func 192), #[.tmp 35, .tmp 37, .tmp 39, .tmp 41], #[3, 9, 9, 3]⟩) 4 "l05_act.go:29" #[eD 32, eD 34, eD 36, eD 38, eC 30, eG 30] (some (30, false))
abbrev qaokscx40 : Oper := oq 43 (.unOp .not 4 (.tmp 42)) 4 "l05_act.go:29" #[eD 39, eG 30] (some (30, false))
abbrev qaokscx41 : Oper := oq 44 (.pick (.tmp 33) (.const (.bool true)) (.tmp 43)) 4 "l05_act.go:29" #[eD 30, eD 40] none
set_option maxHeartbeats 8000000 in
theorem sAct_c (r s t k v x z : Int) (o y : ByteArray) (l : List Int) (u : Value) (w : World) (hl : l.length ≤ 1048576) (ho : o.size ≤ 1048576) (hy : y.size ≤ 1048576) (hu : IntsAt w u l) (hd : DOk r s) (hk : KOk l) (hxe : ¬ (l.getD r.toNat 0 = s - 1)) :
  Calls Tryz.prog 140 #[.agg #[.int .i64 r, .int .i64 s, .int .i64 t, u, .int .i64 k, .string o, .string y, .int .i64 v, .int .i64 x, .int .i64 z]] w fun e w' => e = .returned (.bool (decide (AOk ⟨r, s, t, k, v, x, z, o, y, l⟩))) ∧ Below w.heap.size w w' := by
 obtain ⟨q, hq⟩ : ∃ q, q = decide (AOk ⟨r, s, t, k, v, x, z, o, y, l⟩) := ⟨_, rfl⟩
 rw [← hq]
 have HNO : Hid (¬ (DOk r s ∧ KOk l ∧ l.getD r.toNat 0 = s - 1 ∧ (1 ≤ t ∧ t ≤ 10000) ∧ PlainOk k o y v ∧ RefOk l k x z) → q = false) := fun h => by rw [hq]; exact decide_eq_false h
 have HQ : Hid (q = decide (DOk r s ∧ KOk l ∧ l.getD r.toNat 0 = s - 1 ∧ (1 ≤ t ∧ t ≤ 10000) ∧ PlainOk k o y v ∧ RefOk l k x z)) := hq
 clear hq
 have mo : o.size ≤ maxLen := by unfold maxLen; omega
 have my : y.size ≤ maxLen := by unfold maxLen; omega
 have hlc : l.length ≤ 1048576 := hl
 obtain ⟨aa, ca, rfl, hug⟩ := id hu
 obtain ⟨W, hW⟩ : ∃ W, W = w.alloc (.cells #[.int .i64 r, .int .i64 s, .int .i64 t, .slice aa l.length ca, .int .i64 k, .string o, .string y, .int .i64 v, .int .i64 x, .int .i64 z] 62) := ⟨_, rfl⟩
 have hR : Row W w.heap.size #[.int .i64 r, .int .i64 s, .int .i64 t, .slice aa l.length ca, .int .i64 k, .string o, .string y, .int .i64 v, .int .i64 x, .int .i64 z] 62 := by rw [hW]; exact row_new _ _ _ rfl
 have hI : IntsAt W (.slice aa l.length ca) l := by rw [hW]; exact hu.alloc _
 have HBW : Hid (Below w.heap.size w W) := by rw [hW]; exact (Below.refl _ _).alloc (Nat.le_refl _) _
 have HW : Hid (w.alloc (.cells #[.int .i64 r, .int .i64 s, .int .i64 t, .slice aa l.length ca, .int .i64 k, .string o, .string y, .int .i64 v, .int .i64 x, .int .i64 z] 62) = W) := hW.symm
 have HC : Hid (∀ wx, Below W.heap.size W wx → wx.cell? ⟨w.heap.size, 0, none⟩ = some (.int .i64 r) ∧ wx.cell? ⟨w.heap.size, 1, none⟩ = some (.int .i64 s) ∧ wx.cell? ⟨w.heap.size, 2, none⟩ = some (.int .i64 t) ∧ wx.cell? ⟨w.heap.size, 3, none⟩ = some (.slice aa l.length ca) ∧ wx.cell? ⟨w.heap.size, 4, none⟩ = some (.int .i64 k) ∧ wx.cell? ⟨w.heap.size, 5, none⟩ = some (.string o) ∧ wx.cell? ⟨w.heap.size, 6, none⟩ = some (.string y) ∧ wx.cell? ⟨w.heap.size, 7, none⟩ = some (.int .i64 v) ∧ wx.cell? ⟨w.heap.size, 8, none⟩ = some (.int .i64 x) ∧ wx.cell? ⟨w.heap.size, 9, none⟩ = some (.int .i64 z)) := fun wx h => Row.ten (hR.next h)
 have HI : Hid (∀ wx, Below W.heap.size W wx → IntsAt wx (.slice aa l.length ca) l) := fun wx h => hI.below h
 have HF : Hid (∀ wx, Below W.heap.size W wx → Below w.heap.size w wx) := fun wx h => HBW.out.trans (h.mono HBW.out.size)
 have HDC : Hid (∀ wx, Calls Tryz.prog 88 #[.agg #[.int .i64 r, .int .i64 s]] wx fun e w' => e = .returned (.bool (decide (DOk r s))) ∧ Below wx.heap.size wx w') := fun wx => specDotOk_calls r s wx
 have HKC : Hid (∀ wx, Below W.heap.size W wx → Calls Tryz.prog 77 #[.slice aa l.length ca] wx fun e w' => e = .returned (.bool (decide (KOk l))) ∧ Below wx.heap.size wx w') := fun wx h => (specKnowOk_calls l _ wx hlc (HI.out wx h)).mono (by rintro e w' ⟨rfl, rfl⟩; exact ⟨rfl, Below.refl _ _⟩)
 have hBc : Below W.heap.size W W := Below.refl _ _
 obtain ⟨c0, c1, c2, c3, c4, c5, c6, c7, c8, c9⟩ := HC.out _ hBc
 clear hW hu hR hl ho hy
 rw [decide_eq_true hd] at HDC
 rw [decide_eq_true hk] at HKC
 have hkl := hk.1
 obtain ⟨rn, hrn⟩ : ∃ rn : Nat, r = rn := Int.eq_ofNat_of_zero_le hd.1
 subst hrn
 have hr3 : rn < 3 := by have := hd.2.1; omega
 obtain ⟨aa', ca', he, hg⟩ := hI
 obtain ⟨rfl, -, rfl⟩ : aa = aa' ∧ True ∧ ca = ca' := by simpa using he
 obtain ⟨g, rfl, hg1, hgc⟩ := hg (by omega)
 obtain ⟨xr, hxr⟩ : ∃ xr, xr = l.getD rn 0 := ⟨_, rfl⟩
 have hrl : rn < l.length := by omega
 have hx1 : xr = l[rn] := by rw [hxr]; simp [List.getD, hrl]
 have HG : Hid (∀ wx, Below W.heap.size W wx → wx.cell? ⟨g, rn, none⟩ = some (.int .i64 xr)) := fun wx h => (h.cell (p := ⟨g, rn, none⟩) hg1).trans (by rw [hx1]; exact hgc rn hrl)
 have HX : Hid (xr = l.getD rn 0) := hxr
 have hs1 : 1 ≤ s := hd.2.2.1
 have hs2 : s ≤ 1000 := hd.2.2.2
 have hwr : IntKind.i64.wrap (s - 1) = s - 1 := by rw [IntKind.wrap_i64] <;> omega
 have hr0 : (0 : Int) ≤ rn := by omega
 have hr2 : (rn : Int) < l.length := by omega
 have HD : Hid (DOk (rn : Int) s) := hd
 have HK : Hid (KOk l) := hk
 clear hg hgc hxr hx1 hd hk hug he hkl hr3
 have hx : ¬ xr = s - 1 := fun h => hxe (by rw [← h, HX.out]; rfl)
 obtain rfl : q = false := HNO.out (fun h => hxe h.2.2.1)
 have hxb : (xr != s - 1) = true := by simp [hx]
 have HS : Hid (∀ wx, Below W.heap.size W wx → wx.cell? ⟨w.heap.size, 0, none⟩ = some (.int .i64 (rn : Int)) ∧ wx.cell? ⟨w.heap.size, 1, none⟩ = some (.int .i64 s) ∧ wx.cell? ⟨w.heap.size, 2, none⟩ = some (.int .i64 t) ∧ wx.cell? ⟨w.heap.size, 3, none⟩ = some (.slice (some ⟨g, 0, none⟩) l.length ca) ∧ wx.cell? ⟨w.heap.size, 4, none⟩ = some (.int .i64 k) ∧ wx.cell? ⟨w.heap.size, 5, none⟩ = some (.string o) ∧ wx.cell? ⟨w.heap.size, 6, none⟩ = some (.string y) ∧ wx.cell? ⟨w.heap.size, 7, none⟩ = some (.int .i64 v) ∧ wx.cell? ⟨w.heap.size, 8, none⟩ = some (.int .i64 x) ∧ wx.cell? ⟨w.heap.size, 9, none⟩ = some (.int .i64 z) ∧ wx.cell? ⟨g, rn, none⟩ = some (.int .i64 xr)) := fun wx h => by obtain ⟨a0, a1, a2, a3, a4, a5, a6, a7, a8, a9⟩ := HC.out wx h; exact ⟨a0, a1, a2, a3, a4, a5, a6, a7, a8, a9, HG.out wx h⟩
 clear HQ HNO hx hxe
 go_enter Tryz.func140, Tryz.ntmps140
 go_wp2
 rw [HW.out]
 try simp only [List.append_eq, List.cons_append, List.nil_append]
 have hBd := hBc.drew
 replace hBc := hBd
 clear hBd
 refine wp_region_held_drew (S := (fun w' => w'.cell? ⟨w.heap.size, 0, none⟩ = some (.int .i64 (rn : Int)) ∧ w'.cell? ⟨w.heap.size, 1, none⟩ = some (.int .i64 s) ∧ w'.cell? ⟨w.heap.size, 2, none⟩ = some (.int .i64 t) ∧ w'.cell? ⟨w.heap.size, 3, none⟩ = some (.slice (some ⟨g, 0, none⟩) l.length ca) ∧ w'.cell? ⟨w.heap.size, 4, none⟩ = some (.int .i64 k) ∧ w'.cell? ⟨w.heap.size, 5, none⟩ = some (.string o) ∧ w'.cell? ⟨w.heap.size, 6, none⟩ = some (.string y) ∧ w'.cell? ⟨w.heap.size, 7, none⟩ = some (.int .i64 v) ∧ w'.cell? ⟨w.heap.size, 8, none⟩ = some (.int .i64 x) ∧ w'.cell? ⟨w.heap.size, 9, none⟩ = some (.int .i64 z) ∧ w'.cell? ⟨g, rn, none⟩ = some (.int .i64 xr))) (by kernel_rfl) (HS.out _ hBc) (fun _ => ?_)
 refine wpAnyH_list (l' := #[false, false, false, false, false, false, false, false, false, false, false, false, false, false, false, false, false, false, false, false, false, false, false, false, false, false, false, false, false, false, false, false, false, false, false, false, false, false, false, false, false, false]) (by as_aux_lemma => kernel_rfl) ?_
 refine tk 0 qaokscx0 (HS.out _ hBc) ?_; simp only [sq]; refine tk 1 qaokscx1 (HS.out _ hBc) ?_; simp only [sq]
 refine rd 2 qaokscx2 (fun K hK => ?_)
 go_simp
 refine (HDC.out _).mono ?_
 rintro e wn ⟨rfl, hbn⟩
 replace hBc := hBc.trans (hbn.mono hBc.size)
 clear hbn
 try go_wp2_with fail
 refine hK.out _ _ (HS.out _ hBc) (fun _ => ?_)
 clear hK K
 try simp only [s1, s2, s3]
 refine tk 3 qaokscx3 (HS.out _ hBc) ?_; simp only [sq]; refine tk 4 qaokscx4 (HS.out _ hBc) ?_; simp only [sq]; refine tk 5 qaokscx5 (HS.out _ hBc) ?_; simp only [sq]; refine tk 6 qaokscx6 (HS.out _ hBc) ?_; simp only [sq]
 refine rd 7 qaokscx7 (fun K hK => ?_)
 go_simp
 refine (HKC.out _ hBc).mono ?_
 rintro e wn ⟨rfl, hbn⟩
 replace hBc := hBc.trans (hbn.mono hBc.size)
 clear hbn
 try go_wp2_with fail
 refine hK.out _ _ (HS.out _ hBc) (fun _ => ?_)
 clear hK K
 try simp only [s1, s2, s3]
 refine tk 8 qaokscx8 (HS.out _ hBc) ?_; simp only [sq]; refine tk 9 qaokscx9 (HS.out _ hBc) ?_; simp only [sq]; refine tk 10 qaokscx10 (HS.out _ hBc) ?_; simp only [sq]; refine tk 11 qaokscx11 (HS.out _ hBc) ?_; simp only [sq]; refine tk 12 qaokscx12 (HS.out _ hBc) ?_; simp only [sq]; refine tk 13 qaokscx13 (HS.out _ hBc) ?_; simp only [sq]; refine tk 14 qaokscx14 (HS.out _ hBc) ?_; simp only [sq]; refine tk 15 qaokscx15 (HS.out _ hBc) ?_; simp only [sq]; refine tk 16 qaokscx16 (HS.out _ hBc) ?_; simp only [sq]; refine tk 17 qaokscx17 (HS.out _ hBc) ?_; simp only [sq]; refine tk 18 qaokscx18 (HS.out _ hBc) ?_; simp only [sq]; refine tk 19 qaokscx19 (HS.out _ hBc) ?_; simp only [sq]; refine tk 20 qaokscx20 (HS.out _ hBc) ?_; simp only [sq]; refine tk 21 qaokscx21 (HS.out _ hBc) ?_; simp only [sq]; refine tk 22 qaokscx22 (HS.out _ hBc) ?_; simp only [sq]; refine tk 23 qaokscx23 (HS.out _ hBc) ?_; simp only [sq]; refine tk 24 qaokscx24 (HS.out _ hBc) ?_; simp only [sq]; refine sk 25 qaokscx25 (HS.out _ hBc) ?_; simp only [sq]; refine sk 26 qaokscx26 (HS.out _ hBc) ?_; simp only [sq]; refine sc 27 qaokscx27 (HS.out _ hBc) ?_; simp only [sq]; refine sk 28 qaokscx28 (HS.out _ hBc) ?_; simp only [sq]; refine tk 29 qaokscx29 (HS.out _ hBc) ?_; simp only [sq]; refine tk 30 qaokscx30 (HS.out _ hBc) ?_; simp only [sq]; refine sk 31 qaokscx31 (HS.out _ hBc) ?_; simp only [sq]; refine sk 32 qaokscx32 (HS.out _ hBc) ?_; simp only [sq]; refine sk 33 qaokscx33 (HS.out _ hBc) ?_; simp only [sq]; refine sk 34 qaokscx34 (HS.out _ hBc) ?_; simp only [sq]; refine sk 35 qaokscx35 (HS.out _ hBc) ?_; simp only [sq]; refine sk 36 qaokscx36 (HS.out _ hBc) ?_; simp only [sq]; refine sk 37 qaokscx37 (HS.out _ hBc) ?_; simp only [sq]; refine sk 38 qaokscx38 (HS.out _ hBc) ?_; simp only [sq]; refine sc 39 qaokscx39 (HS.out _ hBc) ?_; simp only [sq]; refine sk 40 qaokscx40 (HS.out _ hBc) ?_; simp only [sq]; refine tk 41 qaokscx41 (HS.out _ hBc) ?_; simp only [sq]
 refine wpAnyH_done (by as_aux_lemma => kernel_rfl) ?_ _
 go_wp2
 go_ret
 exact ⟨rfl, HF.out _ hBc⟩
end Go.Proofs.YtdknoflkingodaaGreat
