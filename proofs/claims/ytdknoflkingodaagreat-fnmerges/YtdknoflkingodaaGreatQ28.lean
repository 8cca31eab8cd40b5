/- A right act, as the specification tells it. -/
import Derived.Test.YtdknoflkingodaaGreatQ1
import Derived.Test.YtdknoflkingodaaGreatQ12
set_option maxHeartbeats 16000000
namespace Go.Proofs.YtdknoflkingodaaGreat
open Value (int)
open IntKind (i64)
set_option maxRecDepth 100000
set_option linter.unusedVariables false
open Go.RowKit
abbrev Jia : Oper := oq 3 (.fieldAddr 62 (.tmp 1) 0) 0 "l05_act.go:29" #[] none
abbrev Jjx : Oper := oq 4 (.load 33 (.tmp 3)) 33 "l05_act.go:29" #[eD 0] none
abbrev Jhl : Oper := oq 5 (.call ⟨.value (.func 88), #[.tmp 4], #[33]⟩) 4 "l05_act.go:29" #[eD 1] none
abbrev Jgo : Oper := oq 6 (.unOp .not 4 (.tmp 5)) 4 "l05_act.go:29" #[eD 2] none
abbrev JgI : Oper := oq 7 (.move (.tmp 6)) 4 "l05_act.go:29" #[eD 3, eC 2] none
abbrev JfJ : Oper := oq 8 (.fieldAddr 62 (.tmp 1) 2) 0 "l05_act.go:29" #[eG 4] (some (4, false))
abbrev JgE : Oper := oq 9 (.load 24 (.tmp 8)) 24 "l05_act.go:29" #[eD 5, eG 4] (some (4, false))
abbrev Jgg : Oper := oq 10 (.call ⟨.value (.func 77), #[.tmp 9], #[24]⟩) 4 "l05_act.go:29" #[eD 6, eC 4, eG 4] (some (4, false))
abbrev JhN : Oper := oq 11 (.unOp .not 4 (.tmp 10)) 4 "l05_act.go:29" #[eD 7, eG 4] (some (4, false))
abbrev JhE : Oper := oq 12 (.pick (.tmp 7) (.const (.bool true)) (.tmp 11)) 4 "l05_act.go:29" #[eD 4, eD 8] none
abbrev Jeg : Oper := oq 13 (.move (.tmp 12)) 4 "l05_act.go:29" #[eD 9, eC 7] none
abbrev Jdv : Oper := oq 14 (.fieldAddr 62 (.tmp 1) 2) 0 "l05_act.go:29" #[eG 10] (some (10, false))
abbrev Jd2 : Oper := oq 15 (.load 24 (.tmp 14)) 24 "l05_act.go:29" #[eD 11, eG 10] (some (10, false))
abbrev JdI : Oper := oq 16 (.fieldAddr 62 (.tmp 1) 0) 0 "l05_act.go:29" #[eG 10] (some (10, false))
abbrev JdL : Oper := oq 17 (.fieldAddr 33 (.tmp 16) 0) 0 "l05_act.go:29" #[eD 13, eG 10] (some (10, false))
abbrev Jen : Oper := oq 18 (.load 3 (.tmp 17)) 3 "l05_act.go:29" #[eD 14, eG 10] (some (10, false))
abbrev JdW : Oper := oq 19 (.indexAddr 24 (.tmp 15) (.tmp 18)) 0 "l05_act.go:29" #[eD 12, eD 15, eG 10] (some (10, false))
abbrev Jeo : Oper := oq 20 (.load 3 (.tmp 19)) 3 "l05_act.go:29" #[eD 16, eG 10] (some (10, false))
abbrev JdB : Oper := oq 21 (.fieldAddr 62 (.tmp 1) 0) 0 "l05_act.go:29" #[eG 10] (some (10, false))
abbrev JdG : Oper := oq 22 (.fieldAddr 33 (.tmp 21) 1) 0 "l05_act.go:29" #[eD 18, eG 10] (some (10, false))
abbrev Jdx : Oper := oq 23 (.load 3 (.tmp 22)) 3 "l05_act.go:29" #[eD 19, eG 10] (some (10, false))
abbrev JdP : Oper := oq 24 (.binOp .sub 3 (.tmp 23) (.const (int i64 1)) 3) 3 "l05_act.go:29" #[eD 20, eG 10] (some (10, false))
abbrev Jcx : Oper := oq 25 (.binOp .neq 3 (.tmp 20) (.tmp 24) 3) 4 "l05_act.go:29" #[eD 17, eD 21, eG 10] (some (10, false))
abbrev Jcb : Oper := oq 26 (.pick (.tmp 13) (.const (.bool true)) (.tmp 25)) 4 "l05_act.go:29" #[eD 10, eD 22] none
abbrev Jcw : Oper := oq 27 (.move (.tmp 26)) 4 "l05_act.go:29" #[eD 23, eC 10] none
abbrev JcG : Oper := oq 28 (.fieldAddr 62 (.tmp 1) 1) 0 "l05_act.go:29" #[eG 24] (some (24, false))
abbrev Jck : Oper := oq 29 (.load 3 (.tmp 28)) 3 "l05_act.go:29" #[eD 25, eG 24] (some (24, false))
abbrev Jbc : Oper := oq 30 (.call ⟨.value (.func 126), #[.tmp 29, .const (int i64 1), .const (int i64 10000)], #[3, 3, 3]⟩) 4 "l05_act.go:29" #[eD 26, eC 24, eG 24] (some (24, false))
abbrev JbI : Oper := oq 31 (.unOp .not 4 (.tmp 30)) 4 "l05_act.go:29" #[eD 27, eG 24] (some (24, false))
abbrev Jbm : Oper := oq 32 (.pick (.tmp 27) (.const (.bool true)) (.tmp 31)) 4 "l05_act.go:29" #[eD 24, eD 28] none
abbrev JbM : Oper := oq 33 (.move (.tmp 32)) 4 "l05_act.go:29" #[eD 29, eC 27] none
abbrev Jbw : Oper := oq 34 (.fieldAddr 62 (.tmp 1) 3) 0 "l05_act.go:29" #[eG 30] (some (30, false))
abbrev JbD : Oper := oq 35 (.load 3 (.tmp 34)) 3 "l05_act.go:29" #[eD 31, eG 30] (some (30, false))
abbrev Ja8 : Oper := oq 36 (.fieldAddr 62 (.tmp 1) 4) 0 "l05_act.go:29" #[eG 30] (some (30, false))
abbrev Ja0 : Oper := oq 37 (.load 9 (.tmp 36)) 9 "l05_act.go:29" #[eD 33, eG 30] (some (30, false))
abbrev Jby : Oper := oq 38 (.fieldAddr 62 (.tmp 1) 5) 0 "l05_act.go:29" #[eG 30] (some (30, false))
abbrev Jbf : Oper := oq 39 (.load 9 (.tmp 38)) 9 "l05_act.go:29" #[eD 35, eG 30] (some (30, false))
abbrev JbE : Oper := oq 40 (.fieldAddr 62 (.tmp 1) 6) 0 "l05_act.go:29" #[eG 30] (some (30, false))
abbrev Jbr : Oper := oq 41 (.load 3 (.tmp 40)) 3 "l05_act.go:29" #[eD 37, eG 30] (some (30, false))
abbrev YD : Oper := oq 42 (.call ⟨.value (.func 192), #[.tmp 35, .tmp 37, .tmp 39, .tmp 41], #[3, 9, 9, 3]⟩) 4 "l05_act.go:29" #[eD 32, eD 34, eD 36, eD 38, eC 30, eG 30] (some (30, false))
abbrev YG : Oper := oq 43 (.unOp .not 4 (.tmp 42)) 4 "l05_act.go:29" #[eD 39, eG 30] (some (30, false))
abbrev Jao : Oper := oq 44 (.pick (.tmp 33) (.const (.bool true)) (.tmp 43)) 4 "l05_act.go:29" #[eD 30, eD 40] none
theorem Jgc (r s t k v x z : Int) (o y : ByteArray) (l : List Int) (u : Value) (w : World) (hlc : l.length ≤ 1048576) (hu : IntsAt w u l) (hdk : ¬ (DOk r s ∧ KOk l)) :
  Calls Tryz.prog 140 #[.agg #[int i64 r, int i64 s, int i64 t, u, int i64 k, .string o, .string y, int i64 v, int i64 x, int i64 z]] w fun e w' => e = .returned (.bool (decide (AOk ⟨r, s, t, k, v, x, z, o, y, l⟩))) ∧ Below w.heap.size w w' := by
 have hq : decide (AOk ⟨r, s, t, k, v, x, z, o, y, l⟩) = false := decide_eq_false (fun h => hdk ⟨h.1, h.2.1⟩)
 rw [hq]
 clear hq
 obtain ⟨aa, ca, rfl, hug⟩ := id hu
 obtain ⟨W, hW⟩ : ∃ W, W = w.alloc (.cells #[int i64 r, int i64 s, int i64 t, .slice aa l.length ca, int i64 k, .string o, .string y, int i64 v, int i64 x, int i64 z] 62) := ⟨_, rfl⟩
 have hR : Row W w.heap.size #[int i64 r, int i64 s, int i64 t, .slice aa l.length ca, int i64 k, .string o, .string y, int i64 v, int i64 x, int i64 z] 62 := by rw [hW]; exact Jb _ _ _ rfl
 have hI : IntsAt W (.slice aa l.length ca) l := by rw [hW]; exact hu.alloc _
 have HBW : Hid (Below w.heap.size w W) := by rw [hW]; exact (Below.refl _ _).alloc (Nat.le_refl _) _
 have HW : Hid (w.alloc (.cells #[int i64 r, int i64 s, int i64 t, .slice aa l.length ca, int i64 k, .string o, .string y, int i64 v, int i64 x, int i64 z] 62) = W) := hW.symm
 have HC : Hid (∀ wx, Below W.heap.size W wx → Row wx w.heap.size #[int i64 r, int i64 s, int i64 t, .slice aa l.length ca, int i64 k, .string o, .string y, int i64 v, int i64 x, int i64 z] 62) := fun wx h => hR.next h
 have HI : Hid (∀ wx, Below W.heap.size W wx → IntsAt wx (.slice aa l.length ca) l) := fun wx h => hI.below h
 have HF : Hid (∀ wx, Below W.heap.size W wx → Below w.heap.size w wx) := fun wx h => HBW.out.trans (h.mono HBW.out.size)
 have HDC : Hid (∀ wx, Calls Tryz.prog 88 #[.agg #[int i64 r, int i64 s]] wx fun e w' => e = .returned (.bool (decide (DOk r s))) ∧ Below wx.heap.size wx w') := fun wx => Jr r s wx
 have HKC : Hid (∀ wx, Below W.heap.size W wx → Calls Tryz.prog 77 #[.slice aa l.length ca] wx fun e w' => e = .returned (.bool (decide (KOk l))) ∧ Below wx.heap.size wx w') := fun wx h => (Jw l _ wx hlc (HI.out wx h)).mono (by rintro e w' ⟨rfl, rfl⟩; exact ⟨rfl, Below.refl _ _⟩)
 have hBc : Below W.heap.size W W := Below.refl _ _
 clear hW hu hR
 have HS : Hid (∀ wx, Below W.heap.size W wx → wx.cell? ⟨w.heap.size, 0, none⟩ = some (int i64 r) ∧ wx.cell? ⟨w.heap.size, 1, none⟩ = some (int i64 s) ∧ wx.cell? ⟨w.heap.size, 2, none⟩ = some (int i64 t) ∧ wx.cell? ⟨w.heap.size, 3, none⟩ = some (.slice aa l.length ca) ∧ wx.cell? ⟨w.heap.size, 4, none⟩ = some (int i64 k) ∧ wx.cell? ⟨w.heap.size, 5, none⟩ = some (.string o) ∧ wx.cell? ⟨w.heap.size, 6, none⟩ = some (.string y) ∧ wx.cell? ⟨w.heap.size, 7, none⟩ = some (int i64 v) ∧ wx.cell? ⟨w.heap.size, 8, none⟩ = some (int i64 x) ∧ wx.cell? ⟨w.heap.size, 9, none⟩ = some (int i64 z)) := fun wx h => Row.ten (HC.out wx h)
 clear hI hug
 go_enter Tryz.func140, Tryz.ntmps140
 go_wp2
 rw [HW.out]
 try simp only [List.append_eq, List.cons_append, List.nil_append]
 clear HW
 replace hBc := hBc.drew
 have hs := Ja (HS.out _ hBc)
 refine wph HS hBc 42 ?_
 refine tQ 0 Jia ?_; refine tQ 1 Jjx ?_
 by_cases hd : DOk r s
 case neg =>
  rw [decide_eq_false hd] at HDC
  clear hd hdk
  refine rd 2 Jhl (fun K hK => ?_)
  go_simp
  refine (HDC.out _).mono ?_
  rintro e wn ⟨rfl, hbn⟩
  replace hBc := nx hBc hbn
  clear hbn
  try go_wp2_with fail
  replace hs := Ja (HS.out _ hBc)
  refine hK.out _ _ hs.out (fun hx => ?_)
  clear hx hK K
  try simp only [s1, s2, s3]
  refine tQ 3 Jgo ?_; refine tQ 4 JgI ?_; refine sQ 5 JfJ ?_; refine sQ 6 JgE ?_; refine cQ 7 Jgg ?_; refine sQ 8 JhN ?_; refine tQ 9 JhE ?_; refine tQ 10 Jeg ?_; refine sQ 11 Jdv ?_; refine sQ 12 Jd2 ?_; refine sQ 13 JdI ?_; refine sQ 14 JdL ?_; refine sQ 15 Jen ?_; refine sQ 16 JdW ?_; refine sQ 17 Jeo ?_; refine sQ 18 JdB ?_; refine sQ 19 JdG ?_; refine sQ 20 Jdx ?_; refine sQ 21 JdP ?_; refine sQ 22 Jcx ?_; refine tQ 23 Jcb ?_; refine tQ 24 Jcw ?_; refine sQ 25 JcG ?_; refine sQ 26 Jck ?_; refine cQ 27 Jbc ?_; refine sQ 28 JbI ?_; refine tQ 29 Jbm ?_; refine tQ 30 JbM ?_; refine sQ 31 Jbw ?_; refine sQ 32 JbD ?_; refine sQ 33 Ja8 ?_; refine sQ 34 Ja0 ?_; refine sQ 35 Jby ?_; refine sQ 36 Jbf ?_; refine sQ 37 JbE ?_; refine sQ 38 Jbr ?_; refine cQ 39 YD ?_; refine sQ 40 YG ?_; refine tQ 41 Jao ?_
  refine wpd ?_
  clear hs HS
  go_wp2
  go_ret
  exact ⟨rfl, HF.out _ hBc⟩
 have hk : ¬ KOk l := fun h => hdk ⟨hd, h⟩
 rw [decide_eq_true hd] at HDC
 rw [decide_eq_false hk] at HKC
 clear hd hdk hk
 refine rd 2 Jhl (fun K hK => ?_)
 go_simp
 refine (HDC.out _).mono ?_
 rintro e wn ⟨rfl, hbn⟩
 replace hBc := nx hBc hbn
 clear hbn
 try go_wp2_with fail
 replace hs := Ja (HS.out _ hBc)
 refine hK.out _ _ hs.out (fun hx => ?_)
 clear hx hK K
 try simp only [s1, s2, s3]
 refine tQ 3 Jgo ?_; refine tQ 4 JgI ?_; refine tQ 5 JfJ ?_; refine tQ 6 JgE ?_
 refine rd 7 Jgg (fun K hK => ?_)
 go_simp
 refine (HKC.out _ hBc).mono ?_
 rintro e wn ⟨rfl, hbn⟩
 replace hBc := nx hBc hbn
 clear hbn
 try go_wp2_with fail
 replace hs := Ja (HS.out _ hBc)
 refine hK.out _ _ hs.out (fun hx => ?_)
 clear hx hK K
 try simp only [s1, s2, s3]
 refine tQ 8 JhN ?_; refine tQ 9 JhE ?_; refine tQ 10 Jeg ?_; refine sQ 11 Jdv ?_; refine sQ 12 Jd2 ?_; refine sQ 13 JdI ?_; refine sQ 14 JdL ?_; refine sQ 15 Jen ?_; refine sQ 16 JdW ?_; refine sQ 17 Jeo ?_; refine sQ 18 JdB ?_; refine sQ 19 JdG ?_; refine sQ 20 Jdx ?_; refine sQ 21 JdP ?_; refine sQ 22 Jcx ?_; refine tQ 23 Jcb ?_; refine tQ 24 Jcw ?_; refine sQ 25 JcG ?_; refine sQ 26 Jck ?_; refine cQ 27 Jbc ?_; refine sQ 28 JbI ?_; refine tQ 29 Jbm ?_; refine tQ 30 JbM ?_; refine sQ 31 Jbw ?_; refine sQ 32 JbD ?_; refine sQ 33 Ja8 ?_; refine sQ 34 Ja0 ?_; refine sQ 35 Jby ?_; refine sQ 36 Jbf ?_; refine sQ 37 JbE ?_; refine sQ 38 Jbr ?_; refine cQ 39 YD ?_; refine sQ 40 YG ?_; refine tQ 41 Jao ?_
 refine wpd ?_
 clear hs HS
 go_wp2
 go_ret
 exact ⟨rfl, HF.out _ hBc⟩
theorem JgY (r s t k v x z : Int) (o y : ByteArray) (l : List Int) (u : Value) (w : World) (hlc : l.length ≤ 1048576) (ho : o.size ≤ 1048576) (hy : y.size ≤ 1048576) (hu : IntsAt w u l) (hd : DOk r s) (hk : KOk l) :
  Calls Tryz.prog 140 #[.agg #[int i64 r, int i64 s, int i64 t, u, int i64 k, .string o, .string y, int i64 v, int i64 x, int i64 z]] w fun e w' => e = .returned (.bool (decide (AOk ⟨r, s, t, k, v, x, z, o, y, l⟩))) ∧ Below w.heap.size w w' := by
 obtain ⟨q, hq⟩ : ∃ q, q = decide (AOk ⟨r, s, t, k, v, x, z, o, y, l⟩) := ⟨_, rfl⟩
 rw [← hq]
 have HNO : Hid (¬ (DOk r s ∧ KOk l ∧ l.getD r.toNat 0 = s - 1 ∧ (1 ≤ t ∧ t ≤ 10000) ∧ J6 k o y v ∧ KN l k x z) → q = false) := fun h => by rw [hq]; exact decide_eq_false h
 have HQ : Hid (q = decide (DOk r s ∧ KOk l ∧ l.getD r.toNat 0 = s - 1 ∧ (1 ≤ t ∧ t ≤ 10000) ∧ J6 k o y v ∧ KN l k x z)) := hq
 clear hq
 have mo : o.size ≤ maxLen := by unfold maxLen; omega
 have my : y.size ≤ maxLen := by unfold maxLen; omega
 obtain ⟨aa, ca, rfl, hug⟩ := id hu
 obtain ⟨W, hW⟩ : ∃ W, W = w.alloc (.cells #[int i64 r, int i64 s, int i64 t, .slice aa l.length ca, int i64 k, .string o, .string y, int i64 v, int i64 x, int i64 z] 62) := ⟨_, rfl⟩
 have hR : Row W w.heap.size #[int i64 r, int i64 s, int i64 t, .slice aa l.length ca, int i64 k, .string o, .string y, int i64 v, int i64 x, int i64 z] 62 := by rw [hW]; exact Jb _ _ _ rfl
 have hI : IntsAt W (.slice aa l.length ca) l := by rw [hW]; exact hu.alloc _
 have HBW : Hid (Below w.heap.size w W) := by rw [hW]; exact (Below.refl _ _).alloc (Nat.le_refl _) _
 have HW : Hid (w.alloc (.cells #[int i64 r, int i64 s, int i64 t, .slice aa l.length ca, int i64 k, .string o, .string y, int i64 v, int i64 x, int i64 z] 62) = W) := hW.symm
 have HC : Hid (∀ wx, Below W.heap.size W wx → Row wx w.heap.size #[int i64 r, int i64 s, int i64 t, .slice aa l.length ca, int i64 k, .string o, .string y, int i64 v, int i64 x, int i64 z] 62) := fun wx h => hR.next h
 have HI : Hid (∀ wx, Below W.heap.size W wx → IntsAt wx (.slice aa l.length ca) l) := fun wx h => hI.below h
 have HF : Hid (∀ wx, Below W.heap.size W wx → Below w.heap.size w wx) := fun wx h => HBW.out.trans (h.mono HBW.out.size)
 have HDC : Hid (∀ wx, Calls Tryz.prog 88 #[.agg #[int i64 r, int i64 s]] wx fun e w' => e = .returned (.bool (decide (DOk r s))) ∧ Below wx.heap.size wx w') := fun wx => Jr r s wx
 have HKC : Hid (∀ wx, Below W.heap.size W wx → Calls Tryz.prog 77 #[.slice aa l.length ca] wx fun e w' => e = .returned (.bool (decide (KOk l))) ∧ Below wx.heap.size wx w') := fun wx h => (Jw l _ wx hlc (HI.out wx h)).mono (by rintro e w' ⟨rfl, rfl⟩; exact ⟨rfl, Below.refl _ _⟩)
 have hBc : Below W.heap.size W W := Below.refl _ _
 clear hW hu hR
 have HTC : Hid (∀ wx, Calls Tryz.prog 126 #[int i64 t, int i64 1, int i64 10000] wx fun e w' => e = .returned (.bool (decide (1 ≤ t) && decide (t ≤ 10000))) ∧ Below wx.heap.size wx w') := fun wx => (JD t 1 10000 wx).mono (by rintro e w' ⟨rfl, rfl⟩; exact ⟨rfl, Below.refl _ _⟩)
 have HPC : Hid (∀ wx, Calls Tryz.prog 192 #[int i64 k, .string o, .string y, int i64 v] wx fun e w' => e = .returned (.bool (decide (J6 k o y v))) ∧ Below wx.heap.size wx w') := fun wx => (Gb k o y v mo my wx).mono (by rintro e w' ⟨rfl, rfl⟩; exact ⟨rfl, Below.refl _ _⟩)
 rw [decide_eq_true hd] at HDC
 rw [decide_eq_true hk] at HKC
 have hkl := hk.1
 obtain ⟨rn, hrn⟩ : ∃ rn : Nat, r = rn := Int.eq_ofNat_of_zero_le hd.1
 subst hrn
 have hr3 : rn < 3 := by have := hd.2.1; omega
 obtain ⟨aa', ca', he, hg⟩ := hI
 obtain ⟨rfl, -, rfl⟩ : aa = aa' ∧ True ∧ ca = ca' := by simpa using he
 obtain ⟨g, rfl, hg1, hgc⟩ := hg (by omega)
 obtain ⟨xr, hxr⟩ : ∃ xr, xr = l.getD rn 0 := ⟨_, rfl⟩
 have hrl : rn < l.length := by omega
 have hx1 : xr = l[rn] := by rw [hxr]; simp [List.getD, hrl]
 have HG : Hid (∀ wx, Below W.heap.size W wx → wx.cell? ⟨g, rn, none⟩ = some (int i64 xr)) := fun wx h => (h.cell (p := ⟨g, rn, none⟩) hg1).trans (by rw [hx1]; exact hgc rn hrl)
 have HX : Hid (xr = l.getD rn 0) := hxr
 have hs1 : 1 ≤ s := hd.2.2.1
 have hs2 : s ≤ 1000 := hd.2.2.2
 have hwr : IntKind.i64.wrap (s - 1) = s - 1 := by rw [IntKind.wrap_i64] <;> omega
 have hr0 : (0 : Int) ≤ rn := by omega
 have hr2 : (rn : Int) < l.length := by omega
 have HD : Hid (DOk (rn : Int) s) := hd
 have HK : Hid (KOk l) := hk
 have HKN : Hid (∀ wx, Below W.heap.size W wx → Calls Tryz.prog 34 #[.slice (some ⟨g, 0, none⟩) l.length ca, .agg #[int i64 x, int i64 z]] wx fun e w' => e = .returned (.bool (Jd l x z)) ∧ Below wx.heap.size wx w') := fun wx h => Zq l _ x z wx hlc (HI.out wx h)
 have HS : Hid (∀ wx, Below W.heap.size W wx → wx.cell? ⟨w.heap.size, 0, none⟩ = some (int i64 (rn : Int)) ∧ wx.cell? ⟨w.heap.size, 1, none⟩ = some (int i64 s) ∧ wx.cell? ⟨w.heap.size, 2, none⟩ = some (int i64 t) ∧ wx.cell? ⟨w.heap.size, 3, none⟩ = some (.slice (some ⟨g, 0, none⟩) l.length ca) ∧ wx.cell? ⟨w.heap.size, 4, none⟩ = some (int i64 k) ∧ wx.cell? ⟨w.heap.size, 5, none⟩ = some (.string o) ∧ wx.cell? ⟨w.heap.size, 6, none⟩ = some (.string y) ∧ wx.cell? ⟨w.heap.size, 7, none⟩ = some (int i64 v) ∧ wx.cell? ⟨w.heap.size, 8, none⟩ = some (int i64 x) ∧ wx.cell? ⟨w.heap.size, 9, none⟩ = some (int i64 z) ∧ wx.cell? ⟨g, rn, none⟩ = some (int i64 xr)) := fun wx h => by obtain ⟨a0, a1, a2, a3, a4, a5, a6, a7, a8, a9⟩ := Row.ten (HC.out wx h); exact ⟨a0, a1, a2, a3, a4, a5, a6, a7, a8, a9, HG.out wx h⟩
 clear hg hgc hxr hx1 hd hk hug he hkl hr3 hrl HG ho hy
 go_enter Tryz.func140, Tryz.ntmps140
 go_wp2
 rw [HW.out]
 try simp only [List.append_eq, List.cons_append, List.nil_append]
 clear HW
 replace hBc := hBc.drew
 have hs := Ja (HS.out _ hBc)
 refine wph HS hBc 42 ?_
 refine tQ 0 Jia ?_; refine tQ 1 Jjx ?_
 refine rd 2 Jhl (fun K hK => ?_)
 go_simp
 refine (HDC.out _).mono ?_
 rintro e wn ⟨rfl, hbn⟩
 replace hBc := nx hBc hbn
 clear hbn
 try go_wp2_with fail
 replace hs := Ja (HS.out _ hBc)
 refine hK.out _ _ hs.out (fun hx => ?_)
 clear hx hK K
 try simp only [s1, s2, s3]
 refine tQ 3 Jgo ?_; refine tQ 4 JgI ?_; refine tQ 5 JfJ ?_; refine tQ 6 JgE ?_
 refine rd 7 Jgg (fun K hK => ?_)
 go_simp
 refine (HKC.out _ hBc).mono ?_
 rintro e wn ⟨rfl, hbn⟩
 replace hBc := nx hBc hbn
 clear hbn
 try go_wp2_with fail
 replace hs := Ja (HS.out _ hBc)
 refine hK.out _ _ hs.out (fun hx => ?_)
 clear hx hK K
 try simp only [s1, s2, s3]
 clear HDC HKC
 refine tQ 8 JhN ?_; refine tQ 9 JhE ?_; refine tQ 10 Jeg ?_; refine tQ 11 Jdv ?_; refine tQ 12 Jd2 ?_; refine tQ 13 JdI ?_; refine tQ 14 JdL ?_; refine tQ 15 Jen ?_; refine tQ 16 JdW ?_; refine tQ 17 Jeo ?_; refine tQ 18 JdB ?_; refine tQ 19 JdG ?_; refine tQ 20 Jdx ?_; refine tQ 21 JdP ?_
 by_cases hxe : l.getD rn 0 = s - 1
 case neg =>
  have hxb : (xr != s - 1) = true := by simp; exact fun h => hxe (by rw [← h, HX.out])
  have HE := Ja (HNO.out (fun h => hxe h.2.2.1))
  clear HQ HNO hxe HTC HPC HKN
  refine tQ 22 Jcx ?_; refine tQ 23 Jcb ?_; refine tQ 24 Jcw ?_; refine sQ 25 JcG ?_; refine sQ 26 Jck ?_; refine cQ 27 Jbc ?_; refine sQ 28 JbI ?_; refine tQ 29 Jbm ?_; refine tQ 30 JbM ?_; refine sQ 31 Jbw ?_; refine sQ 32 JbD ?_; refine sQ 33 Ja8 ?_; refine sQ 34 Ja0 ?_; refine sQ 35 Jby ?_; refine sQ 36 Jbf ?_; refine sQ 37 JbE ?_; refine sQ 38 Jbr ?_; refine cQ 39 YD ?_; refine sQ 40 YG ?_; refine tQ 41 Jao ?_
  refine wpd ?_
  clear hs HS
  go_wp2
  go_ret
  exact ⟨by rw [HE.out]; rfl, HF.out _ hBc⟩
 have hxb : (xr != s - 1) = false := by simp; rw [HX.out]; exact hxe
 have HXE := Ja hxe
 clear hxe
 refine tQ 22 Jcx ?_; refine tQ 23 Jcb ?_; refine tQ 24 Jcw ?_; refine tQ 25 JcG ?_; refine tQ 26 Jck ?_
 by_cases ht : 1 ≤ t ∧ t ≤ 10000
 case neg =>
  have htb : (decide (1 ≤ t) && decide (t ≤ 10000)) = false := by simp; omega
  rw [htb] at HTC
  have HE := Ja (HNO.out (fun h => ht h.2.2.2.1))
  clear HQ HNO ht htb HPC HKN
  refine rd 27 Jbc (fun K hK => ?_)
  go_simp
  refine (HTC.out _).mono ?_
  rintro e wn ⟨rfl, hbn⟩
  replace hBc := nx hBc hbn
  clear hbn
  try go_wp2_with fail
  replace hs := Ja (HS.out _ hBc)
  refine hK.out _ _ hs.out (fun hx => ?_)
  clear hx hK K
  try simp only [s1, s2, s3]
  refine tQ 28 JbI ?_; refine tQ 29 Jbm ?_; refine tQ 30 JbM ?_; refine sQ 31 Jbw ?_; refine sQ 32 JbD ?_; refine sQ 33 Ja8 ?_; refine sQ 34 Ja0 ?_; refine sQ 35 Jby ?_; refine sQ 36 Jbf ?_; refine sQ 37 JbE ?_; refine sQ 38 Jbr ?_; refine cQ 39 YD ?_; refine sQ 40 YG ?_; refine tQ 41 Jao ?_
  refine wpd ?_
  clear hs HS
  go_wp2
  go_ret
  exact ⟨by rw [HE.out]; rfl, HF.out _ hBc⟩
 have htb : (decide (1 ≤ t) && decide (t ≤ 10000)) = true := by simp; omega
 rw [htb] at HTC
 have HT := Ja ht
 clear ht htb
 refine rd 27 Jbc (fun K hK => ?_)
 go_simp
 refine (HTC.out _).mono ?_
 rintro e wn ⟨rfl, hbn⟩
 replace hBc := nx hBc hbn
 clear hbn
 try go_wp2_with fail
 replace hs := Ja (HS.out _ hBc)
 refine hK.out _ _ hs.out (fun hx => ?_)
 clear hx hK K
 try simp only [s1, s2, s3]
 clear HTC
 refine tQ 28 JbI ?_; refine tQ 29 Jbm ?_; refine tQ 30 JbM ?_; refine tQ 31 Jbw ?_; refine tQ 32 JbD ?_; refine tQ 33 Ja8 ?_; refine tQ 34 Ja0 ?_; refine tQ 35 Jby ?_; refine tQ 36 Jbf ?_; refine tQ 37 JbE ?_; refine tQ 38 Jbr ?_
 by_cases hp : J6 k o y v
 case neg =>
  rw [decide_eq_false hp] at HPC
  have HE := Ja (HNO.out (fun h => hp h.2.2.2.2.1))
  clear HQ HNO hp HKN
  refine rd 39 YD (fun K hK => ?_)
  go_simp
  refine (HPC.out _).mono ?_
  rintro e wn ⟨rfl, hbn⟩
  replace hBc := nx hBc hbn
  clear hbn
  try go_wp2_with fail
  replace hs := Ja (HS.out _ hBc)
  refine hK.out _ _ hs.out (fun hx => ?_)
  clear hx hK K
  try simp only [s1, s2, s3]
  refine tQ 40 YG ?_; refine tQ 41 Jao ?_
  refine wpd ?_
  clear hs HS
  go_wp2
  go_ret
  exact ⟨by rw [HE.out]; rfl, HF.out _ hBc⟩
 rw [decide_eq_true hp] at HPC
 have HR : Hid (q = decide (KN l k x z)) := by show _ = _; rw [HQ.out]; exact decide_eq_decide.2 ⟨fun h => h.2.2.2.2.2, fun h => ⟨HD.out, HK.out, HXE.out, HT.out, hp, h⟩⟩
 clear HQ HNO hp
 refine rd 39 YD (fun K hK => ?_)
 go_simp
 refine (HPC.out _).mono ?_
 rintro e wn ⟨rfl, hbn⟩
 replace hBc := nx hBc hbn
 clear hbn
 try go_wp2_with fail
 replace hs := Ja (HS.out _ hBc)
 refine hK.out _ _ hs.out (fun hx => ?_)
 clear hx hK K
 try simp only [s1, s2, s3]
 clear HPC
 refine tQ 40 YG ?_; refine tQ 41 Jao ?_
 refine wpd ?_
 clear hs HS
 have heq := fun wx => Zh x z wx
 have hgd := ZL
 obtain ⟨c0, c1, c2, c3, c4, c5, c6, c7, c8, c9⟩ := Row.ten (HC.out _ hBc)
 by_cases h7 : k = 7
 ·subst h7
  have HQ : Hid (q = Jd l x z) := by show _ = _; rw [HR.out]; unfold KN; simp
  go_wp2_with fail
  refine (HKN.out _ hBc).mono ?_
  rintro e wn ⟨rfl, hbn⟩
  replace hBc := nx hBc hbn
  clear hbn
  go_wp2
  go_ret
  exact ⟨by rw [HQ.out]; rfl, HF.out _ hBc⟩
 by_cases h6 : k = 6
 ·subst h6
  by_cases hz : x = 0 ∧ z = 0
  ·have HQ : Hid (q = true) := by show _ = _; rw [HR.out]; unfold KN; simp [hz]
   rw [decide_eq_true hz] at heq
   clear hz
   go_wp2
   go_ret
   exact ⟨by rw [HQ.out]; rfl, HF.out _ hBc⟩
  ·have HQ : Hid (q = Jd l x z) := by show _ = _; rw [HR.out]; unfold KN; simp [hz]
   rw [decide_eq_false hz] at heq
   clear hz
   go_wp2_with fail
   refine (HKN.out _ hBc).mono ?_
   rintro e wn ⟨rfl, hbn⟩
   replace hBc := nx hBc hbn
   clear hbn
   go_wp2
   go_ret
   exact ⟨by rw [HQ.out]; rfl, HF.out _ hBc⟩
 ·have HQ : Hid (q = decide (x = 0 ∧ z = 0)) := by show _ = _; rw [HR.out]; unfold KN; simp [h6, h7]
  generalize decide (x = 0 ∧ z = 0) = bz at *
  go_wp2
  go_ret
  exact ⟨by rw [HQ.out]; rfl, HF.out _ hBc⟩
end Go.Proofs.YtdknoflkingodaaGreat
