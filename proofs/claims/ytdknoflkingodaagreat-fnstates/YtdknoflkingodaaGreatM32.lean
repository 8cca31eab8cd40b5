/- An act that is right, but for what it refers to. A right act, as both tell it. A new state is made. -/
import Derived.Test.YtdknoflkingodaaGreatM1
import Derived.Test.YtdknoflkingodaaGreatM3
import Derived.Test.YtdknoflkingodaaGreatM4
import Derived.Test.YtdknoflkingodaaGreatM5
import Derived.Test.YtdknoflkingodaaGreatM6
import Derived.Test.YtdknoflkingodaaGreatM7
import Derived.Test.YtdknoflkingodaaGreatM8
import Derived.Test.YtdknoflkingodaaGreatM9
import Derived.Test.YtdknoflkingodaaGreatM10
import Derived.Test.YtdknoflkingodaaGreatM11
import Derived.Test.YtdknoflkingodaaGreatM12
import Derived.Test.YtdknoflkingodaaGreatM30
import Derived.Test.YtdknoflkingodaaGreatM31
namespace Go.Proofs.YtdknoflkingodaaGreat
set_option maxRecDepth 100000
set_option linter.unusedVariables false
open Go.RowKit
abbrev qaoksfx0 : Oper := oq 3 (.fieldAddr 62 (.tmp 1) 0) 0 "l05_act.go:29" #[] none
abbrev qaoksfx1 : Oper := oq 4 (.load 33 (.tmp 3)) 33 "l05_act.go:29" #[eD 0] none
abbrev qaoksfx2 : Oper := oq 5 (.call ⟨.value (.func 88), #[.tmp 4], #[33]⟩) 4 "l05_act.go:29" #[eD 1] none
abbrev qaoksfx3 : Oper := oq 6 (.unOp .not 4 (.tmp 5)) 4 "l05_act.go:29" #[eD 2] none
abbrev qaoksfx4 : Oper := oq 7 (.move (.tmp 6)) 4 "l05_act.go:29" #[eD 3, eC 2] none
abbrev qaoksfx5 : Oper := oq 8 (.fieldAddr 62 (.tmp 1) 2) 0 "l05_act.go:29" #[eG 4] (some (4, false))
abbrev qaoksfx6 : Oper := oq 9 (.load 24 (.tmp 8)) 24 "l05_act.go:29" #[eD 5, eG 4] (some (4, false))
abbrev qaoksfx7 : Oper := oq 10 (.call ⟨.value (.func 77), #[.tmp 9], #[24]⟩) 4 "l05_act.go:29" #[eD 6, eC 4, eG 4] (some (4, false))
abbrev qaoksfx8 : Oper := oq 11 (.unOp .not 4 (.tmp 10)) 4 "l05_act.go:29" #[eD 7, eG 4] (some (4, false))
abbrev qaoksfx9 : Oper := oq 12 (.pick (.tmp 7) (.const (.bool true)) (.tmp 11)) 4 "l05_act.go:29" #[eD 4, eD 8] none
abbrev qaoksfx10 : Oper := oq 13 (.move (.tmp 12)) 4 "l05_act.go:29" #[eD 9, eC 7] none
abbrev qaoksfx11 : Oper := oq 14 (.fieldAddr 62 (.tmp 1) 2) 0 "l05_act.go:29" #[eG 10] (some (10, false))
abbrev qaoksfx12 : Oper := oq 15 (.load 24 (.tmp 14)) 24 "l05_act.go:29" #[eD 11, eG 10] (some (10, false))
abbrev qaoksfx13 : Oper := oq 16 (.fieldAddr 62 (.tmp 1) 0) 0 "l05_act.go:29" #[eG 10] (some (10, false))
abbrev qaoksfx14 : Oper := oq 17 (.fieldAddr 33 (.tmp 16) 0) 0 "l05_act.go:29" #[eD 13, eG 10] (some (10, false))
abbrev qaoksfx15 : Oper := oq 18 (.load 3 (.tmp 17)) 3 "l05_act.go:29" #[eD 14, eG 10] (some (10, false))
abbrev qaoksfx16 : Oper := oq 19 (.indexAddr 24 (.tmp 15) (.tmp 18)) 0 "l05_act.go:29" #[eD 12, eD 15, eG 10] (some (10, false))
abbrev qaoksfx17 : Oper := oq 20 (.load 3 (.tmp 19)) 3 "l05_act.go:29" #[eD 16, eG 10] (some (10, false))
abbrev qaoksfx18 : Oper := oq 21 (.fieldAddr 62 (.tmp 1) 0) 0 "l05_act.go:29" #[eG 10] (some (10, false))
abbrev qaoksfx19 : Oper := oq 22 (.fieldAddr 33 (.tmp 21) 1) 0 "l05_act.go:29" #[eD 18, eG 10] (some (10, false))
abbrev qaoksfx20 : Oper := oq 23 (.load 3 (.tmp 22)) 3 "l05_act.go:29" #[eD 19, eG 10] (some (10, false))
abbrev qaoksfx21 : Oper := oq 24 (.binOp .sub 3 (.tmp 23) (.const (.int .i64 1)) 3) 3 "l05_act.go:29" #[eD 20, eG 10] (some (10, false))
abbrev qaoksfx22 : Oper := oq 25 (.binOp .neq 3 (.tmp 20) (.tmp 24) 3) 4 "l05_act.go:29" #[eD 17, eD 21, eG 10] (some (10, false))
abbrev qaoksfx23 : Oper := oq 26 (.pick (.tmp 13) (.const (.bool true)) (.tmp 25)) 4 "l05_act.go:29" #[eD 10, eD 22] none
abbrev qaoksfx24 : Oper := oq 27 (.move (.tmp 26)) 4 "l05_act.go:29" #[eD 23, eC 10] none
abbrev qaoksfx25 : Oper := oq 28 (.fieldAddr 62 (.tmp 1) 1) 0 "l05_act.go:29" #[eG 24] (some (24, false))
abbrev qaoksfx26 : Oper := oq 29 (.load 3 (.tmp 28)) 3 "l05_act.go:29" #[eD 25, eG 24] (some (24, false))
abbrev qaoksfx27 : Oper := oq 30 (.call ⟨.value (.func 126), #[.tmp 29, .const (.int .i64 1), .const (.int .i64 10000)], #[3, 3, 3]⟩) 4 "l05_act.go:29" #[eD 26, eC 24, eG 24] (some (24, false))
abbrev qaoksfx28 : Oper := oq 31 (.unOp .not 4 (.tmp 30)) 4 "l05_act.go:29" #[eD 27, eG 24] (some (24, false))
abbrev qaoksfx29 : Oper := oq 32 (.pick (.tmp 27) (.const (.bool true)) (.tmp 31)) 4 "l05_act.go:29" #[eD 24, eD 28] none
abbrev qaoksfx30 : Oper := oq 33 (.move (.tmp 32)) 4 "l05_act.go:29" #[eD 29, eC 27] none
abbrev qaoksfx31 : Oper := oq 34 (.fieldAddr 62 (.tmp 1) 3) 0 "l05_act.go:29" #[eG 30] (some (30, false))
abbrev qaoksfx32 : Oper := oq 35 (.load 3 (.tmp 34)) 3 "l05_act.go:29" #[eD 31, eG 30] (some (30, false))
abbrev qaoksfx33 : Oper := oq 36 (.fieldAddr 62 (.tmp 1) 4) 0 "l05_act.go:29" #[eG 30] (some (30, false))
abbrev qaoksfx34 : Oper := oq 37 (.load 9 (.tmp 36)) 9 "l05_act.go:29" #[eD 33, eG 30] (some (30, false))
abbrev qaoksfx35 : Oper := oq 38 (.fieldAddr 62 (.tmp 1) 5) 0 "l05_act.go:29" #[eG 30] (some (30, false))
abbrev qaoksfx36 : Oper := oq 39 (.load 9 (.tmp 38)) 9 "l05_act.go:29" #[eD 35, eG 30] (some (30, false))
abbrev qaoksfx37 : Oper := oq 40 (.fieldAddr 62 (.tmp 1) 6) 0 "l05_act.go:29" #[eG 30] (some (30, false))
abbrev qaoksfx38 : Oper := oq 41 (.load 3 (.tmp 40)) 3 "l05_act.go:29" #[eD 37, eG 30] (some (30, false))
abbrev qaoksfx39 : Oper := oq 42 (.call ⟨.value (.func 192), #[.tmp 35, .tmp 37, .tmp 39, .tmp 41], #[3, 9, 9, 3]⟩) 4 "l05_act.go:29" #[eD 32, eD 34, eD 36, eD 38, eC 30, eG 30] (some (30, false))
abbrev qaoksfx40 : Oper := oq 43 (.unOp .not 4 (.tmp 42)) 4 "l05_act.go:29" #[eD 39, eG 30] (some (30, false))
abbrev qaoksfx41 : Oper := oq 44 (.pick (.tmp 33) (.const (.bool true)) (.tmp 43)) 4 "l05_act.go:29" #[eD 30, eD 40] none
set_option maxHeartbeats 8000000 in
theorem sAct_f (r s t k v x z : Int) (o y : ByteArray) (l : List Int) (u : Value) (w : World) (hl : l.length ≤ 1048576) (ho : o.size ≤ 1048576) (hy : y.size ≤ 1048576) (hu : IntsAt w u l) (hd : DOk r s) (hk : KOk l) (hxe : l.getD r.toNat 0 = s - 1) (ht : 1 ≤ t ∧ t ≤ 10000) (hp : PlainOk k o y v) :
  Calls Tryz.prog 140 #[.agg #[.int .i64 r, .int .i64 s, .int .i64 t, u, .int .i64 k, .string o, .string y, .int .i64 v, .int .i64 x, .int .i64 z]] w fun e w' => e = .returned (.bool (decide (AOk ⟨r, s, t, k, v, x, z, o, y, l⟩))) ∧ Below w.heap.size w w' := by
 obtain ⟨q, hq⟩ : ∃ q, q = decide (AOk ⟨r, s, t, k, v, x, z, o, y, l⟩) := ⟨_, rfl⟩
 rw [← hq]
 have HNO : Hid (¬ (DOk r s ∧ KOk l ∧ l.getD r.toNat 0 = s - 1 ∧ (1 ≤ t ∧ t ≤ 10000) ∧ PlainOk k o y v ∧ RefOk l k x z) → q = false) := fun h => by rw [hq]; exact decide_eq_false h
 have HQ : Hid (q = decide (DOk r s ∧ KOk l ∧ l.getD r.toNat 0 = s - 1 ∧ (1 ≤ t ∧ t ≤ 10000) ∧ PlainOk k o y v ∧ RefOk l k x z)) := hq
 clear hq
 have mo : o.size ≤ maxLen := by unfold maxLen; omega
 have my : y.size ≤ maxLen := by unfold maxLen; omega
 have hlc : l.length ≤ 1048576 := hl
 obtain ⟨aa, ca, rfl, hug⟩ := id hu
 obtain ⟨W, hW⟩ : ∃ W, W = w.alloc (.cells #[.int .i64 r, .int .i64 s, .int .i64 t, .slice aa l.length ca, .int .i64 k, .string o, .string y, .int .i64 v, .int .i64 x, .int .i64 z] 62) := ⟨_, rfl⟩
 have hR : Row W w.heap.size #[.int .i64 r, .int .i64 s, .int .i64 t, .slice aa l.length ca, .int .i64 k, .string o, .string y, .int .i64 v, .int .i64 x, .int .i64 z] 62 := by rw [hW]; exact row_new _ _ _ rfl
 have hI : IntsAt W (.slice aa l.length ca) l := by rw [hW]; exact hu.alloc _
 have HBW : Hid (Below w.heap.size w W) := by rw [hW]; exact (Below.refl _ _).alloc (Nat.le_refl _) _
 have HW : Hid (w.alloc (.cells #[.int .i64 r, .int .i64 s, .int .i64 t, .slice aa l.length ca, .int .i64 k, .string o, .string y, .int .i64 v, .int .i64 x, .int .i64 z] 62) = W) := hW.symm
 have HC : Hid (∀ wx, Below W.heap.size W wx → wx.cell? ⟨w.heap.size, 0, none⟩ = some (.int .i64 r) ∧ wx.cell? ⟨w.heap.size, 1, none⟩ = some (.int .i64 s) ∧ wx.cell? ⟨w.heap.size, 2, none⟩ = some (.int .i64 t) ∧ wx.cell? ⟨w.heap.size, 3, none⟩ = some (.slice aa l.length ca) ∧ wx.cell? ⟨w.heap.size, 4, none⟩ = some (.int .i64 k) ∧ wx.cell? ⟨w.heap.size, 5, none⟩ = some (.string o) ∧ wx.cell? ⟨w.heap.size, 6, none⟩ = some (.string y) ∧ wx.cell? ⟨w.heap.size, 7, none⟩ = some (.int .i64 v) ∧ wx.cell? ⟨w.heap.size, 8, none⟩ = some (.int .i64 x) ∧ wx.cell? ⟨w.heap.size, 9, none⟩ = some (.int .i64 z)) := fun wx h => Row.ten (hR.next h)
 have HI : Hid (∀ wx, Below W.heap.size W wx → IntsAt wx (.slice aa l.length ca) l) := fun wx h => hI.below h
 have HF : Hid (∀ wx, Below W.heap.size W wx → Below w.heap.size w wx) := fun wx h => HBW.out.trans (h.mono HBW.out.size)
 have HDC : Hid (∀ wx, Calls Tryz.prog 88 #[.agg #[.int .i64 r, .int .i64 s]] wx fun e w' => e = .returned (.bool (decide (DOk r s))) ∧ Below wx.heap.size wx w') := fun wx => specDotOk_calls r s wx
 have HKC : Hid (∀ wx, Below W.heap.size W wx → Calls Tryz.prog 77 #[.slice aa l.length ca] wx fun e w' => e = .returned (.bool (decide (KOk l))) ∧ Below wx.heap.size wx w') := fun wx h => (specKnowOk_calls l _ wx hlc (HI.out wx h)).mono (by rintro e w' ⟨rfl, rfl⟩; exact ⟨rfl, Below.refl _ _⟩)
 have hBc : Below W.heap.size W W := Below.refl _ _
 obtain ⟨c0, c1, c2, c3, c4, c5, c6, c7, c8, c9⟩ := HC.out _ hBc
 clear hW hu hR hl ho hy
 have HTC : Hid (∀ wx, Calls Tryz.prog 126 #[.int .i64 t, .int .i64 1, .int .i64 10000] wx fun e w' => e = .returned (.bool (decide (1 ≤ t) && decide (t ≤ 10000))) ∧ Below wx.heap.size wx w') := fun wx => (in_calls t 1 10000 wx).mono (by rintro e w' ⟨rfl, rfl⟩; exact ⟨rfl, Below.refl _ _⟩)
 have HPC : Hid (∀ wx, Calls Tryz.prog 192 #[.int .i64 k, .string o, .string y, .int .i64 v] wx fun e w' => e = .returned (.bool (decide (PlainOk k o y v))) ∧ Below wx.heap.size wx w') := fun wx => (specPlain_calls k o y v mo my wx).mono (by rintro e w' ⟨rfl, rfl⟩; exact ⟨rfl, Below.refl _ _⟩)
 rw [decide_eq_true hd] at HDC
 rw [decide_eq_true hk] at HKC
 have hkl := hk.1
 obtain ⟨rn, hrn⟩ : ∃ rn : Nat, r = rn := Int.eq_ofNat_of_zero_le hd.1
 subst hrn
 have hr3 : rn < 3 := by have := hd.2.1; omega
 obtain ⟨aa', ca', he, hg⟩ := hI
 obtain ⟨rfl, -, rfl⟩ : aa = aa' ∧ True ∧ ca = ca' := by simpa using he
 obtain ⟨g, rfl, hg1, hgc⟩ := hg (by omega)
 obtain ⟨xr, hxr⟩ : ∃ xr, xr = l.getD rn 0 := ⟨_, rfl⟩
 have hrl : rn < l.length := by omega
 have hx1 : xr = l[rn] := by rw [hxr]; simp [List.getD, hrl]
 have HG : Hid (∀ wx, Below W.heap.size W wx → wx.cell? ⟨g, rn, none⟩ = some (.int .i64 xr)) := fun wx h => (h.cell (p := ⟨g, rn, none⟩) hg1).trans (by rw [hx1]; exact hgc rn hrl)
 have HX : Hid (xr = l.getD rn 0) := hxr
 have hs1 : 1 ≤ s := hd.2.2.1
 have hs2 : s ≤ 1000 := hd.2.2.2
 have hwr : IntKind.i64.wrap (s - 1) = s - 1 := by rw [IntKind.wrap_i64] <;> omega
 have hr0 : (0 : Int) ≤ rn := by omega
 have hr2 : (rn : Int) < l.length := by omega
 have HD : Hid (DOk (rn : Int) s) := hd
 have HK : Hid (KOk l) := hk
 clear hg hgc hxr hx1 hd hk hug he hkl hr3
 have hx : xr = s - 1 := by rw [HX.out]; exact hxe
 have hxb : (xr != s - 1) = false := by simp [hx]
 have htb : (decide (1 ≤ t) && decide (t ≤ 10000)) = true := by simp; omega
 rw [htb] at HTC
 rw [decide_eq_true hp] at HPC
 have HR : Hid (q = decide (RefOk l k x z)) := by show _ = _; rw [HQ.out]; exact decide_eq_decide.2 ⟨fun h => h.2.2.2.2.2, fun h => ⟨HD.out, HK.out, hxe, ht, hp, h⟩⟩
 have HKN : Hid (∀ wx, Below W.heap.size W wx → Calls Tryz.prog 34 #[.slice (some ⟨g, 0, none⟩) l.length ca, .agg #[.int .i64 x, .int .i64 z]] wx fun e w' => e = .returned (.bool (knows l x z)) ∧ Below wx.heap.size wx w') := fun wx h => specKnows_calls l _ x z wx hlc (HI.out wx h)
 have heq := fun wx => eqDot_zero x z wx
 have hgd := dot_guard
 have HS : Hid (∀ wx, Below W.heap.size W wx → wx.cell? ⟨w.heap.size, 0, none⟩ = some (.int .i64 (rn : Int)) ∧ wx.cell? ⟨w.heap.size, 1, none⟩ = some (.int .i64 s) ∧ wx.cell? ⟨w.heap.size, 2, none⟩ = some (.int .i64 t) ∧ wx.cell? ⟨w.heap.size, 3, none⟩ = some (.slice (some ⟨g, 0, none⟩) l.length ca) ∧ wx.cell? ⟨w.heap.size, 4, none⟩ = some (.int .i64 k) ∧ wx.cell? ⟨w.heap.size, 5, none⟩ = some (.string o) ∧ wx.cell? ⟨w.heap.size, 6, none⟩ = some (.string y) ∧ wx.cell? ⟨w.heap.size, 7, none⟩ = some (.int .i64 v) ∧ wx.cell? ⟨w.heap.size, 8, none⟩ = some (.int .i64 x) ∧ wx.cell? ⟨w.heap.size, 9, none⟩ = some (.int .i64 z) ∧ wx.cell? ⟨g, rn, none⟩ = some (.int .i64 xr)) := fun wx h => by obtain ⟨a0, a1, a2, a3, a4, a5, a6, a7, a8, a9⟩ := HC.out wx h; exact ⟨a0, a1, a2, a3, a4, a5, a6, a7, a8, a9, HG.out wx h⟩
 clear HQ HNO hx hxe ht htb hp
 go_enter Tryz.func140, Tryz.ntmps140
 go_wp2
 rw [HW.out]
 try simp only [List.append_eq, List.cons_append, List.nil_append]
 have hBd := hBc.drew
 replace hBc := hBd
 clear hBd
 refine wp_region_held_drew (S := (fun w' => w'.cell? ⟨w.heap.size, 0, none⟩ = some (.int .i64 (rn : Int)) ∧ w'.cell? ⟨w.heap.size, 1, none⟩ = some (.int .i64 s) ∧ w'.cell? ⟨w.heap.size, 2, none⟩ = some (.int .i64 t) ∧ w'.cell? ⟨w.heap.size, 3, none⟩ = some (.slice (some ⟨g, 0, none⟩) l.length ca) ∧ w'.cell? ⟨w.heap.size, 4, none⟩ = some (.int .i64 k) ∧ w'.cell? ⟨w.heap.size, 5, none⟩ = some (.string o) ∧ w'.cell? ⟨w.heap.size, 6, none⟩ = some (.string y) ∧ w'.cell? ⟨w.heap.size, 7, none⟩ = some (.int .i64 v) ∧ w'.cell? ⟨w.heap.size, 8, none⟩ = some (.int .i64 x) ∧ w'.cell? ⟨w.heap.size, 9, none⟩ = some (.int .i64 z) ∧ w'.cell? ⟨g, rn, none⟩ = some (.int .i64 xr))) (by kernel_rfl) (HS.out _ hBc) (fun _ => ?_)
 refine wpAnyH_list (l' := #[false, false, false, false, false, false, false, false, false, false, false, false, false, false, false, false, false, false, false, false, false, false, false, false, false, false, false, false, false, false, false, false, false, false, false, false, false, false, false, false, false, false]) (by as_aux_lemma => kernel_rfl) ?_
 refine tk 0 qaoksfx0 (HS.out _ hBc) ?_; simp only [sq]; refine tk 1 qaoksfx1 (HS.out _ hBc) ?_; simp only [sq]
 refine rd 2 qaoksfx2 (fun K hK => ?_)
 go_simp
 refine (HDC.out _).mono ?_
 rintro e wn ⟨rfl, hbn⟩
 replace hBc := hBc.trans (hbn.mono hBc.size)
 clear hbn
 try go_wp2_with fail
 refine hK.out _ _ (HS.out _ hBc) (fun _ => ?_)
 clear hK K
 try simp only [s1, s2, s3]
 refine tk 3 qaoksfx3 (HS.out _ hBc) ?_; simp only [sq]; refine tk 4 qaoksfx4 (HS.out _ hBc) ?_; simp only [sq]; refine tk 5 qaoksfx5 (HS.out _ hBc) ?_; simp only [sq]; refine tk 6 qaoksfx6 (HS.out _ hBc) ?_; simp only [sq]
 refine rd 7 qaoksfx7 (fun K hK => ?_)
 go_simp
 refine (HKC.out _ hBc).mono ?_
 rintro e wn ⟨rfl, hbn⟩
 replace hBc := hBc.trans (hbn.mono hBc.size)
 clear hbn
 try go_wp2_with fail
 refine hK.out _ _ (HS.out _ hBc) (fun _ => ?_)
 clear hK K
 try simp only [s1, s2, s3]
 refine tk 8 qaoksfx8 (HS.out _ hBc) ?_; simp only [sq]; refine tk 9 qaoksfx9 (HS.out _ hBc) ?_; simp only [sq]; refine tk 10 qaoksfx10 (HS.out _ hBc) ?_; simp only [sq]; refine tk 11 qaoksfx11 (HS.out _ hBc) ?_; simp only [sq]; refine tk 12 qaoksfx12 (HS.out _ hBc) ?_; simp only [sq]; refine tk 13 qaoksfx13 (HS.out _ hBc) ?_; simp only [sq]; refine tk 14 qaoksfx14 (HS.out _ hBc) ?_; simp only [sq]; refine tk 15 qaoksfx15 (HS.out _ hBc) ?_; simp only [sq]; refine tk 16 qaoksfx16 (HS.out _ hBc) ?_; simp only [sq]; refine tk 17 qaoksfx17 (HS.out _ hBc) ?_; simp only [sq]; refine tk 18 qaoksfx18 (HS.out _ hBc) ?_; simp only [sq]; refine tk 19 qaoksfx19 (HS.out _ hBc) ?_; simp only [sq]; refine tk 20 qaoksfx20 (HS.out _ hBc) ?_; simp only [sq]; refine tk 21 qaoksfx21 (HS.out _ hBc) ?_; simp only [sq]; refine tk 22 qaoksfx22 (HS.out _ hBc) ?_; simp only [sq]; refine tk 23 qaoksfx23 (HS.out _ hBc) ?_; simp only [sq]; refine tk 24 qaoksfx24 (HS.out _ hBc) ?_; simp only [sq]; refine tk 25 qaoksfx25 (HS.out _ hBc) ?_; simp only [sq]; refine tk 26 qaoksfx26 (HS.out _ hBc) ?_; simp only [sq]
 refine rd 27 qaoksfx27 (fun K hK => ?_)
 go_simp
 refine (HTC.out _).mono ?_
 rintro e wn ⟨rfl, hbn⟩
 replace hBc := hBc.trans (hbn.mono hBc.size)
 clear hbn
 try go_wp2_with fail
 refine hK.out _ _ (HS.out _ hBc) (fun _ => ?_)
 clear hK K
 try simp only [s1, s2, s3]
 refine tk 28 qaoksfx28 (HS.out _ hBc) ?_; simp only [sq]; refine tk 29 qaoksfx29 (HS.out _ hBc) ?_; simp only [sq]; refine tk 30 qaoksfx30 (HS.out _ hBc) ?_; simp only [sq]; refine tk 31 qaoksfx31 (HS.out _ hBc) ?_; simp only [sq]; refine tk 32 qaoksfx32 (HS.out _ hBc) ?_; simp only [sq]; refine tk 33 qaoksfx33 (HS.out _ hBc) ?_; simp only [sq]; refine tk 34 qaoksfx34 (HS.out _ hBc) ?_; simp only [sq]; refine tk 35 qaoksfx35 (HS.out _ hBc) ?_; simp only [sq]; refine tk 36 qaoksfx36 (HS.out _ hBc) ?_; simp only [sq]; refine tk 37 qaoksfx37 (HS.out _ hBc) ?_; simp only [sq]; refine tk 38 qaoksfx38 (HS.out _ hBc) ?_; simp only [sq]
 refine rd 39 qaoksfx39 (fun K hK => ?_)
 go_simp
 refine (HPC.out _).mono ?_
 rintro e wn ⟨rfl, hbn⟩
 replace hBc := hBc.trans (hbn.mono hBc.size)
 clear hbn
 try go_wp2_with fail
 refine hK.out _ _ (HS.out _ hBc) (fun _ => ?_)
 clear hK K
 try simp only [s1, s2, s3]
 refine tk 40 qaoksfx40 (HS.out _ hBc) ?_; simp only [sq]; refine tk 41 qaoksfx41 (HS.out _ hBc) ?_; simp only [sq]
 refine wpAnyH_done (by as_aux_lemma => kernel_rfl) ?_ _
 clear c0 c1 c2 c3 c4 c5 c6 c7 c8 c9
 obtain ⟨c0, c1, c2, c3, c4, c5, c6, c7, c8, c9⟩ := HC.out _ hBc
 by_cases h7 : k = 7
 ·subst h7
  have HQ : Hid (q = knows l x z) := by show _ = _; rw [HR.out]; unfold RefOk; simp
  go_wp2_with fail
  refine (HKN.out _ hBc).mono ?_
  rintro e wn ⟨rfl, hbn⟩
  replace hBc := hBc.trans (hbn.mono hBc.size)
  clear hbn
  go_wp2
  go_ret
  exact ⟨by rw [HQ.out]; rfl, HF.out _ hBc⟩
 by_cases h6 : k = 6
 ·subst h6
  by_cases hz : x = 0 ∧ z = 0
  ·have HQ : Hid (q = true) := by show _ = _; rw [HR.out]; unfold RefOk; simp [hz]
   rw [decide_eq_true hz] at heq
   clear hz
   go_wp2
   go_ret
   exact ⟨by rw [HQ.out]; rfl, HF.out _ hBc⟩
  ·have HQ : Hid (q = knows l x z) := by show _ = _; rw [HR.out]; unfold RefOk; simp [hz]
   rw [decide_eq_false hz] at heq
   clear hz
   go_wp2_with fail
   refine (HKN.out _ hBc).mono ?_
   rintro e wn ⟨rfl, hbn⟩
   replace hBc := hBc.trans (hbn.mono hBc.size)
   clear hbn
   go_wp2
   go_ret
   exact ⟨by rw [HQ.out]; rfl, HF.out _ hBc⟩
 ·have HQ : Hid (q = decide (x = 0 ∧ z = 0)) := by show _ = _; rw [HR.out]; unfold RefOk; simp [h6, h7]
  generalize decide (x = 0 ∧ z = 0) = bz at *
  go_wp2
  go_ret
  exact ⟨by rw [HQ.out]; rfl, HF.out _ hBc⟩
end Go.Proofs.YtdknoflkingodaaGreat
namespace Go.Proofs.YtdknoflkingodaaGreat
set_option maxRecDepth 100000
set_option linter.unusedVariables false
open Go.RowKit
theorem specActOk_calls (A : Ac) (u : Value) (w : World) (h : A.l.length ≤ 1048576 ∧ A.o.size ≤ 1048576 ∧ A.y.size ≤ 1048576) (hu : IntsAt w u A.l) :
  Calls Tryz.prog 140 #[A.val u] w fun e w' => e = .returned (.bool (decide (AOk A))) ∧ Below w.heap.size w w' := by
 obtain ⟨r, s, t, k, v, x, z, o, y, l⟩ := A
 by_cases hd : DOk r s
 case neg => exact sAct_a _ _ _ _ _ _ _ _ _ _ u w h.1 h.2.1 h.2.2 hu hd
 by_cases hk : KOk l
 case neg => exact sAct_b _ _ _ _ _ _ _ _ _ _ u w h.1 h.2.1 h.2.2 hu hd hk
 by_cases hx : l.getD r.toNat 0 = s - 1
 case neg => exact sAct_c _ _ _ _ _ _ _ _ _ _ u w h.1 h.2.1 h.2.2 hu hd hk hx
 by_cases ht : 1 ≤ t ∧ t ≤ 10000
 case neg => exact sAct_d _ _ _ _ _ _ _ _ _ _ u w h.1 h.2.1 h.2.2 hu hd hk hx ht
 by_cases hp : PlainOk k o y v
 case neg => exact sAct_e _ _ _ _ _ _ _ _ _ _ u w h.1 h.2.1 h.2.2 hu hd hk hx ht hp
 exact sAct_f _ _ _ _ _ _ _ _ _ _ u w h.1 h.2.1 h.2.2 hu hd hk hx ht hp
end Go.Proofs.YtdknoflkingodaaGreat
namespace Go.Proofs.YtdknoflkingodaaGreat
set_option maxRecDepth 100000
set_option linter.unusedVariables false
open Go.RowKit
/-- A new state. -/
def nSt : Sta := ⟨[0, 0, 0], [], [], []⟩
theorem nSt_at {w : World} {u : Value} (h : IntsAt w u [0, 0, 0]) : StAt w nSt u (.slice none 0 0) (.slice none 0 0) (.slice none 0 0) :=
 ⟨h, ⟨none, 0, rfl, fun h => by simp [nSt] at h⟩, ⟨none, 0, rfl, fun h => by simp [nSt] at h⟩, ⟨none, 0, rfl, fun h => by simp [nSt] at h⟩⟩
set_option maxHeartbeats 2000000 in
theorem stateNew_calls (w : World) : Calls Tryz.prog 25 #[] w fun e w' => ∃ aa ca, e = .returned (.agg #[.slice aa 3 ca, .slice none 0 0, .slice none 0 0, .slice none 0 0]) ∧ Rw w' w.heap.size w'.heap.size 3 1 (.slice aa 3 ca) 3 (intV [0, 0, 0]) ∧ Below w.heap.size w w' := by
 obtain ⟨W, hW⟩ : ∃ W, W = w.alloc (.cells zState 29) := ⟨_, rfl⟩
 have HP : Hid (Row W w.heap.size zState 29) := by rw [hW]; exact row_new w _ _ rfl
 have HB : Hid (Below w.heap.size w W) := by rw [hW]; exact (Below.refl _ _).alloc (Nat.le_refl _) _
 have hWs : W.heap.size = w.heap.size + 1 := by rw [hW]; simp
 have HW : Hid (w.alloc (.cells zState 29) = W) := hW.symm
 unfold zState at HW
 clear hW
 go_enter Tryz.func25, Tryz.ntmps25
 go_wp2_with fail
 rw [HW.out]
 clear HW
 refine (knowNew_calls W).mono ?_
 rintro e w1 ⟨u, rfl, ho, hb⟩
 obtain ⟨aa, ca, hu, -⟩ := IntsAt.own (l := [0, 0, 0]) ho rfl
 replace hu : u = .slice aa 3 ca := hu
 subst hu
 have HR : Hid (Rw w1 W.heap.size w1.heap.size 3 1 (.slice aa 3 ca) 3 (intV [0, 0, 0])) := Rw.new ho
 replace HP : Hid (Row w1 w.heap.size zState 29) := HP.out.next hb
 replace HB : Hid (Below w.heap.size w w1) := HB.out.trans (hb.mono HB.out.size)
 have hsz := hb.size
 clear hb ho
 obtain ⟨o0, o1, o2, o3⟩ := Row.four HP.out
 have g0 := HP.out.free 0
 have g1 := HP.out.free 1
 have g2 := HP.out.free 2
 have g3 := HP.out.free 3
 go_wp2
 have HZ := (((HP.out.st0 (.slice aa 3 ca)).st1 (.slice none 0 0)).st2 (.slice none 0 0)).st3 (.slice none 0 0)
 have HBB := (((HB.out.setCell (p := ⟨w.heap.size, 0, none⟩) (Nat.le_refl _) (.slice aa 3 ca)).setCell (p := ⟨w.heap.size, 1, none⟩) (Nat.le_refl _) (.slice none 0 0)).setCell (p := ⟨w.heap.size, 2, none⟩) (Nat.le_refl _) (.slice none 0 0)).setCell (p := ⟨w.heap.size, 3, none⟩) (Nat.le_refl _) (.slice none 0 0)
 have HRR := (((HR.out.set (g := w.heap.size) (i := 0) (x := .slice aa 3 ca) (by omega)).set (g := w.heap.size) (i := 1) (x := .slice none 0 0) (by omega)).set (g := w.heap.size) (i := 2) (x := .slice none 0 0) (by omega)).set (g := w.heap.size) (i := 3) (x := .slice none 0 0) (by omega)
 exact bodyPost_ret (retState rfl rfl rfl HZ) rfl ⟨aa, ca, rfl, (HRR.lo (by omega)).wide (by simp [World.setCell]), HBB⟩
end Go.Proofs.YtdknoflkingodaaGreat
