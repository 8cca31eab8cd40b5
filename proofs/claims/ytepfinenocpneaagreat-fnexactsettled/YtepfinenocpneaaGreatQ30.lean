/- Where a part stands, or would stand: halves of a list in ord. -/
import Derived.Test.YtepfinenocpneaaGreatQ20
set_option maxHeartbeats 16000000
namespace Go.Proofs.YtepfinenocpneaaGreat
open Value (int)
open IntKind (i64)
set_option maxRecDepth 100000
set_option linter.unusedVariables false
open Go.RowKit
abbrev Jjw : Oper := oq 5 (.load 88 (.tmp 2)) 88 "l06_state.go:88" #[] none
abbrev Jjk : Oper := oq 6 (.makeInterface 88 (.tmp 5)) 170 "l06_state.go:88" #[eD 0] none
abbrev Jjs : Oper := oq 7 (.call ⟨.value (.func 135), #[.tmp 6], #[170]⟩) 150 "l06_state.go:88" #[eD 1] none
abbrev Ji5 : Oper := oq 8 (.load 150 (.tmp 3)) 150 "l06_state.go:88" #[] none
abbrev Ji1 : Oper := oq 9 (.call ⟨.value (.func 136), #[.tmp 7, .tmp 8], #[150, 150]⟩) 3 "l06_state.go:88" #[eD 2, eD 3, eC 2] none
abbrev JiR : Oper := oq 4 (.assign (.tmp 9)) 3 "l06_state.go:88" #[eD 4, eC 4, eP 0, eP 1, eP 2, eP 3, eP 4] none
abbrev JjP : Oper := oq 24 (.move (.tmp 2)) 186 "sort.go:160" #[] none
abbrev JjR : Oper := oq 25 (.move (.tmp 0)) 26 "sort.go:160" #[] none
abbrev Jjf : Oper := oq 26 (.move (.tmp 11)) 3 "sort.go:160" #[] none
abbrev Jjt : Oper := oq 27 (.indexAddr 26 (.tmp 25) (.tmp 26)) 0 "sort.go:160" #[eD 1, eD 2] none
abbrev Jjx : Oper := oq 28 (.load 88 (.tmp 27)) 88 "sort.go:160" #[eD 3] none
abbrev JjM : Oper := oq 29 (.load 150 (.tmp 4)) 150 "sort.go:160" #[] none
abbrev Ji0 : Oper := oq 30 (.call ⟨.value (.tmp 24), #[.tmp 28, .tmp 29], #[88, 150]⟩) 3 "sort.go:160" #[eD 0, eD 4, eD 5] none
abbrev JgO : Oper := oq 31 (.binOp .lss 3 (.tmp 30) (.const (int i64 0)) 3) 4 "sort.go:160" #[eD 6] none
abbrev Jhc : Oper := oq 35 (.move (.tmp 9)) 3 "sort.go:167" #[] none
abbrev JhO : Oper := oq 36 (.move (.tmp 9)) 3 "sort.go:167" #[] none
abbrev Jhj : Oper := oq 37 (.move (.tmp 8)) 3 "sort.go:167" #[] none
abbrev Jhk : Oper := oq 38 (.binOp .lss 3 (.tmp 36) (.tmp 37) 3) 4 "sort.go:167" #[eD 1, eD 2] none
abbrev Jhn : Oper := oq 39 (.move (.tmp 38)) 4 "sort.go:167" #[eD 3] none
abbrev JiM : Oper := oq 40 (.move (.tmp 2)) 186 "sort.go:167" #[eG 4] (some (4, true))
abbrev JhL : Oper := oq 41 (.move (.tmp 0)) 26 "sort.go:167" #[eG 4] (some (4, true))
abbrev JiF : Oper := oq 42 (.move (.tmp 9)) 3 "sort.go:167" #[eG 4] (some (4, true))
abbrev Jih : Oper := oq 43 (.indexAddr 26 (.tmp 41) (.tmp 42)) 0 "sort.go:167" #[eD 6, eD 7, eG 4] (some (4, true))
abbrev JhF : Oper := oq 44 (.load 88 (.tmp 43)) 88 "sort.go:167" #[eD 8, eG 4] (some (4, true))
abbrev JeB : Oper := oq 45 (.load 150 (.tmp 4)) 150 "sort.go:167" #[eG 4] (some (4, true))
abbrev Jex : Oper := oq 46 (.call ⟨.value (.tmp 40), #[.tmp 44, .tmp 45], #[88, 150]⟩) 3 "sort.go:167" #[eD 5, eD 9, eD 10, eC 4, eG 4] (some (4, true))
abbrev Jdd : Oper := oq 47 (.binOp .eql 3 (.tmp 46) (.const (int i64 0)) 3) 4 "sort.go:167" #[eD 11, eG 4, { on := 14, ground := .gcOnly .lateStores }] (some (4, true))
abbrev JdM : Oper := oq 48 (.pick (.tmp 39) (.tmp 47) (.const (.bool false))) 4 "sort.go:167" #[eD 4, eD 12, { on := 14, ground := .gcOnly .lateStores }] none
abbrev JdC : Oper := oq 6 (.assign (.tmp 35)) 3 "sort.go:167" #[eD 0, eC 11, eP 0, { on := 1, ground := .textOnly .lateStores }, { on := 2, ground := .textOnly .lateStores }, { on := 3, ground := .textOnly .lateStores }, { on := 4, ground := .textOnly .lateStores }, { on := 5, ground := .textOnly .lateStores }, { on := 6, ground := .textOnly .lateStores }, { on := 7, ground := .textOnly .lateStores }, { on := 8, ground := .textOnly .lateStores }, { on := 9, ground := .textOnly .lateStores }, { on := 10, ground := .textOnly .lateStores }, { on := 11, ground := .textOnly .lateStoresUnsure }, { on := 12, ground := .textOnly .lateStores }, { on := 13, ground := .textOnly .lateStores }] none
abbrev Jdu : Oper := oq 7 (.assign (.tmp 48)) 4 "sort.go:167" #[eD 13, eC 14, eP 0, eP 1, eP 2, eP 3, eP 4, eP 5, eP 6, eP 7, eP 8, eP 9, eP 10, eP 11, eP 12, eP 13, eP 14] none
theorem VC (x : Li) (r s : Int) (w : World) :
  Calls Tryz.prog 170 #[.agg #[.bool x.m, .string x.o, .string x.y, int i64 x.v, int i64 x.r, int i64 x.s], .agg #[.string ⟨#[]⟩, int i64 r, int i64 s]] w fun e w' => e = .returned (int i64 (J6 r s x)) ∧ Below w.heap.size w w' := by
 obtain ⟨WW, hWW⟩ : ∃ WW, WW = (w.alloc (.cells #[.bool x.m, .string x.o, .string x.y, int i64 x.v, int i64 x.r, int i64 x.s] 88)).alloc (.cells #[.string ⟨#[]⟩, int i64 r, int i64 s] 150) := ⟨_, rfl⟩
 have h1 : Row WW w.heap.size #[.bool x.m, .string x.o, .string x.y, int i64 x.v, int i64 x.r, int i64 x.s] 88 := by rw [hWW]; exact (Jb w _ _ rfl).alloc _
 have h2 : Row WW (w.heap.size + 1) #[.string ⟨#[]⟩, int i64 r, int i64 s] 150 := by rw [hWW]; exact Jb _ _ _ (by simp)
 have HBA : Hid (Below w.heap.size w WW) := by rw [hWW]; exact ((Below.refl _ _).alloc (Nat.le_refl _) _).alloc (by simp) _
 have HWW : Hid ((w.alloc (.cells #[.bool x.m, .string x.o, .string x.y, int i64 x.v, int i64 x.r, int i64 x.s] 88)).alloc (.cells #[.string ⟨#[]⟩, int i64 r, int i64 s] 150) = WW) := hWW.symm
 have HS : Hid (∀ wx, Below WW.heap.size WW wx → wx.cell? ⟨w.heap.size, 0, none⟩ = some (.bool x.m) ∧ wx.cell? ⟨w.heap.size, 1, none⟩ = some (.string x.o) ∧ wx.cell? ⟨w.heap.size, 2, none⟩ = some (.string x.y) ∧ wx.cell? ⟨w.heap.size, 3, none⟩ = some (int i64 x.v) ∧ wx.cell? ⟨w.heap.size, 4, none⟩ = some (int i64 x.r) ∧ wx.cell? ⟨w.heap.size, 5, none⟩ = some (int i64 x.s) ∧ wx.cell? ⟨w.heap.size + 1, 0, none⟩ = some (.string ⟨#[]⟩) ∧ wx.cell? ⟨w.heap.size + 1, 1, none⟩ = some (int i64 r) ∧ wx.cell? ⟨w.heap.size + 1, 2, none⟩ = some (int i64 s)) := fun wx h => ⟨(h1.next h).cell 0 rfl, (h1.next h).cell 1 rfl, (h1.next h).cell 2 rfl, (h1.next h).cell 3 rfl, (h1.next h).cell 4 rfl, (h1.next h).cell 5 rfl, (h2.next h).cell 0 rfl, (h2.next h).cell 1 rfl, (h2.next h).cell 2 rfl⟩
 obtain ⟨R, hR⟩ : ∃ R, R = J6 r s x := ⟨_, rfl⟩
 have HK : Hid (∀ wx, Calls Tryz.prog 135 #[.iface 88 (.agg #[.bool x.m, .string x.o, .string x.y, int i64 x.v, int i64 x.r, int i64 x.s])] wx fun e w' => e = .returned (.agg #[.string ⟨#[]⟩, int i64 x.r, int i64 x.s]) ∧ Below wx.heap.size wx w') := fun wx => Gu x wx
 have HC : Hid (∀ wx, Calls Tryz.prog 136 #[.agg #[.string ⟨#[]⟩, int i64 x.r, int i64 x.s], .agg #[.string ⟨#[]⟩, int i64 r, int i64 s]] wx fun e w' => e = .returned (int i64 R) ∧ Below wx.heap.size wx w') := fun wx => by rw [hR]; exact ZP _ _ _ _ _ _ wx
 rw [← hR]
 have hBc : Below WW.heap.size WW WW := Below.refl _ _
 clear hWW h1 h2 hR
 go_enter Tryz.func170, Tryz.ntmps170
 go_wp2
 rw [HWW.out]
 clear HWW
 replace hBc := hBc.drew
 have hs := Ja (HS.out _ hBc)
 refine wph HS hBc 6 ?_
 refine tQ 0 Jjw ?_; refine tQ 1 Jjk ?_; refine tQ 3 Ji5 ?_
 refine rd 2 Jjs (fun K hK => ?_)
 go_simp
 refine (HK.out _).mono ?_
 rintro e wn ⟨rfl, hbn⟩
 replace hBc := nx hBc hbn
 clear hbn
 try go_wp2_with fail
 replace hs := Ja (HS.out _ hBc)
 refine hK.out _ _ hs.out (fun hx => ?_)
 clear hx hK K
 try simp only [s1, s2, s3]
 clear HK
 refine rd 4 Ji1 (fun K hK => ?_)
 go_simp
 refine (HC.out _).mono ?_
 rintro e wn ⟨rfl, hbn⟩
 replace hBc := nx hBc hbn
 clear hbn
 try go_wp2_with fail
 replace hs := Ja (HS.out _ hBc)
 refine hK.out _ _ hs.out (fun hx => ?_)
 clear hx hK K
 try simp only [s1, s2, s3]
 clear HC
 refine tQ 5 JiR ?_
 refine wpd ?_
 have HBF := Ja (HBA.out.trans (hBc.mono HBA.out.size))
 clear hs hBc HS
 go_wp2
 go_ret
 exact ⟨rfl, HBF.out⟩
theorem Vp (l : List Li) (v : Value) (r s : Int) (w : World) (hn : l.length ≤ 1048576) (hp : Gw (J6 r s) l) (h : LiAt w v l) :
  Calls Tryz.prog 169 #[v, .agg #[.string ⟨#[]⟩, int i64 r, int i64 s], .func (.func 170) #[] #[]] w fun e w' => JT e l (J6 r s) ∧ Below w.heap.size w w' := by
 obtain ⟨aa, ca, rfl, hga⟩ := h
 obtain ⟨W, hW⟩ : ∃ W, W = w.alloc (.cells #[.string ⟨#[]⟩, int i64 r, int i64 s] 150) := ⟨_, rfl⟩
 have HBW : Hid (Below w.heap.size w W) := by rw [hW]; exact (Below.refl _ _).alloc (Nat.le_refl _) _
 have hRW : Row W w.heap.size #[.string ⟨#[]⟩, int i64 r, int i64 s] 150 := by rw [hW]; exact Jb w _ _ rfl
 have HWW : Hid (w.alloc (.cells #[.string ⟨#[]⟩, int i64 r, int i64 s] 150) = W) := hW.symm
 have HRK : Hid (∀ wx, Below W.heap.size W wx → wx.cell? ⟨w.heap.size, 0, none⟩ = some (.string ⟨#[]⟩) ∧ wx.cell? ⟨w.heap.size, 1, none⟩ = some (int i64 r) ∧ wx.cell? ⟨w.heap.size, 2, none⟩ = some (int i64 s)) := fun wx h => ⟨(hRW.next h).cell 0 rfl, (hRW.next h).cell 1 rfl, (hRW.next h).cell 2 rfl⟩
 have HGA : Hid (0 < l.length → ∃ g f, aa = some ⟨g, f, none⟩ ∧ ∀ j (h : j < l.length) wx, Below W.heap.size W wx → liC wx g (f + j * 6) l[j]) := fun h0 => by
  obtain ⟨g, f, e, hg, hc⟩ := hga h0
  exact ⟨g, f, e, fun j hj wx hx => (hc j hj).below (HBW.out.trans (hx.mono HBW.out.size)) hg⟩
 have HP := Ja hp
 have HAT : Hid (∀ wx (x : Li), Calls Tryz.prog 170 #[.agg #[.bool x.m, .string x.o, .string x.y, int i64 x.v, int i64 x.r, int i64 x.s], .agg #[.string ⟨#[]⟩, int i64 r, int i64 s]] wx fun e w' => e = .returned (int i64 (J6 r s x)) ∧ Below wx.heap.size wx w') := fun wx x => VC x r s wx
 obtain ⟨n, hnl⟩ : ∃ n, n = l.length := ⟨_, rfl⟩
 have HL : Hid (n = l.length) := hnl
 rw [← hnl] at hn ⊢
 clear hnl hga hp hW hRW
 go_enter Tryz.func169, Tryz.ntmps169
 go_wp2
 rw [HWW.out]
 clear HWW
 go_loopw [9, 10] (fun x z wr => ∃ lo hi : Nat, x = int i64 lo ∧ z = int i64 hi ∧ lo ≤ hi ∧ hi ≤ n ∧ Brack l (J6 r s) lo hi ∧ Below W.heap.size W wr) (fun x z _ => (intOf z - intOf x).toNat)
 case atStart => exact ⟨0, n, rfl, rfl, Nat.zero_le _, Nat.le_refl _, ⟨fun i _ h => by omega, fun i h1 h2 => by have := HL.out; omega⟩, Below.refl _ _⟩
 case round =>
  obtain ⟨lo, hi, rfl, rfl, hlh, hhn, hin, hbel⟩ := hrel
  have HIN := Ja hin
  have HBE := Ja hbel
  clear hin
  by_cases hlt : lo < hi
  ·have hml : (lo + hi) / 2 < l.length := by have := HL.out; omega
   obtain ⟨g, f, rfl, hcc⟩ := HGA.out (by omega)
   have hm0 : (0 : Int) ≤ ((lo : Int) + hi) / 2 := by omega
   have hm1 : ((lo : Int) + hi) / 2 < n := by omega
   have hmt : (((lo : Int) + hi) / 2).toNat = (lo + hi) / 2 := by omega
   have hw1 : IntKind.i64.wrap ((lo : Int) + hi) = (lo : Int) + hi := by rw [IntKind.wrap_i64] <;> omega
   have hw2 : IntKind.u64.wrap ((lo : Int) + hi) = (lo : Int) + hi := by rw [IntKind.wrap_u64]; omega
   have hw3 : IntKind.i64.wrap (((lo : Int) + hi) / 2) = ((lo : Int) + hi) / 2 := by rw [IntKind.wrap_i64] <;> omega
   have hw5 : IntKind.u64.wrap (((lo : Int) + hi) / 2) = ((lo : Int) + hi) / 2 := by rw [IntKind.wrap_u64]; omega
   have hw4 : IntKind.i64.wrap (((lo : Int) + hi) / 2 + 1) = ((lo : Int) + hi) / 2 + 1 := by rw [IntKind.wrap_i64] <;> omega
   have hlt1 : (lo : Int) < hi := by omega
   have HUP : Hid (J6 r s l[(lo + hi) / 2] < 0 → Brack l (J6 r s) ((lo + hi) / 2 + 1) hi) := fun h => HIN.out.up HP.out hml h
   have HDN : Hid (¬ J6 r s l[(lo + hi) / 2] < 0 → Brack l (J6 r s) lo ((lo + hi) / 2)) := fun h => HIN.out.down HP.out hml h
   have HX : Hid (∀ wx, Below W.heap.size W wx → liC wx g (f + (lo + hi) / 2 * 6) l[(lo + hi) / 2]) := fun wx h => hcc _ hml wx h
   have HC : Hid (∀ wx, Calls Tryz.prog 170 #[.agg #[.bool l[(lo + hi) / 2].m, .string l[(lo + hi) / 2].o, .string l[(lo + hi) / 2].y, int i64 l[(lo + hi) / 2].v, int i64 l[(lo + hi) / 2].r, int i64 l[(lo + hi) / 2].s], .agg #[.string ⟨#[]⟩, int i64 r, int i64 s]] wx fun e w' => e = .returned (int i64 (J6 r s l[(lo + hi) / 2])) ∧ Below wx.heap.size wx w') := fun wx => HAT.out wx _
   generalize l[(lo + hi) / 2] = x at *
   have HS : Hid (∀ wx, Below W.heap.size W wx → wx.cell? ⟨w.heap.size, 0, none⟩ = some (.string ⟨#[]⟩) ∧ wx.cell? ⟨w.heap.size, 1, none⟩ = some (int i64 r) ∧ wx.cell? ⟨w.heap.size, 2, none⟩ = some (int i64 s) ∧ wx.cell? ⟨g, f + (lo + hi) / 2 * 6, none⟩ = some (.bool x.m) ∧ wx.cell? ⟨g, f + (lo + hi) / 2 * 6 + 1, none⟩ = some (.string x.o) ∧ wx.cell? ⟨g, f + (lo + hi) / 2 * 6 + 2, none⟩ = some (.string x.y) ∧ wx.cell? ⟨g, f + (lo + hi) / 2 * 6 + 3, none⟩ = some (int i64 x.v) ∧ wx.cell? ⟨g, f + (lo + hi) / 2 * 6 + 4, none⟩ = some (int i64 x.r) ∧ wx.cell? ⟨g, f + (lo + hi) / 2 * 6 + 5, none⟩ = some (int i64 x.s)) := fun wx h => by
    obtain ⟨t0, t1, t2⟩ := HRK.out wx h
    have hq := HX.out wx h
    unfold liC at hq
    exact ⟨t0, t1, t2, hq⟩
   generalize J6 r s x = R at *
   have HRC : Hid ((R < 0 ∧ decide (R < 0) = true) ∨ (¬ R < 0 ∧ decide (R < 0) = false)) := by
    show _ ∨ _
    by_cases h : R < 0
    ·exact .inl ⟨h, decide_eq_true h⟩
    ·exact .inr ⟨h, decide_eq_false h⟩
   have hBc : Below W.heap.size W wr := HBE.out
   clear hcc hml hbel HX HAT
   go_wp2
   replace hBc := hBc.drew
   have hs := Ja (HS.out _ hBc)
   refine wph HS hBc 8 ?_
   refine tQ 0 JjP ?_; refine tQ 1 JjR ?_; refine tQ 2 Jjf ?_; refine tQ 3 Jjt ?_; refine tQ 4 Jjx ?_; refine tQ 5 JjM ?_
   refine rd 6 Ji0 (fun K hK => ?_)
   go_simp
   refine (HC.out _).mono ?_
   rintro e wn ⟨rfl, hbn⟩
   replace hBc := nx hBc hbn
   clear hbn
   try go_wp2_with fail
   replace hs := Ja (HS.out _ hBc)
   refine hK.out _ _ hs.out (fun hx => ?_)
   clear hx hK K
   try simp only [s1, s2, s3]
   clear HC
   rcases HRC.out with ⟨h2, hd⟩ | ⟨h2, hd⟩
   ·have HE := Ja (HUP.out h2)
    clear HUP HDN h2 HRC
    refine tQ 7 JgO ?_
    refine wpd ?_
    have HBF := Ja hBc
    clear hs hBc HS
    go_wp2
    go_roundw
    case rel => exact ⟨(lo + hi) / 2 + 1, hi, by go_num, rfl, by omega, hhn, HE.out, HBF.out⟩
    case measure => simp [intOf]; omega
   ·have HE := Ja (HDN.out h2)
    clear HUP HDN h2 HRC
    refine tQ 7 JgO ?_
    refine wpd ?_
    have HBF := Ja hBc
    clear hs hBc HS
    go_wp2
    go_roundw
    case rel => exact ⟨lo, (lo + hi) / 2, rfl, by go_num, by omega, by omega, HE.out, HBF.out⟩
    case measure => simp [intOf]; omega
  ·have hlt1 : ¬ ((lo : Int) < hi) := by omega
   have hlh2 : lo = hi := by omega
   have HCU : Hid (Brack l (J6 r s) lo lo) := by have := HIN.out; rw [← hlh2] at this; exact this
   clear HIN
   by_cases hln : lo < n
   ·have hml : lo < l.length := by have := HL.out; omega
    obtain ⟨g, f, rfl, hcc⟩ := HGA.out (by omega)
    have hk1 : (lo : Int) < n := by omega
    have hk0 : (0 : Int) ≤ lo := by omega
    have HYE : Hid (J6 r s l[lo] = 0 → JT (.returned (.tuple #[int i64 (lo : Int), .bool true])) l (J6 r s)) := fun h => HCU.out.yes hml h
    have HNO : Hid (¬ J6 r s l[lo] = 0 → JT (.returned (.tuple #[int i64 (lo : Int), .bool false])) l (J6 r s)) := fun h => HCU.out.no (by omega) (fun _ => h)
    have HX : Hid (∀ wx, Below W.heap.size W wx → liC wx g (f + lo * 6) l[lo]) := fun wx h => hcc _ hml wx h
    have HC : Hid (∀ wx, Calls Tryz.prog 170 #[.agg #[.bool l[lo].m, .string l[lo].o, .string l[lo].y, int i64 l[lo].v, int i64 l[lo].r, int i64 l[lo].s], .agg #[.string ⟨#[]⟩, int i64 r, int i64 s]] wx fun e w' => e = .returned (int i64 (J6 r s l[lo])) ∧ Below wx.heap.size wx w') := fun wx => HAT.out wx _
    generalize l[lo] = x at *
    have HS : Hid (∀ wx, Below W.heap.size W wx → wx.cell? ⟨w.heap.size, 0, none⟩ = some (.string ⟨#[]⟩) ∧ wx.cell? ⟨w.heap.size, 1, none⟩ = some (int i64 r) ∧ wx.cell? ⟨w.heap.size, 2, none⟩ = some (int i64 s) ∧ wx.cell? ⟨g, f + lo * 6, none⟩ = some (.bool x.m) ∧ wx.cell? ⟨g, f + lo * 6 + 1, none⟩ = some (.string x.o) ∧ wx.cell? ⟨g, f + lo * 6 + 2, none⟩ = some (.string x.y) ∧ wx.cell? ⟨g, f + lo * 6 + 3, none⟩ = some (int i64 x.v) ∧ wx.cell? ⟨g, f + lo * 6 + 4, none⟩ = some (int i64 x.r) ∧ wx.cell? ⟨g, f + lo * 6 + 5, none⟩ = some (int i64 x.s)) := fun wx h => by
     obtain ⟨t0, t1, t2⟩ := HRK.out wx h
     have hq := HX.out wx h
     unfold liC at hq
     exact ⟨t0, t1, t2, hq⟩
    generalize J6 r s x = R at *
    have HRC : Hid ((R = 0 ∧ (R == 0) = true) ∨ (¬ R = 0 ∧ (R == 0) = false)) := by
     show _ ∨ _
     by_cases h : R = 0
     ·exact .inl ⟨h, by simp [h]⟩
     ·exact .inr ⟨h, by simp [h]⟩
    have hBc : Below W.heap.size W wr := HBE.out
    clear hcc hml hbel hlh2 HGA HCU HP HX HAT
    go_wp2
    replace hBc := hBc.drew
    have hs := Ja (HS.out _ hBc)
    refine wph HS hBc 16 ?_
    refine tQ 0 Jhc ?_; refine tQ 1 JhO ?_; refine tQ 2 Jhj ?_; refine tQ 3 Jhk ?_; refine tQ 4 Jhn ?_; refine tQ 5 JiM ?_; refine tQ 6 JhL ?_; refine tQ 7 JiF ?_; refine tQ 8 Jih ?_; refine tQ 9 JhF ?_; refine tQ 10 JeB ?_
    refine rd 11 Jex (fun K hK => ?_)
    go_simp
    refine (HC.out _).mono ?_
    rintro e wn ⟨rfl, hbn⟩
    replace hBc := nx hBc hbn
    clear hbn
    try go_wp2_with fail
    replace hs := Ja (HS.out _ hBc)
    refine hK.out _ _ hs.out (fun hx => ?_)
    clear hx hK K
    try simp only [s1, s2, s3]
    clear HC
    rcases HRC.out with ⟨h2, hd⟩ | ⟨h2, hd⟩
    ·have HE := Ja (HYE.out h2)
     clear HYE HNO h2 HRC
     refine tQ 12 Jdd ?_; refine tQ 13 JdM ?_; refine tQ 14 JdC ?_; refine tQ 15 Jdu ?_
     refine wpd ?_
     have HBF := Ja (HBW.out.trans (hBc.mono HBW.out.size))
     clear hs hBc HS
     go_wp2
     go_ret2
     exact ⟨HE.out, HBF.out⟩
    ·have HE := Ja (HNO.out h2)
     clear HYE HNO h2 HRC
     refine tQ 12 Jdd ?_; refine tQ 13 JdM ?_; refine tQ 14 JdC ?_; refine tQ 15 Jdu ?_
     refine wpd ?_
     have HBF := Ja (HBW.out.trans (hBc.mono HBW.out.size))
     clear hs hBc HS
     go_wp2
     go_ret2
     exact ⟨HE.out, HBF.out⟩
   ·have hk1 : ¬ ((lo : Int) < n) := by omega
    have HE : Hid (JT (.returned (.tuple #[int i64 (lo : Int), .bool false])) l (J6 r s)) := HCU.out.no (by have := HL.out; omega) (fun hk => by have := HL.out; omega)
    have HS : Hid (∀ wx, Below W.heap.size W wx → wx.cell? ⟨w.heap.size, 0, none⟩ = some (.string ⟨#[]⟩) ∧ wx.cell? ⟨w.heap.size, 1, none⟩ = some (int i64 r) ∧ wx.cell? ⟨w.heap.size, 2, none⟩ = some (int i64 s)) := HRK
    have hBc : Below W.heap.size W wr := HBE.out
    clear hbel hlh2 HGA HCU HP HAT
    go_wp2
    replace hBc := hBc.drew
    have hs := Ja (HS.out _ hBc)
    refine wph HS hBc 16 ?_
    refine tQ 0 Jhc ?_; refine tQ 1 JhO ?_; refine tQ 2 Jhj ?_; refine tQ 3 Jhk ?_; refine tQ 4 Jhn ?_; refine sQ 5 JiM ?_; refine sQ 6 JhL ?_; refine sQ 7 JiF ?_; refine sQ 8 Jih ?_; refine sQ 9 JhF ?_; refine sQ 10 JeB ?_; refine cQ 11 Jex ?_; refine sQ 12 Jdd ?_; refine tQ 13 JdM ?_; refine tQ 14 JdC ?_; refine tQ 15 Jdu ?_
    refine wpd ?_
    have HBF := Ja (HBW.out.trans (hBc.mono HBW.out.size))
    clear hs hBc HS
    go_wp2
    go_ret2
    exact ⟨HE.out, HBF.out⟩
theorem YK (l : List Li) (v : Value) (r s : Int) (w : World) (hn : l.length ≤ 1048576) (hp : Gw (J6 r s) l) (h : LiAt w v l) :
  Calls Tryz.prog 162 #[v, .agg #[.string ⟨#[]⟩, int i64 r, int i64 s]] w fun e w' => JT e l (J6 r s) ∧ Below w.heap.size w w' := by
 obtain ⟨W, hW⟩ : ∃ W, W = w.alloc (.cells #[.string ⟨#[]⟩, int i64 r, int i64 s] 150) := ⟨_, rfl⟩
 have HBW : Hid (Below w.heap.size w W) := by rw [hW]; exact (Below.refl _ _).alloc (Nat.le_refl _) _
 have hRW : Row W w.heap.size #[.string ⟨#[]⟩, int i64 r, int i64 s] 150 := by rw [hW]; exact Jb w _ _ rfl
 have HWW : Hid (w.alloc (.cells #[.string ⟨#[]⟩, int i64 r, int i64 s] 150) = W) := hW.symm
 have HC := Ja (Vp l v r s W hn hp (by rw [hW]; exact h.alloc _))
 obtain ⟨t0, t1, t2⟩ : W.cell? ⟨w.heap.size, 0, none⟩ = some (.string ⟨#[]⟩) ∧ W.cell? ⟨w.heap.size, 1, none⟩ = some (int i64 r) ∧ W.cell? ⟨w.heap.size, 2, none⟩ = some (int i64 s) := ⟨hRW.cell 0 rfl, hRW.cell 1 rfl, hRW.cell 2 rfl⟩
 rw [hW] at t0 t1 t2
 clear hW hRW h
 go_enter Tryz.func162, Tryz.ntmps162
 go_wp2_with fail
 rw [HWW.out]
 refine HC.out.mono ?_
 rintro e w1 ⟨⟨k, b, rfl, hq⟩, hb⟩
 have HQ := Ja hq
 have HBF := Ja (HBW.out.trans (hb.mono HBW.out.size))
 clear hb hq HC t0 t1 t2
 go_wp2
 go_ret2
 exact ⟨⟨k, b, rfl, HQ.out⟩, HBF.out⟩
abbrev JjC : Oper := oq 5 (.load 90 (.tmp 2)) 90 "l06_state.go:88" #[] none
abbrev Jjd : Oper := oq 6 (.makeInterface 90 (.tmp 5)) 170 "l06_state.go:88" #[eD 0] none
abbrev Jjn : Oper := oq 7 (.call ⟨.value (.func 135), #[.tmp 6], #[170]⟩) 150 "l06_state.go:88" #[eD 1] none
abbrev JjJ : Oper := oq 8 (.load 150 (.tmp 3)) 150 "l06_state.go:88" #[] none
abbrev JjB : Oper := oq 9 (.call ⟨.value (.func 136), #[.tmp 7, .tmp 8], #[150, 150]⟩) 3 "l06_state.go:88" #[eD 2, eD 3, eC 2] none
abbrev JjO : Oper := oq 4 (.assign (.tmp 9)) 3 "l06_state.go:88" #[eD 4, eC 4, eP 0, eP 1, eP 2, eP 3, eP 4] none
abbrev Jjy : Oper := oq 24 (.move (.tmp 2)) 163 "sort.go:160" #[] none
abbrev JiW : Oper := oq 25 (.move (.tmp 0)) 27 "sort.go:160" #[] none
abbrev Ji3 : Oper := oq 26 (.move (.tmp 11)) 3 "sort.go:160" #[] none
abbrev JjS : Oper := oq 27 (.indexAddr 27 (.tmp 25) (.tmp 26)) 0 "sort.go:160" #[eD 1, eD 2] none
abbrev Jjh : Oper := oq 28 (.load 90 (.tmp 27)) 90 "sort.go:160" #[eD 3] none
abbrev JiY : Oper := oq 29 (.load 150 (.tmp 4)) 150 "sort.go:160" #[] none
abbrev Jjq : Oper := oq 30 (.call ⟨.value (.tmp 24), #[.tmp 28, .tmp 29], #[90, 150]⟩) 3 "sort.go:160" #[eD 0, eD 4, eD 5] none
abbrev Jid : Oper := oq 31 (.binOp .lss 3 (.tmp 30) (.const (int i64 0)) 3) 4 "sort.go:160" #[eD 6] none
abbrev Jhx : Oper := oq 35 (.move (.tmp 9)) 3 "sort.go:167" #[] none
abbrev Jg5 : Oper := oq 36 (.move (.tmp 9)) 3 "sort.go:167" #[] none
abbrev JgL : Oper := oq 37 (.move (.tmp 8)) 3 "sort.go:167" #[] none
abbrev JhB : Oper := oq 38 (.binOp .lss 3 (.tmp 36) (.tmp 37) 3) 4 "sort.go:167" #[eD 1, eD 2] none
abbrev JhX : Oper := oq 39 (.move (.tmp 38)) 4 "sort.go:167" #[eD 3] none
abbrev JiA : Oper := oq 40 (.move (.tmp 2)) 163 "sort.go:167" #[eG 4] (some (4, true))
abbrev JhY : Oper := oq 41 (.move (.tmp 0)) 27 "sort.go:167" #[eG 4] (some (4, true))
abbrev JhJ : Oper := oq 42 (.move (.tmp 9)) 3 "sort.go:167" #[eG 4] (some (4, true))
abbrev JgV : Oper := oq 43 (.indexAddr 27 (.tmp 41) (.tmp 42)) 0 "sort.go:167" #[eD 6, eD 7, eG 4] (some (4, true))
abbrev JgK : Oper := oq 44 (.load 90 (.tmp 43)) 90 "sort.go:167" #[eD 8, eG 4] (some (4, true))
abbrev JeE : Oper := oq 45 (.load 150 (.tmp 4)) 150 "sort.go:167" #[eG 4] (some (4, true))
abbrev JeA : Oper := oq 46 (.call ⟨.value (.tmp 40), #[.tmp 44, .tmp 45], #[90, 150]⟩) 3 "sort.go:167" #[eD 5, eD 9, eD 10, eC 4, eG 4] (some (4, true))
abbrev Jc9 : Oper := oq 47 (.binOp .eql 3 (.tmp 46) (.const (int i64 0)) 3) 4 "sort.go:167" #[eD 11, eG 4, { on := 14, ground := .gcOnly .lateStores }] (some (4, true))
abbrev Jdg : Oper := oq 48 (.pick (.tmp 39) (.tmp 47) (.const (.bool false))) 4 "sort.go:167" #[eD 4, eD 12, { on := 14, ground := .gcOnly .lateStores }] none
abbrev Jc6 : Oper := oq 6 (.assign (.tmp 35)) 3 "sort.go:167" #[eD 0, eC 11, eP 0, { on := 1, ground := .textOnly .lateStores }, { on := 2, ground := .textOnly .lateStores }, { on := 3, ground := .textOnly .lateStores }, { on := 4, ground := .textOnly .lateStores }, { on := 5, ground := .textOnly .lateStores }, { on := 6, ground := .textOnly .lateStores }, { on := 7, ground := .textOnly .lateStores }, { on := 8, ground := .textOnly .lateStores }, { on := 9, ground := .textOnly .lateStores }, { on := 10, ground := .textOnly .lateStores }, { on := 11, ground := .textOnly .lateStoresUnsure }, { on := 12, ground := .textOnly .lateStores }, { on := 13, ground := .textOnly .lateStores }] none
abbrev Jdc : Oper := oq 7 (.assign (.tmp 48)) 4 "sort.go:167" #[eD 13, eC 14, eP 0, eP 1, eP 2, eP 3, eP 4, eP 5, eP 6, eP 7, eP 8, eP 9, eP 10, eP 11, eP 12, eP 13, eP 14] none
theorem VD (x : Ce) (r s : Int) (w : World) :
  Calls Tryz.prog 140 #[.agg #[.string x.o, int i64 x.r, int i64 x.s, int i64 x.t, int i64 x.x, int i64 x.z, int i64 x.v, .bool x.g], .agg #[.string ⟨#[]⟩, int i64 r, int i64 s]] w fun e w' => e = .returned (int i64 (J0 r s x)) ∧ Below w.heap.size w w' := by
 obtain ⟨WW, hWW⟩ : ∃ WW, WW = (w.alloc (.cells #[.string x.o, int i64 x.r, int i64 x.s, int i64 x.t, int i64 x.x, int i64 x.z, int i64 x.v, .bool x.g] 90)).alloc (.cells #[.string ⟨#[]⟩, int i64 r, int i64 s] 150) := ⟨_, rfl⟩
 have h1 : Row WW w.heap.size #[.string x.o, int i64 x.r, int i64 x.s, int i64 x.t, int i64 x.x, int i64 x.z, int i64 x.v, .bool x.g] 90 := by rw [hWW]; exact (Jb w _ _ rfl).alloc _
 have h2 : Row WW (w.heap.size + 1) #[.string ⟨#[]⟩, int i64 r, int i64 s] 150 := by rw [hWW]; exact Jb _ _ _ (by simp)
 have HBA : Hid (Below w.heap.size w WW) := by rw [hWW]; exact ((Below.refl _ _).alloc (Nat.le_refl _) _).alloc (by simp) _
 have HWW : Hid ((w.alloc (.cells #[.string x.o, int i64 x.r, int i64 x.s, int i64 x.t, int i64 x.x, int i64 x.z, int i64 x.v, .bool x.g] 90)).alloc (.cells #[.string ⟨#[]⟩, int i64 r, int i64 s] 150) = WW) := hWW.symm
 have HS : Hid (∀ wx, Below WW.heap.size WW wx → wx.cell? ⟨w.heap.size, 0, none⟩ = some (.string x.o) ∧ wx.cell? ⟨w.heap.size, 1, none⟩ = some (int i64 x.r) ∧ wx.cell? ⟨w.heap.size, 2, none⟩ = some (int i64 x.s) ∧ wx.cell? ⟨w.heap.size, 3, none⟩ = some (int i64 x.t) ∧ wx.cell? ⟨w.heap.size, 4, none⟩ = some (int i64 x.x) ∧ wx.cell? ⟨w.heap.size, 5, none⟩ = some (int i64 x.z) ∧ wx.cell? ⟨w.heap.size, 6, none⟩ = some (int i64 x.v) ∧ wx.cell? ⟨w.heap.size, 7, none⟩ = some (.bool x.g) ∧ wx.cell? ⟨w.heap.size + 1, 0, none⟩ = some (.string ⟨#[]⟩) ∧ wx.cell? ⟨w.heap.size + 1, 1, none⟩ = some (int i64 r) ∧ wx.cell? ⟨w.heap.size + 1, 2, none⟩ = some (int i64 s)) := fun wx h => ⟨(h1.next h).cell 0 rfl, (h1.next h).cell 1 rfl, (h1.next h).cell 2 rfl, (h1.next h).cell 3 rfl, (h1.next h).cell 4 rfl, (h1.next h).cell 5 rfl, (h1.next h).cell 6 rfl, (h1.next h).cell 7 rfl, (h2.next h).cell 0 rfl, (h2.next h).cell 1 rfl, (h2.next h).cell 2 rfl⟩
 obtain ⟨R, hR⟩ : ∃ R, R = J0 r s x := ⟨_, rfl⟩
 have HK : Hid (∀ wx, Calls Tryz.prog 135 #[.iface 90 (.agg #[.string x.o, int i64 x.r, int i64 x.s, int i64 x.t, int i64 x.x, int i64 x.z, int i64 x.v, .bool x.g])] wx fun e w' => e = .returned (.agg #[.string ⟨#[]⟩, int i64 x.r, int i64 x.s]) ∧ Below wx.heap.size wx w') := fun wx => Gx x wx
 have HC : Hid (∀ wx, Calls Tryz.prog 136 #[.agg #[.string ⟨#[]⟩, int i64 x.r, int i64 x.s], .agg #[.string ⟨#[]⟩, int i64 r, int i64 s]] wx fun e w' => e = .returned (int i64 R) ∧ Below wx.heap.size wx w') := fun wx => by rw [hR]; exact ZP _ _ _ _ _ _ wx
 rw [← hR]
 have hBc : Below WW.heap.size WW WW := Below.refl _ _
 clear hWW h1 h2 hR
 go_enter Tryz.func140, Tryz.ntmps140
 go_wp2
 rw [HWW.out]
 clear HWW
 replace hBc := hBc.drew
 have hs := Ja (HS.out _ hBc)
 refine wph HS hBc 6 ?_
 refine tQ 0 JjC ?_; refine tQ 1 Jjd ?_; refine tQ 3 JjJ ?_
 refine rd 2 Jjn (fun K hK => ?_)
 go_simp
 refine (HK.out _).mono ?_
 rintro e wn ⟨rfl, hbn⟩
 replace hBc := nx hBc hbn
 clear hbn
 try go_wp2_with fail
 replace hs := Ja (HS.out _ hBc)
 refine hK.out _ _ hs.out (fun hx => ?_)
 clear hx hK K
 try simp only [s1, s2, s3]
 clear HK
 refine rd 4 JjB (fun K hK => ?_)
 go_simp
 refine (HC.out _).mono ?_
 rintro e wn ⟨rfl, hbn⟩
 replace hBc := nx hBc hbn
 clear hbn
 try go_wp2_with fail
 replace hs := Ja (HS.out _ hBc)
 refine hK.out _ _ hs.out (fun hx => ?_)
 clear hx hK K
 try simp only [s1, s2, s3]
 clear HC
 refine tQ 5 JjO ?_
 refine wpd ?_
 have HBF := Ja (HBA.out.trans (hBc.mono HBA.out.size))
 clear hs hBc HS
 go_wp2
 go_ret
 exact ⟨rfl, HBF.out⟩
theorem Vv (l : List Ce) (v : Value) (r s : Int) (w : World) (hn : l.length ≤ 1048576) (hp : Gw (J0 r s) l) (h : CeAt w v l) :
  Calls Tryz.prog 139 #[v, .agg #[.string ⟨#[]⟩, int i64 r, int i64 s], .func (.func 140) #[] #[]] w fun e w' => JT e l (J0 r s) ∧ Below w.heap.size w w' := by
 obtain ⟨aa, ca, rfl, hga⟩ := h
 obtain ⟨W, hW⟩ : ∃ W, W = w.alloc (.cells #[.string ⟨#[]⟩, int i64 r, int i64 s] 150) := ⟨_, rfl⟩
 have HBW : Hid (Below w.heap.size w W) := by rw [hW]; exact (Below.refl _ _).alloc (Nat.le_refl _) _
 have hRW : Row W w.heap.size #[.string ⟨#[]⟩, int i64 r, int i64 s] 150 := by rw [hW]; exact Jb w _ _ rfl
 have HWW : Hid (w.alloc (.cells #[.string ⟨#[]⟩, int i64 r, int i64 s] 150) = W) := hW.symm
 have HRK : Hid (∀ wx, Below W.heap.size W wx → wx.cell? ⟨w.heap.size, 0, none⟩ = some (.string ⟨#[]⟩) ∧ wx.cell? ⟨w.heap.size, 1, none⟩ = some (int i64 r) ∧ wx.cell? ⟨w.heap.size, 2, none⟩ = some (int i64 s)) := fun wx h => ⟨(hRW.next h).cell 0 rfl, (hRW.next h).cell 1 rfl, (hRW.next h).cell 2 rfl⟩
 have HGA : Hid (0 < l.length → ∃ g f, aa = some ⟨g, f, none⟩ ∧ ∀ j (h : j < l.length) wx, Below W.heap.size W wx → ceC wx g (f + j * 8) l[j]) := fun h0 => by
  obtain ⟨g, f, e, hg, hc⟩ := hga h0
  exact ⟨g, f, e, fun j hj wx hx => (hc j hj).below (HBW.out.trans (hx.mono HBW.out.size)) hg⟩
 have HP := Ja hp
 have HAT : Hid (∀ wx (x : Ce), Calls Tryz.prog 140 #[.agg #[.string x.o, int i64 x.r, int i64 x.s, int i64 x.t, int i64 x.x, int i64 x.z, int i64 x.v, .bool x.g], .agg #[.string ⟨#[]⟩, int i64 r, int i64 s]] wx fun e w' => e = .returned (int i64 (J0 r s x)) ∧ Below wx.heap.size wx w') := fun wx x => VD x r s wx
 obtain ⟨n, hnl⟩ : ∃ n, n = l.length := ⟨_, rfl⟩
 have HL : Hid (n = l.length) := hnl
 rw [← hnl] at hn ⊢
 clear hnl hga hp hW hRW
 go_enter Tryz.func139, Tryz.ntmps139
 go_wp2
 rw [HWW.out]
 clear HWW
 go_loopw [9, 10] (fun x z wr => ∃ lo hi : Nat, x = int i64 lo ∧ z = int i64 hi ∧ lo ≤ hi ∧ hi ≤ n ∧ Brack l (J0 r s) lo hi ∧ Below W.heap.size W wr) (fun x z _ => (intOf z - intOf x).toNat)
 case atStart => exact ⟨0, n, rfl, rfl, Nat.zero_le _, Nat.le_refl _, ⟨fun i _ h => by omega, fun i h1 h2 => by have := HL.out; omega⟩, Below.refl _ _⟩
 case round =>
  obtain ⟨lo, hi, rfl, rfl, hlh, hhn, hin, hbel⟩ := hrel
  have HIN := Ja hin
  have HBE := Ja hbel
  clear hin
  by_cases hlt : lo < hi
  ·have hml : (lo + hi) / 2 < l.length := by have := HL.out; omega
   obtain ⟨g, f, rfl, hcc⟩ := HGA.out (by omega)
   have hm0 : (0 : Int) ≤ ((lo : Int) + hi) / 2 := by omega
   have hm1 : ((lo : Int) + hi) / 2 < n := by omega
   have hmt : (((lo : Int) + hi) / 2).toNat = (lo + hi) / 2 := by omega
   have hw1 : IntKind.i64.wrap ((lo : Int) + hi) = (lo : Int) + hi := by rw [IntKind.wrap_i64] <;> omega
   have hw2 : IntKind.u64.wrap ((lo : Int) + hi) = (lo : Int) + hi := by rw [IntKind.wrap_u64]; omega
   have hw3 : IntKind.i64.wrap (((lo : Int) + hi) / 2) = ((lo : Int) + hi) / 2 := by rw [IntKind.wrap_i64] <;> omega
   have hw5 : IntKind.u64.wrap (((lo : Int) + hi) / 2) = ((lo : Int) + hi) / 2 := by rw [IntKind.wrap_u64]; omega
   have hw4 : IntKind.i64.wrap (((lo : Int) + hi) / 2 + 1) = ((lo : Int) + hi) / 2 + 1 := by rw [IntKind.wrap_i64] <;> omega
   have hlt1 : (lo : Int) < hi := by omega
   have HUP : Hid (J0 r s l[(lo + hi) / 2] < 0 → Brack l (J0 r s) ((lo + hi) / 2 + 1) hi) := fun h => HIN.out.up HP.out hml h
   have HDN : Hid (¬ J0 r s l[(lo + hi) / 2] < 0 → Brack l (J0 r s) lo ((lo + hi) / 2)) := fun h => HIN.out.down HP.out hml h
   have HX : Hid (∀ wx, Below W.heap.size W wx → ceC wx g (f + (lo + hi) / 2 * 8) l[(lo + hi) / 2]) := fun wx h => hcc _ hml wx h
   have HC : Hid (∀ wx, Calls Tryz.prog 140 #[.agg #[.string l[(lo + hi) / 2].o, int i64 l[(lo + hi) / 2].r, int i64 l[(lo + hi) / 2].s, int i64 l[(lo + hi) / 2].t, int i64 l[(lo + hi) / 2].x, int i64 l[(lo + hi) / 2].z, int i64 l[(lo + hi) / 2].v, .bool l[(lo + hi) / 2].g], .agg #[.string ⟨#[]⟩, int i64 r, int i64 s]] wx fun e w' => e = .returned (int i64 (J0 r s l[(lo + hi) / 2])) ∧ Below wx.heap.size wx w') := fun wx => HAT.out wx _
   generalize l[(lo + hi) / 2] = x at *
   have HS : Hid (∀ wx, Below W.heap.size W wx → wx.cell? ⟨w.heap.size, 0, none⟩ = some (.string ⟨#[]⟩) ∧ wx.cell? ⟨w.heap.size, 1, none⟩ = some (int i64 r) ∧ wx.cell? ⟨w.heap.size, 2, none⟩ = some (int i64 s) ∧ wx.cell? ⟨g, f + (lo + hi) / 2 * 8, none⟩ = some (.string x.o) ∧ wx.cell? ⟨g, f + (lo + hi) / 2 * 8 + 1, none⟩ = some (int i64 x.r) ∧ wx.cell? ⟨g, f + (lo + hi) / 2 * 8 + 2, none⟩ = some (int i64 x.s) ∧ wx.cell? ⟨g, f + (lo + hi) / 2 * 8 + 3, none⟩ = some (int i64 x.t) ∧ wx.cell? ⟨g, f + (lo + hi) / 2 * 8 + 4, none⟩ = some (int i64 x.x) ∧ wx.cell? ⟨g, f + (lo + hi) / 2 * 8 + 5, none⟩ = some (int i64 x.z) ∧ wx.cell? ⟨g, f + (lo + hi) / 2 * 8 + 6, none⟩ = some (int i64 x.v) ∧ wx.cell? ⟨g, f + (lo + hi) / 2 * 8 + 7, none⟩ = some (.bool x.g)) := fun wx h => by
    obtain ⟨t0, t1, t2⟩ := HRK.out wx h
    have hq := HX.out wx h
    unfold ceC at hq
    exact ⟨t0, t1, t2, hq⟩
   generalize J0 r s x = R at *
   have HRC : Hid ((R < 0 ∧ decide (R < 0) = true) ∨ (¬ R < 0 ∧ decide (R < 0) = false)) := by
    show _ ∨ _
    by_cases h : R < 0
    ·exact .inl ⟨h, decide_eq_true h⟩
    ·exact .inr ⟨h, decide_eq_false h⟩
   have hBc : Below W.heap.size W wr := HBE.out
   clear hcc hml hbel HX HAT
   go_wp2
   replace hBc := hBc.drew
   have hs := Ja (HS.out _ hBc)
   refine wph HS hBc 8 ?_
   refine tQ 0 Jjy ?_; refine tQ 1 JiW ?_; refine tQ 2 Ji3 ?_; refine tQ 3 JjS ?_; refine tQ 4 Jjh ?_; refine tQ 5 JiY ?_
   refine rd 6 Jjq (fun K hK => ?_)
   go_simp
   refine (HC.out _).mono ?_
   rintro e wn ⟨rfl, hbn⟩
   replace hBc := nx hBc hbn
   clear hbn
   try go_wp2_with fail
   replace hs := Ja (HS.out _ hBc)
   refine hK.out _ _ hs.out (fun hx => ?_)
   clear hx hK K
   try simp only [s1, s2, s3]
   clear HC
   rcases HRC.out with ⟨h2, hd⟩ | ⟨h2, hd⟩
   ·have HE := Ja (HUP.out h2)
    clear HUP HDN h2 HRC
    refine tQ 7 Jid ?_
    refine wpd ?_
    have HBF := Ja hBc
    clear hs hBc HS
    go_wp2
    go_roundw
    case rel => exact ⟨(lo + hi) / 2 + 1, hi, by go_num, rfl, by omega, hhn, HE.out, HBF.out⟩
    case measure => simp [intOf]; omega
   ·have HE := Ja (HDN.out h2)
    clear HUP HDN h2 HRC
    refine tQ 7 Jid ?_
    refine wpd ?_
    have HBF := Ja hBc
    clear hs hBc HS
    go_wp2
    go_roundw
    case rel => exact ⟨lo, (lo + hi) / 2, rfl, by go_num, by omega, by omega, HE.out, HBF.out⟩
    case measure => simp [intOf]; omega
  ·have hlt1 : ¬ ((lo : Int) < hi) := by omega
   have hlh2 : lo = hi := by omega
   have HCU : Hid (Brack l (J0 r s) lo lo) := by have := HIN.out; rw [← hlh2] at this; exact this
   clear HIN
   by_cases hln : lo < n
   ·have hml : lo < l.length := by have := HL.out; omega
    obtain ⟨g, f, rfl, hcc⟩ := HGA.out (by omega)
    have hk1 : (lo : Int) < n := by omega
    have hk0 : (0 : Int) ≤ lo := by omega
    have HYE : Hid (J0 r s l[lo] = 0 → JT (.returned (.tuple #[int i64 (lo : Int), .bool true])) l (J0 r s)) := fun h => HCU.out.yes hml h
    have HNO : Hid (¬ J0 r s l[lo] = 0 → JT (.returned (.tuple #[int i64 (lo : Int), .bool false])) l (J0 r s)) := fun h => HCU.out.no (by omega) (fun _ => h)
    have HX : Hid (∀ wx, Below W.heap.size W wx → ceC wx g (f + lo * 8) l[lo]) := fun wx h => hcc _ hml wx h
    have HC : Hid (∀ wx, Calls Tryz.prog 140 #[.agg #[.string l[lo].o, int i64 l[lo].r, int i64 l[lo].s, int i64 l[lo].t, int i64 l[lo].x, int i64 l[lo].z, int i64 l[lo].v, .bool l[lo].g], .agg #[.string ⟨#[]⟩, int i64 r, int i64 s]] wx fun e w' => e = .returned (int i64 (J0 r s l[lo])) ∧ Below wx.heap.size wx w') := fun wx => HAT.out wx _
    generalize l[lo] = x at *
    have HS : Hid (∀ wx, Below W.heap.size W wx → wx.cell? ⟨w.heap.size, 0, none⟩ = some (.string ⟨#[]⟩) ∧ wx.cell? ⟨w.heap.size, 1, none⟩ = some (int i64 r) ∧ wx.cell? ⟨w.heap.size, 2, none⟩ = some (int i64 s) ∧ wx.cell? ⟨g, f + lo * 8, none⟩ = some (.string x.o) ∧ wx.cell? ⟨g, f + lo * 8 + 1, none⟩ = some (int i64 x.r) ∧ wx.cell? ⟨g, f + lo * 8 + 2, none⟩ = some (int i64 x.s) ∧ wx.cell? ⟨g, f + lo * 8 + 3, none⟩ = some (int i64 x.t) ∧ wx.cell? ⟨g, f + lo * 8 + 4, none⟩ = some (int i64 x.x) ∧ wx.cell? ⟨g, f + lo * 8 + 5, none⟩ = some (int i64 x.z) ∧ wx.cell? ⟨g, f + lo * 8 + 6, none⟩ = some (int i64 x.v) ∧ wx.cell? ⟨g, f + lo * 8 + 7, none⟩ = some (.bool x.g)) := fun wx h => by
     obtain ⟨t0, t1, t2⟩ := HRK.out wx h
     have hq := HX.out wx h
     unfold ceC at hq
     exact ⟨t0, t1, t2, hq⟩
    generalize J0 r s x = R at *
    have HRC : Hid ((R = 0 ∧ (R == 0) = true) ∨ (¬ R = 0 ∧ (R == 0) = false)) := by
     show _ ∨ _
     by_cases h : R = 0
     ·exact .inl ⟨h, by simp [h]⟩
     ·exact .inr ⟨h, by simp [h]⟩
    have hBc : Below W.heap.size W wr := HBE.out
    clear hcc hml hbel hlh2 HGA HCU HP HX HAT
    go_wp2
    replace hBc := hBc.drew
    have hs := Ja (HS.out _ hBc)
    refine wph HS hBc 16 ?_
    refine tQ 0 Jhx ?_; refine tQ 1 Jg5 ?_; refine tQ 2 JgL ?_; refine tQ 3 JhB ?_; refine tQ 4 JhX ?_; refine tQ 5 JiA ?_; refine tQ 6 JhY ?_; refine tQ 7 JhJ ?_; refine tQ 8 JgV ?_; refine tQ 9 JgK ?_; refine tQ 10 JeE ?_
    refine rd 11 JeA (fun K hK => ?_)
    go_simp
    refine (HC.out _).mono ?_
    rintro e wn ⟨rfl, hbn⟩
    replace hBc := nx hBc hbn
    clear hbn
    try go_wp2_with fail
    replace hs := Ja (HS.out _ hBc)
    refine hK.out _ _ hs.out (fun hx => ?_)
    clear hx hK K
    try simp only [s1, s2, s3]
    clear HC
    rcases HRC.out with ⟨h2, hd⟩ | ⟨h2, hd⟩
    ·have HE := Ja (HYE.out h2)
     clear HYE HNO h2 HRC
     refine tQ 12 Jc9 ?_; refine tQ 13 Jdg ?_; refine tQ 14 Jc6 ?_; refine tQ 15 Jdc ?_
     refine wpd ?_
     have HBF := Ja (HBW.out.trans (hBc.mono HBW.out.size))
     clear hs hBc HS
     go_wp2
     go_ret2
     exact ⟨HE.out, HBF.out⟩
    ·have HE := Ja (HNO.out h2)
     clear HYE HNO h2 HRC
     refine tQ 12 Jc9 ?_; refine tQ 13 Jdg ?_; refine tQ 14 Jc6 ?_; refine tQ 15 Jdc ?_
     refine wpd ?_
     have HBF := Ja (HBW.out.trans (hBc.mono HBW.out.size))
     clear hs hBc HS
     go_wp2
     go_ret2
     exact ⟨HE.out, HBF.out⟩
   ·have hk1 : ¬ ((lo : Int) < n) := by omega
    have HE : Hid (JT (.returned (.tuple #[int i64 (lo : Int), .bool false])) l (J0 r s)) := HCU.out.no (by have := HL.out; omega) (fun hk => by have := HL.out; omega)
    have HS : Hid (∀ wx, Below W.heap.size W wx → wx.cell? ⟨w.heap.size, 0, none⟩ = some (.string ⟨#[]⟩) ∧ wx.cell? ⟨w.heap.size, 1, none⟩ = some (int i64 r) ∧ wx.cell? ⟨w.heap.size, 2, none⟩ = some (int i64 s)) := HRK
    have hBc : Below W.heap.size W wr := HBE.out
    clear hbel hlh2 HGA HCU HP HAT
    go_wp2
    replace hBc := hBc.drew
    have hs := Ja (HS.out _ hBc)
    refine wph HS hBc 16 ?_
    refine tQ 0 Jhx ?_; refine tQ 1 Jg5 ?_; refine tQ 2 JgL ?_; refine tQ 3 JhB ?_; refine tQ 4 JhX ?_; refine sQ 5 JiA ?_; refine sQ 6 JhY ?_; refine sQ 7 JhJ ?_; refine sQ 8 JgV ?_; refine sQ 9 JgK ?_; refine sQ 10 JeE ?_; refine cQ 11 JeA ?_; refine sQ 12 Jc9 ?_; refine tQ 13 Jdg ?_; refine tQ 14 Jc6 ?_; refine tQ 15 Jdc ?_
    refine wpd ?_
    have HBF := Ja (HBW.out.trans (hBc.mono HBW.out.size))
    clear hs hBc HS
    go_wp2
    go_ret2
    exact ⟨HE.out, HBF.out⟩
theorem Z8 (l : List Ce) (v : Value) (r s : Int) (w : World) (hn : l.length ≤ 1048576) (hp : Gw (J0 r s) l) (h : CeAt w v l) :
  Calls Tryz.prog 121 #[v, .agg #[.string ⟨#[]⟩, int i64 r, int i64 s]] w fun e w' => JT e l (J0 r s) ∧ Below w.heap.size w w' := by
 obtain ⟨W, hW⟩ : ∃ W, W = w.alloc (.cells #[.string ⟨#[]⟩, int i64 r, int i64 s] 150) := ⟨_, rfl⟩
 have HBW : Hid (Below w.heap.size w W) := by rw [hW]; exact (Below.refl _ _).alloc (Nat.le_refl _) _
 have hRW : Row W w.heap.size #[.string ⟨#[]⟩, int i64 r, int i64 s] 150 := by rw [hW]; exact Jb w _ _ rfl
 have HWW : Hid (w.alloc (.cells #[.string ⟨#[]⟩, int i64 r, int i64 s] 150) = W) := hW.symm
 have HC := Ja (Vv l v r s W hn hp (by rw [hW]; exact h.alloc _))
 obtain ⟨t0, t1, t2⟩ : W.cell? ⟨w.heap.size, 0, none⟩ = some (.string ⟨#[]⟩) ∧ W.cell? ⟨w.heap.size, 1, none⟩ = some (int i64 r) ∧ W.cell? ⟨w.heap.size, 2, none⟩ = some (int i64 s) := ⟨hRW.cell 0 rfl, hRW.cell 1 rfl, hRW.cell 2 rfl⟩
 rw [hW] at t0 t1 t2
 clear hW hRW h
 go_enter Tryz.func121, Tryz.ntmps121
 go_wp2_with fail
 rw [HWW.out]
 refine HC.out.mono ?_
 rintro e w1 ⟨⟨k, b, rfl, hq⟩, hb⟩
 have HQ := Ja hq
 have HBF := Ja (HBW.out.trans (hb.mono HBW.out.size))
 clear hb hq HC t0 t1 t2
 go_wp2
 go_ret2
 exact ⟨⟨k, b, rfl, HQ.out⟩, HBF.out⟩
end Go.Proofs.YtepfinenocpneaaGreat
