/- Where a part stands, or would stand: halves of a list in ord. -/
import Derived.Test.YtepfinenocpneaaGreatQ20
set_option maxHeartbeats 16000000
namespace Go.Proofs.YtepfinenocpneaaGreat
open Value (int)
open IntKind (i64)
set_option maxRecDepth 100000
set_option linter.unusedVariables false
open Go.RowKit
abbrev JiN : Oper := oq 5 (.load 86 (.tmp 2)) 86 "l06_state.go:88" #[] none
abbrev Jja : Oper := oq 6 (.makeInterface 86 (.tmp 5)) 170 "l06_state.go:88" #[eD 0] none
abbrev JjH : Oper := oq 7 (.call ⟨.value (.func 135), #[.tmp 6], #[170]⟩) 150 "l06_state.go:88" #[eD 1] none
abbrev Jjv : Oper := oq 8 (.load 150 (.tmp 3)) 150 "l06_state.go:88" #[] none
abbrev Ji9 : Oper := oq 9 (.call ⟨.value (.func 136), #[.tmp 7, .tmp 8], #[150, 150]⟩) 3 "l06_state.go:88" #[eD 2, eD 3, eC 2] none
abbrev Jji : Oper := oq 4 (.assign (.tmp 9)) 3 "l06_state.go:88" #[eD 4, eC 4, eP 0, eP 1, eP 2, eP 3, eP 4] none
abbrev JiS : Oper := oq 24 (.move (.tmp 2)) 175 "sort.go:160" #[] none
abbrev Jjg : Oper := oq 25 (.move (.tmp 0)) 25 "sort.go:160" #[] none
abbrev Jje : Oper := oq 26 (.move (.tmp 11)) 3 "sort.go:160" #[] none
abbrev Jjp : Oper := oq 27 (.indexAddr 25 (.tmp 25) (.tmp 26)) 0 "sort.go:160" #[eD 1, eD 2] none
abbrev Ji2 : Oper := oq 28 (.load 86 (.tmp 27)) 86 "sort.go:160" #[eD 3] none
abbrev Jjz : Oper := oq 29 (.load 150 (.tmp 4)) 150 "sort.go:160" #[] none
abbrev Jjm : Oper := oq 30 (.call ⟨.value (.tmp 24), #[.tmp 28, .tmp 29], #[86, 150]⟩) 3 "sort.go:160" #[eD 0, eD 4, eD 5] none
abbrev Jha : Oper := oq 31 (.binOp .lss 3 (.tmp 30) (.const (int i64 0)) 3) 4 "sort.go:160" #[eD 6] none
abbrev JiI : Oper := oq 35 (.move (.tmp 9)) 3 "sort.go:167" #[] none
abbrev Jhm : Oper := oq 36 (.move (.tmp 9)) 3 "sort.go:167" #[] none
abbrev Jic : Oper := oq 37 (.move (.tmp 8)) 3 "sort.go:167" #[] none
abbrev Jg2 : Oper := oq 38 (.binOp .lss 3 (.tmp 36) (.tmp 37) 3) 4 "sort.go:167" #[eD 1, eD 2] none
abbrev JhV : Oper := oq 39 (.move (.tmp 38)) 4 "sort.go:167" #[eD 3] none
abbrev Jhp : Oper := oq 40 (.move (.tmp 2)) 175 "sort.go:167" #[eG 4] (some (4, true))
abbrev Jg1 : Oper := oq 41 (.move (.tmp 0)) 25 "sort.go:167" #[eG 4] (some (4, true))
abbrev Jiw : Oper := oq 42 (.move (.tmp 9)) 3 "sort.go:167" #[eG 4] (some (4, true))
abbrev Jh8 : Oper := oq 43 (.indexAddr 25 (.tmp 41) (.tmp 42)) 0 "sort.go:167" #[eD 6, eD 7, eG 4] (some (4, true))
abbrev JiB : Oper := oq 44 (.load 86 (.tmp 43)) 86 "sort.go:167" #[eD 8, eG 4] (some (4, true))
abbrev Jes : Oper := oq 45 (.load 150 (.tmp 4)) 150 "sort.go:167" #[eG 4] (some (4, true))
abbrev Jet : Oper := oq 46 (.call ⟨.value (.tmp 40), #[.tmp 44, .tmp 45], #[86, 150]⟩) 3 "sort.go:167" #[eD 5, eD 9, eD 10, eC 4, eG 4] (some (4, true))
abbrev Jdi : Oper := oq 47 (.binOp .eql 3 (.tmp 46) (.const (int i64 0)) 3) 4 "sort.go:167" #[eD 11, eG 4, { on := 14, ground := .gcOnly .lateStores }] (some (4, true))
abbrev JdJ : Oper := oq 48 (.pick (.tmp 39) (.tmp 47) (.const (.bool false))) 4 "sort.go:167" #[eD 4, eD 12, { on := 14, ground := .gcOnly .lateStores }] none
abbrev Jdw : Oper := oq 6 (.assign (.tmp 35)) 3 "sort.go:167" #[eD 0, eC 11, eP 0, { on := 1, ground := .textOnly .lateStores }, { on := 2, ground := .textOnly .lateStores }, { on := 3, ground := .textOnly .lateStores }, { on := 4, ground := .textOnly .lateStores }, { on := 5, ground := .textOnly .lateStores }, { on := 6, ground := .textOnly .lateStores }, { on := 7, ground := .textOnly .lateStores }, { on := 8, ground := .textOnly .lateStores }, { on := 9, ground := .textOnly .lateStores }, { on := 10, ground := .textOnly .lateStores }, { on := 11, ground := .textOnly .lateStoresUnsure }, { on := 12, ground := .textOnly .lateStores }, { on := 13, ground := .textOnly .lateStores }] none
abbrev JcQ : Oper := oq 7 (.assign (.tmp 48)) 4 "sort.go:167" #[eD 13, eC 14, eP 0, eP 1, eP 2, eP 3, eP 4, eP 5, eP 6, eP 7, eP 8, eP 9, eP 10, eP 11, eP 12, eP 13, eP 14] none
theorem Vl (x : Ta) (o : ByteArray) (r : Int) (w : World) :
  Calls Tryz.prog 151 #[.agg #[.string x.o, int i64 x.r, int i64 x.n], .agg #[.string o, int i64 r, int i64 0]] w fun e w' => e = .returned (int i64 (J5 o r x)) ∧ Below w.heap.size w w' := by
 obtain ⟨WW, hWW⟩ : ∃ WW, WW = (w.alloc (.cells #[.string x.o, int i64 x.r, int i64 x.n] 86)).alloc (.cells #[.string o, int i64 r, int i64 0] 150) := ⟨_, rfl⟩
 have h1 : Row WW w.heap.size #[.string x.o, int i64 x.r, int i64 x.n] 86 := by rw [hWW]; exact (Jb w _ _ rfl).alloc _
 have h2 : Row WW (w.heap.size + 1) #[.string o, int i64 r, int i64 0] 150 := by rw [hWW]; exact Jb _ _ _ (by simp)
 have HBA : Hid (Below w.heap.size w WW) := by rw [hWW]; exact ((Below.refl _ _).alloc (Nat.le_refl _) _).alloc (by simp) _
 have HWW : Hid ((w.alloc (.cells #[.string x.o, int i64 x.r, int i64 x.n] 86)).alloc (.cells #[.string o, int i64 r, int i64 0] 150) = WW) := hWW.symm
 have HS : Hid (∀ wx, Below WW.heap.size WW wx → wx.cell? ⟨w.heap.size, 0, none⟩ = some (.string x.o) ∧ wx.cell? ⟨w.heap.size, 1, none⟩ = some (int i64 x.r) ∧ wx.cell? ⟨w.heap.size, 2, none⟩ = some (int i64 x.n) ∧ wx.cell? ⟨w.heap.size + 1, 0, none⟩ = some (.string o) ∧ wx.cell? ⟨w.heap.size + 1, 1, none⟩ = some (int i64 r) ∧ wx.cell? ⟨w.heap.size + 1, 2, none⟩ = some (int i64 0)) := fun wx h => ⟨(h1.next h).cell 0 rfl, (h1.next h).cell 1 rfl, (h1.next h).cell 2 rfl, (h2.next h).cell 0 rfl, (h2.next h).cell 1 rfl, (h2.next h).cell 2 rfl⟩
 obtain ⟨R, hR⟩ : ∃ R, R = J5 o r x := ⟨_, rfl⟩
 have HK : Hid (∀ wx, Calls Tryz.prog 135 #[.iface 86 (.agg #[.string x.o, int i64 x.r, int i64 x.n])] wx fun e w' => e = .returned (.agg #[.string x.o, int i64 x.r, int i64 0]) ∧ Below wx.heap.size wx w') := fun wx => Gg x wx
 have HC : Hid (∀ wx, Calls Tryz.prog 136 #[.agg #[.string x.o, int i64 x.r, int i64 0], .agg #[.string o, int i64 r, int i64 0]] wx fun e w' => e = .returned (int i64 R) ∧ Below wx.heap.size wx w') := fun wx => by rw [hR]; exact ZP _ _ _ _ _ _ wx
 rw [← hR]
 have hBc : Below WW.heap.size WW WW := Below.refl _ _
 clear hWW h1 h2 hR
 go_enter Tryz.func151, Tryz.ntmps151
 go_wp2
 rw [HWW.out]
 clear HWW
 replace hBc := hBc.drew
 have hs := Ja (HS.out _ hBc)
 refine wph HS hBc 6 ?_
 refine tQ 0 JiN ?_; refine tQ 1 Jja ?_; refine tQ 3 Jjv ?_
 refine rd 2 JjH (fun K hK => ?_)
 go_simp
 refine (HK.out _).mono ?_
 rintro e wn ⟨rfl, hbn⟩
 replace hBc := nx hBc hbn
 clear hbn
 try go_wp2_with fail
 replace hs := Ja (HS.out _ hBc)
 refine hK.out _ _ hs.out (fun hx => ?_)
 clear hx hK K
 try simp only [s1, s2, s3]
 clear HK
 refine rd 4 Ji9 (fun K hK => ?_)
 go_simp
 refine (HC.out _).mono ?_
 rintro e wn ⟨rfl, hbn⟩
 replace hBc := nx hBc hbn
 clear hbn
 try go_wp2_with fail
 replace hs := Ja (HS.out _ hBc)
 refine hK.out _ _ hs.out (fun hx => ?_)
 clear hx hK K
 try simp only [s1, s2, s3]
 clear HC
 refine tQ 5 Jji ?_
 refine wpd ?_
 have HBF := Ja (HBA.out.trans (hBc.mono HBA.out.size))
 clear hs hBc HS
 go_wp2
 go_ret
 exact ⟨rfl, HBF.out⟩
theorem Vz (l : List Ta) (v : Value) (o : ByteArray) (r : Int) (w : World) (hn : l.length ≤ 1048576) (hp : Gw (J5 o r) l) (h : TaAt w v l) :
  Calls Tryz.prog 150 #[v, .agg #[.string o, int i64 r, int i64 0], .func (.func 151) #[] #[]] w fun e w' => JT e l (J5 o r) ∧ Below w.heap.size w w' := by
 obtain ⟨aa, ca, rfl, hga⟩ := h
 obtain ⟨W, hW⟩ : ∃ W, W = w.alloc (.cells #[.string o, int i64 r, int i64 0] 150) := ⟨_, rfl⟩
 have HBW : Hid (Below w.heap.size w W) := by rw [hW]; exact (Below.refl _ _).alloc (Nat.le_refl _) _
 have hRW : Row W w.heap.size #[.string o, int i64 r, int i64 0] 150 := by rw [hW]; exact Jb w _ _ rfl
 have HWW : Hid (w.alloc (.cells #[.string o, int i64 r, int i64 0] 150) = W) := hW.symm
 have HRK : Hid (∀ wx, Below W.heap.size W wx → wx.cell? ⟨w.heap.size, 0, none⟩ = some (.string o) ∧ wx.cell? ⟨w.heap.size, 1, none⟩ = some (int i64 r) ∧ wx.cell? ⟨w.heap.size, 2, none⟩ = some (int i64 0)) := fun wx h => ⟨(hRW.next h).cell 0 rfl, (hRW.next h).cell 1 rfl, (hRW.next h).cell 2 rfl⟩
 have HGA : Hid (0 < l.length → ∃ g f, aa = some ⟨g, f, none⟩ ∧ ∀ j (h : j < l.length) wx, Below W.heap.size W wx → taC wx g (f + j * 3) l[j]) := fun h0 => by
  obtain ⟨g, f, e, hg, hc⟩ := hga h0
  exact ⟨g, f, e, fun j hj wx hx => (hc j hj).below (HBW.out.trans (hx.mono HBW.out.size)) hg⟩
 have HP := Ja hp
 have HAT : Hid (∀ wx (x : Ta), Calls Tryz.prog 151 #[.agg #[.string x.o, int i64 x.r, int i64 x.n], .agg #[.string o, int i64 r, int i64 0]] wx fun e w' => e = .returned (int i64 (J5 o r x)) ∧ Below wx.heap.size wx w') := fun wx x => Vl x o r wx
 obtain ⟨n, hnl⟩ : ∃ n, n = l.length := ⟨_, rfl⟩
 have HL : Hid (n = l.length) := hnl
 rw [← hnl] at hn ⊢
 clear hnl hga hp hW hRW
 go_enter Tryz.func150, Tryz.ntmps150
 go_wp2
 rw [HWW.out]
 clear HWW
 go_loopw [9, 10] (fun x z wr => ∃ lo hi : Nat, x = int i64 lo ∧ z = int i64 hi ∧ lo ≤ hi ∧ hi ≤ n ∧ Brack l (J5 o r) lo hi ∧ Below W.heap.size W wr) (fun x z _ => (intOf z - intOf x).toNat)
 case atStart => exact ⟨0, n, rfl, rfl, Nat.zero_le _, Nat.le_refl _, ⟨fun i _ h => by omega, fun i h1 h2 => by have := HL.out; omega⟩, Below.refl _ _⟩
 case round =>
  obtain ⟨lo, hi, rfl, rfl, hlh, hhn, hin, hbel⟩ := hrel
  have HIN := Ja hin
  have HBE := Ja hbel
  clear hin
  by_cases hlt : lo < hi
  ·have hml : (lo + hi) / 2 < l.length := by have := HL.out; omega
   obtain ⟨g, f, rfl, hcc⟩ := HGA.out (by omega)
   have hm0 : (0 : Int) ≤ ((lo : Int) + hi) / 2 := by omega
   have hm1 : ((lo : Int) + hi) / 2 < n := by omega
   have hmt : (((lo : Int) + hi) / 2).toNat = (lo + hi) / 2 := by omega
   have hw1 : IntKind.i64.wrap ((lo : Int) + hi) = (lo : Int) + hi := by rw [IntKind.wrap_i64] <;> omega
   have hw2 : IntKind.u64.wrap ((lo : Int) + hi) = (lo : Int) + hi := by rw [IntKind.wrap_u64]; omega
   have hw3 : IntKind.i64.wrap (((lo : Int) + hi) / 2) = ((lo : Int) + hi) / 2 := by rw [IntKind.wrap_i64] <;> omega
   have hw5 : IntKind.u64.wrap (((lo : Int) + hi) / 2) = ((lo : Int) + hi) / 2 := by rw [IntKind.wrap_u64]; omega
   have hw4 : IntKind.i64.wrap (((lo : Int) + hi) / 2 + 1) = ((lo : Int) + hi) / 2 + 1 := by rw [IntKind.wrap_i64] <;> omega
   have hlt1 : (lo : Int) < hi := by omega
   have HUP : Hid (J5 o r l[(lo + hi) / 2] < 0 → Brack l (J5 o r) ((lo + hi) / 2 + 1) hi) := fun h => HIN.out.up HP.out hml h
   have HDN : Hid (¬ J5 o r l[(lo + hi) / 2] < 0 → Brack l (J5 o r) lo ((lo + hi) / 2)) := fun h => HIN.out.down HP.out hml h
   have HX : Hid (∀ wx, Below W.heap.size W wx → taC wx g (f + (lo + hi) / 2 * 3) l[(lo + hi) / 2]) := fun wx h => hcc _ hml wx h
   have HC : Hid (∀ wx, Calls Tryz.prog 151 #[.agg #[.string l[(lo + hi) / 2].o, int i64 l[(lo + hi) / 2].r, int i64 l[(lo + hi) / 2].n], .agg #[.string o, int i64 r, int i64 0]] wx fun e w' => e = .returned (int i64 (J5 o r l[(lo + hi) / 2])) ∧ Below wx.heap.size wx w') := fun wx => HAT.out wx _
   generalize l[(lo + hi) / 2] = x at *
   have HS : Hid (∀ wx, Below W.heap.size W wx → wx.cell? ⟨w.heap.size, 0, none⟩ = some (.string o) ∧ wx.cell? ⟨w.heap.size, 1, none⟩ = some (int i64 r) ∧ wx.cell? ⟨w.heap.size, 2, none⟩ = some (int i64 0) ∧ wx.cell? ⟨g, f + (lo + hi) / 2 * 3, none⟩ = some (.string x.o) ∧ wx.cell? ⟨g, f + (lo + hi) / 2 * 3 + 1, none⟩ = some (int i64 x.r) ∧ wx.cell? ⟨g, f + (lo + hi) / 2 * 3 + 2, none⟩ = some (int i64 x.n)) := fun wx h => by
    obtain ⟨t0, t1, t2⟩ := HRK.out wx h
    have hq := HX.out wx h
    unfold taC at hq
    exact ⟨t0, t1, t2, hq⟩
   generalize J5 o r x = R at *
   have HRC : Hid ((R < 0 ∧ decide (R < 0) = true) ∨ (¬ R < 0 ∧ decide (R < 0) = false)) := by
    show _ ∨ _
    by_cases h : R < 0
    ·exact .inl ⟨h, decide_eq_true h⟩
    ·exact .inr ⟨h, decide_eq_false h⟩
   have hBc : Below W.heap.size W wr := HBE.out
   clear hcc hml hbel HX HAT
   go_wp2
   replace hBc := hBc.drew
   have hs := Ja (HS.out _ hBc)
   refine wph HS hBc 8 ?_
   refine tQ 0 JiS ?_; refine tQ 1 Jjg ?_; refine tQ 2 Jje ?_; refine tQ 3 Jjp ?_; refine tQ 4 Ji2 ?_; refine tQ 5 Jjz ?_
   refine rd 6 Jjm (fun K hK => ?_)
   go_simp
   refine (HC.out _).mono ?_
   rintro e wn ⟨rfl, hbn⟩
   replace hBc := nx hBc hbn
   clear hbn
   try go_wp2_with fail
   replace hs := Ja (HS.out _ hBc)
   refine hK.out _ _ hs.out (fun hx => ?_)
   clear hx hK K
   try simp only [s1, s2, s3]
   clear HC
   rcases HRC.out with ⟨h2, hd⟩ | ⟨h2, hd⟩
   ·have HE := Ja (HUP.out h2)
    clear HUP HDN h2 HRC
    refine tQ 7 Jha ?_
    refine wpd ?_
    have HBF := Ja hBc
    clear hs hBc HS
    go_wp2
    go_roundw
    case rel => exact ⟨(lo + hi) / 2 + 1, hi, by go_num, rfl, by omega, hhn, HE.out, HBF.out⟩
    case measure => simp [intOf]; omega
   ·have HE := Ja (HDN.out h2)
    clear HUP HDN h2 HRC
    refine tQ 7 Jha ?_
    refine wpd ?_
    have HBF := Ja hBc
    clear hs hBc HS
    go_wp2
    go_roundw
    case rel => exact ⟨lo, (lo + hi) / 2, rfl, by go_num, by omega, by omega, HE.out, HBF.out⟩
    case measure => simp [intOf]; omega
  ·have hlt1 : ¬ ((lo : Int) < hi) := by omega
   have hlh2 : lo = hi := by omega
   have HCU : Hid (Brack l (J5 o r) lo lo) := by have := HIN.out; rw [← hlh2] at this; exact this
   clear HIN
   by_cases hln : lo < n
   ·have hml : lo < l.length := by have := HL.out; omega
    obtain ⟨g, f, rfl, hcc⟩ := HGA.out (by omega)
    have hk1 : (lo : Int) < n := by omega
    have hk0 : (0 : Int) ≤ lo := by omega
    have HYE : Hid (J5 o r l[lo] = 0 → JT (.returned (.tuple #[int i64 (lo : Int), .bool true])) l (J5 o r)) := fun h => HCU.out.yes hml h
    have HNO : Hid (¬ J5 o r l[lo] = 0 → JT (.returned (.tuple #[int i64 (lo : Int), .bool false])) l (J5 o r)) := fun h => HCU.out.no (by omega) (fun _ => h)
    have HX : Hid (∀ wx, Below W.heap.size W wx → taC wx g (f + lo * 3) l[lo]) := fun wx h => hcc _ hml wx h
    have HC : Hid (∀ wx, Calls Tryz.prog 151 #[.agg #[.string l[lo].o, int i64 l[lo].r, int i64 l[lo].n], .agg #[.string o, int i64 r, int i64 0]] wx fun e w' => e = .returned (int i64 (J5 o r l[lo])) ∧ Below wx.heap.size wx w') := fun wx => HAT.out wx _
    generalize l[lo] = x at *
    have HS : Hid (∀ wx, Below W.heap.size W wx → wx.cell? ⟨w.heap.size, 0, none⟩ = some (.string o) ∧ wx.cell? ⟨w.heap.size, 1, none⟩ = some (int i64 r) ∧ wx.cell? ⟨w.heap.size, 2, none⟩ = some (int i64 0) ∧ wx.cell? ⟨g, f + lo * 3, none⟩ = some (.string x.o) ∧ wx.cell? ⟨g, f + lo * 3 + 1, none⟩ = some (int i64 x.r) ∧ wx.cell? ⟨g, f + lo * 3 + 2, none⟩ = some (int i64 x.n)) := fun wx h => by
     obtain ⟨t0, t1, t2⟩ := HRK.out wx h
     have hq := HX.out wx h
     unfold taC at hq
     exact ⟨t0, t1, t2, hq⟩
    generalize J5 o r x = R at *
    have HRC : Hid ((R = 0 ∧ (R == 0) = true) ∨ (¬ R = 0 ∧ (R == 0) = false)) := by
     show _ ∨ _
     by_cases h : R = 0
     ·exact .inl ⟨h, by simp [h]⟩
     ·exact .inr ⟨h, by simp [h]⟩
    have hBc : Below W.heap.size W wr := HBE.out
    clear hcc hml hbel hlh2 HGA HCU HP HX HAT
    go_wp2
    replace hBc := hBc.drew
    have hs := Ja (HS.out _ hBc)
    refine wph HS hBc 16 ?_
    refine tQ 0 JiI ?_; refine tQ 1 Jhm ?_; refine tQ 2 Jic ?_; refine tQ 3 Jg2 ?_; refine tQ 4 JhV ?_; refine tQ 5 Jhp ?_; refine tQ 6 Jg1 ?_; refine tQ 7 Jiw ?_; refine tQ 8 Jh8 ?_; refine tQ 9 JiB ?_; refine tQ 10 Jes ?_
    refine rd 11 Jet (fun K hK => ?_)
    go_simp
    refine (HC.out _).mono ?_
    rintro e wn ⟨rfl, hbn⟩
    replace hBc := nx hBc hbn
    clear hbn
    try go_wp2_with fail
    replace hs := Ja (HS.out _ hBc)
    refine hK.out _ _ hs.out (fun hx => ?_)
    clear hx hK K
    try simp only [s1, s2, s3]
    clear HC
    rcases HRC.out with ⟨h2, hd⟩ | ⟨h2, hd⟩
    ·have HE := Ja (HYE.out h2)
     clear HYE HNO h2 HRC
     refine tQ 12 Jdi ?_; refine tQ 13 JdJ ?_; refine tQ 14 Jdw ?_; refine tQ 15 JcQ ?_
     refine wpd ?_
     have HBF := Ja (HBW.out.trans (hBc.mono HBW.out.size))
     clear hs hBc HS
     go_wp2
     go_ret2
     exact ⟨HE.out, HBF.out⟩
    ·have HE := Ja (HNO.out h2)
     clear HYE HNO h2 HRC
     refine tQ 12 Jdi ?_; refine tQ 13 JdJ ?_; refine tQ 14 Jdw ?_; refine tQ 15 JcQ ?_
     refine wpd ?_
     have HBF := Ja (HBW.out.trans (hBc.mono HBW.out.size))
     clear hs hBc HS
     go_wp2
     go_ret2
     exact ⟨HE.out, HBF.out⟩
   ·have hk1 : ¬ ((lo : Int) < n) := by omega
    have HE : Hid (JT (.returned (.tuple #[int i64 (lo : Int), .bool false])) l (J5 o r)) := HCU.out.no (by have := HL.out; omega) (fun hk => by have := HL.out; omega)
    have HS : Hid (∀ wx, Below W.heap.size W wx → wx.cell? ⟨w.heap.size, 0, none⟩ = some (.string o) ∧ wx.cell? ⟨w.heap.size, 1, none⟩ = some (int i64 r) ∧ wx.cell? ⟨w.heap.size, 2, none⟩ = some (int i64 0)) := HRK
    have hBc : Below W.heap.size W wr := HBE.out
    clear hbel hlh2 HGA HCU HP HAT
    go_wp2
    replace hBc := hBc.drew
    have hs := Ja (HS.out _ hBc)
    refine wph HS hBc 16 ?_
    refine tQ 0 JiI ?_; refine tQ 1 Jhm ?_; refine tQ 2 Jic ?_; refine tQ 3 Jg2 ?_; refine tQ 4 JhV ?_; refine sQ 5 Jhp ?_; refine sQ 6 Jg1 ?_; refine sQ 7 Jiw ?_; refine sQ 8 Jh8 ?_; refine sQ 9 JiB ?_; refine sQ 10 Jes ?_; refine cQ 11 Jet ?_; refine sQ 12 Jdi ?_; refine tQ 13 JdJ ?_; refine tQ 14 Jdw ?_; refine tQ 15 JcQ ?_
    refine wpd ?_
    have HBF := Ja (HBW.out.trans (hBc.mono HBW.out.size))
    clear hs hBc HS
    go_wp2
    go_ret2
    exact ⟨HE.out, HBF.out⟩
theorem YJ (l : List Ta) (v : Value) (o : ByteArray) (r : Int) (w : World) (hn : l.length ≤ 1048576) (hp : Gw (J5 o r) l) (h : TaAt w v l) :
  Calls Tryz.prog 141 #[v, .agg #[.string o, int i64 r, int i64 0]] w fun e w' => JT e l (J5 o r) ∧ Below w.heap.size w w' := by
 obtain ⟨W, hW⟩ : ∃ W, W = w.alloc (.cells #[.string o, int i64 r, int i64 0] 150) := ⟨_, rfl⟩
 have HBW : Hid (Below w.heap.size w W) := by rw [hW]; exact (Below.refl _ _).alloc (Nat.le_refl _) _
 have hRW : Row W w.heap.size #[.string o, int i64 r, int i64 0] 150 := by rw [hW]; exact Jb w _ _ rfl
 have HWW : Hid (w.alloc (.cells #[.string o, int i64 r, int i64 0] 150) = W) := hW.symm
 have HC := Ja (Vz l v o r W hn hp (by rw [hW]; exact h.alloc _))
 obtain ⟨t0, t1, t2⟩ : W.cell? ⟨w.heap.size, 0, none⟩ = some (.string o) ∧ W.cell? ⟨w.heap.size, 1, none⟩ = some (int i64 r) ∧ W.cell? ⟨w.heap.size, 2, none⟩ = some (int i64 0) := ⟨hRW.cell 0 rfl, hRW.cell 1 rfl, hRW.cell 2 rfl⟩
 rw [hW] at t0 t1 t2
 clear hW hRW h
 go_enter Tryz.func141, Tryz.ntmps141
 go_wp2_with fail
 rw [HWW.out]
 refine HC.out.mono ?_
 rintro e w1 ⟨⟨k, b, rfl, hq⟩, hb⟩
 have HQ := Ja hq
 have HBF := Ja (HBW.out.trans (hb.mono HBW.out.size))
 clear hb hq HC t0 t1 t2
 go_wp2
 go_ret2
 exact ⟨⟨k, b, rfl, HQ.out⟩, HBF.out⟩
end Go.Proofs.YtepfinenocpneaaGreat
