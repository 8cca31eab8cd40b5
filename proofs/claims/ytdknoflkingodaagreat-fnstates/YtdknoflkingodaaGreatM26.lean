/- A cell is looked for by its dot: halves of a list in order. The program's look at what cells stand behind, and at a whole state. -/
import Derived.Deep.RegionHeld3
import Derived.Test.YtdknoflkingodaaGreatM1
import Derived.Test.YtdknoflkingodaaGreatM2
import Derived.Test.YtdknoflkingodaaGreatM3
import Derived.Test.YtdknoflkingodaaGreatM4
import Derived.Test.YtdknoflkingodaaGreatM5
import Derived.Test.YtdknoflkingodaaGreatM6
import Derived.Test.YtdknoflkingodaaGreatM7
import Derived.Test.YtdknoflkingodaaGreatM8
import Derived.Test.YtdknoflkingodaaGreatM9
import Derived.Test.YtdknoflkingodaaGreatM10
import Derived.Test.YtdknoflkingodaaGreatM11
import Derived.Test.YtdknoflkingodaaGreatM12
import Derived.Test.YtdknoflkingodaaGreatM13
import Derived.Test.YtdknoflkingodaaGreatM14
import Derived.Test.YtdknoflkingodaaGreatM15
import Derived.Test.YtdknoflkingodaaGreatM16
import Derived.Test.YtdknoflkingodaaGreatM17
import Derived.Test.YtdknoflkingodaaGreatM18
import Derived.Test.YtdknoflkingodaaGreatM19
import Derived.Test.YtdknoflkingodaaGreatM20
import Derived.Test.YtdknoflkingodaaGreatM21
import Derived.Test.YtdknoflkingodaaGreatM22
import Derived.Test.YtdknoflkingodaaGreatM23
import Derived.Test.YtdknoflkingodaaGreatM24
import Derived.Test.YtdknoflkingodaaGreatM25
namespace Go.Proofs.YtdknoflkingodaaGreat
set_option maxRecDepth 100000
set_option linter.unusedVariables false
open Go.RowKit
abbrev kc0 : Oper := oq 5 (.load 35 (.tmp 2)) 35 "l06_state.go:88" #[] none
abbrev kc1 : Oper := oq 6 (.makeInterface 35 (.tmp 5)) 205 "l06_state.go:88" #[eD 0] none
abbrev kc2 : Oper := oq 7 (.call ⟨.value (.func 123), #[.tmp 6], #[205]⟩) 147 "l06_state.go:88" #[eD 1] none
abbrev kc3 : Oper := oq 8 (.load 147 (.tmp 3)) 147 "l06_state.go:88" #[] none
abbrev kc4 : Oper := oq 9 (.call ⟨.value (.func 124), #[.tmp 7, .tmp 8], #[147, 147]⟩) 3 "l06_state.go:88" #[eD 2, eD 3, eC 2] none
abbrev kc5 : Oper := oq 4 (.assign (.tmp 9)) 3 "l06_state.go:88" #[eD 4, eC 4, eP 0, eP 1, eP 2, eP 3, eP 4] none
abbrev ka0 : Oper := oq 24 (.move (.tmp 2)) 208 "sort.go:160" #[] none
abbrev ka1 : Oper := oq 25 (.move (.tmp 0)) 27 "sort.go:160" #[] none
abbrev ka2 : Oper := oq 26 (.move (.tmp 11)) 3 "sort.go:160" #[] none
abbrev ka3 : Oper := oq 27 (.indexAddr 27 (.tmp 25) (.tmp 26)) 0 "sort.go:160" #[eD 1, eD 2] none
abbrev ka4 : Oper := oq 28 (.load 35 (.tmp 27)) 35 "sort.go:160" #[eD 3] none
abbrev ka5 : Oper := oq 29 (.load 147 (.tmp 4)) 147 "sort.go:160" #[] none
abbrev ka6 : Oper := oq 30 (.call ⟨.value (.tmp 24), #[.tmp 28, .tmp 29], #[35, 147]⟩) 3 "sort.go:160" #[eD 0, eD 4, eD 5] none
abbrev ka7 : Oper := oq 31 (.binOp .lss 3 (.tmp 30) (.const (.int .i64 0)) 3) 4 "sort.go:160" #[eD 6] none
abbrev kb0 : Oper := oq 35 (.move (.tmp 9)) 3 "sort.go:167" #[] none
abbrev kb1 : Oper := oq 36 (.move (.tmp 9)) 3 "sort.go:167" #[] none
abbrev kb2 : Oper := oq 37 (.move (.tmp 8)) 3 "sort.go:167" #[] none
abbrev kb3 : Oper := oq 38 (.binOp .lss 3 (.tmp 36) (.tmp 37) 3) 4 "sort.go:167" #[eD 1, eD 2] none
abbrev kb4 : Oper := oq 39 (.move (.tmp 38)) 4 "sort.go:167" #[eD 3] none
abbrev kb5 : Oper := oq 40 (.move (.tmp 2)) 208 "sort.go:167" #[eG 4] (some (4, true))
abbrev kb6 : Oper := oq 41 (.move (.tmp 0)) 27 "sort.go:167" #[eG 4] (some (4, true))
abbrev kb7 : Oper := oq 42 (.move (.tmp 9)) 3 "sort.go:167" #[eG 4] (some (4, true))
abbrev kb8 : Oper := oq 43 (.indexAddr 27 (.tmp 41) (.tmp 42)) 0 "sort.go:167" #[eD 6, eD 7, eG 4] (some (4, true))
abbrev kb9 : Oper := oq 44 (.load 35 (.tmp 43)) 35 "sort.go:167" #[eD 8, eG 4] (some (4, true))
abbrev kb10 : Oper := oq 45 (.load 147 (.tmp 4)) 147 "sort.go:167" #[eG 4] (some (4, true))
abbrev kb11 : Oper := oq 46 (.call ⟨.value (.tmp 40), #[.tmp 44, .tmp 45], #[35, 147]⟩) 3 "sort.go:167" #[eD 5, eD 9, eD 10, eC 4, eG 4] (some (4, true))
abbrev kb12 : Oper := oq 47 (.binOp .eql 3 (.tmp 46) (.const (.int .i64 0)) 3) 4 "sort.go:167" #[eD 11, eG 4, { on := 14, ground := .gcOnly .lateStores }] (some (4, true))
abbrev kb13 : Oper := oq 48 (.pick (.tmp 39) (.tmp 47) (.const (.bool false))) 4 "sort.go:167" #[eD 4, eD 12, { on := 14, ground := .gcOnly .lateStores }] none
abbrev kb14 : Oper := oq 6 (.assign (.tmp 35)) 3 "sort.go:167" #[eD 0, eC 11, eP 0, { on := 1, ground := .textOnly .lateStores }, { on := 2, ground := .textOnly .lateStores }, { on := 3, ground := .textOnly .lateStores }, { on := 4, ground := .textOnly .lateStores }, { on := 5, ground := .textOnly .lateStores }, { on := 6, ground := .textOnly .lateStores }, { on := 7, ground := .textOnly .lateStores }, { on := 8, ground := .textOnly .lateStores }, { on := 9, ground := .textOnly .lateStores }, { on := 10, ground := .textOnly .lateStores }, { on := 11, ground := .textOnly .lateStoresUnsure }, { on := 12, ground := .textOnly .lateStores }, { on := 13, ground := .textOnly .lateStores }] none
abbrev kb15 : Oper := oq 7 (.assign (.tmp 48)) 4 "sort.go:167" #[eD 13, eC 14, eP 0, eP 1, eP 2, eP 3, eP 4, eP 5, eP 6, eP 7, eP 8, eP 9, eP 10, eP 11, eP 12, eP 13, eP 14] none
set_option maxHeartbeats 4000000 in
theorem rankAt_calls (x : Ce) (r s : Int) (w : World) :
  Calls Tryz.prog 177 #[.agg #[.string x.o, .int .i64 x.r, .int .i64 x.s, .int .i64 x.t, .int .i64 x.x, .int .i64 x.z, .int .i64 x.v, .bool x.g], .agg #[.string { data := #[] }, .int .i64 r, .int .i64 s]] w fun e w' => e = .returned (.int .i64 (rkD x.r x.s r s)) ∧ Below w.heap.size w w' := by
 obtain ⟨WW, hWW⟩ : ∃ WW, WW = (w.alloc (.cells #[.string x.o, .int .i64 x.r, .int .i64 x.s, .int .i64 x.t, .int .i64 x.x, .int .i64 x.z, .int .i64 x.v, .bool x.g] 35)).alloc (.cells #[.string { data := #[] }, .int .i64 r, .int .i64 s] 147) := ⟨_, rfl⟩
 have h1 : Row WW w.heap.size #[.string x.o, .int .i64 x.r, .int .i64 x.s, .int .i64 x.t, .int .i64 x.x, .int .i64 x.z, .int .i64 x.v, .bool x.g] 35 := by rw [hWW]; exact (row_new w _ _ rfl).alloc _
 have h2 : Row WW (w.heap.size + 1) #[.string { data := #[] }, .int .i64 r, .int .i64 s] 147 := by rw [hWW]; exact row_new _ _ _ (by simp)
 have HBA : Hid (Below w.heap.size w WW) := by rw [hWW]; exact ((Below.refl _ _).alloc (Nat.le_refl _) _).alloc (by simp) _
 have HWW : Hid ((w.alloc (.cells #[.string x.o, .int .i64 x.r, .int .i64 x.s, .int .i64 x.t, .int .i64 x.x, .int .i64 x.z, .int .i64 x.v, .bool x.g] 35)).alloc (.cells #[.string { data := #[] }, .int .i64 r, .int .i64 s] 147) = WW) := hWW.symm
 have HS : Hid (∀ wx, Below WW.heap.size WW wx → wx.cell? ⟨w.heap.size, 0, none⟩ = some (.string x.o) ∧ wx.cell? ⟨w.heap.size, 1, none⟩ = some (.int .i64 x.r) ∧ wx.cell? ⟨w.heap.size, 2, none⟩ = some (.int .i64 x.s) ∧ wx.cell? ⟨w.heap.size, 3, none⟩ = some (.int .i64 x.t) ∧ wx.cell? ⟨w.heap.size, 4, none⟩ = some (.int .i64 x.x) ∧ wx.cell? ⟨w.heap.size, 5, none⟩ = some (.int .i64 x.z) ∧ wx.cell? ⟨w.heap.size, 6, none⟩ = some (.int .i64 x.v) ∧ wx.cell? ⟨w.heap.size, 7, none⟩ = some (.bool x.g) ∧ wx.cell? ⟨w.heap.size + 1, 0, none⟩ = some (.string { data := #[] }) ∧ wx.cell? ⟨w.heap.size + 1, 1, none⟩ = some (.int .i64 r) ∧ wx.cell? ⟨w.heap.size + 1, 2, none⟩ = some (.int .i64 s)) := fun wx h => ⟨(h1.next h).cell 0 rfl, (h1.next h).cell 1 rfl, (h1.next h).cell 2 rfl, (h1.next h).cell 3 rfl, (h1.next h).cell 4 rfl, (h1.next h).cell 5 rfl, (h1.next h).cell 6 rfl, (h1.next h).cell 7 rfl, (h2.next h).cell 0 rfl, (h2.next h).cell 1 rfl, (h2.next h).cell 2 rfl⟩
 obtain ⟨R, hR⟩ : ∃ R, R = rkD x.r x.s r s := ⟨_, rfl⟩
 have HK : Hid (∀ wx, Calls Tryz.prog 123 #[.iface 35 (.agg #[.string x.o, .int .i64 x.r, .int .i64 x.s, .int .i64 x.t, .int .i64 x.x, .int .i64 x.z, .int .i64 x.v, .bool x.g])] wx fun e w' => e = .returned (.agg #[.string { data := #[] }, .int .i64 x.r, .int .i64 x.s]) ∧ Below wx.heap.size wx w') := fun wx => rankCe_calls x wx
 have HC : Hid (∀ wx, Calls Tryz.prog 124 #[.agg #[.string { data := #[] }, .int .i64 x.r, .int .i64 x.s], .agg #[.string { data := #[] }, .int .i64 r, .int .i64 s]] wx fun e w' => e = .returned (.int .i64 R) ∧ Below wx.heap.size wx w') := fun wx => by rw [hR]; exact rankCmp_calls _ _ _ _ _ _ wx
 rw [← hR]
 have hBc : Below WW.heap.size WW WW := Below.refl _ _
 clear hWW h1 h2 hR
 go_enter Tryz.func177, Tryz.ntmps177
 go_wp2
 rw [HWW.out]
 clear HWW
 replace hBc := hBc.drew
 have hs := hidI (HS.out _ hBc)
 refine wp_region_held_drew (S := fun w' => w'.cell? ⟨w.heap.size, 0, none⟩ = some (.string x.o) ∧ w'.cell? ⟨w.heap.size, 1, none⟩ = some (.int .i64 x.r) ∧ w'.cell? ⟨w.heap.size, 2, none⟩ = some (.int .i64 x.s) ∧ w'.cell? ⟨w.heap.size, 3, none⟩ = some (.int .i64 x.t) ∧ w'.cell? ⟨w.heap.size, 4, none⟩ = some (.int .i64 x.x) ∧ w'.cell? ⟨w.heap.size, 5, none⟩ = some (.int .i64 x.z) ∧ w'.cell? ⟨w.heap.size, 6, none⟩ = some (.int .i64 x.v) ∧ w'.cell? ⟨w.heap.size, 7, none⟩ = some (.bool x.g) ∧ w'.cell? ⟨w.heap.size + 1, 0, none⟩ = some (.string { data := #[] }) ∧ w'.cell? ⟨w.heap.size + 1, 1, none⟩ = some (.int .i64 r) ∧ w'.cell? ⟨w.heap.size + 1, 2, none⟩ = some (.int .i64 s)) (by kernel_rfl) hs.out (fun hx => ?_)
 clear hx
 refine wpAnyH_list (l' := #[false, false, false, false, false, false]) (by as_aux_lemma => kernel_rfl) ?_
 refine tk 0 kc0 hs.out ?_; simp only [sq]; refine tk 1 kc1 hs.out ?_; simp only [sq]; refine tk 3 kc3 hs.out ?_; simp only [sq]
 refine rd 2 kc2 (fun K hK => ?_)
 go_simp
 refine (HK.out _).mono ?_
 rintro e wn ⟨rfl, hbn⟩
 replace hBc := hBc.trans (hbn.mono hBc.size)
 clear hbn
 try go_wp2_with fail
 replace hs := hidI (HS.out _ hBc)
 refine hK.out _ _ hs.out (fun hx => ?_)
 clear hx hK K
 try simp only [s1, s2, s3]
 clear HK
 refine rd 4 kc4 (fun K hK => ?_)
 go_simp
 refine (HC.out _).mono ?_
 rintro e wn ⟨rfl, hbn⟩
 replace hBc := hBc.trans (hbn.mono hBc.size)
 clear hbn
 try go_wp2_with fail
 replace hs := hidI (HS.out _ hBc)
 refine hK.out _ _ hs.out (fun hx => ?_)
 clear hx hK K
 try simp only [s1, s2, s3]
 clear HC
 refine tk 5 kc5 hs.out ?_; simp only [sq]
 refine wpAnyH_done (by as_aux_lemma => kernel_rfl) ?_ _
 have HBF := hidI (HBA.out.trans (hBc.mono HBA.out.size))
 clear hs hBc HS
 go_wp2
 go_ret
 exact ⟨rfl, HBF.out⟩
/-- Where it was looked for: its place, and that it is there; or that it is nowhere. -/
def Found (e : Ending) (l : List Ce) (r s : Int) : Prop := ∃ (k : Nat) (b : Bool), e = .returned (.tuple #[.int .i64 k, .bool b]) ∧ (b = true → k < l.length ∧ cellAt l r s 0 = (k : Int)) ∧ (b = false → ¬ ∃ j, ∃ _ : j < l.length, cellAt l r s 0 = (j : Int))
def LoHi (l : List Ce) (r s : Int) (lo hi : Nat) : Prop := (∀ i (h : i < l.length), i < lo → doLt l[i].r l[i].s r s) ∧ (∀ i (h : i < l.length), hi ≤ i → ¬ doLt l[i].r l[i].s r s)
theorem LoHi.up {l : List Ce} {r s : Int} {lo hi m : Nat} (h : LoHi l r s lo hi) (hp : l.Pairwise ceLt) (hm : m < l.length) (hd : doLt l[m].r l[m].s r s) : LoHi l r s (m + 1) hi := ⟨fun i hi him => by
 by_cases e : i = m
 ·subst e; exact hd
 ·exact doLt_trans (List.pairwise_iff_getElem.1 hp i m hi hm (by omega)) hd, h.2⟩
theorem LoHi.down {l : List Ce} {r s : Int} {lo hi m : Nat} (h : LoHi l r s lo hi) (hp : l.Pairwise ceLt) (hm : m < l.length) (hd : ¬ doLt l[m].r l[m].s r s) : LoHi l r s lo m := ⟨h.1, fun i hi him k => by
 by_cases e : i = m
 ·subst e; exact hd k
 ·exact hd (doLt_trans (List.pairwise_iff_getElem.1 hp m i hm hi (by omega)) k)⟩
theorem LoHi.cut {l : List Ce} {r s : Int} {k : Nat} (h : LoHi l r s k k) : Cut l r s k := h
set_option maxHeartbeats 8000000 in
theorem search_calls (l : List Ce) (v : Value) (r s : Int) (w : World) (hn : l.length ≤ 1048576) (hp : l.Pairwise ceLt) (h : CeAt w v l) :
  Calls Tryz.prog 176 #[v, .agg #[.string { data := #[] }, .int .i64 r, .int .i64 s], .func (.func 177) #[] #[]] w fun e w' => Found e l r s ∧ Below w.heap.size w w' := by
 obtain ⟨aa, ca, rfl, hga⟩ := h
 obtain ⟨W, hW⟩ : ∃ W, W = w.alloc (.cells #[.string { data := #[] }, .int .i64 r, .int .i64 s] 147) := ⟨_, rfl⟩
 have HBW : Hid (Below w.heap.size w W) := by rw [hW]; exact (Below.refl _ _).alloc (Nat.le_refl _) _
 have hRW : Row W w.heap.size #[.string { data := #[] }, .int .i64 r, .int .i64 s] 147 := by rw [hW]; exact row_new w _ _ rfl
 have HWW : Hid (w.alloc (.cells #[.string { data := #[] }, .int .i64 r, .int .i64 s] 147) = W) := hW.symm
 have HRK : Hid (∀ wx, Below W.heap.size W wx → wx.cell? ⟨w.heap.size, 0, none⟩ = some (.string { data := #[] }) ∧ wx.cell? ⟨w.heap.size, 1, none⟩ = some (.int .i64 r) ∧ wx.cell? ⟨w.heap.size, 2, none⟩ = some (.int .i64 s)) := fun wx h => ⟨(hRW.next h).cell 0 rfl, (hRW.next h).cell 1 rfl, (hRW.next h).cell 2 rfl⟩
 have HGA : Hid (0 < l.length → ∃ g f, aa = some ⟨g, f, none⟩ ∧ ∀ j (h : j < l.length) wx, Below W.heap.size W wx → ceC wx g (f + j * 8) l[j]) := fun h0 => by
  obtain ⟨g, f, e, hg, hc⟩ := hga h0
  exact ⟨g, f, e, fun j hj wx hx => (hc j hj).below (HBW.out.trans (hx.mono HBW.out.size)) hg⟩
 have HP := hidI hp
 obtain ⟨n, hnl⟩ : ∃ n, n = l.length := ⟨_, rfl⟩
 have HL : Hid (n = l.length) := hnl
 rw [← hnl] at hn ⊢
 clear hnl hga hp hW hRW
 go_enter Tryz.func176, Tryz.ntmps176
 go_wp2
 rw [HWW.out]
 clear HWW
 go_loopw [9, 10] (fun x z wr => ∃ lo hi : Nat, x = .int .i64 lo ∧ z = .int .i64 hi ∧ lo ≤ hi ∧ hi ≤ n ∧ LoHi l r s lo hi ∧ Below W.heap.size W wr) (fun x z _ => (intOf z - intOf x).toNat)
 case atStart => exact ⟨0, n, rfl, rfl, Nat.zero_le _, Nat.le_refl _, ⟨fun i _ h => by omega, fun i h1 h2 => by have := HL.out; omega⟩, Below.refl _ _⟩
 case round =>
  obtain ⟨lo, hi, rfl, rfl, hlh, hhn, hin, hbel⟩ := hrel
  have HIN := hidI hin
  have HBE := hidI hbel
  clear hin
  by_cases hlt : lo < hi
  ·have hml : (lo + hi) / 2 < l.length := by have := HL.out; omega
   obtain ⟨g, f, rfl, hcc⟩ := HGA.out (by omega)
   have hm0 : (0 : Int) ≤ ((lo : Int) + hi) / 2 := by omega
   have hm1 : ((lo : Int) + hi) / 2 < n := by omega
   have hmt : (((lo : Int) + hi) / 2).toNat = (lo + hi) / 2 := by omega
   have hw1 : IntKind.i64.wrap ((lo : Int) + hi) = (lo : Int) + hi := by rw [IntKind.wrap_i64] <;> omega
   have hw2 : IntKind.u64.wrap ((lo : Int) + hi) = (lo : Int) + hi := by rw [IntKind.wrap_u64]; omega
   have hw3 : IntKind.i64.wrap (((lo : Int) + hi) / 2) = ((lo : Int) + hi) / 2 := by rw [IntKind.wrap_i64] <;> omega
   have hw5 : IntKind.u64.wrap (((lo : Int) + hi) / 2) = ((lo : Int) + hi) / 2 := by rw [IntKind.wrap_u64]; omega
   have hw4 : IntKind.i64.wrap (((lo : Int) + hi) / 2 + 1) = ((lo : Int) + hi) / 2 + 1 := by rw [IntKind.wrap_i64] <;> omega
   have hlt1 : (lo : Int) < hi := by omega
   have HUP : Hid (doLt l[(lo + hi) / 2].r l[(lo + hi) / 2].s r s → LoHi l r s ((lo + hi) / 2 + 1) hi) := fun h => HIN.out.up HP.out hml h
   have HDN : Hid (¬ doLt l[(lo + hi) / 2].r l[(lo + hi) / 2].s r s → LoHi l r s lo ((lo + hi) / 2)) := fun h => HIN.out.down HP.out hml h
   have HX : Hid (∀ wx, Below W.heap.size W wx → ceC wx g (f + (lo + hi) / 2 * 8) l[(lo + hi) / 2]) := fun wx h => hcc _ hml wx h
   generalize l[(lo + hi) / 2] = x at *
   have HS : Hid (∀ wx, Below W.heap.size W wx → wx.cell? ⟨w.heap.size, 0, none⟩ = some (.string { data := #[] }) ∧ wx.cell? ⟨w.heap.size, 1, none⟩ = some (.int .i64 r) ∧ wx.cell? ⟨w.heap.size, 2, none⟩ = some (.int .i64 s) ∧ wx.cell? ⟨g, f + (lo + hi) / 2 * 8, none⟩ = some (.string x.o) ∧ wx.cell? ⟨g, f + (lo + hi) / 2 * 8 + 1, none⟩ = some (.int .i64 x.r) ∧ wx.cell? ⟨g, f + (lo + hi) / 2 * 8 + 2, none⟩ = some (.int .i64 x.s) ∧ wx.cell? ⟨g, f + (lo + hi) / 2 * 8 + 3, none⟩ = some (.int .i64 x.t) ∧ wx.cell? ⟨g, f + (lo + hi) / 2 * 8 + 4, none⟩ = some (.int .i64 x.x) ∧ wx.cell? ⟨g, f + (lo + hi) / 2 * 8 + 5, none⟩ = some (.int .i64 x.z) ∧ wx.cell? ⟨g, f + (lo + hi) / 2 * 8 + 6, none⟩ = some (.int .i64 x.v) ∧ wx.cell? ⟨g, f + (lo + hi) / 2 * 8 + 7, none⟩ = some (.bool x.g)) := fun wx h => by
    obtain ⟨t0, t1, t2⟩ := HRK.out wx h
    have hq := HX.out wx h
    unfold ceC at hq
    exact ⟨t0, t1, t2, hq⟩
   obtain ⟨R, hR⟩ : ∃ R, R = rkD x.r x.s r s := ⟨_, rfl⟩
   have HC : Hid (∀ wx, Calls Tryz.prog 177 #[.agg #[.string x.o, .int .i64 x.r, .int .i64 x.s, .int .i64 x.t, .int .i64 x.x, .int .i64 x.z, .int .i64 x.v, .bool x.g], .agg #[.string { data := #[] }, .int .i64 r, .int .i64 s]] wx fun e w' => e = .returned (.int .i64 R) ∧ Below wx.heap.size wx w') := fun wx => by rw [hR]; exact rankAt_calls x r s wx
   have HRC : Hid ((doLt x.r x.s r s ∧ decide (R < 0) = true) ∨ (¬ doLt x.r x.s r s ∧ decide (R < 0) = false)) := by
    show _ ∨ _
    rw [hR]
    rcases rkD_cases x.r x.s r s with ⟨h1, h2⟩ | ⟨h1, h2⟩ | ⟨h1, h2⟩
    ·exact .inl ⟨h1, decide_eq_true h2⟩
    ·exact .inr ⟨by unfold doLt; omega, decide_eq_false (by omega)⟩
    ·exact .inr ⟨by unfold doLt at h1 ⊢; omega, decide_eq_false (by omega)⟩
   have hBc : Below W.heap.size W wr := HBE.out
   clear hcc hml hbel hR HX
   go_wp2
   replace hBc := hBc.drew
   have hs := hidI (HS.out _ hBc)
   refine wp_region_held_drew (S := fun w' => w'.cell? ⟨w.heap.size, 0, none⟩ = some (.string { data := #[] }) ∧ w'.cell? ⟨w.heap.size, 1, none⟩ = some (.int .i64 r) ∧ w'.cell? ⟨w.heap.size, 2, none⟩ = some (.int .i64 s) ∧ w'.cell? ⟨g, f + (lo + hi) / 2 * 8, none⟩ = some (.string x.o) ∧ w'.cell? ⟨g, f + (lo + hi) / 2 * 8 + 1, none⟩ = some (.int .i64 x.r) ∧ w'.cell? ⟨g, f + (lo + hi) / 2 * 8 + 2, none⟩ = some (.int .i64 x.s) ∧ w'.cell? ⟨g, f + (lo + hi) / 2 * 8 + 3, none⟩ = some (.int .i64 x.t) ∧ w'.cell? ⟨g, f + (lo + hi) / 2 * 8 + 4, none⟩ = some (.int .i64 x.x) ∧ w'.cell? ⟨g, f + (lo + hi) / 2 * 8 + 5, none⟩ = some (.int .i64 x.z) ∧ w'.cell? ⟨g, f + (lo + hi) / 2 * 8 + 6, none⟩ = some (.int .i64 x.v) ∧ w'.cell? ⟨g, f + (lo + hi) / 2 * 8 + 7, none⟩ = some (.bool x.g)) (by kernel_rfl) hs.out (fun hx => ?_)
   clear hx
   refine wpAnyH_list (l' := #[false, false, false, false, false, false, false, false]) (by as_aux_lemma => kernel_rfl) ?_
   refine tk 0 ka0 hs.out ?_; simp only [sq]; refine tk 1 ka1 hs.out ?_; simp only [sq]; refine tk 2 ka2 hs.out ?_; simp only [sq]; refine tk 3 ka3 hs.out ?_; simp only [sq]; refine tk 4 ka4 hs.out ?_; simp only [sq]; refine tk 5 ka5 hs.out ?_; simp only [sq]
   refine rd 6 ka6 (fun K hK => ?_)
   go_simp
   refine (HC.out _).mono ?_
   rintro e wn ⟨rfl, hbn⟩
   replace hBc := hBc.trans (hbn.mono hBc.size)
   clear hbn
   try go_wp2_with fail
   replace hs := hidI (HS.out _ hBc)
   refine hK.out _ _ hs.out (fun hx => ?_)
   clear hx hK K
   try simp only [s1, s2, s3]
   clear HC
   rcases HRC.out with ⟨h2, hd⟩ | ⟨h2, hd⟩
   ·have HE := hidI (HUP.out h2)
    clear HUP HDN h2 HRC
    refine tk 7 ka7 hs.out ?_; simp only [sq]
    refine wpAnyH_done (by as_aux_lemma => kernel_rfl) ?_ _
    have HBF := hidI hBc
    clear hs hBc HS
    go_wp2
    go_roundw
    case rel => exact ⟨(lo + hi) / 2 + 1, hi, by go_num, rfl, by omega, hhn, HE.out, HBF.out⟩
    case measure => simp [intOf]; omega
   ·have HE := hidI (HDN.out h2)
    clear HUP HDN h2 HRC
    refine tk 7 ka7 hs.out ?_; simp only [sq]
    refine wpAnyH_done (by as_aux_lemma => kernel_rfl) ?_ _
    have HBF := hidI hBc
    clear hs hBc HS
    go_wp2
    go_roundw
    case rel => exact ⟨lo, (lo + hi) / 2, rfl, by go_num, by omega, by omega, HE.out, HBF.out⟩
    case measure => simp [intOf]; omega
  ·have hlt1 : ¬ ((lo : Int) < hi) := by omega
   have hlh2 : lo = hi := by omega
   have HCU : Hid (Cut l r s lo) := by have := HIN.out; rw [← hlh2] at this; exact this.cut
   clear HIN
   by_cases hln : lo < n
   ·have hml : lo < l.length := by have := HL.out; omega
    obtain ⟨g, f, rfl, hcc⟩ := HGA.out (by omega)
    have hk1 : (lo : Int) < n := by omega
    have hk0 : (0 : Int) ≤ lo := by omega
    have HYE : Hid (l[lo].r = r ∧ l[lo].s = s → Found (.returned (.tuple #[.int .i64 (lo : Int), .bool true])) l r s) := fun h => ⟨lo, true, rfl, fun _ => ⟨hml, cut_hit HP.out hml h⟩, fun h => by cases h⟩
    have HNO : Hid (¬ (l[lo].r = r ∧ l[lo].s = s) → Found (.returned (.tuple #[.int .i64 (lo : Int), .bool false])) l r s) := fun h => ⟨lo, false, rfl, (fun h => by cases h), fun _ => cut_miss HCU.out (fun _ => h) HP.out⟩
    have HX : Hid (∀ wx, Below W.heap.size W wx → ceC wx g (f + lo * 8) l[lo]) := fun wx h => hcc _ hml wx h
    generalize l[lo] = x at *
    have HS : Hid (∀ wx, Below W.heap.size W wx → wx.cell? ⟨w.heap.size, 0, none⟩ = some (.string { data := #[] }) ∧ wx.cell? ⟨w.heap.size, 1, none⟩ = some (.int .i64 r) ∧ wx.cell? ⟨w.heap.size, 2, none⟩ = some (.int .i64 s) ∧ wx.cell? ⟨g, f + lo * 8, none⟩ = some (.string x.o) ∧ wx.cell? ⟨g, f + lo * 8 + 1, none⟩ = some (.int .i64 x.r) ∧ wx.cell? ⟨g, f + lo * 8 + 2, none⟩ = some (.int .i64 x.s) ∧ wx.cell? ⟨g, f + lo * 8 + 3, none⟩ = some (.int .i64 x.t) ∧ wx.cell? ⟨g, f + lo * 8 + 4, none⟩ = some (.int .i64 x.x) ∧ wx.cell? ⟨g, f + lo * 8 + 5, none⟩ = some (.int .i64 x.z) ∧ wx.cell? ⟨g, f + lo * 8 + 6, none⟩ = some (.int .i64 x.v) ∧ wx.cell? ⟨g, f + lo * 8 + 7, none⟩ = some (.bool x.g)) := fun wx h => by
     obtain ⟨t0, t1, t2⟩ := HRK.out wx h
     have hq := HX.out wx h
     unfold ceC at hq
     exact ⟨t0, t1, t2, hq⟩
    obtain ⟨R, hR⟩ : ∃ R, R = rkD x.r x.s r s := ⟨_, rfl⟩
    have HC : Hid (∀ wx, Calls Tryz.prog 177 #[.agg #[.string x.o, .int .i64 x.r, .int .i64 x.s, .int .i64 x.t, .int .i64 x.x, .int .i64 x.z, .int .i64 x.v, .bool x.g], .agg #[.string { data := #[] }, .int .i64 r, .int .i64 s]] wx fun e w' => e = .returned (.int .i64 R) ∧ Below wx.heap.size wx w') := fun wx => by rw [hR]; exact rankAt_calls x r s wx
    have HRC : Hid (((x.r = r ∧ x.s = s) ∧ (R == 0) = true) ∨ (¬ (x.r = r ∧ x.s = s) ∧ (R == 0) = false)) := by
     show _ ∨ _
     rw [hR]
     rcases rkD_cases x.r x.s r s with ⟨h1, h2⟩ | ⟨h1, h2⟩ | ⟨h1, h2⟩
     ·exact .inr ⟨by unfold doLt at h1; omega, by simp; omega⟩
     ·exact .inl ⟨h1, by simp [h2]⟩
     ·exact .inr ⟨by unfold doLt at h1; omega, by simp; omega⟩
    have hBc : Below W.heap.size W wr := HBE.out
    clear hcc hml hbel hR HX hlh2 HGA HCU HP
    go_wp2
    replace hBc := hBc.drew
    have hs := hidI (HS.out _ hBc)
    refine wp_region_held_drew (S := fun w' => w'.cell? ⟨w.heap.size, 0, none⟩ = some (.string { data := #[] }) ∧ w'.cell? ⟨w.heap.size, 1, none⟩ = some (.int .i64 r) ∧ w'.cell? ⟨w.heap.size, 2, none⟩ = some (.int .i64 s) ∧ w'.cell? ⟨g, f + lo * 8, none⟩ = some (.string x.o) ∧ w'.cell? ⟨g, f + lo * 8 + 1, none⟩ = some (.int .i64 x.r) ∧ w'.cell? ⟨g, f + lo * 8 + 2, none⟩ = some (.int .i64 x.s) ∧ w'.cell? ⟨g, f + lo * 8 + 3, none⟩ = some (.int .i64 x.t) ∧ w'.cell? ⟨g, f + lo * 8 + 4, none⟩ = some (.int .i64 x.x) ∧ w'.cell? ⟨g, f + lo * 8 + 5, none⟩ = some (.int .i64 x.z) ∧ w'.cell? ⟨g, f + lo * 8 + 6, none⟩ = some (.int .i64 x.v) ∧ w'.cell? ⟨g, f + lo * 8 + 7, none⟩ = some (.bool x.g)) (by kernel_rfl) hs.out (fun hx => ?_)
    clear hx
    refine wpAnyH_list (l' := #[false, false, false, false, false, false, false, false, false, false, false, false, false, false, false, false]) (by as_aux_lemma => kernel_rfl) ?_
    refine tk 0 kb0 hs.out ?_; simp only [sq]; refine tk 1 kb1 hs.out ?_; simp only [sq]; refine tk 2 kb2 hs.out ?_; simp only [sq]; refine tk 3 kb3 hs.out ?_; simp only [sq]; refine tk 4 kb4 hs.out ?_; simp only [sq]; refine tk 5 kb5 hs.out ?_; simp only [sq]; refine tk 6 kb6 hs.out ?_; simp only [sq]; refine tk 7 kb7 hs.out ?_; simp only [sq]; refine tk 8 kb8 hs.out ?_; simp only [sq]; refine tk 9 kb9 hs.out ?_; simp only [sq]; refine tk 10 kb10 hs.out ?_; simp only [sq]
    refine rd 11 kb11 (fun K hK => ?_)
    go_simp
    refine (HC.out _).mono ?_
    rintro e wn ⟨rfl, hbn⟩
    replace hBc := hBc.trans (hbn.mono hBc.size)
    clear hbn
    try go_wp2_with fail
    replace hs := hidI (HS.out _ hBc)
    refine hK.out _ _ hs.out (fun hx => ?_)
    clear hx hK K
    try simp only [s1, s2, s3]
    clear HC
    rcases HRC.out with ⟨h2, hd⟩ | ⟨h2, hd⟩
    ·have HE := hidI (HYE.out h2)
     clear HYE HNO h2 HRC
     refine tk 12 kb12 hs.out ?_; simp only [sq]; refine tk 13 kb13 hs.out ?_; simp only [sq]; refine tk 14 kb14 hs.out ?_; simp only [sq]; refine tk 15 kb15 hs.out ?_; simp only [sq]
     refine wpAnyH_done (by as_aux_lemma => kernel_rfl) ?_ _
     have HBF := hidI (HBW.out.trans (hBc.mono HBW.out.size))
     clear hs hBc HS
     go_wp2
     go_ret2
     exact ⟨HE.out, HBF.out⟩
    ·have HE := hidI (HNO.out h2)
     clear HYE HNO h2 HRC
     refine tk 12 kb12 hs.out ?_; simp only [sq]; refine tk 13 kb13 hs.out ?_; simp only [sq]; refine tk 14 kb14 hs.out ?_; simp only [sq]; refine tk 15 kb15 hs.out ?_; simp only [sq]
     refine wpAnyH_done (by as_aux_lemma => kernel_rfl) ?_ _
     have HBF := hidI (HBW.out.trans (hBc.mono HBW.out.size))
     clear hs hBc HS
     go_wp2
     go_ret2
     exact ⟨HE.out, HBF.out⟩
   ·have hk1 : ¬ ((lo : Int) < n) := by omega
    have HE : Hid (¬ ∃ j, ∃ _ : j < l.length, cellAt l r s 0 = (j : Int)) := cut_miss HCU.out (fun hk => by have := HL.out; omega) HP.out
    have HS : Hid (∀ wx, Below W.heap.size W wx → wx.cell? ⟨w.heap.size, 0, none⟩ = some (.string { data := #[] }) ∧ wx.cell? ⟨w.heap.size, 1, none⟩ = some (.int .i64 r) ∧ wx.cell? ⟨w.heap.size, 2, none⟩ = some (.int .i64 s)) := HRK
    have hBc : Below W.heap.size W wr := HBE.out
    clear hbel hlh2 HGA HCU HP
    go_wp2
    replace hBc := hBc.drew
    have hs := hidI (HS.out _ hBc)
    refine wp_region_held_drew (S := fun w' => w'.cell? ⟨w.heap.size, 0, none⟩ = some (.string { data := #[] }) ∧ w'.cell? ⟨w.heap.size, 1, none⟩ = some (.int .i64 r) ∧ w'.cell? ⟨w.heap.size, 2, none⟩ = some (.int .i64 s)) (by kernel_rfl) hs.out (fun hx => ?_)
    clear hx
    refine wpAnyH_list (l' := #[false, false, false, false, false, false, false, false, false, false, false, false, false, false, false, false]) (by as_aux_lemma => kernel_rfl) ?_
    refine tk 0 kb0 hs.out ?_; simp only [sq]; refine tk 1 kb1 hs.out ?_; simp only [sq]; refine tk 2 kb2 hs.out ?_; simp only [sq]; refine tk 3 kb3 hs.out ?_; simp only [sq]; refine tk 4 kb4 hs.out ?_; simp only [sq]; refine sk 5 kb5 hs.out ?_; simp only [sq]; refine sk 6 kb6 hs.out ?_; simp only [sq]; refine sk 7 kb7 hs.out ?_; simp only [sq]; refine sk 8 kb8 hs.out ?_; simp only [sq]; refine sk 9 kb9 hs.out ?_; simp only [sq]; refine sk 10 kb10 hs.out ?_; simp only [sq]; refine sc 11 kb11 hs.out ?_; simp only [sq]; refine sk 12 kb12 hs.out ?_; simp only [sq]; refine tk 13 kb13 hs.out ?_; simp only [sq]; refine tk 14 kb14 hs.out ?_; simp only [sq]; refine tk 15 kb15 hs.out ?_; simp only [sq]
    refine wpAnyH_done (by as_aux_lemma => kernel_rfl) ?_ _
    have HBF := hidI (HBW.out.trans (hBc.mono HBW.out.size))
    clear hs hBc HS
    go_wp2
    go_ret2
    exact ⟨⟨lo, false, rfl, (fun h => by cases h), fun _ => HE.out⟩, HBF.out⟩
theorem placeOf_calls (l : List Ce) (v : Value) (r s : Int) (w : World) (hn : l.length ≤ 1048576) (hp : l.Pairwise ceLt) (h : CeAt w v l) :
  Calls Tryz.prog 125 #[v, .agg #[.string { data := #[] }, .int .i64 r, .int .i64 s]] w fun e w' => Found e l r s ∧ Below w.heap.size w w' := by
 obtain ⟨W, hW⟩ : ∃ W, W = w.alloc (.cells #[.string { data := #[] }, .int .i64 r, .int .i64 s] 147) := ⟨_, rfl⟩
 have HBW : Hid (Below w.heap.size w W) := by rw [hW]; exact (Below.refl _ _).alloc (Nat.le_refl _) _
 have hRW : Row W w.heap.size #[.string { data := #[] }, .int .i64 r, .int .i64 s] 147 := by rw [hW]; exact row_new w _ _ rfl
 have HWW : Hid (w.alloc (.cells #[.string { data := #[] }, .int .i64 r, .int .i64 s] 147) = W) := hW.symm
 have HC := hidI (search_calls l v r s W hn hp (by rw [hW]; exact h.alloc _))
 obtain ⟨t0, t1, t2⟩ : W.cell? ⟨w.heap.size, 0, none⟩ = some (.string { data := #[] }) ∧ W.cell? ⟨w.heap.size, 1, none⟩ = some (.int .i64 r) ∧ W.cell? ⟨w.heap.size, 2, none⟩ = some (.int .i64 s) := ⟨hRW.cell 0 rfl, hRW.cell 1 rfl, hRW.cell 2 rfl⟩
 rw [hW] at t0 t1 t2
 clear hW hRW h
 go_enter Tryz.func125, Tryz.ntmps125
 go_wp2_with fail
 rw [HWW.out]
 refine HC.out.mono ?_
 rintro e w1 ⟨⟨k, b, rfl, hq⟩, hb⟩
 have HQ := hidI hq
 have HBF := hidI (HBW.out.trans (hb.mono HBW.out.size))
 clear hb hq HC t0 t1 t2
 go_wp2
 go_ret2
 exact ⟨⟨k, b, rfl, HQ.out⟩, HBF.out⟩
end Go.Proofs.YtdknoflkingodaaGreat
namespace Go.Proofs.YtdknoflkingodaaGreat
set_option maxRecDepth 100000
set_option linter.unusedVariables false
open Go.RowKit
abbrev kr0 : Oper := oq 25 (.move (.tmp 6)) 4 "l06_state.go:111" #[] none
abbrev kr1 : Oper := oq 26 (.unOp .not 4 (.tmp 25)) 4 "l06_state.go:111" #[eD 0] none
abbrev kr2 : Oper := oq 27 (.move (.tmp 26)) 4 "l06_state.go:111" #[eD 1] none
abbrev kr3 : Oper := oq 28 (.move (.tmp 0)) 27 "l06_state.go:111" #[eG 2] (some (2, false))
abbrev kr4 : Oper := oq 29 (.move (.tmp 5)) 3 "l06_state.go:111" #[eG 2] (some (2, false))
abbrev kr5 : Oper := oq 30 (.indexAddr 27 (.tmp 28) (.tmp 29)) 0 "l06_state.go:111" #[eD 3, eD 4, eG 2] (some (2, false))
abbrev kr6 : Oper := oq 31 (.fieldAddr 35 (.tmp 30) 0) 0 "l06_state.go:111" #[eD 5, eG 2] (some (2, false))
abbrev kr7 : Oper := oq 32 (.load 9 (.tmp 31)) 9 "l06_state.go:111" #[eD 6, eG 2] (some (2, false))
abbrev kr8 : Oper := oq 33 (.fieldAddr 35 (.tmp 4) 0) 0 "l06_state.go:111" #[eG 2] (some (2, false))
abbrev kr9 : Oper := oq 34 (.load 9 (.tmp 33)) 9 "l06_state.go:111" #[eD 8, eG 2] (some (2, false))
abbrev kr10 : Oper := oq 35 (.binOp .neq 9 (.tmp 32) (.tmp 34) 9) 4 "l06_state.go:111" #[eD 7, eD 9, eG 2] (some (2, false))
abbrev kr11 : Oper := oq 36 (.pick (.tmp 27) (.const (.bool true)) (.tmp 35)) 4 "l06_state.go:111" #[eD 2, eD 10] none
abbrev kr12 : Oper := oq 37 (.move (.tmp 36)) 4 "l06_state.go:111" #[eD 11, eC 2] none
abbrev kr13 : Oper := oq 38 (.move (.tmp 0)) 27 "l06_state.go:111" #[eG 12] (some (12, false))
abbrev kr14 : Oper := oq 39 (.move (.tmp 5)) 3 "l06_state.go:111" #[eG 12] (some (12, false))
abbrev kr15 : Oper := oq 40 (.indexAddr 27 (.tmp 38) (.tmp 39)) 0 "l06_state.go:111" #[eD 13, eD 14, eG 12] (some (12, false))
abbrev kr16 : Oper := oq 41 (.fieldAddr 35 (.tmp 40) 2) 0 "l06_state.go:111" #[eD 15, eG 12] (some (12, false))
abbrev kr17 : Oper := oq 42 (.load 3 (.tmp 41)) 3 "l06_state.go:111" #[eD 16, eG 12] (some (12, false))
abbrev kr18 : Oper := oq 43 (.fieldAddr 35 (.tmp 4) 2) 0 "l06_state.go:111" #[eG 12] (some (12, false))
abbrev kr19 : Oper := oq 44 (.load 3 (.tmp 43)) 3 "l06_state.go:111" #[eD 18, eG 12] (some (12, false))
abbrev kr20 : Oper := oq 45 (.binOp .geq 3 (.tmp 42) (.tmp 44) 3) 4 "l06_state.go:111" #[eD 17, eD 19, eG 12] (some (12, false))
abbrev kr21 : Oper := oq 46 (.pick (.tmp 37) (.const (.bool true)) (.tmp 45)) 4 "l06_state.go:111" #[eD 12, eD 20] none
def Refs (l : List Ce) : Prop := ∀ i (h : i < l.length), RefIn l l[i]
set_option maxHeartbeats 8000000 in
theorem refsOk_calls (l : List Ce) (v : Value) (w : World) (hn : l.length ≤ 1048576) (hp : l.Pairwise ceLt) (h : CeAt w v l) :
  Calls Tryz.prog 71 #[v] w fun e w' => Tells e (Refs l) ∧ Below w.heap.size w w' := by
 have HAT : Hid (∀ wx, Below w.heap.size w wx → CeAt wx v l) := fun wx hx => h.below hx
 obtain ⟨aa, ca, rfl, hga⟩ := h
 have HGA : Hid (CeG w aa l) := hga
 have HPL : Hid (∀ wx r s, Below w.heap.size w wx → Calls Tryz.prog 125 #[.slice aa l.length ca, .agg #[.string { data := #[] }, .int .i64 r, .int .i64 s]] wx fun e w' => Found e l r s ∧ Below wx.heap.size wx w') := fun wx r s hx => placeOf_calls l _ r s wx hn hp (HAT.out wx hx)
 obtain ⟨n, hnl⟩ : ∃ n, n = l.length := ⟨_, rfl⟩
 have HL : Hid (n = l.length) := hnl
 rw [← hnl] at hn HPL ⊢
 clear hnl hga HAT hp
 go_enter Tryz.func71, Tryz.ntmps71
 go_wp2
 go_loopw [9] (fun z wr => ∃ k : Nat, k ≤ n ∧ z = .int .i64 k ∧ (∀ i (h : i < l.length), i < k → RefIn l l[i]) ∧ Below w.heap.size w wr) (fun z _ => n - (intOf z).toNat)
 case atStart => exact ⟨0, Nat.zero_le _, rfl, fun i _ h => by omega, Below.refl _ _⟩
 case round =>
  obtain ⟨k, hk, rfl, hall, hbel⟩ := hrel
  have HALL := hidI hall
  have HBE := hidI hbel
  have hsz := hbel.size
  clear hall
  by_cases hlt : k < n
  case neg =>
   have hk1 : ¬ ((k : Int) < n) := by omega
   have HE : Hid (Refs l) := fun i hi => HALL.out i hi (by have := HL.out; omega)
   go_wp2
   go_ret
   exact ⟨Tells.yes HE.out, HBE.out⟩
  have hkl : k < l.length := by rw [← HL.out]; exact hlt
  obtain ⟨g, f, rfl, hg, hcc⟩ := HGA.out (by omega)
  have hk1 : (k : Int) < n := by omega
  have hk0 : (0 : Int) ≤ k := by omega
  have q := (hcc k hkl).below hbel hg
  have HCC : Hid (∀ j (h : j < l.length) wx, Below w.heap.size w wx → ceC wx g (f + j * 8) l[j]) := fun j h wx hb => (hcc j h).below hb hg
  have HMO : Hid (RefIn l l[k] → ∀ i (h : i < l.length), i < k + 1 → RefIn l l[i]) := fun hy i hi hik => by
   by_cases e : i = k
   ·subst e; exact hy
   ·exact HALL.out i hi (by omega)
  have HNO : Hid (¬ RefIn l l[k] → ¬ Refs l) := fun h q => h (q k hkl)
  generalize l[k] = x at *
  unfold ceC at q
  obtain ⟨q0, q1, q2, q3, q4, q5, q6, q7⟩ := q
  obtain ⟨WW, hWW⟩ : ∃ WW, WW = wr.alloc (.cells #[.string x.o, .int .i64 x.r, .int .i64 x.s, .int .i64 x.t, .int .i64 x.x, .int .i64 x.z, .int .i64 x.v, .bool x.g] 35) := ⟨_, rfl⟩
  have HBA : Hid (Below w.heap.size w WW) := by rw [hWW]; exact HBE.out.alloc hsz _
  have hRW : Row WW wr.heap.size #[.string x.o, .int .i64 x.r, .int .i64 x.s, .int .i64 x.t, .int .i64 x.x, .int .i64 x.z, .int .i64 x.v, .bool x.g] 35 := by rw [hWW]; exact row_new wr _ _ rfl
  have HWW : Hid (wr.alloc (.cells #[.string x.o, .int .i64 x.r, .int .i64 x.s, .int .i64 x.t, .int .i64 x.x, .int .i64 x.z, .int .i64 x.v, .bool x.g] 35) = WW) := hWW.symm
  have HS : Hid (∀ wx, Below WW.heap.size WW wx → wx.cell? ⟨wr.heap.size, 0, none⟩ = some (.string x.o) ∧ wx.cell? ⟨wr.heap.size, 1, none⟩ = some (.int .i64 x.r) ∧ wx.cell? ⟨wr.heap.size, 2, none⟩ = some (.int .i64 x.s) ∧ wx.cell? ⟨wr.heap.size, 3, none⟩ = some (.int .i64 x.t) ∧ wx.cell? ⟨wr.heap.size, 4, none⟩ = some (.int .i64 x.x) ∧ wx.cell? ⟨wr.heap.size, 5, none⟩ = some (.int .i64 x.z) ∧ wx.cell? ⟨wr.heap.size, 6, none⟩ = some (.int .i64 x.v) ∧ wx.cell? ⟨wr.heap.size, 7, none⟩ = some (.bool x.g)) := fun wx h => ⟨(hRW.next h).cell 0 rfl, (hRW.next h).cell 1 rfl, (hRW.next h).cell 2 rfl, (hRW.next h).cell 3 rfl, (hRW.next h).cell 4 rfl, (hRW.next h).cell 5 rfl, (hRW.next h).cell 6 rfl, (hRW.next h).cell 7 rfl⟩
  have hgd := dot_guard
  by_cases hz : x.x = 0 ∧ x.z = 0
  case pos =>
   have heq : ∀ wx, (Op.equalIn 10000 33 (.agg #[.int .i64 x.x, .int .i64 x.z]) (.agg #[.int .i64 0, .int .i64 0])).run Tryz.prog wx = .ok true wx := fun wx => by rw [eqDot_zero, decide_eq_true hz]
   have HE := hidI (HMO.out (.inl hz))
   clear hWW hRW hcc hbel hkl HALL HNO hz HPL
   go_wp2
   rw [HWW.out]
   go_roundw
   case rel => exact ⟨k + 1, by omega, by go_num, HE.out, HBA.out⟩
   case measure => simp [intOf]; omega
  have heq : ∀ wx, (Op.equalIn 10000 33 (.agg #[.int .i64 x.x, .int .i64 x.z]) (.agg #[.int .i64 0, .int .i64 0])).run Tryz.prog wx = .ok false wx := fun wx => by rw [eqDot_zero, decide_eq_false hz]
  have HZ := hidI hz
  have HPX := hidI (fun (wx : World) (hx : Below w.heap.size w wx) => HPL.out wx x.x x.z hx)
  have HRN : Hid ((¬ ∃ j, ∃ _ : j < l.length, cellAt l x.x x.z 0 = (j : Int)) → ¬ RefIn l x) := fun e h => by
   rcases h with h | ⟨i, hi, h1, -⟩
   ·exact HZ.out h
   ·exact e ⟨i, hi, h1⟩
  have HRI : Hid (∀ j (h : j < l.length), cellAt l x.x x.z 0 = (j : Int) → (RefIn l x ↔ l[j].o = x.o ∧ l[j].t < x.t)) := fun j h e => by
   constructor
   ·rintro (h1 | ⟨i, hi, h1, h2⟩)
    ·exact absurd h1 HZ.out
    ·have : i = j := by omega
     subst this; exact h2
   ·intro h1; exact .inr ⟨j, h, e, h1⟩
  clear hcc hkl HALL hz HPL
  have hrw := HS.out _ (Below.refl _ _)
  rw [hWW] at hrw
  obtain ⟨m0, m1, m2, m3, m4, m5, m6, m7⟩ := hrw
  clear hWW hRW
  go_wp2_with fail
  rw [HWW.out]
  refine (HPX.out _ HBA.out).mono ?_
  rintro e w2 ⟨⟨j, b, rfl, hyes, hnot⟩, hb2⟩
  have hBc : Below WW.heap.size WW w2 := hb2
  clear hb2 m0 m1 m2 m3 m4 m5 m6 m7 q0 q1 q2 q3 q4 q5 q6 q7 HWW HPX heq hbel
  cases b with
  | false =>
   have HE := hidI (HNO.out (HRN.out (hnot rfl)))
   have HSY : Hid (∀ wx, Below WW.heap.size WW wx → wx.cell? ⟨wr.heap.size, 0, none⟩ = some (.string x.o) ∧ wx.cell? ⟨wr.heap.size, 1, none⟩ = some (.int .i64 x.r) ∧ wx.cell? ⟨wr.heap.size, 2, none⟩ = some (.int .i64 x.s) ∧ wx.cell? ⟨wr.heap.size, 3, none⟩ = some (.int .i64 x.t) ∧ wx.cell? ⟨wr.heap.size, 4, none⟩ = some (.int .i64 x.x) ∧ wx.cell? ⟨wr.heap.size, 5, none⟩ = some (.int .i64 x.z) ∧ wx.cell? ⟨wr.heap.size, 6, none⟩ = some (.int .i64 x.v) ∧ wx.cell? ⟨wr.heap.size, 7, none⟩ = some (.bool x.g)) := HS
   clear hyes hnot HRN HRI HMO HS
   go_wp2
   replace hBc := hBc.drew
   have hs := hidI (HSY.out _ hBc)
   refine wp_region_held_drew (S := fun w' => w'.cell? ⟨wr.heap.size, 0, none⟩ = some (.string x.o) ∧ w'.cell? ⟨wr.heap.size, 1, none⟩ = some (.int .i64 x.r) ∧ w'.cell? ⟨wr.heap.size, 2, none⟩ = some (.int .i64 x.s) ∧ w'.cell? ⟨wr.heap.size, 3, none⟩ = some (.int .i64 x.t) ∧ w'.cell? ⟨wr.heap.size, 4, none⟩ = some (.int .i64 x.x) ∧ w'.cell? ⟨wr.heap.size, 5, none⟩ = some (.int .i64 x.z) ∧ w'.cell? ⟨wr.heap.size, 6, none⟩ = some (.int .i64 x.v) ∧ w'.cell? ⟨wr.heap.size, 7, none⟩ = some (.bool x.g)) (by kernel_rfl) hs.out (fun hx => ?_)
   clear hx
   refine wpAnyH_list (l' := #[false, false, false, false, false, false, false, false, false, false, false, false, false, false, false, false, false, false, false, false, false, false]) (by as_aux_lemma => kernel_rfl) ?_
   refine tk 0 kr0 hs.out ?_; simp only [sq]; refine tk 1 kr1 hs.out ?_; simp only [sq]; refine tk 2 kr2 hs.out ?_; simp only [sq]; refine sk 3 kr3 hs.out ?_; simp only [sq]; refine sk 4 kr4 hs.out ?_; simp only [sq]; refine sk 5 kr5 hs.out ?_; simp only [sq]; refine sk 6 kr6 hs.out ?_; simp only [sq]; refine sk 7 kr7 hs.out ?_; simp only [sq]; refine sk 8 kr8 hs.out ?_; simp only [sq]; refine sk 9 kr9 hs.out ?_; simp only [sq]; refine sk 10 kr10 hs.out ?_; simp only [sq]; refine tk 11 kr11 hs.out ?_; simp only [sq]; refine tk 12 kr12 hs.out ?_; simp only [sq]; refine sk 13 kr13 hs.out ?_; simp only [sq]; refine sk 14 kr14 hs.out ?_; simp only [sq]; refine sk 15 kr15 hs.out ?_; simp only [sq]; refine sk 16 kr16 hs.out ?_; simp only [sq]; refine sk 17 kr17 hs.out ?_; simp only [sq]; refine sk 18 kr18 hs.out ?_; simp only [sq]; refine sk 19 kr19 hs.out ?_; simp only [sq]; refine sk 20 kr20 hs.out ?_; simp only [sq]; refine tk 21 kr21 hs.out ?_; simp only [sq]
   refine wpAnyH_done (by as_aux_lemma => kernel_rfl) ?_ _
   have HBF := hidI (HBA.out.trans (hBc.mono HBA.out.size))
   clear hs hBc HSY
   go_wp2
   go_ret
   exact ⟨Tells.no HE.out, HBF.out⟩
  | true =>
  have hjl := (hyes rfl).1
  have hri := HRI.out j hjl (hyes rfl).2
  have hj1 : (j : Int) < n := by have := HL.out; omega
  have hj0 : (0 : Int) ≤ j := by omega
  have HCJ : Hid (∀ wx, Below w.heap.size w wx → ceC wx g (f + j * 8) l[j]) := fun wx h => HCC.out j hjl wx h
  generalize l[j] = y at *
  have HRI2 := hidI hri
  have HSY : Hid (∀ wx, Below WW.heap.size WW wx → wx.cell? ⟨wr.heap.size, 0, none⟩ = some (.string x.o) ∧ wx.cell? ⟨wr.heap.size, 3, none⟩ = some (.int .i64 x.t) ∧ wx.cell? ⟨g, f + j * 8, none⟩ = some (.string y.o) ∧ wx.cell? ⟨g, f + j * 8 + 3, none⟩ = some (.int .i64 y.t)) := fun wx h => by
   have h1 := HS.out wx h
   have h2 := HCJ.out wx (HBA.out.trans (h.mono HBA.out.size))
   unfold ceC at h2
   exact ⟨h1.1, h1.2.2.2.1, h2.1, h2.2.2.2.1⟩
  clear hyes hnot HRN HRI HS HCC HCJ hjl hri
  go_wp2
  replace hBc := hBc.drew
  have hs := hidI (HSY.out _ hBc)
  refine wp_region_held_drew (S := fun w' => w'.cell? ⟨wr.heap.size, 0, none⟩ = some (.string x.o) ∧ w'.cell? ⟨wr.heap.size, 3, none⟩ = some (.int .i64 x.t) ∧ w'.cell? ⟨g, f + j * 8, none⟩ = some (.string y.o) ∧ w'.cell? ⟨g, f + j * 8 + 3, none⟩ = some (.int .i64 y.t)) (by kernel_rfl) hs.out (fun hx => ?_)
  clear hx
  refine wpAnyH_list (l' := #[false, false, false, false, false, false, false, false, false, false, false, false, false, false, false, false, false, false, false, false, false, false]) (by as_aux_lemma => kernel_rfl) ?_
  refine tk 0 kr0 hs.out ?_; simp only [sq]; refine tk 1 kr1 hs.out ?_; simp only [sq]; refine tk 2 kr2 hs.out ?_; simp only [sq]; refine tk 3 kr3 hs.out ?_; simp only [sq]; refine tk 4 kr4 hs.out ?_; simp only [sq]; refine tk 5 kr5 hs.out ?_; simp only [sq]; refine tk 6 kr6 hs.out ?_; simp only [sq]; refine tk 7 kr7 hs.out ?_; simp only [sq]; refine tk 8 kr8 hs.out ?_; simp only [sq]
  by_cases e1 : y.o = x.o
  case neg =>
   have b1 := beq_str_no y.o x.o e1
   have b2 : (y.o.toList != x.o.toList) = true := by simp [bne, b1]
   have HE := hidI (HNO.out (fun h => e1 (HRI2.out.1 h).1))
   clear HRI2 HMO HNO e1
   refine tk 9 kr9 hs.out ?_; simp only [sq]; refine tk 10 kr10 hs.out ?_; simp only [sq]; refine tk 11 kr11 hs.out ?_; simp only [sq]; refine tk 12 kr12 hs.out ?_; simp only [sq]; refine sk 13 kr13 hs.out ?_; simp only [sq]; refine sk 14 kr14 hs.out ?_; simp only [sq]; refine sk 15 kr15 hs.out ?_; simp only [sq]; refine sk 16 kr16 hs.out ?_; simp only [sq]; refine sk 17 kr17 hs.out ?_; simp only [sq]; refine sk 18 kr18 hs.out ?_; simp only [sq]; refine sk 19 kr19 hs.out ?_; simp only [sq]; refine sk 20 kr20 hs.out ?_; simp only [sq]; refine tk 21 kr21 hs.out ?_; simp only [sq]
   refine wpAnyH_done (by as_aux_lemma => kernel_rfl) ?_ _
   have HBF := hidI (HBA.out.trans (hBc.mono HBA.out.size))
   clear hs hBc HSY
   go_wp2
   go_ret
   exact ⟨Tells.no HE.out, HBF.out⟩
  have b1 := beq_str y.o x.o e1
  have b2 : (y.o.toList != x.o.toList) = false := by simp [bne, b1]
  have HEO := hidI e1
  clear e1
  by_cases e2 : y.t < x.t
  case pos =>
   have hd : decide (x.t ≤ y.t) = false := decide_eq_false (by omega)
   have hd2 : ¬ x.t ≤ y.t := by omega
   have HE := hidI (HMO.out (HRI2.out.2 ⟨HEO.out, e2⟩))
   clear HRI2 HMO HNO HEO e2
   refine tk 9 kr9 hs.out ?_; simp only [sq]; refine tk 10 kr10 hs.out ?_; simp only [sq]; refine tk 11 kr11 hs.out ?_; simp only [sq]; refine tk 12 kr12 hs.out ?_; simp only [sq]; refine tk 13 kr13 hs.out ?_; simp only [sq]; refine tk 14 kr14 hs.out ?_; simp only [sq]; refine tk 15 kr15 hs.out ?_; simp only [sq]; refine tk 16 kr16 hs.out ?_; simp only [sq]; refine tk 17 kr17 hs.out ?_; simp only [sq]; refine tk 18 kr18 hs.out ?_; simp only [sq]; refine tk 19 kr19 hs.out ?_; simp only [sq]; refine tk 20 kr20 hs.out ?_; simp only [sq]; refine tk 21 kr21 hs.out ?_; simp only [sq]
   refine wpAnyH_done (by as_aux_lemma => kernel_rfl) ?_ _
   have HBF := hidI (HBA.out.trans (hBc.mono HBA.out.size))
   clear hs hBc HSY
   go_wp2
   go_roundw
   case rel => exact ⟨k + 1, by omega, by go_num, HE.out, HBF.out⟩
   case measure => simp [intOf]; omega
  have hd : decide (x.t ≤ y.t) = true := decide_eq_true (by omega)
  have hd2 : x.t ≤ y.t := by omega
  have HE := hidI (HNO.out (fun h => e2 (HRI2.out.1 h).2))
  clear HRI2 HMO HNO HEO e2
  refine tk 9 kr9 hs.out ?_; simp only [sq]; refine tk 10 kr10 hs.out ?_; simp only [sq]; refine tk 11 kr11 hs.out ?_; simp only [sq]; refine tk 12 kr12 hs.out ?_; simp only [sq]; refine tk 13 kr13 hs.out ?_; simp only [sq]; refine tk 14 kr14 hs.out ?_; simp only [sq]; refine tk 15 kr15 hs.out ?_; simp only [sq]; refine tk 16 kr16 hs.out ?_; simp only [sq]; refine tk 17 kr17 hs.out ?_; simp only [sq]; refine tk 18 kr18 hs.out ?_; simp only [sq]; refine tk 19 kr19 hs.out ?_; simp only [sq]; refine tk 20 kr20 hs.out ?_; simp only [sq]; refine tk 21 kr21 hs.out ?_; simp only [sq]
  refine wpAnyH_done (by as_aux_lemma => kernel_rfl) ?_ _
  have HBF := hidI (HBA.out.trans (hBc.mono HBA.out.size))
  clear hs hBc HSY
  go_wp2
  go_ret
  exact ⟨Tells.no HE.out, HBF.out⟩
set_option maxHeartbeats 8000000 in
theorem stateOk_calls (S : Sta) (u0 u1 u2 u3 : Value) (w : World) (hn : Small S) (hst : Named S) (h : StAt w S u0 u1 u2 u3) :
  Calls Tryz.prog 18 #[.agg #[u0, u1, u2, u3]] w fun e w' => Tells e (IOk S) ∧ Below w.heap.size w w' := by
 obtain ⟨a0, c0, a1, c1, a2, c2, a3, c3, rfl, rfl, rfl, rfl⟩ := h.shape
 obtain ⟨W, hW⟩ : ∃ W, W = w.alloc (.cells #[.slice a0 S.l.length c0, .slice a1 S.T.length c1, .slice a2 S.L.length c2, .slice a3 S.C.length c3] 29) := ⟨_, rfl⟩
 have HB : Hid (Below w.heap.size w W) := by rw [hW]; exact (Below.refl _ _).alloc (Nat.le_refl _) _
 have hS : StAt W S (.slice a0 S.l.length c0) (.slice a1 S.T.length c1) (.slice a2 S.L.length c2) (.slice a3 S.C.length c3) := by rw [hW]; exact h.alloc _
 have hR : Row W w.heap.size #[.slice a0 S.l.length c0, .slice a1 S.T.length c1, .slice a2 S.L.length c2, .slice a3 S.C.length c3] 29 := by rw [hW]; exact row_new w _ _ rfl
 have HS : Hid (∀ wx, Below W.heap.size W wx → StAt wx S (.slice a0 S.l.length c0) (.slice a1 S.T.length c1) (.slice a2 S.L.length c2) (.slice a3 S.C.length c3)) := fun wx h => hS.below h
 have HR : Hid (∀ wx, Below W.heap.size W wx → wx.cell? ⟨w.heap.size, 0, none⟩ = some (.slice a0 S.l.length c0) ∧ wx.cell? ⟨w.heap.size, 1, none⟩ = some (.slice a1 S.T.length c1) ∧ wx.cell? ⟨w.heap.size, 2, none⟩ = some (.slice a2 S.L.length c2) ∧ wx.cell? ⟨w.heap.size, 3, none⟩ = some (.slice a3 S.C.length c3)) := fun wx h => Row.four (hR.next h)
 have HWW : Hid (w.alloc (.cells #[.slice a0 S.l.length c0, .slice a1 S.T.length c1, .slice a2 S.L.length c2, .slice a3 S.C.length c3] 29) = W) := hW.symm
 have HK : Hid (∀ wx, Below W.heap.size W wx → Calls Tryz.prog 67 #[.slice a0 S.l.length c0] wx fun e w' => e = .returned (.bool (decide (KOk S.l))) ∧ Below wx.heap.size wx w') := fun wx h => (knowOk_calls S.l _ wx (HS.out wx h).1).mono (by rintro e w' ⟨rfl, rfl⟩; exact ⟨rfl, Below.refl _ _⟩)
 have HT : Hid (∀ wx, Below W.heap.size W wx → Calls Tryz.prog 68 #[.slice a1 S.T.length c1, .slice a0 S.l.length c0] wx fun e w' => Tells e (PartsOk taR taLt S.T) ∧ Below wx.heap.size wx w') := fun wx h => partsTa_calls S.T S.l _ _ wx hn.2.1 (fun _ _ => trivial) (HS.out wx h).2.1 (HS.out wx h).1
 have HL : Hid (∀ wx, Below W.heap.size W wx → Calls Tryz.prog 69 #[.slice a2 S.L.length c2, .slice a0 S.l.length c0] wx fun e w' => Tells e (PartsOk (liR S.l) liLt S.L) ∧ Below wx.heap.size wx w') := fun wx h => partsLi_calls S.L S.l _ _ wx hn.2.2.1 hst.2.1 (HS.out wx h).2.2.1 (HS.out wx h).1
 have HC : Hid (∀ wx, Below W.heap.size W wx → Calls Tryz.prog 70 #[.slice a3 S.C.length c3, .slice a0 S.l.length c0] wx fun e w' => Tells e (PartsOk (ceR S.l) ceLt S.C) ∧ Below wx.heap.size wx w') := fun wx h => partsCe_calls S.C S.l _ _ wx hn.2.2.2 hst.2.2 (HS.out wx h).2.2.2 (HS.out wx h).1
 have HF : Hid (∀ wx, S.C.Pairwise ceLt → Below W.heap.size W wx → Calls Tryz.prog 71 #[.slice a3 S.C.length c3] wx fun e w' => Tells e (Refs S.C) ∧ Below wx.heap.size wx w') := fun wx hp h => refsOk_calls S.C _ wx hn.2.2.2 hp (HS.out wx h).2.2.2
 have HBK : Hid (∀ wx, Below W.heap.size W wx → Below w.heap.size w wx) := fun wx h => HB.out.trans (h.mono HB.out.size)
 have HR0 := hidI (HR.out W (Below.refl _ _))
 have hr0 := HR0.out
 rw [hW] at hr0
 obtain ⟨d0, d1, d2, d3⟩ := hr0
 clear hW h hS hR HB HS HR0
 go_enter Tryz.func18, Tryz.ntmps18
 go_wp2_with fail
 rw [HWW.out]
 refine (HK.out _ (Below.refl _ _)).mono ?_
 rintro e x1 ⟨rfl, hb⟩
 have hX1 : Below W.heap.size W x1 := hb
 clear hb d0 d1 d2 d3 HK HWW
 obtain ⟨d0, d1, d2, d3⟩ := HR.out _ hX1
 by_cases k1 : KOk S.l
 case neg =>
  rw [decide_eq_false k1]
  have HE : Hid (¬ IOk S) := fun h => k1 h.1
  have HBF := hidI (HBK.out _ hX1)
  clear k1 hX1 HT HL HC HF
  go_wp2
  go_ret
  exact ⟨Tells.no HE.out, HBF.out⟩
 rw [decide_eq_true k1]
 have K1 := hidI k1
 clear k1
 go_wp2_with fail
 refine (HT.out _ hX1).mono ?_
 rintro e x2 ⟨⟨q, rfl, hq⟩, hb⟩
 have hX2 : Below W.heap.size W x2 := hX1.trans (hb.mono hX1.size)
 clear hb d0 d1 d2 d3 HT hX1
 obtain ⟨d0, d1, d2, d3⟩ := HR.out _ hX2
 cases q with
 | false =>
  have HE : Hid (¬ IOk S) := fun h => by have := hq.2 h.2.1; cases this
  have HBF := hidI (HBK.out _ hX2)
  clear hq hX2
  go_wp2
  go_ret
  exact ⟨Tells.no HE.out, HBF.out⟩
 | true =>
 have K2 : Hid (PartsOk taR taLt S.T) := hq.1 rfl
 clear hq
 go_wp2_with fail
 refine (HL.out _ hX2).mono ?_
 rintro e x3 ⟨⟨q, rfl, hq⟩, hb⟩
 have hX3 : Below W.heap.size W x3 := hX2.trans (hb.mono hX2.size)
 clear hb d0 d1 d2 d3 HL hX2
 obtain ⟨d0, d1, d2, d3⟩ := HR.out _ hX3
 cases q with
 | false =>
  have HE : Hid (¬ IOk S) := fun h => by have := hq.2 h.2.2.1; cases this
  have HBF := hidI (HBK.out _ hX3)
  clear hq hX3
  go_wp2
  go_ret
  exact ⟨Tells.no HE.out, HBF.out⟩
 | true =>
 have K3 : Hid (PartsOk (liR S.l) liLt S.L) := hq.1 rfl
 clear hq
 go_wp2_with fail
 refine (HC.out _ hX3).mono ?_
 rintro e x4 ⟨⟨q, rfl, hq⟩, hb⟩
 have hX4 : Below W.heap.size W x4 := hX3.trans (hb.mono hX3.size)
 clear hb d0 d1 d2 d3 HC hX3
 obtain ⟨d0, d1, d2, d3⟩ := HR.out _ hX4
 cases q with
 | false =>
  have HE : Hid (¬ IOk S) := fun h => by have := hq.2 h.2.2.2.1; cases this
  have HBF := hidI (HBK.out _ hX4)
  clear hq hX4
  go_wp2
  go_ret
  exact ⟨Tells.no HE.out, HBF.out⟩
 | true =>
 have K4 : Hid (PartsOk (ceR S.l) ceLt S.C) := hq.1 rfl
 clear hq
 go_wp2_with fail
 refine (HF.out _ (Asc.pair ceLt_trans K4.out.2) hX4).mono ?_
 rintro e x5 ⟨⟨q, rfl, hq⟩, hb⟩
 have hX5 : Below W.heap.size W x5 := hX4.trans (hb.mono hX4.size)
 clear hb d0 d1 d2 d3 HF hX4
 obtain ⟨d0, d1, d2, d3⟩ := HR.out _ hX5
 cases q with
 | false =>
  have HE : Hid (¬ IOk S) := fun h => by have := hq.2 h.2.2.2.2; cases this
  have HBF := hidI (HBK.out _ hX5)
  clear hq hX5
  go_wp2
  go_ret
  exact ⟨Tells.no HE.out, HBF.out⟩
 | true =>
 have K5 : Hid (Refs S.C) := hq.1 rfl
 clear hq
 have HE : Hid (IOk S) := ⟨K1.out, K2.out, K3.out, K4.out, K5.out⟩
 have HBF := hidI (HBK.out _ hX5)
 clear hX5
 go_wp2
 go_ret
 exact ⟨Tells.yes HE.out, HBF.out⟩
end Go.Proofs.YtdknoflkingodaaGreat
