/- Right lives, as the specification asks. -/
import Derived.BigRegion
import Derived.Test.YtdknoflkingodaaGreatM1
import Derived.Test.YtdknoflkingodaaGreatM2
import Derived.Test.YtdknoflkingodaaGreatM3
import Derived.Test.YtdknoflkingodaaGreatM4
import Derived.Test.YtdknoflkingodaaGreatM5
import Derived.Test.YtdknoflkingodaaGreatM6
import Derived.Test.YtdknoflkingodaaGreatM7
import Derived.Test.YtdknoflkingodaaGreatM8
import Derived.Test.YtdknoflkingodaaGreatM9
import Derived.Test.YtdknoflkingodaaGreatM10
import Derived.Test.YtdknoflkingodaaGreatM11
import Derived.Test.YtdknoflkingodaaGreatM12
import Derived.Test.YtdknoflkingodaaGreatM13
import Derived.Test.YtdknoflkingodaaGreatM14
import Derived.Test.YtdknoflkingodaaGreatM15
import Derived.Test.YtdknoflkingodaaGreatM16
namespace Go.Proofs.YtdknoflkingodaaGreat
set_option maxRecDepth 100000
set_option linter.unusedVariables false
open Go.RowKit
def liLt (a b : Li) : Prop := doLt a.r a.s b.r b.s
def liOk (a : Li) : Prop := DOk a.r a.s ∧ NOk a.o ∧ NOk a.y ∧ (0 ≤ a.v ∧ a.v ≤ 999999) ∧ (a.m = false → a.v = 0)
def LivOk (l : List Li) : Prop := l.length ≤ 120 ∧ Asc liOk liLt l
abbrev lvo0 : Oper := oq 15 (.fieldAddr 40 (.tmp 4) 4) 0 "l06_state.go:27" #[] none
abbrev lvo1 : Oper := oq 16 (.load 33 (.tmp 15)) 33 "l06_state.go:27" #[eD 0] none
abbrev lvo2 : Oper := oq 17 (.call ⟨.value (.func 88), #[.tmp 16], #[33]⟩) 4 "l06_state.go:27" #[eD 1] none
abbrev lvo3 : Oper := oq 18 (.unOp .not 4 (.tmp 17)) 4 "l06_state.go:27" #[eD 2] none
abbrev lvo4 : Oper := oq 19 (.move (.tmp 18)) 4 "l06_state.go:27" #[eD 3, eC 2] none
abbrev lvo5 : Oper := oq 20 (.fieldAddr 40 (.tmp 4) 1) 0 "l06_state.go:27" #[eG 4] (some (4, false))
abbrev lvo6 : Oper := oq 21 (.load 9 (.tmp 20)) 9 "l06_state.go:27" #[eD 5, eG 4] (some (4, false))
abbrev lvo7 : Oper := oq 22 (.call ⟨.value (.func 127), #[.tmp 21], #[9]⟩) 4 "l06_state.go:27" #[eD 6, eC 4, eG 4] (some (4, false))
abbrev lvo8 : Oper := oq 23 (.unOp .not 4 (.tmp 22)) 4 "l06_state.go:27" #[eD 7, eG 4] (some (4, false))
abbrev lvo9 : Oper := oq 24 (.pick (.tmp 19) (.const (.bool true)) (.tmp 23)) 4 "l06_state.go:27" #[eD 4, eD 8] none
abbrev lvo10 : Oper := oq 25 (.move (.tmp 24)) 4 "l06_state.go:27" #[eD 9, eC 7] none
abbrev lvo11 : Oper := oq 26 (.fieldAddr 40 (.tmp 4) 2) 0 "l06_state.go:27" #[eG 10] (some (10, false))
abbrev lvo12 : Oper := oq 27 (.load 9 (.tmp 26)) 9 "l06_state.go:27" #[eD 11, eG 10] (some (10, false))
abbrev lvo13 : Oper := oq 28 (.call ⟨.value (.func 127), #[.tmp 27], #[9]⟩) 4 "l06_state.go:27" #[eD 12, eC 10, eG 10] (some (10, false))
abbrev lvo14 : Oper := oq 29 (.unOp .not 4 (.tmp 28)) 4 "l06_state.go:27" #[eD 13, eG 10] (some (10, false))
abbrev lvo15 : Oper := oq 30 (.pick (.tmp 25) (.const (.bool true)) (.tmp 29)) 4 "l06_state.go:27" #[eD 10, eD 14] none
abbrev lvo16 : Oper := oq 31 (.move (.tmp 30)) 4 "l06_state.go:27" #[eD 15, eC 13] none
abbrev lvo17 : Oper := oq 32 (.fieldAddr 40 (.tmp 4) 3) 0 "l06_state.go:27" #[eG 16] (some (16, false))
abbrev lvo18 : Oper := oq 33 (.load 3 (.tmp 32)) 3 "l06_state.go:27" #[eD 17, eG 16] (some (16, false))
abbrev lvo19 : Oper := oq 34 (.call ⟨.value (.func 126), #[.tmp 33, .const (.int .i64 0), .const (.int .i64 999999)], #[3, 3, 3]⟩) 4 "l06_state.go:27" #[eD 18, eC 16, eG 16] (some (16, false))
abbrev lvo20 : Oper := oq 35 (.unOp .not 4 (.tmp 34)) 4 "l06_state.go:27" #[eD 19, eG 16] (some (16, false))
abbrev lvo21 : Oper := oq 36 (.pick (.tmp 31) (.const (.bool true)) (.tmp 35)) 4 "l06_state.go:27" #[eD 16, eD 20] none
abbrev lvo22 : Oper := oq 37 (.move (.tmp 36)) 4 "l06_state.go:27" #[eD 21, eC 19] none
abbrev lvo23 : Oper := oq 38 (.fieldAddr 40 (.tmp 4) 0) 0 "l06_state.go:27" #[eG 22] (some (22, false))
abbrev lvo24 : Oper := oq 39 (.load 4 (.tmp 38)) 4 "l06_state.go:27" #[eD 23, eG 22] (some (22, false))
abbrev lvo25 : Oper := oq 40 (.unOp .not 4 (.tmp 39)) 4 "l06_state.go:27" #[eD 24, eG 22] (some (22, false))
abbrev lvo26 : Oper := oq 41 (.move (.tmp 40)) 4 "l06_state.go:27" #[eD 25, eC 22, eG 22] (some (22, false))
abbrev lvo27 : Oper := oq 42 (.fieldAddr 40 (.tmp 4) 3) 0 "l06_state.go:27" #[eG 26] (some (26, true))
abbrev lvo28 : Oper := oq 43 (.load 3 (.tmp 42)) 3 "l06_state.go:27" #[eD 27, eG 26] (some (26, true))
abbrev lvo29 : Oper := oq 44 (.binOp .neq 3 (.tmp 43) (.const (.int .i64 0)) 3) 4 "l06_state.go:27" #[eD 28, eG 26] (some (26, true))
abbrev lvo30 : Oper := oq 45 (.pick (.tmp 41) (.tmp 44) (.const (.bool false))) 4 "l06_state.go:27" #[eD 26, eD 29, eG 22] (some (22, false))
abbrev lvo31 : Oper := oq 46 (.pick (.tmp 37) (.const (.bool true)) (.tmp 45)) 4 "l06_state.go:27" #[eD 22, eD 30] none
abbrev lvo32 : Oper := oq 47 (.move (.tmp 46)) 4 "l06_state.go:27" #[eD 31, eC 26] none
abbrev lvo33 : Oper := oq 48 (.move (.tmp 3)) 3 "l06_state.go:27" #[eG 32] (some (32, false))
abbrev lvo34 : Oper := oq 49 (.binOp .gtr 3 (.tmp 48) (.const (.int .i64 0)) 3) 4 "l06_state.go:27" #[eD 33, eG 32] (some (32, false))
abbrev lvo35 : Oper := oq 50 (.move (.tmp 49)) 4 "l06_state.go:27" #[eD 34, eC 32, eG 32] (some (32, false))
abbrev lvo36 : Oper := oq 51 (.move (.tmp 0)) 26 "l06_state.go:27" #[eG 35] (some (35, true))
abbrev lvo37 : Oper := oq 52 (.move (.tmp 3)) 3 "l06_state.go:27" #[eG 35] (some (35, true))
abbrev lvo38 : Oper := oq 53 (.binOp .sub 3 (.tmp 52) (.const (.int .i64 1)) 3) 3 "l06_state.go:27" #[eD 37, eG 35] (some (35, true))
abbrev lvo39 : Oper := oq 54 (.indexAddr 26 (.tmp 51) (.tmp 53)) 0 "l06_state.go:27" #[eD 36, eD 38, eG 35] (some (35, true))
abbrev lvo40 : Oper := oq 55 (.fieldAddr 40 (.tmp 54) 4) 0 "l06_state.go:27" #[eD 39, eG 35] (some (35, true))
abbrev lvo41 : Oper := oq 56 (.load 33 (.tmp 55)) 33 "l06_state.go:27" #[eD 40, eG 35] (some (35, true))
abbrev lvo42 : Oper := oq 57 (.fieldAddr 40 (.tmp 4) 4) 0 "l06_state.go:27" #[eG 35] (some (35, true))
abbrev lvo43 : Oper := oq 58 (.load 33 (.tmp 57)) 33 "l06_state.go:27" #[eD 42, eG 35] (some (35, true))
abbrev lvo44 : Oper := oq 59 (.call ⟨.value (.func 128), #[.tmp 56, .tmp 58], #[33, 33]⟩) 4 "l06_state.go:27" #[eD 41, eD 43, eC 35, eG 35] (some (35, true))
abbrev lvo45 : Oper := oq 60 (.unOp .not 4 (.tmp 59)) 4 "l06_state.go:27" #[eD 44, eG 35] (some (35, true))
abbrev lvo46 : Oper := oq 61 (.pick (.tmp 50) (.tmp 60) (.const (.bool false))) 4 "l06_state.go:27" #[eD 35, eD 45, eG 32] (some (32, false))
abbrev lvo47 : Oper := oq 62 (.pick (.tmp 47) (.const (.bool true)) (.tmp 61)) 4 "l06_state.go:27" #[eD 32, eD 46] none
set_option maxHeartbeats 16000000 in
theorem specLives_calls (l : List Li) (u : Value) (w : World) (hn : l.length ≤ 1048576) (hst : ∀ a ∈ l, a.o.size ≤ 1048576 ∧ a.y.size ≤ 1048576) (h : LiAt w u l) :
  Calls Tryz.prog 79 #[u] w fun e w' => Tells e (LivOk l) ∧ Below w.heap.size w w' := by
 obtain ⟨aa, ca, rfl, hga⟩ := h
 have HGA : Hid (LiG w aa l) := hga
 have HST := hidI hst
 obtain ⟨n, hnl⟩ : ∃ n, n = l.length := ⟨_, rfl⟩
 have HL : Hid (n = l.length) := hnl
 have HNO : Hid (¬ Asc liOk liLt l → ¬ LivOk l) := fun h k => h k.2
 have HYES : Hid (AscTo liOk liLt l n → (decide ((n : Int) ≤ 120) = true ↔ LivOk l)) := fun h => by
  rw [hnl] at h ⊢
  constructor
  ·intro k; exact ⟨by have := of_decide_eq_true k; omega, asc_all h (Nat.le_refl _)⟩
  ·intro k; exact decide_eq_true (by have := k.1; omega)
 rw [← hnl] at hn ⊢
 clear hnl hga hst
 go_enter Tryz.func79, Tryz.ntmps79
 go_wp2
 go_loopw [3] (fun z wr => ∃ k : Nat, k ≤ n ∧ z = .int .i64 k ∧ AscTo liOk liLt l k ∧ Below w.heap.size w wr) (fun z _ => n - (intOf z).toNat)
 case atStart => exact ⟨0, Nat.zero_le _, rfl, asc_zero _ _ _, Below.refl _ _⟩
 case round =>
  obtain ⟨k, hk, rfl, hasc, hbel⟩ := hrel
  have HBE := hidI hbel
  have HAS := hidI hasc
  have hsz := hbel.size
  clear hasc
  by_cases hlt : k < n
  case neg =>
   have hk1 : ¬ ((k : Int) < n) := by omega
   have HE := hidI (HYES.out (by have e : k = n := (by omega); rw [← e]; exact HAS.out))
   go_wp2
   go_ret
   exact ⟨⟨_, rfl, HE.out⟩, HBE.out⟩
  have hkl : k < l.length := by rw [← HL.out]; exact hlt
  obtain ⟨g, f, rfl, hg, hcc⟩ := HGA.out (by omega)
  have hk1 : (k : Int) < n := by omega
  have hk0 : (0 : Int) ≤ k := by omega
  have q := (hcc k hkl).below hbel hg
  have hp1 : k - 1 < l.length := by omega
  have HPC : Hid (∀ wx, Below w.heap.size w wx → liC wx g (f + (k - 1) * 6) l[k - 1]) := fun wx h => (hcc (k - 1) hp1).below h hg
  have HF1 : Hid (¬ liOk l[k] → ¬ LivOk l) := fun h => HNO.out (fun a => h (a k hkl).1)
  have HF2 : Hid (0 < k → ¬ liLt l[k - 1] l[k] → ¬ LivOk l) := fun h0 h => HNO.out (fun a => h ((a k hkl).2 h0))
  have HMO : Hid (liOk l[k] → (0 < k → liLt l[k - 1] l[k]) → AscTo liOk liLt l (k + 1)) := fun h1 h2 => asc_more HAS.out hkl h1 h2
  have hsx := HST.out l[k] (List.getElem_mem hkl)
  generalize l[k - 1] = p at *
  generalize l[k] = x at *
  unfold liC at q
  obtain ⟨q0, q1, q2, q3, q4, q5⟩ := q
  obtain ⟨WW, hWW⟩ : ∃ WW, WW = wr.alloc (.cells #[.bool x.m, .string x.o, .string x.y, .int .i64 x.v, .int .i64 x.r, .int .i64 x.s] 40) := ⟨_, rfl⟩
  have HBA : Hid (Below w.heap.size w WW) := by rw [hWW]; exact HBE.out.alloc hsz _
  have hRW : Row WW wr.heap.size #[.bool x.m, .string x.o, .string x.y, .int .i64 x.v, .int .i64 x.r, .int .i64 x.s] 40 := by rw [hWW]; exact row_new wr _ _ rfl
  have HWW : Hid (wr.alloc (.cells #[.bool x.m, .string x.o, .string x.y, .int .i64 x.v, .int .i64 x.r, .int .i64 x.s] 40) = WW) := hWW.symm
  have HCE : Hid (∀ wx, Below WW.heap.size WW wx → wx.cell? ⟨wr.heap.size, 0, none⟩ = some (.bool x.m) ∧ wx.cell? ⟨wr.heap.size, 1, none⟩ = some (.string x.o) ∧ wx.cell? ⟨wr.heap.size, 2, none⟩ = some (.string x.y) ∧ wx.cell? ⟨wr.heap.size, 3, none⟩ = some (.int .i64 x.v) ∧ wx.cell? ⟨wr.heap.size, 4, none⟩ = some (.int .i64 x.r) ∧ wx.cell? ⟨wr.heap.size, 5, none⟩ = some (.int .i64 x.s)) := fun wx h => ⟨(hRW.next h).cell 0 rfl, (hRW.next h).cell 1 rfl, (hRW.next h).cell 2 rfl, (hRW.next h).cell 3 rfl, (hRW.next h).cell 4 rfl, (hRW.next h).cell 5 rfl⟩
  have HPP : Hid (∀ wx, Below WW.heap.size WW wx → wx.cell? ⟨g, f + (k - 1) * 6 + 4, none⟩ = some (.int .i64 p.r) ∧ wx.cell? ⟨g, f + (k - 1) * 6 + 5, none⟩ = some (.int .i64 p.s)) := fun wx h => by
   have hq := HPC.out wx (HBA.out.trans (h.mono HBA.out.size))
   unfold liC at hq
   exact ⟨hq.2.2.2.2.1, hq.2.2.2.2.2⟩
  have HD : Hid (∀ wx, Calls Tryz.prog 88 #[.agg #[.int .i64 x.r, .int .i64 x.s]] wx fun e w' => e = .returned (.bool (decide (DOk x.r x.s))) ∧ Below wx.heap.size wx w') := fun wx => specDotOk_calls x.r x.s wx
  have HN : Hid (∀ wx, Calls Tryz.prog 127 #[.string x.o] wx fun e w' => e = .returned (.bool (decide (NOk x.o))) ∧ Below wx.heap.size wx w') := fun wx => (specNameOk_calls x.o (by unfold maxLen; omega) wx).mono (by rintro e w' ⟨rfl, rfl⟩; exact ⟨rfl, Below.refl _ _⟩)
  have HY : Hid (∀ wx, Calls Tryz.prog 127 #[.string x.y] wx fun e w' => e = .returned (.bool (decide (NOk x.y))) ∧ Below wx.heap.size wx w') := fun wx => (specNameOk_calls x.y (by unfold maxLen; omega) wx).mono (by rintro e w' ⟨rfl, rfl⟩; exact ⟨rfl, Below.refl _ _⟩)
  have HV : Hid (∀ wx, Calls Tryz.prog 126 #[.int .i64 x.v, .int .i64 0, .int .i64 999999] wx fun e w' => e = .returned (.bool (decide (0 ≤ x.v) && decide (x.v ≤ 999999))) ∧ Below wx.heap.size wx w') := fun wx => (in_calls x.v 0 999999 wx).mono (by rintro e w' ⟨rfl, rfl⟩; exact ⟨rfl, Below.refl _ _⟩)
  have HB4 : Hid (∀ wx, Calls Tryz.prog 128 #[.agg #[.int .i64 p.r, .int .i64 p.s], .agg #[.int .i64 x.r, .int .i64 x.s]] wx fun e w' => e = .returned (.bool (decide (doLt p.r p.s x.r x.s))) ∧ Below wx.heap.size wx w') := fun wx => before_calls p.r p.s x.r x.s wx
  have hBc : Below WW.heap.size WW WW := Below.refl _ _
  obtain ⟨m0, m1, m2, m3, m4, m5⟩ := HCE.out _ hBc
  clear hWW hRW hcc hbel hkl hp1 hsx HAS HNO HPC
  have hwk : IntKind.i64.wrap ((k : Int) - 1) = (k : Int) - 1 := by rw [IntKind.wrap_i64] <;> omega
  have hnt : ((k : Int) - 1).toNat = k - 1 := by omega
  go_wp2
  rw [HWW.out]
  try simp only [List.append_eq, List.cons_append, List.nil_append]
  clear HWW q0 q1 q2 q3 q4 q5
  by_cases h1 : DOk x.r x.s
  case neg =>
   rw [decide_eq_false h1] at HD
   have HE := hidI (HF1.out (fun h => h1 h.1))
   clear HF1 HF2 HMO h1
   have HS : Hid (∀ wx, Below WW.heap.size WW wx → wx.cell? ⟨wr.heap.size, 0, none⟩ = some (.bool x.m) ∧ wx.cell? ⟨wr.heap.size, 1, none⟩ = some (.string x.o) ∧ wx.cell? ⟨wr.heap.size, 2, none⟩ = some (.string x.y) ∧ wx.cell? ⟨wr.heap.size, 3, none⟩ = some (.int .i64 x.v) ∧ wx.cell? ⟨wr.heap.size, 4, none⟩ = some (.int .i64 x.r) ∧ wx.cell? ⟨wr.heap.size, 5, none⟩ = some (.int .i64 x.s)) := fun wx h => HCE.out wx h
   have hBd := hBc.drew
   replace hBc := hBd
   clear hBd
   refine wp_region_held_drew (S := (fun w' => w'.cell? ⟨wr.heap.size, 0, none⟩ = some (.bool x.m) ∧ w'.cell? ⟨wr.heap.size, 1, none⟩ = some (.string x.o) ∧ w'.cell? ⟨wr.heap.size, 2, none⟩ = some (.string x.y) ∧ w'.cell? ⟨wr.heap.size, 3, none⟩ = some (.int .i64 x.v) ∧ w'.cell? ⟨wr.heap.size, 4, none⟩ = some (.int .i64 x.r) ∧ w'.cell? ⟨wr.heap.size, 5, none⟩ = some (.int .i64 x.s))) (by kernel_rfl) (HS.out _ hBc) (fun _ => ?_)
   refine wpAnyH_list (l' := #[false, false, false, false, false, false, false, false, false, false, false, false, false, false, false, false, false, false, false, false, false, false, false, false, false, false, false, false, false, false, false, false, false, false, false, false, false, false, false, false, false, false, false, false, false, false, false, false]) (by as_aux_lemma => kernel_rfl) ?_
   refine tk 0 lvo0 (HS.out _ hBc) ?_; simp only [sq]; refine tk 1 lvo1 (HS.out _ hBc) ?_; simp only [sq]
   refine rd 2 lvo2 (fun K hK => ?_)
   go_simp
   refine (HD.out _).mono ?_
   rintro e wn ⟨rfl, hbn⟩
   replace hBc := hBc.trans (hbn.mono hBc.size)
   clear hbn
   try go_wp2_with fail
   refine hK.out _ _ (HS.out _ hBc) (fun _ => ?_)
   clear hK K
   try simp only [s1, s2, s3]
   refine tk 3 lvo3 (HS.out _ hBc) ?_; simp only [sq]; refine tk 4 lvo4 (HS.out _ hBc) ?_; simp only [sq]; refine sk 5 lvo5 (HS.out _ hBc) ?_; simp only [sq]; refine sk 6 lvo6 (HS.out _ hBc) ?_; simp only [sq]; refine sc 7 lvo7 (HS.out _ hBc) ?_; simp only [sq]; refine sk 8 lvo8 (HS.out _ hBc) ?_; simp only [sq]; refine tk 9 lvo9 (HS.out _ hBc) ?_; simp only [sq]; refine tk 10 lvo10 (HS.out _ hBc) ?_; simp only [sq]; refine sk 11 lvo11 (HS.out _ hBc) ?_; simp only [sq]; refine sk 12 lvo12 (HS.out _ hBc) ?_; simp only [sq]; refine sc 13 lvo13 (HS.out _ hBc) ?_; simp only [sq]; refine sk 14 lvo14 (HS.out _ hBc) ?_; simp only [sq]; refine tk 15 lvo15 (HS.out _ hBc) ?_; simp only [sq]; refine tk 16 lvo16 (HS.out _ hBc) ?_; simp only [sq]; refine sk 17 lvo17 (HS.out _ hBc) ?_; simp only [sq]; refine sk 18 lvo18 (HS.out _ hBc) ?_; simp only [sq]; refine sc 19 lvo19 (HS.out _ hBc) ?_; simp only [sq]; refine sk 20 lvo20 (HS.out _ hBc) ?_; simp only [sq]; refine tk 21 lvo21 (HS.out _ hBc) ?_; simp only [sq]; refine tk 22 lvo22 (HS.out _ hBc) ?_; simp only [sq]; refine sk 23 lvo23 (HS.out _ hBc) ?_; simp only [sq]; refine sk 24 lvo24 (HS.out _ hBc) ?_; simp only [sq]; refine sk 25 lvo25 (HS.out _ hBc) ?_; simp only [sq]; refine sk 26 lvo26 (HS.out _ hBc) ?_; simp only [sq]; refine sk 27 lvo27 (HS.out _ hBc) ?_; simp only [sq]; refine sk 28 lvo28 (HS.out _ hBc) ?_; simp only [sq]; refine sk 29 lvo29 (HS.out _ hBc) ?_; simp only [sq]; refine sk 30 lvo30 (HS.out _ hBc) ?_; simp only [sq]; refine tk 31 lvo31 (HS.out _ hBc) ?_; simp only [sq]; refine tk 32 lvo32 (HS.out _ hBc) ?_; simp only [sq]; refine sk 33 lvo33 (HS.out _ hBc) ?_; simp only [sq]; refine sk 34 lvo34 (HS.out _ hBc) ?_; simp only [sq]; refine sk 35 lvo35 (HS.out _ hBc) ?_; simp only [sq]; refine sk 36 lvo36 (HS.out _ hBc) ?_; simp only [sq]; refine sk 37 lvo37 (HS.out _ hBc) ?_; simp only [sq]; refine sk 38 lvo38 (HS.out _ hBc) ?_; simp only [sq]; refine sk 39 lvo39 (HS.out _ hBc) ?_; simp only [sq]; refine sk 40 lvo40 (HS.out _ hBc) ?_; simp only [sq]; refine sk 41 lvo41 (HS.out _ hBc) ?_; simp only [sq]; refine sk 42 lvo42 (HS.out _ hBc) ?_; simp only [sq]; refine sk 43 lvo43 (HS.out _ hBc) ?_; simp only [sq]; refine sc 44 lvo44 (HS.out _ hBc) ?_; simp only [sq]; refine sk 45 lvo45 (HS.out _ hBc) ?_; simp only [sq]; refine sk 46 lvo46 (HS.out _ hBc) ?_; simp only [sq]; refine tk 47 lvo47 (HS.out _ hBc) ?_; simp only [sq]
   refine wpAnyH_done (by as_aux_lemma => kernel_rfl) ?_ _
   have HBF := hidI (HBA.out.trans (hBc.mono HBA.out.size))
   go_wp2
   go_ret
   exact ⟨Tells.no HE.out, HBF.out⟩
  rw [decide_eq_true h1] at HD
  by_cases h2 : NOk x.o
  case neg =>
   rw [decide_eq_false h2] at HN
   have HE := hidI (HF1.out (fun h => h2 h.2.1))
   clear HF1 HF2 HMO h1 h2
   have HS : Hid (∀ wx, Below WW.heap.size WW wx → wx.cell? ⟨wr.heap.size, 0, none⟩ = some (.bool x.m) ∧ wx.cell? ⟨wr.heap.size, 1, none⟩ = some (.string x.o) ∧ wx.cell? ⟨wr.heap.size, 2, none⟩ = some (.string x.y) ∧ wx.cell? ⟨wr.heap.size, 3, none⟩ = some (.int .i64 x.v) ∧ wx.cell? ⟨wr.heap.size, 4, none⟩ = some (.int .i64 x.r) ∧ wx.cell? ⟨wr.heap.size, 5, none⟩ = some (.int .i64 x.s)) := fun wx h => HCE.out wx h
   have hBd := hBc.drew
   replace hBc := hBd
   clear hBd
   refine wp_region_held_drew (S := (fun w' => w'.cell? ⟨wr.heap.size, 0, none⟩ = some (.bool x.m) ∧ w'.cell? ⟨wr.heap.size, 1, none⟩ = some (.string x.o) ∧ w'.cell? ⟨wr.heap.size, 2, none⟩ = some (.string x.y) ∧ w'.cell? ⟨wr.heap.size, 3, none⟩ = some (.int .i64 x.v) ∧ w'.cell? ⟨wr.heap.size, 4, none⟩ = some (.int .i64 x.r) ∧ w'.cell? ⟨wr.heap.size, 5, none⟩ = some (.int .i64 x.s))) (by kernel_rfl) (HS.out _ hBc) (fun _ => ?_)
   refine wpAnyH_list (l' := #[false, false, false, false, false, false, false, false, false, false, false, false, false, false, false, false, false, false, false, false, false, false, false, false, false, false, false, false, false, false, false, false, false, false, false, false, false, false, false, false, false, false, false, false, false, false, false, false]) (by as_aux_lemma => kernel_rfl) ?_
   refine tk 0 lvo0 (HS.out _ hBc) ?_; simp only [sq]; refine tk 1 lvo1 (HS.out _ hBc) ?_; simp only [sq]
   refine rd 2 lvo2 (fun K hK => ?_)
   go_simp
   refine (HD.out _).mono ?_
   rintro e wn ⟨rfl, hbn⟩
   replace hBc := hBc.trans (hbn.mono hBc.size)
   clear hbn
   try go_wp2_with fail
   refine hK.out _ _ (HS.out _ hBc) (fun _ => ?_)
   clear hK K
   try simp only [s1, s2, s3]
   refine tk 3 lvo3 (HS.out _ hBc) ?_; simp only [sq]; refine tk 4 lvo4 (HS.out _ hBc) ?_; simp only [sq]; refine tk 5 lvo5 (HS.out _ hBc) ?_; simp only [sq]; refine tk 6 lvo6 (HS.out _ hBc) ?_; simp only [sq]
   refine rd 7 lvo7 (fun K hK => ?_)
   go_simp
   refine (HN.out _).mono ?_
   rintro e wn ⟨rfl, hbn⟩
   replace hBc := hBc.trans (hbn.mono hBc.size)
   clear hbn
   try go_wp2_with fail
   refine hK.out _ _ (HS.out _ hBc) (fun _ => ?_)
   clear hK K
   try simp only [s1, s2, s3]
   refine tk 8 lvo8 (HS.out _ hBc) ?_; simp only [sq]; refine tk 9 lvo9 (HS.out _ hBc) ?_; simp only [sq]; refine tk 10 lvo10 (HS.out _ hBc) ?_; simp only [sq]; refine sk 11 lvo11 (HS.out _ hBc) ?_; simp only [sq]; refine sk 12 lvo12 (HS.out _ hBc) ?_; simp only [sq]; refine sc 13 lvo13 (HS.out _ hBc) ?_; simp only [sq]; refine sk 14 lvo14 (HS.out _ hBc) ?_; simp only [sq]; refine tk 15 lvo15 (HS.out _ hBc) ?_; simp only [sq]; refine tk 16 lvo16 (HS.out _ hBc) ?_; simp only [sq]; refine sk 17 lvo17 (HS.out _ hBc) ?_; simp only [sq]; refine sk 18 lvo18 (HS.out _ hBc) ?_; simp only [sq]; refine sc 19 lvo19 (HS.out _ hBc) ?_; simp only [sq]; refine sk 20 lvo20 (HS.out _ hBc) ?_; simp only [sq]; refine tk 21 lvo21 (HS.out _ hBc) ?_; simp only [sq]; refine tk 22 lvo22 (HS.out _ hBc) ?_; simp only [sq]; refine sk 23 lvo23 (HS.out _ hBc) ?_; simp only [sq]; refine sk 24 lvo24 (HS.out _ hBc) ?_; simp only [sq]; refine sk 25 lvo25 (HS.out _ hBc) ?_; simp only [sq]; refine sk 26 lvo26 (HS.out _ hBc) ?_; simp only [sq]; refine sk 27 lvo27 (HS.out _ hBc) ?_; simp only [sq]; refine sk 28 lvo28 (HS.out _ hBc) ?_; simp only [sq]; refine sk 29 lvo29 (HS.out _ hBc) ?_; simp only [sq]; refine sk 30 lvo30 (HS.out _ hBc) ?_; simp only [sq]; refine tk 31 lvo31 (HS.out _ hBc) ?_; simp only [sq]; refine tk 32 lvo32 (HS.out _ hBc) ?_; simp only [sq]; refine sk 33 lvo33 (HS.out _ hBc) ?_; simp only [sq]; refine sk 34 lvo34 (HS.out _ hBc) ?_; simp only [sq]; refine sk 35 lvo35 (HS.out _ hBc) ?_; simp only [sq]; refine sk 36 lvo36 (HS.out _ hBc) ?_; simp only [sq]; refine sk 37 lvo37 (HS.out _ hBc) ?_; simp only [sq]; refine sk 38 lvo38 (HS.out _ hBc) ?_; simp only [sq]; refine sk 39 lvo39 (HS.out _ hBc) ?_; simp only [sq]; refine sk 40 lvo40 (HS.out _ hBc) ?_; simp only [sq]; refine sk 41 lvo41 (HS.out _ hBc) ?_; simp only [sq]; refine sk 42 lvo42 (HS.out _ hBc) ?_; simp only [sq]; refine sk 43 lvo43 (HS.out _ hBc) ?_; simp only [sq]; refine sc 44 lvo44 (HS.out _ hBc) ?_; simp only [sq]; refine sk 45 lvo45 (HS.out _ hBc) ?_; simp only [sq]; refine sk 46 lvo46 (HS.out _ hBc) ?_; simp only [sq]; refine tk 47 lvo47 (HS.out _ hBc) ?_; simp only [sq]
   refine wpAnyH_done (by as_aux_lemma => kernel_rfl) ?_ _
   have HBF := hidI (HBA.out.trans (hBc.mono HBA.out.size))
   go_wp2
   go_ret
   exact ⟨Tells.no HE.out, HBF.out⟩
  rw [decide_eq_true h2] at HN
  by_cases h3 : NOk x.y
  case neg =>
   rw [decide_eq_false h3] at HY
   have HE := hidI (HF1.out (fun h => h3 h.2.2.1))
   clear HF1 HF2 HMO h1 h2 h3
   have HS : Hid (∀ wx, Below WW.heap.size WW wx → wx.cell? ⟨wr.heap.size, 0, none⟩ = some (.bool x.m) ∧ wx.cell? ⟨wr.heap.size, 1, none⟩ = some (.string x.o) ∧ wx.cell? ⟨wr.heap.size, 2, none⟩ = some (.string x.y) ∧ wx.cell? ⟨wr.heap.size, 3, none⟩ = some (.int .i64 x.v) ∧ wx.cell? ⟨wr.heap.size, 4, none⟩ = some (.int .i64 x.r) ∧ wx.cell? ⟨wr.heap.size, 5, none⟩ = some (.int .i64 x.s)) := fun wx h => HCE.out wx h
   have hBd := hBc.drew
   replace hBc := hBd
   clear hBd
   refine wp_region_held_drew (S := (fun w' => w'.cell? ⟨wr.heap.size, 0, none⟩ = some (.bool x.m) ∧ w'.cell? ⟨wr.heap.size, 1, none⟩ = some (.string x.o) ∧ w'.cell? ⟨wr.heap.size, 2, none⟩ = some (.string x.y) ∧ w'.cell? ⟨wr.heap.size, 3, none⟩ = some (.int .i64 x.v) ∧ w'.cell? ⟨wr.heap.size, 4, none⟩ = some (.int .i64 x.r) ∧ w'.cell? ⟨wr.heap.size, 5, none⟩ = some (.int .i64 x.s))) (by kernel_rfl) (HS.out _ hBc) (fun _ => ?_)
   refine wpAnyH_list (l' := #[false, false, false, false, false, false, false, false, false, false, false, false, false, false, false, false, false, false, false, false, false, false, false, false, false, false, false, false, false, false, false, false, false, false, false, false, false, false, false, false, false, false, false, false, false, false, false, false]) (by as_aux_lemma => kernel_rfl) ?_
   refine tk 0 lvo0 (HS.out _ hBc) ?_; simp only [sq]; refine tk 1 lvo1 (HS.out _ hBc) ?_; simp only [sq]
   refine rd 2 lvo2 (fun K hK => ?_)
   go_simp
   refine (HD.out _).mono ?_
   rintro e wn ⟨rfl, hbn⟩
   replace hBc := hBc.trans (hbn.mono hBc.size)
   clear hbn
   try go_wp2_with fail
   refine hK.out _ _ (HS.out _ hBc) (fun _ => ?_)
   clear hK K
   try simp only [s1, s2, s3]
   refine tk 3 lvo3 (HS.out _ hBc) ?_; simp only [sq]; refine tk 4 lvo4 (HS.out _ hBc) ?_; simp only [sq]; refine tk 5 lvo5 (HS.out _ hBc) ?_; simp only [sq]; refine tk 6 lvo6 (HS.out _ hBc) ?_; simp only [sq]
   refine rd 7 lvo7 (fun K hK => ?_)
   go_simp
   refine (HN.out _).mono ?_
   rintro e wn ⟨rfl, hbn⟩
   replace hBc := hBc.trans (hbn.mono hBc.size)
   clear hbn
   try go_wp2_with fail
   refine hK.out _ _ (HS.out _ hBc) (fun _ => ?_)
   clear hK K
   try simp only [s1, s2, s3]
   refine tk 8 lvo8 (HS.out _ hBc) ?_; simp only [sq]; refine tk 9 lvo9 (HS.out _ hBc) ?_; simp only [sq]; refine tk 10 lvo10 (HS.out _ hBc) ?_; simp only [sq]; refine tk 11 lvo11 (HS.out _ hBc) ?_; simp only [sq]; refine tk 12 lvo12 (HS.out _ hBc) ?_; simp only [sq]
   refine rd 13 lvo13 (fun K hK => ?_)
   go_simp
   refine (HY.out _).mono ?_
   rintro e wn ⟨rfl, hbn⟩
   replace hBc := hBc.trans (hbn.mono hBc.size)
   clear hbn
   try go_wp2_with fail
   refine hK.out _ _ (HS.out _ hBc) (fun _ => ?_)
   clear hK K
   try simp only [s1, s2, s3]
   refine tk 14 lvo14 (HS.out _ hBc) ?_; simp only [sq]; refine tk 15 lvo15 (HS.out _ hBc) ?_; simp only [sq]; refine tk 16 lvo16 (HS.out _ hBc) ?_; simp only [sq]; refine sk 17 lvo17 (HS.out _ hBc) ?_; simp only [sq]; refine sk 18 lvo18 (HS.out _ hBc) ?_; simp only [sq]; refine sc 19 lvo19 (HS.out _ hBc) ?_; simp only [sq]; refine sk 20 lvo20 (HS.out _ hBc) ?_; simp only [sq]; refine tk 21 lvo21 (HS.out _ hBc) ?_; simp only [sq]; refine tk 22 lvo22 (HS.out _ hBc) ?_; simp only [sq]; refine sk 23 lvo23 (HS.out _ hBc) ?_; simp only [sq]; refine sk 24 lvo24 (HS.out _ hBc) ?_; simp only [sq]; refine sk 25 lvo25 (HS.out _ hBc) ?_; simp only [sq]; refine sk 26 lvo26 (HS.out _ hBc) ?_; simp only [sq]; refine sk 27 lvo27 (HS.out _ hBc) ?_; simp only [sq]; refine sk 28 lvo28 (HS.out _ hBc) ?_; simp only [sq]; refine sk 29 lvo29 (HS.out _ hBc) ?_; simp only [sq]; refine sk 30 lvo30 (HS.out _ hBc) ?_; simp only [sq]; refine tk 31 lvo31 (HS.out _ hBc) ?_; simp only [sq]; refine tk 32 lvo32 (HS.out _ hBc) ?_; simp only [sq]; refine sk 33 lvo33 (HS.out _ hBc) ?_; simp only [sq]; refine sk 34 lvo34 (HS.out _ hBc) ?_; simp only [sq]; refine sk 35 lvo35 (HS.out _ hBc) ?_; simp only [sq]; refine sk 36 lvo36 (HS.out _ hBc) ?_; simp only [sq]; refine sk 37 lvo37 (HS.out _ hBc) ?_; simp only [sq]; refine sk 38 lvo38 (HS.out _ hBc) ?_; simp only [sq]; refine sk 39 lvo39 (HS.out _ hBc) ?_; simp only [sq]; refine sk 40 lvo40 (HS.out _ hBc) ?_; simp only [sq]; refine sk 41 lvo41 (HS.out _ hBc) ?_; simp only [sq]; refine sk 42 lvo42 (HS.out _ hBc) ?_; simp only [sq]; refine sk 43 lvo43 (HS.out _ hBc) ?_; simp only [sq]; refine sc 44 lvo44 (HS.out _ hBc) ?_; simp only [sq]; refine sk 45 lvo45 (HS.out _ hBc) ?_; simp only [sq]; refine sk 46 lvo46 (HS.out _ hBc) ?_; simp only [sq]; refine tk 47 lvo47 (HS.out _ hBc) ?_; simp only [sq]
   refine wpAnyH_done (by as_aux_lemma => kernel_rfl) ?_ _
   have HBF := hidI (HBA.out.trans (hBc.mono HBA.out.size))
   go_wp2
   go_ret
   exact ⟨Tells.no HE.out, HBF.out⟩
  rw [decide_eq_true h3] at HY
  by_cases h4 : 0 ≤ x.v ∧ x.v ≤ 999999
  case neg =>
   have hbb : (decide (0 ≤ x.v) && decide (x.v ≤ 999999)) = false := by
    by_cases ha : 0 ≤ x.v <;> by_cases hb : x.v ≤ 999999 <;> simp [ha, hb] <;> exact h4 ⟨ha, hb⟩
   rw [hbb] at HV
   clear hbb
   have HE := hidI (HF1.out (fun h => h4 h.2.2.2.1))
   clear HF1 HF2 HMO h1 h2 h3 h4
   have HS : Hid (∀ wx, Below WW.heap.size WW wx → wx.cell? ⟨wr.heap.size, 0, none⟩ = some (.bool x.m) ∧ wx.cell? ⟨wr.heap.size, 1, none⟩ = some (.string x.o) ∧ wx.cell? ⟨wr.heap.size, 2, none⟩ = some (.string x.y) ∧ wx.cell? ⟨wr.heap.size, 3, none⟩ = some (.int .i64 x.v) ∧ wx.cell? ⟨wr.heap.size, 4, none⟩ = some (.int .i64 x.r) ∧ wx.cell? ⟨wr.heap.size, 5, none⟩ = some (.int .i64 x.s)) := fun wx h => HCE.out wx h
   have hBd := hBc.drew
   replace hBc := hBd
   clear hBd
   refine wp_region_held_drew (S := (fun w' => w'.cell? ⟨wr.heap.size, 0, none⟩ = some (.bool x.m) ∧ w'.cell? ⟨wr.heap.size, 1, none⟩ = some (.string x.o) ∧ w'.cell? ⟨wr.heap.size, 2, none⟩ = some (.string x.y) ∧ w'.cell? ⟨wr.heap.size, 3, none⟩ = some (.int .i64 x.v) ∧ w'.cell? ⟨wr.heap.size, 4, none⟩ = some (.int .i64 x.r) ∧ w'.cell? ⟨wr.heap.size, 5, none⟩ = some (.int .i64 x.s))) (by kernel_rfl) (HS.out _ hBc) (fun _ => ?_)
   refine wpAnyH_list (l' := #[false, false, false, false, false, false, false, false, false, false, false, false, false, false, false, false, false, false, false, false, false, false, false, false, false, false, false, false, false, false, false, false, false, false, false, false, false, false, false, false, false, false, false, false, false, false, false, false]) (by as_aux_lemma => kernel_rfl) ?_
   refine tk 0 lvo0 (HS.out _ hBc) ?_; simp only [sq]; refine tk 1 lvo1 (HS.out _ hBc) ?_; simp only [sq]
   refine rd 2 lvo2 (fun K hK => ?_)
   go_simp
   refine (HD.out _).mono ?_
   rintro e wn ⟨rfl, hbn⟩
   replace hBc := hBc.trans (hbn.mono hBc.size)
   clear hbn
   try go_wp2_with fail
   refine hK.out _ _ (HS.out _ hBc) (fun _ => ?_)
   clear hK K
   try simp only [s1, s2, s3]
   refine tk 3 lvo3 (HS.out _ hBc) ?_; simp only [sq]; refine tk 4 lvo4 (HS.out _ hBc) ?_; simp only [sq]; refine tk 5 lvo5 (HS.out _ hBc) ?_; simp only [sq]; refine tk 6 lvo6 (HS.out _ hBc) ?_; simp only [sq]
   refine rd 7 lvo7 (fun K hK => ?_)
   go_simp
   refine (HN.out _).mono ?_
   rintro e wn ⟨rfl, hbn⟩
   replace hBc := hBc.trans (hbn.mono hBc.size)
   clear hbn
   try go_wp2_with fail
   refine hK.out _ _ (HS.out _ hBc) (fun _ => ?_)
   clear hK K
   try simp only [s1, s2, s3]
   refine tk 8 lvo8 (HS.out _ hBc) ?_; simp only [sq]; refine tk 9 lvo9 (HS.out _ hBc) ?_; simp only [sq]; refine tk 10 lvo10 (HS.out _ hBc) ?_; simp only [sq]; refine tk 11 lvo11 (HS.out _ hBc) ?_; simp only [sq]; refine tk 12 lvo12 (HS.out _ hBc) ?_; simp only [sq]
   refine rd 13 lvo13 (fun K hK => ?_)
   go_simp
   refine (HY.out _).mono ?_
   rintro e wn ⟨rfl, hbn⟩
   replace hBc := hBc.trans (hbn.mono hBc.size)
   clear hbn
   try go_wp2_with fail
   refine hK.out _ _ (HS.out _ hBc) (fun _ => ?_)
   clear hK K
   try simp only [s1, s2, s3]
   refine tk 14 lvo14 (HS.out _ hBc) ?_; simp only [sq]; refine tk 15 lvo15 (HS.out _ hBc) ?_; simp only [sq]; refine tk 16 lvo16 (HS.out _ hBc) ?_; simp only [sq]; refine tk 17 lvo17 (HS.out _ hBc) ?_; simp only [sq]; refine tk 18 lvo18 (HS.out _ hBc) ?_; simp only [sq]
   refine rd 19 lvo19 (fun K hK => ?_)
   go_simp
   refine (HV.out _).mono ?_
   rintro e wn ⟨rfl, hbn⟩
   replace hBc := hBc.trans (hbn.mono hBc.size)
   clear hbn
   try go_wp2_with fail
   refine hK.out _ _ (HS.out _ hBc) (fun _ => ?_)
   clear hK K
   try simp only [s1, s2, s3]
   refine tk 20 lvo20 (HS.out _ hBc) ?_; simp only [sq]; refine tk 21 lvo21 (HS.out _ hBc) ?_; simp only [sq]; refine tk 22 lvo22 (HS.out _ hBc) ?_; simp only [sq]; refine sk 23 lvo23 (HS.out _ hBc) ?_; simp only [sq]; refine sk 24 lvo24 (HS.out _ hBc) ?_; simp only [sq]; refine sk 25 lvo25 (HS.out _ hBc) ?_; simp only [sq]; refine sk 26 lvo26 (HS.out _ hBc) ?_; simp only [sq]; refine sk 27 lvo27 (HS.out _ hBc) ?_; simp only [sq]; refine sk 28 lvo28 (HS.out _ hBc) ?_; simp only [sq]; refine sk 29 lvo29 (HS.out _ hBc) ?_; simp only [sq]; refine sk 30 lvo30 (HS.out _ hBc) ?_; simp only [sq]; refine tk 31 lvo31 (HS.out _ hBc) ?_; simp only [sq]; refine tk 32 lvo32 (HS.out _ hBc) ?_; simp only [sq]; refine sk 33 lvo33 (HS.out _ hBc) ?_; simp only [sq]; refine sk 34 lvo34 (HS.out _ hBc) ?_; simp only [sq]; refine sk 35 lvo35 (HS.out _ hBc) ?_; simp only [sq]; refine sk 36 lvo36 (HS.out _ hBc) ?_; simp only [sq]; refine sk 37 lvo37 (HS.out _ hBc) ?_; simp only [sq]; refine sk 38 lvo38 (HS.out _ hBc) ?_; simp only [sq]; refine sk 39 lvo39 (HS.out _ hBc) ?_; simp only [sq]; refine sk 40 lvo40 (HS.out _ hBc) ?_; simp only [sq]; refine sk 41 lvo41 (HS.out _ hBc) ?_; simp only [sq]; refine sk 42 lvo42 (HS.out _ hBc) ?_; simp only [sq]; refine sk 43 lvo43 (HS.out _ hBc) ?_; simp only [sq]; refine sc 44 lvo44 (HS.out _ hBc) ?_; simp only [sq]; refine sk 45 lvo45 (HS.out _ hBc) ?_; simp only [sq]; refine sk 46 lvo46 (HS.out _ hBc) ?_; simp only [sq]; refine tk 47 lvo47 (HS.out _ hBc) ?_; simp only [sq]
   refine wpAnyH_done (by as_aux_lemma => kernel_rfl) ?_ _
   have HBF := hidI (HBA.out.trans (hBc.mono HBA.out.size))
   go_wp2
   go_ret
   exact ⟨Tells.no HE.out, HBF.out⟩
  have hbh4 : (decide (0 ≤ x.v) && decide (x.v ≤ 999999)) = true := by simp [h4]
  rw [hbh4] at HV
  clear hbh4
  by_cases h5 : x.m = false ∧ ¬ x.v = 0
  case pos =>
   have HE := hidI (HF1.out (fun h => h5.2 (h.2.2.2.2 h5.1)))
   have em := h5.1
   have bv : (x.v != 0) = true := by simp [h5.2]
   rw [em] at HCE m0
   clear HF1 HF2 HMO h1 h2 h3 h4 h5
   have HS : Hid (∀ wx, Below WW.heap.size WW wx → wx.cell? ⟨wr.heap.size, 0, none⟩ = some (.bool false) ∧ wx.cell? ⟨wr.heap.size, 1, none⟩ = some (.string x.o) ∧ wx.cell? ⟨wr.heap.size, 2, none⟩ = some (.string x.y) ∧ wx.cell? ⟨wr.heap.size, 3, none⟩ = some (.int .i64 x.v) ∧ wx.cell? ⟨wr.heap.size, 4, none⟩ = some (.int .i64 x.r) ∧ wx.cell? ⟨wr.heap.size, 5, none⟩ = some (.int .i64 x.s)) := fun wx h => HCE.out wx h
   have hBd := hBc.drew
   replace hBc := hBd
   clear hBd
   refine wp_region_held_drew (S := (fun w' => w'.cell? ⟨wr.heap.size, 0, none⟩ = some (.bool false) ∧ w'.cell? ⟨wr.heap.size, 1, none⟩ = some (.string x.o) ∧ w'.cell? ⟨wr.heap.size, 2, none⟩ = some (.string x.y) ∧ w'.cell? ⟨wr.heap.size, 3, none⟩ = some (.int .i64 x.v) ∧ w'.cell? ⟨wr.heap.size, 4, none⟩ = some (.int .i64 x.r) ∧ w'.cell? ⟨wr.heap.size, 5, none⟩ = some (.int .i64 x.s))) (by kernel_rfl) (HS.out _ hBc) (fun _ => ?_)
   refine wpAnyH_list (l' := #[false, false, false, false, false, false, false, false, false, false, false, false, false, false, false, false, false, false, false, false, false, false, false, false, false, false, false, false, false, false, false, false, false, false, false, false, false, false, false, false, false, false, false, false, false, false, false, false]) (by as_aux_lemma => kernel_rfl) ?_
   refine tk 0 lvo0 (HS.out _ hBc) ?_; simp only [sq]; refine tk 1 lvo1 (HS.out _ hBc) ?_; simp only [sq]
   refine rd 2 lvo2 (fun K hK => ?_)
   go_simp
   refine (HD.out _).mono ?_
   rintro e wn ⟨rfl, hbn⟩
   replace hBc := hBc.trans (hbn.mono hBc.size)
   clear hbn
   try go_wp2_with fail
   refine hK.out _ _ (HS.out _ hBc) (fun _ => ?_)
   clear hK K
   try simp only [s1, s2, s3]
   refine tk 3 lvo3 (HS.out _ hBc) ?_; simp only [sq]; refine tk 4 lvo4 (HS.out _ hBc) ?_; simp only [sq]; refine tk 5 lvo5 (HS.out _ hBc) ?_; simp only [sq]; refine tk 6 lvo6 (HS.out _ hBc) ?_; simp only [sq]
   refine rd 7 lvo7 (fun K hK => ?_)
   go_simp
   refine (HN.out _).mono ?_
   rintro e wn ⟨rfl, hbn⟩
   replace hBc := hBc.trans (hbn.mono hBc.size)
   clear hbn
   try go_wp2_with fail
   refine hK.out _ _ (HS.out _ hBc) (fun _ => ?_)
   clear hK K
   try simp only [s1, s2, s3]
   refine tk 8 lvo8 (HS.out _ hBc) ?_; simp only [sq]; refine tk 9 lvo9 (HS.out _ hBc) ?_; simp only [sq]; refine tk 10 lvo10 (HS.out _ hBc) ?_; simp only [sq]; refine tk 11 lvo11 (HS.out _ hBc) ?_; simp only [sq]; refine tk 12 lvo12 (HS.out _ hBc) ?_; simp only [sq]
   refine rd 13 lvo13 (fun K hK => ?_)
   go_simp
   refine (HY.out _).mono ?_
   rintro e wn ⟨rfl, hbn⟩
   replace hBc := hBc.trans (hbn.mono hBc.size)
   clear hbn
   try go_wp2_with fail
   refine hK.out _ _ (HS.out _ hBc) (fun _ => ?_)
   clear hK K
   try simp only [s1, s2, s3]
   refine tk 14 lvo14 (HS.out _ hBc) ?_; simp only [sq]; refine tk 15 lvo15 (HS.out _ hBc) ?_; simp only [sq]; refine tk 16 lvo16 (HS.out _ hBc) ?_; simp only [sq]; refine tk 17 lvo17 (HS.out _ hBc) ?_; simp only [sq]; refine tk 18 lvo18 (HS.out _ hBc) ?_; simp only [sq]
   refine rd 19 lvo19 (fun K hK => ?_)
   go_simp
   refine (HV.out _).mono ?_
   rintro e wn ⟨rfl, hbn⟩
   replace hBc := hBc.trans (hbn.mono hBc.size)
   clear hbn
   try go_wp2_with fail
   refine hK.out _ _ (HS.out _ hBc) (fun _ => ?_)
   clear hK K
   try simp only [s1, s2, s3]
   refine tk 20 lvo20 (HS.out _ hBc) ?_; simp only [sq]; refine tk 21 lvo21 (HS.out _ hBc) ?_; simp only [sq]; refine tk 22 lvo22 (HS.out _ hBc) ?_; simp only [sq]; refine tk 23 lvo23 (HS.out _ hBc) ?_; simp only [sq]; refine tk 24 lvo24 (HS.out _ hBc) ?_; simp only [sq]; refine tk 25 lvo25 (HS.out _ hBc) ?_; simp only [sq]; refine tk 26 lvo26 (HS.out _ hBc) ?_; simp only [sq]; refine tk 27 lvo27 (HS.out _ hBc) ?_; simp only [sq]; refine tk 28 lvo28 (HS.out _ hBc) ?_; simp only [sq]; refine tk 29 lvo29 (HS.out _ hBc) ?_; simp only [sq]; refine tk 30 lvo30 (HS.out _ hBc) ?_; simp only [sq]; refine tk 31 lvo31 (HS.out _ hBc) ?_; simp only [sq]; refine tk 32 lvo32 (HS.out _ hBc) ?_; simp only [sq]; refine sk 33 lvo33 (HS.out _ hBc) ?_; simp only [sq]; refine sk 34 lvo34 (HS.out _ hBc) ?_; simp only [sq]; refine sk 35 lvo35 (HS.out _ hBc) ?_; simp only [sq]; refine sk 36 lvo36 (HS.out _ hBc) ?_; simp only [sq]; refine sk 37 lvo37 (HS.out _ hBc) ?_; simp only [sq]; refine sk 38 lvo38 (HS.out _ hBc) ?_; simp only [sq]; refine sk 39 lvo39 (HS.out _ hBc) ?_; simp only [sq]; refine sk 40 lvo40 (HS.out _ hBc) ?_; simp only [sq]; refine sk 41 lvo41 (HS.out _ hBc) ?_; simp only [sq]; refine sk 42 lvo42 (HS.out _ hBc) ?_; simp only [sq]; refine sk 43 lvo43 (HS.out _ hBc) ?_; simp only [sq]; refine sc 44 lvo44 (HS.out _ hBc) ?_; simp only [sq]; refine sk 45 lvo45 (HS.out _ hBc) ?_; simp only [sq]; refine sk 46 lvo46 (HS.out _ hBc) ?_; simp only [sq]; refine tk 47 lvo47 (HS.out _ hBc) ?_; simp only [sq]
   refine wpAnyH_done (by as_aux_lemma => kernel_rfl) ?_ _
   have HBF := hidI (HBA.out.trans (hBc.mono HBA.out.size))
   go_wp2
   go_ret
   exact ⟨Tells.no HE.out, HBF.out⟩
  have HOX : Hid (liOk x) := ⟨h1, h2, h3, h4, fun e => by by_cases hz : x.v = 0; exact hz; exact absurd ⟨e, hz⟩ h5⟩
  clear h1 h2 h3 h4 h5 HF1
  cases em : x.m with
  | true =>
   rw [em] at HCE m0
   by_cases hkz : k = 0
   case pos =>
    have HE := hidI (HMO.out HOX.out (fun h0 => by omega))
    clear HF2 HMO
    subst hkz
    have HS : Hid (∀ wx, Below WW.heap.size WW wx → wx.cell? ⟨wr.heap.size, 0, none⟩ = some (.bool true) ∧ wx.cell? ⟨wr.heap.size, 1, none⟩ = some (.string x.o) ∧ wx.cell? ⟨wr.heap.size, 2, none⟩ = some (.string x.y) ∧ wx.cell? ⟨wr.heap.size, 3, none⟩ = some (.int .i64 x.v) ∧ wx.cell? ⟨wr.heap.size, 4, none⟩ = some (.int .i64 x.r) ∧ wx.cell? ⟨wr.heap.size, 5, none⟩ = some (.int .i64 x.s)) := fun wx h => HCE.out wx h
    have hBd := hBc.drew
    replace hBc := hBd
    clear hBd
    refine wp_region_held_drew (S := (fun w' => w'.cell? ⟨wr.heap.size, 0, none⟩ = some (.bool true) ∧ w'.cell? ⟨wr.heap.size, 1, none⟩ = some (.string x.o) ∧ w'.cell? ⟨wr.heap.size, 2, none⟩ = some (.string x.y) ∧ w'.cell? ⟨wr.heap.size, 3, none⟩ = some (.int .i64 x.v) ∧ w'.cell? ⟨wr.heap.size, 4, none⟩ = some (.int .i64 x.r) ∧ w'.cell? ⟨wr.heap.size, 5, none⟩ = some (.int .i64 x.s))) (by kernel_rfl) (HS.out _ hBc) (fun _ => ?_)
    refine wpAnyH_list (l' := #[false, false, false, false, false, false, false, false, false, false, false, false, false, false, false, false, false, false, false, false, false, false, false, false, false, false, false, false, false, false, false, false, false, false, false, false, false, false, false, false, false, false, false, false, false, false, false, false]) (by as_aux_lemma => kernel_rfl) ?_
    refine tk 0 lvo0 (HS.out _ hBc) ?_; simp only [sq]; refine tk 1 lvo1 (HS.out _ hBc) ?_; simp only [sq]
    refine rd 2 lvo2 (fun K hK => ?_)
    go_simp
    refine (HD.out _).mono ?_
    rintro e wn ⟨rfl, hbn⟩
    replace hBc := hBc.trans (hbn.mono hBc.size)
    clear hbn
    try go_wp2_with fail
    refine hK.out _ _ (HS.out _ hBc) (fun _ => ?_)
    clear hK K
    try simp only [s1, s2, s3]
    refine tk 3 lvo3 (HS.out _ hBc) ?_; simp only [sq]; refine tk 4 lvo4 (HS.out _ hBc) ?_; simp only [sq]; refine tk 5 lvo5 (HS.out _ hBc) ?_; simp only [sq]; refine tk 6 lvo6 (HS.out _ hBc) ?_; simp only [sq]
    refine rd 7 lvo7 (fun K hK => ?_)
    go_simp
    refine (HN.out _).mono ?_
    rintro e wn ⟨rfl, hbn⟩
    replace hBc := hBc.trans (hbn.mono hBc.size)
    clear hbn
    try go_wp2_with fail
    refine hK.out _ _ (HS.out _ hBc) (fun _ => ?_)
    clear hK K
    try simp only [s1, s2, s3]
    refine tk 8 lvo8 (HS.out _ hBc) ?_; simp only [sq]; refine tk 9 lvo9 (HS.out _ hBc) ?_; simp only [sq]; refine tk 10 lvo10 (HS.out _ hBc) ?_; simp only [sq]; refine tk 11 lvo11 (HS.out _ hBc) ?_; simp only [sq]; refine tk 12 lvo12 (HS.out _ hBc) ?_; simp only [sq]
    refine rd 13 lvo13 (fun K hK => ?_)
    go_simp
    refine (HY.out _).mono ?_
    rintro e wn ⟨rfl, hbn⟩
    replace hBc := hBc.trans (hbn.mono hBc.size)
    clear hbn
    try go_wp2_with fail
    refine hK.out _ _ (HS.out _ hBc) (fun _ => ?_)
    clear hK K
    try simp only [s1, s2, s3]
    refine tk 14 lvo14 (HS.out _ hBc) ?_; simp only [sq]; refine tk 15 lvo15 (HS.out _ hBc) ?_; simp only [sq]; refine tk 16 lvo16 (HS.out _ hBc) ?_; simp only [sq]; refine tk 17 lvo17 (HS.out _ hBc) ?_; simp only [sq]; refine tk 18 lvo18 (HS.out _ hBc) ?_; simp only [sq]
    refine rd 19 lvo19 (fun K hK => ?_)
    go_simp
    refine (HV.out _).mono ?_
    rintro e wn ⟨rfl, hbn⟩
    replace hBc := hBc.trans (hbn.mono hBc.size)
    clear hbn
    try go_wp2_with fail
    refine hK.out _ _ (HS.out _ hBc) (fun _ => ?_)
    clear hK K
    try simp only [s1, s2, s3]
    refine tk 20 lvo20 (HS.out _ hBc) ?_; simp only [sq]; refine tk 21 lvo21 (HS.out _ hBc) ?_; simp only [sq]; refine tk 22 lvo22 (HS.out _ hBc) ?_; simp only [sq]; refine tk 23 lvo23 (HS.out _ hBc) ?_; simp only [sq]; refine tk 24 lvo24 (HS.out _ hBc) ?_; simp only [sq]; refine tk 25 lvo25 (HS.out _ hBc) ?_; simp only [sq]; refine tk 26 lvo26 (HS.out _ hBc) ?_; simp only [sq]; refine sk 27 lvo27 (HS.out _ hBc) ?_; simp only [sq]; refine sk 28 lvo28 (HS.out _ hBc) ?_; simp only [sq]; refine sk 29 lvo29 (HS.out _ hBc) ?_; simp only [sq]; refine tk 30 lvo30 (HS.out _ hBc) ?_; simp only [sq]; refine tk 31 lvo31 (HS.out _ hBc) ?_; simp only [sq]; refine tk 32 lvo32 (HS.out _ hBc) ?_; simp only [sq]; refine tk 33 lvo33 (HS.out _ hBc) ?_; simp only [sq]; refine tk 34 lvo34 (HS.out _ hBc) ?_; simp only [sq]; refine tk 35 lvo35 (HS.out _ hBc) ?_; simp only [sq]; refine sk 36 lvo36 (HS.out _ hBc) ?_; simp only [sq]; refine sk 37 lvo37 (HS.out _ hBc) ?_; simp only [sq]; refine sk 38 lvo38 (HS.out _ hBc) ?_; simp only [sq]; refine sk 39 lvo39 (HS.out _ hBc) ?_; simp only [sq]; refine sk 40 lvo40 (HS.out _ hBc) ?_; simp only [sq]; refine sk 41 lvo41 (HS.out _ hBc) ?_; simp only [sq]; refine sk 42 lvo42 (HS.out _ hBc) ?_; simp only [sq]; refine sk 43 lvo43 (HS.out _ hBc) ?_; simp only [sq]; refine sc 44 lvo44 (HS.out _ hBc) ?_; simp only [sq]; refine sk 45 lvo45 (HS.out _ hBc) ?_; simp only [sq]; refine tk 46 lvo46 (HS.out _ hBc) ?_; simp only [sq]; refine tk 47 lvo47 (HS.out _ hBc) ?_; simp only [sq]
    refine wpAnyH_done (by as_aux_lemma => kernel_rfl) ?_ _
    have HBF := hidI (HBA.out.trans (hBc.mono HBA.out.size))
    go_wp2
    go_roundw
    case rel => exact ⟨0 + 1, by omega, by go_num, HE.out, HBF.out⟩
    case measure => simp [intOf]; omega
   have hkp : (0 : Int) < k := by omega
   have hkpn : 0 < k := by omega
   have hkp1 : (1 : Int) ≤ (k : Int) := by omega
   have hq1 : (0 : Int) ≤ (k : Int) - 1 := by omega
   have hq2 : (k : Int) - 1 < n := by omega
   by_cases hbf : doLt p.r p.s x.r x.s
   case pos =>
    rw [decide_eq_true hbf] at HB4
    have HE := hidI (HMO.out HOX.out (fun _ => hbf))
    clear HF2 HMO hbf
    have HS : Hid (∀ wx, Below WW.heap.size WW wx → wx.cell? ⟨wr.heap.size, 0, none⟩ = some (.bool true) ∧ wx.cell? ⟨wr.heap.size, 1, none⟩ = some (.string x.o) ∧ wx.cell? ⟨wr.heap.size, 2, none⟩ = some (.string x.y) ∧ wx.cell? ⟨wr.heap.size, 3, none⟩ = some (.int .i64 x.v) ∧ wx.cell? ⟨wr.heap.size, 4, none⟩ = some (.int .i64 x.r) ∧ wx.cell? ⟨wr.heap.size, 5, none⟩ = some (.int .i64 x.s) ∧ wx.cell? ⟨g, f + (k - 1) * 6 + 4, none⟩ = some (.int .i64 p.r) ∧ wx.cell? ⟨g, f + (k - 1) * 6 + 5, none⟩ = some (.int .i64 p.s)) := fun wx h => by obtain ⟨a0, a1, a2, a3, a4, a5⟩ := HCE.out wx h; obtain ⟨b0, b1⟩ := HPP.out wx h; exact ⟨a0, a1, a2, a3, a4, a5, b0, b1⟩
    have hBd := hBc.drew
    replace hBc := hBd
    clear hBd
    refine wp_region_held_drew (S := (fun w' => w'.cell? ⟨wr.heap.size, 0, none⟩ = some (.bool true) ∧ w'.cell? ⟨wr.heap.size, 1, none⟩ = some (.string x.o) ∧ w'.cell? ⟨wr.heap.size, 2, none⟩ = some (.string x.y) ∧ w'.cell? ⟨wr.heap.size, 3, none⟩ = some (.int .i64 x.v) ∧ w'.cell? ⟨wr.heap.size, 4, none⟩ = some (.int .i64 x.r) ∧ w'.cell? ⟨wr.heap.size, 5, none⟩ = some (.int .i64 x.s) ∧ w'.cell? ⟨g, f + (k - 1) * 6 + 4, none⟩ = some (.int .i64 p.r) ∧ w'.cell? ⟨g, f + (k - 1) * 6 + 5, none⟩ = some (.int .i64 p.s))) (by kernel_rfl) (HS.out _ hBc) (fun _ => ?_)
    refine wpAnyH_list (l' := #[false, false, false, false, false, false, false, false, false, false, false, false, false, false, false, false, false, false, false, false, false, false, false, false, false, false, false, false, false, false, false, false, false, false, false, false, false, false, false, false, false, false, false, false, false, false, false, false]) (by as_aux_lemma => kernel_rfl) ?_
    refine tk 0 lvo0 (HS.out _ hBc) ?_; simp only [sq]; refine tk 1 lvo1 (HS.out _ hBc) ?_; simp only [sq]
    refine rd 2 lvo2 (fun K hK => ?_)
    go_simp
    refine (HD.out _).mono ?_
    rintro e wn ⟨rfl, hbn⟩
    replace hBc := hBc.trans (hbn.mono hBc.size)
    clear hbn
    try go_wp2_with fail
    refine hK.out _ _ (HS.out _ hBc) (fun _ => ?_)
    clear hK K
    try simp only [s1, s2, s3]
    refine tk 3 lvo3 (HS.out _ hBc) ?_; simp only [sq]; refine tk 4 lvo4 (HS.out _ hBc) ?_; simp only [sq]; refine tk 5 lvo5 (HS.out _ hBc) ?_; simp only [sq]; refine tk 6 lvo6 (HS.out _ hBc) ?_; simp only [sq]
    refine rd 7 lvo7 (fun K hK => ?_)
    go_simp
    refine (HN.out _).mono ?_
    rintro e wn ⟨rfl, hbn⟩
    replace hBc := hBc.trans (hbn.mono hBc.size)
    clear hbn
    try go_wp2_with fail
    refine hK.out _ _ (HS.out _ hBc) (fun _ => ?_)
    clear hK K
    try simp only [s1, s2, s3]
    refine tk 8 lvo8 (HS.out _ hBc) ?_; simp only [sq]; refine tk 9 lvo9 (HS.out _ hBc) ?_; simp only [sq]; refine tk 10 lvo10 (HS.out _ hBc) ?_; simp only [sq]; refine tk 11 lvo11 (HS.out _ hBc) ?_; simp only [sq]; refine tk 12 lvo12 (HS.out _ hBc) ?_; simp only [sq]
    refine rd 13 lvo13 (fun K hK => ?_)
    go_simp
    refine (HY.out _).mono ?_
    rintro e wn ⟨rfl, hbn⟩
    replace hBc := hBc.trans (hbn.mono hBc.size)
    clear hbn
    try go_wp2_with fail
    refine hK.out _ _ (HS.out _ hBc) (fun _ => ?_)
    clear hK K
    try simp only [s1, s2, s3]
    refine tk 14 lvo14 (HS.out _ hBc) ?_; simp only [sq]; refine tk 15 lvo15 (HS.out _ hBc) ?_; simp only [sq]; refine tk 16 lvo16 (HS.out _ hBc) ?_; simp only [sq]; refine tk 17 lvo17 (HS.out _ hBc) ?_; simp only [sq]; refine tk 18 lvo18 (HS.out _ hBc) ?_; simp only [sq]
    refine rd 19 lvo19 (fun K hK => ?_)
    go_simp
    refine (HV.out _).mono ?_
    rintro e wn ⟨rfl, hbn⟩
    replace hBc := hBc.trans (hbn.mono hBc.size)
    clear hbn
    try go_wp2_with fail
    refine hK.out _ _ (HS.out _ hBc) (fun _ => ?_)
    clear hK K
    try simp only [s1, s2, s3]
    refine tk 20 lvo20 (HS.out _ hBc) ?_; simp only [sq]; refine tk 21 lvo21 (HS.out _ hBc) ?_; simp only [sq]; refine tk 22 lvo22 (HS.out _ hBc) ?_; simp only [sq]; refine tk 23 lvo23 (HS.out _ hBc) ?_; simp only [sq]; refine tk 24 lvo24 (HS.out _ hBc) ?_; simp only [sq]; refine tk 25 lvo25 (HS.out _ hBc) ?_; simp only [sq]; refine tk 26 lvo26 (HS.out _ hBc) ?_; simp only [sq]; refine sk 27 lvo27 (HS.out _ hBc) ?_; simp only [sq]; refine sk 28 lvo28 (HS.out _ hBc) ?_; simp only [sq]; refine sk 29 lvo29 (HS.out _ hBc) ?_; simp only [sq]; refine tk 30 lvo30 (HS.out _ hBc) ?_; simp only [sq]; refine tk 31 lvo31 (HS.out _ hBc) ?_; simp only [sq]; refine tk 32 lvo32 (HS.out _ hBc) ?_; simp only [sq]; refine tk 33 lvo33 (HS.out _ hBc) ?_; simp only [sq]; refine tk 34 lvo34 (HS.out _ hBc) ?_; simp only [sq]; refine tk 35 lvo35 (HS.out _ hBc) ?_; simp only [sq]; refine tk 36 lvo36 (HS.out _ hBc) ?_; simp only [sq]; refine tk 37 lvo37 (HS.out _ hBc) ?_; simp only [sq]; refine tk 38 lvo38 (HS.out _ hBc) ?_; simp only [sq]; refine tk 39 lvo39 (HS.out _ hBc) ?_; simp only [sq]; refine tk 40 lvo40 (HS.out _ hBc) ?_; simp only [sq]; refine tk 41 lvo41 (HS.out _ hBc) ?_; simp only [sq]; refine tk 42 lvo42 (HS.out _ hBc) ?_; simp only [sq]; refine tk 43 lvo43 (HS.out _ hBc) ?_; simp only [sq]
    refine rd 44 lvo44 (fun K hK => ?_)
    go_simp
    refine (HB4.out _).mono ?_
    rintro e wn ⟨rfl, hbn⟩
    replace hBc := hBc.trans (hbn.mono hBc.size)
    clear hbn
    try go_wp2_with fail
    refine hK.out _ _ (HS.out _ hBc) (fun _ => ?_)
    clear hK K
    try simp only [s1, s2, s3]
    refine tk 45 lvo45 (HS.out _ hBc) ?_; simp only [sq]; refine tk 46 lvo46 (HS.out _ hBc) ?_; simp only [sq]; refine tk 47 lvo47 (HS.out _ hBc) ?_; simp only [sq]
    refine wpAnyH_done (by as_aux_lemma => kernel_rfl) ?_ _
    have HBF := hidI (HBA.out.trans (hBc.mono HBA.out.size))
    go_wp2
    go_roundw
    case rel => exact ⟨k + 1, by omega, by go_num, HE.out, HBF.out⟩
    case measure => simp [intOf]; omega
   rw [decide_eq_false hbf] at HB4
   have HE := hidI (HF2.out (by omega) (fun h => hbf h))
   clear HF2 HMO hbf
   have HS : Hid (∀ wx, Below WW.heap.size WW wx → wx.cell? ⟨wr.heap.size, 0, none⟩ = some (.bool true) ∧ wx.cell? ⟨wr.heap.size, 1, none⟩ = some (.string x.o) ∧ wx.cell? ⟨wr.heap.size, 2, none⟩ = some (.string x.y) ∧ wx.cell? ⟨wr.heap.size, 3, none⟩ = some (.int .i64 x.v) ∧ wx.cell? ⟨wr.heap.size, 4, none⟩ = some (.int .i64 x.r) ∧ wx.cell? ⟨wr.heap.size, 5, none⟩ = some (.int .i64 x.s) ∧ wx.cell? ⟨g, f + (k - 1) * 6 + 4, none⟩ = some (.int .i64 p.r) ∧ wx.cell? ⟨g, f + (k - 1) * 6 + 5, none⟩ = some (.int .i64 p.s)) := fun wx h => by obtain ⟨a0, a1, a2, a3, a4, a5⟩ := HCE.out wx h; obtain ⟨b0, b1⟩ := HPP.out wx h; exact ⟨a0, a1, a2, a3, a4, a5, b0, b1⟩
   have hBd := hBc.drew
   replace hBc := hBd
   clear hBd
   refine wp_region_held_drew (S := (fun w' => w'.cell? ⟨wr.heap.size, 0, none⟩ = some (.bool true) ∧ w'.cell? ⟨wr.heap.size, 1, none⟩ = some (.string x.o) ∧ w'.cell? ⟨wr.heap.size, 2, none⟩ = some (.string x.y) ∧ w'.cell? ⟨wr.heap.size, 3, none⟩ = some (.int .i64 x.v) ∧ w'.cell? ⟨wr.heap.size, 4, none⟩ = some (.int .i64 x.r) ∧ w'.cell? ⟨wr.heap.size, 5, none⟩ = some (.int .i64 x.s) ∧ w'.cell? ⟨g, f + (k - 1) * 6 + 4, none⟩ = some (.int .i64 p.r) ∧ w'.cell? ⟨g, f + (k - 1) * 6 + 5, none⟩ = some (.int .i64 p.s))) (by kernel_rfl) (HS.out _ hBc) (fun _ => ?_)
   refine wpAnyH_list (l' := #[false, false, false, false, false, false, false, false, false, false, false, false, false, false, false, false, false, false, false, false, false, false, false, false, false, false, false, false, false, false, false, false, false, false, false, false, false, false, false, false, false, false, false, false, false, false, false, false]) (by as_aux_lemma => kernel_rfl) ?_
   refine tk 0 lvo0 (HS.out _ hBc) ?_; simp only [sq]; refine tk 1 lvo1 (HS.out _ hBc) ?_; simp only [sq]
   refine rd 2 lvo2 (fun K hK => ?_)
   go_simp
   refine (HD.out _).mono ?_
   rintro e wn ⟨rfl, hbn⟩
   replace hBc := hBc.trans (hbn.mono hBc.size)
   clear hbn
   try go_wp2_with fail
   refine hK.out _ _ (HS.out _ hBc) (fun _ => ?_)
   clear hK K
   try simp only [s1, s2, s3]
   refine tk 3 lvo3 (HS.out _ hBc) ?_; simp only [sq]; refine tk 4 lvo4 (HS.out _ hBc) ?_; simp only [sq]; refine tk 5 lvo5 (HS.out _ hBc) ?_; simp only [sq]; refine tk 6 lvo6 (HS.out _ hBc) ?_; simp only [sq]
   refine rd 7 lvo7 (fun K hK => ?_)
   go_simp
   refine (HN.out _).mono ?_
   rintro e wn ⟨rfl, hbn⟩
   replace hBc := hBc.trans (hbn.mono hBc.size)
   clear hbn
   try go_wp2_with fail
   refine hK.out _ _ (HS.out _ hBc) (fun _ => ?_)
   clear hK K
   try simp only [s1, s2, s3]
   refine tk 8 lvo8 (HS.out _ hBc) ?_; simp only [sq]; refine tk 9 lvo9 (HS.out _ hBc) ?_; simp only [sq]; refine tk 10 lvo10 (HS.out _ hBc) ?_; simp only [sq]; refine tk 11 lvo11 (HS.out _ hBc) ?_; simp only [sq]; refine tk 12 lvo12 (HS.out _ hBc) ?_; simp only [sq]
   refine rd 13 lvo13 (fun K hK => ?_)
   go_simp
   refine (HY.out _).mono ?_
   rintro e wn ⟨rfl, hbn⟩
   replace hBc := hBc.trans (hbn.mono hBc.size)
   clear hbn
   try go_wp2_with fail
   refine hK.out _ _ (HS.out _ hBc) (fun _ => ?_)
   clear hK K
   try simp only [s1, s2, s3]
   refine tk 14 lvo14 (HS.out _ hBc) ?_; simp only [sq]; refine tk 15 lvo15 (HS.out _ hBc) ?_; simp only [sq]; refine tk 16 lvo16 (HS.out _ hBc) ?_; simp only [sq]; refine tk 17 lvo17 (HS.out _ hBc) ?_; simp only [sq]; refine tk 18 lvo18 (HS.out _ hBc) ?_; simp only [sq]
   refine rd 19 lvo19 (fun K hK => ?_)
   go_simp
   refine (HV.out _).mono ?_
   rintro e wn ⟨rfl, hbn⟩
   replace hBc := hBc.trans (hbn.mono hBc.size)
   clear hbn
   try go_wp2_with fail
   refine hK.out _ _ (HS.out _ hBc) (fun _ => ?_)
   clear hK K
   try simp only [s1, s2, s3]
   refine tk 20 lvo20 (HS.out _ hBc) ?_; simp only [sq]; refine tk 21 lvo21 (HS.out _ hBc) ?_; simp only [sq]; refine tk 22 lvo22 (HS.out _ hBc) ?_; simp only [sq]; refine tk 23 lvo23 (HS.out _ hBc) ?_; simp only [sq]; refine tk 24 lvo24 (HS.out _ hBc) ?_; simp only [sq]; refine tk 25 lvo25 (HS.out _ hBc) ?_; simp only [sq]; refine tk 26 lvo26 (HS.out _ hBc) ?_; simp only [sq]; refine sk 27 lvo27 (HS.out _ hBc) ?_; simp only [sq]; refine sk 28 lvo28 (HS.out _ hBc) ?_; simp only [sq]; refine sk 29 lvo29 (HS.out _ hBc) ?_; simp only [sq]; refine tk 30 lvo30 (HS.out _ hBc) ?_; simp only [sq]; refine tk 31 lvo31 (HS.out _ hBc) ?_; simp only [sq]; refine tk 32 lvo32 (HS.out _ hBc) ?_; simp only [sq]; refine tk 33 lvo33 (HS.out _ hBc) ?_; simp only [sq]; refine tk 34 lvo34 (HS.out _ hBc) ?_; simp only [sq]; refine tk 35 lvo35 (HS.out _ hBc) ?_; simp only [sq]; refine tk 36 lvo36 (HS.out _ hBc) ?_; simp only [sq]; refine tk 37 lvo37 (HS.out _ hBc) ?_; simp only [sq]; refine tk 38 lvo38 (HS.out _ hBc) ?_; simp only [sq]; refine tk 39 lvo39 (HS.out _ hBc) ?_; simp only [sq]; refine tk 40 lvo40 (HS.out _ hBc) ?_; simp only [sq]; refine tk 41 lvo41 (HS.out _ hBc) ?_; simp only [sq]; refine tk 42 lvo42 (HS.out _ hBc) ?_; simp only [sq]; refine tk 43 lvo43 (HS.out _ hBc) ?_; simp only [sq]
   refine rd 44 lvo44 (fun K hK => ?_)
   go_simp
   refine (HB4.out _).mono ?_
   rintro e wn ⟨rfl, hbn⟩
   replace hBc := hBc.trans (hbn.mono hBc.size)
   clear hbn
   try go_wp2_with fail
   refine hK.out _ _ (HS.out _ hBc) (fun _ => ?_)
   clear hK K
   try simp only [s1, s2, s3]
   refine tk 45 lvo45 (HS.out _ hBc) ?_; simp only [sq]; refine tk 46 lvo46 (HS.out _ hBc) ?_; simp only [sq]; refine tk 47 lvo47 (HS.out _ hBc) ?_; simp only [sq]
   refine wpAnyH_done (by as_aux_lemma => kernel_rfl) ?_ _
   have HBF := hidI (HBA.out.trans (hBc.mono HBA.out.size))
   go_wp2
   go_ret
   exact ⟨Tells.no HE.out, HBF.out⟩
  | false =>
   rw [em] at HCE m0
   have bv : (x.v != 0) = false := by have := HOX.out.2.2.2.2 em; simp [this]
   by_cases hkz : k = 0
   case pos =>
    have HE := hidI (HMO.out HOX.out (fun h0 => by omega))
    clear HF2 HMO
    subst hkz
    have HS : Hid (∀ wx, Below WW.heap.size WW wx → wx.cell? ⟨wr.heap.size, 0, none⟩ = some (.bool false) ∧ wx.cell? ⟨wr.heap.size, 1, none⟩ = some (.string x.o) ∧ wx.cell? ⟨wr.heap.size, 2, none⟩ = some (.string x.y) ∧ wx.cell? ⟨wr.heap.size, 3, none⟩ = some (.int .i64 x.v) ∧ wx.cell? ⟨wr.heap.size, 4, none⟩ = some (.int .i64 x.r) ∧ wx.cell? ⟨wr.heap.size, 5, none⟩ = some (.int .i64 x.s)) := fun wx h => HCE.out wx h
    have hBd := hBc.drew
    replace hBc := hBd
    clear hBd
    refine wp_region_held_drew (S := (fun w' => w'.cell? ⟨wr.heap.size, 0, none⟩ = some (.bool false) ∧ w'.cell? ⟨wr.heap.size, 1, none⟩ = some (.string x.o) ∧ w'.cell? ⟨wr.heap.size, 2, none⟩ = some (.string x.y) ∧ w'.cell? ⟨wr.heap.size, 3, none⟩ = some (.int .i64 x.v) ∧ w'.cell? ⟨wr.heap.size, 4, none⟩ = some (.int .i64 x.r) ∧ w'.cell? ⟨wr.heap.size, 5, none⟩ = some (.int .i64 x.s))) (by kernel_rfl) (HS.out _ hBc) (fun _ => ?_)
    refine wpAnyH_list (l' := #[false, false, false, false, false, false, false, false, false, false, false, false, false, false, false, false, false, false, false, false, false, false, false, false, false, false, false, false, false, false, false, false, false, false, false, false, false, false, false, false, false, false, false, false, false, false, false, false]) (by as_aux_lemma => kernel_rfl) ?_
    refine tk 0 lvo0 (HS.out _ hBc) ?_; simp only [sq]; refine tk 1 lvo1 (HS.out _ hBc) ?_; simp only [sq]
    refine rd 2 lvo2 (fun K hK => ?_)
    go_simp
    refine (HD.out _).mono ?_
    rintro e wn ⟨rfl, hbn⟩
    replace hBc := hBc.trans (hbn.mono hBc.size)
    clear hbn
    try go_wp2_with fail
    refine hK.out _ _ (HS.out _ hBc) (fun _ => ?_)
    clear hK K
    try simp only [s1, s2, s3]
    refine tk 3 lvo3 (HS.out _ hBc) ?_; simp only [sq]; refine tk 4 lvo4 (HS.out _ hBc) ?_; simp only [sq]; refine tk 5 lvo5 (HS.out _ hBc) ?_; simp only [sq]; refine tk 6 lvo6 (HS.out _ hBc) ?_; simp only [sq]
    refine rd 7 lvo7 (fun K hK => ?_)
    go_simp
    refine (HN.out _).mono ?_
    rintro e wn ⟨rfl, hbn⟩
    replace hBc := hBc.trans (hbn.mono hBc.size)
    clear hbn
    try go_wp2_with fail
    refine hK.out _ _ (HS.out _ hBc) (fun _ => ?_)
    clear hK K
    try simp only [s1, s2, s3]
    refine tk 8 lvo8 (HS.out _ hBc) ?_; simp only [sq]; refine tk 9 lvo9 (HS.out _ hBc) ?_; simp only [sq]; refine tk 10 lvo10 (HS.out _ hBc) ?_; simp only [sq]; refine tk 11 lvo11 (HS.out _ hBc) ?_; simp only [sq]; refine tk 12 lvo12 (HS.out _ hBc) ?_; simp only [sq]
    refine rd 13 lvo13 (fun K hK => ?_)
    go_simp
    refine (HY.out _).mono ?_
    rintro e wn ⟨rfl, hbn⟩
    replace hBc := hBc.trans (hbn.mono hBc.size)
    clear hbn
    try go_wp2_with fail
    refine hK.out _ _ (HS.out _ hBc) (fun _ => ?_)
    clear hK K
    try simp only [s1, s2, s3]
    refine tk 14 lvo14 (HS.out _ hBc) ?_; simp only [sq]; refine tk 15 lvo15 (HS.out _ hBc) ?_; simp only [sq]; refine tk 16 lvo16 (HS.out _ hBc) ?_; simp only [sq]; refine tk 17 lvo17 (HS.out _ hBc) ?_; simp only [sq]; refine tk 18 lvo18 (HS.out _ hBc) ?_; simp only [sq]
    refine rd 19 lvo19 (fun K hK => ?_)
    go_simp
    refine (HV.out _).mono ?_
    rintro e wn ⟨rfl, hbn⟩
    replace hBc := hBc.trans (hbn.mono hBc.size)
    clear hbn
    try go_wp2_with fail
    refine hK.out _ _ (HS.out _ hBc) (fun _ => ?_)
    clear hK K
    try simp only [s1, s2, s3]
    refine tk 20 lvo20 (HS.out _ hBc) ?_; simp only [sq]; refine tk 21 lvo21 (HS.out _ hBc) ?_; simp only [sq]; refine tk 22 lvo22 (HS.out _ hBc) ?_; simp only [sq]; refine tk 23 lvo23 (HS.out _ hBc) ?_; simp only [sq]; refine tk 24 lvo24 (HS.out _ hBc) ?_; simp only [sq]; refine tk 25 lvo25 (HS.out _ hBc) ?_; simp only [sq]; refine tk 26 lvo26 (HS.out _ hBc) ?_; simp only [sq]; refine tk 27 lvo27 (HS.out _ hBc) ?_; simp only [sq]; refine tk 28 lvo28 (HS.out _ hBc) ?_; simp only [sq]; refine tk 29 lvo29 (HS.out _ hBc) ?_; simp only [sq]; refine tk 30 lvo30 (HS.out _ hBc) ?_; simp only [sq]; refine tk 31 lvo31 (HS.out _ hBc) ?_; simp only [sq]; refine tk 32 lvo32 (HS.out _ hBc) ?_; simp only [sq]; refine tk 33 lvo33 (HS.out _ hBc) ?_; simp only [sq]; refine tk 34 lvo34 (HS.out _ hBc) ?_; simp only [sq]; refine tk 35 lvo35 (HS.out _ hBc) ?_; simp only [sq]; refine sk 36 lvo36 (HS.out _ hBc) ?_; simp only [sq]; refine sk 37 lvo37 (HS.out _ hBc) ?_; simp only [sq]; refine sk 38 lvo38 (HS.out _ hBc) ?_; simp only [sq]; refine sk 39 lvo39 (HS.out _ hBc) ?_; simp only [sq]; refine sk 40 lvo40 (HS.out _ hBc) ?_; simp only [sq]; refine sk 41 lvo41 (HS.out _ hBc) ?_; simp only [sq]; refine sk 42 lvo42 (HS.out _ hBc) ?_; simp only [sq]; refine sk 43 lvo43 (HS.out _ hBc) ?_; simp only [sq]; refine sc 44 lvo44 (HS.out _ hBc) ?_; simp only [sq]; refine sk 45 lvo45 (HS.out _ hBc) ?_; simp only [sq]; refine tk 46 lvo46 (HS.out _ hBc) ?_; simp only [sq]; refine tk 47 lvo47 (HS.out _ hBc) ?_; simp only [sq]
    refine wpAnyH_done (by as_aux_lemma => kernel_rfl) ?_ _
    have HBF := hidI (HBA.out.trans (hBc.mono HBA.out.size))
    go_wp2
    go_roundw
    case rel => exact ⟨0 + 1, by omega, by go_num, HE.out, HBF.out⟩
    case measure => simp [intOf]; omega
   have hkp : (0 : Int) < k := by omega
   have hkpn : 0 < k := by omega
   have hkp1 : (1 : Int) ≤ (k : Int) := by omega
   have hq1 : (0 : Int) ≤ (k : Int) - 1 := by omega
   have hq2 : (k : Int) - 1 < n := by omega
   by_cases hbf : doLt p.r p.s x.r x.s
   case pos =>
    rw [decide_eq_true hbf] at HB4
    have HE := hidI (HMO.out HOX.out (fun _ => hbf))
    clear HF2 HMO hbf
    have HS : Hid (∀ wx, Below WW.heap.size WW wx → wx.cell? ⟨wr.heap.size, 0, none⟩ = some (.bool false) ∧ wx.cell? ⟨wr.heap.size, 1, none⟩ = some (.string x.o) ∧ wx.cell? ⟨wr.heap.size, 2, none⟩ = some (.string x.y) ∧ wx.cell? ⟨wr.heap.size, 3, none⟩ = some (.int .i64 x.v) ∧ wx.cell? ⟨wr.heap.size, 4, none⟩ = some (.int .i64 x.r) ∧ wx.cell? ⟨wr.heap.size, 5, none⟩ = some (.int .i64 x.s) ∧ wx.cell? ⟨g, f + (k - 1) * 6 + 4, none⟩ = some (.int .i64 p.r) ∧ wx.cell? ⟨g, f + (k - 1) * 6 + 5, none⟩ = some (.int .i64 p.s)) := fun wx h => by obtain ⟨a0, a1, a2, a3, a4, a5⟩ := HCE.out wx h; obtain ⟨b0, b1⟩ := HPP.out wx h; exact ⟨a0, a1, a2, a3, a4, a5, b0, b1⟩
    have hBd := hBc.drew
    replace hBc := hBd
    clear hBd
    refine wp_region_held_drew (S := (fun w' => w'.cell? ⟨wr.heap.size, 0, none⟩ = some (.bool false) ∧ w'.cell? ⟨wr.heap.size, 1, none⟩ = some (.string x.o) ∧ w'.cell? ⟨wr.heap.size, 2, none⟩ = some (.string x.y) ∧ w'.cell? ⟨wr.heap.size, 3, none⟩ = some (.int .i64 x.v) ∧ w'.cell? ⟨wr.heap.size, 4, none⟩ = some (.int .i64 x.r) ∧ w'.cell? ⟨wr.heap.size, 5, none⟩ = some (.int .i64 x.s) ∧ w'.cell? ⟨g, f + (k - 1) * 6 + 4, none⟩ = some (.int .i64 p.r) ∧ w'.cell? ⟨g, f + (k - 1) * 6 + 5, none⟩ = some (.int .i64 p.s))) (by kernel_rfl) (HS.out _ hBc) (fun _ => ?_)
    refine wpAnyH_list (l' := #[false, false, false, false, false, false, false, false, false, false, false, false, false, false, false, false, false, false, false, false, false, false, false, false, false, false, false, false, false, false, false, false, false, false, false, false, false, false, false, false, false, false, false, false, false, false, false, false]) (by as_aux_lemma => kernel_rfl) ?_
    refine tk 0 lvo0 (HS.out _ hBc) ?_; simp only [sq]; refine tk 1 lvo1 (HS.out _ hBc) ?_; simp only [sq]
    refine rd 2 lvo2 (fun K hK => ?_)
    go_simp
    refine (HD.out _).mono ?_
    rintro e wn ⟨rfl, hbn⟩
    replace hBc := hBc.trans (hbn.mono hBc.size)
    clear hbn
    try go_wp2_with fail
    refine hK.out _ _ (HS.out _ hBc) (fun _ => ?_)
    clear hK K
    try simp only [s1, s2, s3]
    refine tk 3 lvo3 (HS.out _ hBc) ?_; simp only [sq]; refine tk 4 lvo4 (HS.out _ hBc) ?_; simp only [sq]; refine tk 5 lvo5 (HS.out _ hBc) ?_; simp only [sq]; refine tk 6 lvo6 (HS.out _ hBc) ?_; simp only [sq]
    refine rd 7 lvo7 (fun K hK => ?_)
    go_simp
    refine (HN.out _).mono ?_
    rintro e wn ⟨rfl, hbn⟩
    replace hBc := hBc.trans (hbn.mono hBc.size)
    clear hbn
    try go_wp2_with fail
    refine hK.out _ _ (HS.out _ hBc) (fun _ => ?_)
    clear hK K
    try simp only [s1, s2, s3]
    refine tk 8 lvo8 (HS.out _ hBc) ?_; simp only [sq]; refine tk 9 lvo9 (HS.out _ hBc) ?_; simp only [sq]; refine tk 10 lvo10 (HS.out _ hBc) ?_; simp only [sq]; refine tk 11 lvo11 (HS.out _ hBc) ?_; simp only [sq]; refine tk 12 lvo12 (HS.out _ hBc) ?_; simp only [sq]
    refine rd 13 lvo13 (fun K hK => ?_)
    go_simp
    refine (HY.out _).mono ?_
    rintro e wn ⟨rfl, hbn⟩
    replace hBc := hBc.trans (hbn.mono hBc.size)
    clear hbn
    try go_wp2_with fail
    refine hK.out _ _ (HS.out _ hBc) (fun _ => ?_)
    clear hK K
    try simp only [s1, s2, s3]
    refine tk 14 lvo14 (HS.out _ hBc) ?_; simp only [sq]; refine tk 15 lvo15 (HS.out _ hBc) ?_; simp only [sq]; refine tk 16 lvo16 (HS.out _ hBc) ?_; simp only [sq]; refine tk 17 lvo17 (HS.out _ hBc) ?_; simp only [sq]; refine tk 18 lvo18 (HS.out _ hBc) ?_; simp only [sq]
    refine rd 19 lvo19 (fun K hK => ?_)
    go_simp
    refine (HV.out _).mono ?_
    rintro e wn ⟨rfl, hbn⟩
    replace hBc := hBc.trans (hbn.mono hBc.size)
    clear hbn
    try go_wp2_with fail
    refine hK.out _ _ (HS.out _ hBc) (fun _ => ?_)
    clear hK K
    try simp only [s1, s2, s3]
    refine tk 20 lvo20 (HS.out _ hBc) ?_; simp only [sq]; refine tk 21 lvo21 (HS.out _ hBc) ?_; simp only [sq]; refine tk 22 lvo22 (HS.out _ hBc) ?_; simp only [sq]; refine tk 23 lvo23 (HS.out _ hBc) ?_; simp only [sq]; refine tk 24 lvo24 (HS.out _ hBc) ?_; simp only [sq]; refine tk 25 lvo25 (HS.out _ hBc) ?_; simp only [sq]; refine tk 26 lvo26 (HS.out _ hBc) ?_; simp only [sq]; refine tk 27 lvo27 (HS.out _ hBc) ?_; simp only [sq]; refine tk 28 lvo28 (HS.out _ hBc) ?_; simp only [sq]; refine tk 29 lvo29 (HS.out _ hBc) ?_; simp only [sq]; refine tk 30 lvo30 (HS.out _ hBc) ?_; simp only [sq]; refine tk 31 lvo31 (HS.out _ hBc) ?_; simp only [sq]; refine tk 32 lvo32 (HS.out _ hBc) ?_; simp only [sq]; refine tk 33 lvo33 (HS.out _ hBc) ?_; simp only [sq]; refine tk 34 lvo34 (HS.out _ hBc) ?_; simp only [sq]; refine tk 35 lvo35 (HS.out _ hBc) ?_; simp only [sq]; refine tk 36 lvo36 (HS.out _ hBc) ?_; simp only [sq]; refine tk 37 lvo37 (HS.out _ hBc) ?_; simp only [sq]; refine tk 38 lvo38 (HS.out _ hBc) ?_; simp only [sq]; refine tk 39 lvo39 (HS.out _ hBc) ?_; simp only [sq]; refine tk 40 lvo40 (HS.out _ hBc) ?_; simp only [sq]; refine tk 41 lvo41 (HS.out _ hBc) ?_; simp only [sq]; refine tk 42 lvo42 (HS.out _ hBc) ?_; simp only [sq]; refine tk 43 lvo43 (HS.out _ hBc) ?_; simp only [sq]
    refine rd 44 lvo44 (fun K hK => ?_)
    go_simp
    refine (HB4.out _).mono ?_
    rintro e wn ⟨rfl, hbn⟩
    replace hBc := hBc.trans (hbn.mono hBc.size)
    clear hbn
    try go_wp2_with fail
    refine hK.out _ _ (HS.out _ hBc) (fun _ => ?_)
    clear hK K
    try simp only [s1, s2, s3]
    refine tk 45 lvo45 (HS.out _ hBc) ?_; simp only [sq]; refine tk 46 lvo46 (HS.out _ hBc) ?_; simp only [sq]; refine tk 47 lvo47 (HS.out _ hBc) ?_; simp only [sq]
    refine wpAnyH_done (by as_aux_lemma => kernel_rfl) ?_ _
    have HBF := hidI (HBA.out.trans (hBc.mono HBA.out.size))
    go_wp2
    go_roundw
    case rel => exact ⟨k + 1, by omega, by go_num, HE.out, HBF.out⟩
    case measure => simp [intOf]; omega
   rw [decide_eq_false hbf] at HB4
   have HE := hidI (HF2.out (by omega) (fun h => hbf h))
   clear HF2 HMO hbf
   have HS : Hid (∀ wx, Below WW.heap.size WW wx → wx.cell? ⟨wr.heap.size, 0, none⟩ = some (.bool false) ∧ wx.cell? ⟨wr.heap.size, 1, none⟩ = some (.string x.o) ∧ wx.cell? ⟨wr.heap.size, 2, none⟩ = some (.string x.y) ∧ wx.cell? ⟨wr.heap.size, 3, none⟩ = some (.int .i64 x.v) ∧ wx.cell? ⟨wr.heap.size, 4, none⟩ = some (.int .i64 x.r) ∧ wx.cell? ⟨wr.heap.size, 5, none⟩ = some (.int .i64 x.s) ∧ wx.cell? ⟨g, f + (k - 1) * 6 + 4, none⟩ = some (.int .i64 p.r) ∧ wx.cell? ⟨g, f + (k - 1) * 6 + 5, none⟩ = some (.int .i64 p.s)) := fun wx h => by obtain ⟨a0, a1, a2, a3, a4, a5⟩ := HCE.out wx h; obtain ⟨b0, b1⟩ := HPP.out wx h; exact ⟨a0, a1, a2, a3, a4, a5, b0, b1⟩
   have hBd := hBc.drew
   replace hBc := hBd
   clear hBd
   refine wp_region_held_drew (S := (fun w' => w'.cell? ⟨wr.heap.size, 0, none⟩ = some (.bool false) ∧ w'.cell? ⟨wr.heap.size, 1, none⟩ = some (.string x.o) ∧ w'.cell? ⟨wr.heap.size, 2, none⟩ = some (.string x.y) ∧ w'.cell? ⟨wr.heap.size, 3, none⟩ = some (.int .i64 x.v) ∧ w'.cell? ⟨wr.heap.size, 4, none⟩ = some (.int .i64 x.r) ∧ w'.cell? ⟨wr.heap.size, 5, none⟩ = some (.int .i64 x.s) ∧ w'.cell? ⟨g, f + (k - 1) * 6 + 4, none⟩ = some (.int .i64 p.r) ∧ w'.cell? ⟨g, f + (k - 1) * 6 + 5, none⟩ = some (.int .i64 p.s))) (by kernel_rfl) (HS.out _ hBc) (fun _ => ?_)
   refine wpAnyH_list (l' := #[false, false, false, false, false, false, false, false, false, false, false, false, false, false, false, false, false, false, false, false, false, false, false, false, false, false, false, false, false, false, false, false, false, false, false, false, false, false, false, false, false, false, false, false, false, false, false, false]) (by as_aux_lemma => kernel_rfl) ?_
   refine tk 0 lvo0 (HS.out _ hBc) ?_; simp only [sq]; refine tk 1 lvo1 (HS.out _ hBc) ?_; simp only [sq]
   refine rd 2 lvo2 (fun K hK => ?_)
   go_simp
   refine (HD.out _).mono ?_
   rintro e wn ⟨rfl, hbn⟩
   replace hBc := hBc.trans (hbn.mono hBc.size)
   clear hbn
   try go_wp2_with fail
   refine hK.out _ _ (HS.out _ hBc) (fun _ => ?_)
   clear hK K
   try simp only [s1, s2, s3]
   refine tk 3 lvo3 (HS.out _ hBc) ?_; simp only [sq]; refine tk 4 lvo4 (HS.out _ hBc) ?_; simp only [sq]; refine tk 5 lvo5 (HS.out _ hBc) ?_; simp only [sq]; refine tk 6 lvo6 (HS.out _ hBc) ?_; simp only [sq]
   refine rd 7 lvo7 (fun K hK => ?_)
   go_simp
   refine (HN.out _).mono ?_
   rintro e wn ⟨rfl, hbn⟩
   replace hBc := hBc.trans (hbn.mono hBc.size)
   clear hbn
   try go_wp2_with fail
   refine hK.out _ _ (HS.out _ hBc) (fun _ => ?_)
   clear hK K
   try simp only [s1, s2, s3]
   refine tk 8 lvo8 (HS.out _ hBc) ?_; simp only [sq]; refine tk 9 lvo9 (HS.out _ hBc) ?_; simp only [sq]; refine tk 10 lvo10 (HS.out _ hBc) ?_; simp only [sq]; refine tk 11 lvo11 (HS.out _ hBc) ?_; simp only [sq]; refine tk 12 lvo12 (HS.out _ hBc) ?_; simp only [sq]
   refine rd 13 lvo13 (fun K hK => ?_)
   go_simp
   refine (HY.out _).mono ?_
   rintro e wn ⟨rfl, hbn⟩
   replace hBc := hBc.trans (hbn.mono hBc.size)
   clear hbn
   try go_wp2_with fail
   refine hK.out _ _ (HS.out _ hBc) (fun _ => ?_)
   clear hK K
   try simp only [s1, s2, s3]
   refine tk 14 lvo14 (HS.out _ hBc) ?_; simp only [sq]; refine tk 15 lvo15 (HS.out _ hBc) ?_; simp only [sq]; refine tk 16 lvo16 (HS.out _ hBc) ?_; simp only [sq]; refine tk 17 lvo17 (HS.out _ hBc) ?_; simp only [sq]; refine tk 18 lvo18 (HS.out _ hBc) ?_; simp only [sq]
   refine rd 19 lvo19 (fun K hK => ?_)
   go_simp
   refine (HV.out _).mono ?_
   rintro e wn ⟨rfl, hbn⟩
   replace hBc := hBc.trans (hbn.mono hBc.size)
   clear hbn
   try go_wp2_with fail
   refine hK.out _ _ (HS.out _ hBc) (fun _ => ?_)
   clear hK K
   try simp only [s1, s2, s3]
   refine tk 20 lvo20 (HS.out _ hBc) ?_; simp only [sq]; refine tk 21 lvo21 (HS.out _ hBc) ?_; simp only [sq]; refine tk 22 lvo22 (HS.out _ hBc) ?_; simp only [sq]; refine tk 23 lvo23 (HS.out _ hBc) ?_; simp only [sq]; refine tk 24 lvo24 (HS.out _ hBc) ?_; simp only [sq]; refine tk 25 lvo25 (HS.out _ hBc) ?_; simp only [sq]; refine tk 26 lvo26 (HS.out _ hBc) ?_; simp only [sq]; refine tk 27 lvo27 (HS.out _ hBc) ?_; simp only [sq]; refine tk 28 lvo28 (HS.out _ hBc) ?_; simp only [sq]; refine tk 29 lvo29 (HS.out _ hBc) ?_; simp only [sq]; refine tk 30 lvo30 (HS.out _ hBc) ?_; simp only [sq]; refine tk 31 lvo31 (HS.out _ hBc) ?_; simp only [sq]; refine tk 32 lvo32 (HS.out _ hBc) ?_; simp only [sq]; refine tk 33 lvo33 (HS.out _ hBc) ?_; simp only [sq]; refine tk 34 lvo34 (HS.out _ hBc) ?_; simp only [sq]; refine tk 35 lvo35 (HS.out _ hBc) ?_; simp only [sq]; refine tk 36 lvo36 (HS.out _ hBc) ?_; simp only [sq]; refine tk 37 lvo37 (HS.out _ hBc) ?_; simp only [sq]; refine tk 38 lvo38 (HS.out _ hBc) ?_; simp only [sq]; refine tk 39 lvo39 (HS.out _ hBc) ?_; simp only [sq]; refine tk 40 lvo40 (HS.out _ hBc) ?_; simp only [sq]; refine tk 41 lvo41 (HS.out _ hBc) ?_; simp only [sq]; refine tk 42 lvo42 (HS.out _ hBc) ?_; simp only [sq]; refine tk 43 lvo43 (HS.out _ hBc) ?_; simp only [sq]
   refine rd 44 lvo44 (fun K hK => ?_)
   go_simp
   refine (HB4.out _).mono ?_
   rintro e wn ⟨rfl, hbn⟩
   replace hBc := hBc.trans (hbn.mono hBc.size)
   clear hbn
   try go_wp2_with fail
   refine hK.out _ _ (HS.out _ hBc) (fun _ => ?_)
   clear hK K
   try simp only [s1, s2, s3]
   refine tk 45 lvo45 (HS.out _ hBc) ?_; simp only [sq]; refine tk 46 lvo46 (HS.out _ hBc) ?_; simp only [sq]; refine tk 47 lvo47 (HS.out _ hBc) ?_; simp only [sq]
   refine wpAnyH_done (by as_aux_lemma => kernel_rfl) ?_ _
   have HBF := hidI (HBA.out.trans (hBc.mono HBA.out.size))
   go_wp2
   go_ret
   exact ⟨Tells.no HE.out, HBF.out⟩
end Go.Proofs.YtdknoflkingodaaGreat
