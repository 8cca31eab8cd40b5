/- Right cells, as the specification asks. -/
import Derived.BigRegion
import Derived.Test.YtdknoflkingodaaGreatM1
import Derived.Test.YtdknoflkingodaaGreatM2
import Derived.Test.YtdknoflkingodaaGreatM3
import Derived.Test.YtdknoflkingodaaGreatM4
import Derived.Test.YtdknoflkingodaaGreatM5
import Derived.Test.YtdknoflkingodaaGreatM6
import Derived.Test.YtdknoflkingodaaGreatM7
import Derived.Test.YtdknoflkingodaaGreatM8
import Derived.Test.YtdknoflkingodaaGreatM9
import Derived.Test.YtdknoflkingodaaGreatM10
import Derived.Test.YtdknoflkingodaaGreatM11
import Derived.Test.YtdknoflkingodaaGreatM12
import Derived.Test.YtdknoflkingodaaGreatM13
import Derived.Test.YtdknoflkingodaaGreatM14
import Derived.Test.YtdknoflkingodaaGreatM15
import Derived.Test.YtdknoflkingodaaGreatM16
namespace Go.Proofs.YtdknoflkingodaaGreat
set_option maxRecDepth 100000
set_option linter.unusedVariables false
open Go.RowKit
def ceLt (a b : Ce) : Prop := doLt a.r a.s b.r b.s
def ceOk (a : Ce) : Prop := DOk a.r a.s ∧ NOk a.o ∧ (1 ≤ a.t ∧ a.t ≤ 10000) ∧ (0 ≤ a.v ∧ a.v ≤ 999999) ∧ ((a.x = 0 ∧ a.z = 0) ∨ DOk a.x a.z)
def CelOk (l : List Ce) : Prop := l.length ≤ 120 ∧ Asc ceOk ceLt l
abbrev cvo0 : Oper := oq 15 (.fieldAddr 35 (.tmp 4) 1) 0 "l06_state.go:37" #[] none
abbrev cvo1 : Oper := oq 16 (.load 33 (.tmp 15)) 33 "l06_state.go:37" #[eD 0] none
abbrev cvo2 : Oper := oq 17 (.call ⟨.value (.func 88), #[.tmp 16], #[33]⟩) 4 "l06_state.go:37" #[eD 1] none
abbrev cvo3 : Oper := oq 18 (.unOp .not 4 (.tmp 17)) 4 "l06_state.go:37" #[eD 2] none
abbrev cvo4 : Oper := oq 19 (.move (.tmp 18)) 4 "l06_state.go:37" #[eD 3, eC 2] none
abbrev cvo5 : Oper := oq 20 (.fieldAddr 35 (.tmp 4) 0) 0 "l06_state.go:37" #[eG 4] (some (4, false))
abbrev cvo6 : Oper := oq 21 (.load 9 (.tmp 20)) 9 "l06_state.go:37" #[eD 5, eG 4] (some (4, false))
abbrev cvo7 : Oper := oq 22 (.call ⟨.value (.func 127), #[.tmp 21], #[9]⟩) 4 "l06_state.go:37" #[eD 6, eC 4, eG 4] (some (4, false))
abbrev cvo8 : Oper := oq 23 (.unOp .not 4 (.tmp 22)) 4 "l06_state.go:37" #[eD 7, eG 4] (some (4, false))
abbrev cvo9 : Oper := oq 24 (.pick (.tmp 19) (.const (.bool true)) (.tmp 23)) 4 "l06_state.go:37" #[eD 4, eD 8] none
abbrev cvo10 : Oper := oq 25 (.move (.tmp 24)) 4 "l06_state.go:37" #[eD 9, eC 7] none
abbrev cvo11 : Oper := oq 26 (.fieldAddr 35 (.tmp 4) 2) 0 "l06_state.go:37" #[eG 10] (some (10, false))
abbrev cvo12 : Oper := oq 27 (.load 3 (.tmp 26)) 3 "l06_state.go:37" #[eD 11, eG 10] (some (10, false))
abbrev cvo13 : Oper := oq 28 (.call ⟨.value (.func 126), #[.tmp 27, .const (.int .i64 1), .const (.int .i64 10000)], #[3, 3, 3]⟩) 4 "l06_state.go:37" #[eD 12, eC 10, eG 10] (some (10, false))
abbrev cvo14 : Oper := oq 29 (.unOp .not 4 (.tmp 28)) 4 "l06_state.go:37" #[eD 13, eG 10] (some (10, false))
abbrev cvo15 : Oper := oq 30 (.pick (.tmp 25) (.const (.bool true)) (.tmp 29)) 4 "l06_state.go:37" #[eD 10, eD 14] none
abbrev cvo16 : Oper := oq 31 (.move (.tmp 30)) 4 "l06_state.go:37" #[eD 15, eC 13] none
abbrev cvo17 : Oper := oq 32 (.fieldAddr 35 (.tmp 4) 4) 0 "l06_state.go:37" #[eG 16] (some (16, false))
abbrev cvo18 : Oper := oq 33 (.load 3 (.tmp 32)) 3 "l06_state.go:37" #[eD 17, eG 16] (some (16, false))
abbrev cvo19 : Oper := oq 34 (.call ⟨.value (.func 126), #[.tmp 33, .const (.int .i64 0), .const (.int .i64 999999)], #[3, 3, 3]⟩) 4 "l06_state.go:37" #[eD 18, eC 16, eG 16] (some (16, false))
abbrev cvo20 : Oper := oq 35 (.unOp .not 4 (.tmp 34)) 4 "l06_state.go:37" #[eD 19, eG 16] (some (16, false))
abbrev cvo21 : Oper := oq 36 (.pick (.tmp 31) (.const (.bool true)) (.tmp 35)) 4 "l06_state.go:37" #[eD 16, eD 20] none
abbrev cvo22 : Oper := oq 37 (.move (.tmp 36)) 4 "l06_state.go:37" #[eD 21, eC 19] none
abbrev cvo23 : Oper := oq 38 (.fieldAddr 35 (.tmp 4) 3) 0 "l06_state.go:37" #[eG 22] (some (22, false))
abbrev cvo24 : Oper := oq 39 (.load 33 (.tmp 38)) 33 "l06_state.go:37" #[eD 23, eG 22] (some (22, false))
abbrev cvo25 : Oper := oq 40 (.build 33 #[]) 33 "l06_state.go:37" #[eG 22] (some (22, false))
abbrev cvo26 : Oper := oq 41 (.binOp .neq 33 (.tmp 39) (.tmp 40) 33) 4 "l06_state.go:37" #[eD 24, eD 25, eG 22] (some (22, false))
abbrev cvo27 : Oper := oq 42 (.move (.tmp 41)) 4 "l06_state.go:37" #[eD 26, eC 22, eG 22] (some (22, false))
abbrev cvo28 : Oper := oq 43 (.fieldAddr 35 (.tmp 4) 3) 0 "l06_state.go:37" #[eG 27] (some (27, true))
abbrev cvo29 : Oper := oq 44 (.load 33 (.tmp 43)) 33 "l06_state.go:37" #[eD 28, eG 27] (some (27, true))
abbrev cvo30 : Oper := oq 45 (.call ⟨.value (.func 88), #[.tmp 44], #[33]⟩) 4 "l06_state.go:37" #[eD 29, eC 27, eG 27] (some (27, true))
abbrev cvo31 : Oper := oq 46 (.unOp .not 4 (.tmp 45)) 4 "l06_state.go:37" #[eD 30, eG 27] (some (27, true))
abbrev cvo32 : Oper := oq 47 (.pick (.tmp 42) (.tmp 46) (.const (.bool false))) 4 "l06_state.go:37" #[eD 27, eD 31, eG 22] (some (22, false))
abbrev cvo33 : Oper := oq 48 (.pick (.tmp 37) (.const (.bool true)) (.tmp 47)) 4 "l06_state.go:37" #[eD 22, eD 32] none
abbrev cvo34 : Oper := oq 49 (.move (.tmp 48)) 4 "l06_state.go:37" #[eD 33, eC 30] none
abbrev cvo35 : Oper := oq 50 (.move (.tmp 3)) 3 "l06_state.go:37" #[eG 34] (some (34, false))
abbrev cvo36 : Oper := oq 51 (.binOp .gtr 3 (.tmp 50) (.const (.int .i64 0)) 3) 4 "l06_state.go:37" #[eD 35, eG 34] (some (34, false))
abbrev cvo37 : Oper := oq 52 (.move (.tmp 51)) 4 "l06_state.go:37" #[eD 36, eC 34, eG 34] (some (34, false))
abbrev cvo38 : Oper := oq 53 (.move (.tmp 0)) 27 "l06_state.go:37" #[eG 37] (some (37, true))
abbrev cvo39 : Oper := oq 54 (.move (.tmp 3)) 3 "l06_state.go:37" #[eG 37] (some (37, true))
abbrev cvo40 : Oper := oq 55 (.binOp .sub 3 (.tmp 54) (.const (.int .i64 1)) 3) 3 "l06_state.go:37" #[eD 39, eG 37] (some (37, true))
abbrev cvo41 : Oper := oq 56 (.indexAddr 27 (.tmp 53) (.tmp 55)) 0 "l06_state.go:37" #[eD 38, eD 40, eG 37] (some (37, true))
abbrev cvo42 : Oper := oq 57 (.fieldAddr 35 (.tmp 56) 1) 0 "l06_state.go:37" #[eD 41, eG 37] (some (37, true))
abbrev cvo43 : Oper := oq 58 (.load 33 (.tmp 57)) 33 "l06_state.go:37" #[eD 42, eG 37] (some (37, true))
abbrev cvo44 : Oper := oq 59 (.fieldAddr 35 (.tmp 4) 1) 0 "l06_state.go:37" #[eG 37] (some (37, true))
abbrev cvo45 : Oper := oq 60 (.load 33 (.tmp 59)) 33 "l06_state.go:37" #[eD 44, eG 37] (some (37, true))
abbrev cvo46 : Oper := oq 61 (.call ⟨.value (.func 128), #[.tmp 58, .tmp 60], #[33, 33]⟩) 4 "l06_state.go:37" #[eD 43, eD 45, eC 37, eG 37] (some (37, true))
abbrev cvo47 : Oper := oq 62 (.unOp .not 4 (.tmp 61)) 4 "l06_state.go:37" #[eD 46, eG 37] (some (37, true))
abbrev cvo48 : Oper := oq 63 (.pick (.tmp 52) (.tmp 62) (.const (.bool false))) 4 "l06_state.go:37" #[eD 37, eD 47, eG 34] (some (34, false))
abbrev cvo49 : Oper := oq 64 (.pick (.tmp 49) (.const (.bool true)) (.tmp 63)) 4 "l06_state.go:37" #[eD 34, eD 48] none
set_option maxHeartbeats 16000000 in
theorem specCells_calls (l : List Ce) (u : Value) (w : World) (hn : l.length ≤ 1048576) (hst : ∀ a ∈ l, a.o.size ≤ 1048576) (h : CeAt w u l) :
  Calls Tryz.prog 80 #[u] w fun e w' => Tells e (CelOk l) ∧ Below w.heap.size w w' := by
 obtain ⟨aa, ca, rfl, hga⟩ := h
 have HGA : Hid (CeG w aa l) := hga
 have HST := hidI hst
 obtain ⟨n, hnl⟩ : ∃ n, n = l.length := ⟨_, rfl⟩
 have HL : Hid (n = l.length) := hnl
 have HNO : Hid (¬ Asc ceOk ceLt l → ¬ CelOk l) := fun h k => h k.2
 have HYES : Hid (AscTo ceOk ceLt l n → (decide ((n : Int) ≤ 120) = true ↔ CelOk l)) := fun h => by
  rw [hnl] at h ⊢
  constructor
  ·intro k; exact ⟨by have := of_decide_eq_true k; omega, asc_all h (Nat.le_refl _)⟩
  ·intro k; exact decide_eq_true (by have := k.1; omega)
 rw [← hnl] at hn ⊢
 clear hnl hga hst
 go_enter Tryz.func80, Tryz.ntmps80
 go_wp2
 go_loopw [3] (fun z wr => ∃ k : Nat, k ≤ n ∧ z = .int .i64 k ∧ AscTo ceOk ceLt l k ∧ Below w.heap.size w wr) (fun z _ => n - (intOf z).toNat)
 case atStart => exact ⟨0, Nat.zero_le _, rfl, asc_zero _ _ _, Below.refl _ _⟩
 case round =>
  obtain ⟨k, hk, rfl, hasc, hbel⟩ := hrel
  have HBE := hidI hbel
  have HAS := hidI hasc
  have hsz := hbel.size
  clear hasc
  by_cases hlt : k < n
  case neg =>
   have hk1 : ¬ ((k : Int) < n) := by omega
   have HE := hidI (HYES.out (by have e : k = n := (by omega); rw [← e]; exact HAS.out))
   go_wp2
   go_ret
   exact ⟨⟨_, rfl, HE.out⟩, HBE.out⟩
  have hkl : k < l.length := by rw [← HL.out]; exact hlt
  obtain ⟨g, f, rfl, hg, hcc⟩ := HGA.out (by omega)
  have hk1 : (k : Int) < n := by omega
  have hk0 : (0 : Int) ≤ k := by omega
  have q := (hcc k hkl).below hbel hg
  have hp1 : k - 1 < l.length := by omega
  have HPC : Hid (∀ wx, Below w.heap.size w wx → ceC wx g (f + (k - 1) * 8) l[k - 1]) := fun wx h => (hcc (k - 1) hp1).below h hg
  have HF1 : Hid (¬ ceOk l[k] → ¬ CelOk l) := fun h => HNO.out (fun a => h (a k hkl).1)
  have HF2 : Hid (0 < k → ¬ ceLt l[k - 1] l[k] → ¬ CelOk l) := fun h0 h => HNO.out (fun a => h ((a k hkl).2 h0))
  have HMO : Hid (ceOk l[k] → (0 < k → ceLt l[k - 1] l[k]) → AscTo ceOk ceLt l (k + 1)) := fun h1 h2 => asc_more HAS.out hkl h1 h2
  have hsx := HST.out l[k] (List.getElem_mem hkl)
  generalize l[k - 1] = p at *
  generalize l[k] = x at *
  unfold ceC at q
  obtain ⟨q0, q1, q2, q3, q4, q5, q6, q7⟩ := q
  obtain ⟨WW, hWW⟩ : ∃ WW, WW = wr.alloc (.cells #[.string x.o, .int .i64 x.r, .int .i64 x.s, .int .i64 x.t, .int .i64 x.x, .int .i64 x.z, .int .i64 x.v, .bool x.g] 35) := ⟨_, rfl⟩
  have HBA : Hid (Below w.heap.size w WW) := by rw [hWW]; exact HBE.out.alloc hsz _
  have hRW : Row WW wr.heap.size #[.string x.o, .int .i64 x.r, .int .i64 x.s, .int .i64 x.t, .int .i64 x.x, .int .i64 x.z, .int .i64 x.v, .bool x.g] 35 := by rw [hWW]; exact row_new wr _ _ rfl
  have HWW : Hid (wr.alloc (.cells #[.string x.o, .int .i64 x.r, .int .i64 x.s, .int .i64 x.t, .int .i64 x.x, .int .i64 x.z, .int .i64 x.v, .bool x.g] 35) = WW) := hWW.symm
  have HCE : Hid (∀ wx, Below WW.heap.size WW wx → wx.cell? ⟨wr.heap.size, 0, none⟩ = some (.string x.o) ∧ wx.cell? ⟨wr.heap.size, 1, none⟩ = some (.int .i64 x.r) ∧ wx.cell? ⟨wr.heap.size, 2, none⟩ = some (.int .i64 x.s) ∧ wx.cell? ⟨wr.heap.size, 3, none⟩ = some (.int .i64 x.t) ∧ wx.cell? ⟨wr.heap.size, 4, none⟩ = some (.int .i64 x.x) ∧ wx.cell? ⟨wr.heap.size, 5, none⟩ = some (.int .i64 x.z) ∧ wx.cell? ⟨wr.heap.size, 6, none⟩ = some (.int .i64 x.v) ∧ wx.cell? ⟨wr.heap.size, 7, none⟩ = some (.bool x.g)) := fun wx h => ⟨(hRW.next h).cell 0 rfl, (hRW.next h).cell 1 rfl, (hRW.next h).cell 2 rfl, (hRW.next h).cell 3 rfl, (hRW.next h).cell 4 rfl, (hRW.next h).cell 5 rfl, (hRW.next h).cell 6 rfl, (hRW.next h).cell 7 rfl⟩
  have HPP : Hid (∀ wx, Below WW.heap.size WW wx → wx.cell? ⟨g, f + (k - 1) * 8 + 1, none⟩ = some (.int .i64 p.r) ∧ wx.cell? ⟨g, f + (k - 1) * 8 + 2, none⟩ = some (.int .i64 p.s)) := fun wx h => by
   have hq := HPC.out wx (HBA.out.trans (h.mono HBA.out.size))
   unfold ceC at hq
   exact ⟨hq.2.1, hq.2.2.1⟩
  have HD : Hid (∀ wx, Calls Tryz.prog 88 #[.agg #[.int .i64 x.r, .int .i64 x.s]] wx fun e w' => e = .returned (.bool (decide (DOk x.r x.s))) ∧ Below wx.heap.size wx w') := fun wx => specDotOk_calls x.r x.s wx
  have HN : Hid (∀ wx, Calls Tryz.prog 127 #[.string x.o] wx fun e w' => e = .returned (.bool (decide (NOk x.o))) ∧ Below wx.heap.size wx w') := fun wx => (specNameOk_calls x.o (by unfold maxLen; omega) wx).mono (by rintro e w' ⟨rfl, rfl⟩; exact ⟨rfl, Below.refl _ _⟩)
  have HT : Hid (∀ wx, Calls Tryz.prog 126 #[.int .i64 x.t, .int .i64 1, .int .i64 10000] wx fun e w' => e = .returned (.bool (decide (1 ≤ x.t) && decide (x.t ≤ 10000))) ∧ Below wx.heap.size wx w') := fun wx => (in_calls x.t 1 10000 wx).mono (by rintro e w' ⟨rfl, rfl⟩; exact ⟨rfl, Below.refl _ _⟩)
  have HR : Hid (∀ wx, Calls Tryz.prog 88 #[.agg #[.int .i64 x.x, .int .i64 x.z]] wx fun e w' => e = .returned (.bool (decide (DOk x.x x.z))) ∧ Below wx.heap.size wx w') := fun wx => specDotOk_calls x.x x.z wx
  have HV : Hid (∀ wx, Calls Tryz.prog 126 #[.int .i64 x.v, .int .i64 0, .int .i64 999999] wx fun e w' => e = .returned (.bool (decide (0 ≤ x.v) && decide (x.v ≤ 999999))) ∧ Below wx.heap.size wx w') := fun wx => (in_calls x.v 0 999999 wx).mono (by rintro e w' ⟨rfl, rfl⟩; exact ⟨rfl, Below.refl _ _⟩)
  have HB4 : Hid (∀ wx, Calls Tryz.prog 128 #[.agg #[.int .i64 p.r, .int .i64 p.s], .agg #[.int .i64 x.r, .int .i64 x.s]] wx fun e w' => e = .returned (.bool (decide (doLt p.r p.s x.r x.s))) ∧ Below wx.heap.size wx w') := fun wx => before_calls p.r p.s x.r x.s wx
  have hBc : Below WW.heap.size WW WW := Below.refl _ _
  obtain ⟨m0, m1, m2, m3, m4, m5, m6, m7⟩ := HCE.out _ hBc
  clear hWW hRW hcc hbel hkl hp1 hsx HAS HNO HPC
  have hgd := dot_guard
  have hwk : IntKind.i64.wrap ((k : Int) - 1) = (k : Int) - 1 := by rw [IntKind.wrap_i64] <;> omega
  have hnt : ((k : Int) - 1).toNat = k - 1 := by omega
  go_wp2
  rw [HWW.out]
  try simp only [List.append_eq, List.cons_append, List.nil_append]
  clear HWW q0 q1 q2 q3 q4 q5 q6 q7
  by_cases h1 : DOk x.r x.s
  case neg =>
   rw [decide_eq_false h1] at HD
   have HE := hidI (HF1.out (fun h => h1 h.1))
   clear HF1 HF2 HMO h1
   have HS : Hid (∀ wx, Below WW.heap.size WW wx → wx.cell? ⟨wr.heap.size, 0, none⟩ = some (.string x.o) ∧ wx.cell? ⟨wr.heap.size, 1, none⟩ = some (.int .i64 x.r) ∧ wx.cell? ⟨wr.heap.size, 2, none⟩ = some (.int .i64 x.s) ∧ wx.cell? ⟨wr.heap.size, 3, none⟩ = some (.int .i64 x.t) ∧ wx.cell? ⟨wr.heap.size, 4, none⟩ = some (.int .i64 x.x) ∧ wx.cell? ⟨wr.heap.size, 5, none⟩ = some (.int .i64 x.z) ∧ wx.cell? ⟨wr.heap.size, 6, none⟩ = some (.int .i64 x.v) ∧ wx.cell? ⟨wr.heap.size, 7, none⟩ = some (.bool x.g)) := fun wx h => HCE.out wx h
   have hBd := hBc.drew
   replace hBc := hBd
   clear hBd
   refine wp_region_held_drew (S := (fun w' => w'.cell? ⟨wr.heap.size, 0, none⟩ = some (.string x.o) ∧ w'.cell? ⟨wr.heap.size, 1, none⟩ = some (.int .i64 x.r) ∧ w'.cell? ⟨wr.heap.size, 2, none⟩ = some (.int .i64 x.s) ∧ w'.cell? ⟨wr.heap.size, 3, none⟩ = some (.int .i64 x.t) ∧ w'.cell? ⟨wr.heap.size, 4, none⟩ = some (.int .i64 x.x) ∧ w'.cell? ⟨wr.heap.size, 5, none⟩ = some (.int .i64 x.z) ∧ w'.cell? ⟨wr.heap.size, 6, none⟩ = some (.int .i64 x.v) ∧ w'.cell? ⟨wr.heap.size, 7, none⟩ = some (.bool x.g))) (by kernel_rfl) (HS.out _ hBc) (fun _ => ?_)
   refine wpAnyH_list (l' := #[false, false, false, false, false, false, false, false, false, false, false, false, false, false, false, false, false, false, false, false, false, false, false, false, false, false, false, false, false, false, false, false, false, false, false, false, false, false, false, false, false, false, false, false, false, false, false, false, false, false]) (by as_aux_lemma => kernel_rfl) ?_
   refine tk 0 cvo0 (HS.out _ hBc) ?_; simp only [sq]; refine tk 1 cvo1 (HS.out _ hBc) ?_; simp only [sq]
   refine rd 2 cvo2 (fun K hK => ?_)
   go_simp
   refine (HD.out _).mono ?_
   rintro e wn ⟨rfl, hbn⟩
   replace hBc := hBc.trans (hbn.mono hBc.size)
   clear hbn
   try go_wp2_with fail
   refine hK.out _ _ (HS.out _ hBc) (fun _ => ?_)
   clear hK K
   try simp only [s1, s2, s3]
   refine tk 3 cvo3 (HS.out _ hBc) ?_; simp only [sq]; refine tk 4 cvo4 (HS.out _ hBc) ?_; simp only [sq]; refine sk 5 cvo5 (HS.out _ hBc) ?_; simp only [sq]; refine sk 6 cvo6 (HS.out _ hBc) ?_; simp only [sq]; refine sc 7 cvo7 (HS.out _ hBc) ?_; simp only [sq]; refine sk 8 cvo8 (HS.out _ hBc) ?_; simp only [sq]; refine tk 9 cvo9 (HS.out _ hBc) ?_; simp only [sq]; refine tk 10 cvo10 (HS.out _ hBc) ?_; simp only [sq]; refine sk 11 cvo11 (HS.out _ hBc) ?_; simp only [sq]; refine sk 12 cvo12 (HS.out _ hBc) ?_; simp only [sq]; refine sc 13 cvo13 (HS.out _ hBc) ?_; simp only [sq]; refine sk 14 cvo14 (HS.out _ hBc) ?_; simp only [sq]; refine tk 15 cvo15 (HS.out _ hBc) ?_; simp only [sq]; refine tk 16 cvo16 (HS.out _ hBc) ?_; simp only [sq]; refine sk 17 cvo17 (HS.out _ hBc) ?_; simp only [sq]; refine sk 18 cvo18 (HS.out _ hBc) ?_; simp only [sq]; refine sc 19 cvo19 (HS.out _ hBc) ?_; simp only [sq]; refine sk 20 cvo20 (HS.out _ hBc) ?_; simp only [sq]; refine tk 21 cvo21 (HS.out _ hBc) ?_; simp only [sq]; refine tk 22 cvo22 (HS.out _ hBc) ?_; simp only [sq]; refine sk 23 cvo23 (HS.out _ hBc) ?_; simp only [sq]; refine sk 24 cvo24 (HS.out _ hBc) ?_; simp only [sq]; refine sk 25 cvo25 (HS.out _ hBc) ?_; simp only [sq]; refine sk 26 cvo26 (HS.out _ hBc) ?_; simp only [sq]; refine sk 27 cvo27 (HS.out _ hBc) ?_; simp only [sq]; refine sk 28 cvo28 (HS.out _ hBc) ?_; simp only [sq]; refine sk 29 cvo29 (HS.out _ hBc) ?_; simp only [sq]; refine sc 30 cvo30 (HS.out _ hBc) ?_; simp only [sq]; refine sk 31 cvo31 (HS.out _ hBc) ?_; simp only [sq]; refine sk 32 cvo32 (HS.out _ hBc) ?_; simp only [sq]; refine tk 33 cvo33 (HS.out _ hBc) ?_; simp only [sq]; refine tk 34 cvo34 (HS.out _ hBc) ?_; simp only [sq]; refine sk 35 cvo35 (HS.out _ hBc) ?_; simp only [sq]; refine sk 36 cvo36 (HS.out _ hBc) ?_; simp only [sq]; refine sk 37 cvo37 (HS.out _ hBc) ?_; simp only [sq]; refine sk 38 cvo38 (HS.out _ hBc) ?_; simp only [sq]; refine sk 39 cvo39 (HS.out _ hBc) ?_; simp only [sq]; refine sk 40 cvo40 (HS.out _ hBc) ?_; simp only [sq]; refine sk 41 cvo41 (HS.out _ hBc) ?_; simp only [sq]; refine sk 42 cvo42 (HS.out _ hBc) ?_; simp only [sq]; refine sk 43 cvo43 (HS.out _ hBc) ?_; simp only [sq]; refine sk 44 cvo44 (HS.out _ hBc) ?_; simp only [sq]; refine sk 45 cvo45 (HS.out _ hBc) ?_; simp only [sq]; refine sc 46 cvo46 (HS.out _ hBc) ?_; simp only [sq]; refine sk 47 cvo47 (HS.out _ hBc) ?_; simp only [sq]; refine sk 48 cvo48 (HS.out _ hBc) ?_; simp only [sq]; refine tk 49 cvo49 (HS.out _ hBc) ?_; simp only [sq]
   refine wpAnyH_done (by as_aux_lemma => kernel_rfl) ?_ _
   have HBF := hidI (HBA.out.trans (hBc.mono HBA.out.size))
   go_wp2
   go_ret
   exact ⟨Tells.no HE.out, HBF.out⟩
  rw [decide_eq_true h1] at HD
  by_cases h2 : NOk x.o
  case neg =>
   rw [decide_eq_false h2] at HN
   have HE := hidI (HF1.out (fun h => h2 h.2.1))
   clear HF1 HF2 HMO h1 h2
   have HS : Hid (∀ wx, Below WW.heap.size WW wx → wx.cell? ⟨wr.heap.size, 0, none⟩ = some (.string x.o) ∧ wx.cell? ⟨wr.heap.size, 1, none⟩ = some (.int .i64 x.r) ∧ wx.cell? ⟨wr.heap.size, 2, none⟩ = some (.int .i64 x.s) ∧ wx.cell? ⟨wr.heap.size, 3, none⟩ = some (.int .i64 x.t) ∧ wx.cell? ⟨wr.heap.size, 4, none⟩ = some (.int .i64 x.x) ∧ wx.cell? ⟨wr.heap.size, 5, none⟩ = some (.int .i64 x.z) ∧ wx.cell? ⟨wr.heap.size, 6, none⟩ = some (.int .i64 x.v) ∧ wx.cell? ⟨wr.heap.size, 7, none⟩ = some (.bool x.g)) := fun wx h => HCE.out wx h
   have hBd := hBc.drew
   replace hBc := hBd
   clear hBd
   refine wp_region_held_drew (S := (fun w' => w'.cell? ⟨wr.heap.size, 0, none⟩ = some (.string x.o) ∧ w'.cell? ⟨wr.heap.size, 1, none⟩ = some (.int .i64 x.r) ∧ w'.cell? ⟨wr.heap.size, 2, none⟩ = some (.int .i64 x.s) ∧ w'.cell? ⟨wr.heap.size, 3, none⟩ = some (.int .i64 x.t) ∧ w'.cell? ⟨wr.heap.size, 4, none⟩ = some (.int .i64 x.x) ∧ w'.cell? ⟨wr.heap.size, 5, none⟩ = some (.int .i64 x.z) ∧ w'.cell? ⟨wr.heap.size, 6, none⟩ = some (.int .i64 x.v) ∧ w'.cell? ⟨wr.heap.size, 7, none⟩ = some (.bool x.g))) (by kernel_rfl) (HS.out _ hBc) (fun _ => ?_)
   refine wpAnyH_list (l' := #[false, false, false, false, false, false, false, false, false, false, false, false, false, false, false, false, false, false, false, false, false, false, false, false, false, false, false, false, false, false, false, false, false, false, false, false, false, false, false, false, false, false, false, false, false, false, false, false, false, false]) (by as_aux_lemma => kernel_rfl) ?_
   refine tk 0 cvo0 (HS.out _ hBc) ?_; simp only [sq]; refine tk 1 cvo1 (HS.out _ hBc) ?_; simp only [sq]
   refine rd 2 cvo2 (fun K hK => ?_)
   go_simp
   refine (HD.out _).mono ?_
   rintro e wn ⟨rfl, hbn⟩
   replace hBc := hBc.trans (hbn.mono hBc.size)
   clear hbn
   try go_wp2_with fail
   refine hK.out _ _ (HS.out _ hBc) (fun _ => ?_)
   clear hK K
   try simp only [s1, s2, s3]
   refine tk 3 cvo3 (HS.out _ hBc) ?_; simp only [sq]; refine tk 4 cvo4 (HS.out _ hBc) ?_; simp only [sq]; refine tk 5 cvo5 (HS.out _ hBc) ?_; simp only [sq]; refine tk 6 cvo6 (HS.out _ hBc) ?_; simp only [sq]
   refine rd 7 cvo7 (fun K hK => ?_)
   go_simp
   refine (HN.out _).mono ?_
   rintro e wn ⟨rfl, hbn⟩
   replace hBc := hBc.trans (hbn.mono hBc.size)
   clear hbn
   try go_wp2_with fail
   refine hK.out _ _ (HS.out _ hBc) (fun _ => ?_)
   clear hK K
   try simp only [s1, s2, s3]
   refine tk 8 cvo8 (HS.out _ hBc) ?_; simp only [sq]; refine tk 9 cvo9 (HS.out _ hBc) ?_; simp only [sq]; refine tk 10 cvo10 (HS.out _ hBc) ?_; simp only [sq]; refine sk 11 cvo11 (HS.out _ hBc) ?_; simp only [sq]; refine sk 12 cvo12 (HS.out _ hBc) ?_; simp only [sq]; refine sc 13 cvo13 (HS.out _ hBc) ?_; simp only [sq]; refine sk 14 cvo14 (HS.out _ hBc) ?_; simp only [sq]; refine tk 15 cvo15 (HS.out _ hBc) ?_; simp only [sq]; refine tk 16 cvo16 (HS.out _ hBc) ?_; simp only [sq]; refine sk 17 cvo17 (HS.out _ hBc) ?_; simp only [sq]; refine sk 18 cvo18 (HS.out _ hBc) ?_; simp only [sq]; refine sc 19 cvo19 (HS.out _ hBc) ?_; simp only [sq]; refine sk 20 cvo20 (HS.out _ hBc) ?_; simp only [sq]; refine tk 21 cvo21 (HS.out _ hBc) ?_; simp only [sq]; refine tk 22 cvo22 (HS.out _ hBc) ?_; simp only [sq]; refine sk 23 cvo23 (HS.out _ hBc) ?_; simp only [sq]; refine sk 24 cvo24 (HS.out _ hBc) ?_; simp only [sq]; refine sk 25 cvo25 (HS.out _ hBc) ?_; simp only [sq]; refine sk 26 cvo26 (HS.out _ hBc) ?_; simp only [sq]; refine sk 27 cvo27 (HS.out _ hBc) ?_; simp only [sq]; refine sk 28 cvo28 (HS.out _ hBc) ?_; simp only [sq]; refine sk 29 cvo29 (HS.out _ hBc) ?_; simp only [sq]; refine sc 30 cvo30 (HS.out _ hBc) ?_; simp only [sq]; refine sk 31 cvo31 (HS.out _ hBc) ?_; simp only [sq]; refine sk 32 cvo32 (HS.out _ hBc) ?_; simp only [sq]; refine tk 33 cvo33 (HS.out _ hBc) ?_; simp only [sq]; refine tk 34 cvo34 (HS.out _ hBc) ?_; simp only [sq]; refine sk 35 cvo35 (HS.out _ hBc) ?_; simp only [sq]; refine sk 36 cvo36 (HS.out _ hBc) ?_; simp only [sq]; refine sk 37 cvo37 (HS.out _ hBc) ?_; simp only [sq]; refine sk 38 cvo38 (HS.out _ hBc) ?_; simp only [sq]; refine sk 39 cvo39 (HS.out _ hBc) ?_; simp only [sq]; refine sk 40 cvo40 (HS.out _ hBc) ?_; simp only [sq]; refine sk 41 cvo41 (HS.out _ hBc) ?_; simp only [sq]; refine sk 42 cvo42 (HS.out _ hBc) ?_; simp only [sq]; refine sk 43 cvo43 (HS.out _ hBc) ?_; simp only [sq]; refine sk 44 cvo44 (HS.out _ hBc) ?_; simp only [sq]; refine sk 45 cvo45 (HS.out _ hBc) ?_; simp only [sq]; refine sc 46 cvo46 (HS.out _ hBc) ?_; simp only [sq]; refine sk 47 cvo47 (HS.out _ hBc) ?_; simp only [sq]; refine sk 48 cvo48 (HS.out _ hBc) ?_; simp only [sq]; refine tk 49 cvo49 (HS.out _ hBc) ?_; simp only [sq]
   refine wpAnyH_done (by as_aux_lemma => kernel_rfl) ?_ _
   have HBF := hidI (HBA.out.trans (hBc.mono HBA.out.size))
   go_wp2
   go_ret
   exact ⟨Tells.no HE.out, HBF.out⟩
  rw [decide_eq_true h2] at HN
  by_cases h3 : 1 ≤ x.t ∧ x.t ≤ 10000
  case neg =>
   have hbb : (decide (1 ≤ x.t) && decide (x.t ≤ 10000)) = false := by
    by_cases ha : 1 ≤ x.t <;> by_cases hb : x.t ≤ 10000 <;> simp [ha, hb] <;> exact h3 ⟨ha, hb⟩
   rw [hbb] at HT
   clear hbb
   have HE := hidI (HF1.out (fun h => h3 h.2.2.1))
   clear HF1 HF2 HMO h1 h2 h3
   have HS : Hid (∀ wx, Below WW.heap.size WW wx → wx.cell? ⟨wr.heap.size, 0, none⟩ = some (.string x.o) ∧ wx.cell? ⟨wr.heap.size, 1, none⟩ = some (.int .i64 x.r) ∧ wx.cell? ⟨wr.heap.size, 2, none⟩ = some (.int .i64 x.s) ∧ wx.cell? ⟨wr.heap.size, 3, none⟩ = some (.int .i64 x.t) ∧ wx.cell? ⟨wr.heap.size, 4, none⟩ = some (.int .i64 x.x) ∧ wx.cell? ⟨wr.heap.size, 5, none⟩ = some (.int .i64 x.z) ∧ wx.cell? ⟨wr.heap.size, 6, none⟩ = some (.int .i64 x.v) ∧ wx.cell? ⟨wr.heap.size, 7, none⟩ = some (.bool x.g)) := fun wx h => HCE.out wx h
   have hBd := hBc.drew
   replace hBc := hBd
   clear hBd
   refine wp_region_held_drew (S := (fun w' => w'.cell? ⟨wr.heap.size, 0, none⟩ = some (.string x.o) ∧ w'.cell? ⟨wr.heap.size, 1, none⟩ = some (.int .i64 x.r) ∧ w'.cell? ⟨wr.heap.size, 2, none⟩ = some (.int .i64 x.s) ∧ w'.cell? ⟨wr.heap.size, 3, none⟩ = some (.int .i64 x.t) ∧ w'.cell? ⟨wr.heap.size, 4, none⟩ = some (.int .i64 x.x) ∧ w'.cell? ⟨wr.heap.size, 5, none⟩ = some (.int .i64 x.z) ∧ w'.cell? ⟨wr.heap.size, 6, none⟩ = some (.int .i64 x.v) ∧ w'.cell? ⟨wr.heap.size, 7, none⟩ = some (.bool x.g))) (by kernel_rfl) (HS.out _ hBc) (fun _ => ?_)
   refine wpAnyH_list (l' := #[false, false, false, false, false, false, false, false, false, false, false, false, false, false, false, false, false, false, false, false, false, false, false, false, false, false, false, false, false, false, false, false, false, false, false, false, false, false, false, false, false, false, false, false, false, false, false, false, false, false]) (by as_aux_lemma => kernel_rfl) ?_
   refine tk 0 cvo0 (HS.out _ hBc) ?_; simp only [sq]; refine tk 1 cvo1 (HS.out _ hBc) ?_; simp only [sq]
   refine rd 2 cvo2 (fun K hK => ?_)
   go_simp
   refine (HD.out _).mono ?_
   rintro e wn ⟨rfl, hbn⟩
   replace hBc := hBc.trans (hbn.mono hBc.size)
   clear hbn
   try go_wp2_with fail
   refine hK.out _ _ (HS.out _ hBc) (fun _ => ?_)
   clear hK K
   try simp only [s1, s2, s3]
   refine tk 3 cvo3 (HS.out _ hBc) ?_; simp only [sq]; refine tk 4 cvo4 (HS.out _ hBc) ?_; simp only [sq]; refine tk 5 cvo5 (HS.out _ hBc) ?_; simp only [sq]; refine tk 6 cvo6 (HS.out _ hBc) ?_; simp only [sq]
   refine rd 7 cvo7 (fun K hK => ?_)
   go_simp
   refine (HN.out _).mono ?_
   rintro e wn ⟨rfl, hbn⟩
   replace hBc := hBc.trans (hbn.mono hBc.size)
   clear hbn
   try go_wp2_with fail
   refine hK.out _ _ (HS.out _ hBc) (fun _ => ?_)
   clear hK K
   try simp only [s1, s2, s3]
   refine tk 8 cvo8 (HS.out _ hBc) ?_; simp only [sq]; refine tk 9 cvo9 (HS.out _ hBc) ?_; simp only [sq]; refine tk 10 cvo10 (HS.out _ hBc) ?_; simp only [sq]; refine tk 11 cvo11 (HS.out _ hBc) ?_; simp only [sq]; refine tk 12 cvo12 (HS.out _ hBc) ?_; simp only [sq]
   refine rd 13 cvo13 (fun K hK => ?_)
   go_simp
   refine (HT.out _).mono ?_
   rintro e wn ⟨rfl, hbn⟩
   replace hBc := hBc.trans (hbn.mono hBc.size)
   clear hbn
   try go_wp2_with fail
   refine hK.out _ _ (HS.out _ hBc) (fun _ => ?_)
   clear hK K
   try simp only [s1, s2, s3]
   refine tk 14 cvo14 (HS.out _ hBc) ?_; simp only [sq]; refine tk 15 cvo15 (HS.out _ hBc) ?_; simp only [sq]; refine tk 16 cvo16 (HS.out _ hBc) ?_; simp only [sq]; refine sk 17 cvo17 (HS.out _ hBc) ?_; simp only [sq]; refine sk 18 cvo18 (HS.out _ hBc) ?_; simp only [sq]; refine sc 19 cvo19 (HS.out _ hBc) ?_; simp only [sq]; refine sk 20 cvo20 (HS.out _ hBc) ?_; simp only [sq]; refine tk 21 cvo21 (HS.out _ hBc) ?_; simp only [sq]; refine tk 22 cvo22 (HS.out _ hBc) ?_; simp only [sq]; refine sk 23 cvo23 (HS.out _ hBc) ?_; simp only [sq]; refine sk 24 cvo24 (HS.out _ hBc) ?_; simp only [sq]; refine sk 25 cvo25 (HS.out _ hBc) ?_; simp only [sq]; refine sk 26 cvo26 (HS.out _ hBc) ?_; simp only [sq]; refine sk 27 cvo27 (HS.out _ hBc) ?_; simp only [sq]; refine sk 28 cvo28 (HS.out _ hBc) ?_; simp only [sq]; refine sk 29 cvo29 (HS.out _ hBc) ?_; simp only [sq]; refine sc 30 cvo30 (HS.out _ hBc) ?_; simp only [sq]; refine sk 31 cvo31 (HS.out _ hBc) ?_; simp only [sq]; refine sk 32 cvo32 (HS.out _ hBc) ?_; simp only [sq]; refine tk 33 cvo33 (HS.out _ hBc) ?_; simp only [sq]; refine tk 34 cvo34 (HS.out _ hBc) ?_; simp only [sq]; refine sk 35 cvo35 (HS.out _ hBc) ?_; simp only [sq]; refine sk 36 cvo36 (HS.out _ hBc) ?_; simp only [sq]; refine sk 37 cvo37 (HS.out _ hBc) ?_; simp only [sq]; refine sk 38 cvo38 (HS.out _ hBc) ?_; simp only [sq]; refine sk 39 cvo39 (HS.out _ hBc) ?_; simp only [sq]; refine sk 40 cvo40 (HS.out _ hBc) ?_; simp only [sq]; refine sk 41 cvo41 (HS.out _ hBc) ?_; simp only [sq]; refine sk 42 cvo42 (HS.out _ hBc) ?_; simp only [sq]; refine sk 43 cvo43 (HS.out _ hBc) ?_; simp only [sq]; refine sk 44 cvo44 (HS.out _ hBc) ?_; simp only [sq]; refine sk 45 cvo45 (HS.out _ hBc) ?_; simp only [sq]; refine sc 46 cvo46 (HS.out _ hBc) ?_; simp only [sq]; refine sk 47 cvo47 (HS.out _ hBc) ?_; simp only [sq]; refine sk 48 cvo48 (HS.out _ hBc) ?_; simp only [sq]; refine tk 49 cvo49 (HS.out _ hBc) ?_; simp only [sq]
   refine wpAnyH_done (by as_aux_lemma => kernel_rfl) ?_ _
   have HBF := hidI (HBA.out.trans (hBc.mono HBA.out.size))
   go_wp2
   go_ret
   exact ⟨Tells.no HE.out, HBF.out⟩
  have hbh3 : (decide (1 ≤ x.t) && decide (x.t ≤ 10000)) = true := by simp [h3]
  rw [hbh3] at HT
  clear hbh3
  by_cases h4 : 0 ≤ x.v ∧ x.v ≤ 999999
  case neg =>
   have hbb : (decide (0 ≤ x.v) && decide (x.v ≤ 999999)) = false := by
    by_cases ha : 0 ≤ x.v <;> by_cases hb : x.v ≤ 999999 <;> simp [ha, hb] <;> exact h4 ⟨ha, hb⟩
   rw [hbb] at HV
   clear hbb
   have HE := hidI (HF1.out (fun h => h4 h.2.2.2.1))
   clear HF1 HF2 HMO h1 h2 h3 h4
   have HS : Hid (∀ wx, Below WW.heap.size WW wx → wx.cell? ⟨wr.heap.size, 0, none⟩ = some (.string x.o) ∧ wx.cell? ⟨wr.heap.size, 1, none⟩ = some (.int .i64 x.r) ∧ wx.cell? ⟨wr.heap.size, 2, none⟩ = some (.int .i64 x.s) ∧ wx.cell? ⟨wr.heap.size, 3, none⟩ = some (.int .i64 x.t) ∧ wx.cell? ⟨wr.heap.size, 4, none⟩ = some (.int .i64 x.x) ∧ wx.cell? ⟨wr.heap.size, 5, none⟩ = some (.int .i64 x.z) ∧ wx.cell? ⟨wr.heap.size, 6, none⟩ = some (.int .i64 x.v) ∧ wx.cell? ⟨wr.heap.size, 7, none⟩ = some (.bool x.g)) := fun wx h => HCE.out wx h
   have hBd := hBc.drew
   replace hBc := hBd
   clear hBd
   refine wp_region_held_drew (S := (fun w' => w'.cell? ⟨wr.heap.size, 0, none⟩ = some (.string x.o) ∧ w'.cell? ⟨wr.heap.size, 1, none⟩ = some (.int .i64 x.r) ∧ w'.cell? ⟨wr.heap.size, 2, none⟩ = some (.int .i64 x.s) ∧ w'.cell? ⟨wr.heap.size, 3, none⟩ = some (.int .i64 x.t) ∧ w'.cell? ⟨wr.heap.size, 4, none⟩ = some (.int .i64 x.x) ∧ w'.cell? ⟨wr.heap.size, 5, none⟩ = some (.int .i64 x.z) ∧ w'.cell? ⟨wr.heap.size, 6, none⟩ = some (.int .i64 x.v) ∧ w'.cell? ⟨wr.heap.size, 7, none⟩ = some (.bool x.g))) (by kernel_rfl) (HS.out _ hBc) (fun _ => ?_)
   refine wpAnyH_list (l' := #[false, false, false, false, false, false, false, false, false, false, false, false, false, false, false, false, false, false, false, false, false, false, false, false, false, false, false, false, false, false, false, false, false, false, false, false, false, false, false, false, false, false, false, false, false, false, false, false, false, false]) (by as_aux_lemma => kernel_rfl) ?_
   refine tk 0 cvo0 (HS.out _ hBc) ?_; simp only [sq]; refine tk 1 cvo1 (HS.out _ hBc) ?_; simp only [sq]
   refine rd 2 cvo2 (fun K hK => ?_)
   go_simp
   refine (HD.out _).mono ?_
   rintro e wn ⟨rfl, hbn⟩
   replace hBc := hBc.trans (hbn.mono hBc.size)
   clear hbn
   try go_wp2_with fail
   refine hK.out _ _ (HS.out _ hBc) (fun _ => ?_)
   clear hK K
   try simp only [s1, s2, s3]
   refine tk 3 cvo3 (HS.out _ hBc) ?_; simp only [sq]; refine tk 4 cvo4 (HS.out _ hBc) ?_; simp only [sq]; refine tk 5 cvo5 (HS.out _ hBc) ?_; simp only [sq]; refine tk 6 cvo6 (HS.out _ hBc) ?_; simp only [sq]
   refine rd 7 cvo7 (fun K hK => ?_)
   go_simp
   refine (HN.out _).mono ?_
   rintro e wn ⟨rfl, hbn⟩
   replace hBc := hBc.trans (hbn.mono hBc.size)
   clear hbn
   try go_wp2_with fail
   refine hK.out _ _ (HS.out _ hBc) (fun _ => ?_)
   clear hK K
   try simp only [s1, s2, s3]
   refine tk 8 cvo8 (HS.out _ hBc) ?_; simp only [sq]; refine tk 9 cvo9 (HS.out _ hBc) ?_; simp only [sq]; refine tk 10 cvo10 (HS.out _ hBc) ?_; simp only [sq]; refine tk 11 cvo11 (HS.out _ hBc) ?_; simp only [sq]; refine tk 12 cvo12 (HS.out _ hBc) ?_; simp only [sq]
   refine rd 13 cvo13 (fun K hK => ?_)
   go_simp
   refine (HT.out _).mono ?_
   rintro e wn ⟨rfl, hbn⟩
   replace hBc := hBc.trans (hbn.mono hBc.size)
   clear hbn
   try go_wp2_with fail
   refine hK.out _ _ (HS.out _ hBc) (fun _ => ?_)
   clear hK K
   try simp only [s1, s2, s3]
   refine tk 14 cvo14 (HS.out _ hBc) ?_; simp only [sq]; refine tk 15 cvo15 (HS.out _ hBc) ?_; simp only [sq]; refine tk 16 cvo16 (HS.out _ hBc) ?_; simp only [sq]; refine tk 17 cvo17 (HS.out _ hBc) ?_; simp only [sq]; refine tk 18 cvo18 (HS.out _ hBc) ?_; simp only [sq]
   refine rd 19 cvo19 (fun K hK => ?_)
   go_simp
   refine (HV.out _).mono ?_
   rintro e wn ⟨rfl, hbn⟩
   replace hBc := hBc.trans (hbn.mono hBc.size)
   clear hbn
   try go_wp2_with fail
   refine hK.out _ _ (HS.out _ hBc) (fun _ => ?_)
   clear hK K
   try simp only [s1, s2, s3]
   refine tk 20 cvo20 (HS.out _ hBc) ?_; simp only [sq]; refine tk 21 cvo21 (HS.out _ hBc) ?_; simp only [sq]; refine tk 22 cvo22 (HS.out _ hBc) ?_; simp only [sq]; refine sk 23 cvo23 (HS.out _ hBc) ?_; simp only [sq]; refine sk 24 cvo24 (HS.out _ hBc) ?_; simp only [sq]; refine sk 25 cvo25 (HS.out _ hBc) ?_; simp only [sq]; refine sk 26 cvo26 (HS.out _ hBc) ?_; simp only [sq]; refine sk 27 cvo27 (HS.out _ hBc) ?_; simp only [sq]; refine sk 28 cvo28 (HS.out _ hBc) ?_; simp only [sq]; refine sk 29 cvo29 (HS.out _ hBc) ?_; simp only [sq]; refine sc 30 cvo30 (HS.out _ hBc) ?_; simp only [sq]; refine sk 31 cvo31 (HS.out _ hBc) ?_; simp only [sq]; refine sk 32 cvo32 (HS.out _ hBc) ?_; simp only [sq]; refine tk 33 cvo33 (HS.out _ hBc) ?_; simp only [sq]; refine tk 34 cvo34 (HS.out _ hBc) ?_; simp only [sq]; refine sk 35 cvo35 (HS.out _ hBc) ?_; simp only [sq]; refine sk 36 cvo36 (HS.out _ hBc) ?_; simp only [sq]; refine sk 37 cvo37 (HS.out _ hBc) ?_; simp only [sq]; refine sk 38 cvo38 (HS.out _ hBc) ?_; simp only [sq]; refine sk 39 cvo39 (HS.out _ hBc) ?_; simp only [sq]; refine sk 40 cvo40 (HS.out _ hBc) ?_; simp only [sq]; refine sk 41 cvo41 (HS.out _ hBc) ?_; simp only [sq]; refine sk 42 cvo42 (HS.out _ hBc) ?_; simp only [sq]; refine sk 43 cvo43 (HS.out _ hBc) ?_; simp only [sq]; refine sk 44 cvo44 (HS.out _ hBc) ?_; simp only [sq]; refine sk 45 cvo45 (HS.out _ hBc) ?_; simp only [sq]; refine sc 46 cvo46 (HS.out _ hBc) ?_; simp only [sq]; refine sk 47 cvo47 (HS.out _ hBc) ?_; simp only [sq]; refine sk 48 cvo48 (HS.out _ hBc) ?_; simp only [sq]; refine tk 49 cvo49 (HS.out _ hBc) ?_; simp only [sq]
   refine wpAnyH_done (by as_aux_lemma => kernel_rfl) ?_ _
   have HBF := hidI (HBA.out.trans (hBc.mono HBA.out.size))
   go_wp2
   go_ret
   exact ⟨Tells.no HE.out, HBF.out⟩
  have hbh4 : (decide (0 ≤ x.v) && decide (x.v ≤ 999999)) = true := by simp [h4]
  rw [hbh4] at HV
  clear hbh4
  by_cases h5 : ¬ (x.x = 0 ∧ x.z = 0) ∧ ¬ DOk x.x x.z
  case pos =>
   have HE := hidI (HF1.out (fun h => h.2.2.2.2.elim (fun e => h5.1 e) (fun e => h5.2 e)))
   have heq : ∀ wx, (Op.equalIn 10000 33 (.agg #[.int .i64 x.x, .int .i64 x.z]) (.agg #[.int .i64 0, .int .i64 0])).run Tryz.prog wx = .ok false wx := fun wx => by rw [eqDot_zero, decide_eq_false h5.1]
   rw [decide_eq_false h5.2] at HR
   clear HF1 HF2 HMO h1 h2 h3 h4 h5
   have HS : Hid (∀ wx, Below WW.heap.size WW wx → wx.cell? ⟨wr.heap.size, 0, none⟩ = some (.string x.o) ∧ wx.cell? ⟨wr.heap.size, 1, none⟩ = some (.int .i64 x.r) ∧ wx.cell? ⟨wr.heap.size, 2, none⟩ = some (.int .i64 x.s) ∧ wx.cell? ⟨wr.heap.size, 3, none⟩ = some (.int .i64 x.t) ∧ wx.cell? ⟨wr.heap.size, 4, none⟩ = some (.int .i64 x.x) ∧ wx.cell? ⟨wr.heap.size, 5, none⟩ = some (.int .i64 x.z) ∧ wx.cell? ⟨wr.heap.size, 6, none⟩ = some (.int .i64 x.v) ∧ wx.cell? ⟨wr.heap.size, 7, none⟩ = some (.bool x.g)) := fun wx h => HCE.out wx h
   have hBd := hBc.drew
   replace hBc := hBd
   clear hBd
   refine wp_region_held_drew (S := (fun w' => w'.cell? ⟨wr.heap.size, 0, none⟩ = some (.string x.o) ∧ w'.cell? ⟨wr.heap.size, 1, none⟩ = some (.int .i64 x.r) ∧ w'.cell? ⟨wr.heap.size, 2, none⟩ = some (.int .i64 x.s) ∧ w'.cell? ⟨wr.heap.size, 3, none⟩ = some (.int .i64 x.t) ∧ w'.cell? ⟨wr.heap.size, 4, none⟩ = some (.int .i64 x.x) ∧ w'.cell? ⟨wr.heap.size, 5, none⟩ = some (.int .i64 x.z) ∧ w'.cell? ⟨wr.heap.size, 6, none⟩ = some (.int .i64 x.v) ∧ w'.cell? ⟨wr.heap.size, 7, none⟩ = some (.bool x.g))) (by kernel_rfl) (HS.out _ hBc) (fun _ => ?_)
   refine wpAnyH_list (l' := #[false, false, false, false, false, false, false, false, false, false, false, false, false, false, false, false, false, false, false, false, false, false, false, false, false, false, false, false, false, false, false, false, false, false, false, false, false, false, false, false, false, false, false, false, false, false, false, false, false, false]) (by as_aux_lemma => kernel_rfl) ?_
   refine tk 0 cvo0 (HS.out _ hBc) ?_; simp only [sq]; refine tk 1 cvo1 (HS.out _ hBc) ?_; simp only [sq]
   refine rd 2 cvo2 (fun K hK => ?_)
   go_simp
   refine (HD.out _).mono ?_
   rintro e wn ⟨rfl, hbn⟩
   replace hBc := hBc.trans (hbn.mono hBc.size)
   clear hbn
   try go_wp2_with fail
   refine hK.out _ _ (HS.out _ hBc) (fun _ => ?_)
   clear hK K
   try simp only [s1, s2, s3]
   refine tk 3 cvo3 (HS.out _ hBc) ?_; simp only [sq]; refine tk 4 cvo4 (HS.out _ hBc) ?_; simp only [sq]; refine tk 5 cvo5 (HS.out _ hBc) ?_; simp only [sq]; refine tk 6 cvo6 (HS.out _ hBc) ?_; simp only [sq]
   refine rd 7 cvo7 (fun K hK => ?_)
   go_simp
   refine (HN.out _).mono ?_
   rintro e wn ⟨rfl, hbn⟩
   replace hBc := hBc.trans (hbn.mono hBc.size)
   clear hbn
   try go_wp2_with fail
   refine hK.out _ _ (HS.out _ hBc) (fun _ => ?_)
   clear hK K
   try simp only [s1, s2, s3]
   refine tk 8 cvo8 (HS.out _ hBc) ?_; simp only [sq]; refine tk 9 cvo9 (HS.out _ hBc) ?_; simp only [sq]; refine tk 10 cvo10 (HS.out _ hBc) ?_; simp only [sq]; refine tk 11 cvo11 (HS.out _ hBc) ?_; simp only [sq]; refine tk 12 cvo12 (HS.out _ hBc) ?_; simp only [sq]
   refine rd 13 cvo13 (fun K hK => ?_)
   go_simp
   refine (HT.out _).mono ?_
   rintro e wn ⟨rfl, hbn⟩
   replace hBc := hBc.trans (hbn.mono hBc.size)
   clear hbn
   try go_wp2_with fail
   refine hK.out _ _ (HS.out _ hBc) (fun _ => ?_)
   clear hK K
   try simp only [s1, s2, s3]
   refine tk 14 cvo14 (HS.out _ hBc) ?_; simp only [sq]; refine tk 15 cvo15 (HS.out _ hBc) ?_; simp only [sq]; refine tk 16 cvo16 (HS.out _ hBc) ?_; simp only [sq]; refine tk 17 cvo17 (HS.out _ hBc) ?_; simp only [sq]; refine tk 18 cvo18 (HS.out _ hBc) ?_; simp only [sq]
   refine rd 19 cvo19 (fun K hK => ?_)
   go_simp
   refine (HV.out _).mono ?_
   rintro e wn ⟨rfl, hbn⟩
   replace hBc := hBc.trans (hbn.mono hBc.size)
   clear hbn
   try go_wp2_with fail
   refine hK.out _ _ (HS.out _ hBc) (fun _ => ?_)
   clear hK K
   try simp only [s1, s2, s3]
   refine tk 20 cvo20 (HS.out _ hBc) ?_; simp only [sq]; refine tk 21 cvo21 (HS.out _ hBc) ?_; simp only [sq]; refine tk 22 cvo22 (HS.out _ hBc) ?_; simp only [sq]; refine tk 23 cvo23 (HS.out _ hBc) ?_; simp only [sq]; refine tk 24 cvo24 (HS.out _ hBc) ?_; simp only [sq]; refine tk 25 cvo25 (HS.out _ hBc) ?_; simp only [sq]; refine tk 26 cvo26 (HS.out _ hBc) ?_; simp only [sq]; refine tk 27 cvo27 (HS.out _ hBc) ?_; simp only [sq]; refine tk 28 cvo28 (HS.out _ hBc) ?_; simp only [sq]; refine tk 29 cvo29 (HS.out _ hBc) ?_; simp only [sq]
   refine rd 30 cvo30 (fun K hK => ?_)
   go_simp
   refine (HR.out _).mono ?_
   rintro e wn ⟨rfl, hbn⟩
   replace hBc := hBc.trans (hbn.mono hBc.size)
   clear hbn
   try go_wp2_with fail
   refine hK.out _ _ (HS.out _ hBc) (fun _ => ?_)
   clear hK K
   try simp only [s1, s2, s3]
   refine tk 31 cvo31 (HS.out _ hBc) ?_; simp only [sq]; refine tk 32 cvo32 (HS.out _ hBc) ?_; simp only [sq]; refine tk 33 cvo33 (HS.out _ hBc) ?_; simp only [sq]; refine tk 34 cvo34 (HS.out _ hBc) ?_; simp only [sq]; refine sk 35 cvo35 (HS.out _ hBc) ?_; simp only [sq]; refine sk 36 cvo36 (HS.out _ hBc) ?_; simp only [sq]; refine sk 37 cvo37 (HS.out _ hBc) ?_; simp only [sq]; refine sk 38 cvo38 (HS.out _ hBc) ?_; simp only [sq]; refine sk 39 cvo39 (HS.out _ hBc) ?_; simp only [sq]; refine sk 40 cvo40 (HS.out _ hBc) ?_; simp only [sq]; refine sk 41 cvo41 (HS.out _ hBc) ?_; simp only [sq]; refine sk 42 cvo42 (HS.out _ hBc) ?_; simp only [sq]; refine sk 43 cvo43 (HS.out _ hBc) ?_; simp only [sq]; refine sk 44 cvo44 (HS.out _ hBc) ?_; simp only [sq]; refine sk 45 cvo45 (HS.out _ hBc) ?_; simp only [sq]; refine sc 46 cvo46 (HS.out _ hBc) ?_; simp only [sq]; refine sk 47 cvo47 (HS.out _ hBc) ?_; simp only [sq]; refine sk 48 cvo48 (HS.out _ hBc) ?_; simp only [sq]; refine tk 49 cvo49 (HS.out _ hBc) ?_; simp only [sq]
   refine wpAnyH_done (by as_aux_lemma => kernel_rfl) ?_ _
   have HBF := hidI (HBA.out.trans (hBc.mono HBA.out.size))
   go_wp2
   go_ret
   exact ⟨Tells.no HE.out, HBF.out⟩
  have HOX : Hid (ceOk x) := ⟨h1, h2, h3, h4, by by_cases hz : x.x = 0 ∧ x.z = 0; exact .inl hz; by_cases hd : DOk x.x x.z; exact .inr hd; exact absurd ⟨hz, hd⟩ h5⟩
  clear h1 h2 h3 h4 h5 HF1
  by_cases hz : x.x = 0 ∧ x.z = 0
  case pos =>
   have heq : ∀ wx, (Op.equalIn 10000 33 (.agg #[.int .i64 x.x, .int .i64 x.z]) (.agg #[.int .i64 0, .int .i64 0])).run Tryz.prog wx = .ok true wx := fun wx => by rw [eqDot_zero, decide_eq_true hz]
   clear hz
   by_cases hkz : k = 0
   case pos =>
    have HE := hidI (HMO.out HOX.out (fun h0 => by omega))
    clear HF2 HMO
    subst hkz
    have HS : Hid (∀ wx, Below WW.heap.size WW wx → wx.cell? ⟨wr.heap.size, 0, none⟩ = some (.string x.o) ∧ wx.cell? ⟨wr.heap.size, 1, none⟩ = some (.int .i64 x.r) ∧ wx.cell? ⟨wr.heap.size, 2, none⟩ = some (.int .i64 x.s) ∧ wx.cell? ⟨wr.heap.size, 3, none⟩ = some (.int .i64 x.t) ∧ wx.cell? ⟨wr.heap.size, 4, none⟩ = some (.int .i64 x.x) ∧ wx.cell? ⟨wr.heap.size, 5, none⟩ = some (.int .i64 x.z) ∧ wx.cell? ⟨wr.heap.size, 6, none⟩ = some (.int .i64 x.v) ∧ wx.cell? ⟨wr.heap.size, 7, none⟩ = some (.bool x.g)) := fun wx h => HCE.out wx h
    have hBd := hBc.drew
    replace hBc := hBd
    clear hBd
    refine wp_region_held_drew (S := (fun w' => w'.cell? ⟨wr.heap.size, 0, none⟩ = some (.string x.o) ∧ w'.cell? ⟨wr.heap.size, 1, none⟩ = some (.int .i64 x.r) ∧ w'.cell? ⟨wr.heap.size, 2, none⟩ = some (.int .i64 x.s) ∧ w'.cell? ⟨wr.heap.size, 3, none⟩ = some (.int .i64 x.t) ∧ w'.cell? ⟨wr.heap.size, 4, none⟩ = some (.int .i64 x.x) ∧ w'.cell? ⟨wr.heap.size, 5, none⟩ = some (.int .i64 x.z) ∧ w'.cell? ⟨wr.heap.size, 6, none⟩ = some (.int .i64 x.v) ∧ w'.cell? ⟨wr.heap.size, 7, none⟩ = some (.bool x.g))) (by kernel_rfl) (HS.out _ hBc) (fun _ => ?_)
    refine wpAnyH_list (l' := #[false, false, false, false, false, false, false, false, false, false, false, false, false, false, false, false, false, false, false, false, false, false, false, false, false, false, false, false, false, false, false, false, false, false, false, false, false, false, false, false, false, false, false, false, false, false, false, false, false, false]) (by as_aux_lemma => kernel_rfl) ?_
    refine tk 0 cvo0 (HS.out _ hBc) ?_; simp only [sq]; refine tk 1 cvo1 (HS.out _ hBc) ?_; simp only [sq]
    refine rd 2 cvo2 (fun K hK => ?_)
    go_simp
    refine (HD.out _).mono ?_
    rintro e wn ⟨rfl, hbn⟩
    replace hBc := hBc.trans (hbn.mono hBc.size)
    clear hbn
    try go_wp2_with fail
    refine hK.out _ _ (HS.out _ hBc) (fun _ => ?_)
    clear hK K
    try simp only [s1, s2, s3]
    refine tk 3 cvo3 (HS.out _ hBc) ?_; simp only [sq]; refine tk 4 cvo4 (HS.out _ hBc) ?_; simp only [sq]; refine tk 5 cvo5 (HS.out _ hBc) ?_; simp only [sq]; refine tk 6 cvo6 (HS.out _ hBc) ?_; simp only [sq]
    refine rd 7 cvo7 (fun K hK => ?_)
    go_simp
    refine (HN.out _).mono ?_
    rintro e wn ⟨rfl, hbn⟩
    replace hBc := hBc.trans (hbn.mono hBc.size)
    clear hbn
    try go_wp2_with fail
    refine hK.out _ _ (HS.out _ hBc) (fun _ => ?_)
    clear hK K
    try simp only [s1, s2, s3]
    refine tk 8 cvo8 (HS.out _ hBc) ?_; simp only [sq]; refine tk 9 cvo9 (HS.out _ hBc) ?_; simp only [sq]; refine tk 10 cvo10 (HS.out _ hBc) ?_; simp only [sq]; refine tk 11 cvo11 (HS.out _ hBc) ?_; simp only [sq]; refine tk 12 cvo12 (HS.out _ hBc) ?_; simp only [sq]
    refine rd 13 cvo13 (fun K hK => ?_)
    go_simp
    refine (HT.out _).mono ?_
    rintro e wn ⟨rfl, hbn⟩
    replace hBc := hBc.trans (hbn.mono hBc.size)
    clear hbn
    try go_wp2_with fail
    refine hK.out _ _ (HS.out _ hBc) (fun _ => ?_)
    clear hK K
    try simp only [s1, s2, s3]
    refine tk 14 cvo14 (HS.out _ hBc) ?_; simp only [sq]; refine tk 15 cvo15 (HS.out _ hBc) ?_; simp only [sq]; refine tk 16 cvo16 (HS.out _ hBc) ?_; simp only [sq]; refine tk 17 cvo17 (HS.out _ hBc) ?_; simp only [sq]; refine tk 18 cvo18 (HS.out _ hBc) ?_; simp only [sq]
    refine rd 19 cvo19 (fun K hK => ?_)
    go_simp
    refine (HV.out _).mono ?_
    rintro e wn ⟨rfl, hbn⟩
    replace hBc := hBc.trans (hbn.mono hBc.size)
    clear hbn
    try go_wp2_with fail
    refine hK.out _ _ (HS.out _ hBc) (fun _ => ?_)
    clear hK K
    try simp only [s1, s2, s3]
    refine tk 20 cvo20 (HS.out _ hBc) ?_; simp only [sq]; refine tk 21 cvo21 (HS.out _ hBc) ?_; simp only [sq]; refine tk 22 cvo22 (HS.out _ hBc) ?_; simp only [sq]; refine tk 23 cvo23 (HS.out _ hBc) ?_; simp only [sq]; refine tk 24 cvo24 (HS.out _ hBc) ?_; simp only [sq]; refine tk 25 cvo25 (HS.out _ hBc) ?_; simp only [sq]; refine tk 26 cvo26 (HS.out _ hBc) ?_; simp only [sq]; refine tk 27 cvo27 (HS.out _ hBc) ?_; simp only [sq]; refine sk 28 cvo28 (HS.out _ hBc) ?_; simp only [sq]; refine sk 29 cvo29 (HS.out _ hBc) ?_; simp only [sq]; refine sc 30 cvo30 (HS.out _ hBc) ?_; simp only [sq]; refine sk 31 cvo31 (HS.out _ hBc) ?_; simp only [sq]; refine tk 32 cvo32 (HS.out _ hBc) ?_; simp only [sq]; refine tk 33 cvo33 (HS.out _ hBc) ?_; simp only [sq]; refine tk 34 cvo34 (HS.out _ hBc) ?_; simp only [sq]; refine tk 35 cvo35 (HS.out _ hBc) ?_; simp only [sq]; refine tk 36 cvo36 (HS.out _ hBc) ?_; simp only [sq]; refine tk 37 cvo37 (HS.out _ hBc) ?_; simp only [sq]; refine sk 38 cvo38 (HS.out _ hBc) ?_; simp only [sq]; refine sk 39 cvo39 (HS.out _ hBc) ?_; simp only [sq]; refine sk 40 cvo40 (HS.out _ hBc) ?_; simp only [sq]; refine sk 41 cvo41 (HS.out _ hBc) ?_; simp only [sq]; refine sk 42 cvo42 (HS.out _ hBc) ?_; simp only [sq]; refine sk 43 cvo43 (HS.out _ hBc) ?_; simp only [sq]; refine sk 44 cvo44 (HS.out _ hBc) ?_; simp only [sq]; refine sk 45 cvo45 (HS.out _ hBc) ?_; simp only [sq]; refine sc 46 cvo46 (HS.out _ hBc) ?_; simp only [sq]; refine sk 47 cvo47 (HS.out _ hBc) ?_; simp only [sq]; refine tk 48 cvo48 (HS.out _ hBc) ?_; simp only [sq]; refine tk 49 cvo49 (HS.out _ hBc) ?_; simp only [sq]
    refine wpAnyH_done (by as_aux_lemma => kernel_rfl) ?_ _
    have HBF := hidI (HBA.out.trans (hBc.mono HBA.out.size))
    go_wp2
    go_roundw
    case rel => exact ⟨0 + 1, by omega, by go_num, HE.out, HBF.out⟩
    case measure => simp [intOf]; omega
   have hkp : (0 : Int) < k := by omega
   have hkpn : 0 < k := by omega
   have hkp1 : (1 : Int) ≤ (k : Int) := by omega
   have hq1 : (0 : Int) ≤ (k : Int) - 1 := by omega
   have hq2 : (k : Int) - 1 < n := by omega
   by_cases hbf : doLt p.r p.s x.r x.s
   case pos =>
    rw [decide_eq_true hbf] at HB4
    have HE := hidI (HMO.out HOX.out (fun _ => hbf))
    clear HF2 HMO hbf
    have HS : Hid (∀ wx, Below WW.heap.size WW wx → wx.cell? ⟨wr.heap.size, 0, none⟩ = some (.string x.o) ∧ wx.cell? ⟨wr.heap.size, 1, none⟩ = some (.int .i64 x.r) ∧ wx.cell? ⟨wr.heap.size, 2, none⟩ = some (.int .i64 x.s) ∧ wx.cell? ⟨wr.heap.size, 3, none⟩ = some (.int .i64 x.t) ∧ wx.cell? ⟨wr.heap.size, 4, none⟩ = some (.int .i64 x.x) ∧ wx.cell? ⟨wr.heap.size, 5, none⟩ = some (.int .i64 x.z) ∧ wx.cell? ⟨wr.heap.size, 6, none⟩ = some (.int .i64 x.v) ∧ wx.cell? ⟨wr.heap.size, 7, none⟩ = some (.bool x.g) ∧ wx.cell? ⟨g, f + (k - 1) * 8 + 1, none⟩ = some (.int .i64 p.r) ∧ wx.cell? ⟨g, f + (k - 1) * 8 + 2, none⟩ = some (.int .i64 p.s)) := fun wx h => by obtain ⟨a0, a1, a2, a3, a4, a5, a6, a7⟩ := HCE.out wx h; obtain ⟨b0, b1⟩ := HPP.out wx h; exact ⟨a0, a1, a2, a3, a4, a5, a6, a7, b0, b1⟩
    have hBd := hBc.drew
    replace hBc := hBd
    clear hBd
    refine wp_region_held_drew (S := (fun w' => w'.cell? ⟨wr.heap.size, 0, none⟩ = some (.string x.o) ∧ w'.cell? ⟨wr.heap.size, 1, none⟩ = some (.int .i64 x.r) ∧ w'.cell? ⟨wr.heap.size, 2, none⟩ = some (.int .i64 x.s) ∧ w'.cell? ⟨wr.heap.size, 3, none⟩ = some (.int .i64 x.t) ∧ w'.cell? ⟨wr.heap.size, 4, none⟩ = some (.int .i64 x.x) ∧ w'.cell? ⟨wr.heap.size, 5, none⟩ = some (.int .i64 x.z) ∧ w'.cell? ⟨wr.heap.size, 6, none⟩ = some (.int .i64 x.v) ∧ w'.cell? ⟨wr.heap.size, 7, none⟩ = some (.bool x.g) ∧ w'.cell? ⟨g, f + (k - 1) * 8 + 1, none⟩ = some (.int .i64 p.r) ∧ w'.cell? ⟨g, f + (k - 1) * 8 + 2, none⟩ = some (.int .i64 p.s))) (by kernel_rfl) (HS.out _ hBc) (fun _ => ?_)
    refine wpAnyH_list (l' := #[false, false, false, false, false, false, false, false, false, false, false, false, false, false, false, false, false, false, false, false, false, false, false, false, false, false, false, false, false, false, false, false, false, false, false, false, false, false, false, false, false, false, false, false, false, false, false, false, false, false]) (by as_aux_lemma => kernel_rfl) ?_
    refine tk 0 cvo0 (HS.out _ hBc) ?_; simp only [sq]; refine tk 1 cvo1 (HS.out _ hBc) ?_; simp only [sq]
    refine rd 2 cvo2 (fun K hK => ?_)
    go_simp
    refine (HD.out _).mono ?_
    rintro e wn ⟨rfl, hbn⟩
    replace hBc := hBc.trans (hbn.mono hBc.size)
    clear hbn
    try go_wp2_with fail
    refine hK.out _ _ (HS.out _ hBc) (fun _ => ?_)
    clear hK K
    try simp only [s1, s2, s3]
    refine tk 3 cvo3 (HS.out _ hBc) ?_; simp only [sq]; refine tk 4 cvo4 (HS.out _ hBc) ?_; simp only [sq]; refine tk 5 cvo5 (HS.out _ hBc) ?_; simp only [sq]; refine tk 6 cvo6 (HS.out _ hBc) ?_; simp only [sq]
    refine rd 7 cvo7 (fun K hK => ?_)
    go_simp
    refine (HN.out _).mono ?_
    rintro e wn ⟨rfl, hbn⟩
    replace hBc := hBc.trans (hbn.mono hBc.size)
    clear hbn
    try go_wp2_with fail
    refine hK.out _ _ (HS.out _ hBc) (fun _ => ?_)
    clear hK K
    try simp only [s1, s2, s3]
    refine tk 8 cvo8 (HS.out _ hBc) ?_; simp only [sq]; refine tk 9 cvo9 (HS.out _ hBc) ?_; simp only [sq]; refine tk 10 cvo10 (HS.out _ hBc) ?_; simp only [sq]; refine tk 11 cvo11 (HS.out _ hBc) ?_; simp only [sq]; refine tk 12 cvo12 (HS.out _ hBc) ?_; simp only [sq]
    refine rd 13 cvo13 (fun K hK => ?_)
    go_simp
    refine (HT.out _).mono ?_
    rintro e wn ⟨rfl, hbn⟩
    replace hBc := hBc.trans (hbn.mono hBc.size)
    clear hbn
    try go_wp2_with fail
    refine hK.out _ _ (HS.out _ hBc) (fun _ => ?_)
    clear hK K
    try simp only [s1, s2, s3]
    refine tk 14 cvo14 (HS.out _ hBc) ?_; simp only [sq]; refine tk 15 cvo15 (HS.out _ hBc) ?_; simp only [sq]; refine tk 16 cvo16 (HS.out _ hBc) ?_; simp only [sq]; refine tk 17 cvo17 (HS.out _ hBc) ?_; simp only [sq]; refine tk 18 cvo18 (HS.out _ hBc) ?_; simp only [sq]
    refine rd 19 cvo19 (fun K hK => ?_)
    go_simp
    refine (HV.out _).mono ?_
    rintro e wn ⟨rfl, hbn⟩
    replace hBc := hBc.trans (hbn.mono hBc.size)
    clear hbn
    try go_wp2_with fail
    refine hK.out _ _ (HS.out _ hBc) (fun _ => ?_)
    clear hK K
    try simp only [s1, s2, s3]
    refine tk 20 cvo20 (HS.out _ hBc) ?_; simp only [sq]; refine tk 21 cvo21 (HS.out _ hBc) ?_; simp only [sq]; refine tk 22 cvo22 (HS.out _ hBc) ?_; simp only [sq]; refine tk 23 cvo23 (HS.out _ hBc) ?_; simp only [sq]; refine tk 24 cvo24 (HS.out _ hBc) ?_; simp only [sq]; refine tk 25 cvo25 (HS.out _ hBc) ?_; simp only [sq]; refine tk 26 cvo26 (HS.out _ hBc) ?_; simp only [sq]; refine tk 27 cvo27 (HS.out _ hBc) ?_; simp only [sq]; refine sk 28 cvo28 (HS.out _ hBc) ?_; simp only [sq]; refine sk 29 cvo29 (HS.out _ hBc) ?_; simp only [sq]; refine sc 30 cvo30 (HS.out _ hBc) ?_; simp only [sq]; refine sk 31 cvo31 (HS.out _ hBc) ?_; simp only [sq]; refine tk 32 cvo32 (HS.out _ hBc) ?_; simp only [sq]; refine tk 33 cvo33 (HS.out _ hBc) ?_; simp only [sq]; refine tk 34 cvo34 (HS.out _ hBc) ?_; simp only [sq]; refine tk 35 cvo35 (HS.out _ hBc) ?_; simp only [sq]; refine tk 36 cvo36 (HS.out _ hBc) ?_; simp only [sq]; refine tk 37 cvo37 (HS.out _ hBc) ?_; simp only [sq]; refine tk 38 cvo38 (HS.out _ hBc) ?_; simp only [sq]; refine tk 39 cvo39 (HS.out _ hBc) ?_; simp only [sq]; refine tk 40 cvo40 (HS.out _ hBc) ?_; simp only [sq]; refine tk 41 cvo41 (HS.out _ hBc) ?_; simp only [sq]; refine tk 42 cvo42 (HS.out _ hBc) ?_; simp only [sq]; refine tk 43 cvo43 (HS.out _ hBc) ?_; simp only [sq]; refine tk 44 cvo44 (HS.out _ hBc) ?_; simp only [sq]; refine tk 45 cvo45 (HS.out _ hBc) ?_; simp only [sq]
    refine rd 46 cvo46 (fun K hK => ?_)
    go_simp
    refine (HB4.out _).mono ?_
    rintro e wn ⟨rfl, hbn⟩
    replace hBc := hBc.trans (hbn.mono hBc.size)
    clear hbn
    try go_wp2_with fail
    refine hK.out _ _ (HS.out _ hBc) (fun _ => ?_)
    clear hK K
    try simp only [s1, s2, s3]
    refine tk 47 cvo47 (HS.out _ hBc) ?_; simp only [sq]; refine tk 48 cvo48 (HS.out _ hBc) ?_; simp only [sq]; refine tk 49 cvo49 (HS.out _ hBc) ?_; simp only [sq]
    refine wpAnyH_done (by as_aux_lemma => kernel_rfl) ?_ _
    have HBF := hidI (HBA.out.trans (hBc.mono HBA.out.size))
    go_wp2
    go_roundw
    case rel => exact ⟨k + 1, by omega, by go_num, HE.out, HBF.out⟩
    case measure => simp [intOf]; omega
   rw [decide_eq_false hbf] at HB4
   have HE := hidI (HF2.out (by omega) (fun h => hbf h))
   clear HF2 HMO hbf
   have HS : Hid (∀ wx, Below WW.heap.size WW wx → wx.cell? ⟨wr.heap.size, 0, none⟩ = some (.string x.o) ∧ wx.cell? ⟨wr.heap.size, 1, none⟩ = some (.int .i64 x.r) ∧ wx.cell? ⟨wr.heap.size, 2, none⟩ = some (.int .i64 x.s) ∧ wx.cell? ⟨wr.heap.size, 3, none⟩ = some (.int .i64 x.t) ∧ wx.cell? ⟨wr.heap.size, 4, none⟩ = some (.int .i64 x.x) ∧ wx.cell? ⟨wr.heap.size, 5, none⟩ = some (.int .i64 x.z) ∧ wx.cell? ⟨wr.heap.size, 6, none⟩ = some (.int .i64 x.v) ∧ wx.cell? ⟨wr.heap.size, 7, none⟩ = some (.bool x.g) ∧ wx.cell? ⟨g, f + (k - 1) * 8 + 1, none⟩ = some (.int .i64 p.r) ∧ wx.cell? ⟨g, f + (k - 1) * 8 + 2, none⟩ = some (.int .i64 p.s)) := fun wx h => by obtain ⟨a0, a1, a2, a3, a4, a5, a6, a7⟩ := HCE.out wx h; obtain ⟨b0, b1⟩ := HPP.out wx h; exact ⟨a0, a1, a2, a3, a4, a5, a6, a7, b0, b1⟩
   have hBd := hBc.drew
   replace hBc := hBd
   clear hBd
   refine wp_region_held_drew (S := (fun w' => w'.cell? ⟨wr.heap.size, 0, none⟩ = some (.string x.o) ∧ w'.cell? ⟨wr.heap.size, 1, none⟩ = some (.int .i64 x.r) ∧ w'.cell? ⟨wr.heap.size, 2, none⟩ = some (.int .i64 x.s) ∧ w'.cell? ⟨wr.heap.size, 3, none⟩ = some (.int .i64 x.t) ∧ w'.cell? ⟨wr.heap.size, 4, none⟩ = some (.int .i64 x.x) ∧ w'.cell? ⟨wr.heap.size, 5, none⟩ = some (.int .i64 x.z) ∧ w'.cell? ⟨wr.heap.size, 6, none⟩ = some (.int .i64 x.v) ∧ w'.cell? ⟨wr.heap.size, 7, none⟩ = some (.bool x.g) ∧ w'.cell? ⟨g, f + (k - 1) * 8 + 1, none⟩ = some (.int .i64 p.r) ∧ w'.cell? ⟨g, f + (k - 1) * 8 + 2, none⟩ = some (.int .i64 p.s))) (by kernel_rfl) (HS.out _ hBc) (fun _ => ?_)
   refine wpAnyH_list (l' := #[false, false, false, false, false, false, false, false, false, false, false, false, false, false, false, false, false, false, false, false, false, false, false, false, false, false, false, false, false, false, false, false, false, false, false, false, false, false, false, false, false, false, false, false, false, false, false, false, false, false]) (by as_aux_lemma => kernel_rfl) ?_
   refine tk 0 cvo0 (HS.out _ hBc) ?_; simp only [sq]; refine tk 1 cvo1 (HS.out _ hBc) ?_; simp only [sq]
   refine rd 2 cvo2 (fun K hK => ?_)
   go_simp
   refine (HD.out _).mono ?_
   rintro e wn ⟨rfl, hbn⟩
   replace hBc := hBc.trans (hbn.mono hBc.size)
   clear hbn
   try go_wp2_with fail
   refine hK.out _ _ (HS.out _ hBc) (fun _ => ?_)
   clear hK K
   try simp only [s1, s2, s3]
   refine tk 3 cvo3 (HS.out _ hBc) ?_; simp only [sq]; refine tk 4 cvo4 (HS.out _ hBc) ?_; simp only [sq]; refine tk 5 cvo5 (HS.out _ hBc) ?_; simp only [sq]; refine tk 6 cvo6 (HS.out _ hBc) ?_; simp only [sq]
   refine rd 7 cvo7 (fun K hK => ?_)
   go_simp
   refine (HN.out _).mono ?_
   rintro e wn ⟨rfl, hbn⟩
   replace hBc := hBc.trans (hbn.mono hBc.size)
   clear hbn
   try go_wp2_with fail
   refine hK.out _ _ (HS.out _ hBc) (fun _ => ?_)
   clear hK K
   try simp only [s1, s2, s3]
   refine tk 8 cvo8 (HS.out _ hBc) ?_; simp only [sq]; refine tk 9 cvo9 (HS.out _ hBc) ?_; simp only [sq]; refine tk 10 cvo10 (HS.out _ hBc) ?_; simp only [sq]; refine tk 11 cvo11 (HS.out _ hBc) ?_; simp only [sq]; refine tk 12 cvo12 (HS.out _ hBc) ?_; simp only [sq]
   refine rd 13 cvo13 (fun K hK => ?_)
   go_simp
   refine (HT.out _).mono ?_
   rintro e wn ⟨rfl, hbn⟩
   replace hBc := hBc.trans (hbn.mono hBc.size)
   clear hbn
   try go_wp2_with fail
   refine hK.out _ _ (HS.out _ hBc) (fun _ => ?_)
   clear hK K
   try simp only [s1, s2, s3]
   refine tk 14 cvo14 (HS.out _ hBc) ?_; simp only [sq]; refine tk 15 cvo15 (HS.out _ hBc) ?_; simp only [sq]; refine tk 16 cvo16 (HS.out _ hBc) ?_; simp only [sq]; refine tk 17 cvo17 (HS.out _ hBc) ?_; simp only [sq]; refine tk 18 cvo18 (HS.out _ hBc) ?_; simp only [sq]
   refine rd 19 cvo19 (fun K hK => ?_)
   go_simp
   refine (HV.out _).mono ?_
   rintro e wn ⟨rfl, hbn⟩
   replace hBc := hBc.trans (hbn.mono hBc.size)
   clear hbn
   try go_wp2_with fail
   refine hK.out _ _ (HS.out _ hBc) (fun _ => ?_)
   clear hK K
   try simp only [s1, s2, s3]
   refine tk 20 cvo20 (HS.out _ hBc) ?_; simp only [sq]; refine tk 21 cvo21 (HS.out _ hBc) ?_; simp only [sq]; refine tk 22 cvo22 (HS.out _ hBc) ?_; simp only [sq]; refine tk 23 cvo23 (HS.out _ hBc) ?_; simp only [sq]; refine tk 24 cvo24 (HS.out _ hBc) ?_; simp only [sq]; refine tk 25 cvo25 (HS.out _ hBc) ?_; simp only [sq]; refine tk 26 cvo26 (HS.out _ hBc) ?_; simp only [sq]; refine tk 27 cvo27 (HS.out _ hBc) ?_; simp only [sq]; refine sk 28 cvo28 (HS.out _ hBc) ?_; simp only [sq]; refine sk 29 cvo29 (HS.out _ hBc) ?_; simp only [sq]; refine sc 30 cvo30 (HS.out _ hBc) ?_; simp only [sq]; refine sk 31 cvo31 (HS.out _ hBc) ?_; simp only [sq]; refine tk 32 cvo32 (HS.out _ hBc) ?_; simp only [sq]; refine tk 33 cvo33 (HS.out _ hBc) ?_; simp only [sq]; refine tk 34 cvo34 (HS.out _ hBc) ?_; simp only [sq]; refine tk 35 cvo35 (HS.out _ hBc) ?_; simp only [sq]; refine tk 36 cvo36 (HS.out _ hBc) ?_; simp only [sq]; refine tk 37 cvo37 (HS.out _ hBc) ?_; simp only [sq]; refine tk 38 cvo38 (HS.out _ hBc) ?_; simp only [sq]; refine tk 39 cvo39 (HS.out _ hBc) ?_; simp only [sq]; refine tk 40 cvo40 (HS.out _ hBc) ?_; simp only [sq]; refine tk 41 cvo41 (HS.out _ hBc) ?_; simp only [sq]; refine tk 42 cvo42 (HS.out _ hBc) ?_; simp only [sq]; refine tk 43 cvo43 (HS.out _ hBc) ?_; simp only [sq]; refine tk 44 cvo44 (HS.out _ hBc) ?_; simp only [sq]; refine tk 45 cvo45 (HS.out _ hBc) ?_; simp only [sq]
   refine rd 46 cvo46 (fun K hK => ?_)
   go_simp
   refine (HB4.out _).mono ?_
   rintro e wn ⟨rfl, hbn⟩
   replace hBc := hBc.trans (hbn.mono hBc.size)
   clear hbn
   try go_wp2_with fail
   refine hK.out _ _ (HS.out _ hBc) (fun _ => ?_)
   clear hK K
   try simp only [s1, s2, s3]
   refine tk 47 cvo47 (HS.out _ hBc) ?_; simp only [sq]; refine tk 48 cvo48 (HS.out _ hBc) ?_; simp only [sq]; refine tk 49 cvo49 (HS.out _ hBc) ?_; simp only [sq]
   refine wpAnyH_done (by as_aux_lemma => kernel_rfl) ?_ _
   have HBF := hidI (HBA.out.trans (hBc.mono HBA.out.size))
   go_wp2
   go_ret
   exact ⟨Tells.no HE.out, HBF.out⟩
  have hd : DOk x.x x.z := HOX.out.2.2.2.2.elim (fun e => absurd e hz) id
  have heq : ∀ wx, (Op.equalIn 10000 33 (.agg #[.int .i64 x.x, .int .i64 x.z]) (.agg #[.int .i64 0, .int .i64 0])).run Tryz.prog wx = .ok false wx := fun wx => by rw [eqDot_zero, decide_eq_false hz]
  rw [decide_eq_true hd] at HR
  clear hz hd
  by_cases hkz : k = 0
  case pos =>
   have HE := hidI (HMO.out HOX.out (fun h0 => by omega))
   clear HF2 HMO
   subst hkz
   have HS : Hid (∀ wx, Below WW.heap.size WW wx → wx.cell? ⟨wr.heap.size, 0, none⟩ = some (.string x.o) ∧ wx.cell? ⟨wr.heap.size, 1, none⟩ = some (.int .i64 x.r) ∧ wx.cell? ⟨wr.heap.size, 2, none⟩ = some (.int .i64 x.s) ∧ wx.cell? ⟨wr.heap.size, 3, none⟩ = some (.int .i64 x.t) ∧ wx.cell? ⟨wr.heap.size, 4, none⟩ = some (.int .i64 x.x) ∧ wx.cell? ⟨wr.heap.size, 5, none⟩ = some (.int .i64 x.z) ∧ wx.cell? ⟨wr.heap.size, 6, none⟩ = some (.int .i64 x.v) ∧ wx.cell? ⟨wr.heap.size, 7, none⟩ = some (.bool x.g)) := fun wx h => HCE.out wx h
   have hBd := hBc.drew
   replace hBc := hBd
   clear hBd
   refine wp_region_held_drew (S := (fun w' => w'.cell? ⟨wr.heap.size, 0, none⟩ = some (.string x.o) ∧ w'.cell? ⟨wr.heap.size, 1, none⟩ = some (.int .i64 x.r) ∧ w'.cell? ⟨wr.heap.size, 2, none⟩ = some (.int .i64 x.s) ∧ w'.cell? ⟨wr.heap.size, 3, none⟩ = some (.int .i64 x.t) ∧ w'.cell? ⟨wr.heap.size, 4, none⟩ = some (.int .i64 x.x) ∧ w'.cell? ⟨wr.heap.size, 5, none⟩ = some (.int .i64 x.z) ∧ w'.cell? ⟨wr.heap.size, 6, none⟩ = some (.int .i64 x.v) ∧ w'.cell? ⟨wr.heap.size, 7, none⟩ = some (.bool x.g))) (by kernel_rfl) (HS.out _ hBc) (fun _ => ?_)
   refine wpAnyH_list (l' := #[false, false, false, false, false, false, false, false, false, false, false, false, false, false, false, false, false, false, false, false, false, false, false, false, false, false, false, false, false, false, false, false, false, false, false, false, false, false, false, false, false, false, false, false, false, false, false, false, false, false]) (by as_aux_lemma => kernel_rfl) ?_
   refine tk 0 cvo0 (HS.out _ hBc) ?_; simp only [sq]; refine tk 1 cvo1 (HS.out _ hBc) ?_; simp only [sq]
   refine rd 2 cvo2 (fun K hK => ?_)
   go_simp
   refine (HD.out _).mono ?_
   rintro e wn ⟨rfl, hbn⟩
   replace hBc := hBc.trans (hbn.mono hBc.size)
   clear hbn
   try go_wp2_with fail
   refine hK.out _ _ (HS.out _ hBc) (fun _ => ?_)
   clear hK K
   try simp only [s1, s2, s3]
   refine tk 3 cvo3 (HS.out _ hBc) ?_; simp only [sq]; refine tk 4 cvo4 (HS.out _ hBc) ?_; simp only [sq]; refine tk 5 cvo5 (HS.out _ hBc) ?_; simp only [sq]; refine tk 6 cvo6 (HS.out _ hBc) ?_; simp only [sq]
   refine rd 7 cvo7 (fun K hK => ?_)
   go_simp
   refine (HN.out _).mono ?_
   rintro e wn ⟨rfl, hbn⟩
   replace hBc := hBc.trans (hbn.mono hBc.size)
   clear hbn
   try go_wp2_with fail
   refine hK.out _ _ (HS.out _ hBc) (fun _ => ?_)
   clear hK K
   try simp only [s1, s2, s3]
   refine tk 8 cvo8 (HS.out _ hBc) ?_; simp only [sq]; refine tk 9 cvo9 (HS.out _ hBc) ?_; simp only [sq]; refine tk 10 cvo10 (HS.out _ hBc) ?_; simp only [sq]; refine tk 11 cvo11 (HS.out _ hBc) ?_; simp only [sq]; refine tk 12 cvo12 (HS.out _ hBc) ?_; simp only [sq]
   refine rd 13 cvo13 (fun K hK => ?_)
   go_simp
   refine (HT.out _).mono ?_
   rintro e wn ⟨rfl, hbn⟩
   replace hBc := hBc.trans (hbn.mono hBc.size)
   clear hbn
   try go_wp2_with fail
   refine hK.out _ _ (HS.out _ hBc) (fun _ => ?_)
   clear hK K
   try simp only [s1, s2, s3]
   refine tk 14 cvo14 (HS.out _ hBc) ?_; simp only [sq]; refine tk 15 cvo15 (HS.out _ hBc) ?_; simp only [sq]; refine tk 16 cvo16 (HS.out _ hBc) ?_; simp only [sq]; refine tk 17 cvo17 (HS.out _ hBc) ?_; simp only [sq]; refine tk 18 cvo18 (HS.out _ hBc) ?_; simp only [sq]
   refine rd 19 cvo19 (fun K hK => ?_)
   go_simp
   refine (HV.out _).mono ?_
   rintro e wn ⟨rfl, hbn⟩
   replace hBc := hBc.trans (hbn.mono hBc.size)
   clear hbn
   try go_wp2_with fail
   refine hK.out _ _ (HS.out _ hBc) (fun _ => ?_)
   clear hK K
   try simp only [s1, s2, s3]
   refine tk 20 cvo20 (HS.out _ hBc) ?_; simp only [sq]; refine tk 21 cvo21 (HS.out _ hBc) ?_; simp only [sq]; refine tk 22 cvo22 (HS.out _ hBc) ?_; simp only [sq]; refine tk 23 cvo23 (HS.out _ hBc) ?_; simp only [sq]; refine tk 24 cvo24 (HS.out _ hBc) ?_; simp only [sq]; refine tk 25 cvo25 (HS.out _ hBc) ?_; simp only [sq]; refine tk 26 cvo26 (HS.out _ hBc) ?_; simp only [sq]; refine tk 27 cvo27 (HS.out _ hBc) ?_; simp only [sq]; refine tk 28 cvo28 (HS.out _ hBc) ?_; simp only [sq]; refine tk 29 cvo29 (HS.out _ hBc) ?_; simp only [sq]
   refine rd 30 cvo30 (fun K hK => ?_)
   go_simp
   refine (HR.out _).mono ?_
   rintro e wn ⟨rfl, hbn⟩
   replace hBc := hBc.trans (hbn.mono hBc.size)
   clear hbn
   try go_wp2_with fail
   refine hK.out _ _ (HS.out _ hBc) (fun _ => ?_)
   clear hK K
   try simp only [s1, s2, s3]
   refine tk 31 cvo31 (HS.out _ hBc) ?_; simp only [sq]; refine tk 32 cvo32 (HS.out _ hBc) ?_; simp only [sq]; refine tk 33 cvo33 (HS.out _ hBc) ?_; simp only [sq]; refine tk 34 cvo34 (HS.out _ hBc) ?_; simp only [sq]; refine tk 35 cvo35 (HS.out _ hBc) ?_; simp only [sq]; refine tk 36 cvo36 (HS.out _ hBc) ?_; simp only [sq]; refine tk 37 cvo37 (HS.out _ hBc) ?_; simp only [sq]; refine sk 38 cvo38 (HS.out _ hBc) ?_; simp only [sq]; refine sk 39 cvo39 (HS.out _ hBc) ?_; simp only [sq]; refine sk 40 cvo40 (HS.out _ hBc) ?_; simp only [sq]; refine sk 41 cvo41 (HS.out _ hBc) ?_; simp only [sq]; refine sk 42 cvo42 (HS.out _ hBc) ?_; simp only [sq]; refine sk 43 cvo43 (HS.out _ hBc) ?_; simp only [sq]; refine sk 44 cvo44 (HS.out _ hBc) ?_; simp only [sq]; refine sk 45 cvo45 (HS.out _ hBc) ?_; simp only [sq]; refine sc 46 cvo46 (HS.out _ hBc) ?_; simp only [sq]; refine sk 47 cvo47 (HS.out _ hBc) ?_; simp only [sq]; refine tk 48 cvo48 (HS.out _ hBc) ?_; simp only [sq]; refine tk 49 cvo49 (HS.out _ hBc) ?_; simp only [sq]
   refine wpAnyH_done (by as_aux_lemma => kernel_rfl) ?_ _
   have HBF := hidI (HBA.out.trans (hBc.mono HBA.out.size))
   go_wp2
   go_roundw
   case rel => exact ⟨0 + 1, by omega, by go_num, HE.out, HBF.out⟩
   case measure => simp [intOf]; omega
  have hkp : (0 : Int) < k := by omega
  have hkpn : 0 < k := by omega
  have hkp1 : (1 : Int) ≤ (k : Int) := by omega
  have hq1 : (0 : Int) ≤ (k : Int) - 1 := by omega
  have hq2 : (k : Int) - 1 < n := by omega
  by_cases hbf : doLt p.r p.s x.r x.s
  case pos =>
   rw [decide_eq_true hbf] at HB4
   have HE := hidI (HMO.out HOX.out (fun _ => hbf))
   clear HF2 HMO hbf
   have HS : Hid (∀ wx, Below WW.heap.size WW wx → wx.cell? ⟨wr.heap.size, 0, none⟩ = some (.string x.o) ∧ wx.cell? ⟨wr.heap.size, 1, none⟩ = some (.int .i64 x.r) ∧ wx.cell? ⟨wr.heap.size, 2, none⟩ = some (.int .i64 x.s) ∧ wx.cell? ⟨wr.heap.size, 3, none⟩ = some (.int .i64 x.t) ∧ wx.cell? ⟨wr.heap.size, 4, none⟩ = some (.int .i64 x.x) ∧ wx.cell? ⟨wr.heap.size, 5, none⟩ = some (.int .i64 x.z) ∧ wx.cell? ⟨wr.heap.size, 6, none⟩ = some (.int .i64 x.v) ∧ wx.cell? ⟨wr.heap.size, 7, none⟩ = some (.bool x.g) ∧ wx.cell? ⟨g, f + (k - 1) * 8 + 1, none⟩ = some (.int .i64 p.r) ∧ wx.cell? ⟨g, f + (k - 1) * 8 + 2, none⟩ = some (.int .i64 p.s)) := fun wx h => by obtain ⟨a0, a1, a2, a3, a4, a5, a6, a7⟩ := HCE.out wx h; obtain ⟨b0, b1⟩ := HPP.out wx h; exact ⟨a0, a1, a2, a3, a4, a5, a6, a7, b0, b1⟩
   have hBd := hBc.drew
   replace hBc := hBd
   clear hBd
   refine wp_region_held_drew (S := (fun w' => w'.cell? ⟨wr.heap.size, 0, none⟩ = some (.string x.o) ∧ w'.cell? ⟨wr.heap.size, 1, none⟩ = some (.int .i64 x.r) ∧ w'.cell? ⟨wr.heap.size, 2, none⟩ = some (.int .i64 x.s) ∧ w'.cell? ⟨wr.heap.size, 3, none⟩ = some (.int .i64 x.t) ∧ w'.cell? ⟨wr.heap.size, 4, none⟩ = some (.int .i64 x.x) ∧ w'.cell? ⟨wr.heap.size, 5, none⟩ = some (.int .i64 x.z) ∧ w'.cell? ⟨wr.heap.size, 6, none⟩ = some (.int .i64 x.v) ∧ w'.cell? ⟨wr.heap.size, 7, none⟩ = some (.bool x.g) ∧ w'.cell? ⟨g, f + (k - 1) * 8 + 1, none⟩ = some (.int .i64 p.r) ∧ w'.cell? ⟨g, f + (k - 1) * 8 + 2, none⟩ = some (.int .i64 p.s))) (by kernel_rfl) (HS.out _ hBc) (fun _ => ?_)
   refine wpAnyH_list (l' := #[false, false, false, false, false, false, false, false, false, false, false, false, false, false, false, false, false, false, false, false, false, false, false, false, false, false, false, false, false, false, false, false, false, false, false, false, false, false, false, false, false, false, false, false, false, false, false, false, false, false]) (by as_aux_lemma => kernel_rfl) ?_
   refine tk 0 cvo0 (HS.out _ hBc) ?_; simp only [sq]; refine tk 1 cvo1 (HS.out _ hBc) ?_; simp only [sq]
   refine rd 2 cvo2 (fun K hK => ?_)
   go_simp
   refine (HD.out _).mono ?_
   rintro e wn ⟨rfl, hbn⟩
   replace hBc := hBc.trans (hbn.mono hBc.size)
   clear hbn
   try go_wp2_with fail
   refine hK.out _ _ (HS.out _ hBc) (fun _ => ?_)
   clear hK K
   try simp only [s1, s2, s3]
   refine tk 3 cvo3 (HS.out _ hBc) ?_; simp only [sq]; refine tk 4 cvo4 (HS.out _ hBc) ?_; simp only [sq]; refine tk 5 cvo5 (HS.out _ hBc) ?_; simp only [sq]; refine tk 6 cvo6 (HS.out _ hBc) ?_; simp only [sq]
   refine rd 7 cvo7 (fun K hK => ?_)
   go_simp
   refine (HN.out _).mono ?_
   rintro e wn ⟨rfl, hbn⟩
   replace hBc := hBc.trans (hbn.mono hBc.size)
   clear hbn
   try go_wp2_with fail
   refine hK.out _ _ (HS.out _ hBc) (fun _ => ?_)
   clear hK K
   try simp only [s1, s2, s3]
   refine tk 8 cvo8 (HS.out _ hBc) ?_; simp only [sq]; refine tk 9 cvo9 (HS.out _ hBc) ?_; simp only [sq]; refine tk 10 cvo10 (HS.out _ hBc) ?_; simp only [sq]; refine tk 11 cvo11 (HS.out _ hBc) ?_; simp only [sq]; refine tk 12 cvo12 (HS.out _ hBc) ?_; simp only [sq]
   refine rd 13 cvo13 (fun K hK => ?_)
   go_simp
   refine (HT.out _).mono ?_
   rintro e wn ⟨rfl, hbn⟩
   replace hBc := hBc.trans (hbn.mono hBc.size)
   clear hbn
   try go_wp2_with fail
   refine hK.out _ _ (HS.out _ hBc) (fun _ => ?_)
   clear hK K
   try simp only [s1, s2, s3]
   refine tk 14 cvo14 (HS.out _ hBc) ?_; simp only [sq]; refine tk 15 cvo15 (HS.out _ hBc) ?_; simp only [sq]; refine tk 16 cvo16 (HS.out _ hBc) ?_; simp only [sq]; refine tk 17 cvo17 (HS.out _ hBc) ?_; simp only [sq]; refine tk 18 cvo18 (HS.out _ hBc) ?_; simp only [sq]
   refine rd 19 cvo19 (fun K hK => ?_)
   go_simp
   refine (HV.out _).mono ?_
   rintro e wn ⟨rfl, hbn⟩
   replace hBc := hBc.trans (hbn.mono hBc.size)
   clear hbn
   try go_wp2_with fail
   refine hK.out _ _ (HS.out _ hBc) (fun _ => ?_)
   clear hK K
   try simp only [s1, s2, s3]
   refine tk 20 cvo20 (HS.out _ hBc) ?_; simp only [sq]; refine tk 21 cvo21 (HS.out _ hBc) ?_; simp only [sq]; refine tk 22 cvo22 (HS.out _ hBc) ?_; simp only [sq]; refine tk 23 cvo23 (HS.out _ hBc) ?_; simp only [sq]; refine tk 24 cvo24 (HS.out _ hBc) ?_; simp only [sq]; refine tk 25 cvo25 (HS.out _ hBc) ?_; simp only [sq]; refine tk 26 cvo26 (HS.out _ hBc) ?_; simp only [sq]; refine tk 27 cvo27 (HS.out _ hBc) ?_; simp only [sq]; refine tk 28 cvo28 (HS.out _ hBc) ?_; simp only [sq]; refine tk 29 cvo29 (HS.out _ hBc) ?_; simp only [sq]
   refine rd 30 cvo30 (fun K hK => ?_)
   go_simp
   refine (HR.out _).mono ?_
   rintro e wn ⟨rfl, hbn⟩
   replace hBc := hBc.trans (hbn.mono hBc.size)
   clear hbn
   try go_wp2_with fail
   refine hK.out _ _ (HS.out _ hBc) (fun _ => ?_)
   clear hK K
   try simp only [s1, s2, s3]
   refine tk 31 cvo31 (HS.out _ hBc) ?_; simp only [sq]; refine tk 32 cvo32 (HS.out _ hBc) ?_; simp only [sq]; refine tk 33 cvo33 (HS.out _ hBc) ?_; simp only [sq]; refine tk 34 cvo34 (HS.out _ hBc) ?_; simp only [sq]; refine tk 35 cvo35 (HS.out _ hBc) ?_; simp only [sq]; refine tk 36 cvo36 (HS.out _ hBc) ?_; simp only [sq]; refine tk 37 cvo37 (HS.out _ hBc) ?_; simp only [sq]; refine tk 38 cvo38 (HS.out _ hBc) ?_; simp only [sq]; refine tk 39 cvo39 (HS.out _ hBc) ?_; simp only [sq]; refine tk 40 cvo40 (HS.out _ hBc) ?_; simp only [sq]; refine tk 41 cvo41 (HS.out _ hBc) ?_; simp only [sq]; refine tk 42 cvo42 (HS.out _ hBc) ?_; simp only [sq]; refine tk 43 cvo43 (HS.out _ hBc) ?_; simp only [sq]; refine tk 44 cvo44 (HS.out _ hBc) ?_; simp only [sq]; refine tk 45 cvo45 (HS.out _ hBc) ?_; simp only [sq]
   refine rd 46 cvo46 (fun K hK => ?_)
   go_simp
   refine (HB4.out _).mono ?_
   rintro e wn ⟨rfl, hbn⟩
   replace hBc := hBc.trans (hbn.mono hBc.size)
   clear hbn
   try go_wp2_with fail
   refine hK.out _ _ (HS.out _ hBc) (fun _ => ?_)
   clear hK K
   try simp only [s1, s2, s3]
   refine tk 47 cvo47 (HS.out _ hBc) ?_; simp only [sq]; refine tk 48 cvo48 (HS.out _ hBc) ?_; simp only [sq]; refine tk 49 cvo49 (HS.out _ hBc) ?_; simp only [sq]
   refine wpAnyH_done (by as_aux_lemma => kernel_rfl) ?_ _
   have HBF := hidI (HBA.out.trans (hBc.mono HBA.out.size))
   go_wp2
   go_roundw
   case rel => exact ⟨k + 1, by omega, by go_num, HE.out, HBF.out⟩
   case measure => simp [intOf]; omega
  rw [decide_eq_false hbf] at HB4
  have HE := hidI (HF2.out (by omega) (fun h => hbf h))
  clear HF2 HMO hbf
  have HS : Hid (∀ wx, Below WW.heap.size WW wx → wx.cell? ⟨wr.heap.size, 0, none⟩ = some (.string x.o) ∧ wx.cell? ⟨wr.heap.size, 1, none⟩ = some (.int .i64 x.r) ∧ wx.cell? ⟨wr.heap.size, 2, none⟩ = some (.int .i64 x.s) ∧ wx.cell? ⟨wr.heap.size, 3, none⟩ = some (.int .i64 x.t) ∧ wx.cell? ⟨wr.heap.size, 4, none⟩ = some (.int .i64 x.x) ∧ wx.cell? ⟨wr.heap.size, 5, none⟩ = some (.int .i64 x.z) ∧ wx.cell? ⟨wr.heap.size, 6, none⟩ = some (.int .i64 x.v) ∧ wx.cell? ⟨wr.heap.size, 7, none⟩ = some (.bool x.g) ∧ wx.cell? ⟨g, f + (k - 1) * 8 + 1, none⟩ = some (.int .i64 p.r) ∧ wx.cell? ⟨g, f + (k - 1) * 8 + 2, none⟩ = some (.int .i64 p.s)) := fun wx h => by obtain ⟨a0, a1, a2, a3, a4, a5, a6, a7⟩ := HCE.out wx h; obtain ⟨b0, b1⟩ := HPP.out wx h; exact ⟨a0, a1, a2, a3, a4, a5, a6, a7, b0, b1⟩
  have hBd := hBc.drew
  replace hBc := hBd
  clear hBd
  refine wp_region_held_drew (S := (fun w' => w'.cell? ⟨wr.heap.size, 0, none⟩ = some (.string x.o) ∧ w'.cell? ⟨wr.heap.size, 1, none⟩ = some (.int .i64 x.r) ∧ w'.cell? ⟨wr.heap.size, 2, none⟩ = some (.int .i64 x.s) ∧ w'.cell? ⟨wr.heap.size, 3, none⟩ = some (.int .i64 x.t) ∧ w'.cell? ⟨wr.heap.size, 4, none⟩ = some (.int .i64 x.x) ∧ w'.cell? ⟨wr.heap.size, 5, none⟩ = some (.int .i64 x.z) ∧ w'.cell? ⟨wr.heap.size, 6, none⟩ = some (.int .i64 x.v) ∧ w'.cell? ⟨wr.heap.size, 7, none⟩ = some (.bool x.g) ∧ w'.cell? ⟨g, f + (k - 1) * 8 + 1, none⟩ = some (.int .i64 p.r) ∧ w'.cell? ⟨g, f + (k - 1) * 8 + 2, none⟩ = some (.int .i64 p.s))) (by kernel_rfl) (HS.out _ hBc) (fun _ => ?_)
  refine wpAnyH_list (l' := #[false, false, false, false, false, false, false, false, false, false, false, false, false, false, false, false, false, false, false, false, false, false, false, false, false, false, false, false, false, false, false, false, false, false, false, false, false, false, false, false, false, false, false, false, false, false, false, false, false, false]) (by as_aux_lemma => kernel_rfl) ?_
  refine tk 0 cvo0 (HS.out _ hBc) ?_; simp only [sq]; refine tk 1 cvo1 (HS.out _ hBc) ?_; simp only [sq]
  refine rd 2 cvo2 (fun K hK => ?_)
  go_simp
  refine (HD.out _).mono ?_
  rintro e wn ⟨rfl, hbn⟩
  replace hBc := hBc.trans (hbn.mono hBc.size)
  clear hbn
  try go_wp2_with fail
  refine hK.out _ _ (HS.out _ hBc) (fun _ => ?_)
  clear hK K
  try simp only [s1, s2, s3]
  refine tk 3 cvo3 (HS.out _ hBc) ?_; simp only [sq]; refine tk 4 cvo4 (HS.out _ hBc) ?_; simp only [sq]; refine tk 5 cvo5 (HS.out _ hBc) ?_; simp only [sq]; refine tk 6 cvo6 (HS.out _ hBc) ?_; simp only [sq]
  refine rd 7 cvo7 (fun K hK => ?_)
  go_simp
  refine (HN.out _).mono ?_
  rintro e wn ⟨rfl, hbn⟩
  replace hBc := hBc.trans (hbn.mono hBc.size)
  clear hbn
  try go_wp2_with fail
  refine hK.out _ _ (HS.out _ hBc) (fun _ => ?_)
  clear hK K
  try simp only [s1, s2, s3]
  refine tk 8 cvo8 (HS.out _ hBc) ?_; simp only [sq]; refine tk 9 cvo9 (HS.out _ hBc) ?_; simp only [sq]; refine tk 10 cvo10 (HS.out _ hBc) ?_; simp only [sq]; refine tk 11 cvo11 (HS.out _ hBc) ?_; simp only [sq]; refine tk 12 cvo12 (HS.out _ hBc) ?_; simp only [sq]
  refine rd 13 cvo13 (fun K hK => ?_)
  go_simp
  refine (HT.out _).mono ?_
  rintro e wn ⟨rfl, hbn⟩
  replace hBc := hBc.trans (hbn.mono hBc.size)
  clear hbn
  try go_wp2_with fail
  refine hK.out _ _ (HS.out _ hBc) (fun _ => ?_)
  clear hK K
  try simp only [s1, s2, s3]
  refine tk 14 cvo14 (HS.out _ hBc) ?_; simp only [sq]; refine tk 15 cvo15 (HS.out _ hBc) ?_; simp only [sq]; refine tk 16 cvo16 (HS.out _ hBc) ?_; simp only [sq]; refine tk 17 cvo17 (HS.out _ hBc) ?_; simp only [sq]; refine tk 18 cvo18 (HS.out _ hBc) ?_; simp only [sq]
  refine rd 19 cvo19 (fun K hK => ?_)
  go_simp
  refine (HV.out _).mono ?_
  rintro e wn ⟨rfl, hbn⟩
  replace hBc := hBc.trans (hbn.mono hBc.size)
  clear hbn
  try go_wp2_with fail
  refine hK.out _ _ (HS.out _ hBc) (fun _ => ?_)
  clear hK K
  try simp only [s1, s2, s3]
  refine tk 20 cvo20 (HS.out _ hBc) ?_; simp only [sq]; refine tk 21 cvo21 (HS.out _ hBc) ?_; simp only [sq]; refine tk 22 cvo22 (HS.out _ hBc) ?_; simp only [sq]; refine tk 23 cvo23 (HS.out _ hBc) ?_; simp only [sq]; refine tk 24 cvo24 (HS.out _ hBc) ?_; simp only [sq]; refine tk 25 cvo25 (HS.out _ hBc) ?_; simp only [sq]; refine tk 26 cvo26 (HS.out _ hBc) ?_; simp only [sq]; refine tk 27 cvo27 (HS.out _ hBc) ?_; simp only [sq]; refine tk 28 cvo28 (HS.out _ hBc) ?_; simp only [sq]; refine tk 29 cvo29 (HS.out _ hBc) ?_; simp only [sq]
  refine rd 30 cvo30 (fun K hK => ?_)
  go_simp
  refine (HR.out _).mono ?_
  rintro e wn ⟨rfl, hbn⟩
  replace hBc := hBc.trans (hbn.mono hBc.size)
  clear hbn
  try go_wp2_with fail
  refine hK.out _ _ (HS.out _ hBc) (fun _ => ?_)
  clear hK K
  try simp only [s1, s2, s3]
  refine tk 31 cvo31 (HS.out _ hBc) ?_; simp only [sq]; refine tk 32 cvo32 (HS.out _ hBc) ?_; simp only [sq]; refine tk 33 cvo33 (HS.out _ hBc) ?_; simp only [sq]; refine tk 34 cvo34 (HS.out _ hBc) ?_; simp only [sq]; refine tk 35 cvo35 (HS.out _ hBc) ?_; simp only [sq]; refine tk 36 cvo36 (HS.out _ hBc) ?_; simp only [sq]; refine tk 37 cvo37 (HS.out _ hBc) ?_; simp only [sq]; refine tk 38 cvo38 (HS.out _ hBc) ?_; simp only [sq]; refine tk 39 cvo39 (HS.out _ hBc) ?_; simp only [sq]; refine tk 40 cvo40 (HS.out _ hBc) ?_; simp only [sq]; refine tk 41 cvo41 (HS.out _ hBc) ?_; simp only [sq]; refine tk 42 cvo42 (HS.out _ hBc) ?_; simp only [sq]; refine tk 43 cvo43 (HS.out _ hBc) ?_; simp only [sq]; refine tk 44 cvo44 (HS.out _ hBc) ?_; simp only [sq]; refine tk 45 cvo45 (HS.out _ hBc) ?_; simp only [sq]
  refine rd 46 cvo46 (fun K hK => ?_)
  go_simp
  refine (HB4.out _).mono ?_
  rintro e wn ⟨rfl, hbn⟩
  replace hBc := hBc.trans (hbn.mono hBc.size)
  clear hbn
  try go_wp2_with fail
  refine hK.out _ _ (HS.out _ hBc) (fun _ => ?_)
  clear hK K
  try simp only [s1, s2, s3]
  refine tk 47 cvo47 (HS.out _ hBc) ?_; simp only [sq]; refine tk 48 cvo48 (HS.out _ hBc) ?_; simp only [sq]; refine tk 49 cvo49 (HS.out _ hBc) ?_; simp only [sq]
  refine wpAnyH_done (by as_aux_lemma => kernel_rfl) ?_ _
  have HBF := hidI (HBA.out.trans (hBc.mono HBA.out.size))
  go_wp2
  go_ret
  exact ⟨Tells.no HE.out, HBF.out⟩
end Go.Proofs.YtdknoflkingodaaGreat
