/- Right cells, as the specification asks. -/
import Derived.Test.YtepfinenocpneaaGreatQ17
set_option maxHeartbeats 16000000
namespace Go.Proofs.YtepfinenocpneaaGreat
open Value (int)
open IntKind (i64)
set_option maxRecDepth 100000
set_option linter.unusedVariables false
open Go.RowKit
def Zv (a b : Ce) : Prop := Jo a.r a.s b.r b.s
def KT (a : Ce) : Prop := DOk a.r a.s ∧ NOk a.o ∧ (1 ≤ a.t ∧ a.t ≤ 10000) ∧ (0 ≤ a.v ∧ a.v ≤ 999999) ∧ ((a.x = 0 ∧ a.z = 0) ∨ DOk a.x a.z)
def Gj (l : List Ce) : Prop := l.length ≤ 120 ∧ Asc KT Zv l
abbrev Ji6 : Oper := oq 15 (.fieldAddr 90 (.tmp 4) 1) 0 "l06_state.go:37" #[] none
abbrev Jjj : Oper := oq 16 (.load 42 (.tmp 15)) 42 "l06_state.go:37" #[eD 0] none
abbrev Jio : Oper := oq 17 (.call ⟨.value (.func 58), #[.tmp 16], #[42]⟩) 4 "l06_state.go:37" #[eD 1] none
abbrev JgQ : Oper := oq 18 (.unOp .not 4 (.tmp 17)) 4 "l06_state.go:37" #[eD 2] none
abbrev Jii : Oper := oq 19 (.move (.tmp 18)) 4 "l06_state.go:37" #[eD 3, eC 2] none
abbrev JgF : Oper := oq 20 (.fieldAddr 90 (.tmp 4) 0) 0 "l06_state.go:37" #[eG 4] (some (4, false))
abbrev Jig : Oper := oq 21 (.load 9 (.tmp 20)) 9 "l06_state.go:37" #[eD 5, eG 4] (some (4, false))
abbrev Jgo : Oper := oq 22 (.call ⟨.value (.func 108), #[.tmp 21], #[9]⟩) 4 "l06_state.go:37" #[eD 6, eC 4, eG 4] (some (4, false))
abbrev Jfs : Oper := oq 23 (.unOp .not 4 (.tmp 22)) 4 "l06_state.go:37" #[eD 7, eG 4] (some (4, false))
abbrev JeP : Oper := oq 24 (.pick (.tmp 19) (.const (.bool true)) (.tmp 23)) 4 "l06_state.go:37" #[eD 4, eD 8] none
abbrev Jdb : Oper := oq 25 (.move (.tmp 24)) 4 "l06_state.go:37" #[eD 9, eC 7] none
abbrev JdI : Oper := oq 26 (.fieldAddr 90 (.tmp 4) 2) 0 "l06_state.go:37" #[eG 10] (some (10, false))
abbrev JdY : Oper := oq 27 (.load 3 (.tmp 26)) 3 "l06_state.go:37" #[eD 11, eG 10] (some (10, false))
abbrev Jbt : Oper := oq 28 (.call ⟨.value (.func 84), #[.tmp 27, .const (int i64 1), .const (int i64 10000)], #[3, 3, 3]⟩) 4 "l06_state.go:37" #[eD 12, eC 10, eG 10] (some (10, false))
abbrev Jbi : Oper := oq 29 (.unOp .not 4 (.tmp 28)) 4 "l06_state.go:37" #[eD 13, eG 10] (some (10, false))
abbrev Jbn : Oper := oq 30 (.pick (.tmp 25) (.const (.bool true)) (.tmp 29)) 4 "l06_state.go:37" #[eD 10, eD 14] none
abbrev Jbu : Oper := oq 31 (.move (.tmp 30)) 4 "l06_state.go:37" #[eD 15, eC 13] none
abbrev Jby : Oper := oq 32 (.fieldAddr 90 (.tmp 4) 4) 0 "l06_state.go:37" #[eG 16] (some (16, false))
abbrev JbC : Oper := oq 33 (.load 3 (.tmp 32)) 3 "l06_state.go:37" #[eD 17, eG 16] (some (16, false))
abbrev Jaw : Oper := oq 34 (.call ⟨.value (.func 84), #[.tmp 33, .const (int i64 0), .const (int i64 999999)], #[3, 3, 3]⟩) 4 "l06_state.go:37" #[eD 18, eC 16, eG 16] (some (16, false))
abbrev Y8 : Oper := oq 35 (.unOp .not 4 (.tmp 34)) 4 "l06_state.go:37" #[eD 19, eG 16] (some (16, false))
abbrev Jam : Oper := oq 36 (.pick (.tmp 31) (.const (.bool true)) (.tmp 35)) 4 "l06_state.go:37" #[eD 16, eD 20] none
abbrev JaM : Oper := oq 37 (.move (.tmp 36)) 4 "l06_state.go:37" #[eD 21, eC 19] none
abbrev Jat : Oper := oq 38 (.fieldAddr 90 (.tmp 4) 3) 0 "l06_state.go:37" #[eG 22] (some (22, false))
abbrev JaA : Oper := oq 39 (.load 42 (.tmp 38)) 42 "l06_state.go:37" #[eD 23, eG 22] (some (22, false))
abbrev VM : Oper := oq 40 (.build 42 #[]) 42 "l06_state.go:37" #[eG 22] (some (22, false))
abbrev V0 : Oper := oq 41 (.binOp .neq 42 (.tmp 39) (.tmp 40) 42) 4 "l06_state.go:37" #[eD 24, eD 25, eG 22] (some (22, false))
abbrev VV : Oper := oq 42 (.move (.tmp 41)) 4 "l06_state.go:37" #[eD 26, eC 22, eG 22] (some (22, false))
abbrev Yq : Oper := oq 43 (.fieldAddr 90 (.tmp 4) 3) 0 "l06_state.go:37" #[eG 27] (some (27, true))
abbrev V3 : Oper := oq 44 (.load 42 (.tmp 43)) 42 "l06_state.go:37" #[eD 28, eG 27] (some (27, true))
abbrev UE : Oper := oq 45 (.call ⟨.value (.func 58), #[.tmp 44], #[42]⟩) 4 "l06_state.go:37" #[eD 29, eC 27, eG 27] (some (27, true))
abbrev UD : Oper := oq 46 (.unOp .not 4 (.tmp 45)) 4 "l06_state.go:37" #[eD 30, eG 27] (some (27, true))
abbrev U2 : Oper := oq 47 (.pick (.tmp 42) (.tmp 46) (.const (.bool false))) 4 "l06_state.go:37" #[eD 27, eD 31, eG 22] (some (22, false))
abbrev UI : Oper := oq 48 (.pick (.tmp 37) (.const (.bool true)) (.tmp 47)) 4 "l06_state.go:37" #[eD 22, eD 32] none
abbrev Vf : Oper := oq 49 (.move (.tmp 48)) 4 "l06_state.go:37" #[eD 33, eC 30] none
abbrev K7 : Oper := oq 50 (.move (.tmp 3)) 3 "l06_state.go:37" #[eG 34] (some (34, false))
abbrev Ge : Oper := oq 51 (.binOp .gtr 3 (.tmp 50) (.const (int i64 0)) 3) 4 "l06_state.go:37" #[eD 35, eG 34] (some (34, false))
abbrev K6 : Oper := oq 52 (.move (.tmp 51)) 4 "l06_state.go:37" #[eD 36, eC 34, eG 34] (some (34, false))
abbrev Gf : Oper := oq 53 (.move (.tmp 0)) 27 "l06_state.go:37" #[eG 37] (some (37, true))
abbrev Gk : Oper := oq 54 (.move (.tmp 3)) 3 "l06_state.go:37" #[eG 37] (some (37, true))
abbrev Gz : Oper := oq 55 (.binOp .sub 3 (.tmp 54) (.const (int i64 1)) 3) 3 "l06_state.go:37" #[eD 39, eG 37] (some (37, true))
abbrev K9 : Oper := oq 56 (.indexAddr 27 (.tmp 53) (.tmp 55)) 0 "l06_state.go:37" #[eD 38, eD 40, eG 37] (some (37, true))
abbrev KZ : Oper := oq 57 (.fieldAddr 90 (.tmp 56) 1) 0 "l06_state.go:37" #[eD 41, eG 37] (some (37, true))
abbrev Gb : Oper := oq 58 (.load 42 (.tmp 57)) 42 "l06_state.go:37" #[eD 42, eG 37] (some (37, true))
abbrev Gm : Oper := oq 59 (.fieldAddr 90 (.tmp 4) 1) 0 "l06_state.go:37" #[eG 37] (some (37, true))
abbrev GB : Oper := oq 60 (.load 42 (.tmp 59)) 42 "l06_state.go:37" #[eD 44, eG 37] (some (37, true))
abbrev Kq : Oper := oq 61 (.call ⟨.value (.func 109), #[.tmp 58, .tmp 60], #[42, 42]⟩) 4 "l06_state.go:37" #[eD 43, eD 45, eC 37, eG 37] (some (37, true))
abbrev Kg : Oper := oq 62 (.unOp .not 4 (.tmp 61)) 4 "l06_state.go:37" #[eD 46, eG 37] (some (37, true))
abbrev Kl : Oper := oq 63 (.pick (.tmp 52) (.tmp 62) (.const (.bool false))) 4 "l06_state.go:37" #[eD 37, eD 47, eG 34] (some (34, false))
abbrev Kr : Oper := oq 64 (.pick (.tmp 49) (.const (.bool true)) (.tmp 63)) 4 "l06_state.go:37" #[eD 34, eD 48] none
theorem Uj (l : List Ce) (u : Value) (w : World) (hn : l.length ≤ 1048576) (hst : ∀ a ∈ l, a.o.size ≤ 1048576) (h : CeAt w u l) :
  Calls Tryz.prog 61 #[u] w fun e w' => Tells e (Gj l) ∧ Below w.heap.size w w' := by
 obtain ⟨aa, ca, rfl, hga⟩ := h
 have HGA : Hid (CeG w aa l) := hga
 have HST := Ja hst
 obtain ⟨n, hnl⟩ : ∃ n, n = l.length := ⟨_, rfl⟩
 have HL : Hid (n = l.length) := hnl
 have HNO : Hid (¬ Asc KT Zv l → ¬ Gj l) := fun h k => h k.2
 have HYES : Hid (ZW KT Zv l n → (decide ((n : Int) ≤ 120) = true ↔ Gj l)) := fun h => by
  rw [hnl] at h ⊢
  constructor
  ·intro k; exact ⟨by have := of_decide_eq_true k; omega, YP h (Nat.le_refl _)⟩
  ·intro k; exact decide_eq_true (by have := k.1; omega)
 rw [← hnl] at hn ⊢
 clear hnl hga hst
 go_enter Tryz.func61, Tryz.ntmps61
 go_wp2
 go_loopw [3] (fun z wr => ∃ k : Nat, k ≤ n ∧ z = int i64 k ∧ ZW KT Zv l k ∧ Below w.heap.size w wr) (fun z _ => n - (intOf z).toNat)
 case atStart => exact ⟨0, Nat.zero_le _, rfl, U8 _ _ _, Below.refl _ _⟩
 case round =>
  obtain ⟨k, hk, rfl, hasc, hbel⟩ := hrel
  have HBE := Ja hbel
  have HAS := Ja hasc
  have hsz := hbel.size
  clear hasc
  by_cases hlt : k < n
  case neg =>
   have hk1 : ¬ ((k : Int) < n) := by omega
   have HE := Ja (HYES.out (by have e : k = n := (by omega); rw [← e]; exact HAS.out))
   go_wp2
   go_ret
   exact ⟨⟨_, rfl, HE.out⟩, HBE.out⟩
  have hkl : k < l.length := by rw [← HL.out]; exact hlt
  obtain ⟨g, f, rfl, hg, hcc⟩ := HGA.out (by omega)
  have hk1 : (k : Int) < n := by omega
  have hk0 : (0 : Int) ≤ k := by omega
  have q := (hcc k hkl).below hbel hg
  have hp1 : k - 1 < l.length := by omega
  have HPC : Hid (∀ wx, Below w.heap.size w wx → ceC wx g (f + (k - 1) * 8) l[k - 1]) := fun wx h => (hcc (k - 1) hp1).below h hg
  have HF1 : Hid (¬ KT l[k] → ¬ Gj l) := fun h => HNO.out (fun a => h (a k hkl).1)
  have HF2 : Hid (0 < k → ¬ Zv l[k - 1] l[k] → ¬ Gj l) := fun h0 h => HNO.out (fun a => h ((a k hkl).2 h0))
  have HMO : Hid (KT l[k] → (0 < k → Zv l[k - 1] l[k]) → ZW KT Zv l (k + 1)) := fun h1 h2 => Uy HAS.out hkl h1 h2
  have hsx := HST.out l[k] (List.getElem_mem hkl)
  generalize l[k - 1] = p at *
  generalize l[k] = x at *
  unfold ceC at q
  obtain ⟨q0, q1, q2, q3, q4, q5, q6, q7⟩ := q
  obtain ⟨WW, hWW⟩ : ∃ WW, WW = wr.alloc (.cells #[.string x.o, int i64 x.r, int i64 x.s, int i64 x.t, int i64 x.x, int i64 x.z, int i64 x.v, .bool x.g] 90) := ⟨_, rfl⟩
  have HBA : Hid (Below w.heap.size w WW) := by rw [hWW]; exact HBE.out.alloc hsz _
  have hRW : Row WW wr.heap.size #[.string x.o, int i64 x.r, int i64 x.s, int i64 x.t, int i64 x.x, int i64 x.z, int i64 x.v, .bool x.g] 90 := by rw [hWW]; exact Jb wr _ _ rfl
  have HWW : Hid (wr.alloc (.cells #[.string x.o, int i64 x.r, int i64 x.s, int i64 x.t, int i64 x.x, int i64 x.z, int i64 x.v, .bool x.g] 90) = WW) := hWW.symm
  have HS1 : Hid (∀ wx, Below WW.heap.size WW wx → wx.cell? ⟨wr.heap.size, 0, none⟩ = some (.string x.o) ∧ wx.cell? ⟨wr.heap.size, 1, none⟩ = some (int i64 x.r) ∧ wx.cell? ⟨wr.heap.size, 2, none⟩ = some (int i64 x.s) ∧ wx.cell? ⟨wr.heap.size, 3, none⟩ = some (int i64 x.t) ∧ wx.cell? ⟨wr.heap.size, 4, none⟩ = some (int i64 x.x) ∧ wx.cell? ⟨wr.heap.size, 5, none⟩ = some (int i64 x.z) ∧ wx.cell? ⟨wr.heap.size, 6, none⟩ = some (int i64 x.v) ∧ wx.cell? ⟨wr.heap.size, 7, none⟩ = some (.bool x.g) ∧ wx.cell? ⟨g, f + (k - 1) * 8 + 1, none⟩ = some (int i64 p.r) ∧ wx.cell? ⟨g, f + (k - 1) * 8 + 2, none⟩ = some (int i64 p.s)) := fun wx h => by
   have hq := HPC.out wx (HBA.out.trans (h.mono HBA.out.size))
   unfold ceC at hq
   exact ⟨(hRW.next h).cell 0 rfl, (hRW.next h).cell 1 rfl, (hRW.next h).cell 2 rfl, (hRW.next h).cell 3 rfl, (hRW.next h).cell 4 rfl, (hRW.next h).cell 5 rfl, (hRW.next h).cell 6 rfl, (hRW.next h).cell 7 rfl, hq.2.1, hq.2.2.1⟩
  have HD : Hid (∀ wx, Calls Tryz.prog 58 #[.agg #[int i64 x.r, int i64 x.s]] wx fun e w' => e = .returned (.bool (decide (DOk x.r x.s))) ∧ Below wx.heap.size wx w') := fun wx => JU x.r x.s wx
  have HN : Hid (∀ wx, Calls Tryz.prog 108 #[.string x.o] wx fun e w' => e = .returned (.bool (decide (NOk x.o))) ∧ Below wx.heap.size wx w') := fun wx => (JO x.o (by unfold maxLen; omega) wx).mono (by rintro e w' ⟨rfl, rfl⟩; exact ⟨rfl, Below.refl _ _⟩)
  have HT : Hid (∀ wx, Calls Tryz.prog 84 #[int i64 x.t, int i64 1, int i64 10000] wx fun e w' => e = .returned (.bool (decide (1 ≤ x.t) && decide (x.t ≤ 10000))) ∧ Below wx.heap.size wx w') := fun wx => (JK x.t 1 10000 wx).mono (by rintro e w' ⟨rfl, rfl⟩; exact ⟨rfl, Below.refl _ _⟩)
  have HR : Hid (∀ wx, Calls Tryz.prog 58 #[.agg #[int i64 x.x, int i64 x.z]] wx fun e w' => e = .returned (.bool (decide (DOk x.x x.z))) ∧ Below wx.heap.size wx w') := fun wx => JU x.x x.z wx
  have HV : Hid (∀ wx, Calls Tryz.prog 84 #[int i64 x.v, int i64 0, int i64 999999] wx fun e w' => e = .returned (.bool (decide (0 ≤ x.v) && decide (x.v ≤ 999999))) ∧ Below wx.heap.size wx w') := fun wx => (JK x.v 0 999999 wx).mono (by rintro e w' ⟨rfl, rfl⟩; exact ⟨rfl, Below.refl _ _⟩)
  have HB4 : Hid (∀ wx, Calls Tryz.prog 109 #[.agg #[int i64 p.r, int i64 p.s], .agg #[int i64 x.r, int i64 x.s]] wx fun e w' => e = .returned (.bool (decide (Jo p.r p.s x.r x.s))) ∧ Below wx.heap.size wx w') := fun wx => ZA p.r p.s x.r x.s wx
  have hBc : Below WW.heap.size WW WW := Below.refl _ _
  clear hWW hRW hcc hbel hkl hp1 hsx HAS HNO HPC
  have hgd := Zl
  have hwk : IntKind.i64.wrap ((k : Int) - 1) = (k : Int) - 1 := by rw [IntKind.wrap_i64] <;> omega
  have hnt : ((k : Int) - 1).toNat = k - 1 := by omega
  go_wp2
  rw [HWW.out]
  try simp only [List.append_eq, List.cons_append, List.nil_append]
  clear HWW q0 q1 q2 q3 q4 q5 q6 q7
  replace hBc := hBc.drew
  have hs := Ja (HS1.out _ hBc)
  refine wph HS1 hBc 50 ?_
  refine tQ 0 Ji6 ?_; refine tQ 1 Jjj ?_
  by_cases h1 : DOk x.r x.s
  case neg =>
   rw [decide_eq_false h1] at HD
   have HE := Ja (HF1.out (fun h => h1 h.1))
   clear HF1 HF2 HMO h1
   refine rd 2 Jio (fun K hK => ?_)
   go_simp
   refine (HD.out _).mono ?_
   rintro e wn ⟨rfl, hbn⟩
   replace hBc := nx hBc hbn
   clear hbn
   try go_wp2_with fail
   replace hs := Ja (HS1.out _ hBc)
   refine hK.out _ _ hs.out (fun hx => ?_)
   clear hx hK K
   try simp only [s1, s2, s3]
   refine tQ 3 JgQ ?_; refine tQ 4 Jii ?_; refine sQ 5 JgF ?_; refine sQ 6 Jig ?_; refine cQ 7 Jgo ?_; refine sQ 8 Jfs ?_; refine tQ 9 JeP ?_; refine tQ 10 Jdb ?_; refine sQ 11 JdI ?_; refine sQ 12 JdY ?_; refine cQ 13 Jbt ?_; refine sQ 14 Jbi ?_; refine tQ 15 Jbn ?_; refine tQ 16 Jbu ?_; refine sQ 17 Jby ?_; refine sQ 18 JbC ?_; refine cQ 19 Jaw ?_; refine sQ 20 Y8 ?_; refine tQ 21 Jam ?_; refine tQ 22 JaM ?_; refine sQ 23 Jat ?_; refine sQ 24 JaA ?_; refine sQ 25 VM ?_; refine sQ 26 V0 ?_; refine sQ 27 VV ?_; refine sQ 28 Yq ?_; refine sQ 29 V3 ?_; refine cQ 30 UE ?_; refine sQ 31 UD ?_; refine sQ 32 U2 ?_; refine tQ 33 UI ?_; refine tQ 34 Vf ?_; refine sQ 35 K7 ?_; refine sQ 36 Ge ?_; refine sQ 37 K6 ?_; refine sQ 38 Gf ?_; refine sQ 39 Gk ?_; refine sQ 40 Gz ?_; refine sQ 41 K9 ?_; refine sQ 42 KZ ?_; refine sQ 43 Gb ?_; refine sQ 44 Gm ?_; refine sQ 45 GB ?_; refine cQ 46 Kq ?_; refine sQ 47 Kg ?_; refine sQ 48 Kl ?_; refine tQ 49 Kr ?_
   refine wpd ?_
   have HBF := Ja (HBA.out.trans (hBc.mono HBA.out.size))
   clear hs hBc HS1
   go_wp2
   go_ret
   exact ⟨Tells.no HE.out, HBF.out⟩
  rw [decide_eq_true h1] at HD
  have HH0 := Ja h1
  clear h1
  refine rd 2 Jio (fun K hK => ?_)
  go_simp
  refine (HD.out _).mono ?_
  rintro e wn ⟨rfl, hbn⟩
  replace hBc := nx hBc hbn
  clear hbn
  try go_wp2_with fail
  replace hs := Ja (HS1.out _ hBc)
  refine hK.out _ _ hs.out (fun hx => ?_)
  clear hx hK K
  try simp only [s1, s2, s3]
  clear HD
  refine tQ 3 JgQ ?_; refine tQ 4 Jii ?_; refine tQ 5 JgF ?_; refine tQ 6 Jig ?_
  by_cases h2 : NOk x.o
  case neg =>
   rw [decide_eq_false h2] at HN
   have HE := Ja (HF1.out (fun h => h2 h.2.1))
   clear HF1 HF2 HMO HH0 h2
   refine rd 7 Jgo (fun K hK => ?_)
   go_simp
   refine (HN.out _).mono ?_
   rintro e wn ⟨rfl, hbn⟩
   replace hBc := nx hBc hbn
   clear hbn
   try go_wp2_with fail
   replace hs := Ja (HS1.out _ hBc)
   refine hK.out _ _ hs.out (fun hx => ?_)
   clear hx hK K
   try simp only [s1, s2, s3]
   refine tQ 8 Jfs ?_; refine tQ 9 JeP ?_; refine tQ 10 Jdb ?_; refine sQ 11 JdI ?_; refine sQ 12 JdY ?_; refine cQ 13 Jbt ?_; refine sQ 14 Jbi ?_; refine tQ 15 Jbn ?_; refine tQ 16 Jbu ?_; refine sQ 17 Jby ?_; refine sQ 18 JbC ?_; refine cQ 19 Jaw ?_; refine sQ 20 Y8 ?_; refine tQ 21 Jam ?_; refine tQ 22 JaM ?_; refine sQ 23 Jat ?_; refine sQ 24 JaA ?_; refine sQ 25 VM ?_; refine sQ 26 V0 ?_; refine sQ 27 VV ?_; refine sQ 28 Yq ?_; refine sQ 29 V3 ?_; refine cQ 30 UE ?_; refine sQ 31 UD ?_; refine sQ 32 U2 ?_; refine tQ 33 UI ?_; refine tQ 34 Vf ?_; refine sQ 35 K7 ?_; refine sQ 36 Ge ?_; refine sQ 37 K6 ?_; refine sQ 38 Gf ?_; refine sQ 39 Gk ?_; refine sQ 40 Gz ?_; refine sQ 41 K9 ?_; refine sQ 42 KZ ?_; refine sQ 43 Gb ?_; refine sQ 44 Gm ?_; refine sQ 45 GB ?_; refine cQ 46 Kq ?_; refine sQ 47 Kg ?_; refine sQ 48 Kl ?_; refine tQ 49 Kr ?_
   refine wpd ?_
   have HBF := Ja (HBA.out.trans (hBc.mono HBA.out.size))
   clear hs hBc HS1
   go_wp2
   go_ret
   exact ⟨Tells.no HE.out, HBF.out⟩
  rw [decide_eq_true h2] at HN
  have HH1 := Ja h2
  clear h2
  refine rd 7 Jgo (fun K hK => ?_)
  go_simp
  refine (HN.out _).mono ?_
  rintro e wn ⟨rfl, hbn⟩
  replace hBc := nx hBc hbn
  clear hbn
  try go_wp2_with fail
  replace hs := Ja (HS1.out _ hBc)
  refine hK.out _ _ hs.out (fun hx => ?_)
  clear hx hK K
  try simp only [s1, s2, s3]
  clear HN
  refine tQ 8 Jfs ?_; refine tQ 9 JeP ?_; refine tQ 10 Jdb ?_; refine tQ 11 JdI ?_; refine tQ 12 JdY ?_
  by_cases h3 : 1 ≤ x.t ∧ x.t ≤ 10000
  case neg =>
   have hbb : (decide (1 ≤ x.t) && decide (x.t ≤ 10000)) = false := by
    by_cases ha : 1 ≤ x.t <;> by_cases hb : x.t ≤ 10000 <;> simp [ha, hb] <;> exact h3 ⟨ha, hb⟩
   rw [hbb] at HT
   clear hbb
   have HE := Ja (HF1.out (fun h => h3 h.2.2.1))
   clear HF1 HF2 HMO HH0 HH1 h3
   refine rd 13 Jbt (fun K hK => ?_)
   go_simp
   refine (HT.out _).mono ?_
   rintro e wn ⟨rfl, hbn⟩
   replace hBc := nx hBc hbn
   clear hbn
   try go_wp2_with fail
   replace hs := Ja (HS1.out _ hBc)
   refine hK.out _ _ hs.out (fun hx => ?_)
   clear hx hK K
   try simp only [s1, s2, s3]
   refine tQ 14 Jbi ?_; refine tQ 15 Jbn ?_; refine tQ 16 Jbu ?_; refine sQ 17 Jby ?_; refine sQ 18 JbC ?_; refine cQ 19 Jaw ?_; refine sQ 20 Y8 ?_; refine tQ 21 Jam ?_; refine tQ 22 JaM ?_; refine sQ 23 Jat ?_; refine sQ 24 JaA ?_; refine sQ 25 VM ?_; refine sQ 26 V0 ?_; refine sQ 27 VV ?_; refine sQ 28 Yq ?_; refine sQ 29 V3 ?_; refine cQ 30 UE ?_; refine sQ 31 UD ?_; refine sQ 32 U2 ?_; refine tQ 33 UI ?_; refine tQ 34 Vf ?_; refine sQ 35 K7 ?_; refine sQ 36 Ge ?_; refine sQ 37 K6 ?_; refine sQ 38 Gf ?_; refine sQ 39 Gk ?_; refine sQ 40 Gz ?_; refine sQ 41 K9 ?_; refine sQ 42 KZ ?_; refine sQ 43 Gb ?_; refine sQ 44 Gm ?_; refine sQ 45 GB ?_; refine cQ 46 Kq ?_; refine sQ 47 Kg ?_; refine sQ 48 Kl ?_; refine tQ 49 Kr ?_
   refine wpd ?_
   have HBF := Ja (HBA.out.trans (hBc.mono HBA.out.size))
   clear hs hBc HS1
   go_wp2
   go_ret
   exact ⟨Tells.no HE.out, HBF.out⟩
  have hbb : (decide (1 ≤ x.t) && decide (x.t ≤ 10000)) = true := by simp [h3]
  rw [hbb] at HT
  clear hbb
  have HH2 := Ja h3
  clear h3
  refine rd 13 Jbt (fun K hK => ?_)
  go_simp
  refine (HT.out _).mono ?_
  rintro e wn ⟨rfl, hbn⟩
  replace hBc := nx hBc hbn
  clear hbn
  try go_wp2_with fail
  replace hs := Ja (HS1.out _ hBc)
  refine hK.out _ _ hs.out (fun hx => ?_)
  clear hx hK K
  try simp only [s1, s2, s3]
  clear HT
  refine tQ 14 Jbi ?_; refine tQ 15 Jbn ?_; refine tQ 16 Jbu ?_; refine tQ 17 Jby ?_; refine tQ 18 JbC ?_
  by_cases h4 : 0 ≤ x.v ∧ x.v ≤ 999999
  case neg =>
   have hbb : (decide (0 ≤ x.v) && decide (x.v ≤ 999999)) = false := by
    by_cases ha : 0 ≤ x.v <;> by_cases hb : x.v ≤ 999999 <;> simp [ha, hb] <;> exact h4 ⟨ha, hb⟩
   rw [hbb] at HV
   clear hbb
   have HE := Ja (HF1.out (fun h => h4 h.2.2.2.1))
   clear HF1 HF2 HMO HH0 HH1 HH2 h4
   refine rd 19 Jaw (fun K hK => ?_)
   go_simp
   refine (HV.out _).mono ?_
   rintro e wn ⟨rfl, hbn⟩
   replace hBc := nx hBc hbn
   clear hbn
   try go_wp2_with fail
   replace hs := Ja (HS1.out _ hBc)
   refine hK.out _ _ hs.out (fun hx => ?_)
   clear hx hK K
   try simp only [s1, s2, s3]
   refine tQ 20 Y8 ?_; refine tQ 21 Jam ?_; refine tQ 22 JaM ?_; refine sQ 23 Jat ?_; refine sQ 24 JaA ?_; refine sQ 25 VM ?_; refine sQ 26 V0 ?_; refine sQ 27 VV ?_; refine sQ 28 Yq ?_; refine sQ 29 V3 ?_; refine cQ 30 UE ?_; refine sQ 31 UD ?_; refine sQ 32 U2 ?_; refine tQ 33 UI ?_; refine tQ 34 Vf ?_; refine sQ 35 K7 ?_; refine sQ 36 Ge ?_; refine sQ 37 K6 ?_; refine sQ 38 Gf ?_; refine sQ 39 Gk ?_; refine sQ 40 Gz ?_; refine sQ 41 K9 ?_; refine sQ 42 KZ ?_; refine sQ 43 Gb ?_; refine sQ 44 Gm ?_; refine sQ 45 GB ?_; refine cQ 46 Kq ?_; refine sQ 47 Kg ?_; refine sQ 48 Kl ?_; refine tQ 49 Kr ?_
   refine wpd ?_
   have HBF := Ja (HBA.out.trans (hBc.mono HBA.out.size))
   clear hs hBc HS1
   go_wp2
   go_ret
   exact ⟨Tells.no HE.out, HBF.out⟩
  have hbb : (decide (0 ≤ x.v) && decide (x.v ≤ 999999)) = true := by simp [h4]
  rw [hbb] at HV
  clear hbb
  have HH3 := Ja h4
  clear h4
  refine rd 19 Jaw (fun K hK => ?_)
  go_simp
  refine (HV.out _).mono ?_
  rintro e wn ⟨rfl, hbn⟩
  replace hBc := nx hBc hbn
  clear hbn
  try go_wp2_with fail
  replace hs := Ja (HS1.out _ hBc)
  refine hK.out _ _ hs.out (fun hx => ?_)
  clear hx hK K
  try simp only [s1, s2, s3]
  clear HV
  refine tQ 20 Y8 ?_; refine tQ 21 Jam ?_; refine tQ 22 JaM ?_; refine tQ 23 Jat ?_; refine tQ 24 JaA ?_
  by_cases hz : x.x = 0 ∧ x.z = 0
  case pos =>
   have heq : ∀ wx, (Op.equalIn 10000 42 (.agg #[int i64 x.x, int i64 x.z]) (.agg #[int i64 0, int i64 0])).run Tryz.prog wx = .ok true wx := fun wx => by rw [JZ, decide_eq_true hz]
   have HOX : Hid (KT x) := ⟨HH0.out, HH1.out, HH2.out, HH3.out, .inl hz⟩
   clear HF1 HH0 HH1 HH2 HH3 hz
   refine tQ 25 VM ?_; refine tQ 26 V0 ?_; refine tQ 27 VV ?_; refine sQ 28 Yq ?_; refine sQ 29 V3 ?_; refine cQ 30 UE ?_; refine sQ 31 UD ?_; refine tQ 32 U2 ?_; refine tQ 33 UI ?_; refine tQ 34 Vf ?_
   by_cases hkz : k = 0
   case pos =>
    have HE := Ja (HMO.out HOX.out (fun h0 => by omega))
    have hkn : ¬ (0 : Int) < k := by omega
    have hkn2 : ¬ 0 < k := by omega
    clear HF2 HMO hkz
    refine tQ 35 K7 ?_; refine tQ 36 Ge ?_; refine tQ 37 K6 ?_; refine sQ 38 Gf ?_; refine sQ 39 Gk ?_; refine sQ 40 Gz ?_; refine sQ 41 K9 ?_; refine sQ 42 KZ ?_; refine sQ 43 Gb ?_; refine sQ 44 Gm ?_; refine sQ 45 GB ?_; refine cQ 46 Kq ?_; refine sQ 47 Kg ?_; refine tQ 48 Kl ?_; refine tQ 49 Kr ?_
    refine wpd ?_
    have HBF := Ja (HBA.out.trans (hBc.mono HBA.out.size))
    clear hs hBc HS1
    go_wp2
    go_roundw
    case rel => exact ⟨k + 1, by omega, by go_num, HE.out, HBF.out⟩
    case measure => simp [intOf]; omega
   have hkp : (0 : Int) < k := by omega
   have hkpn : 0 < k := by omega
   have hkp1 : (1 : Int) ≤ (k : Int) := by omega
   have hq1 : (0 : Int) ≤ (k : Int) - 1 := by omega
   have hq2 : (k : Int) - 1 < n := by omega
   clear hkz
   refine tQ 35 K7 ?_; refine tQ 36 Ge ?_; refine tQ 37 K6 ?_; refine tQ 38 Gf ?_; refine tQ 39 Gk ?_; refine tQ 40 Gz ?_; refine tQ 41 K9 ?_; refine tQ 42 KZ ?_; refine tQ 43 Gb ?_; refine tQ 44 Gm ?_; refine tQ 45 GB ?_
   by_cases hbf : Jo p.r p.s x.r x.s
   case pos =>
    rw [decide_eq_true hbf] at HB4
    have HE := Ja (HMO.out HOX.out (fun _ => hbf))
    clear HF2 HMO hbf
    refine rd 46 Kq (fun K hK => ?_)
    go_simp
    refine (HB4.out _).mono ?_
    rintro e wn ⟨rfl, hbn⟩
    replace hBc := nx hBc hbn
    clear hbn
    try go_wp2_with fail
    replace hs := Ja (HS1.out _ hBc)
    refine hK.out _ _ hs.out (fun hx => ?_)
    clear hx hK K
    try simp only [s1, s2, s3]
    refine tQ 47 Kg ?_; refine tQ 48 Kl ?_; refine tQ 49 Kr ?_
    refine wpd ?_
    have HBF := Ja (HBA.out.trans (hBc.mono HBA.out.size))
    clear hs hBc HS1
    go_wp2
    go_roundw
    case rel => exact ⟨k + 1, by omega, by go_num, HE.out, HBF.out⟩
    case measure => simp [intOf]; omega
   rw [decide_eq_false hbf] at HB4
   have HE := Ja (HF2.out (by omega) (fun h => hbf h))
   clear HF2 HMO hbf
   refine rd 46 Kq (fun K hK => ?_)
   go_simp
   refine (HB4.out _).mono ?_
   rintro e wn ⟨rfl, hbn⟩
   replace hBc := nx hBc hbn
   clear hbn
   try go_wp2_with fail
   replace hs := Ja (HS1.out _ hBc)
   refine hK.out _ _ hs.out (fun hx => ?_)
   clear hx hK K
   try simp only [s1, s2, s3]
   refine tQ 47 Kg ?_; refine tQ 48 Kl ?_; refine tQ 49 Kr ?_
   refine wpd ?_
   have HBF := Ja (HBA.out.trans (hBc.mono HBA.out.size))
   clear hs hBc HS1
   go_wp2
   go_ret
   exact ⟨Tells.no HE.out, HBF.out⟩
  have heq : ∀ wx, (Op.equalIn 10000 42 (.agg #[int i64 x.x, int i64 x.z]) (.agg #[int i64 0, int i64 0])).run Tryz.prog wx = .ok false wx := fun wx => by rw [JZ, decide_eq_false hz]
  refine tQ 25 VM ?_; refine tQ 26 V0 ?_; refine tQ 27 VV ?_; refine tQ 28 Yq ?_; refine tQ 29 V3 ?_
  by_cases hd : DOk x.x x.z
  case neg =>
   rw [decide_eq_false hd] at HR
   have HE := Ja (HF1.out (fun h => h.2.2.2.2.elim (fun e => hz e) (fun e => hd e)))
   clear HF1 HF2 HMO HH0 HH1 HH2 HH3 hz hd
   refine rd 30 UE (fun K hK => ?_)
   go_simp
   refine (HR.out _).mono ?_
   rintro e wn ⟨rfl, hbn⟩
   replace hBc := nx hBc hbn
   clear hbn
   try go_wp2_with fail
   replace hs := Ja (HS1.out _ hBc)
   refine hK.out _ _ hs.out (fun hx => ?_)
   clear hx hK K
   try simp only [s1, s2, s3]
   refine tQ 31 UD ?_; refine tQ 32 U2 ?_; refine tQ 33 UI ?_; refine tQ 34 Vf ?_; refine sQ 35 K7 ?_; refine sQ 36 Ge ?_; refine sQ 37 K6 ?_; refine sQ 38 Gf ?_; refine sQ 39 Gk ?_; refine sQ 40 Gz ?_; refine sQ 41 K9 ?_; refine sQ 42 KZ ?_; refine sQ 43 Gb ?_; refine sQ 44 Gm ?_; refine sQ 45 GB ?_; refine cQ 46 Kq ?_; refine sQ 47 Kg ?_; refine sQ 48 Kl ?_; refine tQ 49 Kr ?_
   refine wpd ?_
   have HBF := Ja (HBA.out.trans (hBc.mono HBA.out.size))
   clear hs hBc HS1
   go_wp2
   go_ret
   exact ⟨Tells.no HE.out, HBF.out⟩
  rw [decide_eq_true hd] at HR
  have HOX : Hid (KT x) := ⟨HH0.out, HH1.out, HH2.out, HH3.out, .inr hd⟩
  clear HF1 HH0 HH1 HH2 HH3 hz hd
  refine rd 30 UE (fun K hK => ?_)
  go_simp
  refine (HR.out _).mono ?_
  rintro e wn ⟨rfl, hbn⟩
  replace hBc := nx hBc hbn
  clear hbn
  try go_wp2_with fail
  replace hs := Ja (HS1.out _ hBc)
  refine hK.out _ _ hs.out (fun hx => ?_)
  clear hx hK K
  try simp only [s1, s2, s3]
  clear HR
  refine tQ 31 UD ?_; refine tQ 32 U2 ?_; refine tQ 33 UI ?_; refine tQ 34 Vf ?_
  by_cases hkz : k = 0
  case pos =>
   have HE := Ja (HMO.out HOX.out (fun h0 => by omega))
   have hkn : ¬ (0 : Int) < k := by omega
   have hkn2 : ¬ 0 < k := by omega
   clear HF2 HMO hkz
   refine tQ 35 K7 ?_; refine tQ 36 Ge ?_; refine tQ 37 K6 ?_; refine sQ 38 Gf ?_; refine sQ 39 Gk ?_; refine sQ 40 Gz ?_; refine sQ 41 K9 ?_; refine sQ 42 KZ ?_; refine sQ 43 Gb ?_; refine sQ 44 Gm ?_; refine sQ 45 GB ?_; refine cQ 46 Kq ?_; refine sQ 47 Kg ?_; refine tQ 48 Kl ?_; refine tQ 49 Kr ?_
   refine wpd ?_
   have HBF := Ja (HBA.out.trans (hBc.mono HBA.out.size))
   clear hs hBc HS1
   go_wp2
   go_roundw
   case rel => exact ⟨k + 1, by omega, by go_num, HE.out, HBF.out⟩
   case measure => simp [intOf]; omega
  have hkp : (0 : Int) < k := by omega
  have hkpn : 0 < k := by omega
  have hkp1 : (1 : Int) ≤ (k : Int) := by omega
  have hq1 : (0 : Int) ≤ (k : Int) - 1 := by omega
  have hq2 : (k : Int) - 1 < n := by omega
  clear hkz
  refine tQ 35 K7 ?_; refine tQ 36 Ge ?_; refine tQ 37 K6 ?_; refine tQ 38 Gf ?_; refine tQ 39 Gk ?_; refine tQ 40 Gz ?_; refine tQ 41 K9 ?_; refine tQ 42 KZ ?_; refine tQ 43 Gb ?_; refine tQ 44 Gm ?_; refine tQ 45 GB ?_
  by_cases hbf : Jo p.r p.s x.r x.s
  case pos =>
   rw [decide_eq_true hbf] at HB4
   have HE := Ja (HMO.out HOX.out (fun _ => hbf))
   clear HF2 HMO hbf
   refine rd 46 Kq (fun K hK => ?_)
   go_simp
   refine (HB4.out _).mono ?_
   rintro e wn ⟨rfl, hbn⟩
   replace hBc := nx hBc hbn
   clear hbn
   try go_wp2_with fail
   replace hs := Ja (HS1.out _ hBc)
   refine hK.out _ _ hs.out (fun hx => ?_)
   clear hx hK K
   try simp only [s1, s2, s3]
   refine tQ 47 Kg ?_; refine tQ 48 Kl ?_; refine tQ 49 Kr ?_
   refine wpd ?_
   have HBF := Ja (HBA.out.trans (hBc.mono HBA.out.size))
   clear hs hBc HS1
   go_wp2
   go_roundw
   case rel => exact ⟨k + 1, by omega, by go_num, HE.out, HBF.out⟩
   case measure => simp [intOf]; omega
  rw [decide_eq_false hbf] at HB4
  have HE := Ja (HF2.out (by omega) (fun h => hbf h))
  clear HF2 HMO hbf
  refine rd 46 Kq (fun K hK => ?_)
  go_simp
  refine (HB4.out _).mono ?_
  rintro e wn ⟨rfl, hbn⟩
  replace hBc := nx hBc hbn
  clear hbn
  try go_wp2_with fail
  replace hs := Ja (HS1.out _ hBc)
  refine hK.out _ _ hs.out (fun hx => ?_)
  clear hx hK K
  try simp only [s1, s2, s3]
  refine tQ 47 Kg ?_; refine tQ 48 Kl ?_; refine tQ 49 Kr ?_
  refine wpd ?_
  have HBF := Ja (HBA.out.trans (hBc.mono HBA.out.size))
  clear hs hBc HS1
  go_wp2
  go_ret
  exact ⟨Tells.no HE.out, HBF.out⟩
end Go.Proofs.YtepfinenocpneaaGreat
