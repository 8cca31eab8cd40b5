/- Right lives, as the specification asks. -/
import Derived.Test.YtdknoflkingodaaGreatQ16
set_option maxHeartbeats 16000000
namespace Go.Proofs.YtdknoflkingodaaGreat
open Value (int)
open IntKind (i64)
set_option maxRecDepth 100000
set_option linter.unusedVariables false
open Go.RowKit
def J4 (a b : Li) : Prop := Jn a.r a.s b.r b.s
def Ue (a : Li) : Prop := DOk a.r a.s ∧ NOk a.o ∧ NOk a.y ∧ (0 ≤ a.v ∧ a.v ≤ 999999) ∧ (a.m = false → a.v = 0)
def Ug (l : List Li) : Prop := l.length ≤ 120 ∧ Asc Ue J4 l
abbrev JkB : Oper := oq 15 (.fieldAddr 40 (.tmp 4) 4) 0 "l06_state.go:27" #[] none
abbrev JkZ : Oper := oq 16 (.load 33 (.tmp 15)) 33 "l06_state.go:27" #[eD 0] none
abbrev Jiv : Oper := oq 17 (.call ⟨.value (.func 88), #[.tmp 16], #[33]⟩) 4 "l06_state.go:27" #[eD 1] none
abbrev Jjg : Oper := oq 18 (.unOp .not 4 (.tmp 17)) 4 "l06_state.go:27" #[eD 2] none
abbrev Jj6 : Oper := oq 19 (.move (.tmp 18)) 4 "l06_state.go:27" #[eD 3, eC 2] none
abbrev JjT : Oper := oq 20 (.fieldAddr 40 (.tmp 4) 1) 0 "l06_state.go:27" #[eG 4] (some (4, false))
abbrev Jjc : Oper := oq 21 (.load 9 (.tmp 20)) 9 "l06_state.go:27" #[eD 5, eG 4] (some (4, false))
abbrev Jgb : Oper := oq 22 (.call ⟨.value (.func 127), #[.tmp 21], #[9]⟩) 4 "l06_state.go:27" #[eD 6, eC 4, eG 4] (some (4, false))
abbrev JfT : Oper := oq 23 (.unOp .not 4 (.tmp 22)) 4 "l06_state.go:27" #[eD 7, eG 4] (some (4, false))
abbrev JhP : Oper := oq 24 (.pick (.tmp 19) (.const (.bool true)) (.tmp 23)) 4 "l06_state.go:27" #[eD 4, eD 8] none
abbrev JdJ : Oper := oq 25 (.move (.tmp 24)) 4 "l06_state.go:27" #[eD 9, eC 7] none
abbrev JdC : Oper := oq 26 (.fieldAddr 40 (.tmp 4) 2) 0 "l06_state.go:27" #[eG 10] (some (10, false))
abbrev JdH : Oper := oq 27 (.load 9 (.tmp 26)) 9 "l06_state.go:27" #[eD 11, eG 10] (some (10, false))
abbrev Jcl : Oper := oq 28 (.call ⟨.value (.func 127), #[.tmp 27], #[9]⟩) 4 "l06_state.go:27" #[eD 12, eC 10, eG 10] (some (10, false))
abbrev Jcn : Oper := oq 29 (.unOp .not 4 (.tmp 28)) 4 "l06_state.go:27" #[eD 13, eG 10] (some (10, false))
abbrev Jci : Oper := oq 30 (.pick (.tmp 25) (.const (.bool true)) (.tmp 29)) 4 "l06_state.go:27" #[eD 10, eD 14] none
abbrev Jcg : Oper := oq 31 (.move (.tmp 30)) 4 "l06_state.go:27" #[eD 15, eC 13] none
abbrev Jcp : Oper := oq 32 (.fieldAddr 40 (.tmp 4) 3) 0 "l06_state.go:27" #[eG 16] (some (16, false))
abbrev Jcz : Oper := oq 33 (.load 3 (.tmp 32)) 3 "l06_state.go:27" #[eD 17, eG 16] (some (16, false))
abbrev Jbg : Oper := oq 34 (.call ⟨.value (.func 126), #[.tmp 33, .const (int i64 0), .const (int i64 999999)], #[3, 3, 3]⟩) 4 "l06_state.go:27" #[eD 18, eC 16, eG 16] (some (16, false))
abbrev JbR : Oper := oq 35 (.unOp .not 4 (.tmp 34)) 4 "l06_state.go:27" #[eD 19, eG 16] (some (16, false))
abbrev JaZ : Oper := oq 36 (.pick (.tmp 31) (.const (.bool true)) (.tmp 35)) 4 "l06_state.go:27" #[eD 16, eD 20] none
abbrev Jbt : Oper := oq 37 (.move (.tmp 36)) 4 "l06_state.go:27" #[eD 21, eC 19] none
abbrev Jbq : Oper := oq 38 (.fieldAddr 40 (.tmp 4) 0) 0 "l06_state.go:27" #[eG 22] (some (22, false))
abbrev JbA : Oper := oq 39 (.load 4 (.tmp 38)) 4 "l06_state.go:27" #[eD 23, eG 22] (some (22, false))
abbrev Jbz : Oper := oq 40 (.unOp .not 4 (.tmp 39)) 4 "l06_state.go:27" #[eD 24, eG 22] (some (22, false))
abbrev JbB : Oper := oq 41 (.move (.tmp 40)) 4 "l06_state.go:27" #[eD 25, eC 22, eG 22] (some (22, false))
abbrev VE : Oper := oq 42 (.fieldAddr 40 (.tmp 4) 3) 0 "l06_state.go:27" #[eG 26] (some (26, true))
abbrev VK : Oper := oq 43 (.load 3 (.tmp 42)) 3 "l06_state.go:27" #[eD 27, eG 26] (some (26, true))
abbrev VU : Oper := oq 44 (.binOp .neq 3 (.tmp 43) (.const (int i64 0)) 3) 4 "l06_state.go:27" #[eD 28, eG 26] (some (26, true))
abbrev VL : Oper := oq 45 (.pick (.tmp 41) (.tmp 44) (.const (.bool false))) 4 "l06_state.go:27" #[eD 26, eD 29, eG 22] (some (22, false))
abbrev Vw : Oper := oq 46 (.pick (.tmp 37) (.const (.bool true)) (.tmp 45)) 4 "l06_state.go:27" #[eD 22, eD 30] none
abbrev VN : Oper := oq 47 (.move (.tmp 46)) 4 "l06_state.go:27" #[eD 31, eC 26] none
abbrev GT : Oper := oq 48 (.move (.tmp 3)) 3 "l06_state.go:27" #[eG 32] (some (32, false))
abbrev G6 : Oper := oq 49 (.binOp .gtr 3 (.tmp 48) (.const (int i64 0)) 3) 4 "l06_state.go:27" #[eD 33, eG 32] (some (32, false))
abbrev G4 : Oper := oq 50 (.move (.tmp 49)) 4 "l06_state.go:27" #[eD 34, eC 32, eG 32] (some (32, false))
abbrev UB : Oper := oq 51 (.move (.tmp 0)) 26 "l06_state.go:27" #[eG 35] (some (35, true))
abbrev Ux : Oper := oq 52 (.move (.tmp 3)) 3 "l06_state.go:27" #[eG 35] (some (35, true))
abbrev G9 : Oper := oq 53 (.binOp .sub 3 (.tmp 52) (.const (int i64 1)) 3) 3 "l06_state.go:27" #[eD 37, eG 35] (some (35, true))
abbrev GX : Oper := oq 54 (.indexAddr 26 (.tmp 51) (.tmp 53)) 0 "l06_state.go:27" #[eD 36, eD 38, eG 35] (some (35, true))
abbrev G8 : Oper := oq 55 (.fieldAddr 40 (.tmp 54) 4) 0 "l06_state.go:27" #[eD 39, eG 35] (some (35, true))
abbrev Uf : Oper := oq 56 (.load 33 (.tmp 55)) 33 "l06_state.go:27" #[eD 40, eG 35] (some (35, true))
abbrev Uz : Oper := oq 57 (.fieldAddr 40 (.tmp 4) 4) 0 "l06_state.go:27" #[eG 35] (some (35, true))
abbrev Ua : Oper := oq 58 (.load 33 (.tmp 57)) 33 "l06_state.go:27" #[eD 42, eG 35] (some (35, true))
abbrev Gj : Oper := oq 59 (.call ⟨.value (.func 128), #[.tmp 56, .tmp 58], #[33, 33]⟩) 4 "l06_state.go:27" #[eD 41, eD 43, eC 35, eG 35] (some (35, true))
abbrev Gg : Oper := oq 60 (.unOp .not 4 (.tmp 59)) 4 "l06_state.go:27" #[eD 44, eG 35] (some (35, true))
abbrev Gn : Oper := oq 61 (.pick (.tmp 50) (.tmp 60) (.const (.bool false))) 4 "l06_state.go:27" #[eD 35, eD 45, eG 32] (some (32, false))
abbrev Gq : Oper := oq 62 (.pick (.tmp 47) (.const (.bool true)) (.tmp 61)) 4 "l06_state.go:27" #[eD 32, eD 46] none
theorem Vf (l : List Li) (u : Value) (w : World) (hn : l.length ≤ 1048576) (hst : ∀ a ∈ l, a.o.size ≤ 1048576 ∧ a.y.size ≤ 1048576) (h : LiAt w u l) :
  Calls Tryz.prog 79 #[u] w fun e w' => Tells e (Ug l) ∧ Below w.heap.size w w' := by
 obtain ⟨aa, ca, rfl, hga⟩ := h
 have HGA : Hid (LiG w aa l) := hga
 have HST := Ja hst
 obtain ⟨n, hnl⟩ : ∃ n, n = l.length := ⟨_, rfl⟩
 have HL : Hid (n = l.length) := hnl
 have HNO : Hid (¬ Asc Ue J4 l → ¬ Ug l) := fun h k => h k.2
 have HYES : Hid (Zn Ue J4 l n → (decide ((n : Int) ≤ 120) = true ↔ Ug l)) := fun h => by
  rw [hnl] at h ⊢
  constructor
  ·intro k; exact ⟨by have := of_decide_eq_true k; omega, GC h (Nat.le_refl _)⟩
  ·intro k; exact decide_eq_true (by have := k.1; omega)
 rw [← hnl] at hn ⊢
 clear hnl hga hst
 go_enter Tryz.func79, Tryz.ntmps79
 go_wp2
 go_loopw [3] (fun z wr => ∃ k : Nat, k ≤ n ∧ z = int i64 k ∧ Zn Ue J4 l k ∧ Below w.heap.size w wr) (fun z _ => n - (intOf z).toNat)
 case atStart => exact ⟨0, Nat.zero_le _, rfl, KO _ _ _, Below.refl _ _⟩
 case round =>
  obtain ⟨k, hk, rfl, hasc, hbel⟩ := hrel
  have HBE := Ja hbel
  have HAS := Ja hasc
  have hsz := hbel.size
  clear hasc
  by_cases hlt : k < n
  case neg =>
   have hk1 : ¬ ((k : Int) < n) := by omega
   have HE := Ja (HYES.out (by have e : k = n := (by omega); rw [← e]; exact HAS.out))
   go_wp2
   go_ret
   exact ⟨⟨_, rfl, HE.out⟩, HBE.out⟩
  have hkl : k < l.length := by rw [← HL.out]; exact hlt
  obtain ⟨g, f, rfl, hg, hcc⟩ := HGA.out (by omega)
  have hk1 : (k : Int) < n := by omega
  have hk0 : (0 : Int) ≤ k := by omega
  have q := (hcc k hkl).below hbel hg
  have hp1 : k - 1 < l.length := by omega
  have HPC : Hid (∀ wx, Below w.heap.size w wx → liC wx g (f + (k - 1) * 6) l[k - 1]) := fun wx h => (hcc (k - 1) hp1).below h hg
  have HF1 : Hid (¬ Ue l[k] → ¬ Ug l) := fun h => HNO.out (fun a => h (a k hkl).1)
  have HF2 : Hid (0 < k → ¬ J4 l[k - 1] l[k] → ¬ Ug l) := fun h0 h => HNO.out (fun a => h ((a k hkl).2 h0))
  have HMO : Hid (Ue l[k] → (0 < k → J4 l[k - 1] l[k]) → Zn Ue J4 l (k + 1)) := fun h1 h2 => KM HAS.out hkl h1 h2
  have hsx := HST.out l[k] (List.getElem_mem hkl)
  generalize l[k - 1] = p at *
  generalize l[k] = x at *
  unfold liC at q
  obtain ⟨q0, q1, q2, q3, q4, q5⟩ := q
  obtain ⟨WW, hWW⟩ : ∃ WW, WW = wr.alloc (.cells #[.bool x.m, .string x.o, .string x.y, int i64 x.v, int i64 x.r, int i64 x.s] 40) := ⟨_, rfl⟩
  have HBA : Hid (Below w.heap.size w WW) := by rw [hWW]; exact HBE.out.alloc hsz _
  have hRW : Row WW wr.heap.size #[.bool x.m, .string x.o, .string x.y, int i64 x.v, int i64 x.r, int i64 x.s] 40 := by rw [hWW]; exact Jb wr _ _ rfl
  have HWW : Hid (wr.alloc (.cells #[.bool x.m, .string x.o, .string x.y, int i64 x.v, int i64 x.r, int i64 x.s] 40) = WW) := hWW.symm
  have HS1 : Hid (∀ wx, Below WW.heap.size WW wx → wx.cell? ⟨wr.heap.size, 0, none⟩ = some (.bool x.m) ∧ wx.cell? ⟨wr.heap.size, 1, none⟩ = some (.string x.o) ∧ wx.cell? ⟨wr.heap.size, 2, none⟩ = some (.string x.y) ∧ wx.cell? ⟨wr.heap.size, 3, none⟩ = some (int i64 x.v) ∧ wx.cell? ⟨wr.heap.size, 4, none⟩ = some (int i64 x.r) ∧ wx.cell? ⟨wr.heap.size, 5, none⟩ = some (int i64 x.s) ∧ wx.cell? ⟨g, f + (k - 1) * 6 + 4, none⟩ = some (int i64 p.r) ∧ wx.cell? ⟨g, f + (k - 1) * 6 + 5, none⟩ = some (int i64 p.s)) := fun wx h => by
   have hq := HPC.out wx (HBA.out.trans (h.mono HBA.out.size))
   unfold liC at hq
   exact ⟨(hRW.next h).cell 0 rfl, (hRW.next h).cell 1 rfl, (hRW.next h).cell 2 rfl, (hRW.next h).cell 3 rfl, (hRW.next h).cell 4 rfl, (hRW.next h).cell 5 rfl, hq.2.2.2.2.1, hq.2.2.2.2.2⟩
  have HD : Hid (∀ wx, Calls Tryz.prog 88 #[.agg #[int i64 x.r, int i64 x.s]] wx fun e w' => e = .returned (.bool (decide (DOk x.r x.s))) ∧ Below wx.heap.size wx w') := fun wx => Jr x.r x.s wx
  have HN : Hid (∀ wx, Calls Tryz.prog 127 #[.string x.o] wx fun e w' => e = .returned (.bool (decide (NOk x.o))) ∧ Below wx.heap.size wx w') := fun wx => (JS x.o (by unfold maxLen; omega) wx).mono (by rintro e w' ⟨rfl, rfl⟩; exact ⟨rfl, Below.refl _ _⟩)
  have HY : Hid (∀ wx, Calls Tryz.prog 127 #[.string x.y] wx fun e w' => e = .returned (.bool (decide (NOk x.y))) ∧ Below wx.heap.size wx w') := fun wx => (JS x.y (by unfold maxLen; omega) wx).mono (by rintro e w' ⟨rfl, rfl⟩; exact ⟨rfl, Below.refl _ _⟩)
  have HV : Hid (∀ wx, Calls Tryz.prog 126 #[int i64 x.v, int i64 0, int i64 999999] wx fun e w' => e = .returned (.bool (decide (0 ≤ x.v) && decide (x.v ≤ 999999))) ∧ Below wx.heap.size wx w') := fun wx => (JD x.v 0 999999 wx).mono (by rintro e w' ⟨rfl, rfl⟩; exact ⟨rfl, Below.refl _ _⟩)
  have HB4 : Hid (∀ wx, Calls Tryz.prog 128 #[.agg #[int i64 p.r, int i64 p.s], .agg #[int i64 x.r, int i64 x.s]] wx fun e w' => e = .returned (.bool (decide (Jn p.r p.s x.r x.s))) ∧ Below wx.heap.size wx w') := fun wx => Z4 p.r p.s x.r x.s wx
  have hBc : Below WW.heap.size WW WW := Below.refl _ _
  clear hWW hRW hcc hbel hkl hp1 hsx HAS HNO HPC
  have hwk : IntKind.i64.wrap ((k : Int) - 1) = (k : Int) - 1 := by rw [IntKind.wrap_i64] <;> omega
  have hnt : ((k : Int) - 1).toNat = k - 1 := by omega
  go_wp2
  rw [HWW.out]
  try simp only [List.append_eq, List.cons_append, List.nil_append]
  clear HWW q0 q1 q2 q3 q4 q5
  replace hBc := hBc.drew
  have hs := Ja (HS1.out _ hBc)
  refine wph HS1 hBc 48 ?_
  refine tQ 0 JkB ?_; refine tQ 1 JkZ ?_
  by_cases h1 : DOk x.r x.s
  case neg =>
   rw [decide_eq_false h1] at HD
   have HE := Ja (HF1.out (fun h => h1 h.1))
   clear HF1 HF2 HMO h1
   refine rd 2 Jiv (fun K hK => ?_)
   go_simp
   refine (HD.out _).mono ?_
   rintro e wn ⟨rfl, hbn⟩
   replace hBc := nx hBc hbn
   clear hbn
   try go_wp2_with fail
   replace hs := Ja (HS1.out _ hBc)
   refine hK.out _ _ hs.out (fun hx => ?_)
   clear hx hK K
   try simp only [s1, s2, s3]
   refine tQ 3 Jjg ?_; refine tQ 4 Jj6 ?_; refine sQ 5 JjT ?_; refine sQ 6 Jjc ?_; refine cQ 7 Jgb ?_; refine sQ 8 JfT ?_; refine tQ 9 JhP ?_; refine tQ 10 JdJ ?_; refine sQ 11 JdC ?_; refine sQ 12 JdH ?_; refine cQ 13 Jcl ?_; refine sQ 14 Jcn ?_; refine tQ 15 Jci ?_; refine tQ 16 Jcg ?_; refine sQ 17 Jcp ?_; refine sQ 18 Jcz ?_; refine cQ 19 Jbg ?_; refine sQ 20 JbR ?_; refine tQ 21 JaZ ?_; refine tQ 22 Jbt ?_; refine sQ 23 Jbq ?_; refine sQ 24 JbA ?_; refine sQ 25 Jbz ?_; refine sQ 26 JbB ?_; refine sQ 27 VE ?_; refine sQ 28 VK ?_; refine sQ 29 VU ?_; refine sQ 30 VL ?_; refine tQ 31 Vw ?_; refine tQ 32 VN ?_; refine sQ 33 GT ?_; refine sQ 34 G6 ?_; refine sQ 35 G4 ?_; refine sQ 36 UB ?_; refine sQ 37 Ux ?_; refine sQ 38 G9 ?_; refine sQ 39 GX ?_; refine sQ 40 G8 ?_; refine sQ 41 Uf ?_; refine sQ 42 Uz ?_; refine sQ 43 Ua ?_; refine cQ 44 Gj ?_; refine sQ 45 Gg ?_; refine sQ 46 Gn ?_; refine tQ 47 Gq ?_
   refine wpd ?_
   have HBF := Ja (HBA.out.trans (hBc.mono HBA.out.size))
   clear hs hBc HS1
   go_wp2
   go_ret
   exact ⟨Tells.no HE.out, HBF.out⟩
  rw [decide_eq_true h1] at HD
  have HH0 := Ja h1
  clear h1
  refine rd 2 Jiv (fun K hK => ?_)
  go_simp
  refine (HD.out _).mono ?_
  rintro e wn ⟨rfl, hbn⟩
  replace hBc := nx hBc hbn
  clear hbn
  try go_wp2_with fail
  replace hs := Ja (HS1.out _ hBc)
  refine hK.out _ _ hs.out (fun hx => ?_)
  clear hx hK K
  try simp only [s1, s2, s3]
  clear HD
  refine tQ 3 Jjg ?_; refine tQ 4 Jj6 ?_; refine tQ 5 JjT ?_; refine tQ 6 Jjc ?_
  by_cases h2 : NOk x.o
  case neg =>
   rw [decide_eq_false h2] at HN
   have HE := Ja (HF1.out (fun h => h2 h.2.1))
   clear HF1 HF2 HMO HH0 h2
   refine rd 7 Jgb (fun K hK => ?_)
   go_simp
   refine (HN.out _).mono ?_
   rintro e wn ⟨rfl, hbn⟩
   replace hBc := nx hBc hbn
   clear hbn
   try go_wp2_with fail
   replace hs := Ja (HS1.out _ hBc)
   refine hK.out _ _ hs.out (fun hx => ?_)
   clear hx hK K
   try simp only [s1, s2, s3]
   refine tQ 8 JfT ?_; refine tQ 9 JhP ?_; refine tQ 10 JdJ ?_; refine sQ 11 JdC ?_; refine sQ 12 JdH ?_; refine cQ 13 Jcl ?_; refine sQ 14 Jcn ?_; refine tQ 15 Jci ?_; refine tQ 16 Jcg ?_; refine sQ 17 Jcp ?_; refine sQ 18 Jcz ?_; refine cQ 19 Jbg ?_; refine sQ 20 JbR ?_; refine tQ 21 JaZ ?_; refine tQ 22 Jbt ?_; refine sQ 23 Jbq ?_; refine sQ 24 JbA ?_; refine sQ 25 Jbz ?_; refine sQ 26 JbB ?_; refine sQ 27 VE ?_; refine sQ 28 VK ?_; refine sQ 29 VU ?_; refine sQ 30 VL ?_; refine tQ 31 Vw ?_; refine tQ 32 VN ?_; refine sQ 33 GT ?_; refine sQ 34 G6 ?_; refine sQ 35 G4 ?_; refine sQ 36 UB ?_; refine sQ 37 Ux ?_; refine sQ 38 G9 ?_; refine sQ 39 GX ?_; refine sQ 40 G8 ?_; refine sQ 41 Uf ?_; refine sQ 42 Uz ?_; refine sQ 43 Ua ?_; refine cQ 44 Gj ?_; refine sQ 45 Gg ?_; refine sQ 46 Gn ?_; refine tQ 47 Gq ?_
   refine wpd ?_
   have HBF := Ja (HBA.out.trans (hBc.mono HBA.out.size))
   clear hs hBc HS1
   go_wp2
   go_ret
   exact ⟨Tells.no HE.out, HBF.out⟩
  rw [decide_eq_true h2] at HN
  have HH1 := Ja h2
  clear h2
  refine rd 7 Jgb (fun K hK => ?_)
  go_simp
  refine (HN.out _).mono ?_
  rintro e wn ⟨rfl, hbn⟩
  replace hBc := nx hBc hbn
  clear hbn
  try go_wp2_with fail
  replace hs := Ja (HS1.out _ hBc)
  refine hK.out _ _ hs.out (fun hx => ?_)
  clear hx hK K
  try simp only [s1, s2, s3]
  clear HN
  refine tQ 8 JfT ?_; refine tQ 9 JhP ?_; refine tQ 10 JdJ ?_; refine tQ 11 JdC ?_; refine tQ 12 JdH ?_
  by_cases h3 : NOk x.y
  case neg =>
   rw [decide_eq_false h3] at HY
   have HE := Ja (HF1.out (fun h => h3 h.2.2.1))
   clear HF1 HF2 HMO HH0 HH1 h3
   refine rd 13 Jcl (fun K hK => ?_)
   go_simp
   refine (HY.out _).mono ?_
   rintro e wn ⟨rfl, hbn⟩
   replace hBc := nx hBc hbn
   clear hbn
   try go_wp2_with fail
   replace hs := Ja (HS1.out _ hBc)
   refine hK.out _ _ hs.out (fun hx => ?_)
   clear hx hK K
   try simp only [s1, s2, s3]
   refine tQ 14 Jcn ?_; refine tQ 15 Jci ?_; refine tQ 16 Jcg ?_; refine sQ 17 Jcp ?_; refine sQ 18 Jcz ?_; refine cQ 19 Jbg ?_; refine sQ 20 JbR ?_; refine tQ 21 JaZ ?_; refine tQ 22 Jbt ?_; refine sQ 23 Jbq ?_; refine sQ 24 JbA ?_; refine sQ 25 Jbz ?_; refine sQ 26 JbB ?_; refine sQ 27 VE ?_; refine sQ 28 VK ?_; refine sQ 29 VU ?_; refine sQ 30 VL ?_; refine tQ 31 Vw ?_; refine tQ 32 VN ?_; refine sQ 33 GT ?_; refine sQ 34 G6 ?_; refine sQ 35 G4 ?_; refine sQ 36 UB ?_; refine sQ 37 Ux ?_; refine sQ 38 G9 ?_; refine sQ 39 GX ?_; refine sQ 40 G8 ?_; refine sQ 41 Uf ?_; refine sQ 42 Uz ?_; refine sQ 43 Ua ?_; refine cQ 44 Gj ?_; refine sQ 45 Gg ?_; refine sQ 46 Gn ?_; refine tQ 47 Gq ?_
   refine wpd ?_
   have HBF := Ja (HBA.out.trans (hBc.mono HBA.out.size))
   clear hs hBc HS1
   go_wp2
   go_ret
   exact ⟨Tells.no HE.out, HBF.out⟩
  rw [decide_eq_true h3] at HY
  have HH2 := Ja h3
  clear h3
  refine rd 13 Jcl (fun K hK => ?_)
  go_simp
  refine (HY.out _).mono ?_
  rintro e wn ⟨rfl, hbn⟩
  replace hBc := nx hBc hbn
  clear hbn
  try go_wp2_with fail
  replace hs := Ja (HS1.out _ hBc)
  refine hK.out _ _ hs.out (fun hx => ?_)
  clear hx hK K
  try simp only [s1, s2, s3]
  clear HY
  refine tQ 14 Jcn ?_; refine tQ 15 Jci ?_; refine tQ 16 Jcg ?_; refine tQ 17 Jcp ?_; refine tQ 18 Jcz ?_
  by_cases h4 : 0 ≤ x.v ∧ x.v ≤ 999999
  case neg =>
   have hbb : (decide (0 ≤ x.v) && decide (x.v ≤ 999999)) = false := by
    by_cases ha : 0 ≤ x.v <;> by_cases hb : x.v ≤ 999999 <;> simp [ha, hb] <;> exact h4 ⟨ha, hb⟩
   rw [hbb] at HV
   clear hbb
   have HE := Ja (HF1.out (fun h => h4 h.2.2.2.1))
   clear HF1 HF2 HMO HH0 HH1 HH2 h4
   refine rd 19 Jbg (fun K hK => ?_)
   go_simp
   refine (HV.out _).mono ?_
   rintro e wn ⟨rfl, hbn⟩
   replace hBc := nx hBc hbn
   clear hbn
   try go_wp2_with fail
   replace hs := Ja (HS1.out _ hBc)
   refine hK.out _ _ hs.out (fun hx => ?_)
   clear hx hK K
   try simp only [s1, s2, s3]
   refine tQ 20 JbR ?_; refine tQ 21 JaZ ?_; refine tQ 22 Jbt ?_; refine sQ 23 Jbq ?_; refine sQ 24 JbA ?_; refine sQ 25 Jbz ?_; refine sQ 26 JbB ?_; refine sQ 27 VE ?_; refine sQ 28 VK ?_; refine sQ 29 VU ?_; refine sQ 30 VL ?_; refine tQ 31 Vw ?_; refine tQ 32 VN ?_; refine sQ 33 GT ?_; refine sQ 34 G6 ?_; refine sQ 35 G4 ?_; refine sQ 36 UB ?_; refine sQ 37 Ux ?_; refine sQ 38 G9 ?_; refine sQ 39 GX ?_; refine sQ 40 G8 ?_; refine sQ 41 Uf ?_; refine sQ 42 Uz ?_; refine sQ 43 Ua ?_; refine cQ 44 Gj ?_; refine sQ 45 Gg ?_; refine sQ 46 Gn ?_; refine tQ 47 Gq ?_
   refine wpd ?_
   have HBF := Ja (HBA.out.trans (hBc.mono HBA.out.size))
   clear hs hBc HS1
   go_wp2
   go_ret
   exact ⟨Tells.no HE.out, HBF.out⟩
  have hbb : (decide (0 ≤ x.v) && decide (x.v ≤ 999999)) = true := by simp [h4]
  rw [hbb] at HV
  clear hbb
  have HH3 := Ja h4
  clear h4
  refine rd 19 Jbg (fun K hK => ?_)
  go_simp
  refine (HV.out _).mono ?_
  rintro e wn ⟨rfl, hbn⟩
  replace hBc := nx hBc hbn
  clear hbn
  try go_wp2_with fail
  replace hs := Ja (HS1.out _ hBc)
  refine hK.out _ _ hs.out (fun hx => ?_)
  clear hx hK K
  try simp only [s1, s2, s3]
  clear HV
  refine tQ 20 JbR ?_; refine tQ 21 JaZ ?_; refine tQ 22 Jbt ?_; refine tQ 23 Jbq ?_; refine tQ 24 JbA ?_; refine tQ 25 Jbz ?_; refine tQ 26 JbB ?_
  cases em : x.m with
  | true =>
   rw [em] at hs HS1
   have HOX : Hid (Ue x) := ⟨HH0.out, HH1.out, HH2.out, HH3.out, fun e => by rw [em] at e; cases e⟩
   clear HF1 HH0 HH1 HH2 HH3 em
   refine sQ 27 VE ?_; refine sQ 28 VK ?_; refine sQ 29 VU ?_; refine tQ 30 VL ?_; refine tQ 31 Vw ?_; refine tQ 32 VN ?_
   by_cases hkz : k = 0
   case pos =>
    have HE := Ja (HMO.out HOX.out (fun h0 => by omega))
    have hkn : ¬ (0 : Int) < k := by omega
    have hkn2 : ¬ 0 < k := by omega
    clear HF2 HMO hkz
    refine tQ 33 GT ?_; refine tQ 34 G6 ?_; refine tQ 35 G4 ?_; refine sQ 36 UB ?_; refine sQ 37 Ux ?_; refine sQ 38 G9 ?_; refine sQ 39 GX ?_; refine sQ 40 G8 ?_; refine sQ 41 Uf ?_; refine sQ 42 Uz ?_; refine sQ 43 Ua ?_; refine cQ 44 Gj ?_; refine sQ 45 Gg ?_; refine tQ 46 Gn ?_; refine tQ 47 Gq ?_
    refine wpd ?_
    have HBF := Ja (HBA.out.trans (hBc.mono HBA.out.size))
    clear hs hBc HS1
    go_wp2
    go_roundw
    case rel => exact ⟨k + 1, by omega, by go_num, HE.out, HBF.out⟩
    case measure => simp [intOf]; omega
   have hkp : (0 : Int) < k := by omega
   have hkpn : 0 < k := by omega
   have hkp1 : (1 : Int) ≤ (k : Int) := by omega
   have hq1 : (0 : Int) ≤ (k : Int) - 1 := by omega
   have hq2 : (k : Int) - 1 < n := by omega
   clear hkz
   refine tQ 33 GT ?_; refine tQ 34 G6 ?_; refine tQ 35 G4 ?_; refine tQ 36 UB ?_; refine tQ 37 Ux ?_; refine tQ 38 G9 ?_; refine tQ 39 GX ?_; refine tQ 40 G8 ?_; refine tQ 41 Uf ?_; refine tQ 42 Uz ?_; refine tQ 43 Ua ?_
   by_cases hbf : Jn p.r p.s x.r x.s
   case pos =>
    rw [decide_eq_true hbf] at HB4
    have HE := Ja (HMO.out HOX.out (fun _ => hbf))
    clear HF2 HMO hbf
    refine rd 44 Gj (fun K hK => ?_)
    go_simp
    refine (HB4.out _).mono ?_
    rintro e wn ⟨rfl, hbn⟩
    replace hBc := nx hBc hbn
    clear hbn
    try go_wp2_with fail
    replace hs := Ja (HS1.out _ hBc)
    refine hK.out _ _ hs.out (fun hx => ?_)
    clear hx hK K
    try simp only [s1, s2, s3]
    refine tQ 45 Gg ?_; refine tQ 46 Gn ?_; refine tQ 47 Gq ?_
    refine wpd ?_
    have HBF := Ja (HBA.out.trans (hBc.mono HBA.out.size))
    clear hs hBc HS1
    go_wp2
    go_roundw
    case rel => exact ⟨k + 1, by omega, by go_num, HE.out, HBF.out⟩
    case measure => simp [intOf]; omega
   rw [decide_eq_false hbf] at HB4
   have HE := Ja (HF2.out (by omega) (fun h => hbf h))
   clear HF2 HMO hbf
   refine rd 44 Gj (fun K hK => ?_)
   go_simp
   refine (HB4.out _).mono ?_
   rintro e wn ⟨rfl, hbn⟩
   replace hBc := nx hBc hbn
   clear hbn
   try go_wp2_with fail
   replace hs := Ja (HS1.out _ hBc)
   refine hK.out _ _ hs.out (fun hx => ?_)
   clear hx hK K
   try simp only [s1, s2, s3]
   refine tQ 45 Gg ?_; refine tQ 46 Gn ?_; refine tQ 47 Gq ?_
   refine wpd ?_
   have HBF := Ja (HBA.out.trans (hBc.mono HBA.out.size))
   clear hs hBc HS1
   go_wp2
   go_ret
   exact ⟨Tells.no HE.out, HBF.out⟩
  | false =>
   rw [em] at hs HS1
   by_cases hz : x.v = 0
   case neg =>
    have bv : (x.v != 0) = true := by simp [hz]
    have HE := Ja (HF1.out (fun h => hz (h.2.2.2.2 em)))
    clear HF1 HF2 HMO HH0 HH1 HH2 HH3 em hz
    refine tQ 27 VE ?_; refine tQ 28 VK ?_; refine tQ 29 VU ?_; refine tQ 30 VL ?_; refine tQ 31 Vw ?_; refine tQ 32 VN ?_; refine sQ 33 GT ?_; refine sQ 34 G6 ?_; refine sQ 35 G4 ?_; refine sQ 36 UB ?_; refine sQ 37 Ux ?_; refine sQ 38 G9 ?_; refine sQ 39 GX ?_; refine sQ 40 G8 ?_; refine sQ 41 Uf ?_; refine sQ 42 Uz ?_; refine sQ 43 Ua ?_; refine cQ 44 Gj ?_; refine sQ 45 Gg ?_; refine sQ 46 Gn ?_; refine tQ 47 Gq ?_
    refine wpd ?_
    have HBF := Ja (HBA.out.trans (hBc.mono HBA.out.size))
    clear hs hBc HS1
    go_wp2
    go_ret
    exact ⟨Tells.no HE.out, HBF.out⟩
   have bv : (x.v != 0) = false := by simp [hz]
   have HOX : Hid (Ue x) := ⟨HH0.out, HH1.out, HH2.out, HH3.out, fun _ => hz⟩
   clear HF1 HH0 HH1 HH2 HH3 em hz
   refine tQ 27 VE ?_; refine tQ 28 VK ?_; refine tQ 29 VU ?_; refine tQ 30 VL ?_; refine tQ 31 Vw ?_; refine tQ 32 VN ?_
   by_cases hkz : k = 0
   case pos =>
    have HE := Ja (HMO.out HOX.out (fun h0 => by omega))
    have hkn : ¬ (0 : Int) < k := by omega
    have hkn2 : ¬ 0 < k := by omega
    clear HF2 HMO hkz
    refine tQ 33 GT ?_; refine tQ 34 G6 ?_; refine tQ 35 G4 ?_; refine sQ 36 UB ?_; refine sQ 37 Ux ?_; refine sQ 38 G9 ?_; refine sQ 39 GX ?_; refine sQ 40 G8 ?_; refine sQ 41 Uf ?_; refine sQ 42 Uz ?_; refine sQ 43 Ua ?_; refine cQ 44 Gj ?_; refine sQ 45 Gg ?_; refine tQ 46 Gn ?_; refine tQ 47 Gq ?_
    refine wpd ?_
    have HBF := Ja (HBA.out.trans (hBc.mono HBA.out.size))
    clear hs hBc HS1
    go_wp2
    go_roundw
    case rel => exact ⟨k + 1, by omega, by go_num, HE.out, HBF.out⟩
    case measure => simp [intOf]; omega
   have hkp : (0 : Int) < k := by omega
   have hkpn : 0 < k := by omega
   have hkp1 : (1 : Int) ≤ (k : Int) := by omega
   have hq1 : (0 : Int) ≤ (k : Int) - 1 := by omega
   have hq2 : (k : Int) - 1 < n := by omega
   clear hkz
   refine tQ 33 GT ?_; refine tQ 34 G6 ?_; refine tQ 35 G4 ?_; refine tQ 36 UB ?_; refine tQ 37 Ux ?_; refine tQ 38 G9 ?_; refine tQ 39 GX ?_; refine tQ 40 G8 ?_; refine tQ 41 Uf ?_; refine tQ 42 Uz ?_; refine tQ 43 Ua ?_
   by_cases hbf : Jn p.r p.s x.r x.s
   case pos =>
    rw [decide_eq_true hbf] at HB4
    have HE := Ja (HMO.out HOX.out (fun _ => hbf))
    clear HF2 HMO hbf
    refine rd 44 Gj (fun K hK => ?_)
    go_simp
    refine (HB4.out _).mono ?_
    rintro e wn ⟨rfl, hbn⟩
    replace hBc := nx hBc hbn
    clear hbn
    try go_wp2_with fail
    replace hs := Ja (HS1.out _ hBc)
    refine hK.out _ _ hs.out (fun hx => ?_)
    clear hx hK K
    try simp only [s1, s2, s3]
    refine tQ 45 Gg ?_; refine tQ 46 Gn ?_; refine tQ 47 Gq ?_
    refine wpd ?_
    have HBF := Ja (HBA.out.trans (hBc.mono HBA.out.size))
    clear hs hBc HS1
    go_wp2
    go_roundw
    case rel => exact ⟨k + 1, by omega, by go_num, HE.out, HBF.out⟩
    case measure => simp [intOf]; omega
   rw [decide_eq_false hbf] at HB4
   have HE := Ja (HF2.out (by omega) (fun h => hbf h))
   clear HF2 HMO hbf
   refine rd 44 Gj (fun K hK => ?_)
   go_simp
   refine (HB4.out _).mono ?_
   rintro e wn ⟨rfl, hbn⟩
   replace hBc := nx hBc hbn
   clear hbn
   try go_wp2_with fail
   replace hs := Ja (HS1.out _ hBc)
   refine hK.out _ _ hs.out (fun hx => ?_)
   clear hx hK K
   try simp only [s1, s2, s3]
   refine tQ 45 Gg ?_; refine tQ 46 Gn ?_; refine tQ 47 Gq ?_
   refine wpd ?_
   have HBF := Ja (HBA.out.trans (hBc.mono HBA.out.size))
   clear hs hBc HS1
   go_wp2
   go_ret
   exact ⟨Tells.no HE.out, HBF.out⟩
end Go.Proofs.YtdknoflkingodaaGreat
