/- Right lives, as the specification asks. -/
import Derived.Test.YtepfinenocpneaaGreatQ17
set_option maxHeartbeats 16000000
namespace Go.Proofs.YtepfinenocpneaaGreat
open Value (int)
open IntKind (i64)
set_option maxRecDepth 100000
set_option linter.unusedVariables false
open Go.RowKit
def KD (a b : Li) : Prop := Jo a.r a.s b.r b.s
def GA (a : Li) : Prop := DOk a.r a.s ∧ NOk a.o ∧ NOk a.y ∧ (0 ≤ a.v ∧ a.v ≤ 999999) ∧ (a.m = false → a.v = 0)
def GF (l : List Li) : Prop := l.length ≤ 120 ∧ Asc GA KD l
abbrev JiX : Oper := oq 15 (.fieldAddr 88 (.tmp 4) 4) 0 "l06_state.go:27" #[] none
abbrev JjI : Oper := oq 16 (.load 42 (.tmp 15)) 42 "l06_state.go:27" #[eD 0] none
abbrev JhA : Oper := oq 17 (.call ⟨.value (.func 58), #[.tmp 16], #[42]⟩) 4 "l06_state.go:27" #[eD 1] none
abbrev JgM : Oper := oq 18 (.unOp .not 4 (.tmp 17)) 4 "l06_state.go:27" #[eD 2] none
abbrev Jh9 : Oper := oq 19 (.move (.tmp 18)) 4 "l06_state.go:27" #[eD 3, eC 2] none
abbrev JhP : Oper := oq 20 (.fieldAddr 88 (.tmp 4) 1) 0 "l06_state.go:27" #[eG 4] (some (4, false))
abbrev JiL : Oper := oq 21 (.load 9 (.tmp 20)) 9 "l06_state.go:27" #[eD 5, eG 4] (some (4, false))
abbrev Jft : Oper := oq 22 (.call ⟨.value (.func 108), #[.tmp 21], #[9]⟩) 4 "l06_state.go:27" #[eD 6, eC 4, eG 4] (some (4, false))
abbrev Je4 : Oper := oq 23 (.unOp .not 4 (.tmp 22)) 4 "l06_state.go:27" #[eD 7, eG 4] (some (4, false))
abbrev Jgg : Oper := oq 24 (.pick (.tmp 19) (.const (.bool true)) (.tmp 23)) 4 "l06_state.go:27" #[eD 4, eD 8] none
abbrev Jdj : Oper := oq 25 (.move (.tmp 24)) 4 "l06_state.go:27" #[eD 9, eC 7] none
abbrev Jc3 : Oper := oq 26 (.fieldAddr 88 (.tmp 4) 2) 0 "l06_state.go:27" #[eG 10] (some (10, false))
abbrev Jdf : Oper := oq 27 (.load 9 (.tmp 26)) 9 "l06_state.go:27" #[eD 11, eG 10] (some (10, false))
abbrev JbE : Oper := oq 28 (.call ⟨.value (.func 108), #[.tmp 27], #[9]⟩) 4 "l06_state.go:27" #[eD 12, eC 10, eG 10] (some (10, false))
abbrev JbJ : Oper := oq 29 (.unOp .not 4 (.tmp 28)) 4 "l06_state.go:27" #[eD 13, eG 10] (some (10, false))
abbrev JbA : Oper := oq 30 (.pick (.tmp 25) (.const (.bool true)) (.tmp 29)) 4 "l06_state.go:27" #[eD 10, eD 14] none
abbrev Jbx : Oper := oq 31 (.move (.tmp 30)) 4 "l06_state.go:27" #[eD 15, eC 13] none
abbrev Jbg : Oper := oq 32 (.fieldAddr 88 (.tmp 4) 3) 0 "l06_state.go:27" #[eG 16] (some (16, false))
abbrev Jbs : Oper := oq 33 (.load 3 (.tmp 32)) 3 "l06_state.go:27" #[eD 17, eG 16] (some (16, false))
abbrev JaC : Oper := oq 34 (.call ⟨.value (.func 84), #[.tmp 33, .const (int i64 0), .const (int i64 999999)], #[3, 3, 3]⟩) 4 "l06_state.go:27" #[eD 18, eC 16, eG 16] (some (16, false))
abbrev JaQ : Oper := oq 35 (.unOp .not 4 (.tmp 34)) 4 "l06_state.go:27" #[eD 19, eG 16] (some (16, false))
abbrev Jaa : Oper := oq 36 (.pick (.tmp 31) (.const (.bool true)) (.tmp 35)) 4 "l06_state.go:27" #[eD 16, eD 20] none
abbrev Y9 : Oper := oq 37 (.move (.tmp 36)) 4 "l06_state.go:27" #[eD 21, eC 19] none
abbrev JaO : Oper := oq 38 (.fieldAddr 88 (.tmp 4) 0) 0 "l06_state.go:27" #[eG 22] (some (22, false))
abbrev Jas : Oper := oq 39 (.load 4 (.tmp 38)) 4 "l06_state.go:27" #[eD 23, eG 22] (some (22, false))
abbrev Jao : Oper := oq 40 (.unOp .not 4 (.tmp 39)) 4 "l06_state.go:27" #[eD 24, eG 22] (some (22, false))
abbrev Jau : Oper := oq 41 (.move (.tmp 40)) 4 "l06_state.go:27" #[eD 25, eC 22, eG 22] (some (22, false))
abbrev UN : Oper := oq 42 (.fieldAddr 88 (.tmp 4) 3) 0 "l06_state.go:27" #[eG 26] (some (26, true))
abbrev U1 : Oper := oq 43 (.load 3 (.tmp 42)) 3 "l06_state.go:27" #[eD 27, eG 26] (some (26, true))
abbrev UA : Oper := oq 44 (.binOp .neq 3 (.tmp 43) (.const (int i64 0)) 3) 4 "l06_state.go:27" #[eD 28, eG 26] (some (26, true))
abbrev U5 : Oper := oq 45 (.pick (.tmp 41) (.tmp 44) (.const (.bool false))) 4 "l06_state.go:27" #[eD 26, eD 29, eG 22] (some (22, false))
abbrev Ut : Oper := oq 46 (.pick (.tmp 37) (.const (.bool true)) (.tmp 45)) 4 "l06_state.go:27" #[eD 22, eD 30] none
abbrev Vc : Oper := oq 47 (.move (.tmp 46)) 4 "l06_state.go:27" #[eD 31, eC 26] none
abbrev KY : Oper := oq 48 (.move (.tmp 3)) 3 "l06_state.go:27" #[eG 32] (some (32, false))
abbrev Gl : Oper := oq 49 (.binOp .gtr 3 (.tmp 48) (.const (int i64 0)) 3) 4 "l06_state.go:27" #[eD 33, eG 32] (some (32, false))
abbrev Gi : Oper := oq 50 (.move (.tmp 49)) 4 "l06_state.go:27" #[eD 34, eC 32, eG 32] (some (32, false))
abbrev GE : Oper := oq 51 (.move (.tmp 0)) 26 "l06_state.go:27" #[eG 35] (some (35, true))
abbrev Gv : Oper := oq 52 (.move (.tmp 3)) 3 "l06_state.go:27" #[eG 35] (some (35, true))
abbrev Gs : Oper := oq 53 (.binOp .sub 3 (.tmp 52) (.const (int i64 1)) 3) 3 "l06_state.go:27" #[eD 37, eG 35] (some (35, true))
abbrev Ga : Oper := oq 54 (.indexAddr 26 (.tmp 51) (.tmp 53)) 0 "l06_state.go:27" #[eD 36, eD 38, eG 35] (some (35, true))
abbrev Gr : Oper := oq 55 (.fieldAddr 88 (.tmp 54) 4) 0 "l06_state.go:27" #[eD 39, eG 35] (some (35, true))
abbrev GD : Oper := oq 56 (.load 42 (.tmp 55)) 42 "l06_state.go:27" #[eD 40, eG 35] (some (35, true))
abbrev GC : Oper := oq 57 (.fieldAddr 88 (.tmp 4) 4) 0 "l06_state.go:27" #[eG 35] (some (35, true))
abbrev Gt : Oper := oq 58 (.load 42 (.tmp 57)) 42 "l06_state.go:27" #[eD 42, eG 35] (some (35, true))
abbrev Kh : Oper := oq 59 (.call ⟨.value (.func 109), #[.tmp 56, .tmp 58], #[42, 42]⟩) 4 "l06_state.go:27" #[eD 41, eD 43, eC 35, eG 35] (some (35, true))
abbrev Ke : Oper := oq 60 (.unOp .not 4 (.tmp 59)) 4 "l06_state.go:27" #[eD 44, eG 35] (some (35, true))
abbrev Kk : Oper := oq 61 (.pick (.tmp 50) (.tmp 60) (.const (.bool false))) 4 "l06_state.go:27" #[eD 35, eD 45, eG 32] (some (32, false))
abbrev Ks : Oper := oq 62 (.pick (.tmp 47) (.const (.bool true)) (.tmp 61)) 4 "l06_state.go:27" #[eD 32, eD 46] none
theorem Um (l : List Li) (u : Value) (w : World) (hn : l.length ≤ 1048576) (hst : ∀ a ∈ l, a.o.size ≤ 1048576 ∧ a.y.size ≤ 1048576) (h : LiAt w u l) :
  Calls Tryz.prog 60 #[u] w fun e w' => Tells e (GF l) ∧ Below w.heap.size w w' := by
 obtain ⟨aa, ca, rfl, hga⟩ := h
 have HGA : Hid (LiG w aa l) := hga
 have HST := Ja hst
 obtain ⟨n, hnl⟩ : ∃ n, n = l.length := ⟨_, rfl⟩
 have HL : Hid (n = l.length) := hnl
 have HNO : Hid (¬ Asc GA KD l → ¬ GF l) := fun h k => h k.2
 have HYES : Hid (ZW GA KD l n → (decide ((n : Int) ≤ 120) = true ↔ GF l)) := fun h => by
  rw [hnl] at h ⊢
  constructor
  ·intro k; exact ⟨by have := of_decide_eq_true k; omega, YP h (Nat.le_refl _)⟩
  ·intro k; exact decide_eq_true (by have := k.1; omega)
 rw [← hnl] at hn ⊢
 clear hnl hga hst
 go_enter Tryz.func60, Tryz.ntmps60
 go_wp2
 go_loopw [3] (fun z wr => ∃ k : Nat, k ≤ n ∧ z = int i64 k ∧ ZW GA KD l k ∧ Below w.heap.size w wr) (fun z _ => n - (intOf z).toNat)
 case atStart => exact ⟨0, Nat.zero_le _, rfl, U8 _ _ _, Below.refl _ _⟩
 case round =>
  obtain ⟨k, hk, rfl, hasc, hbel⟩ := hrel
  have HBE := Ja hbel
  have HAS := Ja hasc
  have hsz := hbel.size
  clear hasc
  by_cases hlt : k < n
  case neg =>
   have hk1 : ¬ ((k : Int) < n) := by omega
   have HE := Ja (HYES.out (by have e : k = n := (by omega); rw [← e]; exact HAS.out))
   go_wp2
   go_ret
   exact ⟨⟨_, rfl, HE.out⟩, HBE.out⟩
  have hkl : k < l.length := by rw [← HL.out]; exact hlt
  obtain ⟨g, f, rfl, hg, hcc⟩ := HGA.out (by omega)
  have hk1 : (k : Int) < n := by omega
  have hk0 : (0 : Int) ≤ k := by omega
  have q := (hcc k hkl).below hbel hg
  have hp1 : k - 1 < l.length := by omega
  have HPC : Hid (∀ wx, Below w.heap.size w wx → liC wx g (f + (k - 1) * 6) l[k - 1]) := fun wx h => (hcc (k - 1) hp1).below h hg
  have HF1 : Hid (¬ GA l[k] → ¬ GF l) := fun h => HNO.out (fun a => h (a k hkl).1)
  have HF2 : Hid (0 < k → ¬ KD l[k - 1] l[k] → ¬ GF l) := fun h0 h => HNO.out (fun a => h ((a k hkl).2 h0))
  have HMO : Hid (GA l[k] → (0 < k → KD l[k - 1] l[k]) → ZW GA KD l (k + 1)) := fun h1 h2 => Uy HAS.out hkl h1 h2
  have hsx := HST.out l[k] (List.getElem_mem hkl)
  generalize l[k - 1] = p at *
  generalize l[k] = x at *
  unfold liC at q
  obtain ⟨q0, q1, q2, q3, q4, q5⟩ := q
  obtain ⟨WW, hWW⟩ : ∃ WW, WW = wr.alloc (.cells #[.bool x.m, .string x.o, .string x.y, int i64 x.v, int i64 x.r, int i64 x.s] 88) := ⟨_, rfl⟩
  have HBA : Hid (Below w.heap.size w WW) := by rw [hWW]; exact HBE.out.alloc hsz _
  have hRW : Row WW wr.heap.size #[.bool x.m, .string x.o, .string x.y, int i64 x.v, int i64 x.r, int i64 x.s] 88 := by rw [hWW]; exact Jb wr _ _ rfl
  have HWW : Hid (wr.alloc (.cells #[.bool x.m, .string x.o, .string x.y, int i64 x.v, int i64 x.r, int i64 x.s] 88) = WW) := hWW.symm
  have HS1 : Hid (∀ wx, Below WW.heap.size WW wx → wx.cell? ⟨wr.heap.size, 0, none⟩ = some (.bool x.m) ∧ wx.cell? ⟨wr.heap.size, 1, none⟩ = some (.string x.o) ∧ wx.cell? ⟨wr.heap.size, 2, none⟩ = some (.string x.y) ∧ wx.cell? ⟨wr.heap.size, 3, none⟩ = some (int i64 x.v) ∧ wx.cell? ⟨wr.heap.size, 4, none⟩ = some (int i64 x.r) ∧ wx.cell? ⟨wr.heap.size, 5, none⟩ = some (int i64 x.s) ∧ wx.cell? ⟨g, f + (k - 1) * 6 + 4, none⟩ = some (int i64 p.r) ∧ wx.cell? ⟨g, f + (k - 1) * 6 + 5, none⟩ = some (int i64 p.s)) := fun wx h => by
   have hq := HPC.out wx (HBA.out.trans (h.mono HBA.out.size))
   unfold liC at hq
   exact ⟨(hRW.next h).cell 0 rfl, (hRW.next h).cell 1 rfl, (hRW.next h).cell 2 rfl, (hRW.next h).cell 3 rfl, (hRW.next h).cell 4 rfl, (hRW.next h).cell 5 rfl, hq.2.2.2.2.1, hq.2.2.2.2.2⟩
  have HD : Hid (∀ wx, Calls Tryz.prog 58 #[.agg #[int i64 x.r, int i64 x.s]] wx fun e w' => e = .returned (.bool (decide (DOk x.r x.s))) ∧ Below wx.heap.size wx w') := fun wx => JU x.r x.s wx
  have HN : Hid (∀ wx, Calls Tryz.prog 108 #[.string x.o] wx fun e w' => e = .returned (.bool (decide (NOk x.o))) ∧ Below wx.heap.size wx w') := fun wx => (JO x.o (by unfold maxLen; omega) wx).mono (by rintro e w' ⟨rfl, rfl⟩; exact ⟨rfl, Below.refl _ _⟩)
  have HY : Hid (∀ wx, Calls Tryz.prog 108 #[.string x.y] wx fun e w' => e = .returned (.bool (decide (NOk x.y))) ∧ Below wx.heap.size wx w') := fun wx => (JO x.y (by unfold maxLen; omega) wx).mono (by rintro e w' ⟨rfl, rfl⟩; exact ⟨rfl, Below.refl _ _⟩)
  have HV : Hid (∀ wx, Calls Tryz.prog 84 #[int i64 x.v, int i64 0, int i64 999999] wx fun e w' => e = .returned (.bool (decide (0 ≤ x.v) && decide (x.v ≤ 999999))) ∧ Below wx.heap.size wx w') := fun wx => (JK x.v 0 999999 wx).mono (by rintro e w' ⟨rfl, rfl⟩; exact ⟨rfl, Below.refl _ _⟩)
  have HB4 : Hid (∀ wx, Calls Tryz.prog 109 #[.agg #[int i64 p.r, int i64 p.s], .agg #[int i64 x.r, int i64 x.s]] wx fun e w' => e = .returned (.bool (decide (Jo p.r p.s x.r x.s))) ∧ Below wx.heap.size wx w') := fun wx => ZA p.r p.s x.r x.s wx
  have hBc : Below WW.heap.size WW WW := Below.refl _ _
  clear hWW hRW hcc hbel hkl hp1 hsx HAS HNO HPC
  have hwk : IntKind.i64.wrap ((k : Int) - 1) = (k : Int) - 1 := by rw [IntKind.wrap_i64] <;> omega
  have hnt : ((k : Int) - 1).toNat = k - 1 := by omega
  go_wp2
  rw [HWW.out]
  try simp only [List.append_eq, List.cons_append, List.nil_append]
  clear HWW q0 q1 q2 q3 q4 q5
  replace hBc := hBc.drew
  have hs := Ja (HS1.out _ hBc)
  refine wph HS1 hBc 48 ?_
  refine tQ 0 JiX ?_; refine tQ 1 JjI ?_
  by_cases h1 : DOk x.r x.s
  case neg =>
   rw [decide_eq_false h1] at HD
   have HE := Ja (HF1.out (fun h => h1 h.1))
   clear HF1 HF2 HMO h1
   refine rd 2 JhA (fun K hK => ?_)
   go_simp
   refine (HD.out _).mono ?_
   rintro e wn ⟨rfl, hbn⟩
   replace hBc := nx hBc hbn
   clear hbn
   try go_wp2_with fail
   replace hs := Ja (HS1.out _ hBc)
   refine hK.out _ _ hs.out (fun hx => ?_)
   clear hx hK K
   try simp only [s1, s2, s3]
   refine tQ 3 JgM ?_; refine tQ 4 Jh9 ?_; refine sQ 5 JhP ?_; refine sQ 6 JiL ?_; refine cQ 7 Jft ?_; refine sQ 8 Je4 ?_; refine tQ 9 Jgg ?_; refine tQ 10 Jdj ?_; refine sQ 11 Jc3 ?_; refine sQ 12 Jdf ?_; refine cQ 13 JbE ?_; refine sQ 14 JbJ ?_; refine tQ 15 JbA ?_; refine tQ 16 Jbx ?_; refine sQ 17 Jbg ?_; refine sQ 18 Jbs ?_; refine cQ 19 JaC ?_; refine sQ 20 JaQ ?_; refine tQ 21 Jaa ?_; refine tQ 22 Y9 ?_; refine sQ 23 JaO ?_; refine sQ 24 Jas ?_; refine sQ 25 Jao ?_; refine sQ 26 Jau ?_; refine sQ 27 UN ?_; refine sQ 28 U1 ?_; refine sQ 29 UA ?_; refine sQ 30 U5 ?_; refine tQ 31 Ut ?_; refine tQ 32 Vc ?_; refine sQ 33 KY ?_; refine sQ 34 Gl ?_; refine sQ 35 Gi ?_; refine sQ 36 GE ?_; refine sQ 37 Gv ?_; refine sQ 38 Gs ?_; refine sQ 39 Ga ?_; refine sQ 40 Gr ?_; refine sQ 41 GD ?_; refine sQ 42 GC ?_; refine sQ 43 Gt ?_; refine cQ 44 Kh ?_; refine sQ 45 Ke ?_; refine sQ 46 Kk ?_; refine tQ 47 Ks ?_
   refine wpd ?_
   have HBF := Ja (HBA.out.trans (hBc.mono HBA.out.size))
   clear hs hBc HS1
   go_wp2
   go_ret
   exact ⟨Tells.no HE.out, HBF.out⟩
  rw [decide_eq_true h1] at HD
  have HH0 := Ja h1
  clear h1
  refine rd 2 JhA (fun K hK => ?_)
  go_simp
  refine (HD.out _).mono ?_
  rintro e wn ⟨rfl, hbn⟩
  replace hBc := nx hBc hbn
  clear hbn
  try go_wp2_with fail
  replace hs := Ja (HS1.out _ hBc)
  refine hK.out _ _ hs.out (fun hx => ?_)
  clear hx hK K
  try simp only [s1, s2, s3]
  clear HD
  refine tQ 3 JgM ?_; refine tQ 4 Jh9 ?_; refine tQ 5 JhP ?_; refine tQ 6 JiL ?_
  by_cases h2 : NOk x.o
  case neg =>
   rw [decide_eq_false h2] at HN
   have HE := Ja (HF1.out (fun h => h2 h.2.1))
   clear HF1 HF2 HMO HH0 h2
   refine rd 7 Jft (fun K hK => ?_)
   go_simp
   refine (HN.out _).mono ?_
   rintro e wn ⟨rfl, hbn⟩
   replace hBc := nx hBc hbn
   clear hbn
   try go_wp2_with fail
   replace hs := Ja (HS1.out _ hBc)
   refine hK.out _ _ hs.out (fun hx => ?_)
   clear hx hK K
   try simp only [s1, s2, s3]
   refine tQ 8 Je4 ?_; refine tQ 9 Jgg ?_; refine tQ 10 Jdj ?_; refine sQ 11 Jc3 ?_; refine sQ 12 Jdf ?_; refine cQ 13 JbE ?_; refine sQ 14 JbJ ?_; refine tQ 15 JbA ?_; refine tQ 16 Jbx ?_; refine sQ 17 Jbg ?_; refine sQ 18 Jbs ?_; refine cQ 19 JaC ?_; refine sQ 20 JaQ ?_; refine tQ 21 Jaa ?_; refine tQ 22 Y9 ?_; refine sQ 23 JaO ?_; refine sQ 24 Jas ?_; refine sQ 25 Jao ?_; refine sQ 26 Jau ?_; refine sQ 27 UN ?_; refine sQ 28 U1 ?_; refine sQ 29 UA ?_; refine sQ 30 U5 ?_; refine tQ 31 Ut ?_; refine tQ 32 Vc ?_; refine sQ 33 KY ?_; refine sQ 34 Gl ?_; refine sQ 35 Gi ?_; refine sQ 36 GE ?_; refine sQ 37 Gv ?_; refine sQ 38 Gs ?_; refine sQ 39 Ga ?_; refine sQ 40 Gr ?_; refine sQ 41 GD ?_; refine sQ 42 GC ?_; refine sQ 43 Gt ?_; refine cQ 44 Kh ?_; refine sQ 45 Ke ?_; refine sQ 46 Kk ?_; refine tQ 47 Ks ?_
   refine wpd ?_
   have HBF := Ja (HBA.out.trans (hBc.mono HBA.out.size))
   clear hs hBc HS1
   go_wp2
   go_ret
   exact ⟨Tells.no HE.out, HBF.out⟩
  rw [decide_eq_true h2] at HN
  have HH1 := Ja h2
  clear h2
  refine rd 7 Jft (fun K hK => ?_)
  go_simp
  refine (HN.out _).mono ?_
  rintro e wn ⟨rfl, hbn⟩
  replace hBc := nx hBc hbn
  clear hbn
  try go_wp2_with fail
  replace hs := Ja (HS1.out _ hBc)
  refine hK.out _ _ hs.out (fun hx => ?_)
  clear hx hK K
  try simp only [s1, s2, s3]
  clear HN
  refine tQ 8 Je4 ?_; refine tQ 9 Jgg ?_; refine tQ 10 Jdj ?_; refine tQ 11 Jc3 ?_; refine tQ 12 Jdf ?_
  by_cases h3 : NOk x.y
  case neg =>
   rw [decide_eq_false h3] at HY
   have HE := Ja (HF1.out (fun h => h3 h.2.2.1))
   clear HF1 HF2 HMO HH0 HH1 h3
   refine rd 13 JbE (fun K hK => ?_)
   go_simp
   refine (HY.out _).mono ?_
   rintro e wn ⟨rfl, hbn⟩
   replace hBc := nx hBc hbn
   clear hbn
   try go_wp2_with fail
   replace hs := Ja (HS1.out _ hBc)
   refine hK.out _ _ hs.out (fun hx => ?_)
   clear hx hK K
   try simp only [s1, s2, s3]
   refine tQ 14 JbJ ?_; refine tQ 15 JbA ?_; refine tQ 16 Jbx ?_; refine sQ 17 Jbg ?_; refine sQ 18 Jbs ?_; refine cQ 19 JaC ?_; refine sQ 20 JaQ ?_; refine tQ 21 Jaa ?_; refine tQ 22 Y9 ?_; refine sQ 23 JaO ?_; refine sQ 24 Jas ?_; refine sQ 25 Jao ?_; refine sQ 26 Jau ?_; refine sQ 27 UN ?_; refine sQ 28 U1 ?_; refine sQ 29 UA ?_; refine sQ 30 U5 ?_; refine tQ 31 Ut ?_; refine tQ 32 Vc ?_; refine sQ 33 KY ?_; refine sQ 34 Gl ?_; refine sQ 35 Gi ?_; refine sQ 36 GE ?_; refine sQ 37 Gv ?_; refine sQ 38 Gs ?_; refine sQ 39 Ga ?_; refine sQ 40 Gr ?_; refine sQ 41 GD ?_; refine sQ 42 GC ?_; refine sQ 43 Gt ?_; refine cQ 44 Kh ?_; refine sQ 45 Ke ?_; refine sQ 46 Kk ?_; refine tQ 47 Ks ?_
   refine wpd ?_
   have HBF := Ja (HBA.out.trans (hBc.mono HBA.out.size))
   clear hs hBc HS1
   go_wp2
   go_ret
   exact ⟨Tells.no HE.out, HBF.out⟩
  rw [decide_eq_true h3] at HY
  have HH2 := Ja h3
  clear h3
  refine rd 13 JbE (fun K hK => ?_)
  go_simp
  refine (HY.out _).mono ?_
  rintro e wn ⟨rfl, hbn⟩
  replace hBc := nx hBc hbn
  clear hbn
  try go_wp2_with fail
  replace hs := Ja (HS1.out _ hBc)
  refine hK.out _ _ hs.out (fun hx => ?_)
  clear hx hK K
  try simp only [s1, s2, s3]
  clear HY
  refine tQ 14 JbJ ?_; refine tQ 15 JbA ?_; refine tQ 16 Jbx ?_; refine tQ 17 Jbg ?_; refine tQ 18 Jbs ?_
  by_cases h4 : 0 ≤ x.v ∧ x.v ≤ 999999
  case neg =>
   have hbb : (decide (0 ≤ x.v) && decide (x.v ≤ 999999)) = false := by
    by_cases ha : 0 ≤ x.v <;> by_cases hb : x.v ≤ 999999 <;> simp [ha, hb] <;> exact h4 ⟨ha, hb⟩
   rw [hbb] at HV
   clear hbb
   have HE := Ja (HF1.out (fun h => h4 h.2.2.2.1))
   clear HF1 HF2 HMO HH0 HH1 HH2 h4
   refine rd 19 JaC (fun K hK => ?_)
   go_simp
   refine (HV.out _).mono ?_
   rintro e wn ⟨rfl, hbn⟩
   replace hBc := nx hBc hbn
   clear hbn
   try go_wp2_with fail
   replace hs := Ja (HS1.out _ hBc)
   refine hK.out _ _ hs.out (fun hx => ?_)
   clear hx hK K
   try simp only [s1, s2, s3]
   refine tQ 20 JaQ ?_; refine tQ 21 Jaa ?_; refine tQ 22 Y9 ?_; refine sQ 23 JaO ?_; refine sQ 24 Jas ?_; refine sQ 25 Jao ?_; refine sQ 26 Jau ?_; refine sQ 27 UN ?_; refine sQ 28 U1 ?_; refine sQ 29 UA ?_; refine sQ 30 U5 ?_; refine tQ 31 Ut ?_; refine tQ 32 Vc ?_; refine sQ 33 KY ?_; refine sQ 34 Gl ?_; refine sQ 35 Gi ?_; refine sQ 36 GE ?_; refine sQ 37 Gv ?_; refine sQ 38 Gs ?_; refine sQ 39 Ga ?_; refine sQ 40 Gr ?_; refine sQ 41 GD ?_; refine sQ 42 GC ?_; refine sQ 43 Gt ?_; refine cQ 44 Kh ?_; refine sQ 45 Ke ?_; refine sQ 46 Kk ?_; refine tQ 47 Ks ?_
   refine wpd ?_
   have HBF := Ja (HBA.out.trans (hBc.mono HBA.out.size))
   clear hs hBc HS1
   go_wp2
   go_ret
   exact ⟨Tells.no HE.out, HBF.out⟩
  have hbb : (decide (0 ≤ x.v) && decide (x.v ≤ 999999)) = true := by simp [h4]
  rw [hbb] at HV
  clear hbb
  have HH3 := Ja h4
  clear h4
  refine rd 19 JaC (fun K hK => ?_)
  go_simp
  refine (HV.out _).mono ?_
  rintro e wn ⟨rfl, hbn⟩
  replace hBc := nx hBc hbn
  clear hbn
  try go_wp2_with fail
  replace hs := Ja (HS1.out _ hBc)
  refine hK.out _ _ hs.out (fun hx => ?_)
  clear hx hK K
  try simp only [s1, s2, s3]
  clear HV
  refine tQ 20 JaQ ?_; refine tQ 21 Jaa ?_; refine tQ 22 Y9 ?_; refine tQ 23 JaO ?_; refine tQ 24 Jas ?_; refine tQ 25 Jao ?_; refine tQ 26 Jau ?_
  cases em : x.m with
  | true =>
   rw [em] at hs HS1
   have HOX : Hid (GA x) := ⟨HH0.out, HH1.out, HH2.out, HH3.out, fun e => by rw [em] at e; cases e⟩
   clear HF1 HH0 HH1 HH2 HH3 em
   refine sQ 27 UN ?_; refine sQ 28 U1 ?_; refine sQ 29 UA ?_; refine tQ 30 U5 ?_; refine tQ 31 Ut ?_; refine tQ 32 Vc ?_
   by_cases hkz : k = 0
   case pos =>
    have HE := Ja (HMO.out HOX.out (fun h0 => by omega))
    have hkn : ¬ (0 : Int) < k := by omega
    have hkn2 : ¬ 0 < k := by omega
    clear HF2 HMO hkz
    refine tQ 33 KY ?_; refine tQ 34 Gl ?_; refine tQ 35 Gi ?_; refine sQ 36 GE ?_; refine sQ 37 Gv ?_; refine sQ 38 Gs ?_; refine sQ 39 Ga ?_; refine sQ 40 Gr ?_; refine sQ 41 GD ?_; refine sQ 42 GC ?_; refine sQ 43 Gt ?_; refine cQ 44 Kh ?_; refine sQ 45 Ke ?_; refine tQ 46 Kk ?_; refine tQ 47 Ks ?_
    refine wpd ?_
    have HBF := Ja (HBA.out.trans (hBc.mono HBA.out.size))
    clear hs hBc HS1
    go_wp2
    go_roundw
    case rel => exact ⟨k + 1, by omega, by go_num, HE.out, HBF.out⟩
    case measure => simp [intOf]; omega
   have hkp : (0 : Int) < k := by omega
   have hkpn : 0 < k := by omega
   have hkp1 : (1 : Int) ≤ (k : Int) := by omega
   have hq1 : (0 : Int) ≤ (k : Int) - 1 := by omega
   have hq2 : (k : Int) - 1 < n := by omega
   clear hkz
   refine tQ 33 KY ?_; refine tQ 34 Gl ?_; refine tQ 35 Gi ?_; refine tQ 36 GE ?_; refine tQ 37 Gv ?_; refine tQ 38 Gs ?_; refine tQ 39 Ga ?_; refine tQ 40 Gr ?_; refine tQ 41 GD ?_; refine tQ 42 GC ?_; refine tQ 43 Gt ?_
   by_cases hbf : Jo p.r p.s x.r x.s
   case pos =>
    rw [decide_eq_true hbf] at HB4
    have HE := Ja (HMO.out HOX.out (fun _ => hbf))
    clear HF2 HMO hbf
    refine rd 44 Kh (fun K hK => ?_)
    go_simp
    refine (HB4.out _).mono ?_
    rintro e wn ⟨rfl, hbn⟩
    replace hBc := nx hBc hbn
    clear hbn
    try go_wp2_with fail
    replace hs := Ja (HS1.out _ hBc)
    refine hK.out _ _ hs.out (fun hx => ?_)
    clear hx hK K
    try simp only [s1, s2, s3]
    refine tQ 45 Ke ?_; refine tQ 46 Kk ?_; refine tQ 47 Ks ?_
    refine wpd ?_
    have HBF := Ja (HBA.out.trans (hBc.mono HBA.out.size))
    clear hs hBc HS1
    go_wp2
    go_roundw
    case rel => exact ⟨k + 1, by omega, by go_num, HE.out, HBF.out⟩
    case measure => simp [intOf]; omega
   rw [decide_eq_false hbf] at HB4
   have HE := Ja (HF2.out (by omega) (fun h => hbf h))
   clear HF2 HMO hbf
   refine rd 44 Kh (fun K hK => ?_)
   go_simp
   refine (HB4.out _).mono ?_
   rintro e wn ⟨rfl, hbn⟩
   replace hBc := nx hBc hbn
   clear hbn
   try go_wp2_with fail
   replace hs := Ja (HS1.out _ hBc)
   refine hK.out _ _ hs.out (fun hx => ?_)
   clear hx hK K
   try simp only [s1, s2, s3]
   refine tQ 45 Ke ?_; refine tQ 46 Kk ?_; refine tQ 47 Ks ?_
   refine wpd ?_
   have HBF := Ja (HBA.out.trans (hBc.mono HBA.out.size))
   clear hs hBc HS1
   go_wp2
   go_ret
   exact ⟨Tells.no HE.out, HBF.out⟩
  | false =>
   rw [em] at hs HS1
   by_cases hz : x.v = 0
   case neg =>
    have bv : (x.v != 0) = true := by simp [hz]
    have HE := Ja (HF1.out (fun h => hz (h.2.2.2.2 em)))
    clear HF1 HF2 HMO HH0 HH1 HH2 HH3 em hz
    refine tQ 27 UN ?_; refine tQ 28 U1 ?_; refine tQ 29 UA ?_; refine tQ 30 U5 ?_; refine tQ 31 Ut ?_; refine tQ 32 Vc ?_; refine sQ 33 KY ?_; refine sQ 34 Gl ?_; refine sQ 35 Gi ?_; refine sQ 36 GE ?_; refine sQ 37 Gv ?_; refine sQ 38 Gs ?_; refine sQ 39 Ga ?_; refine sQ 40 Gr ?_; refine sQ 41 GD ?_; refine sQ 42 GC ?_; refine sQ 43 Gt ?_; refine cQ 44 Kh ?_; refine sQ 45 Ke ?_; refine sQ 46 Kk ?_; refine tQ 47 Ks ?_
    refine wpd ?_
    have HBF := Ja (HBA.out.trans (hBc.mono HBA.out.size))
    clear hs hBc HS1
    go_wp2
    go_ret
    exact ⟨Tells.no HE.out, HBF.out⟩
   have bv : (x.v != 0) = false := by simp [hz]
   have HOX : Hid (GA x) := ⟨HH0.out, HH1.out, HH2.out, HH3.out, fun _ => hz⟩
   clear HF1 HH0 HH1 HH2 HH3 em hz
   refine tQ 27 UN ?_; refine tQ 28 U1 ?_; refine tQ 29 UA ?_; refine tQ 30 U5 ?_; refine tQ 31 Ut ?_; refine tQ 32 Vc ?_
   by_cases hkz : k = 0
   case pos =>
    have HE := Ja (HMO.out HOX.out (fun h0 => by omega))
    have hkn : ¬ (0 : Int) < k := by omega
    have hkn2 : ¬ 0 < k := by omega
    clear HF2 HMO hkz
    refine tQ 33 KY ?_; refine tQ 34 Gl ?_; refine tQ 35 Gi ?_; refine sQ 36 GE ?_; refine sQ 37 Gv ?_; refine sQ 38 Gs ?_; refine sQ 39 Ga ?_; refine sQ 40 Gr ?_; refine sQ 41 GD ?_; refine sQ 42 GC ?_; refine sQ 43 Gt ?_; refine cQ 44 Kh ?_; refine sQ 45 Ke ?_; refine tQ 46 Kk ?_; refine tQ 47 Ks ?_
    refine wpd ?_
    have HBF := Ja (HBA.out.trans (hBc.mono HBA.out.size))
    clear hs hBc HS1
    go_wp2
    go_roundw
    case rel => exact ⟨k + 1, by omega, by go_num, HE.out, HBF.out⟩
    case measure => simp [intOf]; omega
   have hkp : (0 : Int) < k := by omega
   have hkpn : 0 < k := by omega
   have hkp1 : (1 : Int) ≤ (k : Int) := by omega
   have hq1 : (0 : Int) ≤ (k : Int) - 1 := by omega
   have hq2 : (k : Int) - 1 < n := by omega
   clear hkz
   refine tQ 33 KY ?_; refine tQ 34 Gl ?_; refine tQ 35 Gi ?_; refine tQ 36 GE ?_; refine tQ 37 Gv ?_; refine tQ 38 Gs ?_; refine tQ 39 Ga ?_; refine tQ 40 Gr ?_; refine tQ 41 GD ?_; refine tQ 42 GC ?_; refine tQ 43 Gt ?_
   by_cases hbf : Jo p.r p.s x.r x.s
   case pos =>
    rw [decide_eq_true hbf] at HB4
    have HE := Ja (HMO.out HOX.out (fun _ => hbf))
    clear HF2 HMO hbf
    refine rd 44 Kh (fun K hK => ?_)
    go_simp
    refine (HB4.out _).mono ?_
    rintro e wn ⟨rfl, hbn⟩
    replace hBc := nx hBc hbn
    clear hbn
    try go_wp2_with fail
    replace hs := Ja (HS1.out _ hBc)
    refine hK.out _ _ hs.out (fun hx => ?_)
    clear hx hK K
    try simp only [s1, s2, s3]
    refine tQ 45 Ke ?_; refine tQ 46 Kk ?_; refine tQ 47 Ks ?_
    refine wpd ?_
    have HBF := Ja (HBA.out.trans (hBc.mono HBA.out.size))
    clear hs hBc HS1
    go_wp2
    go_roundw
    case rel => exact ⟨k + 1, by omega, by go_num, HE.out, HBF.out⟩
    case measure => simp [intOf]; omega
   rw [decide_eq_false hbf] at HB4
   have HE := Ja (HF2.out (by omega) (fun h => hbf h))
   clear HF2 HMO hbf
   refine rd 44 Kh (fun K hK => ?_)
   go_simp
   refine (HB4.out _).mono ?_
   rintro e wn ⟨rfl, hbn⟩
   replace hBc := nx hBc hbn
   clear hbn
   try go_wp2_with fail
   replace hs := Ja (HS1.out _ hBc)
   refine hK.out _ _ hs.out (fun hx => ?_)
   clear hx hK K
   try simp only [s1, s2, s3]
   refine tQ 45 Ke ?_; refine tQ 46 Kk ?_; refine tQ 47 Ks ?_
   refine wpd ?_
   have HBF := Ja (HBA.out.trans (hBc.mono HBA.out.size))
   clear hs hBc HS1
   go_wp2
   go_ret
   exact ⟨Tells.no HE.out, HBF.out⟩
end Go.Proofs.YtepfinenocpneaaGreat
