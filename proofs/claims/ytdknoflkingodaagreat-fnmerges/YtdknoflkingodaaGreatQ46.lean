/- The law on merges, walked: for every slice of bytes it comes. -/
import Derived.Test.YtdknoflkingodaaGreatQ40
import Derived.Test.YtdknoflkingodaaGreatQ45
set_option maxHeartbeats 16000000
namespace Go.Proofs.YtdknoflkingodaaGreat
open Value (int)
open IntKind (i64)
set_option maxRecDepth 100000
set_option linter.unusedVariables false
open Go.RowKit
theorem TwoS.all {M S R N : Sta} (h : TwoS M S R) (hN : N = Jm S R) : SOk N ∧ Jm R S = N ∧ Jm N S = N ∧ Jm S S = S ∧ Jm S N = N ∧ Jm R N = N ∧ Jm M S = S ∧ N.l = Za S.l R.l := by
 subst hN
 have fit := Jd7 h.mo h.so h.ro h.s h.r
 have ok : SOk (Jm S R) := JdZ h.so h.ro fit (by have := h.sb.T; have := h.rb.T; omega) (by have := h.sb.L; have := h.rb.L; omega) (by have := h.sb.C; have := h.rb.C; omega)
 have e1 : Jm R S = Jm S R := (Kh h.so h.ro fit).symm
 have e2 : Jm (Jm S R) S = Jm S R := KY ok h.so (VQ h.so h.ro)
 have ok2 : SOk (Jm R S) := by rw [e1]; exact ok
 have e5 : Jm R (Jm R S) = Jm R S := by rw [Kh h.ro ok2 (YW h.ro h.so)]; exact KY ok2 h.ro (VQ h.ro h.so)
 rw [e1] at e5
 exact ⟨ok, e1, e2, KY h.so h.so (Over.refl S), by rw [Kh h.so ok (YW h.so h.ro)]; exact e2, e5, by rw [Kh h.mo h.so (JcL h.mo h.s)]; exact KY h.so h.mo (Jdh h.s (by decide)), rfl⟩
theorem Yn (B : Nat) (v : Value) (n : Nat) (hn : n ≤ 1048576) (w : World) (hB : B ≤ w.heap.size) (hc : CodeIs w B v n) :
  Calls Tryz.prog 26 #[v] w fun e w' => ∃ M S R : Sta, TwoS M S R ∧ ∃ m0 m1 m2 m3 s0 s1 s2 s3 r0 r1 r2 r3 : Value, e = .returned (.tuple #[.agg #[m0, m1, m2, m3], .agg #[s0, s1, s2, s3], .agg #[r0, r1, r2, r3]]) ∧ OwnS w' w.heap.size M m0 m1 m2 m3 ∧ OwnS w' w.heap.size S s0 s1 s2 s3 ∧ OwnS w' w.heap.size R r0 r1 r2 r3 ∧ Below w.heap.size w w' := by
 obtain ⟨W, hW⟩ : ∃ W, W = ((w.alloc (.cells #[.slice none 0 0, .slice none 0 0, .slice none 0 0, .slice none 0 0] 29)).alloc (.cells #[.slice none 0 0, .slice none 0 0, .slice none 0 0, .slice none 0 0] 29)).alloc (.cells #[.slice none 0 0, .slice none 0 0, .slice none 0 0, .slice none 0 0] 29) := ⟨_, rfl⟩
 have HZ0 : Hid (Row W w.heap.size #[.slice none 0 0, .slice none 0 0, .slice none 0 0, .slice none 0 0] 29) := by rw [hW]; exact ((Jb w _ _ rfl).alloc _).alloc _
 have HZ1 : Hid (Row W (w.heap.size + 1) #[.slice none 0 0, .slice none 0 0, .slice none 0 0, .slice none 0 0] 29) := by rw [hW]; exact (Jb _ _ _ (by simp)).alloc _
 have HZ2 : Hid (Row W (w.heap.size + 1 + 1) #[.slice none 0 0, .slice none 0 0, .slice none 0 0, .slice none 0 0] 29) := by rw [hW]; exact Jb _ _ _ (by simp)
 have HB : Hid (Below w.heap.size w W) := by rw [hW]; exact (((Below.refl _ _).alloc (Nat.le_refl _) _).alloc (by simp) _).alloc (by simp; omega) _
 have hWs : W.heap.size = w.heap.size + 3 := by rw [hW]; simp
 have HW : Hid (((w.alloc (.cells #[.slice none 0 0, .slice none 0 0, .slice none 0 0, .slice none 0 0] 29)).alloc (.cells #[.slice none 0 0, .slice none 0 0, .slice none 0 0, .slice none 0 0] 29)).alloc (.cells #[.slice none 0 0, .slice none 0 0, .slice none 0 0, .slice none 0 0] 29) = W) := hW.symm
 have HC : Hid (CodeIs W B v n) := hc.grown (p := w.heap.size) hB ⟨HB.out.os, HB.out.tape, HB.out.output, HB.out.size, fun k hk _ => HB.out.block k hk⟩
 clear hW
 go_enter Tryz.func26, Tryz.ntmps26
 go_wp2_with fail
 rw [HW.out]
 clear HW
 try go_wp2_with fail
 refine (Jdp B v n hn W (by omega) HC.out).mono ?_
 rintro e w1 ⟨rfl, hc1, hb⟩
 rw [hWs] at hc1
 have hs1 := hc1.lt
 replace HZ0 := Ja (HZ0.out.next hb)
 replace HZ1 := Ja (HZ1.out.next hb)
 replace HZ2 := Ja (HZ2.out.next hb)
 replace HB := Ja (HB.out.trans (hb.mono HB.out.size))
 have hb1 := hb.size
 clear hb
 go_wp2_with fail
 try rw [hWs]
 refine (Jk0 B (w.heap.size + 3) v n hn w1 (by omega) hc1).mono ?_
 rintro e w3 ⟨M, S, R, hT, m0, m1, m2, m3, s0, s1, s2, s3, r0, r1, r2, r3, rfl, hM, hS, hR, hd⟩
 obtain ⟨a0, c0, a1, c1, a2, c2, a3, c3, rfl, rfl, rfl, rfl⟩ := hM.at.shape
 obtain ⟨e0, f0, e1, f1, e2, f2, e3, f3, rfl, rfl, rfl, rfl⟩ := hS.at.shape
 obtain ⟨h0, j0, h1, j1, h2, j2, h3, j3, rfl, rfl, rfl, rfl⟩ := hR.at.shape
 replace HZ0 := Ja (HZ0.out.grown hd.2 (by intro e; injection e with e; omega))
 replace HZ1 := Ja (HZ1.out.grown hd.2 (by intro e; injection e with e; omega))
 replace HZ2 := Ja (HZ2.out.grown hd.2 (by intro e; injection e with e; omega))
 replace HB := Ja (Drew.below HB.out hd (by omega))
 have HT := Ja hT
 have oM : ∀ q, q < w1.heap.size → Zp q (.slice a0 M.l.length c0) (.slice a1 M.T.length c1) (.slice a2 M.L.length c2) (.slice a3 M.C.length c3) := fun q hq => hM.off (.inl hq)
 have oS : ∀ q, q < w1.heap.size → Zp q (.slice e0 S.l.length f0) (.slice e1 S.T.length f1) (.slice e2 S.L.length f2) (.slice e3 S.C.length f3) := fun q hq => hS.off (.inl hq)
 have oR : ∀ q, q < w1.heap.size → Zp q (.slice h0 R.l.length j0) (.slice h1 R.T.length j1) (.slice h2 R.L.length j2) (.slice h3 R.C.length j3) := fun q hq => hR.off (.inl hq)
 obtain ⟨F, hF⟩ : ∃ F, F = (((((((((((w3.setCell ⟨w.heap.size, 0, none⟩ (.slice a0 M.l.length c0)).setCell ⟨w.heap.size, 1, none⟩ (.slice a1 M.T.length c1)).setCell ⟨w.heap.size, 2, none⟩ (.slice a2 M.L.length c2)).setCell ⟨w.heap.size, 3, none⟩ (.slice a3 M.C.length c3)).setCell ⟨w.heap.size + 1, 0, none⟩ (.slice e0 S.l.length f0)).setCell ⟨w.heap.size + 1, 1, none⟩ (.slice e1 S.T.length f1)).setCell ⟨w.heap.size + 1, 2, none⟩ (.slice e2 S.L.length f2)).setCell ⟨w.heap.size + 1, 3, none⟩ (.slice e3 S.C.length f3)).setCell ⟨w.heap.size + 1 + 1, 0, none⟩ (.slice h0 R.l.length j0)).setCell ⟨w.heap.size + 1 + 1, 1, none⟩ (.slice h1 R.T.length j1)).setCell ⟨w.heap.size + 1 + 1, 2, none⟩ (.slice h2 R.L.length j2)).setCell ⟨w.heap.size + 1 + 1, 3, none⟩ (.slice h3 R.C.length j3) := ⟨_, rfl⟩
 have HFE : Hid ((((((((((((w3.setCell ⟨w.heap.size, 0, none⟩ (.slice a0 M.l.length c0)).setCell ⟨w.heap.size, 1, none⟩ (.slice a1 M.T.length c1)).setCell ⟨w.heap.size, 2, none⟩ (.slice a2 M.L.length c2)).setCell ⟨w.heap.size, 3, none⟩ (.slice a3 M.C.length c3)).setCell ⟨w.heap.size + 1, 0, none⟩ (.slice e0 S.l.length f0)).setCell ⟨w.heap.size + 1, 1, none⟩ (.slice e1 S.T.length f1)).setCell ⟨w.heap.size + 1, 2, none⟩ (.slice e2 S.L.length f2)).setCell ⟨w.heap.size + 1, 3, none⟩ (.slice e3 S.C.length f3)).setCell ⟨w.heap.size + 1 + 1, 0, none⟩ (.slice h0 R.l.length j0)).setCell ⟨w.heap.size + 1 + 1, 1, none⟩ (.slice h1 R.T.length j1)).setCell ⟨w.heap.size + 1 + 1, 2, none⟩ (.slice h2 R.L.length j2)).setCell ⟨w.heap.size + 1 + 1, 3, none⟩ (.slice h3 R.C.length j3) = F) := hF.symm
 have HF0 : Hid (Row F w.heap.size #[.slice a0 M.l.length c0, .slice a1 M.T.length c1, .slice a2 M.L.length c2, .slice a3 M.C.length c3] 29) := by rw [hF]; exact ((((((((((((HZ0.out.st0 _).st1 _).st2 _).st3 _).other (by simp; try omega) _).other (by simp; try omega) _).other (by simp; try omega) _).other (by simp; try omega) _).other (by simp; try omega) _).other (by simp; try omega) _).other (by simp; try omega) _).other (by simp; try omega) _)
 have HF1 : Hid (Row F (w.heap.size + 1) #[.slice e0 S.l.length f0, .slice e1 S.T.length f1, .slice e2 S.L.length f2, .slice e3 S.C.length f3] 29) := by rw [hF]; exact ((((((((((((HZ1.out.other (by simp; try omega) _).other (by simp; try omega) _).other (by simp; try omega) _).other (by simp; try omega) _).st0 _).st1 _).st2 _).st3 _).other (by simp; try omega) _).other (by simp; try omega) _).other (by simp; try omega) _).other (by simp; try omega) _)
 have HF2 : Hid (Row F (w.heap.size + 1 + 1) #[.slice h0 R.l.length j0, .slice h1 R.T.length j1, .slice h2 R.L.length j2, .slice h3 R.C.length j3] 29) := by rw [hF]; exact ((((((((((((HZ2.out.other (by simp; try omega) _).other (by simp; try omega) _).other (by simp; try omega) _).other (by simp; try omega) _).other (by simp; try omega) _).other (by simp; try omega) _).other (by simp; try omega) _).other (by simp; try omega) _).st0 _).st1 _).st2 _).st3 _)
 have HOM : Hid (OwnS F w.heap.size M (.slice a0 M.l.length c0) (.slice a1 M.T.length c1) (.slice a2 M.L.length c2) (.slice a3 M.C.length c3)) := by rw [hF]; exact Own4.base ((((((((((((OwnS.put hM (oM _ (by omega))).put (oM _ (by omega))).put (oM _ (by omega))).put (oM _ (by omega))).put (oM _ (by omega))).put (oM _ (by omega))).put (oM _ (by omega))).put (oM _ (by omega))).put (oM _ (by omega))).put (oM _ (by omega))).put (oM _ (by omega))).put (oM _ (by omega))) (by omega)
 have HOS : Hid (OwnS F w.heap.size S (.slice e0 S.l.length f0) (.slice e1 S.T.length f1) (.slice e2 S.L.length f2) (.slice e3 S.C.length f3)) := by rw [hF]; exact Own4.base ((((((((((((OwnS.put hS (oS _ (by omega))).put (oS _ (by omega))).put (oS _ (by omega))).put (oS _ (by omega))).put (oS _ (by omega))).put (oS _ (by omega))).put (oS _ (by omega))).put (oS _ (by omega))).put (oS _ (by omega))).put (oS _ (by omega))).put (oS _ (by omega))).put (oS _ (by omega))) (by omega)
 have HOR : Hid (OwnS F w.heap.size R (.slice h0 R.l.length j0) (.slice h1 R.T.length j1) (.slice h2 R.L.length j2) (.slice h3 R.C.length j3)) := by rw [hF]; exact Own4.base ((((((((((((OwnS.put hR (oR _ (by omega))).put (oR _ (by omega))).put (oR _ (by omega))).put (oR _ (by omega))).put (oR _ (by omega))).put (oR _ (by omega))).put (oR _ (by omega))).put (oR _ (by omega))).put (oR _ (by omega))).put (oR _ (by omega))).put (oR _ (by omega))).put (oR _ (by omega))) (by omega)
 have HBF : Hid (Below w.heap.size w F) := by rw [hF]; exact ((((((((((((HB.out.setCell (p := ⟨w.heap.size, 0, none⟩) (by simp; try omega) _).setCell (p := ⟨w.heap.size, 1, none⟩) (by simp; try omega) _).setCell (p := ⟨w.heap.size, 2, none⟩) (by simp; try omega) _).setCell (p := ⟨w.heap.size, 3, none⟩) (by simp; try omega) _).setCell (p := ⟨w.heap.size + 1, 0, none⟩) (by simp; try omega) _).setCell (p := ⟨w.heap.size + 1, 1, none⟩) (by simp; try omega) _).setCell (p := ⟨w.heap.size + 1, 2, none⟩) (by simp; try omega) _).setCell (p := ⟨w.heap.size + 1, 3, none⟩) (by simp; try omega) _).setCell (p := ⟨w.heap.size + 1 + 1, 0, none⟩) (by simp; try omega) _).setCell (p := ⟨w.heap.size + 1 + 1, 1, none⟩) (by simp; try omega) _).setCell (p := ⟨w.heap.size + 1 + 1, 2, none⟩) (by simp; try omega) _).setCell (p := ⟨w.heap.size + 1 + 1, 3, none⟩) (by simp; try omega) _)
 obtain ⟨o0, o1, o2, o3⟩ := Row.four HZ0.out
 obtain ⟨i0, i1, i2, i3⟩ := Row.four HZ1.out
 obtain ⟨l0, l1, l2, l3⟩ := Row.four HZ2.out
 have k0 := HZ0.out.free 0
 have k1 := HZ0.out.free 1
 have k2 := HZ0.out.free 2
 have k3 := HZ0.out.free 3
 have k4 := HZ1.out.free 0
 have k5 := HZ1.out.free 1
 have k6 := HZ1.out.free 2
 have k7 := HZ1.out.free 3
 have k8 := HZ2.out.free 0
 have k9 := HZ2.out.free 1
 have ka := HZ2.out.free 2
 have kb := HZ2.out.free 3
 clear hF oM oS oR hM hS hR hd hT HZ0 HZ1 HZ2 HB HC hs1 hb1 hc1
 go_wp2
 rw [HFE.out]
 exact bodyPost_ret (Jca rfl rfl rfl rfl HF0.out HF1.out HF2.out) rfl ⟨M, S, R, HT.out, _, _, _, _, _, _, _, _, _, _, _, _, rfl, HOM.out, HOS.out, HOR.out, HBF.out⟩
abbrev me0 : Oper := oq 18 (.load 29 (.tmp 6)) 29 "laws.go:449" #[] none
abbrev me1 : Oper := oq 19 (.call ⟨.value (.func 18), #[.tmp 18], #[29]⟩) 4 "laws.go:449" #[eD 0] none
abbrev me2 : Oper := oq 20 (.move (.tmp 19)) 4 "laws.go:449" #[eD 1, eC 1] none
abbrev me3 : Oper := oq 21 (.load 29 (.tmp 6)) 29 "laws.go:449" #[eG 2] (some (2, true))
abbrev me4 : Oper := oq 22 (.load 29 (.tmp 5)) 29 "laws.go:449" #[eG 2] (some (2, true))
abbrev me5 : Oper := oq 23 (.load 29 (.tmp 4)) 29 "laws.go:449" #[eG 2] (some (2, true))
abbrev me6 : Oper := oq 24 (.call ⟨.value (.func 27), #[.tmp 22, .tmp 23], #[29, 29]⟩) 29 "laws.go:449" #[eD 4, eD 5, eC 2, eG 2] (some (2, true))
abbrev me7 : Oper := oq 25 (.call ⟨.value (.func 20), #[.tmp 21, .tmp 24], #[29, 29]⟩) 4 "laws.go:449" #[eD 3, eD 6, eC 6, eG 2] (some (2, true))
abbrev me8 : Oper := oq 26 (.pick (.tmp 20) (.tmp 25) (.const (.bool false))) 4 "laws.go:449" #[eD 2, eD 7] none
abbrev me9 : Oper := oq 27 (.move (.tmp 26)) 4 "laws.go:449" #[eD 8, eC 7] none
abbrev Jle : Oper := oq 28 (.load 29 (.tmp 6)) 29 "laws.go:449" #[eG 9] (some (9, true))
abbrev Jll : Oper := oq 29 (.load 29 (.tmp 4)) 29 "laws.go:449" #[eG 9] (some (9, true))
abbrev Jlh : Oper := oq 30 (.call ⟨.value (.func 27), #[.tmp 28, .tmp 29], #[29, 29]⟩) 29 "laws.go:449" #[eD 10, eD 11, eC 9, eG 9] (some (9, true))
abbrev JkE : Oper := oq 31 (.load 29 (.tmp 6)) 29 "laws.go:449" #[eG 9] (some (9, true))
abbrev Jlm : Oper := oq 32 (.call ⟨.value (.func 20), #[.tmp 30, .tmp 31], #[29, 29]⟩) 4 "laws.go:449" #[eD 12, eD 13, eC 12, eG 9] (some (9, true))
abbrev JkJ : Oper := oq 33 (.pick (.tmp 27) (.tmp 32) (.const (.bool false))) 4 "laws.go:449" #[eD 9, eD 14] none
abbrev JkP : Oper := oq 34 (.move (.tmp 33)) 4 "laws.go:449" #[eD 15, eC 14] none
abbrev Jk7 : Oper := oq 35 (.load 29 (.tmp 4)) 29 "laws.go:449" #[eG 16] (some (16, true))
abbrev JkD : Oper := oq 36 (.load 29 (.tmp 4)) 29 "laws.go:449" #[eG 16] (some (16, true))
abbrev JkI : Oper := oq 37 (.call ⟨.value (.func 27), #[.tmp 35, .tmp 36], #[29, 29]⟩) 29 "laws.go:449" #[eD 17, eD 18, eC 16, eG 16] (some (16, true))
abbrev JkM : Oper := oq 38 (.load 29 (.tmp 4)) 29 "laws.go:449" #[eG 16] (some (16, true))
abbrev Jlw : Oper := oq 39 (.call ⟨.value (.func 20), #[.tmp 37, .tmp 38], #[29, 29]⟩) 4 "laws.go:449" #[eD 19, eD 20, eC 19, eG 16] (some (16, true))
abbrev Jlg : Oper := oq 40 (.pick (.tmp 34) (.tmp 39) (.const (.bool false))) 4 "laws.go:449" #[eD 16, eD 21] none
abbrev JkY : Oper := oq 41 (.move (.tmp 40)) 4 "laws.go:449" #[eD 22, eC 21] none
abbrev Jk9 : Oper := oq 42 (.load 29 (.tmp 4)) 29 "laws.go:449" #[eG 23] (some (23, true))
abbrev JkL : Oper := oq 43 (.load 29 (.tmp 6)) 29 "laws.go:449" #[eG 23] (some (23, true))
abbrev Jlb : Oper := oq 44 (.call ⟨.value (.func 28), #[.tmp 42, .tmp 43], #[29, 29]⟩) 4 "laws.go:449" #[eD 24, eD 25, eC 23, eG 23] (some (23, true))
abbrev Jk5 : Oper := oq 45 (.pick (.tmp 41) (.tmp 44) (.const (.bool false))) 4 "laws.go:449" #[eD 23, eD 26] none
abbrev Jlf : Oper := oq 46 (.move (.tmp 45)) 4 "laws.go:449" #[eD 27, eC 26] none
abbrev Jlj : Oper := oq 47 (.load 29 (.tmp 5)) 29 "laws.go:449" #[eG 28] (some (28, true))
abbrev JkO : Oper := oq 48 (.load 29 (.tmp 6)) 29 "laws.go:449" #[eG 28] (some (28, true))
abbrev JkS : Oper := oq 49 (.call ⟨.value (.func 28), #[.tmp 47, .tmp 48], #[29, 29]⟩) 4 "laws.go:449" #[eD 29, eD 30, eC 28, eG 28] (some (28, true))
abbrev Jly : Oper := oq 50 (.pick (.tmp 46) (.tmp 49) (.const (.bool false))) 4 "laws.go:449" #[eD 28, eD 31] none
abbrev JkF : Oper := oq 51 (.move (.tmp 50)) 4 "laws.go:449" #[eD 32, eC 31] none
abbrev Jk2 : Oper := oq 52 (.load 29 (.tmp 3)) 29 "laws.go:449" #[eG 33] (some (33, true))
abbrev Jkx : Oper := oq 53 (.load 29 (.tmp 4)) 29 "laws.go:449" #[eG 33] (some (33, true))
abbrev Jlr : Oper := oq 54 (.call ⟨.value (.func 28), #[.tmp 52, .tmp 53], #[29, 29]⟩) 4 "laws.go:449" #[eD 34, eD 35, eC 33, eG 33] (some (33, true))
abbrev Jkz : Oper := oq 55 (.pick (.tmp 51) (.tmp 54) (.const (.bool false))) 4 "laws.go:449" #[eD 33, eD 36] none
abbrev Jlq : Oper := oq 56 (.move (.tmp 55)) 4 "laws.go:449" #[eD 37, eC 36] none
abbrev Jls : Oper := oq 57 (.load 29 (.tmp 3)) 29 "laws.go:449" #[eG 38] (some (38, true))
abbrev JkA : Oper := oq 58 (.load 29 (.tmp 4)) 29 "laws.go:449" #[eG 38] (some (38, true))
abbrev Jk6 : Oper := oq 59 (.call ⟨.value (.func 27), #[.tmp 57, .tmp 58], #[29, 29]⟩) 29 "laws.go:449" #[eD 39, eD 40, eC 38, eG 38] (some (38, true))
abbrev JkU : Oper := oq 60 (.load 29 (.tmp 5)) 29 "laws.go:449" #[eG 38] (some (38, true))
abbrev Jlk : Oper := oq 61 (.call ⟨.value (.func 27), #[.tmp 59, .tmp 60], #[29, 29]⟩) 29 "laws.go:449" #[eD 41, eD 42, eC 41, eG 38] (some (38, true))
abbrev Jlc : Oper := oq 62 (.load 29 (.tmp 6)) 29 "laws.go:449" #[eG 38] (some (38, true))
abbrev Jk3 : Oper := oq 63 (.call ⟨.value (.func 20), #[.tmp 61, .tmp 62], #[29, 29]⟩) 4 "laws.go:449" #[eD 43, eD 44, eC 43, eG 38] (some (38, true))
abbrev Jk8 : Oper := oq 64 (.pick (.tmp 56) (.tmp 63) (.const (.bool false))) 4 "laws.go:449" #[eD 38, eD 45] none
abbrev JkG : Oper := oq 65 (.move (.tmp 64)) 4 "laws.go:449" #[eD 46, eC 45] none
abbrev JkT : Oper := oq 66 (.fieldAddr 29 (.tmp 6) 0) 0 "laws.go:449" #[eG 47] (some (47, true))
abbrev Jky : Oper := oq 67 (.load 24 (.tmp 66)) 24 "laws.go:449" #[eD 48, eG 47] (some (47, true))
abbrev Jld : Oper := oq 68 (.fieldAddr 29 (.tmp 4) 0) 0 "laws.go:449" #[eG 47] (some (47, true))
abbrev Jlu : Oper := oq 69 (.load 24 (.tmp 68)) 24 "laws.go:449" #[eD 50, eG 47] (some (47, true))
abbrev JkQ : Oper := oq 70 (.fieldAddr 29 (.tmp 5) 0) 0 "laws.go:449" #[eG 47] (some (47, true))
abbrev JkR : Oper := oq 71 (.load 24 (.tmp 70)) 24 "laws.go:449" #[eD 52, eG 47] (some (47, true))
abbrev Jk4 : Oper := oq 72 (.call ⟨.value (.func 30), #[.tmp 69, .tmp 71], #[24, 24]⟩) 24 "laws.go:449" #[eD 51, eD 53, eC 47, eG 47] (some (47, true))
abbrev Jlt : Oper := oq 73 (.call ⟨.value (.func 29), #[.tmp 67, .tmp 72], #[24, 24]⟩) 4 "laws.go:449" #[eD 49, eD 54, eC 54, eG 47] (some (47, true))
abbrev JkC : Oper := oq 74 (.pick (.tmp 65) (.tmp 73) (.const (.bool false))) 4 "laws.go:449" #[eD 47, eD 55] none
abbrev Jln : Oper := oq 2 (.assign (.tmp 74)) 4 "laws.go:449" #[eD 56, eC 55, eP 0, eP 1, eP 2, eP 3, eP 4, eP 5, eP 6, eP 7, eP 8, eP 9, eP 10, eP 11, eP 12, eP 13, eP 14, eP 15, eP 16, eP 17, eP 18, eP 19, eP 20, eP 21, eP 22, eP 23, eP 24, eP 25, eP 26, eP 27, eP 28, eP 29, eP 30, eP 31, eP 32, eP 33, eP 34, eP 35, eP 36, eP 37, eP 38, eP 39, eP 40, eP 41, eP 42, eP 43, eP 44, eP 45, eP 46, eP 47, eP 48, eP 49, eP 50, eP 51, eP 52, eP 53, eP 54, eP 55, eP 56] none
theorem Yj (v : Value) (n : Nat) (hm : n ≤ maxLen) (w : World) (hc : CodeIs w w.heap.size v n) :
  Calls Tryz.prog 4 #[v] w fun e w' => e = .returned (.bool true) ∧ Below w.heap.size w w' := by
 obtain ⟨av, cv, rfl⟩ := hc.form
 have hbig := Jc4 av n cv w
 unfold maxLen at hm
 cases hq : decide ((1048576 : Int) < n)
 case true =>
  rw [hq] at hbig
  clear hc
  go_enter Tryz.func4, Tryz.ntmps4
  go_wp2_with fail
  refine hbig.mono ?_
  rintro e w1 ⟨rfl, rfl⟩
  go_wp2
  go_ret
  exact ⟨rfl, Below.refl _ _⟩
 rw [hq] at hbig
 have hn : n ≤ 1048576 := by have := of_decide_eq_false hq; omega
 have HCW : Hid (∀ wx, Below w.heap.size w wx → CodeIs wx w.heap.size (.slice av n cv) n) := fun wx h => hc.below h
 clear hq hc hm
 go_enter Tryz.func4, Tryz.ntmps4
 go_wp2_with fail
 refine hbig.mono ?_
 rintro e w1 ⟨rfl, rfl⟩
 clear hbig
 go_wp2_with fail
 refine (Yn w1.heap.size _ n hn w1 (Nat.le_refl _) (HCW.out _ (Below.refl _ _))).mono ?_
 rintro e w2 ⟨M, S, R, hT, m0, m1, m2, m3, s0, s1, s2, s3, r0, r1, r2, r3, rfl, hM, hS, hR, hb⟩
 obtain ⟨a0, c0, a1, c1, a2, c2, a3, c3, rfl, rfl, rfl, rfl⟩ := hM.at.shape
 obtain ⟨e0, f0, e1, f1, e2, f2, e3, f3, rfl, rfl, rfl, rfl⟩ := hS.at.shape
 obtain ⟨h0, j0, h1, j1, h2, j2, h3, j3, rfl, rfl, rfl, rfl⟩ := hR.at.shape
 obtain ⟨N, hN⟩ : ∃ N, N = Jm S R := ⟨_, rfl⟩
 obtain ⟨hNK, q1, q2, q3, q4, q5, q6, q7⟩ := hT.all hN
 obtain ⟨X1, hX1⟩ : ∃ XX, XX = ((w2.alloc (.cells #[.slice a0 M.l.length c0, .slice a1 M.T.length c1, .slice a2 M.L.length c2, .slice a3 M.C.length c3] 29)).alloc (.cells #[.slice e0 S.l.length f0, .slice e1 S.T.length f1, .slice e2 S.L.length f2, .slice e3 S.C.length f3] 29)).alloc (.cells #[.slice h0 R.l.length j0, .slice h1 R.T.length j1, .slice h2 R.L.length j2, .slice h3 R.C.length j3] 29) := ⟨_, rfl⟩
 have HX : Hid (((w2.alloc (.cells #[.slice a0 M.l.length c0, .slice a1 M.T.length c1, .slice a2 M.L.length c2, .slice a3 M.C.length c3] 29)).alloc (.cells #[.slice e0 S.l.length f0, .slice e1 S.T.length f1, .slice e2 S.L.length f2, .slice e3 S.C.length f3] 29)).alloc (.cells #[.slice h0 R.l.length j0, .slice h1 R.T.length j1, .slice h2 R.L.length j2, .slice h3 R.C.length j3] 29) = X1) := hX1.symm
 have hr0 : Row X1 w2.heap.size #[.slice a0 M.l.length c0, .slice a1 M.T.length c1, .slice a2 M.L.length c2, .slice a3 M.C.length c3] 29 := by rw [hX1]; exact ((Jb w2 _ _ rfl).alloc _).alloc _
 have hr1 : Row X1 (w2.heap.size + 1) #[.slice e0 S.l.length f0, .slice e1 S.T.length f1, .slice e2 S.L.length f2, .slice e3 S.C.length f3] 29 := by rw [hX1]; exact (Jb _ _ _ (by simp)).alloc _
 have hr2 : Row X1 (w2.heap.size + 1 + 1) #[.slice h0 R.l.length j0, .slice h1 R.T.length j1, .slice h2 R.L.length j2, .slice h3 R.C.length j3] 29 := by rw [hX1]; exact Jb _ _ _ (by simp)
 have hb1 : Below w1.heap.size w1 X1 := by rw [hX1]; exact ((hb.alloc hb.size _).alloc (by simp; have := hb.size; omega) _).alloc (by simp; have := hb.size; omega) _
 have hmt : StAt X1 M (.slice a0 M.l.length c0) (.slice a1 M.T.length c1) (.slice a2 M.L.length c2) (.slice a3 M.C.length c3) := by rw [hX1]; exact ((hM.at.alloc _).alloc _).alloc _
 have hst : StAt X1 S (.slice e0 S.l.length f0) (.slice e1 S.T.length f1) (.slice e2 S.L.length f2) (.slice e3 S.C.length f3) := by rw [hX1]; exact ((hS.at.alloc _).alloc _).alloc _
 have hrt : StAt X1 R (.slice h0 R.l.length j0) (.slice h1 R.T.length j1) (.slice h2 R.L.length j2) (.slice h3 R.C.length j3) := by rw [hX1]; exact ((hR.at.alloc _).alloc _).alloc _
 have hcM := hM.cap
 have hcS := hS.cap
 have hcR := hR.cap
 have HMS : Hid (Calls Tryz.prog 27 #[.agg #[.slice e0 S.l.length f0, .slice e1 S.T.length f1, .slice e2 S.L.length f2, .slice e3 S.C.length f3], .agg #[.slice h0 R.l.length j0, .slice h1 R.T.length j1, .slice h2 R.L.length j2, .slice h3 R.C.length j3]] X1 fun e w' => ∃ q0 q1 q2 q3, e = .returned (.agg #[q0, q1, q2, q3]) ∧ OwnS w' X1.heap.size N q0 q1 q2 q3 ∧ Below X1.heap.size X1 w') := by
  have := KD S R _ _ _ _ _ _ _ _ X1 hT.so hT.ro (by rw [← hN]; exact hNK) hst hrt hcS hcR
  rw [← hN] at this
  exact this
 obtain ⟨g0, g1, g2, g3⟩ := Row.four hr1
 obtain ⟨k0, k1, k2, k3⟩ := Row.four hr2
 clear hX1 hM hS hR hb
 go_wp2_with fail
 rw [HX.out]
 clear HX
 refine HMS.out.mono ?_
 rintro e w3 ⟨n0, n1, n2, n3, rfl, hNO, hb3⟩
 obtain ⟨x0, y0, x1, y1, x2, y2, x3, y3, rfl, rfl, rfl, rfl⟩ := hNO.at.shape
 obtain ⟨X2, hX2⟩ : ∃ XX, XX = w3.alloc (.cells #[.slice x0 N.l.length y0, .slice x1 N.T.length y1, .slice x2 N.L.length y2, .slice x3 N.C.length y3] 29) := ⟨_, rfl⟩
 have HX : Hid (w3.alloc (.cells #[.slice x0 N.l.length y0, .slice x1 N.T.length y1, .slice x2 N.L.length y2, .slice x3 N.C.length y3] 29) = X2) := hX2.symm
 have hbx : Below X1.heap.size X1 X2 := by rw [hX2]; exact hb3.alloc hb3.size _
 have hr3 : Row X2 w3.heap.size #[.slice x0 N.l.length y0, .slice x1 N.T.length y1, .slice x2 N.L.length y2, .slice x3 N.C.length y3] 29 := by rw [hX2]; exact Jb w3 _ _ rfl
 have HNT : Hid (∀ wx, Below X2.heap.size X2 wx → StAt wx N (.slice x0 N.l.length y0) (.slice x1 N.T.length y1) (.slice x2 N.L.length y2) (.slice x3 N.C.length y3)) := by
  have h0 : StAt X2 N (.slice x0 N.l.length y0) (.slice x1 N.T.length y1) (.slice x2 N.L.length y2) (.slice x3 N.C.length y3) := by rw [hX2]; exact hNO.at.alloc _
  exact fun wx h => h0.below h
 have HMT : Hid (∀ wx, Below X2.heap.size X2 wx → StAt wx M (.slice a0 M.l.length c0) (.slice a1 M.T.length c1) (.slice a2 M.L.length c2) (.slice a3 M.C.length c3)) := fun wx h => (hmt.below hbx).below h
 have HST : Hid (∀ wx, Below X2.heap.size X2 wx → StAt wx S (.slice e0 S.l.length f0) (.slice e1 S.T.length f1) (.slice e2 S.L.length f2) (.slice e3 S.C.length f3)) := fun wx h => (hst.below hbx).below h
 have HRT : Hid (∀ wx, Below X2.heap.size X2 wx → StAt wx R (.slice h0 R.l.length j0) (.slice h1 R.T.length j1) (.slice h2 R.L.length j2) (.slice h3 R.C.length j3)) := fun wx h => (hrt.below hbx).below h
 have hcN := hNO.cap
 have hMO := hT.mo
 have hSO := hT.so
 have hRO := hT.ro
 have HS : Hid (∀ wx, Below X2.heap.size X2 wx → wx.cell? ⟨w2.heap.size, 0, none⟩ = some (.slice a0 M.l.length c0) ∧ wx.cell? ⟨w2.heap.size, 1, none⟩ = some (.slice a1 M.T.length c1) ∧ wx.cell? ⟨w2.heap.size, 2, none⟩ = some (.slice a2 M.L.length c2) ∧ wx.cell? ⟨w2.heap.size, 3, none⟩ = some (.slice a3 M.C.length c3) ∧ wx.cell? ⟨w2.heap.size + 1, 0, none⟩ = some (.slice e0 S.l.length f0) ∧ wx.cell? ⟨w2.heap.size + 1, 1, none⟩ = some (.slice e1 S.T.length f1) ∧ wx.cell? ⟨w2.heap.size + 1, 2, none⟩ = some (.slice e2 S.L.length f2) ∧ wx.cell? ⟨w2.heap.size + 1, 3, none⟩ = some (.slice e3 S.C.length f3) ∧ wx.cell? ⟨w2.heap.size + 1 + 1, 0, none⟩ = some (.slice h0 R.l.length j0) ∧ wx.cell? ⟨w2.heap.size + 1 + 1, 1, none⟩ = some (.slice h1 R.T.length j1) ∧ wx.cell? ⟨w2.heap.size + 1 + 1, 2, none⟩ = some (.slice h2 R.L.length j2) ∧ wx.cell? ⟨w2.heap.size + 1 + 1, 3, none⟩ = some (.slice h3 R.C.length j3) ∧ wx.cell? ⟨w3.heap.size, 0, none⟩ = some (.slice x0 N.l.length y0) ∧ wx.cell? ⟨w3.heap.size, 1, none⟩ = some (.slice x1 N.T.length y1) ∧ wx.cell? ⟨w3.heap.size, 2, none⟩ = some (.slice x2 N.L.length y2) ∧ wx.cell? ⟨w3.heap.size, 3, none⟩ = some (.slice x3 N.C.length y3)) := fun wx h => by
  obtain ⟨t0, t1, t2, t3⟩ := Row.four ((hr0.next hbx).next h)
  obtain ⟨t4, t5, t6, t7⟩ := Row.four ((hr1.next hbx).next h)
  obtain ⟨t8, t9, ta, tb⟩ := Row.four ((hr2.next hbx).next h)
  obtain ⟨tc, td, te, tf⟩ := Row.four (hr3.next h)
  exact ⟨t0, t1, t2, t3, t4, t5, t6, t7, t8, t9, ta, tb, tc, td, te, tf⟩
 have HB2 : Hid (Below w1.heap.size w1 X2) := hb1.trans (hbx.mono hb1.size)
 have merge : ∀ (A B C : Sta) (u0 u1 u2 u3 v0 v1 v2 v3 : Value) (wx : World), SOk A → SOk B → SOk C → Jm A B = C → StAt wx A u0 u1 u2 u3 → StAt wx B v0 v1 v2 v3 → Kl u1 u2 u3 → Kl v1 v2 v3 → Calls Tryz.prog 27 #[.agg #[u0, u1, u2, u3], .agg #[v0, v1, v2, v3]] wx fun e w' => (∃ q0 q1 q2 q3, e = .returned (.agg #[q0, q1, q2, q3]) ∧ StAt w' C q0 q1 q2 q3 ∧ Kl q1 q2 q3) ∧ Below wx.heap.size wx w' := fun A B C u0 u1 u2 u3 v0 v1 v2 v3 wx hA hB hC he h1 h2 h3 h4 => by
  refine (KD A B _ _ _ _ _ _ _ _ wx hA hB (by rw [he]; exact hC) h1 h2 h3 h4).mono ?_
  rintro e w' ⟨q0, q1, q2, q3, rfl, ho, hb⟩
  rw [he] at ho
  exact ⟨⟨q0, q1, q2, q3, rfl, ho.at, ho.cap⟩, hb⟩
 have same : ∀ (A : Sta) (u0 u1 u2 u3 v0 v1 v2 v3 : Value) (wx : World), SOk A → StAt wx A u0 u1 u2 u3 → StAt wx A v0 v1 v2 v3 → Calls Tryz.prog 20 #[.agg #[u0, u1, u2, u3], .agg #[v0, v1, v2, v3]] wx fun e w' => e = .returned (.bool true) ∧ Below wx.heap.size wx w' := fun A u0 u1 u2 u3 v0 v1 v2 v3 wx hA h1 h2 => by
  have := GD A A _ _ _ _ _ _ _ _ wx hA.small hA.small h1 h2
  rwa [decide_eq_true (rfl : A = A)] at this
 have HC1 : Hid (∀ wx, Below X2.heap.size X2 wx → Calls Tryz.prog 18 #[.agg #[.slice x0 N.l.length y0, .slice x1 N.T.length y1, .slice x2 N.L.length y2, .slice x3 N.C.length y3]] wx fun e w' => e = .returned (.bool true) ∧ Below wx.heap.size wx w') := fun wx h =>
  (ZR N _ _ _ _ wx hNK.small hNK.named (HNT.out wx h)).mono (fun e w' k => ⟨k.1.is ((Vr (fun a ha => (hNK.2.1.2.mem a ha).1)).2 hNK), k.2⟩)
 have HC6 : Hid (∀ wx, Below X2.heap.size X2 wx → Calls Tryz.prog 27 #[.agg #[.slice h0 R.l.length j0, .slice h1 R.T.length j1, .slice h2 R.L.length j2, .slice h3 R.C.length j3], .agg #[.slice e0 S.l.length f0, .slice e1 S.T.length f1, .slice e2 S.L.length f2, .slice e3 S.C.length f3]] wx fun e w' => (∃ q0 q1 q2 q3, e = .returned (.agg #[q0, q1, q2, q3]) ∧ StAt w' N q0 q1 q2 q3 ∧ Kl q1 q2 q3) ∧ Below wx.heap.size wx w') := fun wx h => merge R S N _ _ _ _ _ _ _ _ wx hRO hSO hNK q1 (HRT.out wx h) (HST.out wx h) hcR hcS
 have HC12 : Hid (∀ wx, Below X2.heap.size X2 wx → Calls Tryz.prog 27 #[.agg #[.slice x0 N.l.length y0, .slice x1 N.T.length y1, .slice x2 N.L.length y2, .slice x3 N.C.length y3], .agg #[.slice e0 S.l.length f0, .slice e1 S.T.length f1, .slice e2 S.L.length f2, .slice e3 S.C.length f3]] wx fun e w' => (∃ q0 q1 q2 q3, e = .returned (.agg #[q0, q1, q2, q3]) ∧ StAt w' N q0 q1 q2 q3 ∧ Kl q1 q2 q3) ∧ Below wx.heap.size wx w') := fun wx h => merge N S N _ _ _ _ _ _ _ _ wx hNK hSO hNK q2 (HNT.out wx h) (HST.out wx h) hcN hcS
 have HC19 : Hid (∀ wx, Below X2.heap.size X2 wx → Calls Tryz.prog 27 #[.agg #[.slice e0 S.l.length f0, .slice e1 S.T.length f1, .slice e2 S.L.length f2, .slice e3 S.C.length f3], .agg #[.slice e0 S.l.length f0, .slice e1 S.T.length f1, .slice e2 S.L.length f2, .slice e3 S.C.length f3]] wx fun e w' => (∃ q0 q1 q2 q3, e = .returned (.agg #[q0, q1, q2, q3]) ∧ StAt w' S q0 q1 q2 q3 ∧ Kl q1 q2 q3) ∧ Below wx.heap.size wx w') := fun wx h => merge S S S _ _ _ _ _ _ _ _ wx hSO hSO hSO q3 (HST.out wx h) (HST.out wx h) hcS hcS
 have HC41 : Hid (∀ wx, Below X2.heap.size X2 wx → Calls Tryz.prog 27 #[.agg #[.slice a0 M.l.length c0, .slice a1 M.T.length c1, .slice a2 M.L.length c2, .slice a3 M.C.length c3], .agg #[.slice e0 S.l.length f0, .slice e1 S.T.length f1, .slice e2 S.L.length f2, .slice e3 S.C.length f3]] wx fun e w' => (∃ q0 q1 q2 q3, e = .returned (.agg #[q0, q1, q2, q3]) ∧ StAt w' S q0 q1 q2 q3 ∧ Kl q1 q2 q3) ∧ Below wx.heap.size wx w') := fun wx h => merge M S S _ _ _ _ _ _ _ _ wx hMO hSO hSO q6 (HMT.out wx h) (HST.out wx h) hcM hcS
 have HC43 : Hid (∀ wx p0 p1 p2 p3, Below X2.heap.size X2 wx → StAt wx S p0 p1 p2 p3 → Kl p1 p2 p3 → Calls Tryz.prog 27 #[.agg #[p0, p1, p2, p3], .agg #[.slice h0 R.l.length j0, .slice h1 R.T.length j1, .slice h2 R.L.length j2, .slice h3 R.C.length j3]] wx fun e w' => (∃ q0 q1 q2 q3, e = .returned (.agg #[q0, q1, q2, q3]) ∧ StAt w' N q0 q1 q2 q3 ∧ Kl q1 q2 q3) ∧ Below wx.heap.size wx w') := fun wx p0 p1 p2 p3 h h1 h2 => merge S R N _ _ _ _ _ _ _ _ wx hSO hRO hNK hN.symm h1 (HRT.out wx h) h2 hcR
 have HSM : Hid (∀ wx p0 p1 p2 p3, Below X2.heap.size X2 wx → StAt wx N p0 p1 p2 p3 → Calls Tryz.prog 20 #[.agg #[.slice x0 N.l.length y0, .slice x1 N.T.length y1, .slice x2 N.L.length y2, .slice x3 N.C.length y3], .agg #[p0, p1, p2, p3]] wx fun e w' => e = .returned (.bool true) ∧ Below wx.heap.size wx w') := fun wx p0 p1 p2 p3 h h1 => same N _ _ _ _ _ _ _ _ wx hNK (HNT.out wx h) h1
 have HSN : Hid (∀ wx p0 p1 p2 p3, Below X2.heap.size X2 wx → StAt wx N p0 p1 p2 p3 → Calls Tryz.prog 20 #[.agg #[p0, p1, p2, p3], .agg #[.slice x0 N.l.length y0, .slice x1 N.T.length y1, .slice x2 N.L.length y2, .slice x3 N.C.length y3]] wx fun e w' => e = .returned (.bool true) ∧ Below wx.heap.size wx w') := fun wx p0 p1 p2 p3 h h1 => same N _ _ _ _ _ _ _ _ wx hNK h1 (HNT.out wx h)
 have HSA : Hid (∀ wx p0 p1 p2 p3, Below X2.heap.size X2 wx → StAt wx S p0 p1 p2 p3 → Calls Tryz.prog 20 #[.agg #[p0, p1, p2, p3], .agg #[.slice e0 S.l.length f0, .slice e1 S.T.length f1, .slice e2 S.L.length f2, .slice e3 S.C.length f3]] wx fun e w' => e = .returned (.bool true) ∧ Below wx.heap.size wx w') := fun wx p0 p1 p2 p3 h h1 => same S _ _ _ _ _ _ _ _ wx hSO h1 (HST.out wx h)
 have HC26 : Hid (∀ wx, Below X2.heap.size X2 wx → Calls Tryz.prog 28 #[.agg #[.slice e0 S.l.length f0, .slice e1 S.T.length f1, .slice e2 S.L.length f2, .slice e3 S.C.length f3], .agg #[.slice x0 N.l.length y0, .slice x1 N.T.length y1, .slice x2 N.L.length y2, .slice x3 N.C.length y3]] wx fun e w' => e = .returned (.bool true) ∧ Below wx.heap.size wx w') := fun wx h => KW S N _ _ _ _ _ _ _ _ wx hSO hNK q4 (HST.out wx h) (HNT.out wx h) hcS hcN
 have HC31 : Hid (∀ wx, Below X2.heap.size X2 wx → Calls Tryz.prog 28 #[.agg #[.slice h0 R.l.length j0, .slice h1 R.T.length j1, .slice h2 R.L.length j2, .slice h3 R.C.length j3], .agg #[.slice x0 N.l.length y0, .slice x1 N.T.length y1, .slice x2 N.L.length y2, .slice x3 N.C.length y3]] wx fun e w' => e = .returned (.bool true) ∧ Below wx.heap.size wx w') := fun wx h => KW R N _ _ _ _ _ _ _ _ wx hRO hNK q5 (HRT.out wx h) (HNT.out wx h) hcR hcN
 have HC36 : Hid (∀ wx, Below X2.heap.size X2 wx → Calls Tryz.prog 28 #[.agg #[.slice a0 M.l.length c0, .slice a1 M.T.length c1, .slice a2 M.L.length c2, .slice a3 M.C.length c3], .agg #[.slice e0 S.l.length f0, .slice e1 S.T.length f1, .slice e2 S.L.length f2, .slice e3 S.C.length f3]] wx fun e w' => e = .returned (.bool true) ∧ Below wx.heap.size wx w') := fun wx h => KW M S _ _ _ _ _ _ _ _ wx hMO hSO q6 (HMT.out wx h) (HST.out wx h) hcM hcS
 have HC54 : Hid (∀ wx, Below X2.heap.size X2 wx → Calls Tryz.prog 30 #[.slice e0 S.l.length f0, .slice h0 R.l.length j0] wx fun e w' => (∃ x, e = .returned x ∧ IntsAt w' x N.l) ∧ Below wx.heap.size wx w') := fun wx h => by
  refine (Ui S.l R.l _ _ wx (by have := hSO.small.1; omega) (by have := hRO.small.1; omega) (HST.out wx h).1 (HRT.out wx h).1).mono ?_
  rintro e w' ⟨x, rfl, ho, hb⟩
  rw [← q7] at ho
  exact ⟨⟨x, rfl, IntsAt.own ho rfl⟩, hb⟩
 have HC55 : Hid (∀ wx x, Below X2.heap.size X2 wx → IntsAt wx x N.l → Calls Tryz.prog 29 #[.slice x0 N.l.length y0, x] wx fun e w' => e = .returned (.bool true) ∧ Below wx.heap.size wx w') := fun wx x h h1 => VJ (by have := hNK.small.1; omega) wx (HNT.out wx h).1 h1
 have hBc : Below X2.heap.size X2 X2 := Below.refl _ _
 clear hX2 hbx hr0 hr1 hr2 hr3 hmt hst hrt hcM hcS hcR hcN hMO hSO hRO hb1 hb3 hNO hNK q1 q2 q3 q4 q5 q6 q7 hN hT merge same HMS g0 g1 g2 g3 k0 k1 k2 k3 HNT HMT HST HRT HCW
 go_wp2_with fail
 rw [HX.out]
 clear HX
 try go_wp2_with fail
 replace hBc := hBc.drew
 have hs := Ja (HS.out _ hBc)
 refine wph HS hBc 58 ?_
 refine tQ 0 me0 ?_
 refine rd 1 me1 (fun K hK => ?_)
 go_simp
 refine (HC1.out _ hBc).mono ?_
 rintro e wn ⟨rfl, hbn⟩
 replace hBc := nx hBc hbn
 clear hbn
 try go_wp2_with fail
 replace hs := Ja (HS.out _ hBc)
 refine hK.out _ _ hs.out (fun hx => ?_)
 clear hx hK K
 try simp only [s1, s2, s3]
 refine tQ 2 me2 ?_; refine tQ 3 me3 ?_; refine tQ 4 me4 ?_; refine tQ 5 me5 ?_
 refine rd 6 me6 (fun K hK => ?_)
 go_simp
 refine (HC6.out _ hBc).mono ?_
 rintro e wn ⟨⟨q60, q61, q62, q63, rfl, hq6, hk6⟩, hbn⟩
 have HQ6 := Ja hq6
 have HK6 := Ja hk6
 clear hq6 hk6
 replace hBc := nx hBc hbn
 clear hbn
 try go_wp2_with fail
 replace hs := Ja (HS.out _ hBc)
 refine hK.out _ _ hs.out (fun hx => ?_)
 clear hx hK K
 try simp only [s1, s2, s3]
 refine rd 7 me7 (fun K hK => ?_)
 go_simp
 refine (HSM.out _ _ _ _ _ hBc HQ6.out).mono ?_
 rintro e wn ⟨rfl, hbn⟩
 clear HQ6 HK6
 replace hBc := nx hBc hbn
 clear hbn
 try go_wp2_with fail
 replace hs := Ja (HS.out _ hBc)
 refine hK.out _ _ hs.out (fun hx => ?_)
 clear hx hK K
 try simp only [s1, s2, s3]
 refine tQ 8 me8 ?_; refine tQ 9 me9 ?_; refine tQ 10 Jle ?_; refine tQ 11 Jll ?_; refine tQ 13 JkE ?_
 refine rd 12 Jlh (fun K hK => ?_)
 go_simp
 refine (HC12.out _ hBc).mono ?_
 rintro e wn ⟨⟨q120, q121, q122, q123, rfl, hq12, hk12⟩, hbn⟩
 have HQ12 := Ja hq12
 have HK12 := Ja hk12
 clear hq12 hk12
 replace hBc := nx hBc hbn
 clear hbn
 try go_wp2_with fail
 replace hs := Ja (HS.out _ hBc)
 refine hK.out _ _ hs.out (fun hx => ?_)
 clear hx hK K
 try simp only [s1, s2, s3]
 refine rd 14 Jlm (fun K hK => ?_)
 go_simp
 refine (HSN.out _ _ _ _ _ hBc HQ12.out).mono ?_
 rintro e wn ⟨rfl, hbn⟩
 clear HQ12 HK12
 replace hBc := nx hBc hbn
 clear hbn
 try go_wp2_with fail
 replace hs := Ja (HS.out _ hBc)
 refine hK.out _ _ hs.out (fun hx => ?_)
 clear hx hK K
 try simp only [s1, s2, s3]
 refine tQ 15 JkJ ?_; refine tQ 16 JkP ?_; refine tQ 17 Jk7 ?_; refine tQ 18 JkD ?_; refine tQ 20 JkM ?_
 refine rd 19 JkI (fun K hK => ?_)
 go_simp
 refine (HC19.out _ hBc).mono ?_
 rintro e wn ⟨⟨q190, q191, q192, q193, rfl, hq19, hk19⟩, hbn⟩
 have HQ19 := Ja hq19
 have HK19 := Ja hk19
 clear hq19 hk19
 replace hBc := nx hBc hbn
 clear hbn
 try go_wp2_with fail
 replace hs := Ja (HS.out _ hBc)
 refine hK.out _ _ hs.out (fun hx => ?_)
 clear hx hK K
 try simp only [s1, s2, s3]
 refine rd 21 Jlw (fun K hK => ?_)
 go_simp
 refine (HSA.out _ _ _ _ _ hBc HQ19.out).mono ?_
 rintro e wn ⟨rfl, hbn⟩
 clear HQ19 HK19
 replace hBc := nx hBc hbn
 clear hbn
 try go_wp2_with fail
 replace hs := Ja (HS.out _ hBc)
 refine hK.out _ _ hs.out (fun hx => ?_)
 clear hx hK K
 try simp only [s1, s2, s3]
 refine tQ 22 Jlg ?_; refine tQ 23 JkY ?_; refine tQ 24 Jk9 ?_; refine tQ 25 JkL ?_
 refine rd 26 Jlb (fun K hK => ?_)
 go_simp
 refine (HC26.out _ hBc).mono ?_
 rintro e wn ⟨rfl, hbn⟩
 replace hBc := nx hBc hbn
 clear hbn
 try go_wp2_with fail
 replace hs := Ja (HS.out _ hBc)
 refine hK.out _ _ hs.out (fun hx => ?_)
 clear hx hK K
 try simp only [s1, s2, s3]
 refine tQ 27 Jk5 ?_; refine tQ 28 Jlf ?_; refine tQ 29 Jlj ?_; refine tQ 30 JkO ?_
 refine rd 31 JkS (fun K hK => ?_)
 go_simp
 refine (HC31.out _ hBc).mono ?_
 rintro e wn ⟨rfl, hbn⟩
 replace hBc := nx hBc hbn
 clear hbn
 try go_wp2_with fail
 replace hs := Ja (HS.out _ hBc)
 refine hK.out _ _ hs.out (fun hx => ?_)
 clear hx hK K
 try simp only [s1, s2, s3]
 refine tQ 32 Jly ?_; refine tQ 33 JkF ?_; refine tQ 34 Jk2 ?_; refine tQ 35 Jkx ?_
 refine rd 36 Jlr (fun K hK => ?_)
 go_simp
 refine (HC36.out _ hBc).mono ?_
 rintro e wn ⟨rfl, hbn⟩
 replace hBc := nx hBc hbn
 clear hbn
 try go_wp2_with fail
 replace hs := Ja (HS.out _ hBc)
 refine hK.out _ _ hs.out (fun hx => ?_)
 clear hx hK K
 try simp only [s1, s2, s3]
 refine tQ 37 Jkz ?_; refine tQ 38 Jlq ?_; refine tQ 39 Jls ?_; refine tQ 40 JkA ?_; refine tQ 42 JkU ?_; refine tQ 44 Jlc ?_
 refine rd 41 Jk6 (fun K hK => ?_)
 go_simp
 refine (HC41.out _ hBc).mono ?_
 rintro e wn ⟨⟨q410, q411, q412, q413, rfl, hq41, hk41⟩, hbn⟩
 have HQ41 := Ja hq41
 have HK41 := Ja hk41
 clear hq41 hk41
 replace hBc := nx hBc hbn
 clear hbn
 try go_wp2_with fail
 replace hs := Ja (HS.out _ hBc)
 refine hK.out _ _ hs.out (fun hx => ?_)
 clear hx hK K
 try simp only [s1, s2, s3]
 refine rd 43 Jlk (fun K hK => ?_)
 go_simp
 refine (HC43.out _ _ _ _ _ hBc HQ41.out HK41.out).mono ?_
 rintro e wn ⟨⟨q430, q431, q432, q433, rfl, hq43, hk43⟩, hbn⟩
 have HQ43 := Ja hq43
 have HK43 := Ja hk43
 clear hq43 hk43
 clear HQ41 HK41
 replace hBc := nx hBc hbn
 clear hbn
 try go_wp2_with fail
 replace hs := Ja (HS.out _ hBc)
 refine hK.out _ _ hs.out (fun hx => ?_)
 clear hx hK K
 try simp only [s1, s2, s3]
 refine rd 45 Jk3 (fun K hK => ?_)
 go_simp
 refine (HSN.out _ _ _ _ _ hBc HQ43.out).mono ?_
 rintro e wn ⟨rfl, hbn⟩
 clear HQ43 HK43
 replace hBc := nx hBc hbn
 clear hbn
 try go_wp2_with fail
 replace hs := Ja (HS.out _ hBc)
 refine hK.out _ _ hs.out (fun hx => ?_)
 clear hx hK K
 try simp only [s1, s2, s3]
 refine tQ 46 Jk8 ?_; refine tQ 47 JkG ?_; refine tQ 48 JkT ?_; refine tQ 49 Jky ?_; refine tQ 50 Jld ?_; refine tQ 51 Jlu ?_; refine tQ 52 JkQ ?_; refine tQ 53 JkR ?_
 refine rd 54 Jk4 (fun K hK => ?_)
 go_simp
 refine (HC54.out _ hBc).mono ?_
 rintro e wn ⟨⟨xx, rfl, hxx⟩, hbn⟩
 have HXX := Ja hxx
 clear hxx
 replace hBc := nx hBc hbn
 clear hbn
 try go_wp2_with fail
 replace hs := Ja (HS.out _ hBc)
 refine hK.out _ _ hs.out (fun hx => ?_)
 clear hx hK K
 try simp only [s1, s2, s3]
 refine rd 55 Jlt (fun K hK => ?_)
 go_simp
 refine (HC55.out _ _ hBc HXX.out).mono ?_
 rintro e wn ⟨rfl, hbn⟩
 replace hBc := nx hBc hbn
 clear hbn
 try go_wp2_with fail
 replace hs := Ja (HS.out _ hBc)
 refine hK.out _ _ hs.out (fun hx => ?_)
 clear hx hK K
 try simp only [s1, s2, s3]
 refine tQ 56 JkC ?_; refine tQ 57 Jln ?_
 refine wpd ?_
 have HBF := Ja (HB2.out.trans (hBc.mono HB2.out.size))
 clear hs hBc HS
 go_wp2
 go_ret
 exact ⟨rfl, HBF.out⟩
end Go.Proofs.YtdknoflkingodaaGreat
