/- An act is done: kind 4, as the specification does it. -/
import Derived.Test.YtepfinenocpneaaGreatQ24
set_option maxHeartbeats 16000000
namespace Go.Proofs.YtepfinenocpneaaGreat
open Value (int)
open IntKind (i64)
set_option maxRecDepth 100000
set_option linter.unusedVariables false
open Go.RowKit
abbrev Jg0 : Oper := oq 4 (.move (.tmp 0)) 83 "l07_done.go:87" #[] none
abbrev JgR : Oper := oq 5 (.nilCheck (.tmp 4)) 0 "l07_done.go:87" #[eD 0] none
abbrev Jhr : Oper := oq 6 (.fieldAddr 29 (.tmp 5) 0) 0 "l07_done.go:87" #[eD 1] none
abbrev Jho : Oper := oq 7 (.load 24 (.tmp 6)) 24 "l07_done.go:87" #[eD 2] none
abbrev Jhh : Oper := oq 8 (.fieldAddr 44 (.tmp 3) 0) 0 "l07_done.go:87" #[] none
abbrev JgJ : Oper := oq 9 (.fieldAddr 42 (.tmp 8) 0) 0 "l07_done.go:87" #[eD 4] none
abbrev JgN : Oper := oq 10 (.load 3 (.tmp 9)) 3 "l07_done.go:87" #[eD 5] none
abbrev JhC : Oper := oq 11 (.fieldAddr 44 (.tmp 3) 0) 0 "l07_done.go:87" #[] none
abbrev JhT : Oper := oq 12 (.fieldAddr 42 (.tmp 11) 1) 0 "l07_done.go:87" #[eD 7] none
abbrev Jh3 : Oper := oq 13 (.load 3 (.tmp 12)) 3 "l07_done.go:87" #[eD 8] none
abbrev JgB : Oper := oq 14 (.indexAddr 24 (.tmp 7) (.tmp 10)) 0 "l07_done.go:87" #[eD 3, eD 6, eP 0, eP 1, eP 2, eP 3, eP 4, eP 5, eP 6, eP 7, eP 8, eP 9] none
abbrev Jfw : Oper := oz (.store 3 (.tmp 14) (.tmp 13)) 0 "l07_done.go:87" #[eD 10, eD 9, eP 0, eP 1, eP 2, eP 3, eP 4, eP 5, eP 6, eP 7, eP 8, eP 9] none
abbrev Jgk : Oper := oq 65 (.move (.tmp 0)) 83 "l07_done.go:97" #[] none
abbrev Jf6 : Oper := oq 66 (.move (.tmp 0)) 83 "l07_done.go:97" #[] none
abbrev Je9 : Oper := oq 67 (.nilCheck (.tmp 66)) 0 "l07_done.go:97" #[eD 1] none
abbrev JeH : Oper := oq 68 (.fieldAddr 29 (.tmp 67) 2) 0 "l07_done.go:97" #[eD 2] none
abbrev JfR : Oper := oq 70 (.fieldAddr 44 (.tmp 3) 4) 0 "l07_done.go:97" #[] none
abbrev JeJ : Oper := oq 71 (.load 9 (.tmp 70)) 9 "l07_done.go:97" #[eD 5] none
abbrev Jf3 : Oper := oq 72 (.fieldAddr 44 (.tmp 3) 5) 0 "l07_done.go:97" #[] none
abbrev Jgy : Oper := oq 73 (.load 9 (.tmp 72)) 9 "l07_done.go:97" #[eD 7] none
abbrev JeV : Oper := oq 74 (.fieldAddr 44 (.tmp 3) 6) 0 "l07_done.go:97" #[] none
abbrev JgA : Oper := oq 75 (.load 3 (.tmp 74)) 3 "l07_done.go:97" #[eD 9] none
abbrev JeU : Oper := oq 76 (.fieldAddr 44 (.tmp 3) 0) 0 "l07_done.go:97" #[] none
abbrev Jga : Oper := oq 77 (.load 42 (.tmp 76)) 42 "l07_done.go:97" #[eD 11] none
abbrev Je7 : Oper := oq 78 (.build 88 #[(0, .const (.bool true)), (1, .tmp 71), (2, .tmp 73), (3, .tmp 75), (4, .tmp 77)]) 88 "l07_done.go:97" #[eD 6, eD 8, eD 10, eD 12] none
abbrev Jfr : Oper := oq 69 (.load 26 (.tmp 68)) 26 "l07_done.go:97" #[eD 3] none
abbrev JfH : Oper := oq 79 (.call ⟨.value (.func 103), #[.tmp 69, .tmp 78], #[26, 88]⟩) 26 "l07_done.go:97" #[eD 4, eD 13] none
abbrev JeR : Oper := oq 80 (.nilCheck (.tmp 65)) 0 "l07_done.go:97" #[eD 0, eP 0, eP 1, eP 2, eP 3, eP 4, eP 5, eP 6, eP 7, eP 8, eP 9, eP 10, eP 11, eP 12, eP 13, eP 14] none
abbrev Jgj : Oper := oq 81 (.fieldAddr 29 (.tmp 80) 2) 0 "l07_done.go:97" #[eD 15, eP 0, eP 1, eP 2, eP 3, eP 4, eP 5, eP 6, eP 7, eP 8, eP 9, eP 10, eP 11, eP 12, eP 13, eP 14] none
abbrev Jfy : Oper := oz (.store 26 (.tmp 81) (.tmp 79)) 0 "l07_done.go:97" #[eD 16, eD 14, eC 14, eP 0, eP 1, eP 2, eP 3, eP 4, eP 5, eP 6, eP 7, eP 8, eP 9, eP 10, eP 11, eP 12, eP 13, eP 14] none
theorem JbN (S : Sta) (A : Ac) (u : Value) (p : Nat) (u0 u1 u2 u3 : Value) (B : Nat) (w : World) (hS : SOk S) (hA : AOk A) (hR : Jt S A) (hk : A.k = 4) (hp : Row w p #[u0, u1, u2, u3] 29) (hpl : p < w.heap.size) (hB : B ≤ w.heap.size) (hO : OwnS w B S u0 u1 u2 u3) (hoff : ZX p u0 u1 u2 u3) (hU : ∀ wx, FrB w wx B p → IntsAt wx u A.l) :
  Calls Tryz.prog 54 #[.pointer (some ⟨p, 0, none⟩), .agg #[int i64 A.r, int i64 A.s, int i64 A.t, u, int i64 A.k, .string A.o, .string A.y, int i64 A.v, int i64 A.x, int i64 A.z]] w fun e w' => e = .returned (.tuple #[]) ∧ ∃ v0 v1 v2 v3, Row w' p #[v0, v1, v2, v3] 29 ∧ OwnS w' B (doS S A) v0 v1 v2 v3 ∧ FrB w w' B p := by
 obtain ⟨a0, c0, a1, c1, a2, c2, a3, c3, rfl, rfl, rfl, rfl⟩ := hO.at.shape
 have hl3 : S.l.length = 3 := hS.1.1
 obtain ⟨g0, rfl⟩ : ∃ g, a0 = some ⟨g, 0, none⟩ := by
  rcases hO.1.1.2 with ⟨h0, h1⟩ | ⟨g, cap, cur, e, -⟩
  ·rw [hl3] at h1; cases h1
  ·injection e with e1; exact ⟨g, e1⟩
 obtain ⟨rn, hrn⟩ : ∃ rn : Nat, A.r = rn := Int.eq_ofNat_of_zero_le hA.1.1
 have hr3 : rn < 3 := by have := hA.1.2.1; omega
 have hO0 : w.ownsRow B 3 1 (.slice (some ⟨g0, 0, none⟩) S.l.length c0) S.l.length (Je S.l) := hO.1.1
 have hg0 := hO0.lt g0 rfl
 have hg0p : g0 ≠ p := hoff.1 g0 rfl
 have HOFF := Ja hoff
 obtain ⟨W, hW⟩ : ∃ W, W = w.alloc (.cells #[int i64 A.r, int i64 A.s, int i64 A.t, u, int i64 A.k, .string A.o, .string A.y, int i64 A.v, int i64 A.x, int i64 A.z] 44) := ⟨_, rfl⟩
 have hBW : Below w.heap.size w W := by rw [hW]; exact (Below.refl _ _).alloc (Nat.le_refl _) _
 have hWs : W.heap.size = w.heap.size + 1 := by rw [hW]; simp
 have hRA : Row W w.heap.size #[int i64 A.r, int i64 A.s, int i64 A.t, u, int i64 A.k, .string A.o, .string A.y, int i64 A.v, int i64 A.x, int i64 A.z] 44 := by rw [hW]; exact Jb w _ _ rfl
 have hRP : Row W p #[.slice (some ⟨g0, 0, none⟩) S.l.length c0, .slice a1 S.T.length c1, .slice a2 S.L.length c2, .slice a3 S.C.length c3] 29 := hp.next hBW
 have hOW : OwnS W B S (.slice (some ⟨g0, 0, none⟩) S.l.length c0) (.slice a1 S.T.length c1) (.slice a2 S.L.length c2) (.slice a3 S.C.length c3) := Own4.next hO hBW
 have HW : Hid (w.alloc (.cells #[int i64 A.r, int i64 A.s, int i64 A.t, u, int i64 A.k, .string A.o, .string A.y, int i64 A.v, int i64 A.x, int i64 A.z] 44) = W) := hW.symm
 have HU := Ja hU
 have HLT3 : Hid (∀ j, (Value.slice a3 S.C.length c3).ownBlock = some j → j < w.heap.size) := fun j hj => (World.ownsRow.lt hO.1.2.2.2 j hj).2
 have HS := Ja hS
 have HA := Ja hA
 have HR := Ja hR
 have HK : Hid (A.k = 4) := hk
 have HL3 := Ja hl3
 have HRN := Ja hrn
 have hi1 : (rn : Int) < S.l.length := by omega
 have hi0 : (0 : Int) ≤ rn := by omega
 have HSS : Hid (∀ wx, Below W.heap.size W wx → wx.cell? ⟨p, 0, none⟩ = some (.slice (some ⟨g0, 0, none⟩) S.l.length c0) ∧ wx.cell? ⟨w.heap.size, 0, none⟩ = some (int i64 (rn : Int)) ∧ wx.cell? ⟨w.heap.size, 1, none⟩ = some (int i64 A.s)) := fun wx h => ⟨(hRP.next h).cell 0 rfl, by have := (hRA.next h).cell 0 rfl; rw [← HRN.out]; exact this, (hRA.next h).cell 1 rfl⟩
 have hBc : Below W.heap.size W W.drew := (Below.refl _ _).drew
 -- behind the store
 obtain ⟨Y, hY⟩ : ∃ Y, Y = W.drew.setCell ⟨g0, rn, none⟩ (int i64 A.s) := ⟨_, rfl⟩
 have hOD : W.drew.ownsRow B 3 1 (.slice (some ⟨g0, 0, none⟩) S.l.length c0) S.l.length (Je S.l) := Jh hOW.1.1 hBc
 have y0 : W.drew.cell? ⟨g0, rn, none⟩ = some (int i64 (S.l.getD rn 0)) := by
  rw [hOD.cellAt rn (by omega)]; simp [Je, List.getD, show rn < S.l.length by omega]
 have y1 := hOD.frozenAt rn
 have hYb : ∀ j, j ≠ g0 → Y.heap[j]? = W.drew.heap[j]? := fun j hj => by rw [hY]; exact Below.heap_setCell W.drew _ _ j (fun e => hj e)
 have hYs : Y.heap.size = W.heap.size := by rw [hY]; simp [World.setCell]
 have HYP : Hid (Row Y p #[.slice (some ⟨g0, 0, none⟩) S.l.length c0, .slice a1 S.T.length c1, .slice a2 S.L.length c2, .slice a3 S.C.length c3] 29) := by rw [hY]; exact (hRP.next hBc).other (by simp; omega) _
 have HYA : Hid (Row Y w.heap.size #[int i64 A.r, int i64 A.s, int i64 A.t, u, int i64 A.k, .string A.o, .string A.y, int i64 A.v, int i64 A.x, int i64 A.z] 44) := by rw [hY]; exact (hRA.next hBc).other (by simp; omega) _
 have hset : (Je S.l).set rn (int i64 A.s) = Je (S.l.set rn A.s) := by simp [Je, List.map_set]
 have HYO : Hid (OwnS Y B ⟨S.l.set rn A.s, S.T, S.L, S.C⟩ (.slice (some ⟨g0, 0, none⟩) S.l.length c0) (.slice a1 S.T.length c1) (.slice a2 S.L.length c2) (.slice a3 S.C.length c3)) := by
  have hD : OwnS W.drew B S (.slice (some ⟨g0, 0, none⟩) S.l.length c0) (.slice a1 S.T.length c1) (.slice a2 S.L.length c2) (.slice a3 S.C.length c3) := Own4.next hOW hBc
  have ho1 : ownO Y B (some ⟨.slice (some ⟨g0, 0, none⟩) S.l.length c0, 3, 1, (S.l.set rn A.s).length, Je (S.l.set rn A.s)⟩) := by
   show World.ownsRow _ _ _ _ _ _ _
   rw [← hset, List.length_set, hY]
   exact (hOD.stored rn (int i64 A.s)).1
  refine Own4.swap1 (p := p) hD HOFF.out (fun k hk hp hr => hYb k (fun e => hr (by rw [e]; rfl))) ho1 (fun k hk => .inl hk)
 have HYF : Hid (FrB w Y B p) := ⟨by rw [hY]; exact hBW.os, by rw [hY]; exact hBW.tape, by rw [hY]; exact hBW.output, by rw [hYs, hWs]; omega, fun j hj _ => by rw [hYb j (by omega)]; exact hBW.block j (by omega)⟩
 have HDS : Hid (doS S A = ⟨S.l.set rn A.s, S.T, JE (Jj true A.v A) (Jd S.L true A.o A.y A.l), S.C⟩) := by show _ = _; have e : A.r.toNat = rn := (by omega); unfold doS; rw [e, hk]; rfl
 have HYZ : Hid (Y.heap.size = w.heap.size + 1) := by show _ = _; omega
 have HY : Hid (W.drew.setCell ⟨g0, rn, none⟩ (int i64 A.s) = Y) := hY.symm
 rw [hrn]
 rw [hrn] at HW
 clear hS hA hR hU hp hO hoff hW hBW hRA hRP hOW hO0 hOD hset hYb hrn hl3 hWs hk hY hYs
 go_enter Tryz.func54, Tryz.ntmps54
 go_wp2
 rw [HW.out]
 try simp only [List.append_eq, List.cons_append, List.nil_append]
 refine wph HSS hBc 12 ?_
 refine tQ 0 Jg0 ?_ (HSS.out _ hBc); refine tQ 1 JgR ?_ (HSS.out _ hBc); refine tQ 2 Jhr ?_ (HSS.out _ hBc); refine tQ 3 Jho ?_ (HSS.out _ hBc); refine tQ 4 Jhh ?_ (HSS.out _ hBc); refine tQ 5 JgJ ?_ (HSS.out _ hBc); refine tQ 6 JgN ?_ (HSS.out _ hBc); refine tQ 7 JhC ?_ (HSS.out _ hBc); refine tQ 8 JhT ?_ (HSS.out _ hBc); refine tQ 9 Jh3 ?_ (HSS.out _ hBc); refine tQ 10 JgB ?_ (HSS.out _ hBc)
 have hS2 : Y.cell? ⟨p, 0, none⟩ = some (.slice (some ⟨g0, 0, none⟩) S.l.length c0) ∧ Y.cell? ⟨w.heap.size, 0, none⟩ = some (int i64 (rn : Int)) ∧ Y.cell? ⟨w.heap.size, 1, none⟩ = some (int i64 A.s) := ⟨HYP.out.cell 0 rfl, by have := HYA.out.cell 0 rfl; rw [← HRN.out]; exact this, HYA.out.cell 1 rfl⟩
 refine rd 11 Jfw (fun K hK => ?_)
 go_simp
 rw [show (W.setCell ⟨g0, rn, none⟩ (int i64 A.s)).drew = W.drew.setCell ⟨g0, rn, none⟩ (int i64 A.s) from rfl, HY.out]
 refine hK.out _ _ hS2 (fun hcl => ?_)
 clear hK K hS2 y0 y1 HY HSS hBc HW hcl
 refine wpd ?_
 obtain ⟨m0, m1, m2, m3, m4, m5, m6, m7, m8, m9⟩ := ZH HYA.out
 have b1 : (A.k == 1) = false := by simp [HK.out]
 have b2 : (A.k == 2) = false := by simp [HK.out]
 have b3 : (A.k == 3) = false := by simp [HK.out]
 have b4 : (A.k == 4) = true := by simp [HK.out]
 have hAl : A.l.length ≤ 1048576 := by have := HA.out.2.1.1; omega
 have HTC := Ja (Zy S.L p (.slice (some ⟨g0, 0, none⟩) S.l.length c0) (.slice a1 S.T.length c1) (.slice a2 S.L.length c2) (.slice a3 S.C.length c3) true A.o A.y A.l u Y (Nat.le_trans HS.out.2.2.1.1 (by omega)) hAl HYP.out (LiAt.own HYO.out.1.2.2.1 rfl) (HU.out Y HYF.out))
 clear hAl
 go_wp2_with fail
 refine HTC.out.mono ?_
 rintro e w2 ⟨rfl, a2', d2', hRw, hOw, hF⟩
 have HYP2 := Ja hRw
 have HYA2 : Hid (Row w2 w.heap.size #[int i64 A.r, int i64 A.s, int i64 A.t, u, int i64 A.k, .string A.o, .string A.y, int i64 A.v, int i64 A.x, int i64 A.z] 44) := Row.grown HYA.out hF (by simp; omega)
 have HYO2 : Hid (OwnS w2 B ⟨S.l.set rn A.s, S.T, Jd S.L true A.o A.y A.l, S.C⟩ (.slice (some ⟨g0, 0, none⟩) S.l.length c0) (.slice a1 S.T.length c1) (.slice a2' (Jd S.L true A.o A.y A.l).length d2') (.slice a3 S.C.length c3)) :=
  Own4.swap3 (p := p) HYO.out HOFF.out (fun k hk hp hr => hF.block k hk (fun e => hp (by injection e))) (Jk hOw (by have := HYZ.out; omega)) (fun k hk => .inr (hOw.lt k hk).1)
 have HOFF2 : Hid (ZX p (.slice (some ⟨g0, 0, none⟩) S.l.length c0) (.slice a1 S.T.length c1) (.slice a2' (Jd S.L true A.o A.y A.l).length d2') (.slice a3 S.C.length c3)) := ⟨HOFF.out.1, HOFF.out.2.1, fun k hk => by have := (hOw.lt k hk).1; have := HYZ.out; omega, HOFF.out.2.2.2⟩
 have HYF2 : Hid (FrB w w2 B p) := HYF.out.trans (FrB.grown hF (by have := HYZ.out; omega))
 have HYZ2 : Hid (w.heap.size + 1 ≤ w2.heap.size) := by have := HYZ.out; have := hF.size; show _ ≤ _; omega
 have hcl4 : (Jd S.L true A.o A.y A.l).length ≤ 1048576 := Nat.le_trans (List.length_filter_le _ _) (Nat.le_trans HS.out.2.2.1.1 (by omega))
 clear hRw hOw hF HTC m0 m1 m2 m3 m4 m5 m6 m7 m8 m9 HYA HYP HYO
 have HSY : Hid (∀ wx, Below w2.heap.size w2 wx → wx.cell? ⟨p, 0, none⟩ = some (.slice (some ⟨g0, 0, none⟩) S.l.length c0) ∧ wx.cell? ⟨p, 1, none⟩ = some (.slice a1 S.T.length c1) ∧ wx.cell? ⟨p, 3, none⟩ = some (.slice a3 S.C.length c3) ∧ wx.cell? ⟨w.heap.size, 0, none⟩ = some (int i64 A.r) ∧ wx.cell? ⟨w.heap.size, 1, none⟩ = some (int i64 A.s) ∧ wx.cell? ⟨w.heap.size, 2, none⟩ = some (int i64 A.t) ∧ wx.cell? ⟨w.heap.size, 3, none⟩ = some (u) ∧ wx.cell? ⟨w.heap.size, 4, none⟩ = some (int i64 A.k) ∧ wx.cell? ⟨w.heap.size, 5, none⟩ = some (.string A.o) ∧ wx.cell? ⟨w.heap.size, 6, none⟩ = some (.string A.y) ∧ wx.cell? ⟨w.heap.size, 7, none⟩ = some (int i64 A.v) ∧ wx.cell? ⟨w.heap.size, 8, none⟩ = some (int i64 A.x) ∧ wx.cell? ⟨w.heap.size, 9, none⟩ = some (int i64 A.z)) := fun wx h => ⟨(HYP2.out.next h).cell 0 rfl, (HYP2.out.next h).cell 1 rfl, (HYP2.out.next h).cell 3 rfl, (HYA2.out.next h).cell 0 rfl, (HYA2.out.next h).cell 1 rfl, (HYA2.out.next h).cell 2 rfl, (HYA2.out.next h).cell 3 rfl, (HYA2.out.next h).cell 4 rfl, (HYA2.out.next h).cell 5 rfl, (HYA2.out.next h).cell 6 rfl, (HYA2.out.next h).cell 7 rfl, (HYA2.out.next h).cell 8 rfl, (HYA2.out.next h).cell 9 rfl⟩
 have hBc : Below w2.heap.size w2 w2.drew := (Below.refl _ _).drew
 go_wp2
 try simp only [List.append_eq, List.cons_append, List.nil_append]
 refine wph HSY hBc 18 ?_
 refine tQ 0 Jgk ?_ (HSY.out _ hBc)
 refine tQ 1 Jf6 ?_ (HSY.out _ hBc)
 refine tQ 2 Je9 ?_ (HSY.out _ hBc)
 refine tQ 3 JeH ?_ (HSY.out _ hBc)
 refine tQ 5 JfR ?_ (HSY.out _ hBc)
 refine tQ 6 JeJ ?_ (HSY.out _ hBc)
 refine tQ 7 Jf3 ?_ (HSY.out _ hBc)
 refine tQ 8 Jgy ?_ (HSY.out _ hBc)
 refine tQ 9 JeV ?_ (HSY.out _ hBc)
 refine tQ 10 JgA ?_ (HSY.out _ hBc)
 refine tQ 11 JeU ?_ (HSY.out _ hBc)
 refine tQ 12 Jga ?_ (HSY.out _ hBc)
 refine tQ 13 Je7 ?_ (HSY.out _ hBc)
 refine rd 4 Jfr (fun K hK => ?_)
 have zc := (HYP2.out.next hBc).cell 2 rfl
 go_simp
 refine hK.out _ _ (HSY.out _ hBc) (fun hcl => ?_)
 clear hK K hcl zc
 try simp only [s1, s2, s3]
 refine rd 14 JfH (fun K hK => ?_)
 go_simp
 have hBd := hBc
 refine (ZL (Jd S.L true A.o A.y A.l) _ (Jj true A.v A) _ hcl4 (LiAt.below (LiAt.own HYO2.out.1.2.2.1 rfl) hBc)).mono ?_
 rintro e wn ⟨vv, rfl, hov, hbn⟩
 replace hBc := nx hBc hbn
 obtain ⟨av, dv, rfl, -⟩ := LiAt.own hov rfl
 have hvlt : ∀ j, (Value.slice av (JE (Jj true A.v A) (Jd S.L true A.o A.y A.l)).length dv).ownBlock = some j → w2.heap.size ≤ j := fun j hj => Nat.le_trans hBd.size (hov.lt j hj).1
 replace hov : wn.ownsRow B 88 6 (.slice av (JE (Jj true A.v A) (Jd S.L true A.o A.y A.l)).length dv) (JE (Jj true A.v A) (Jd S.L true A.o A.y A.l)).length (liV (JE (Jj true A.v A) (Jd S.L true A.o A.y A.l))) := Jk hov (Nat.le_trans (by have := HYZ2.out; omega) hBd.size)
 clear hbn hBd
 try go_wp2_with fail
 refine hK.out _ _ (HSY.out _ hBc) (fun hcl => ?_)
 clear hK K hcl
 try simp only [s1, s2, s3]
 refine tQ 15 JeR ?_ (HSY.out _ hBc)
 refine tQ 16 Jgj ?_ (HSY.out _ hBc)
 have z0 := (HYP2.out.next hBc).cell 2 rfl
 have z1 := (HYP2.out.next hBc).free 2
 obtain ⟨V, hV⟩ : ∃ V, V = wn.setCell ⟨p, 2, none⟩ (.slice av (JE (Jj true A.v A) (Jd S.L true A.o A.y A.l)).length dv) := ⟨_, rfl⟩
 have hVP : Row V p #[.slice (some ⟨g0, 0, none⟩) S.l.length c0, .slice a1 S.T.length c1, .slice av (JE (Jj true A.v A) (Jd S.L true A.o A.y A.l)).length dv, .slice a3 S.C.length c3] 29 := by rw [hV]; exact (HYP2.out.next hBc).st2 _
 have hVA : Row V w.heap.size #[int i64 A.r, int i64 A.s, int i64 A.t, u, int i64 A.k, .string A.o, .string A.y, int i64 A.v, int i64 A.x, int i64 A.z] 44 := by rw [hV]; exact (HYA2.out.next hBc).other (by simp; omega) _
 have hVb : ∀ j, j ≠ p → V.heap[j]? = wn.heap[j]? := fun j hj => by rw [hV]; exact Below.heap_setCell wn _ _ j (fun e => hj e)
 have hVs : wn.heap.size ≤ V.heap.size := by rw [hV]; simp [World.setCell]
 have hV3 : V.os = wn.os ∧ V.tape = wn.tape ∧ V.output = wn.output := by rw [hV]; exact ⟨rfl, rfl, rfl⟩
 have HV : Hid (wn.setCell ⟨p, 2, none⟩ (.slice av (JE (Jj true A.v A) (Jd S.L true A.o A.y A.l)).length dv) = V) := hV.symm
 clear hV
 have HOF : Hid (OwnS V B (doS S A) (.slice (some ⟨g0, 0, none⟩) S.l.length c0) (.slice a1 S.T.length c1) (.slice av (JE (Jj true A.v A) (Jd S.L true A.o A.y A.l)).length dv) (.slice a3 S.C.length c3)) := by
  show OwnS _ _ _ _ _ _ _
  rw [HDS.out]
  exact Own4.swap3 (p := p) HYO2.out HOFF2.out (fun k hk hp hr => by rw [hVb k hp]; exact hBc.block k hk) (Gh hov (fun k hk => hVb k (by have := hvlt k hk; have := HYZ2.out; omega))) (fun k hk => .inr (hvlt k hk))
 have HFF : Hid (FrB w V B p) := HYF2.out.trans ⟨hV3.1.trans hBc.os, hV3.2.1.trans hBc.tape, hV3.2.2.trans hBc.output, Nat.le_trans hBc.size hVs, fun k hk hp => by rw [hVb k hp]; exact hBc.block k (by have := HYZ2.out; omega)⟩
 have HRF := Ja hVP
 refine rd 17 Jfy (fun K hK => ?_)
 go_simp
 rw [show wn.setCell ⟨p, 2, none⟩ (.slice av (ins (fun y => decide (Jo (Jj true A.v A).r (Jj true A.v A).s y.r y.s)) (Jj true A.v A) (Jd S.L true A.o A.y A.l)).length dv) = V from HV.out]
 refine hK.out _ _ ⟨hVP.cell 0 rfl, hVP.cell 1 rfl, hVP.cell 3 rfl, hVA.cell 0 rfl, hVA.cell 1 rfl, hVA.cell 2 rfl, hVA.cell 3 rfl, hVA.cell 4 rfl, hVA.cell 5 rfl, hVA.cell 6 rfl, hVA.cell 7 rfl, hVA.cell 8 rfl, hVA.cell 9 rfl⟩ (fun hcl => ?_)
 clear hK K hcl z0 z1 hVP hVA hVb hVs hV3 HV hBc HSY hov hvlt
 refine wpd ?_
 go_wp2
 go_end0
 exact ⟨rfl, _, _, _, _, HRF.out, HOF.out, HFF.out⟩
abbrev Jhu : Oper := oq 4 (.move (.tmp 0)) 83 "l07_done.go:87" #[] none
abbrev JhE : Oper := oq 5 (.nilCheck (.tmp 4)) 0 "l07_done.go:87" #[eD 0] none
abbrev Jiz : Oper := oq 6 (.fieldAddr 29 (.tmp 5) 0) 0 "l07_done.go:87" #[eD 1] none
abbrev Jiy : Oper := oq 7 (.load 24 (.tmp 6)) 24 "l07_done.go:87" #[eD 2] none
abbrev Jh0 : Oper := oq 8 (.fieldAddr 44 (.tmp 3) 0) 0 "l07_done.go:87" #[] none
abbrev Jhb : Oper := oq 9 (.fieldAddr 42 (.tmp 8) 0) 0 "l07_done.go:87" #[eD 4] none
abbrev Jhs : Oper := oq 10 (.load 3 (.tmp 9)) 3 "l07_done.go:87" #[eD 5] none
abbrev Jhw : Oper := oq 11 (.fieldAddr 44 (.tmp 3) 0) 0 "l07_done.go:87" #[] none
abbrev Jir : Oper := oq 12 (.fieldAddr 42 (.tmp 11) 1) 0 "l07_done.go:87" #[eD 7] none
abbrev Jh1 : Oper := oq 13 (.load 3 (.tmp 12)) 3 "l07_done.go:87" #[eD 8] none
abbrev Jf0 : Oper := oq 14 (.indexAddr 24 (.tmp 7) (.tmp 10)) 0 "l07_done.go:87" #[eD 3, eD 6, eP 0, eP 1, eP 2, eP 3, eP 4, eP 5, eP 6, eP 7, eP 8, eP 9] none
abbrev JeO : Oper := oz (.store 3 (.tmp 14) (.tmp 13)) 0 "l07_done.go:87" #[eD 10, eD 9, eP 0, eP 1, eP 2, eP 3, eP 4, eP 5, eP 6, eP 7, eP 8, eP 9] none
theorem Jcu (S : Sta) (A : Ac) (u : Value) (p : Nat) (u0 u1 u2 u3 : Value) (B : Nat) (w : World) (hS : SOk S) (hA : AOk A) (hR : Jt S A) (hk : A.k = 5) (hp : Row w p #[u0, u1, u2, u3] 29) (hpl : p < w.heap.size) (hB : B ≤ w.heap.size) (hO : OwnS w B S u0 u1 u2 u3) (hoff : ZX p u0 u1 u2 u3) (hU : ∀ wx, FrB w wx B p → IntsAt wx u A.l) :
  Calls Tryz.prog 54 #[.pointer (some ⟨p, 0, none⟩), .agg #[int i64 A.r, int i64 A.s, int i64 A.t, u, int i64 A.k, .string A.o, .string A.y, int i64 A.v, int i64 A.x, int i64 A.z]] w fun e w' => e = .returned (.tuple #[]) ∧ ∃ v0 v1 v2 v3, Row w' p #[v0, v1, v2, v3] 29 ∧ OwnS w' B (doS S A) v0 v1 v2 v3 ∧ FrB w w' B p := by
 obtain ⟨a0, c0, a1, c1, a2, c2, a3, c3, rfl, rfl, rfl, rfl⟩ := hO.at.shape
 have hl3 : S.l.length = 3 := hS.1.1
 obtain ⟨g0, rfl⟩ : ∃ g, a0 = some ⟨g, 0, none⟩ := by
  rcases hO.1.1.2 with ⟨h0, h1⟩ | ⟨g, cap, cur, e, -⟩
  ·rw [hl3] at h1; cases h1
  ·injection e with e1; exact ⟨g, e1⟩
 obtain ⟨rn, hrn⟩ : ∃ rn : Nat, A.r = rn := Int.eq_ofNat_of_zero_le hA.1.1
 have hr3 : rn < 3 := by have := hA.1.2.1; omega
 have hO0 : w.ownsRow B 3 1 (.slice (some ⟨g0, 0, none⟩) S.l.length c0) S.l.length (Je S.l) := hO.1.1
 have hg0 := hO0.lt g0 rfl
 have hg0p : g0 ≠ p := hoff.1 g0 rfl
 have HOFF := Ja hoff
 obtain ⟨W, hW⟩ : ∃ W, W = w.alloc (.cells #[int i64 A.r, int i64 A.s, int i64 A.t, u, int i64 A.k, .string A.o, .string A.y, int i64 A.v, int i64 A.x, int i64 A.z] 44) := ⟨_, rfl⟩
 have hBW : Below w.heap.size w W := by rw [hW]; exact (Below.refl _ _).alloc (Nat.le_refl _) _
 have hWs : W.heap.size = w.heap.size + 1 := by rw [hW]; simp
 have hRA : Row W w.heap.size #[int i64 A.r, int i64 A.s, int i64 A.t, u, int i64 A.k, .string A.o, .string A.y, int i64 A.v, int i64 A.x, int i64 A.z] 44 := by rw [hW]; exact Jb w _ _ rfl
 have hRP : Row W p #[.slice (some ⟨g0, 0, none⟩) S.l.length c0, .slice a1 S.T.length c1, .slice a2 S.L.length c2, .slice a3 S.C.length c3] 29 := hp.next hBW
 have hOW : OwnS W B S (.slice (some ⟨g0, 0, none⟩) S.l.length c0) (.slice a1 S.T.length c1) (.slice a2 S.L.length c2) (.slice a3 S.C.length c3) := Own4.next hO hBW
 have HW : Hid (w.alloc (.cells #[int i64 A.r, int i64 A.s, int i64 A.t, u, int i64 A.k, .string A.o, .string A.y, int i64 A.v, int i64 A.x, int i64 A.z] 44) = W) := hW.symm
 have HU := Ja hU
 have HLT3 : Hid (∀ j, (Value.slice a3 S.C.length c3).ownBlock = some j → j < w.heap.size) := fun j hj => (World.ownsRow.lt hO.1.2.2.2 j hj).2
 have HS := Ja hS
 have HA := Ja hA
 have HR := Ja hR
 have HK : Hid (A.k = 5) := hk
 have HL3 := Ja hl3
 have HRN := Ja hrn
 have hi1 : (rn : Int) < S.l.length := by omega
 have hi0 : (0 : Int) ≤ rn := by omega
 have HSS : Hid (∀ wx, Below W.heap.size W wx → wx.cell? ⟨p, 0, none⟩ = some (.slice (some ⟨g0, 0, none⟩) S.l.length c0) ∧ wx.cell? ⟨w.heap.size, 0, none⟩ = some (int i64 (rn : Int)) ∧ wx.cell? ⟨w.heap.size, 1, none⟩ = some (int i64 A.s)) := fun wx h => ⟨(hRP.next h).cell 0 rfl, by have := (hRA.next h).cell 0 rfl; rw [← HRN.out]; exact this, (hRA.next h).cell 1 rfl⟩
 have hBc : Below W.heap.size W W.drew := (Below.refl _ _).drew
 -- behind the store
 obtain ⟨Y, hY⟩ : ∃ Y, Y = W.drew.setCell ⟨g0, rn, none⟩ (int i64 A.s) := ⟨_, rfl⟩
 have hOD : W.drew.ownsRow B 3 1 (.slice (some ⟨g0, 0, none⟩) S.l.length c0) S.l.length (Je S.l) := Jh hOW.1.1 hBc
 have y0 : W.drew.cell? ⟨g0, rn, none⟩ = some (int i64 (S.l.getD rn 0)) := by
  rw [hOD.cellAt rn (by omega)]; simp [Je, List.getD, show rn < S.l.length by omega]
 have y1 := hOD.frozenAt rn
 have hYb : ∀ j, j ≠ g0 → Y.heap[j]? = W.drew.heap[j]? := fun j hj => by rw [hY]; exact Below.heap_setCell W.drew _ _ j (fun e => hj e)
 have hYs : Y.heap.size = W.heap.size := by rw [hY]; simp [World.setCell]
 have HYP : Hid (Row Y p #[.slice (some ⟨g0, 0, none⟩) S.l.length c0, .slice a1 S.T.length c1, .slice a2 S.L.length c2, .slice a3 S.C.length c3] 29) := by rw [hY]; exact (hRP.next hBc).other (by simp; omega) _
 have HYA : Hid (Row Y w.heap.size #[int i64 A.r, int i64 A.s, int i64 A.t, u, int i64 A.k, .string A.o, .string A.y, int i64 A.v, int i64 A.x, int i64 A.z] 44) := by rw [hY]; exact (hRA.next hBc).other (by simp; omega) _
 have hset : (Je S.l).set rn (int i64 A.s) = Je (S.l.set rn A.s) := by simp [Je, List.map_set]
 have HYO : Hid (OwnS Y B ⟨S.l.set rn A.s, S.T, S.L, S.C⟩ (.slice (some ⟨g0, 0, none⟩) S.l.length c0) (.slice a1 S.T.length c1) (.slice a2 S.L.length c2) (.slice a3 S.C.length c3)) := by
  have hD : OwnS W.drew B S (.slice (some ⟨g0, 0, none⟩) S.l.length c0) (.slice a1 S.T.length c1) (.slice a2 S.L.length c2) (.slice a3 S.C.length c3) := Own4.next hOW hBc
  have ho1 : ownO Y B (some ⟨.slice (some ⟨g0, 0, none⟩) S.l.length c0, 3, 1, (S.l.set rn A.s).length, Je (S.l.set rn A.s)⟩) := by
   show World.ownsRow _ _ _ _ _ _ _
   rw [← hset, List.length_set, hY]
   exact (hOD.stored rn (int i64 A.s)).1
  refine Own4.swap1 (p := p) hD HOFF.out (fun k hk hp hr => hYb k (fun e => hr (by rw [e]; rfl))) ho1 (fun k hk => .inl hk)
 have HYF : Hid (FrB w Y B p) := ⟨by rw [hY]; exact hBW.os, by rw [hY]; exact hBW.tape, by rw [hY]; exact hBW.output, by rw [hYs, hWs]; omega, fun j hj _ => by rw [hYb j (by omega)]; exact hBW.block j (by omega)⟩
 have HDS : Hid (doS S A = ⟨S.l.set rn A.s, S.T, Jd S.L true A.o A.y A.l, S.C⟩) := by show _ = _; have e : A.r.toNat = rn := (by omega); unfold doS; rw [e, hk]; rfl
 have HYZ : Hid (Y.heap.size = w.heap.size + 1) := by show _ = _; omega
 have HY : Hid (W.drew.setCell ⟨g0, rn, none⟩ (int i64 A.s) = Y) := hY.symm
 rw [hrn]
 rw [hrn] at HW
 clear hS hA hR hU hp hO hoff hW hBW hRA hRP hOW hO0 hOD hset hYb hrn hl3 hWs hk hY hYs
 go_enter Tryz.func54, Tryz.ntmps54
 go_wp2
 rw [HW.out]
 try simp only [List.append_eq, List.cons_append, List.nil_append]
 refine wph HSS hBc 12 ?_
 refine tQ 0 Jhu ?_ (HSS.out _ hBc); refine tQ 1 JhE ?_ (HSS.out _ hBc); refine tQ 2 Jiz ?_ (HSS.out _ hBc); refine tQ 3 Jiy ?_ (HSS.out _ hBc); refine tQ 4 Jh0 ?_ (HSS.out _ hBc); refine tQ 5 Jhb ?_ (HSS.out _ hBc); refine tQ 6 Jhs ?_ (HSS.out _ hBc); refine tQ 7 Jhw ?_ (HSS.out _ hBc); refine tQ 8 Jir ?_ (HSS.out _ hBc); refine tQ 9 Jh1 ?_ (HSS.out _ hBc); refine tQ 10 Jf0 ?_ (HSS.out _ hBc)
 have hS2 : Y.cell? ⟨p, 0, none⟩ = some (.slice (some ⟨g0, 0, none⟩) S.l.length c0) ∧ Y.cell? ⟨w.heap.size, 0, none⟩ = some (int i64 (rn : Int)) ∧ Y.cell? ⟨w.heap.size, 1, none⟩ = some (int i64 A.s) := ⟨HYP.out.cell 0 rfl, by have := HYA.out.cell 0 rfl; rw [← HRN.out]; exact this, HYA.out.cell 1 rfl⟩
 refine rd 11 JeO (fun K hK => ?_)
 go_simp
 rw [show (W.setCell ⟨g0, rn, none⟩ (int i64 A.s)).drew = W.drew.setCell ⟨g0, rn, none⟩ (int i64 A.s) from rfl, HY.out]
 refine hK.out _ _ hS2 (fun hcl => ?_)
 clear hK K hS2 y0 y1 HY HSS hBc HW hcl
 refine wpd ?_
 obtain ⟨m0, m1, m2, m3, m4, m5, m6, m7, m8, m9⟩ := ZH HYA.out
 have b1 : (A.k == 1) = false := by simp [HK.out]
 have b2 : (A.k == 2) = false := by simp [HK.out]
 have b3 : (A.k == 3) = false := by simp [HK.out]
 have b4 : (A.k == 4) = false := by simp [HK.out]
 have b5 : (A.k == 5) = true := by simp [HK.out]
 have hAl : A.l.length ≤ 1048576 := by have := HA.out.2.1.1; omega
 have HTC := Ja (Zy S.L p (.slice (some ⟨g0, 0, none⟩) S.l.length c0) (.slice a1 S.T.length c1) (.slice a2 S.L.length c2) (.slice a3 S.C.length c3) true A.o A.y A.l u Y (Nat.le_trans HS.out.2.2.1.1 (by omega)) hAl HYP.out (LiAt.own HYO.out.1.2.2.1 rfl) (HU.out Y HYF.out))
 clear hAl
 go_wp2_with fail
 refine HTC.out.mono ?_
 rintro e w2 ⟨rfl, a2', d2', hRw, hOw, hF⟩
 have HRF := Ja hRw
 have HOF : Hid (OwnS w2 B (doS S A) (.slice (some ⟨g0, 0, none⟩) S.l.length c0) (.slice a1 S.T.length c1) (.slice a2' (Jd S.L true A.o A.y A.l).length d2') (.slice a3 S.C.length c3)) := by
  show OwnS _ _ _ _ _ _ _
  rw [HDS.out]
  exact Own4.swap3 (p := p) HYO.out HOFF.out (fun k hk hp hr => hF.block k hk (fun e => hp (by injection e))) (Jk hOw (by have := HYZ.out; omega)) (fun k hk => .inr (hOw.lt k hk).1)
 have HFF : Hid (FrB w w2 B p) := HYF.out.trans (FrB.grown hF (by have := HYZ.out; omega))
 clear hRw hOw hF HTC
 clear m0 m1 m2 m3 m4 m5 m6 m7 m8 m9
 go_wp2
 go_end0
 exact ⟨rfl, _, _, _, _, HRF.out, HOF.out, HFF.out⟩
abbrev Jie : Oper := oq 4 (.move (.tmp 0)) 83 "l07_done.go:87" #[] none
abbrev Jhz : Oper := oq 5 (.nilCheck (.tmp 4)) 0 "l07_done.go:87" #[eD 0] none
abbrev JgW : Oper := oq 6 (.fieldAddr 29 (.tmp 5) 0) 0 "l07_done.go:87" #[eD 1] none
abbrev JgZ : Oper := oq 7 (.load 24 (.tmp 6)) 24 "l07_done.go:87" #[eD 2] none
abbrev JgU : Oper := oq 8 (.fieldAddr 44 (.tmp 3) 0) 0 "l07_done.go:87" #[] none
abbrev Jim : Oper := oq 9 (.fieldAddr 42 (.tmp 8) 0) 0 "l07_done.go:87" #[eD 4] none
abbrev JgS : Oper := oq 10 (.load 3 (.tmp 9)) 3 "l07_done.go:87" #[eD 5] none
abbrev JhZ : Oper := oq 11 (.fieldAddr 44 (.tmp 3) 0) 0 "l07_done.go:87" #[] none
abbrev JiC : Oper := oq 12 (.fieldAddr 42 (.tmp 11) 1) 0 "l07_done.go:87" #[eD 7] none
abbrev JgE : Oper := oq 13 (.load 3 (.tmp 12)) 3 "l07_done.go:87" #[eD 8] none
abbrev Jgf : Oper := oq 14 (.indexAddr 24 (.tmp 7) (.tmp 10)) 0 "l07_done.go:87" #[eD 3, eD 6, eP 0, eP 1, eP 2, eP 3, eP 4, eP 5, eP 6, eP 7, eP 8, eP 9] none
abbrev JfD : Oper := oz (.store 3 (.tmp 14) (.tmp 13)) 0 "l07_done.go:87" #[eD 10, eD 9, eP 0, eP 1, eP 2, eP 3, eP 4, eP 5, eP 6, eP 7, eP 8, eP 9] none
abbrev Jf1 : Oper := oq 94 (.move (.tmp 0)) 83 "l07_done.go:101" #[] none
abbrev JfP : Oper := oq 95 (.move (.tmp 0)) 83 "l07_done.go:101" #[] none
abbrev Jfi : Oper := oq 96 (.nilCheck (.tmp 95)) 0 "l07_done.go:101" #[eD 1] none
abbrev JfO : Oper := oq 97 (.fieldAddr 29 (.tmp 96) 3) 0 "l07_done.go:101" #[eD 2] none
abbrev Jfb : Oper := oq 99 (.fieldAddr 44 (.tmp 3) 4) 0 "l07_done.go:101" #[] none
abbrev Je8 : Oper := oq 100 (.load 9 (.tmp 99)) 9 "l07_done.go:101" #[eD 5] none
abbrev JeI : Oper := oq 101 (.fieldAddr 44 (.tmp 3) 0) 0 "l07_done.go:101" #[] none
abbrev JfZ : Oper := oq 102 (.load 42 (.tmp 101)) 42 "l07_done.go:101" #[eD 7] none
abbrev JeZ : Oper := oq 103 (.fieldAddr 44 (.tmp 3) 1) 0 "l07_done.go:101" #[] none
abbrev Jf9 : Oper := oq 104 (.load 3 (.tmp 103)) 3 "l07_done.go:101" #[eD 9] none
abbrev Je3 : Oper := oq 105 (.fieldAddr 44 (.tmp 3) 7) 0 "l07_done.go:101" #[] none
abbrev JgC : Oper := oq 106 (.load 42 (.tmp 105)) 42 "l07_done.go:101" #[eD 11] none
abbrev Jgv : Oper := oq 107 (.fieldAddr 44 (.tmp 3) 6) 0 "l07_done.go:101" #[] none
abbrev Jfe : Oper := oq 108 (.load 3 (.tmp 107)) 3 "l07_done.go:101" #[eD 13] none
abbrev Jgs : Oper := oq 109 (.build 90 #[(0, .tmp 100), (1, .tmp 102), (2, .tmp 104), (3, .tmp 106), (4, .tmp 108)]) 90 "l07_done.go:101" #[eD 6, eD 8, eD 10, eD 12, eD 14] none
abbrev JfW : Oper := oq 98 (.load 27 (.tmp 97)) 27 "l07_done.go:101" #[eD 3] none
abbrev JfE : Oper := oq 110 (.call ⟨.value (.func 105), #[.tmp 98, .tmp 109], #[27, 90]⟩) 27 "l07_done.go:101" #[eD 4, eD 15] none
abbrev JeX : Oper := oq 111 (.nilCheck (.tmp 94)) 0 "l07_done.go:101" #[eD 0, eP 0, eP 1, eP 2, eP 3, eP 4, eP 5, eP 6, eP 7, eP 8, eP 9, eP 10, eP 11, eP 12, eP 13, eP 14, eP 15, eP 16] none
abbrev Jgh : Oper := oq 112 (.fieldAddr 29 (.tmp 111) 3) 0 "l07_done.go:101" #[eD 17, eP 0, eP 1, eP 2, eP 3, eP 4, eP 5, eP 6, eP 7, eP 8, eP 9, eP 10, eP 11, eP 12, eP 13, eP 14, eP 15, eP 16] none
abbrev JeT : Oper := oz (.store 27 (.tmp 112) (.tmp 110)) 0 "l07_done.go:101" #[eD 18, eD 16, eC 16, eP 0, eP 1, eP 2, eP 3, eP 4, eP 5, eP 6, eP 7, eP 8, eP 9, eP 10, eP 11, eP 12, eP 13, eP 14, eP 15, eP 16] none
theorem Jcg (S : Sta) (A : Ac) (u : Value) (p : Nat) (u0 u1 u2 u3 : Value) (B : Nat) (w : World) (hS : SOk S) (hA : AOk A) (hR : Jt S A) (hk : A.k = 6) (hp : Row w p #[u0, u1, u2, u3] 29) (hpl : p < w.heap.size) (hB : B ≤ w.heap.size) (hO : OwnS w B S u0 u1 u2 u3) (hoff : ZX p u0 u1 u2 u3) (hU : ∀ wx, FrB w wx B p → IntsAt wx u A.l) :
  Calls Tryz.prog 54 #[.pointer (some ⟨p, 0, none⟩), .agg #[int i64 A.r, int i64 A.s, int i64 A.t, u, int i64 A.k, .string A.o, .string A.y, int i64 A.v, int i64 A.x, int i64 A.z]] w fun e w' => e = .returned (.tuple #[]) ∧ ∃ v0 v1 v2 v3, Row w' p #[v0, v1, v2, v3] 29 ∧ OwnS w' B (doS S A) v0 v1 v2 v3 ∧ FrB w w' B p := by
 obtain ⟨a0, c0, a1, c1, a2, c2, a3, c3, rfl, rfl, rfl, rfl⟩ := hO.at.shape
 have hl3 : S.l.length = 3 := hS.1.1
 obtain ⟨g0, rfl⟩ : ∃ g, a0 = some ⟨g, 0, none⟩ := by
  rcases hO.1.1.2 with ⟨h0, h1⟩ | ⟨g, cap, cur, e, -⟩
  ·rw [hl3] at h1; cases h1
  ·injection e with e1; exact ⟨g, e1⟩
 obtain ⟨rn, hrn⟩ : ∃ rn : Nat, A.r = rn := Int.eq_ofNat_of_zero_le hA.1.1
 have hr3 : rn < 3 := by have := hA.1.2.1; omega
 have hO0 : w.ownsRow B 3 1 (.slice (some ⟨g0, 0, none⟩) S.l.length c0) S.l.length (Je S.l) := hO.1.1
 have hg0 := hO0.lt g0 rfl
 have hg0p : g0 ≠ p := hoff.1 g0 rfl
 have HOFF := Ja hoff
 obtain ⟨W, hW⟩ : ∃ W, W = w.alloc (.cells #[int i64 A.r, int i64 A.s, int i64 A.t, u, int i64 A.k, .string A.o, .string A.y, int i64 A.v, int i64 A.x, int i64 A.z] 44) := ⟨_, rfl⟩
 have hBW : Below w.heap.size w W := by rw [hW]; exact (Below.refl _ _).alloc (Nat.le_refl _) _
 have hWs : W.heap.size = w.heap.size + 1 := by rw [hW]; simp
 have hRA : Row W w.heap.size #[int i64 A.r, int i64 A.s, int i64 A.t, u, int i64 A.k, .string A.o, .string A.y, int i64 A.v, int i64 A.x, int i64 A.z] 44 := by rw [hW]; exact Jb w _ _ rfl
 have hRP : Row W p #[.slice (some ⟨g0, 0, none⟩) S.l.length c0, .slice a1 S.T.length c1, .slice a2 S.L.length c2, .slice a3 S.C.length c3] 29 := hp.next hBW
 have hOW : OwnS W B S (.slice (some ⟨g0, 0, none⟩) S.l.length c0) (.slice a1 S.T.length c1) (.slice a2 S.L.length c2) (.slice a3 S.C.length c3) := Own4.next hO hBW
 have HW : Hid (w.alloc (.cells #[int i64 A.r, int i64 A.s, int i64 A.t, u, int i64 A.k, .string A.o, .string A.y, int i64 A.v, int i64 A.x, int i64 A.z] 44) = W) := hW.symm
 have HU := Ja hU
 have HLT3 : Hid (∀ j, (Value.slice a3 S.C.length c3).ownBlock = some j → j < w.heap.size) := fun j hj => (World.ownsRow.lt hO.1.2.2.2 j hj).2
 have HS := Ja hS
 have HA := Ja hA
 have HR := Ja hR
 have HK : Hid (A.k = 6) := hk
 have HL3 := Ja hl3
 have HRN := Ja hrn
 have hi1 : (rn : Int) < S.l.length := by omega
 have hi0 : (0 : Int) ≤ rn := by omega
 have HSS : Hid (∀ wx, Below W.heap.size W wx → wx.cell? ⟨p, 0, none⟩ = some (.slice (some ⟨g0, 0, none⟩) S.l.length c0) ∧ wx.cell? ⟨w.heap.size, 0, none⟩ = some (int i64 (rn : Int)) ∧ wx.cell? ⟨w.heap.size, 1, none⟩ = some (int i64 A.s)) := fun wx h => ⟨(hRP.next h).cell 0 rfl, by have := (hRA.next h).cell 0 rfl; rw [← HRN.out]; exact this, (hRA.next h).cell 1 rfl⟩
 have hBc : Below W.heap.size W W.drew := (Below.refl _ _).drew
 -- behind the store
 obtain ⟨Y, hY⟩ : ∃ Y, Y = W.drew.setCell ⟨g0, rn, none⟩ (int i64 A.s) := ⟨_, rfl⟩
 have hOD : W.drew.ownsRow B 3 1 (.slice (some ⟨g0, 0, none⟩) S.l.length c0) S.l.length (Je S.l) := Jh hOW.1.1 hBc
 have y0 : W.drew.cell? ⟨g0, rn, none⟩ = some (int i64 (S.l.getD rn 0)) := by
  rw [hOD.cellAt rn (by omega)]; simp [Je, List.getD, show rn < S.l.length by omega]
 have y1 := hOD.frozenAt rn
 have hYb : ∀ j, j ≠ g0 → Y.heap[j]? = W.drew.heap[j]? := fun j hj => by rw [hY]; exact Below.heap_setCell W.drew _ _ j (fun e => hj e)
 have hYs : Y.heap.size = W.heap.size := by rw [hY]; simp [World.setCell]
 have HYP : Hid (Row Y p #[.slice (some ⟨g0, 0, none⟩) S.l.length c0, .slice a1 S.T.length c1, .slice a2 S.L.length c2, .slice a3 S.C.length c3] 29) := by rw [hY]; exact (hRP.next hBc).other (by simp; omega) _
 have HYA : Hid (Row Y w.heap.size #[int i64 A.r, int i64 A.s, int i64 A.t, u, int i64 A.k, .string A.o, .string A.y, int i64 A.v, int i64 A.x, int i64 A.z] 44) := by rw [hY]; exact (hRA.next hBc).other (by simp; omega) _
 have hset : (Je S.l).set rn (int i64 A.s) = Je (S.l.set rn A.s) := by simp [Je, List.map_set]
 have HYO : Hid (OwnS Y B ⟨S.l.set rn A.s, S.T, S.L, S.C⟩ (.slice (some ⟨g0, 0, none⟩) S.l.length c0) (.slice a1 S.T.length c1) (.slice a2 S.L.length c2) (.slice a3 S.C.length c3)) := by
  have hD : OwnS W.drew B S (.slice (some ⟨g0, 0, none⟩) S.l.length c0) (.slice a1 S.T.length c1) (.slice a2 S.L.length c2) (.slice a3 S.C.length c3) := Own4.next hOW hBc
  have ho1 : ownO Y B (some ⟨.slice (some ⟨g0, 0, none⟩) S.l.length c0, 3, 1, (S.l.set rn A.s).length, Je (S.l.set rn A.s)⟩) := by
   show World.ownsRow _ _ _ _ _ _ _
   rw [← hset, List.length_set, hY]
   exact (hOD.stored rn (int i64 A.s)).1
  refine Own4.swap1 (p := p) hD HOFF.out (fun k hk hp hr => hYb k (fun e => hr (by rw [e]; rfl))) ho1 (fun k hk => .inl hk)
 have HYF : Hid (FrB w Y B p) := ⟨by rw [hY]; exact hBW.os, by rw [hY]; exact hBW.tape, by rw [hY]; exact hBW.output, by rw [hYs, hWs]; omega, fun j hj _ => by rw [hYb j (by omega)]; exact hBW.block j (by omega)⟩
 have HDS : Hid (doS S A = ⟨S.l.set rn A.s, S.T, S.L, Zg (JI A) S.C⟩) := by show _ = _; have e : A.r.toNat = rn := (by omega); unfold doS; rw [e, hk]; rfl
 have HYZ : Hid (Y.heap.size = w.heap.size + 1) := by show _ = _; omega
 have HY : Hid (W.drew.setCell ⟨g0, rn, none⟩ (int i64 A.s) = Y) := hY.symm
 rw [hrn]
 rw [hrn] at HW
 clear hS hA hR hU hp hO hoff hW hBW hRA hRP hOW hO0 hOD hset hYb hrn hl3 hWs hk hY hYs
 go_enter Tryz.func54, Tryz.ntmps54
 go_wp2
 rw [HW.out]
 try simp only [List.append_eq, List.cons_append, List.nil_append]
 refine wph HSS hBc 12 ?_
 refine tQ 0 Jie ?_ (HSS.out _ hBc); refine tQ 1 Jhz ?_ (HSS.out _ hBc); refine tQ 2 JgW ?_ (HSS.out _ hBc); refine tQ 3 JgZ ?_ (HSS.out _ hBc); refine tQ 4 JgU ?_ (HSS.out _ hBc); refine tQ 5 Jim ?_ (HSS.out _ hBc); refine tQ 6 JgS ?_ (HSS.out _ hBc); refine tQ 7 JhZ ?_ (HSS.out _ hBc); refine tQ 8 JiC ?_ (HSS.out _ hBc); refine tQ 9 JgE ?_ (HSS.out _ hBc); refine tQ 10 Jgf ?_ (HSS.out _ hBc)
 have hS2 : Y.cell? ⟨p, 0, none⟩ = some (.slice (some ⟨g0, 0, none⟩) S.l.length c0) ∧ Y.cell? ⟨w.heap.size, 0, none⟩ = some (int i64 (rn : Int)) ∧ Y.cell? ⟨w.heap.size, 1, none⟩ = some (int i64 A.s) := ⟨HYP.out.cell 0 rfl, by have := HYA.out.cell 0 rfl; rw [← HRN.out]; exact this, HYA.out.cell 1 rfl⟩
 refine rd 11 JfD (fun K hK => ?_)
 go_simp
 rw [show (W.setCell ⟨g0, rn, none⟩ (int i64 A.s)).drew = W.drew.setCell ⟨g0, rn, none⟩ (int i64 A.s) from rfl, HY.out]
 refine hK.out _ _ hS2 (fun hcl => ?_)
 clear hK K hS2 y0 y1 HY HSS hBc HW hcl
 refine wpd ?_
 obtain ⟨m0, m1, m2, m3, m4, m5, m6, m7, m8, m9⟩ := ZH HYA.out
 have b1 : (A.k == 1) = false := by simp [HK.out]
 have b2 : (A.k == 2) = false := by simp [HK.out]
 have b3 : (A.k == 3) = false := by simp [HK.out]
 have b4 : (A.k == 4) = false := by simp [HK.out]
 have b5 : (A.k == 5) = false := by simp [HK.out]
 have b6 : (A.k == 6) = true := by simp [HK.out]
 have HSY : Hid (∀ wx, Below Y.heap.size Y wx → wx.cell? ⟨p, 0, none⟩ = some (.slice (some ⟨g0, 0, none⟩) S.l.length c0) ∧ wx.cell? ⟨p, 1, none⟩ = some (.slice a1 S.T.length c1) ∧ wx.cell? ⟨p, 2, none⟩ = some (.slice a2 S.L.length c2) ∧ wx.cell? ⟨w.heap.size, 0, none⟩ = some (int i64 A.r) ∧ wx.cell? ⟨w.heap.size, 1, none⟩ = some (int i64 A.s) ∧ wx.cell? ⟨w.heap.size, 2, none⟩ = some (int i64 A.t) ∧ wx.cell? ⟨w.heap.size, 3, none⟩ = some (u) ∧ wx.cell? ⟨w.heap.size, 4, none⟩ = some (int i64 A.k) ∧ wx.cell? ⟨w.heap.size, 5, none⟩ = some (.string A.o) ∧ wx.cell? ⟨w.heap.size, 6, none⟩ = some (.string A.y) ∧ wx.cell? ⟨w.heap.size, 7, none⟩ = some (int i64 A.v) ∧ wx.cell? ⟨w.heap.size, 8, none⟩ = some (int i64 A.x) ∧ wx.cell? ⟨w.heap.size, 9, none⟩ = some (int i64 A.z)) := fun wx h => ⟨(HYP.out.next h).cell 0 rfl, (HYP.out.next h).cell 1 rfl, (HYP.out.next h).cell 2 rfl, (HYA.out.next h).cell 0 rfl, (HYA.out.next h).cell 1 rfl, (HYA.out.next h).cell 2 rfl, (HYA.out.next h).cell 3 rfl, (HYA.out.next h).cell 4 rfl, (HYA.out.next h).cell 5 rfl, (HYA.out.next h).cell 6 rfl, (HYA.out.next h).cell 7 rfl, (HYA.out.next h).cell 8 rfl, (HYA.out.next h).cell 9 rfl⟩
 have hBc : Below Y.heap.size Y Y.drew := (Below.refl _ _).drew
 go_wp2
 try simp only [List.append_eq, List.cons_append, List.nil_append]
 refine wph HSY hBc 20 ?_
 refine tQ 0 Jf1 ?_ (HSY.out _ hBc)
 refine tQ 1 JfP ?_ (HSY.out _ hBc)
 refine tQ 2 Jfi ?_ (HSY.out _ hBc)
 refine tQ 3 JfO ?_ (HSY.out _ hBc)
 refine tQ 5 Jfb ?_ (HSY.out _ hBc)
 refine tQ 6 Je8 ?_ (HSY.out _ hBc)
 refine tQ 7 JeI ?_ (HSY.out _ hBc)
 refine tQ 8 JfZ ?_ (HSY.out _ hBc)
 refine tQ 9 JeZ ?_ (HSY.out _ hBc)
 refine tQ 10 Jf9 ?_ (HSY.out _ hBc)
 refine tQ 11 Je3 ?_ (HSY.out _ hBc)
 refine tQ 12 JgC ?_ (HSY.out _ hBc)
 refine tQ 13 Jgv ?_ (HSY.out _ hBc)
 refine tQ 14 Jfe ?_ (HSY.out _ hBc)
 refine tQ 15 Jgs ?_ (HSY.out _ hBc)
 refine rd 4 JfW (fun K hK => ?_)
 have zc := (HYP.out.next hBc).cell 3 rfl
 go_simp
 refine hK.out _ _ (HSY.out _ hBc) (fun hcl => ?_)
 clear hK K hcl zc
 try simp only [s1, s2, s3]
 refine rd 16 JfE (fun K hK => ?_)
 go_simp
 have hBd := hBc
 refine (Gd S.C _ (JI A) _ (Nat.le_trans HS.out.2.2.2.1.1 (by omega)) (CeAt.below (CeAt.own HYO.out.1.2.2.2 rfl) hBc)).mono ?_
 rintro e wn ⟨vv, rfl, hov, hbn⟩
 replace hBc := nx hBc hbn
 obtain ⟨av, dv, rfl, -⟩ := CeAt.own hov rfl
 have hvlt : ∀ j, (Value.slice av (Zg (JI A) S.C).length dv).ownBlock = some j → Y.heap.size ≤ j := fun j hj => Nat.le_trans hBd.size (hov.lt j hj).1
 replace hov : wn.ownsRow B 90 8 (.slice av (Zg (JI A) S.C).length dv) (Zg (JI A) S.C).length (ceV (Zg (JI A) S.C)) := Jk hov (Nat.le_trans (by have := HYZ.out; omega) hBd.size)
 clear hbn hBd
 try go_wp2_with fail
 refine hK.out _ _ (HSY.out _ hBc) (fun hcl => ?_)
 clear hK K hcl
 try simp only [s1, s2, s3]
 refine tQ 17 JeX ?_ (HSY.out _ hBc)
 refine tQ 18 Jgh ?_ (HSY.out _ hBc)
 have z0 := (HYP.out.next hBc).cell 3 rfl
 have z1 := (HYP.out.next hBc).free 3
 obtain ⟨V, hV⟩ : ∃ V, V = wn.setCell ⟨p, 3, none⟩ (.slice av (Zg (JI A) S.C).length dv) := ⟨_, rfl⟩
 have hVP : Row V p #[.slice (some ⟨g0, 0, none⟩) S.l.length c0, .slice a1 S.T.length c1, .slice a2 S.L.length c2, .slice av (Zg (JI A) S.C).length dv] 29 := by rw [hV]; exact (HYP.out.next hBc).st3 _
 have hVA : Row V w.heap.size #[int i64 A.r, int i64 A.s, int i64 A.t, u, int i64 A.k, .string A.o, .string A.y, int i64 A.v, int i64 A.x, int i64 A.z] 44 := by rw [hV]; exact (HYA.out.next hBc).other (by simp; omega) _
 have hVb : ∀ j, j ≠ p → V.heap[j]? = wn.heap[j]? := fun j hj => by rw [hV]; exact Below.heap_setCell wn _ _ j (fun e => hj e)
 have hVs : wn.heap.size ≤ V.heap.size := by rw [hV]; simp [World.setCell]
 have hV3 : V.os = wn.os ∧ V.tape = wn.tape ∧ V.output = wn.output := by rw [hV]; exact ⟨rfl, rfl, rfl⟩
 have HV : Hid (wn.setCell ⟨p, 3, none⟩ (.slice av (Zg (JI A) S.C).length dv) = V) := hV.symm
 clear hV
 have HOF : Hid (OwnS V B (doS S A) (.slice (some ⟨g0, 0, none⟩) S.l.length c0) (.slice a1 S.T.length c1) (.slice a2 S.L.length c2) (.slice av (Zg (JI A) S.C).length dv)) := by
  show OwnS _ _ _ _ _ _ _
  rw [HDS.out]
  exact Own4.swap4 (p := p) HYO.out HOFF.out (fun k hk hp hr => by rw [hVb k hp]; exact hBc.block k hk) (Gh hov (fun k hk => hVb k (by have := hvlt k hk; have := HYZ.out; omega))) (fun k hk => .inr (hvlt k hk))
 have HFF : Hid (FrB w V B p) := HYF.out.trans ⟨hV3.1.trans hBc.os, hV3.2.1.trans hBc.tape, hV3.2.2.trans hBc.output, Nat.le_trans hBc.size hVs, fun k hk hp => by rw [hVb k hp]; exact hBc.block k (by have := HYZ.out; omega)⟩
 have HRF := Ja hVP
 refine rd 19 JeT (fun K hK => ?_)
 go_simp
 rw [show wn.setCell ⟨p, 3, none⟩ (.slice av (ins (fun y => decide (Jo (JI A).r (JI A).s y.r y.s)) (JI A) S.C).length dv) = V from HV.out]
 refine hK.out _ _ ⟨hVP.cell 0 rfl, hVP.cell 1 rfl, hVP.cell 2 rfl, hVA.cell 0 rfl, hVA.cell 1 rfl, hVA.cell 2 rfl, hVA.cell 3 rfl, hVA.cell 4 rfl, hVA.cell 5 rfl, hVA.cell 6 rfl, hVA.cell 7 rfl, hVA.cell 8 rfl, hVA.cell 9 rfl⟩ (fun hcl => ?_)
 clear hK K hcl z0 z1 hVP hVA hVb hVs hV3 HV hBc HSY hov hvlt m0 m1 m2 m3 m4 m5 m6 m7 m8 m9
 refine wpd ?_
 go_wp2
 go_end0
 exact ⟨rfl, _, _, _, _, HRF.out, HOF.out, HFF.out⟩
end Go.Proofs.YtepfinenocpneaaGreat
