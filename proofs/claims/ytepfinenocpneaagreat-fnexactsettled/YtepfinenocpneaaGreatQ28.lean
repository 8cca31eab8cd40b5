/- An act is done: kind 7, as the specification does it. -/
import Derived.Test.YtepfinenocpneaaGreatQ25
import Derived.Test.YtepfinenocpneaaGreatQ27
set_option maxHeartbeats 16000000
namespace Go.Proofs.YtepfinenocpneaaGreat
open Value (int)
open IntKind (i64)
set_option maxRecDepth 100000
set_option linter.unusedVariables false
open Go.RowKit
abbrev Jil : Oper := oq 4 (.move (.tmp 0)) 83 "l07_done.go:87" #[] none
abbrev Jiv : Oper := oq 5 (.nilCheck (.tmp 4)) 0 "l07_done.go:87" #[eD 0] none
abbrev Jg4 : Oper := oq 6 (.fieldAddr 29 (.tmp 5) 0) 0 "l07_done.go:87" #[eD 1] none
abbrev JgG : Oper := oq 7 (.load 24 (.tmp 6)) 24 "l07_done.go:87" #[eD 2] none
abbrev Jh4 : Oper := oq 8 (.fieldAddr 44 (.tmp 3) 0) 0 "l07_done.go:87" #[] none
abbrev JgX : Oper := oq 9 (.fieldAddr 42 (.tmp 8) 0) 0 "l07_done.go:87" #[eD 4] none
abbrev Jip : Oper := oq 10 (.load 3 (.tmp 9)) 3 "l07_done.go:87" #[eD 5] none
abbrev Jhe : Oper := oq 11 (.fieldAddr 44 (.tmp 3) 0) 0 "l07_done.go:87" #[] none
abbrev Jh5 : Oper := oq 12 (.fieldAddr 42 (.tmp 11) 1) 0 "l07_done.go:87" #[eD 7] none
abbrev JhS : Oper := oq 13 (.load 3 (.tmp 12)) 3 "l07_done.go:87" #[eD 8] none
abbrev JgD : Oper := oq 14 (.indexAddr 24 (.tmp 7) (.tmp 10)) 0 "l07_done.go:87" #[eD 3, eD 6, eP 0, eP 1, eP 2, eP 3, eP 4, eP 5, eP 6, eP 7, eP 8, eP 9] none
abbrev JfI : Oper := oz (.store 3 (.tmp 14) (.tmp 13)) 0 "l07_done.go:87" #[eD 10, eD 9, eP 0, eP 1, eP 2, eP 3, eP 4, eP 5, eP 6, eP 7, eP 8, eP 9] none
abbrev Jf8 : Oper := oq 115 (.move (.tmp 0)) 83 "l07_done.go:103" #[] none
abbrev JeW : Oper := oq 116 (.nilCheck (.tmp 115)) 0 "l07_done.go:103" #[eD 0] none
abbrev JeY : Oper := oq 117 (.fieldAddr 29 (.tmp 116) 3) 0 "l07_done.go:103" #[eD 1] none
abbrev JfV : Oper := oq 118 (.load 27 (.tmp 117)) 27 "l07_done.go:103" #[eD 2] none
abbrev Je0 : Oper := oq 119 (.move (.tmp 0)) 83 "l07_done.go:103" #[] none
abbrev JfS : Oper := oq 120 (.nilCheck (.tmp 119)) 0 "l07_done.go:103" #[eD 4] none
abbrev Jf4 : Oper := oq 121 (.load 29 (.tmp 120)) 29 "l07_done.go:103" #[eD 5] none
abbrev Jfq : Oper := oq 122 (.fieldAddr 44 (.tmp 3) 7) 0 "l07_done.go:103" #[] none
abbrev Jfx : Oper := oq 123 (.load 42 (.tmp 122)) 42 "l07_done.go:103" #[eD 7] none
abbrev JfU : Oper := oq 124 (.call ⟨.value (.func 62), #[.tmp 121, .tmp 123], #[29, 42]⟩) 3 "l07_done.go:103" #[eD 6, eD 8] none
abbrev Jgm : Oper := oq 125 (.indexAddr 27 (.tmp 118) (.tmp 124)) 0 "l07_done.go:103" #[eD 3, eD 9, eP 0, eP 1, eP 2, eP 3, eP 4, eP 5, eP 6, eP 7, eP 8, eP 9] none
abbrev Je5 : Oper := oq 126 (.fieldAddr 90 (.tmp 125) 5) 0 "l07_done.go:103" #[eD 10, eP 0, eP 1, eP 2, eP 3, eP 4, eP 5, eP 6, eP 7, eP 8, eP 9] none
abbrev Jfm : Oper := oz (.store 4 (.tmp 126) (.const (.bool true))) 0 "l07_done.go:103" #[eD 11, eC 9, eP 0, eP 1, eP 2, eP 3, eP 4, eP 5, eP 6, eP 7, eP 8, eP 9] none
theorem Jcn (S : Sta) (A : Ac) (u : Value) (p : Nat) (u0 u1 u2 u3 : Value) (B : Nat) (w : World) (hS : SOk S) (hA : AOk A) (hR : Jt S A) (hk : A.k = 7) (hp : Row w p #[u0, u1, u2, u3] 29) (hpl : p < w.heap.size) (hB : B ≤ w.heap.size) (hO : OwnS w B S u0 u1 u2 u3) (hoff : ZX p u0 u1 u2 u3) (hU : ∀ wx, FrB w wx B p → IntsAt wx u A.l) :
  Calls Tryz.prog 54 #[.pointer (some ⟨p, 0, none⟩), .agg #[int i64 A.r, int i64 A.s, int i64 A.t, u, int i64 A.k, .string A.o, .string A.y, int i64 A.v, int i64 A.x, int i64 A.z]] w fun e w' => e = .returned (.tuple #[]) ∧ ∃ v0 v1 v2 v3, Row w' p #[v0, v1, v2, v3] 29 ∧ OwnS w' B (doS S A) v0 v1 v2 v3 ∧ FrB w w' B p := by
 obtain ⟨a0, c0, a1, c1, a2, c2, a3, c3, rfl, rfl, rfl, rfl⟩ := hO.at.shape
 have hl3 : S.l.length = 3 := hS.1.1
 obtain ⟨g0, rfl⟩ : ∃ g, a0 = some ⟨g, 0, none⟩ := by
  rcases hO.1.1.2 with ⟨h0, h1⟩ | ⟨g, cap, cur, e, -⟩
  ·rw [hl3] at h1; cases h1
  ·injection e with e1; exact ⟨g, e1⟩
 obtain ⟨rn, hrn⟩ : ∃ rn : Nat, A.r = rn := Int.eq_ofNat_of_zero_le hA.1.1
 have hr3 : rn < 3 := by have := hA.1.2.1; omega
 have hO0 : w.ownsRow B 3 1 (.slice (some ⟨g0, 0, none⟩) S.l.length c0) S.l.length (Je S.l) := hO.1.1
 have hg0 := hO0.lt g0 rfl
 have hg0p : g0 ≠ p := hoff.1 g0 rfl
 have HOFF := Ja hoff
 obtain ⟨W, hW⟩ : ∃ W, W = w.alloc (.cells #[int i64 A.r, int i64 A.s, int i64 A.t, u, int i64 A.k, .string A.o, .string A.y, int i64 A.v, int i64 A.x, int i64 A.z] 44) := ⟨_, rfl⟩
 have hBW : Below w.heap.size w W := by rw [hW]; exact (Below.refl _ _).alloc (Nat.le_refl _) _
 have hWs : W.heap.size = w.heap.size + 1 := by rw [hW]; simp
 have hRA : Row W w.heap.size #[int i64 A.r, int i64 A.s, int i64 A.t, u, int i64 A.k, .string A.o, .string A.y, int i64 A.v, int i64 A.x, int i64 A.z] 44 := by rw [hW]; exact Jb w _ _ rfl
 have hRP : Row W p #[.slice (some ⟨g0, 0, none⟩) S.l.length c0, .slice a1 S.T.length c1, .slice a2 S.L.length c2, .slice a3 S.C.length c3] 29 := hp.next hBW
 have hOW : OwnS W B S (.slice (some ⟨g0, 0, none⟩) S.l.length c0) (.slice a1 S.T.length c1) (.slice a2 S.L.length c2) (.slice a3 S.C.length c3) := Own4.next hO hBW
 have HW : Hid (w.alloc (.cells #[int i64 A.r, int i64 A.s, int i64 A.t, u, int i64 A.k, .string A.o, .string A.y, int i64 A.v, int i64 A.x, int i64 A.z] 44) = W) := hW.symm
 have HU := Ja hU
 have HLT3 : Hid (∀ j, (Value.slice a3 S.C.length c3).ownBlock = some j → j < w.heap.size) := fun j hj => (World.ownsRow.lt hO.1.2.2.2 j hj).2
 have HS := Ja hS
 have HA := Ja hA
 have HR := Ja hR
 have HK : Hid (A.k = 7) := hk
 have HL3 := Ja hl3
 have HRN := Ja hrn
 have hi1 : (rn : Int) < S.l.length := by omega
 have hi0 : (0 : Int) ≤ rn := by omega
 have HSS : Hid (∀ wx, Below W.heap.size W wx → wx.cell? ⟨p, 0, none⟩ = some (.slice (some ⟨g0, 0, none⟩) S.l.length c0) ∧ wx.cell? ⟨w.heap.size, 0, none⟩ = some (int i64 (rn : Int)) ∧ wx.cell? ⟨w.heap.size, 1, none⟩ = some (int i64 A.s)) := fun wx h => ⟨(hRP.next h).cell 0 rfl, by have := (hRA.next h).cell 0 rfl; rw [← HRN.out]; exact this, (hRA.next h).cell 1 rfl⟩
 have hBc : Below W.heap.size W W.drew := (Below.refl _ _).drew
 -- behind the store
 obtain ⟨Y, hY⟩ : ∃ Y, Y = W.drew.setCell ⟨g0, rn, none⟩ (int i64 A.s) := ⟨_, rfl⟩
 have hOD : W.drew.ownsRow B 3 1 (.slice (some ⟨g0, 0, none⟩) S.l.length c0) S.l.length (Je S.l) := Jh hOW.1.1 hBc
 have y0 : W.drew.cell? ⟨g0, rn, none⟩ = some (int i64 (S.l.getD rn 0)) := by
  rw [hOD.cellAt rn (by omega)]; simp [Je, List.getD, show rn < S.l.length by omega]
 have y1 := hOD.frozenAt rn
 have hYb : ∀ j, j ≠ g0 → Y.heap[j]? = W.drew.heap[j]? := fun j hj => by rw [hY]; exact Below.heap_setCell W.drew _ _ j (fun e => hj e)
 have hYs : Y.heap.size = W.heap.size := by rw [hY]; simp [World.setCell]
 have HYP : Hid (Row Y p #[.slice (some ⟨g0, 0, none⟩) S.l.length c0, .slice a1 S.T.length c1, .slice a2 S.L.length c2, .slice a3 S.C.length c3] 29) := by rw [hY]; exact (hRP.next hBc).other (by simp; omega) _
 have HYA : Hid (Row Y w.heap.size #[int i64 A.r, int i64 A.s, int i64 A.t, u, int i64 A.k, .string A.o, .string A.y, int i64 A.v, int i64 A.x, int i64 A.z] 44) := by rw [hY]; exact (hRA.next hBc).other (by simp; omega) _
 have hset : (Je S.l).set rn (int i64 A.s) = Je (S.l.set rn A.s) := by simp [Je, List.map_set]
 have HYO : Hid (OwnS Y B ⟨S.l.set rn A.s, S.T, S.L, S.C⟩ (.slice (some ⟨g0, 0, none⟩) S.l.length c0) (.slice a1 S.T.length c1) (.slice a2 S.L.length c2) (.slice a3 S.C.length c3)) := by
  have hD : OwnS W.drew B S (.slice (some ⟨g0, 0, none⟩) S.l.length c0) (.slice a1 S.T.length c1) (.slice a2 S.L.length c2) (.slice a3 S.C.length c3) := Own4.next hOW hBc
  have ho1 : ownO Y B (some ⟨.slice (some ⟨g0, 0, none⟩) S.l.length c0, 3, 1, (S.l.set rn A.s).length, Je (S.l.set rn A.s)⟩) := by
   show World.ownsRow _ _ _ _ _ _ _
   rw [← hset, List.length_set, hY]
   exact (hOD.stored rn (int i64 A.s)).1
  refine Own4.swap1 (p := p) hD HOFF.out (fun k hk hp hr => hYb k (fun e => hr (by rw [e]; rfl))) ho1 (fun k hk => .inl hk)
 have HYF : Hid (FrB w Y B p) := ⟨by rw [hY]; exact hBW.os, by rw [hY]; exact hBW.tape, by rw [hY]; exact hBW.output, by rw [hYs, hWs]; omega, fun j hj _ => by rw [hYb j (by omega)]; exact hBW.block j (by omega)⟩
 have HDS : Hid (doS S A = ⟨S.l.set rn A.s, S.T, S.L, Zw S.C (cellAt S.C A.x A.z 0).toNat⟩) := by show _ = _; have e : A.r.toNat = rn := (by omega); unfold doS; rw [e, hk]; rfl
 have HYZ : Hid (Y.heap.size = w.heap.size + 1) := by show _ = _; omega
 have HY : Hid (W.drew.setCell ⟨g0, rn, none⟩ (int i64 A.s) = Y) := hY.symm
 rw [hrn]
 rw [hrn] at HW
 clear hS hA hR hU hp hO hoff hW hBW hRA hRP hOW hO0 hOD hset hYb hrn hl3 hWs hk hY hYs
 go_enter Tryz.func54, Tryz.ntmps54
 go_wp2
 rw [HW.out]
 try simp only [List.append_eq, List.cons_append, List.nil_append]
 refine wph HSS hBc 12 ?_
 refine tQ 0 Jil ?_ (HSS.out _ hBc); refine tQ 1 Jiv ?_ (HSS.out _ hBc); refine tQ 2 Jg4 ?_ (HSS.out _ hBc); refine tQ 3 JgG ?_ (HSS.out _ hBc); refine tQ 4 Jh4 ?_ (HSS.out _ hBc); refine tQ 5 JgX ?_ (HSS.out _ hBc); refine tQ 6 Jip ?_ (HSS.out _ hBc); refine tQ 7 Jhe ?_ (HSS.out _ hBc); refine tQ 8 Jh5 ?_ (HSS.out _ hBc); refine tQ 9 JhS ?_ (HSS.out _ hBc); refine tQ 10 JgD ?_ (HSS.out _ hBc)
 have hS2 : Y.cell? ⟨p, 0, none⟩ = some (.slice (some ⟨g0, 0, none⟩) S.l.length c0) ∧ Y.cell? ⟨w.heap.size, 0, none⟩ = some (int i64 (rn : Int)) ∧ Y.cell? ⟨w.heap.size, 1, none⟩ = some (int i64 A.s) := ⟨HYP.out.cell 0 rfl, by have := HYA.out.cell 0 rfl; rw [← HRN.out]; exact this, HYA.out.cell 1 rfl⟩
 refine rd 11 JfI (fun K hK => ?_)
 go_simp
 rw [show (W.setCell ⟨g0, rn, none⟩ (int i64 A.s)).drew = W.drew.setCell ⟨g0, rn, none⟩ (int i64 A.s) from rfl, HY.out]
 refine hK.out _ _ hS2 (fun hcl => ?_)
 clear hK K hS2 y0 y1 HY HSS hBc HW hcl
 refine wpd ?_
 obtain ⟨m0, m1, m2, m3, m4, m5, m6, m7, m8, m9⟩ := ZH HYA.out
 have b1 : (A.k == 1) = false := by simp [HK.out]
 have b2 : (A.k == 2) = false := by simp [HK.out]
 have b3 : (A.k == 3) = false := by simp [HK.out]
 have b4 : (A.k == 4) = false := by simp [HK.out]
 have b5 : (A.k == 5) = false := by simp [HK.out]
 have b6 : (A.k == 6) = false := by simp [HK.out]
 have b7 : (A.k == 7) = true := by simp [HK.out]
 obtain ⟨jn, hjl, hje, hjo⟩ : ∃ k, ∃ h : k < S.C.length, cellAt S.C A.x A.z 0 = (k : Int) ∧ True := by
  rcases HR.out with h | ⟨k, h, h1, -⟩
  ·exact absurd HK.out h.1
  ·exact ⟨k, h, h1, trivial⟩
 have hoC : Y.ownsRow B 90 8 (.slice a3 S.C.length c3) S.C.length (ceV S.C) := HYO.out.1.2.2.2
 obtain ⟨g3, rfl⟩ : ∃ g, a3 = some ⟨g, 0, none⟩ := by
  rcases hoC.2 with ⟨h0, h1⟩ | ⟨g, cap, cur, e, -⟩
  ·rw [h1] at hjl; omega
  ·injection e with e1; exact ⟨g, e1⟩
 have hg3 := hoC.lt g3 rfl
 have hg4 := HLT3.out g3 rfl
 have hg5 : g3 ≠ p := HOFF.out.2.2.2 g3 rfl
 have HJE : Hid (cellAt S.C A.x A.z 0 = (jn : Int)) := hje
 have HJL := Ja hjl
 have HCT : Hid (∀ wx, Below Y.heap.size Y wx → Calls Tryz.prog 62 #[.agg #[.slice (some ⟨g0, 0, none⟩) S.l.length c0, .slice a1 S.T.length c1, .slice a2 S.L.length c2, .slice (some ⟨g3, 0, none⟩) S.C.length c3], .agg #[int i64 A.x, int i64 A.z]] wx fun e w' => e = .returned (int i64 (jn : Int)) ∧ Below wx.heap.size wx w') := fun wx h => by
  have := Zm ⟨S.l.set rn A.s, S.T, S.L, S.C⟩ _ _ _ _ A.x A.z wx (Nat.le_trans HS.out.2.2.2.1.1 (by omega)) (HYO.out.at.below h)
  rw [show cellAt (Sta.C ⟨S.l.set rn A.s, S.T, S.L, S.C⟩) A.x A.z 0 = (jn : Int) from HJE.out] at this
  exact this
 have hj1 : (jn : Int) < S.C.length := by omega
 have hj0 : (0 : Int) ≤ jn := by omega
 clear hje hjo hoC
 have HSY : Hid (∀ wx, Below Y.heap.size Y wx → wx.cell? ⟨p, 0, none⟩ = some (.slice (some ⟨g0, 0, none⟩) S.l.length c0) ∧ wx.cell? ⟨p, 1, none⟩ = some (.slice a1 S.T.length c1) ∧ wx.cell? ⟨p, 2, none⟩ = some (.slice a2 S.L.length c2) ∧ wx.cell? ⟨p, 3, none⟩ = some (.slice (some ⟨g3, 0, none⟩) S.C.length c3) ∧ wx.cell? ⟨w.heap.size, 0, none⟩ = some (int i64 A.r) ∧ wx.cell? ⟨w.heap.size, 1, none⟩ = some (int i64 A.s) ∧ wx.cell? ⟨w.heap.size, 2, none⟩ = some (int i64 A.t) ∧ wx.cell? ⟨w.heap.size, 3, none⟩ = some (u) ∧ wx.cell? ⟨w.heap.size, 4, none⟩ = some (int i64 A.k) ∧ wx.cell? ⟨w.heap.size, 5, none⟩ = some (.string A.o) ∧ wx.cell? ⟨w.heap.size, 6, none⟩ = some (.string A.y) ∧ wx.cell? ⟨w.heap.size, 7, none⟩ = some (int i64 A.v) ∧ wx.cell? ⟨w.heap.size, 8, none⟩ = some (int i64 A.x) ∧ wx.cell? ⟨w.heap.size, 9, none⟩ = some (int i64 A.z)) := fun wx h => ⟨(HYP.out.next h).cell 0 rfl, (HYP.out.next h).cell 1 rfl, (HYP.out.next h).cell 2 rfl, (HYP.out.next h).cell 3 rfl, (HYA.out.next h).cell 0 rfl, (HYA.out.next h).cell 1 rfl, (HYA.out.next h).cell 2 rfl, (HYA.out.next h).cell 3 rfl, (HYA.out.next h).cell 4 rfl, (HYA.out.next h).cell 5 rfl, (HYA.out.next h).cell 6 rfl, (HYA.out.next h).cell 7 rfl, (HYA.out.next h).cell 8 rfl, (HYA.out.next h).cell 9 rfl⟩
 have hBc : Below Y.heap.size Y Y.drew := (Below.refl _ _).drew
 go_wp2
 try simp only [List.append_eq, List.cons_append, List.nil_append]
 refine wph HSY hBc 13 ?_
 refine tQ 0 Jf8 ?_ (HSY.out _ hBc)
 refine tQ 1 JeW ?_ (HSY.out _ hBc)
 refine tQ 2 JeY ?_ (HSY.out _ hBc)
 refine tQ 3 JfV ?_ (HSY.out _ hBc)
 refine tQ 4 Je0 ?_ (HSY.out _ hBc)
 refine tQ 5 JfS ?_ (HSY.out _ hBc)
 refine tQ 6 Jf4 ?_ (HSY.out _ hBc)
 refine tQ 7 Jfq ?_ (HSY.out _ hBc)
 refine tQ 8 Jfx ?_ (HSY.out _ hBc)
 refine rd 9 JfU (fun K hK => ?_)
 go_simp
 refine (HCT.out _ hBc).mono ?_
 rintro e wn ⟨rfl, hbn⟩
 replace hBc := nx hBc hbn
 clear hbn
 try go_wp2_with fail
 refine hK.out _ _ (HSY.out _ hBc) (fun hcl => ?_)
 clear hK K hcl
 try simp only [s1, s2, s3]
 refine tQ 10 Jgm ?_ (HSY.out _ hBc)
 refine tQ 11 Je5 ?_ (HSY.out _ hBc)
 have hoD : wn.ownsRow B 90 8 (.slice (some ⟨g3, 0, none⟩) S.C.length c3) S.C.length (ceV S.C) := Jh HYO.out.1.2.2.2 hBc
 obtain ⟨zv, z0⟩ : ∃ zv, wn.cell? ⟨g3, jn * 8 + 7, none⟩ = some (.bool zv) := by
  obtain ⟨a, c, e, hg⟩ := CeAt.own hoD rfl
  injection e with e1
  obtain ⟨g', f', e2, -, h2⟩ := hg (by omega)
  rw [← e1] at e2
  injection e2 with e2
  injection e2 with e3 e4
  have := (h2 jn HJL.out).2.2.2.2.2.2.2
  rw [← e3, ← e4, Nat.zero_add] at this
  exact ⟨_, this⟩
 have z1 := hoD.frozenAt (jn * 8 + 7)
 obtain ⟨V, hV⟩ : ∃ V, V = wn.setCell ⟨g3, jn * 8 + 7, none⟩ (.bool true) := ⟨_, rfl⟩
 have hVP : Row V p #[.slice (some ⟨g0, 0, none⟩) S.l.length c0, .slice a1 S.T.length c1, .slice a2 S.L.length c2, .slice (some ⟨g3, 0, none⟩) S.C.length c3] 29 := by rw [hV]; exact (HYP.out.next hBc).other (by simp; omega) _
 have hVA : Row V w.heap.size #[int i64 A.r, int i64 A.s, int i64 A.t, u, int i64 A.k, .string A.o, .string A.y, int i64 A.v, int i64 A.x, int i64 A.z] 44 := by rw [hV]; exact (HYA.out.next hBc).other (by simp; omega) _
 have hVb : ∀ j, j ≠ g3 → V.heap[j]? = wn.heap[j]? := fun j hj => by rw [hV]; exact Below.heap_setCell wn _ _ j (fun e => hj e)
 have hVs : wn.heap.size ≤ V.heap.size := by rw [hV]; simp [World.setCell]
 have hV3 : V.os = wn.os ∧ V.tape = wn.tape ∧ V.output = wn.output := by rw [hV]; exact ⟨rfl, rfl, rfl⟩
 have hst := (hoD.stored (jn * 8 + 7) (.bool true)).1
 rw [JaS _ _ HJL.out, ← hV] at hst
 have HV : Hid (wn.setCell ⟨g3, jn * 8 + 7, none⟩ (.bool true) = V) := hV.symm
 clear hV
 have HOF : Hid (OwnS V B (doS S A) (.slice (some ⟨g0, 0, none⟩) S.l.length c0) (.slice a1 S.T.length c1) (.slice a2 S.L.length c2) (.slice (some ⟨g3, 0, none⟩) S.C.length c3)) := by
  show OwnS _ _ _ _ _ _ _
  rw [HDS.out]
  refine Own4.swap4 (p := p) HYO.out HOFF.out (fun k hk hp hr => by rw [hVb k (fun e => hr (by rw [e]; rfl))]; exact hBc.block k hk) ?_ (fun k hk => .inl hk)
  show World.ownsRow _ _ _ _ _ _ _
  rw [HJE.out, show ((jn : Int)).toNat = jn by omega, Yo]
  exact hst
 have HFF : Hid (FrB w V B p) := HYF.out.trans ⟨hV3.1.trans hBc.os, hV3.2.1.trans hBc.tape, hV3.2.2.trans hBc.output, Nat.le_trans hBc.size hVs, fun k hk hp => by rw [hVb k (by omega)]; exact hBc.block k (by have := HYZ.out; omega)⟩
 have HRF := Ja hVP
 refine rd 12 Jfm (fun K hK => ?_)
 go_simp
 rw [HV.out]
 refine hK.out _ _ ⟨hVP.cell 0 rfl, hVP.cell 1 rfl, hVP.cell 2 rfl, hVP.cell 3 rfl, hVA.cell 0 rfl, hVA.cell 1 rfl, hVA.cell 2 rfl, hVA.cell 3 rfl, hVA.cell 4 rfl, hVA.cell 5 rfl, hVA.cell 6 rfl, hVA.cell 7 rfl, hVA.cell 8 rfl, hVA.cell 9 rfl⟩ (fun hcl => ?_)
 clear hK K hcl z0 z1 hVP hVA hVb hVs hV3 HV hBc HSY hoD hst HCT m0 m1 m2 m3 m4 m5 m6 m7 m8 m9
 refine wpd ?_
 go_wp2
 go_end0
 exact ⟨rfl, _, _, _, _, HRF.out, HOF.out, HFF.out⟩
theorem YE (S : Sta) (A : Ac) (u : Value) (p : Nat) (u0 u1 u2 u3 : Value) (B : Nat) (w : World) (hS : SOk S) (hA : AOk A) (hR : Jt S A) (hp : Row w p #[u0, u1, u2, u3] 29) (hpl : p < w.heap.size) (hB : B ≤ w.heap.size) (hO : OwnS w B S u0 u1 u2 u3) (hoff : ZX p u0 u1 u2 u3) (hU : ∀ wx, FrB w wx B p → IntsAt wx u A.l) :
  Calls Tryz.prog 54 #[.pointer (some ⟨p, 0, none⟩), .agg #[int i64 A.r, int i64 A.s, int i64 A.t, u, int i64 A.k, .string A.o, .string A.y, int i64 A.v, int i64 A.x, int i64 A.z]] w fun e w' => e = .returned (.tuple #[]) ∧ ∃ v0 v1 v2 v3, Row w' p #[v0, v1, v2, v3] 29 ∧ OwnS w' B (doS S A) v0 v1 v2 v3 ∧ FrB w w' B p := by
 have hk := hA.2.2.2.2.1.1
 have hc : A.k = 1 ∨ A.k = 2 ∨ A.k = 3 ∨ A.k = 4 ∨ A.k = 5 ∨ A.k = 6 ∨ A.k = 7 := by omega
 rcases hc with h | h | h | h | h | h | h
 ·exact Jb5 S A u p u0 u1 u2 u3 B w hS hA hR h hp hpl hB hO hoff hU
 ·exact Jcr S A u p u0 u1 u2 u3 B w hS hA hR h hp hpl hB hO hoff hU
 ·exact Jch S A u p u0 u1 u2 u3 B w hS hA hR h hp hpl hB hO hoff hU
 ·exact JbN S A u p u0 u1 u2 u3 B w hS hA hR h hp hpl hB hO hoff hU
 ·exact Jcu S A u p u0 u1 u2 u3 B w hS hA hR h hp hpl hB hO hoff hU
 ·exact Jcg S A u p u0 u1 u2 u3 B w hS hA hR h hp hpl hB hO hoff hU
 ·exact Jcn S A u p u0 u1 u2 u3 B w hS hA hR h hp hpl hB hO hoff hU
open Classical in
noncomputable def Jm (S : Sta) (A : Ac) : Int :=
 if ¬ (SOk S ∧ AOk A) then 3 else if Jf S.l A.r A.s = true then 1 else if kin A.l S.l = false then 2 else if ¬ Jt S A then 3
 else if 120 < (doS S A).T.length ∨ 120 < (doS S A).L.length ∨ 120 < (doS S A).C.length then 4 else 0
open Classical in
noncomputable def Jc (S : Sta) (A : Ac) : Sta := if Jm S A = 0 then doS S A else S
theorem JC {fn : Func} {q v : Tmp} (h : fn.results = #[.cell q 29, .tmp v]) {tmps : Array Value} {w : World} {g : Nat} {cs : Array Value} {x : Value} (hc : cs.size = 4) (hp : tmps.getD q undef = .pointer (some ⟨g, 0, none⟩)) (hv : tmps.getD v undef = x) (hg : Row w g cs 29) :
  (results fn tmps).run Tryz.prog w = .ok (.tuple #[.agg cs, x]) w := by
 rw [results_cell_tmp h, hp, hv]
 simp [asAddr, Result.andThen, run_loadVar_row w g 29 29 _ (0, 0) _ hg Tryz.underlying29 rfl (by rw [hc]; kernel_rfl)]
theorem Uk (S : Sta) (u0 u1 u2 u3 : Value) (A : Ac) (u : Value) (w : World) (hn : Small S) (hst : JdR S) (h : StAt w S u0 u1 u2 u3) (hal : A.l.length ≤ 1048576 ∧ A.o.size ≤ 1048576 ∧ A.y.size ≤ 1048576) (hu : IntsAt w u A.l) :
  Calls Tryz.prog 17 #[.agg #[u0, u1, u2, u3], .agg #[int i64 A.r, int i64 A.s, int i64 A.t, u, int i64 A.k, .string A.o, .string A.y, int i64 A.v, int i64 A.x, int i64 A.z]] w fun e w' => ∃ v0 v1 v2 v3, e = .returned (.tuple #[.agg #[v0, v1, v2, v3], int i64 (Jm S A)]) ∧ OwnS w' w.heap.size (Jc S A) v0 v1 v2 v3 ∧ Below w.heap.size w w' := by
 obtain ⟨a0, c0, a1, c1, a2, c2, a3, c3, rfl, rfl, rfl, rfl⟩ := h.shape
 obtain ⟨W, hW⟩ : ∃ W, W = ((w.alloc (.cells #[.slice a0 S.l.length c0, .slice a1 S.T.length c1, .slice a2 S.L.length c2, .slice a3 S.C.length c3] 29)).alloc (.cells #[int i64 A.r, int i64 A.s, int i64 A.t, u, int i64 A.k, .string A.o, .string A.y, int i64 A.v, int i64 A.x, int i64 A.z] 44)).alloc (.cells #[.slice none 0 0, .slice none 0 0, .slice none 0 0, .slice none 0 0] 29) := ⟨_, rfl⟩
 have hWs : W.heap.size = w.heap.size + 1 + 1 + 1 := by rw [hW]; simp
 have hB0 : Below w.heap.size w W := by rw [hW]; exact (((Below.refl _ _).alloc (Nat.le_refl _) _).alloc (by simp) _).alloc (by simp; omega) _
 have hR1 : Row W w.heap.size #[.slice a0 S.l.length c0, .slice a1 S.T.length c1, .slice a2 S.L.length c2, .slice a3 S.C.length c3] 29 := by rw [hW]; exact ((Jb w _ _ rfl).alloc _).alloc _
 have hR2 : Row W (w.heap.size + 1) #[int i64 A.r, int i64 A.s, int i64 A.t, u, int i64 A.k, .string A.o, .string A.y, int i64 A.v, int i64 A.x, int i64 A.z] 44 := by rw [hW]; exact (Jb _ _ _ (by simp)).alloc _
 have hR3 : Row W (w.heap.size + 1 + 1) #[.slice none 0 0, .slice none 0 0, .slice none 0 0, .slice none 0 0] 29 := by rw [hW]; exact Jb _ _ _ (by simp)
 have HS : Hid (∀ wx, Below W.heap.size W wx → StAt wx S (.slice a0 S.l.length c0) (.slice a1 S.T.length c1) (.slice a2 S.L.length c2) (.slice a3 S.C.length c3)) := fun wx hb => h.below (hB0.trans (hb.mono hB0.size))
 have HU : Hid (∀ wx, Below W.heap.size W wx → IntsAt wx u A.l) := fun wx hb => hu.below (hB0.trans (hb.mono hB0.size))
 have HR1 : Hid (∀ wx, Below W.heap.size W wx → Row wx w.heap.size #[.slice a0 S.l.length c0, .slice a1 S.T.length c1, .slice a2 S.L.length c2, .slice a3 S.C.length c3] 29) := fun wx hb => hR1.next hb
 have HR2 : Hid (∀ wx, Below W.heap.size W wx → Row wx (w.heap.size + 1) #[int i64 A.r, int i64 A.s, int i64 A.t, u, int i64 A.k, .string A.o, .string A.y, int i64 A.v, int i64 A.x, int i64 A.z] 44) := fun wx hb => hR2.next hb
 have HR3 : Hid (∀ wx, Below W.heap.size W wx → Row wx (w.heap.size + 1 + 1) #[.slice none 0 0, .slice none 0 0, .slice none 0 0, .slice none 0 0] 29) := fun wx hb => hR3.next hb
 have HF : Hid (∀ wx, Below W.heap.size W wx → Below w.heap.size w wx) := fun wx hb => hB0.trans (hb.mono hB0.size)
 have HC : Hid (∀ wx, Below W.heap.size W wx → Calls Tryz.prog 50 #[.agg #[.slice a0 S.l.length c0, .slice a1 S.T.length c1, .slice a2 S.L.length c2, .slice a3 S.C.length c3]] wx fun e w' => ∃ v0 v1 v2 v3, e = .returned (.agg #[v0, v1, v2, v3]) ∧ OwnS w' wx.heap.size S v0 v1 v2 v3 ∧ Below wx.heap.size wx w') := fun wx hb => UB S _ _ _ _ wx hn (HS.out wx hb)
 have HOK : Hid (∀ wx, Below W.heap.size W wx → Calls Tryz.prog 21 #[.agg #[.slice a0 S.l.length c0, .slice a1 S.T.length c1, .slice a2 S.L.length c2, .slice a3 S.C.length c3]] wx fun e w' => Tells e (SOk S) ∧ Below wx.heap.size wx w') := fun wx hb => K8 S _ _ _ _ wx hn hst (HS.out wx hb)
 have HAK : Hid (∀ wx, Below W.heap.size W wx → Calls Tryz.prog 51 #[.agg #[int i64 A.r, int i64 A.s, int i64 A.t, u, int i64 A.k, .string A.o, .string A.y, int i64 A.v, int i64 A.x, int i64 A.z]] wx fun e w' => e = .returned (.bool (decide (AOk A))) ∧ Below wx.heap.size wx w') := fun wx hb => Uc A u wx hal (HU.out wx hb)
 have HKN : Hid (∀ wx, Below W.heap.size W wx → Calls Tryz.prog 20 #[.slice a0 S.l.length c0, .agg #[int i64 A.r, int i64 A.s]] wx fun e w' => e = .returned (.bool (Jf S.l A.r A.s)) ∧ Below wx.heap.size wx w') := fun wx hb => Zc S.l _ A.r A.s wx hn.1 (HS.out wx hb).1
 have HKI : Hid (∀ wx, Below W.heap.size W wx → Calls Tryz.prog 52 #[u, .slice a0 S.l.length c0] wx fun e w' => e = .returned (.bool (kin A.l S.l)) ∧ Below wx.heap.size wx w') := fun wx hb => GQ A.l S.l u _ wx hal.1 hn.1 (HU.out wx hb) (HS.out wx hb).1
 have HRF : Hid (∀ wx, Below W.heap.size W wx → Calls Tryz.prog 53 #[.agg #[.slice a0 S.l.length c0, .slice a1 S.T.length c1, .slice a2 S.L.length c2, .slice a3 S.C.length c3], .agg #[int i64 A.r, int i64 A.s, int i64 A.t, u, int i64 A.k, .string A.o, .string A.y, int i64 A.v, int i64 A.x, int i64 A.z]] wx fun e w' => Tells e (Jt S A) ∧ Below wx.heap.size wx w') := fun wx hb => Vm S _ _ _ _ A u wx hn (HS.out wx hb)
 have HW : Hid (((w.alloc (.cells #[.slice a0 S.l.length c0, .slice a1 S.T.length c1, .slice a2 S.L.length c2, .slice a3 S.C.length c3] 29)).alloc (.cells #[int i64 A.r, int i64 A.s, int i64 A.t, u, int i64 A.k, .string A.o, .string A.y, int i64 A.v, int i64 A.x, int i64 A.z] 44)).alloc (.cells #[.slice none 0 0, .slice none 0 0, .slice none 0 0, .slice none 0 0] 29) = W) := hW.symm
 have hW0 : Below W.heap.size W W := Below.refl _ _
 obtain ⟨e0, e1, e2, e3⟩ := Row.four hR1
 rw [hW] at e0 e1 e2 e3
 clear hW h hu hR1 hR2 hR3 hn hst hal hB0
 go_enter Tryz.func17, Tryz.ntmps17
 go_wp2_with fail
 rw [HW.out]
 refine (HC.out _ hW0).mono ?_
 rintro e w1 ⟨v0, v1, v2, v3, rfl, hO1, hb1⟩
 obtain ⟨b0, d0, b1, d1, b2, d2, b3, d3, rfl, rfl, rfl, rfl⟩ := hO1.at.shape
 clear HW e0 e1 e2 e3
 obtain ⟨X, hX⟩ : ∃ X, X = w1.alloc (.cells #[.slice b0 S.l.length d0, .slice b1 S.T.length d1, .slice b2 S.L.length d2, .slice b3 S.C.length d3] 29) := ⟨_, rfl⟩
 have hbX1 : Below w1.heap.size w1 X := by rw [hX]; exact (Below.refl _ _).alloc (Nat.le_refl _) _
 have hbX : Below W.heap.size W X := hb1.trans (hbX1.mono hb1.size)
 have HP0 : Hid (∀ wx, Below X.heap.size X wx → Row wx w1.heap.size #[.slice b0 S.l.length d0, .slice b1 S.T.length d1, .slice b2 S.L.length d2, .slice b3 S.C.length d3] 29) := fun wx hb => Row.next (by rw [hX]; exact Jb w1 _ _ rfl) hb
 have HO1 : Hid (∀ wx, Below X.heap.size X wx → OwnS wx W.heap.size S (.slice b0 S.l.length d0) (.slice b1 S.T.length d1) (.slice b2 S.L.length d2) (.slice b3 S.C.length d3)) := fun wx hb => Own4.next (Own4.next hO1 hbX1) hb
 have HOFF : Hid (ZX w1.heap.size (.slice b0 S.l.length d0) (.slice b1 S.T.length d1) (.slice b2 S.L.length d2) (.slice b3 S.C.length d3)) := ⟨fun k hk => by have := (World.ownsRow.lt hO1.1.1 k hk).2; omega, fun k hk => by have := (World.ownsRow.lt hO1.1.2.1 k hk).2; omega, fun k hk => by have := (World.ownsRow.lt hO1.1.2.2.1 k hk).2; omega, fun k hk => by have := (World.ownsRow.lt hO1.1.2.2.2 k hk).2; omega⟩
 have hXs : X.heap.size = w1.heap.size + 1 := by rw [hX]; simp
 have hws1 := hb1.size
 have HX : Hid (w1.alloc (.cells #[.slice b0 S.l.length d0, .slice b1 S.T.length d1, .slice b2 S.L.length d2, .slice b3 S.C.length d3] 29) = X) := hX.symm
 obtain ⟨e0, e1, e2, e3⟩ := Row.four (HR1.out X hbX)
 rw [hX] at e0 e1 e2 e3
 clear hX hO1 hbX1 hb1
 go_wp2_with fail
 rw [HX.out]
 refine (HOK.out _ hbX).mono ?_
 rintro e x0 ⟨⟨q, rfl, hq⟩, hb⟩
 have hkx0 : Below X.heap.size X x0 := hb
 clear hb HX e0 e1 e2 e3
 cases q with
 | false =>
  have hns : ¬ SOk S := fun h => by have := hq.2 h; cases this
  clear hq
  have hbk : Below W.heap.size W x0 := hbX.trans (hkx0.mono hbX.size)
  have HCD : Hid (Jm S A = 3) := by show _ = _; unfold Jm; rw [if_pos (fun h => hns h.1)]
  have HNX : Hid (Jc S A = S) := by show _ = _; unfold Jc; rw [if_neg (by rw [HCD.out]; decide)]
  obtain ⟨z0, z1, z2, z3⟩ := Row.four (HR3.out x0 hbk)
  have k0 := (HR3.out x0 hbk).free 0
  have k1 := (HR3.out x0 hbk).free 1
  have k2 := (HR3.out x0 hbk).free 2
  have k3 := (HR3.out x0 hbk).free 3
  obtain ⟨p0, p1, p2, p3⟩ := Row.four (HP0.out x0 hkx0)
  obtain ⟨YY, hYY⟩ : ∃ YY, YY = ((((x0.setCell ⟨w.heap.size + 1 + 1, 0, none⟩ (.slice b0 S.l.length d0)).setCell ⟨w.heap.size + 1 + 1, 1, none⟩ (.slice b1 S.T.length d1)).setCell ⟨w.heap.size + 1 + 1, 2, none⟩ (.slice b2 S.L.length d2)).setCell ⟨w.heap.size + 1 + 1, 3, none⟩ (.slice b3 S.C.length d3)) := ⟨_, rfl⟩
  have HZY : Hid (Row YY (w.heap.size + 1 + 1) #[.slice b0 S.l.length d0, .slice b1 S.T.length d1, .slice b2 S.L.length d2, .slice b3 S.C.length d3] 29) := by rw [hYY]; exact ((((HR3.out x0 hbk).st0 _).st1 _).st2 _).st3 _
  have HOY : Hid (OwnS YY w.heap.size (Jc S A) (.slice b0 S.l.length d0) (.slice b1 S.T.length d1) (.slice b2 S.L.length d2) (.slice b3 S.C.length d3)) := by
   rw [hYY, show Jc S A = S from HNX.out]
   exact Own4.base ((((Own4.put (HO1.out x0 hkx0) (by omega)).put (by omega)).put (by omega)).put (by omega)) (by omega)
  have HBY : Hid (Below w.heap.size w YY) := by rw [hYY]; exact ((((HF.out x0 hbk).setCell (by simp; omega) _).setCell (by simp; omega) _).setCell (by simp; omega) _).setCell (by simp; omega) _
  have HYY : Hid (((((x0.setCell ⟨w.heap.size + 1 + 1, 0, none⟩ (.slice b0 S.l.length d0)).setCell ⟨w.heap.size + 1 + 1, 1, none⟩ (.slice b1 S.T.length d1)).setCell ⟨w.heap.size + 1 + 1, 2, none⟩ (.slice b2 S.L.length d2)).setCell ⟨w.heap.size + 1 + 1, 3, none⟩ (.slice b3 S.C.length d3)) = YY) := hYY.symm
  clear hYY
  go_wp2
  rw [HYY.out]
  exact bodyPost_ret (JC rfl rfl rfl rfl HZY.out) rfl ⟨_, _, _, _, by rw [HCD.out]; rfl, HOY.out, HBY.out⟩
 | true =>
 have HSO : Hid (SOk S) := hq.1 rfl
 clear hq
 have hb0 : Below W.heap.size W x0 := hbX.trans (hkx0.mono hbX.size)
 obtain ⟨e0, e1, e2, e3⟩ := Row.four (HR1.out x0 hb0)
 obtain ⟨t0, t1, t2, t3, t4, t5, t6, t7, t8, t9⟩ := ZH (HR2.out x0 hb0)
 go_wp2_with fail
 refine (HAK.out _ hb0).mono ?_
 rintro e x1 ⟨rfl, hb⟩
 have hkx1 : Below X.heap.size X x1 := hkx0.trans (hb.mono hkx0.size)
 clear hb hkx0 hb0
 clear e0 e1 e2 e3 t0 t1 t2 t3 t4 t5 t6 t7 t8 t9
 by_cases hA : AOk A
 case neg =>
  rw [decide_eq_false hA]
  have hbk : Below W.heap.size W x1 := hbX.trans (hkx1.mono hbX.size)
  have HCD : Hid (Jm S A = 3) := by show _ = _; unfold Jm; rw [if_pos (fun h => hA h.2)]
  have HNX : Hid (Jc S A = S) := by show _ = _; unfold Jc; rw [if_neg (by rw [HCD.out]; decide)]
  obtain ⟨z0, z1, z2, z3⟩ := Row.four (HR3.out x1 hbk)
  have k0 := (HR3.out x1 hbk).free 0
  have k1 := (HR3.out x1 hbk).free 1
  have k2 := (HR3.out x1 hbk).free 2
  have k3 := (HR3.out x1 hbk).free 3
  obtain ⟨p0, p1, p2, p3⟩ := Row.four (HP0.out x1 hkx1)
  obtain ⟨YY, hYY⟩ : ∃ YY, YY = ((((x1.setCell ⟨w.heap.size + 1 + 1, 0, none⟩ (.slice b0 S.l.length d0)).setCell ⟨w.heap.size + 1 + 1, 1, none⟩ (.slice b1 S.T.length d1)).setCell ⟨w.heap.size + 1 + 1, 2, none⟩ (.slice b2 S.L.length d2)).setCell ⟨w.heap.size + 1 + 1, 3, none⟩ (.slice b3 S.C.length d3)) := ⟨_, rfl⟩
  have HZY : Hid (Row YY (w.heap.size + 1 + 1) #[.slice b0 S.l.length d0, .slice b1 S.T.length d1, .slice b2 S.L.length d2, .slice b3 S.C.length d3] 29) := by rw [hYY]; exact ((((HR3.out x1 hbk).st0 _).st1 _).st2 _).st3 _
  have HOY : Hid (OwnS YY w.heap.size (Jc S A) (.slice b0 S.l.length d0) (.slice b1 S.T.length d1) (.slice b2 S.L.length d2) (.slice b3 S.C.length d3)) := by
   rw [hYY, show Jc S A = S from HNX.out]
   exact Own4.base ((((Own4.put (HO1.out x1 hkx1) (by omega)).put (by omega)).put (by omega)).put (by omega)) (by omega)
  have HBY : Hid (Below w.heap.size w YY) := by rw [hYY]; exact ((((HF.out x1 hbk).setCell (by simp; omega) _).setCell (by simp; omega) _).setCell (by simp; omega) _).setCell (by simp; omega) _
  have HYY : Hid (((((x1.setCell ⟨w.heap.size + 1 + 1, 0, none⟩ (.slice b0 S.l.length d0)).setCell ⟨w.heap.size + 1 + 1, 1, none⟩ (.slice b1 S.T.length d1)).setCell ⟨w.heap.size + 1 + 1, 2, none⟩ (.slice b2 S.L.length d2)).setCell ⟨w.heap.size + 1 + 1, 3, none⟩ (.slice b3 S.C.length d3)) = YY) := hYY.symm
  clear hYY
  go_wp2
  rw [HYY.out]
  exact bodyPost_ret (JC rfl rfl rfl rfl HZY.out) rfl ⟨_, _, _, _, by rw [HCD.out]; rfl, HOY.out, HBY.out⟩
 rw [decide_eq_true hA]
 have HSA : Hid (¬ ¬ (SOk S ∧ AOk A)) := fun h => h ⟨HSO.out, hA⟩
 have hb0 : Below W.heap.size W x1 := hbX.trans (hkx1.mono hbX.size)
 obtain ⟨e0, e1, e2, e3⟩ := Row.four (HR1.out x1 hb0)
 obtain ⟨t0, t1, t2, t3, t4, t5, t6, t7, t8, t9⟩ := ZH (HR2.out x1 hb0)
 have HKN1 := Ja (HKN.out x1 hb0)
 have HKV : Hid (∀ b, Jf S.l A.r A.s = b → Jf S.l A.r A.s = b) := fun b h => h
 obtain ⟨kb, hkb⟩ : ∃ kb, kb = Jf S.l A.r A.s := ⟨_, rfl⟩
 rw [← hkb] at HKN1
 have HKB := Ja hkb
 clear hkb HKV
 go_wp2_with fail
 refine HKN1.out.mono ?_
 rintro e x2 ⟨rfl, hb⟩
 have hkx2 : Below X.heap.size X x2 := hkx1.trans (hb.mono hkx1.size)
 clear hb hkx1 hb0 HKN1
 clear e0 e1 e2 e3 t0 t1 t2 t3 t4 t5 t6 t7 t8 t9
 cases kb with
 | true =>
  have hbk : Below W.heap.size W x2 := hbX.trans (hkx2.mono hbX.size)
  have HCD : Hid (Jm S A = 1) := by show _ = _; unfold Jm; rw [if_neg HSA.out, if_pos HKB.out.symm]
  have HNX : Hid (Jc S A = S) := by show _ = _; unfold Jc; rw [if_neg (by rw [HCD.out]; decide)]
  obtain ⟨z0, z1, z2, z3⟩ := Row.four (HR3.out x2 hbk)
  have k0 := (HR3.out x2 hbk).free 0
  have k1 := (HR3.out x2 hbk).free 1
  have k2 := (HR3.out x2 hbk).free 2
  have k3 := (HR3.out x2 hbk).free 3
  obtain ⟨p0, p1, p2, p3⟩ := Row.four (HP0.out x2 hkx2)
  obtain ⟨YY, hYY⟩ : ∃ YY, YY = ((((x2.setCell ⟨w.heap.size + 1 + 1, 0, none⟩ (.slice b0 S.l.length d0)).setCell ⟨w.heap.size + 1 + 1, 1, none⟩ (.slice b1 S.T.length d1)).setCell ⟨w.heap.size + 1 + 1, 2, none⟩ (.slice b2 S.L.length d2)).setCell ⟨w.heap.size + 1 + 1, 3, none⟩ (.slice b3 S.C.length d3)) := ⟨_, rfl⟩
  have HZY : Hid (Row YY (w.heap.size + 1 + 1) #[.slice b0 S.l.length d0, .slice b1 S.T.length d1, .slice b2 S.L.length d2, .slice b3 S.C.length d3] 29) := by rw [hYY]; exact ((((HR3.out x2 hbk).st0 _).st1 _).st2 _).st3 _
  have HOY : Hid (OwnS YY w.heap.size (Jc S A) (.slice b0 S.l.length d0) (.slice b1 S.T.length d1) (.slice b2 S.L.length d2) (.slice b3 S.C.length d3)) := by
   rw [hYY, show Jc S A = S from HNX.out]
   exact Own4.base ((((Own4.put (HO1.out x2 hkx2) (by omega)).put (by omega)).put (by omega)).put (by omega)) (by omega)
  have HBY : Hid (Below w.heap.size w YY) := by rw [hYY]; exact ((((HF.out x2 hbk).setCell (by simp; omega) _).setCell (by simp; omega) _).setCell (by simp; omega) _).setCell (by simp; omega) _
  have HYY : Hid (((((x2.setCell ⟨w.heap.size + 1 + 1, 0, none⟩ (.slice b0 S.l.length d0)).setCell ⟨w.heap.size + 1 + 1, 1, none⟩ (.slice b1 S.T.length d1)).setCell ⟨w.heap.size + 1 + 1, 2, none⟩ (.slice b2 S.L.length d2)).setCell ⟨w.heap.size + 1 + 1, 3, none⟩ (.slice b3 S.C.length d3)) = YY) := hYY.symm
  clear hYY
  go_wp2
  rw [HYY.out]
  exact bodyPost_ret (JC rfl rfl rfl rfl HZY.out) rfl ⟨_, _, _, _, by rw [HCD.out]; rfl, HOY.out, HBY.out⟩
 | false =>
 have hb0 : Below W.heap.size W x2 := hbX.trans (hkx2.mono hbX.size)
 obtain ⟨e0, e1, e2, e3⟩ := Row.four (HR1.out x2 hb0)
 obtain ⟨t0, t1, t2, t3, t4, t5, t6, t7, t8, t9⟩ := ZH (HR2.out x2 hb0)
 have HKI1 := Ja (HKI.out x2 hb0)
 obtain ⟨ib, hib⟩ : ∃ ib, ib = kin A.l S.l := ⟨_, rfl⟩
 rw [← hib] at HKI1
 have HIB := Ja hib
 clear hib
 go_wp2_with fail
 refine HKI1.out.mono ?_
 rintro e x3 ⟨rfl, hb⟩
 have hkx3 : Below X.heap.size X x3 := hkx2.trans (hb.mono hkx2.size)
 clear hb hkx2 hb0 HKI1
 clear e0 e1 e2 e3 t0 t1 t2 t3 t4 t5 t6 t7 t8 t9
 cases ib with
 | false =>
  have hbk : Below W.heap.size W x3 := hbX.trans (hkx3.mono hbX.size)
  have HCD : Hid (Jm S A = 2) := by show _ = _; unfold Jm; rw [if_neg HSA.out, if_neg (by rw [← HKB.out]; simp), if_pos HIB.out.symm]
  have HNX : Hid (Jc S A = S) := by show _ = _; unfold Jc; rw [if_neg (by rw [HCD.out]; decide)]
  obtain ⟨z0, z1, z2, z3⟩ := Row.four (HR3.out x3 hbk)
  have k0 := (HR3.out x3 hbk).free 0
  have k1 := (HR3.out x3 hbk).free 1
  have k2 := (HR3.out x3 hbk).free 2
  have k3 := (HR3.out x3 hbk).free 3
  obtain ⟨p0, p1, p2, p3⟩ := Row.four (HP0.out x3 hkx3)
  obtain ⟨YY, hYY⟩ : ∃ YY, YY = ((((x3.setCell ⟨w.heap.size + 1 + 1, 0, none⟩ (.slice b0 S.l.length d0)).setCell ⟨w.heap.size + 1 + 1, 1, none⟩ (.slice b1 S.T.length d1)).setCell ⟨w.heap.size + 1 + 1, 2, none⟩ (.slice b2 S.L.length d2)).setCell ⟨w.heap.size + 1 + 1, 3, none⟩ (.slice b3 S.C.length d3)) := ⟨_, rfl⟩
  have HZY : Hid (Row YY (w.heap.size + 1 + 1) #[.slice b0 S.l.length d0, .slice b1 S.T.length d1, .slice b2 S.L.length d2, .slice b3 S.C.length d3] 29) := by rw [hYY]; exact ((((HR3.out x3 hbk).st0 _).st1 _).st2 _).st3 _
  have HOY : Hid (OwnS YY w.heap.size (Jc S A) (.slice b0 S.l.length d0) (.slice b1 S.T.length d1) (.slice b2 S.L.length d2) (.slice b3 S.C.length d3)) := by
   rw [hYY, show Jc S A = S from HNX.out]
   exact Own4.base ((((Own4.put (HO1.out x3 hkx3) (by omega)).put (by omega)).put (by omega)).put (by omega)) (by omega)
  have HBY : Hid (Below w.heap.size w YY) := by rw [hYY]; exact ((((HF.out x3 hbk).setCell (by simp; omega) _).setCell (by simp; omega) _).setCell (by simp; omega) _).setCell (by simp; omega) _
  have HYY : Hid (((((x3.setCell ⟨w.heap.size + 1 + 1, 0, none⟩ (.slice b0 S.l.length d0)).setCell ⟨w.heap.size + 1 + 1, 1, none⟩ (.slice b1 S.T.length d1)).setCell ⟨w.heap.size + 1 + 1, 2, none⟩ (.slice b2 S.L.length d2)).setCell ⟨w.heap.size + 1 + 1, 3, none⟩ (.slice b3 S.C.length d3)) = YY) := hYY.symm
  clear hYY
  go_wp2
  rw [HYY.out]
  exact bodyPost_ret (JC rfl rfl rfl rfl HZY.out) rfl ⟨_, _, _, _, by rw [HCD.out]; rfl, HOY.out, HBY.out⟩
 | true =>
 have hb0 : Below W.heap.size W x3 := hbX.trans (hkx3.mono hbX.size)
 obtain ⟨e0, e1, e2, e3⟩ := Row.four (HR1.out x3 hb0)
 obtain ⟨t0, t1, t2, t3, t4, t5, t6, t7, t8, t9⟩ := ZH (HR2.out x3 hb0)
 go_wp2_with fail
 refine (HRF.out _ hb0).mono ?_
 rintro e x4 ⟨⟨q, rfl, hq⟩, hb⟩
 have hkx4 : Below X.heap.size X x4 := hkx3.trans (hb.mono hkx3.size)
 clear hb hkx3 hb0
 clear e0 e1 e2 e3 t0 t1 t2 t3 t4 t5 t6 t7 t8 t9
 cases q with
 | false =>
  have hnr : ¬ Jt S A := fun h => by have := hq.2 h; cases this
  clear hq
  have hbk : Below W.heap.size W x4 := hbX.trans (hkx4.mono hbX.size)
  have HCD : Hid (Jm S A = 3) := by show _ = _; unfold Jm; rw [if_neg HSA.out, if_neg (by rw [← HKB.out]; simp), if_neg (by rw [← HIB.out]; simp), if_pos hnr]
  have HNX : Hid (Jc S A = S) := by show _ = _; unfold Jc; rw [if_neg (by rw [HCD.out]; decide)]
  obtain ⟨z0, z1, z2, z3⟩ := Row.four (HR3.out x4 hbk)
  have k0 := (HR3.out x4 hbk).free 0
  have k1 := (HR3.out x4 hbk).free 1
  have k2 := (HR3.out x4 hbk).free 2
  have k3 := (HR3.out x4 hbk).free 3
  obtain ⟨p0, p1, p2, p3⟩ := Row.four (HP0.out x4 hkx4)
  obtain ⟨YY, hYY⟩ : ∃ YY, YY = ((((x4.setCell ⟨w.heap.size + 1 + 1, 0, none⟩ (.slice b0 S.l.length d0)).setCell ⟨w.heap.size + 1 + 1, 1, none⟩ (.slice b1 S.T.length d1)).setCell ⟨w.heap.size + 1 + 1, 2, none⟩ (.slice b2 S.L.length d2)).setCell ⟨w.heap.size + 1 + 1, 3, none⟩ (.slice b3 S.C.length d3)) := ⟨_, rfl⟩
  have HZY : Hid (Row YY (w.heap.size + 1 + 1) #[.slice b0 S.l.length d0, .slice b1 S.T.length d1, .slice b2 S.L.length d2, .slice b3 S.C.length d3] 29) := by rw [hYY]; exact ((((HR3.out x4 hbk).st0 _).st1 _).st2 _).st3 _
  have HOY : Hid (OwnS YY w.heap.size (Jc S A) (.slice b0 S.l.length d0) (.slice b1 S.T.length d1) (.slice b2 S.L.length d2) (.slice b3 S.C.length d3)) := by
   rw [hYY, show Jc S A = S from HNX.out]
   exact Own4.base ((((Own4.put (HO1.out x4 hkx4) (by omega)).put (by omega)).put (by omega)).put (by omega)) (by omega)
  have HBY : Hid (Below w.heap.size w YY) := by rw [hYY]; exact ((((HF.out x4 hbk).setCell (by simp; omega) _).setCell (by simp; omega) _).setCell (by simp; omega) _).setCell (by simp; omega) _
  have HYY : Hid (((((x4.setCell ⟨w.heap.size + 1 + 1, 0, none⟩ (.slice b0 S.l.length d0)).setCell ⟨w.heap.size + 1 + 1, 1, none⟩ (.slice b1 S.T.length d1)).setCell ⟨w.heap.size + 1 + 1, 2, none⟩ (.slice b2 S.L.length d2)).setCell ⟨w.heap.size + 1 + 1, 3, none⟩ (.slice b3 S.C.length d3)) = YY) := hYY.symm
  clear hYY
  go_wp2
  rw [HYY.out]
  exact bodyPost_ret (JC rfl rfl rfl rfl HZY.out) rfl ⟨_, _, _, _, by rw [HCD.out]; rfl, HOY.out, HBY.out⟩
 | true =>
 have hhr : Jt S A := hq.1 rfl
 clear hq
 have hb0 : Below W.heap.size W x4 := hbX.trans (hkx4.mono hbX.size)
 obtain ⟨e0, e1, e2, e3⟩ := Row.four (HR1.out x4 hb0)
 obtain ⟨t0, t1, t2, t3, t4, t5, t6, t7, t8, t9⟩ := ZH (HR2.out x4 hb0)
 have hx4s := hkx4.size
 have HFB : Hid (∀ wx, FrB x4 wx W.heap.size w1.heap.size → Below W.heap.size W wx) := fun wx hf => hb0.trans ⟨hf.1, hf.2.1, hf.2.2.1, hf.2.2.2.1, fun k hk => hf.2.2.2.2 k hk (by omega)⟩
 have HDO := Ja (YE S A u w1.heap.size _ _ _ _ W.heap.size x4 HSO.out hA hhr (HP0.out x4 hkx4) (by omega) (by omega) (HO1.out x4 hkx4) HOFF.out (fun wx hf => HU.out wx (HFB.out wx hf)))
 have HHR := Ja hhr
 have HAA := Ja hA
 clear hhr hA
 go_wp2_with fail
 refine HDO.out.mono ?_
 rintro e x5 ⟨rfl, y0, y1, y2, y3, hRP, hOP, hFP⟩
 have hb5 := HFB.out x5 hFP
 obtain ⟨f0, h0, f1, h1, f2, h2, f3, h3, rfl, rfl, rfl, rfl⟩ := hOP.at.shape
 have HRP := Ja hRP
 have HOP := Ja hOP
 clear hRP hOP hFP HDO HFB hb0 hkx4 hx4s HP0
 clear e0 e1 e2 e3 t0 t1 t2 t3 t4 t5 t6 t7 t8 t9
 obtain ⟨p0, p1, p2, p3⟩ := Row.four HRP.out
 have HRB : Hid (Jm S A = if 120 < (doS S A).T.length ∨ 120 < (doS S A).L.length ∨ 120 < (doS S A).C.length then 4 else 0) := by
  show _ = _; unfold Jm; rw [if_neg HSA.out, if_neg (by rw [← HKB.out]; simp), if_neg (by rw [← HIB.out]; simp), if_neg (fun h => h HHR.out)]
 obtain ⟨nt, hnt⟩ : ∃ n, n = (doS S A).T.length := ⟨_, rfl⟩
 obtain ⟨nv, hnv⟩ : ∃ n, n = (doS S A).L.length := ⟨_, rfl⟩
 obtain ⟨nc, hnc⟩ : ∃ n, n = (doS S A).C.length := ⟨_, rfl⟩
 obtain ⟨n0, hn0⟩ : ∃ n, n = (doS S A).l.length := ⟨_, rfl⟩
 rw [← hnt, ← hnv, ← hnc] at HRB
 rw [← hnt, ← hnv, ← hnc, ← hn0] at HRP HOP
 rw [← hn0] at p0
 rw [← hnt] at p1
 rw [← hnv] at p2
 rw [← hnc] at p3
 clear hnt hnv hnc hn0
 by_cases g1 : 120 < nt
 ·have g1i : (120 : Int) < nt := by omega
  have HCD : Hid (Jm S A = 4) := by show _ = _; rw [HRB.out, if_pos (.inl g1)]
  have HNX : Hid (Jc S A = S) := by show _ = _; unfold Jc; rw [if_neg (by rw [HCD.out]; decide)]
  obtain ⟨e0, e1, e2, e3⟩ := Row.four (HR1.out x5 hb5)
  go_wp2_with fail
  refine (HC.out x5 hb5).mono ?_
  rintro e x6 ⟨v0, v1, v2, v3, rfl, hO6, hb6⟩
  obtain ⟨g0, j0, g1, j1, g2, j2, g3, j3, rfl, rfl, rfl, rfl⟩ := hO6.at.shape
  have hb7 : Below W.heap.size W x6 := hb5.trans (hb6.mono hb5.size)
  clear e0 e1 e2 e3 p0 p1 p2 p3
  obtain ⟨z0, z1, z2, z3⟩ := Row.four (HR3.out x6 hb7)
  have k0 := (HR3.out x6 hb7).free 0
  have k1 := (HR3.out x6 hb7).free 1
  have k2 := (HR3.out x6 hb7).free 2
  have k3 := (HR3.out x6 hb7).free 3
  obtain ⟨YY, hYY⟩ : ∃ YY, YY = ((((x6.setCell ⟨w.heap.size + 1 + 1, 0, none⟩ (.slice g0 S.l.length j0)).setCell ⟨w.heap.size + 1 + 1, 1, none⟩ (.slice g1 S.T.length j1)).setCell ⟨w.heap.size + 1 + 1, 2, none⟩ (.slice g2 S.L.length j2)).setCell ⟨w.heap.size + 1 + 1, 3, none⟩ (.slice g3 S.C.length j3)) := ⟨_, rfl⟩
  have HZY : Hid (Row YY (w.heap.size + 1 + 1) #[.slice g0 S.l.length j0, .slice g1 S.T.length j1, .slice g2 S.L.length j2, .slice g3 S.C.length j3] 29) := by rw [hYY]; exact ((((HR3.out x6 hb7).st0 _).st1 _).st2 _).st3 _
  have HOY : Hid (OwnS YY w.heap.size (Jc S A) (.slice g0 S.l.length j0) (.slice g1 S.T.length j1) (.slice g2 S.L.length j2) (.slice g3 S.C.length j3)) := by
   rw [hYY, show Jc S A = S from HNX.out]
   exact Own4.base ((((Own4.put (Own4.base hO6 hb5.size) (by omega)).put (by omega)).put (by omega)).put (by omega)) (by omega)
  have HBY : Hid (Below w.heap.size w YY) := by rw [hYY]; exact ((((HF.out x6 hb7).setCell (by simp; omega) _).setCell (by simp; omega) _).setCell (by simp; omega) _).setCell (by simp; omega) _
  have HYY : Hid (((((x6.setCell ⟨w.heap.size + 1 + 1, 0, none⟩ (.slice g0 S.l.length j0)).setCell ⟨w.heap.size + 1 + 1, 1, none⟩ (.slice g1 S.T.length j1)).setCell ⟨w.heap.size + 1 + 1, 2, none⟩ (.slice g2 S.L.length j2)).setCell ⟨w.heap.size + 1 + 1, 3, none⟩ (.slice g3 S.C.length j3)) = YY) := hYY.symm
  clear hYY
  go_wp2
  rw [HYY.out]
  exact bodyPost_ret (JC rfl rfl rfl rfl HZY.out) rfl ⟨_, _, _, _, by rw [HCD.out]; rfl, HOY.out, HBY.out⟩
 have g1i : ¬ ((120 : Int) < nt) := by omega
 by_cases g2 : 120 < nv
 ·have g2i : (120 : Int) < nv := by omega
  have HCD : Hid (Jm S A = 4) := by show _ = _; rw [HRB.out, if_pos (.inr (.inl g2))]
  have HNX : Hid (Jc S A = S) := by show _ = _; unfold Jc; rw [if_neg (by rw [HCD.out]; decide)]
  obtain ⟨e0, e1, e2, e3⟩ := Row.four (HR1.out x5 hb5)
  go_wp2_with fail
  refine (HC.out x5 hb5).mono ?_
  rintro e x6 ⟨v0, v1, v2, v3, rfl, hO6, hb6⟩
  obtain ⟨g0, j0, g1, j1, g2, j2, g3, j3, rfl, rfl, rfl, rfl⟩ := hO6.at.shape
  have hb7 : Below W.heap.size W x6 := hb5.trans (hb6.mono hb5.size)
  clear e0 e1 e2 e3 p0 p1 p2 p3
  obtain ⟨z0, z1, z2, z3⟩ := Row.four (HR3.out x6 hb7)
  have k0 := (HR3.out x6 hb7).free 0
  have k1 := (HR3.out x6 hb7).free 1
  have k2 := (HR3.out x6 hb7).free 2
  have k3 := (HR3.out x6 hb7).free 3
  obtain ⟨YY, hYY⟩ : ∃ YY, YY = ((((x6.setCell ⟨w.heap.size + 1 + 1, 0, none⟩ (.slice g0 S.l.length j0)).setCell ⟨w.heap.size + 1 + 1, 1, none⟩ (.slice g1 S.T.length j1)).setCell ⟨w.heap.size + 1 + 1, 2, none⟩ (.slice g2 S.L.length j2)).setCell ⟨w.heap.size + 1 + 1, 3, none⟩ (.slice g3 S.C.length j3)) := ⟨_, rfl⟩
  have HZY : Hid (Row YY (w.heap.size + 1 + 1) #[.slice g0 S.l.length j0, .slice g1 S.T.length j1, .slice g2 S.L.length j2, .slice g3 S.C.length j3] 29) := by rw [hYY]; exact ((((HR3.out x6 hb7).st0 _).st1 _).st2 _).st3 _
  have HOY : Hid (OwnS YY w.heap.size (Jc S A) (.slice g0 S.l.length j0) (.slice g1 S.T.length j1) (.slice g2 S.L.length j2) (.slice g3 S.C.length j3)) := by
   rw [hYY, show Jc S A = S from HNX.out]
   exact Own4.base ((((Own4.put (Own4.base hO6 hb5.size) (by omega)).put (by omega)).put (by omega)).put (by omega)) (by omega)
  have HBY : Hid (Below w.heap.size w YY) := by rw [hYY]; exact ((((HF.out x6 hb7).setCell (by simp; omega) _).setCell (by simp; omega) _).setCell (by simp; omega) _).setCell (by simp; omega) _
  have HYY : Hid (((((x6.setCell ⟨w.heap.size + 1 + 1, 0, none⟩ (.slice g0 S.l.length j0)).setCell ⟨w.heap.size + 1 + 1, 1, none⟩ (.slice g1 S.T.length j1)).setCell ⟨w.heap.size + 1 + 1, 2, none⟩ (.slice g2 S.L.length j2)).setCell ⟨w.heap.size + 1 + 1, 3, none⟩ (.slice g3 S.C.length j3)) = YY) := hYY.symm
  clear hYY
  go_wp2
  rw [HYY.out]
  exact bodyPost_ret (JC rfl rfl rfl rfl HZY.out) rfl ⟨_, _, _, _, by rw [HCD.out]; rfl, HOY.out, HBY.out⟩
 have g2i : ¬ ((120 : Int) < nv) := by omega
 by_cases g3 : 120 < nc
 ·have g3i : (120 : Int) < nc := by omega
  have HCD : Hid (Jm S A = 4) := by show _ = _; rw [HRB.out, if_pos (.inr (.inr g3))]
  have HNX : Hid (Jc S A = S) := by show _ = _; unfold Jc; rw [if_neg (by rw [HCD.out]; decide)]
  obtain ⟨e0, e1, e2, e3⟩ := Row.four (HR1.out x5 hb5)
  go_wp2_with fail
  refine (HC.out x5 hb5).mono ?_
  rintro e x6 ⟨v0, v1, v2, v3, rfl, hO6, hb6⟩
  obtain ⟨g0, j0, g1, j1, g2, j2, g3, j3, rfl, rfl, rfl, rfl⟩ := hO6.at.shape
  have hb7 : Below W.heap.size W x6 := hb5.trans (hb6.mono hb5.size)
  clear e0 e1 e2 e3 p0 p1 p2 p3
  obtain ⟨z0, z1, z2, z3⟩ := Row.four (HR3.out x6 hb7)
  have k0 := (HR3.out x6 hb7).free 0
  have k1 := (HR3.out x6 hb7).free 1
  have k2 := (HR3.out x6 hb7).free 2
  have k3 := (HR3.out x6 hb7).free 3
  obtain ⟨YY, hYY⟩ : ∃ YY, YY = ((((x6.setCell ⟨w.heap.size + 1 + 1, 0, none⟩ (.slice g0 S.l.length j0)).setCell ⟨w.heap.size + 1 + 1, 1, none⟩ (.slice g1 S.T.length j1)).setCell ⟨w.heap.size + 1 + 1, 2, none⟩ (.slice g2 S.L.length j2)).setCell ⟨w.heap.size + 1 + 1, 3, none⟩ (.slice g3 S.C.length j3)) := ⟨_, rfl⟩
  have HZY : Hid (Row YY (w.heap.size + 1 + 1) #[.slice g0 S.l.length j0, .slice g1 S.T.length j1, .slice g2 S.L.length j2, .slice g3 S.C.length j3] 29) := by rw [hYY]; exact ((((HR3.out x6 hb7).st0 _).st1 _).st2 _).st3 _
  have HOY : Hid (OwnS YY w.heap.size (Jc S A) (.slice g0 S.l.length j0) (.slice g1 S.T.length j1) (.slice g2 S.L.length j2) (.slice g3 S.C.length j3)) := by
   rw [hYY, show Jc S A = S from HNX.out]
   exact Own4.base ((((Own4.put (Own4.base hO6 hb5.size) (by omega)).put (by omega)).put (by omega)).put (by omega)) (by omega)
  have HBY : Hid (Below w.heap.size w YY) := by rw [hYY]; exact ((((HF.out x6 hb7).setCell (by simp; omega) _).setCell (by simp; omega) _).setCell (by simp; omega) _).setCell (by simp; omega) _
  have HYY : Hid (((((x6.setCell ⟨w.heap.size + 1 + 1, 0, none⟩ (.slice g0 S.l.length j0)).setCell ⟨w.heap.size + 1 + 1, 1, none⟩ (.slice g1 S.T.length j1)).setCell ⟨w.heap.size + 1 + 1, 2, none⟩ (.slice g2 S.L.length j2)).setCell ⟨w.heap.size + 1 + 1, 3, none⟩ (.slice g3 S.C.length j3)) = YY) := hYY.symm
  clear hYY
  go_wp2
  rw [HYY.out]
  exact bodyPost_ret (JC rfl rfl rfl rfl HZY.out) rfl ⟨_, _, _, _, by rw [HCD.out]; rfl, HOY.out, HBY.out⟩
 have g3i : ¬ ((120 : Int) < nc) := by omega
 have HCD : Hid (Jm S A = 0) := by show _ = _; rw [HRB.out, if_neg (fun h => h.elim g1 (fun h => h.elim g2 g3))]
 have HNX : Hid (Jc S A = doS S A) := by show _ = _; unfold Jc; rw [if_pos HCD.out]
 obtain ⟨z0, z1, z2, z3⟩ := Row.four (HR3.out x5 hb5)
 have k0 := (HR3.out x5 hb5).free 0
 have k1 := (HR3.out x5 hb5).free 1
 have k2 := (HR3.out x5 hb5).free 2
 have k3 := (HR3.out x5 hb5).free 3
 obtain ⟨YY, hYY⟩ : ∃ YY, YY = ((((x5.setCell ⟨w.heap.size + 1 + 1, 0, none⟩ (.slice f0 n0 h0)).setCell ⟨w.heap.size + 1 + 1, 1, none⟩ (.slice f1 nt h1)).setCell ⟨w.heap.size + 1 + 1, 2, none⟩ (.slice f2 nv h2)).setCell ⟨w.heap.size + 1 + 1, 3, none⟩ (.slice f3 nc h3)) := ⟨_, rfl⟩
 have HZY : Hid (Row YY (w.heap.size + 1 + 1) #[.slice f0 n0 h0, .slice f1 nt h1, .slice f2 nv h2, .slice f3 nc h3] 29) := by rw [hYY]; exact ((((HR3.out x5 hb5).st0 _).st1 _).st2 _).st3 _
 have HOY : Hid (OwnS YY w.heap.size (Jc S A) (.slice f0 n0 h0) (.slice f1 nt h1) (.slice f2 nv h2) (.slice f3 nc h3)) := by
  rw [hYY, show Jc S A = doS S A from HNX.out]
  exact Own4.base ((((Own4.put HOP.out (by omega)).put (by omega)).put (by omega)).put (by omega)) (by omega)
 have HBY : Hid (Below w.heap.size w YY) := by rw [hYY]; exact ((((HF.out x5 hb5).setCell (by simp; omega) _).setCell (by simp; omega) _).setCell (by simp; omega) _).setCell (by simp; omega) _
 have HYY : Hid (((((x5.setCell ⟨w.heap.size + 1 + 1, 0, none⟩ (.slice f0 n0 h0)).setCell ⟨w.heap.size + 1 + 1, 1, none⟩ (.slice f1 nt h1)).setCell ⟨w.heap.size + 1 + 1, 2, none⟩ (.slice f2 nv h2)).setCell ⟨w.heap.size + 1 + 1, 3, none⟩ (.slice f3 nc h3)) = YY) := hYY.symm
 clear hYY
 go_wp2
 rw [HYY.out]
 exact bodyPost_ret (JC rfl rfl rfl rfl HZY.out) rfl ⟨_, _, _, _, by rw [HCD.out]; rfl, HOY.out, HBY.out⟩
end Go.Proofs.YtepfinenocpneaaGreat
