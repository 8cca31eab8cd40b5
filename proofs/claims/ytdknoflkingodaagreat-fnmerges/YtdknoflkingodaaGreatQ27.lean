/- An act is done: kind 6, as the specification does it. -/
import Derived.Test.YtdknoflkingodaaGreatQ24
set_option maxHeartbeats 16000000
namespace Go.Proofs.YtdknoflkingodaaGreat
open Value (int)
open IntKind (i64)
set_option maxRecDepth 100000
set_option linter.unusedVariables false
open Go.RowKit
abbrev JiP : Oper := oq 4 (.move (.tmp 0)) 169 "l07_done.go:87" #[] none
abbrev JjK : Oper := oq 5 (.nilCheck (.tmp 4)) 0 "l07_done.go:87" #[eD 0] none
abbrev Jjo : Oper := oq 6 (.fieldAddr 29 (.tmp 5) 0) 0 "l07_done.go:87" #[eD 1] none
abbrev Jib : Oper := oq 7 (.load 24 (.tmp 6)) 24 "l07_done.go:87" #[eD 2] none
abbrev Jjn : Oper := oq 8 (.fieldAddr 62 (.tmp 3) 0) 0 "l07_done.go:87" #[] none
abbrev Jkb : Oper := oq 9 (.fieldAddr 33 (.tmp 8) 0) 0 "l07_done.go:87" #[eD 4] none
abbrev Jh7 : Oper := oq 10 (.load 3 (.tmp 9)) 3 "l07_done.go:87" #[eD 5] none
abbrev JiI : Oper := oq 11 (.fieldAddr 62 (.tmp 3) 0) 0 "l07_done.go:87" #[] none
abbrev Jkn : Oper := oq 12 (.fieldAddr 33 (.tmp 11) 1) 0 "l07_done.go:87" #[eD 7] none
abbrev JhY : Oper := oq 13 (.load 3 (.tmp 12)) 3 "l07_done.go:87" #[eD 8] none
abbrev JgG : Oper := oq 14 (.indexAddr 24 (.tmp 7) (.tmp 10)) 0 "l07_done.go:87" #[eD 3, eD 6, eP 0, eP 1, eP 2, eP 3, eP 4, eP 5, eP 6, eP 7, eP 8, eP 9] none
abbrev Jhr : Oper := oz (.store 3 (.tmp 14) (.tmp 13)) 0 "l07_done.go:87" #[eD 10, eD 9, eP 0, eP 1, eP 2, eP 3, eP 4, eP 5, eP 6, eP 7, eP 8, eP 9] none
abbrev JhH : Oper := oq 94 (.move (.tmp 0)) 169 "l07_done.go:101" #[] none
abbrev Jhz : Oper := oq 95 (.move (.tmp 0)) 169 "l07_done.go:101" #[] none
abbrev Jhf : Oper := oq 96 (.nilCheck (.tmp 95)) 0 "l07_done.go:101" #[eD 1] none
abbrev Jgp : Oper := oq 97 (.fieldAddr 29 (.tmp 96) 3) 0 "l07_done.go:101" #[eD 2] none
abbrev Jhc : Oper := oq 99 (.fieldAddr 62 (.tmp 3) 4) 0 "l07_done.go:101" #[] none
abbrev JfX : Oper := oq 100 (.load 9 (.tmp 99)) 9 "l07_done.go:101" #[eD 5] none
abbrev JfE : Oper := oq 101 (.fieldAddr 62 (.tmp 3) 0) 0 "l07_done.go:101" #[] none
abbrev Jgz : Oper := oq 102 (.load 33 (.tmp 101)) 33 "l07_done.go:101" #[eD 7] none
abbrev Jg8 : Oper := oq 103 (.fieldAddr 62 (.tmp 3) 1) 0 "l07_done.go:101" #[] none
abbrev JhM : Oper := oq 104 (.load 3 (.tmp 103)) 3 "l07_done.go:101" #[eD 9] none
abbrev JfS : Oper := oq 105 (.fieldAddr 62 (.tmp 3) 7) 0 "l07_done.go:101" #[] none
abbrev JgW : Oper := oq 106 (.load 33 (.tmp 105)) 33 "l07_done.go:101" #[eD 11] none
abbrev JhU : Oper := oq 107 (.fieldAddr 62 (.tmp 3) 6) 0 "l07_done.go:101" #[] none
abbrev Jf0 : Oper := oq 108 (.load 3 (.tmp 107)) 3 "l07_done.go:101" #[eD 13] none
abbrev JgP : Oper := oq 109 (.build 35 #[(0, .tmp 100), (1, .tmp 102), (2, .tmp 104), (3, .tmp 106), (4, .tmp 108)]) 35 "l07_done.go:101" #[eD 6, eD 8, eD 10, eD 12, eD 14] none
abbrev JhC : Oper := oq 98 (.load 27 (.tmp 97)) 27 "l07_done.go:101" #[eD 3] none
abbrev Jhs : Oper := oq 110 (.call ⟨.value (.func 156), #[.tmp 98, .tmp 109], #[27, 35]⟩) 27 "l07_done.go:101" #[eD 4, eD 15] none
abbrev JfN : Oper := oq 111 (.nilCheck (.tmp 94)) 0 "l07_done.go:101" #[eD 0, eP 0, eP 1, eP 2, eP 3, eP 4, eP 5, eP 6, eP 7, eP 8, eP 9, eP 10, eP 11, eP 12, eP 13, eP 14, eP 15, eP 16] none
abbrev JhR : Oper := oq 112 (.fieldAddr 29 (.tmp 111) 3) 0 "l07_done.go:101" #[eD 17, eP 0, eP 1, eP 2, eP 3, eP 4, eP 5, eP 6, eP 7, eP 8, eP 9, eP 10, eP 11, eP 12, eP 13, eP 14, eP 15, eP 16] none
abbrev Jg3 : Oper := oz (.store 27 (.tmp 112) (.tmp 110)) 0 "l07_done.go:101" #[eD 18, eD 16, eC 16, eP 0, eP 1, eP 2, eP 3, eP 4, eP 5, eP 6, eP 7, eP 8, eP 9, eP 10, eP 11, eP 12, eP 13, eP 14, eP 15, eP 16] none
theorem Jdg (S : Sta) (A : Ac) (u : Value) (p : Nat) (u0 u1 u2 u3 : Value) (B : Nat) (w : World) (hS : SOk S) (hA : AOk A) (hR : JU S A) (hk : A.k = 6) (hp : Row w p #[u0, u1, u2, u3] 29) (hpl : p < w.heap.size) (hB : B ≤ w.heap.size) (hO : OwnS w B S u0 u1 u2 u3) (hoff : Zp p u0 u1 u2 u3) (hU : ∀ wx, FrB w wx B p → IntsAt wx u A.l) :
  Calls Tryz.prog 142 #[.pointer (some ⟨p, 0, none⟩), .agg #[int i64 A.r, int i64 A.s, int i64 A.t, u, int i64 A.k, .string A.o, .string A.y, int i64 A.v, int i64 A.x, int i64 A.z]] w fun e w' => e = .returned (.tuple #[]) ∧ ∃ v0 v1 v2 v3, Row w' p #[v0, v1, v2, v3] 29 ∧ OwnS w' B (doS S A) v0 v1 v2 v3 ∧ FrB w w' B p := by
 obtain ⟨a0, c0, a1, c1, a2, c2, a3, c3, rfl, rfl, rfl, rfl⟩ := hO.at.shape
 have hl3 : S.l.length = 3 := hS.1.1
 obtain ⟨g0, rfl⟩ : ∃ g, a0 = some ⟨g, 0, none⟩ := by
  rcases hO.1.1.2 with ⟨h0, h1⟩ | ⟨g, cap, cur, e, -⟩
  ·rw [hl3] at h1; cases h1
  ·injection e with e1; exact ⟨g, e1⟩
 obtain ⟨rn, hrn⟩ : ∃ rn : Nat, A.r = rn := Int.eq_ofNat_of_zero_le hA.1.1
 have hr3 : rn < 3 := by have := hA.1.2.1; omega
 have hO0 : w.ownsRow B 3 1 (.slice (some ⟨g0, 0, none⟩) S.l.length c0) S.l.length (Jj S.l) := hO.1.1
 have hg0 := hO0.lt g0 rfl
 have hg0p : g0 ≠ p := hoff.1 g0 rfl
 have HOFF := Ja hoff
 obtain ⟨W, hW⟩ : ∃ W, W = w.alloc (.cells #[int i64 A.r, int i64 A.s, int i64 A.t, u, int i64 A.k, .string A.o, .string A.y, int i64 A.v, int i64 A.x, int i64 A.z] 62) := ⟨_, rfl⟩
 have hBW : Below w.heap.size w W := by rw [hW]; exact (Below.refl _ _).alloc (Nat.le_refl _) _
 have hWs : W.heap.size = w.heap.size + 1 := by rw [hW]; simp
 have hRA : Row W w.heap.size #[int i64 A.r, int i64 A.s, int i64 A.t, u, int i64 A.k, .string A.o, .string A.y, int i64 A.v, int i64 A.x, int i64 A.z] 62 := by rw [hW]; exact Jb w _ _ rfl
 have hRP : Row W p #[.slice (some ⟨g0, 0, none⟩) S.l.length c0, .slice a1 S.T.length c1, .slice a2 S.L.length c2, .slice a3 S.C.length c3] 29 := hp.next hBW
 have hOW : OwnS W B S (.slice (some ⟨g0, 0, none⟩) S.l.length c0) (.slice a1 S.T.length c1) (.slice a2 S.L.length c2) (.slice a3 S.C.length c3) := Own4.next hO hBW
 have HW : Hid (w.alloc (.cells #[int i64 A.r, int i64 A.s, int i64 A.t, u, int i64 A.k, .string A.o, .string A.y, int i64 A.v, int i64 A.x, int i64 A.z] 62) = W) := hW.symm
 have HU := Ja hU
 have HLT3 : Hid (∀ j, (Value.slice a3 S.C.length c3).ownBlock = some j → j < w.heap.size) := fun j hj => (World.ownsRow.lt hO.1.2.2.2 j hj).2
 have HS := Ja hS
 have HA := Ja hA
 have HR := Ja hR
 have HK : Hid (A.k = 6) := hk
 have HL3 := Ja hl3
 have HRN := Ja hrn
 have hi1 : (rn : Int) < S.l.length := by omega
 have hi0 : (0 : Int) ≤ rn := by omega
 have HSS : Hid (∀ wx, Below W.heap.size W wx → wx.cell? ⟨p, 0, none⟩ = some (.slice (some ⟨g0, 0, none⟩) S.l.length c0) ∧ wx.cell? ⟨w.heap.size, 0, none⟩ = some (int i64 (rn : Int)) ∧ wx.cell? ⟨w.heap.size, 1, none⟩ = some (int i64 A.s)) := fun wx h => ⟨(hRP.next h).cell 0 rfl, by have := (hRA.next h).cell 0 rfl; rw [← HRN.out]; exact this, (hRA.next h).cell 1 rfl⟩
 have hBc : Below W.heap.size W W.drew := (Below.refl _ _).drew
 -- behind the store
 obtain ⟨Y, hY⟩ : ∃ Y, Y = W.drew.setCell ⟨g0, rn, none⟩ (int i64 A.s) := ⟨_, rfl⟩
 have hOD : W.drew.ownsRow B 3 1 (.slice (some ⟨g0, 0, none⟩) S.l.length c0) S.l.length (Jj S.l) := Jf hOW.1.1 hBc
 have y0 : W.drew.cell? ⟨g0, rn, none⟩ = some (int i64 (S.l.getD rn 0)) := by
  rw [hOD.cellAt rn (by omega)]; simp [Jj, List.getD, show rn < S.l.length by omega]
 have y1 := hOD.frozenAt rn
 have hYb : ∀ j, j ≠ g0 → Y.heap[j]? = W.drew.heap[j]? := fun j hj => by rw [hY]; exact Below.heap_setCell W.drew _ _ j (fun e => hj e)
 have hYs : Y.heap.size = W.heap.size := by rw [hY]; simp [World.setCell]
 have HYP : Hid (Row Y p #[.slice (some ⟨g0, 0, none⟩) S.l.length c0, .slice a1 S.T.length c1, .slice a2 S.L.length c2, .slice a3 S.C.length c3] 29) := by rw [hY]; exact (hRP.next hBc).other (by simp; omega) _
 have HYA : Hid (Row Y w.heap.size #[int i64 A.r, int i64 A.s, int i64 A.t, u, int i64 A.k, .string A.o, .string A.y, int i64 A.v, int i64 A.x, int i64 A.z] 62) := by rw [hY]; exact (hRA.next hBc).other (by simp; omega) _
 have hset : (Jj S.l).set rn (int i64 A.s) = Jj (S.l.set rn A.s) := by simp [Jj, List.map_set]
 have HYO : Hid (OwnS Y B ⟨S.l.set rn A.s, S.T, S.L, S.C⟩ (.slice (some ⟨g0, 0, none⟩) S.l.length c0) (.slice a1 S.T.length c1) (.slice a2 S.L.length c2) (.slice a3 S.C.length c3)) := by
  have hD : OwnS W.drew B S (.slice (some ⟨g0, 0, none⟩) S.l.length c0) (.slice a1 S.T.length c1) (.slice a2 S.L.length c2) (.slice a3 S.C.length c3) := Own4.next hOW hBc
  have ho1 : ownO Y B (some ⟨.slice (some ⟨g0, 0, none⟩) S.l.length c0, 3, 1, (S.l.set rn A.s).length, Jj (S.l.set rn A.s)⟩) := by
   show World.ownsRow _ _ _ _ _ _ _
   rw [← hset, List.length_set, hY]
   exact (hOD.stored rn (int i64 A.s)).1
  refine Own4.swap1 (p := p) hD HOFF.out (fun k hk hp hr => hYb k (fun e => hr (by rw [e]; rfl))) ho1 (fun k hk => .inl hk)
 have HYF : Hid (FrB w Y B p) := ⟨by rw [hY]; exact hBW.os, by rw [hY]; exact hBW.tape, by rw [hY]; exact hBW.output, by rw [hYs, hWs]; omega, fun j hj _ => by rw [hYb j (by omega)]; exact hBW.block j (by omega)⟩
 have HDS : Hid (doS S A = ⟨S.l.set rn A.s, S.T, S.L, UA (Zs A) S.C⟩) := by show _ = _; have e : A.r.toNat = rn := (by omega); unfold doS; rw [e, hk]; rfl
 have HYZ : Hid (Y.heap.size = w.heap.size + 1) := by show _ = _; omega
 have HY : Hid (W.drew.setCell ⟨g0, rn, none⟩ (int i64 A.s) = Y) := hY.symm
 rw [hrn]
 rw [hrn] at HW
 clear hS hA hR hU hp hO hoff hW hBW hRA hRP hOW hO0 hOD hset hYb hrn hl3 hWs hk hY hYs
 go_enter Tryz.func142, Tryz.ntmps142
 go_wp2
 rw [HW.out]
 try simp only [List.append_eq, List.cons_append, List.nil_append]
 refine wph HSS hBc 12 ?_
 refine tQ 0 JiP ?_ (HSS.out _ hBc); refine tQ 1 JjK ?_ (HSS.out _ hBc); refine tQ 2 Jjo ?_ (HSS.out _ hBc); refine tQ 3 Jib ?_ (HSS.out _ hBc); refine tQ 4 Jjn ?_ (HSS.out _ hBc); refine tQ 5 Jkb ?_ (HSS.out _ hBc); refine tQ 6 Jh7 ?_ (HSS.out _ hBc); refine tQ 7 JiI ?_ (HSS.out _ hBc); refine tQ 8 Jkn ?_ (HSS.out _ hBc); refine tQ 9 JhY ?_ (HSS.out _ hBc); refine tQ 10 JgG ?_ (HSS.out _ hBc)
 have hS2 : Y.cell? ⟨p, 0, none⟩ = some (.slice (some ⟨g0, 0, none⟩) S.l.length c0) ∧ Y.cell? ⟨w.heap.size, 0, none⟩ = some (int i64 (rn : Int)) ∧ Y.cell? ⟨w.heap.size, 1, none⟩ = some (int i64 A.s) := ⟨HYP.out.cell 0 rfl, by have := HYA.out.cell 0 rfl; rw [← HRN.out]; exact this, HYA.out.cell 1 rfl⟩
 refine rd 11 Jhr (fun K hK => ?_)
 go_simp
 rw [show (W.setCell ⟨g0, rn, none⟩ (int i64 A.s)).drew = W.drew.setCell ⟨g0, rn, none⟩ (int i64 A.s) from rfl, HY.out]
 refine hK.out _ _ hS2 (fun hcl => ?_)
 clear hK K hS2 y0 y1 HY HSS hBc HW hcl
 refine wpd ?_
 obtain ⟨m0, m1, m2, m3, m4, m5, m6, m7, m8, m9⟩ := Z7 HYA.out
 have b1 : (A.k == 1) = false := by simp [HK.out]
 have b2 : (A.k == 2) = false := by simp [HK.out]
 have b3 : (A.k == 3) = false := by simp [HK.out]
 have b4 : (A.k == 4) = false := by simp [HK.out]
 have b5 : (A.k == 5) = false := by simp [HK.out]
 have b6 : (A.k == 6) = true := by simp [HK.out]
 have HSY : Hid (∀ wx, Below Y.heap.size Y wx → wx.cell? ⟨p, 0, none⟩ = some (.slice (some ⟨g0, 0, none⟩) S.l.length c0) ∧ wx.cell? ⟨p, 1, none⟩ = some (.slice a1 S.T.length c1) ∧ wx.cell? ⟨p, 2, none⟩ = some (.slice a2 S.L.length c2) ∧ wx.cell? ⟨w.heap.size, 0, none⟩ = some (int i64 A.r) ∧ wx.cell? ⟨w.heap.size, 1, none⟩ = some (int i64 A.s) ∧ wx.cell? ⟨w.heap.size, 2, none⟩ = some (int i64 A.t) ∧ wx.cell? ⟨w.heap.size, 3, none⟩ = some (u) ∧ wx.cell? ⟨w.heap.size, 4, none⟩ = some (int i64 A.k) ∧ wx.cell? ⟨w.heap.size, 5, none⟩ = some (.string A.o) ∧ wx.cell? ⟨w.heap.size, 6, none⟩ = some (.string A.y) ∧ wx.cell? ⟨w.heap.size, 7, none⟩ = some (int i64 A.v) ∧ wx.cell? ⟨w.heap.size, 8, none⟩ = some (int i64 A.x) ∧ wx.cell? ⟨w.heap.size, 9, none⟩ = some (int i64 A.z)) := fun wx h => ⟨(HYP.out.next h).cell 0 rfl, (HYP.out.next h).cell 1 rfl, (HYP.out.next h).cell 2 rfl, (HYA.out.next h).cell 0 rfl, (HYA.out.next h).cell 1 rfl, (HYA.out.next h).cell 2 rfl, (HYA.out.next h).cell 3 rfl, (HYA.out.next h).cell 4 rfl, (HYA.out.next h).cell 5 rfl, (HYA.out.next h).cell 6 rfl, (HYA.out.next h).cell 7 rfl, (HYA.out.next h).cell 8 rfl, (HYA.out.next h).cell 9 rfl⟩
 have hBc : Below Y.heap.size Y Y.drew := (Below.refl _ _).drew
 go_wp2
 try simp only [List.append_eq, List.cons_append, List.nil_append]
 refine wph HSY hBc 20 ?_
 refine tQ 0 JhH ?_ (HSY.out _ hBc)
 refine tQ 1 Jhz ?_ (HSY.out _ hBc)
 refine tQ 2 Jhf ?_ (HSY.out _ hBc)
 refine tQ 3 Jgp ?_ (HSY.out _ hBc)
 refine tQ 5 Jhc ?_ (HSY.out _ hBc)
 refine tQ 6 JfX ?_ (HSY.out _ hBc)
 refine tQ 7 JfE ?_ (HSY.out _ hBc)
 refine tQ 8 Jgz ?_ (HSY.out _ hBc)
 refine tQ 9 Jg8 ?_ (HSY.out _ hBc)
 refine tQ 10 JhM ?_ (HSY.out _ hBc)
 refine tQ 11 JfS ?_ (HSY.out _ hBc)
 refine tQ 12 JgW ?_ (HSY.out _ hBc)
 refine tQ 13 JhU ?_ (HSY.out _ hBc)
 refine tQ 14 Jf0 ?_ (HSY.out _ hBc)
 refine tQ 15 JgP ?_ (HSY.out _ hBc)
 refine rd 4 JhC (fun K hK => ?_)
 have zc := (HYP.out.next hBc).cell 3 rfl
 go_simp
 refine hK.out _ _ (HSY.out _ hBc) (fun hcl => ?_)
 clear hK K hcl zc
 try simp only [s1, s2, s3]
 refine rd 16 Jhs (fun K hK => ?_)
 go_simp
 have hBd := hBc
 refine (Ur S.C _ (Zs A) _ (Nat.le_trans HS.out.2.2.2.1.1 (by omega)) (CeAt.below (CeAt.own HYO.out.1.2.2.2 rfl) hBc)).mono ?_
 rintro e wn ⟨vv, rfl, hov, hbn⟩
 replace hBc := nx hBc hbn
 obtain ⟨av, dv, rfl, -⟩ := CeAt.own hov rfl
 have hvlt : ∀ j, (Value.slice av (UA (Zs A) S.C).length dv).ownBlock = some j → Y.heap.size ≤ j := fun j hj => Nat.le_trans hBd.size (hov.lt j hj).1
 replace hov : wn.ownsRow B 35 8 (.slice av (UA (Zs A) S.C).length dv) (UA (Zs A) S.C).length (ceV (UA (Zs A) S.C)) := Jo hov (Nat.le_trans (by have := HYZ.out; omega) hBd.size)
 clear hbn hBd
 try go_wp2_with fail
 refine hK.out _ _ (HSY.out _ hBc) (fun hcl => ?_)
 clear hK K hcl
 try simp only [s1, s2, s3]
 refine tQ 17 JfN ?_ (HSY.out _ hBc)
 refine tQ 18 JhR ?_ (HSY.out _ hBc)
 have z0 := (HYP.out.next hBc).cell 3 rfl
 have z1 := (HYP.out.next hBc).free 3
 obtain ⟨V, hV⟩ : ∃ V, V = wn.setCell ⟨p, 3, none⟩ (.slice av (UA (Zs A) S.C).length dv) := ⟨_, rfl⟩
 have hVP : Row V p #[.slice (some ⟨g0, 0, none⟩) S.l.length c0, .slice a1 S.T.length c1, .slice a2 S.L.length c2, .slice av (UA (Zs A) S.C).length dv] 29 := by rw [hV]; exact (HYP.out.next hBc).st3 _
 have hVA : Row V w.heap.size #[int i64 A.r, int i64 A.s, int i64 A.t, u, int i64 A.k, .string A.o, .string A.y, int i64 A.v, int i64 A.x, int i64 A.z] 62 := by rw [hV]; exact (HYA.out.next hBc).other (by simp; omega) _
 have hVb : ∀ j, j ≠ p → V.heap[j]? = wn.heap[j]? := fun j hj => by rw [hV]; exact Below.heap_setCell wn _ _ j (fun e => hj e)
 have hVs : wn.heap.size ≤ V.heap.size := by rw [hV]; simp [World.setCell]
 have hV3 : V.os = wn.os ∧ V.tape = wn.tape ∧ V.output = wn.output := by rw [hV]; exact ⟨rfl, rfl, rfl⟩
 have HV : Hid (wn.setCell ⟨p, 3, none⟩ (.slice av (UA (Zs A) S.C).length dv) = V) := hV.symm
 clear hV
 have HOF : Hid (OwnS V B (doS S A) (.slice (some ⟨g0, 0, none⟩) S.l.length c0) (.slice a1 S.T.length c1) (.slice a2 S.L.length c2) (.slice av (UA (Zs A) S.C).length dv)) := by
  show OwnS _ _ _ _ _ _ _
  rw [HDS.out]
  exact Own4.swap4 (p := p) HYO.out HOFF.out (fun k hk hp hr => by rw [hVb k hp]; exact hBc.block k hk) (G0 hov (fun k hk => hVb k (by have := hvlt k hk; have := HYZ.out; omega))) (fun k hk => .inr (hvlt k hk))
 have HFF : Hid (FrB w V B p) := HYF.out.trans ⟨hV3.1.trans hBc.os, hV3.2.1.trans hBc.tape, hV3.2.2.trans hBc.output, Nat.le_trans hBc.size hVs, fun k hk hp => by rw [hVb k hp]; exact hBc.block k (by have := HYZ.out; omega)⟩
 have HRF := Ja hVP
 refine rd 19 Jg3 (fun K hK => ?_)
 go_simp
 rw [show wn.setCell ⟨p, 3, none⟩ (.slice av (ins (fun y => decide (Jn (Zs A).r (Zs A).s y.r y.s)) (Zs A) S.C).length dv) = V from HV.out]
 refine hK.out _ _ ⟨hVP.cell 0 rfl, hVP.cell 1 rfl, hVP.cell 2 rfl, hVA.cell 0 rfl, hVA.cell 1 rfl, hVA.cell 2 rfl, hVA.cell 3 rfl, hVA.cell 4 rfl, hVA.cell 5 rfl, hVA.cell 6 rfl, hVA.cell 7 rfl, hVA.cell 8 rfl, hVA.cell 9 rfl⟩ (fun hcl => ?_)
 clear hK K hcl z0 z1 hVP hVA hVb hVs hV3 HV hBc HSY hov hvlt m0 m1 m2 m3 m4 m5 m6 m7 m8 m9
 refine wpd ?_
 go_wp2
 go_end0
 exact ⟨rfl, _, _, _, _, HRF.out, HOF.out, HFF.out⟩
abbrev Jka : Oper := oq 4 (.move (.tmp 0)) 169 "l07_done.go:87" #[] none
abbrev Ji3 : Oper := oq 5 (.nilCheck (.tmp 4)) 0 "l07_done.go:87" #[eD 0] none
abbrev Jjv : Oper := oq 6 (.fieldAddr 29 (.tmp 5) 0) 0 "l07_done.go:87" #[eD 1] none
abbrev Jjd : Oper := oq 7 (.load 24 (.tmp 6)) 24 "l07_done.go:87" #[eD 2] none
abbrev Jj3 : Oper := oq 8 (.fieldAddr 62 (.tmp 3) 0) 0 "l07_done.go:87" #[] none
abbrev Jh9 : Oper := oq 9 (.fieldAddr 33 (.tmp 8) 0) 0 "l07_done.go:87" #[eD 4] none
abbrev JiX : Oper := oq 10 (.load 3 (.tmp 9)) 3 "l07_done.go:87" #[eD 5] none
abbrev Jin : Oper := oq 11 (.fieldAddr 62 (.tmp 3) 0) 0 "l07_done.go:87" #[] none
abbrev JiL : Oper := oq 12 (.fieldAddr 33 (.tmp 11) 1) 0 "l07_done.go:87" #[eD 7] none
abbrev JjU : Oper := oq 13 (.load 3 (.tmp 12)) 3 "l07_done.go:87" #[eD 8] none
abbrev JhX : Oper := oq 14 (.indexAddr 24 (.tmp 7) (.tmp 10)) 0 "l07_done.go:87" #[eD 3, eD 6, eP 0, eP 1, eP 2, eP 3, eP 4, eP 5, eP 6, eP 7, eP 8, eP 9] none
abbrev Jhu : Oper := oz (.store 3 (.tmp 14) (.tmp 13)) 0 "l07_done.go:87" #[eD 10, eD 9, eP 0, eP 1, eP 2, eP 3, eP 4, eP 5, eP 6, eP 7, eP 8, eP 9] none
abbrev JgC : Oper := oq 115 (.move (.tmp 0)) 169 "l07_done.go:103" #[] none
abbrev Jg5 : Oper := oq 116 (.nilCheck (.tmp 115)) 0 "l07_done.go:103" #[eD 0] none
abbrev JfP : Oper := oq 117 (.fieldAddr 29 (.tmp 116) 3) 0 "l07_done.go:103" #[eD 1] none
abbrev JhA : Oper := oq 118 (.load 27 (.tmp 117)) 27 "l07_done.go:103" #[eD 2] none
abbrev Jg7 : Oper := oq 119 (.move (.tmp 0)) 169 "l07_done.go:103" #[] none
abbrev Jgt : Oper := oq 120 (.nilCheck (.tmp 119)) 0 "l07_done.go:103" #[eD 4] none
abbrev JhJ : Oper := oq 121 (.load 29 (.tmp 120)) 29 "l07_done.go:103" #[eD 5] none
abbrev Jhj : Oper := oq 122 (.fieldAddr 62 (.tmp 3) 7) 0 "l07_done.go:103" #[] none
abbrev Jhm : Oper := oq 123 (.load 33 (.tmp 122)) 33 "l07_done.go:103" #[eD 7] none
abbrev Jgw : Oper := oq 124 (.call ⟨.value (.func 24), #[.tmp 121, .tmp 123], #[29, 33]⟩) 3 "l07_done.go:103" #[eD 6, eD 8] none
abbrev JgM : Oper := oq 125 (.indexAddr 27 (.tmp 118) (.tmp 124)) 0 "l07_done.go:103" #[eD 3, eD 9, eP 0, eP 1, eP 2, eP 3, eP 4, eP 5, eP 6, eP 7, eP 8, eP 9] none
abbrev JfU : Oper := oq 126 (.fieldAddr 35 (.tmp 125) 5) 0 "l07_done.go:103" #[eD 10, eP 0, eP 1, eP 2, eP 3, eP 4, eP 5, eP 6, eP 7, eP 8, eP 9] none
abbrev Jhh : Oper := oz (.store 4 (.tmp 126) (.const (.bool true))) 0 "l07_done.go:103" #[eD 11, eC 9, eP 0, eP 1, eP 2, eP 3, eP 4, eP 5, eP 6, eP 7, eP 8, eP 9] none
theorem Jdk (S : Sta) (A : Ac) (u : Value) (p : Nat) (u0 u1 u2 u3 : Value) (B : Nat) (w : World) (hS : SOk S) (hA : AOk A) (hR : JU S A) (hk : A.k = 7) (hp : Row w p #[u0, u1, u2, u3] 29) (hpl : p < w.heap.size) (hB : B ≤ w.heap.size) (hO : OwnS w B S u0 u1 u2 u3) (hoff : Zp p u0 u1 u2 u3) (hU : ∀ wx, FrB w wx B p → IntsAt wx u A.l) :
  Calls Tryz.prog 142 #[.pointer (some ⟨p, 0, none⟩), .agg #[int i64 A.r, int i64 A.s, int i64 A.t, u, int i64 A.k, .string A.o, .string A.y, int i64 A.v, int i64 A.x, int i64 A.z]] w fun e w' => e = .returned (.tuple #[]) ∧ ∃ v0 v1 v2 v3, Row w' p #[v0, v1, v2, v3] 29 ∧ OwnS w' B (doS S A) v0 v1 v2 v3 ∧ FrB w w' B p := by
 obtain ⟨a0, c0, a1, c1, a2, c2, a3, c3, rfl, rfl, rfl, rfl⟩ := hO.at.shape
 have hl3 : S.l.length = 3 := hS.1.1
 obtain ⟨g0, rfl⟩ : ∃ g, a0 = some ⟨g, 0, none⟩ := by
  rcases hO.1.1.2 with ⟨h0, h1⟩ | ⟨g, cap, cur, e, -⟩
  ·rw [hl3] at h1; cases h1
  ·injection e with e1; exact ⟨g, e1⟩
 obtain ⟨rn, hrn⟩ : ∃ rn : Nat, A.r = rn := Int.eq_ofNat_of_zero_le hA.1.1
 have hr3 : rn < 3 := by have := hA.1.2.1; omega
 have hO0 : w.ownsRow B 3 1 (.slice (some ⟨g0, 0, none⟩) S.l.length c0) S.l.length (Jj S.l) := hO.1.1
 have hg0 := hO0.lt g0 rfl
 have hg0p : g0 ≠ p := hoff.1 g0 rfl
 have HOFF := Ja hoff
 obtain ⟨W, hW⟩ : ∃ W, W = w.alloc (.cells #[int i64 A.r, int i64 A.s, int i64 A.t, u, int i64 A.k, .string A.o, .string A.y, int i64 A.v, int i64 A.x, int i64 A.z] 62) := ⟨_, rfl⟩
 have hBW : Below w.heap.size w W := by rw [hW]; exact (Below.refl _ _).alloc (Nat.le_refl _) _
 have hWs : W.heap.size = w.heap.size + 1 := by rw [hW]; simp
 have hRA : Row W w.heap.size #[int i64 A.r, int i64 A.s, int i64 A.t, u, int i64 A.k, .string A.o, .string A.y, int i64 A.v, int i64 A.x, int i64 A.z] 62 := by rw [hW]; exact Jb w _ _ rfl
 have hRP : Row W p #[.slice (some ⟨g0, 0, none⟩) S.l.length c0, .slice a1 S.T.length c1, .slice a2 S.L.length c2, .slice a3 S.C.length c3] 29 := hp.next hBW
 have hOW : OwnS W B S (.slice (some ⟨g0, 0, none⟩) S.l.length c0) (.slice a1 S.T.length c1) (.slice a2 S.L.length c2) (.slice a3 S.C.length c3) := Own4.next hO hBW
 have HW : Hid (w.alloc (.cells #[int i64 A.r, int i64 A.s, int i64 A.t, u, int i64 A.k, .string A.o, .string A.y, int i64 A.v, int i64 A.x, int i64 A.z] 62) = W) := hW.symm
 have HU := Ja hU
 have HLT3 : Hid (∀ j, (Value.slice a3 S.C.length c3).ownBlock = some j → j < w.heap.size) := fun j hj => (World.ownsRow.lt hO.1.2.2.2 j hj).2
 have HS := Ja hS
 have HA := Ja hA
 have HR := Ja hR
 have HK : Hid (A.k = 7) := hk
 have HL3 := Ja hl3
 have HRN := Ja hrn
 have hi1 : (rn : Int) < S.l.length := by omega
 have hi0 : (0 : Int) ≤ rn := by omega
 have HSS : Hid (∀ wx, Below W.heap.size W wx → wx.cell? ⟨p, 0, none⟩ = some (.slice (some ⟨g0, 0, none⟩) S.l.length c0) ∧ wx.cell? ⟨w.heap.size, 0, none⟩ = some (int i64 (rn : Int)) ∧ wx.cell? ⟨w.heap.size, 1, none⟩ = some (int i64 A.s)) := fun wx h => ⟨(hRP.next h).cell 0 rfl, by have := (hRA.next h).cell 0 rfl; rw [← HRN.out]; exact this, (hRA.next h).cell 1 rfl⟩
 have hBc : Below W.heap.size W W.drew := (Below.refl _ _).drew
 -- behind the store
 obtain ⟨Y, hY⟩ : ∃ Y, Y = W.drew.setCell ⟨g0, rn, none⟩ (int i64 A.s) := ⟨_, rfl⟩
 have hOD : W.drew.ownsRow B 3 1 (.slice (some ⟨g0, 0, none⟩) S.l.length c0) S.l.length (Jj S.l) := Jf hOW.1.1 hBc
 have y0 : W.drew.cell? ⟨g0, rn, none⟩ = some (int i64 (S.l.getD rn 0)) := by
  rw [hOD.cellAt rn (by omega)]; simp [Jj, List.getD, show rn < S.l.length by omega]
 have y1 := hOD.frozenAt rn
 have hYb : ∀ j, j ≠ g0 → Y.heap[j]? = W.drew.heap[j]? := fun j hj => by rw [hY]; exact Below.heap_setCell W.drew _ _ j (fun e => hj e)
 have hYs : Y.heap.size = W.heap.size := by rw [hY]; simp [World.setCell]
 have HYP : Hid (Row Y p #[.slice (some ⟨g0, 0, none⟩) S.l.length c0, .slice a1 S.T.length c1, .slice a2 S.L.length c2, .slice a3 S.C.length c3] 29) := by rw [hY]; exact (hRP.next hBc).other (by simp; omega) _
 have HYA : Hid (Row Y w.heap.size #[int i64 A.r, int i64 A.s, int i64 A.t, u, int i64 A.k, .string A.o, .string A.y, int i64 A.v, int i64 A.x, int i64 A.z] 62) := by rw [hY]; exact (hRA.next hBc).other (by simp; omega) _
 have hset : (Jj S.l).set rn (int i64 A.s) = Jj (S.l.set rn A.s) := by simp [Jj, List.map_set]
 have HYO : Hid (OwnS Y B ⟨S.l.set rn A.s, S.T, S.L, S.C⟩ (.slice (some ⟨g0, 0, none⟩) S.l.length c0) (.slice a1 S.T.length c1) (.slice a2 S.L.length c2) (.slice a3 S.C.length c3)) := by
  have hD : OwnS W.drew B S (.slice (some ⟨g0, 0, none⟩) S.l.length c0) (.slice a1 S.T.length c1) (.slice a2 S.L.length c2) (.slice a3 S.C.length c3) := Own4.next hOW hBc
  have ho1 : ownO Y B (some ⟨.slice (some ⟨g0, 0, none⟩) S.l.length c0, 3, 1, (S.l.set rn A.s).length, Jj (S.l.set rn A.s)⟩) := by
   show World.ownsRow _ _ _ _ _ _ _
   rw [← hset, List.length_set, hY]
   exact (hOD.stored rn (int i64 A.s)).1
  refine Own4.swap1 (p := p) hD HOFF.out (fun k hk hp hr => hYb k (fun e => hr (by rw [e]; rfl))) ho1 (fun k hk => .inl hk)
 have HYF : Hid (FrB w Y B p) := ⟨by rw [hY]; exact hBW.os, by rw [hY]; exact hBW.tape, by rw [hY]; exact hBW.output, by rw [hYs, hWs]; omega, fun j hj _ => by rw [hYb j (by omega)]; exact hBW.block j (by omega)⟩
 have HDS : Hid (doS S A = ⟨S.l.set rn A.s, S.T, S.L, ZB S.C (cellAt S.C A.x A.z 0).toNat⟩) := by show _ = _; have e : A.r.toNat = rn := (by omega); unfold doS; rw [e, hk]; rfl
 have HYZ : Hid (Y.heap.size = w.heap.size + 1) := by show _ = _; omega
 have HY : Hid (W.drew.setCell ⟨g0, rn, none⟩ (int i64 A.s) = Y) := hY.symm
 rw [hrn]
 rw [hrn] at HW
 clear hS hA hR hU hp hO hoff hW hBW hRA hRP hOW hO0 hOD hset hYb hrn hl3 hWs hk hY hYs
 go_enter Tryz.func142, Tryz.ntmps142
 go_wp2
 rw [HW.out]
 try simp only [List.append_eq, List.cons_append, List.nil_append]
 refine wph HSS hBc 12 ?_
 refine tQ 0 Jka ?_ (HSS.out _ hBc); refine tQ 1 Ji3 ?_ (HSS.out _ hBc); refine tQ 2 Jjv ?_ (HSS.out _ hBc); refine tQ 3 Jjd ?_ (HSS.out _ hBc); refine tQ 4 Jj3 ?_ (HSS.out _ hBc); refine tQ 5 Jh9 ?_ (HSS.out _ hBc); refine tQ 6 JiX ?_ (HSS.out _ hBc); refine tQ 7 Jin ?_ (HSS.out _ hBc); refine tQ 8 JiL ?_ (HSS.out _ hBc); refine tQ 9 JjU ?_ (HSS.out _ hBc); refine tQ 10 JhX ?_ (HSS.out _ hBc)
 have hS2 : Y.cell? ⟨p, 0, none⟩ = some (.slice (some ⟨g0, 0, none⟩) S.l.length c0) ∧ Y.cell? ⟨w.heap.size, 0, none⟩ = some (int i64 (rn : Int)) ∧ Y.cell? ⟨w.heap.size, 1, none⟩ = some (int i64 A.s) := ⟨HYP.out.cell 0 rfl, by have := HYA.out.cell 0 rfl; rw [← HRN.out]; exact this, HYA.out.cell 1 rfl⟩
 refine rd 11 Jhu (fun K hK => ?_)
 go_simp
 rw [show (W.setCell ⟨g0, rn, none⟩ (int i64 A.s)).drew = W.drew.setCell ⟨g0, rn, none⟩ (int i64 A.s) from rfl, HY.out]
 refine hK.out _ _ hS2 (fun hcl => ?_)
 clear hK K hS2 y0 y1 HY HSS hBc HW hcl
 refine wpd ?_
 obtain ⟨m0, m1, m2, m3, m4, m5, m6, m7, m8, m9⟩ := Z7 HYA.out
 have b1 : (A.k == 1) = false := by simp [HK.out]
 have b2 : (A.k == 2) = false := by simp [HK.out]
 have b3 : (A.k == 3) = false := by simp [HK.out]
 have b4 : (A.k == 4) = false := by simp [HK.out]
 have b5 : (A.k == 5) = false := by simp [HK.out]
 have b6 : (A.k == 6) = false := by simp [HK.out]
 have b7 : (A.k == 7) = true := by simp [HK.out]
 obtain ⟨jn, hjl, hje, hjo⟩ : ∃ k, ∃ h : k < S.C.length, cellAt S.C A.x A.z 0 = (k : Int) ∧ True := by
  rcases HR.out with h | ⟨k, h, h1, -⟩
  ·exact absurd HK.out h.1
  ·exact ⟨k, h, h1, trivial⟩
 have hoC : Y.ownsRow B 35 8 (.slice a3 S.C.length c3) S.C.length (ceV S.C) := HYO.out.1.2.2.2
 obtain ⟨g3, rfl⟩ : ∃ g, a3 = some ⟨g, 0, none⟩ := by
  rcases hoC.2 with ⟨h0, h1⟩ | ⟨g, cap, cur, e, -⟩
  ·rw [h1] at hjl; omega
  ·injection e with e1; exact ⟨g, e1⟩
 have hg3 := hoC.lt g3 rfl
 have hg4 := HLT3.out g3 rfl
 have hg5 : g3 ≠ p := HOFF.out.2.2.2 g3 rfl
 have HJE : Hid (cellAt S.C A.x A.z 0 = (jn : Int)) := hje
 have HJL := Ja hjl
 have HCT : Hid (∀ wx, Below Y.heap.size Y wx → Calls Tryz.prog 24 #[.agg #[.slice (some ⟨g0, 0, none⟩) S.l.length c0, .slice a1 S.T.length c1, .slice a2 S.L.length c2, .slice (some ⟨g3, 0, none⟩) S.C.length c3], .agg #[int i64 A.x, int i64 A.z]] wx fun e w' => e = .returned (int i64 (jn : Int)) ∧ Below wx.heap.size wx w') := fun wx h => by
  have := ZG ⟨S.l.set rn A.s, S.T, S.L, S.C⟩ _ _ _ _ A.x A.z wx (Nat.le_trans HS.out.2.2.2.1.1 (by omega)) (HYO.out.at.below h)
  rw [show cellAt (Sta.C ⟨S.l.set rn A.s, S.T, S.L, S.C⟩) A.x A.z 0 = (jn : Int) from HJE.out] at this
  exact this
 have hj1 : (jn : Int) < S.C.length := by omega
 have hj0 : (0 : Int) ≤ jn := by omega
 clear hje hjo hoC
 have HSY : Hid (∀ wx, Below Y.heap.size Y wx → wx.cell? ⟨p, 0, none⟩ = some (.slice (some ⟨g0, 0, none⟩) S.l.length c0) ∧ wx.cell? ⟨p, 1, none⟩ = some (.slice a1 S.T.length c1) ∧ wx.cell? ⟨p, 2, none⟩ = some (.slice a2 S.L.length c2) ∧ wx.cell? ⟨p, 3, none⟩ = some (.slice (some ⟨g3, 0, none⟩) S.C.length c3) ∧ wx.cell? ⟨w.heap.size, 0, none⟩ = some (int i64 A.r) ∧ wx.cell? ⟨w.heap.size, 1, none⟩ = some (int i64 A.s) ∧ wx.cell? ⟨w.heap.size, 2, none⟩ = some (int i64 A.t) ∧ wx.cell? ⟨w.heap.size, 3, none⟩ = some (u) ∧ wx.cell? ⟨w.heap.size, 4, none⟩ = some (int i64 A.k) ∧ wx.cell? ⟨w.heap.size, 5, none⟩ = some (.string A.o) ∧ wx.cell? ⟨w.heap.size, 6, none⟩ = some (.string A.y) ∧ wx.cell? ⟨w.heap.size, 7, none⟩ = some (int i64 A.v) ∧ wx.cell? ⟨w.heap.size, 8, none⟩ = some (int i64 A.x) ∧ wx.cell? ⟨w.heap.size, 9, none⟩ = some (int i64 A.z)) := fun wx h => ⟨(HYP.out.next h).cell 0 rfl, (HYP.out.next h).cell 1 rfl, (HYP.out.next h).cell 2 rfl, (HYP.out.next h).cell 3 rfl, (HYA.out.next h).cell 0 rfl, (HYA.out.next h).cell 1 rfl, (HYA.out.next h).cell 2 rfl, (HYA.out.next h).cell 3 rfl, (HYA.out.next h).cell 4 rfl, (HYA.out.next h).cell 5 rfl, (HYA.out.next h).cell 6 rfl, (HYA.out.next h).cell 7 rfl, (HYA.out.next h).cell 8 rfl, (HYA.out.next h).cell 9 rfl⟩
 have hBc : Below Y.heap.size Y Y.drew := (Below.refl _ _).drew
 go_wp2
 try simp only [List.append_eq, List.cons_append, List.nil_append]
 refine wph HSY hBc 13 ?_
 refine tQ 0 JgC ?_ (HSY.out _ hBc)
 refine tQ 1 Jg5 ?_ (HSY.out _ hBc)
 refine tQ 2 JfP ?_ (HSY.out _ hBc)
 refine tQ 3 JhA ?_ (HSY.out _ hBc)
 refine tQ 4 Jg7 ?_ (HSY.out _ hBc)
 refine tQ 5 Jgt ?_ (HSY.out _ hBc)
 refine tQ 6 JhJ ?_ (HSY.out _ hBc)
 refine tQ 7 Jhj ?_ (HSY.out _ hBc)
 refine tQ 8 Jhm ?_ (HSY.out _ hBc)
 refine rd 9 Jgw (fun K hK => ?_)
 go_simp
 refine (HCT.out _ hBc).mono ?_
 rintro e wn ⟨rfl, hbn⟩
 replace hBc := nx hBc hbn
 clear hbn
 try go_wp2_with fail
 refine hK.out _ _ (HSY.out _ hBc) (fun hcl => ?_)
 clear hK K hcl
 try simp only [s1, s2, s3]
 refine tQ 10 JgM ?_ (HSY.out _ hBc)
 refine tQ 11 JfU ?_ (HSY.out _ hBc)
 have hoD : wn.ownsRow B 35 8 (.slice (some ⟨g3, 0, none⟩) S.C.length c3) S.C.length (ceV S.C) := Jf HYO.out.1.2.2.2 hBc
 obtain ⟨zv, z0⟩ : ∃ zv, wn.cell? ⟨g3, jn * 8 + 7, none⟩ = some (.bool zv) := by
  obtain ⟨a, c, e, hg⟩ := CeAt.own hoD rfl
  injection e with e1
  obtain ⟨g', f', e2, -, h2⟩ := hg (by omega)
  rw [← e1] at e2
  injection e2 with e2
  injection e2 with e3 e4
  have := (h2 jn HJL.out).2.2.2.2.2.2.2
  rw [← e3, ← e4, Nat.zero_add] at this
  exact ⟨_, this⟩
 have z1 := hoD.frozenAt (jn * 8 + 7)
 obtain ⟨V, hV⟩ : ∃ V, V = wn.setCell ⟨g3, jn * 8 + 7, none⟩ (.bool true) := ⟨_, rfl⟩
 have hVP : Row V p #[.slice (some ⟨g0, 0, none⟩) S.l.length c0, .slice a1 S.T.length c1, .slice a2 S.L.length c2, .slice (some ⟨g3, 0, none⟩) S.C.length c3] 29 := by rw [hV]; exact (HYP.out.next hBc).other (by simp; omega) _
 have hVA : Row V w.heap.size #[int i64 A.r, int i64 A.s, int i64 A.t, u, int i64 A.k, .string A.o, .string A.y, int i64 A.v, int i64 A.x, int i64 A.z] 62 := by rw [hV]; exact (HYA.out.next hBc).other (by simp; omega) _
 have hVb : ∀ j, j ≠ g3 → V.heap[j]? = wn.heap[j]? := fun j hj => by rw [hV]; exact Below.heap_setCell wn _ _ j (fun e => hj e)
 have hVs : wn.heap.size ≤ V.heap.size := by rw [hV]; simp [World.setCell]
 have hV3 : V.os = wn.os ∧ V.tape = wn.tape ∧ V.output = wn.output := by rw [hV]; exact ⟨rfl, rfl, rfl⟩
 have hst := (hoD.stored (jn * 8 + 7) (.bool true)).1
 rw [Jd5 _ _ HJL.out, ← hV] at hst
 have HV : Hid (wn.setCell ⟨g3, jn * 8 + 7, none⟩ (.bool true) = V) := hV.symm
 clear hV
 have HOF : Hid (OwnS V B (doS S A) (.slice (some ⟨g0, 0, none⟩) S.l.length c0) (.slice a1 S.T.length c1) (.slice a2 S.L.length c2) (.slice (some ⟨g3, 0, none⟩) S.C.length c3)) := by
  show OwnS _ _ _ _ _ _ _
  rw [HDS.out]
  refine Own4.swap4 (p := p) HYO.out HOFF.out (fun k hk hp hr => by rw [hVb k (fun e => hr (by rw [e]; rfl))]; exact hBc.block k hk) ?_ (fun k hk => .inl hk)
  show World.ownsRow _ _ _ _ _ _ _
  rw [HJE.out, show ((jn : Int)).toNat = jn by omega, YS]
  exact hst
 have HFF : Hid (FrB w V B p) := HYF.out.trans ⟨hV3.1.trans hBc.os, hV3.2.1.trans hBc.tape, hV3.2.2.trans hBc.output, Nat.le_trans hBc.size hVs, fun k hk hp => by rw [hVb k (by omega)]; exact hBc.block k (by have := HYZ.out; omega)⟩
 have HRF := Ja hVP
 refine rd 12 Jhh (fun K hK => ?_)
 go_simp
 rw [HV.out]
 refine hK.out _ _ ⟨hVP.cell 0 rfl, hVP.cell 1 rfl, hVP.cell 2 rfl, hVP.cell 3 rfl, hVA.cell 0 rfl, hVA.cell 1 rfl, hVA.cell 2 rfl, hVA.cell 3 rfl, hVA.cell 4 rfl, hVA.cell 5 rfl, hVA.cell 6 rfl, hVA.cell 7 rfl, hVA.cell 8 rfl, hVA.cell 9 rfl⟩ (fun hcl => ?_)
 clear hK K hcl z0 z1 hVP hVA hVb hVs hV3 HV hBc HSY hoD hst HCT m0 m1 m2 m3 m4 m5 m6 m7 m8 m9
 refine wpd ?_
 go_wp2
 go_end0
 exact ⟨rfl, _, _, _, _, HRF.out, HOF.out, HFF.out⟩
end Go.Proofs.YtdknoflkingodaaGreat
