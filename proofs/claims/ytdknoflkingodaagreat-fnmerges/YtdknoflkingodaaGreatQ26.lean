/- An act is done: kind 3, as the specification does it. -/
import Derived.Test.YtdknoflkingodaaGreatQ24
set_option maxHeartbeats 16000000
namespace Go.Proofs.YtdknoflkingodaaGreat
open Value (int)
open IntKind (i64)
set_option maxRecDepth 100000
set_option linter.unusedVariables false
open Go.RowKit
abbrev JjQ : Oper := oq 4 (.move (.tmp 0)) 169 "l07_done.go:87" #[] none
abbrev Ji6 : Oper := oq 5 (.nilCheck (.tmp 4)) 0 "l07_done.go:87" #[eD 0] none
abbrev Ji4 : Oper := oq 6 (.fieldAddr 29 (.tmp 5) 0) 0 "l07_done.go:87" #[eD 1] none
abbrev JjY : Oper := oq 7 (.load 24 (.tmp 6)) 24 "l07_done.go:87" #[eD 2] none
abbrev Jij : Oper := oq 8 (.fieldAddr 62 (.tmp 3) 0) 0 "l07_done.go:87" #[] none
abbrev Jiy : Oper := oq 9 (.fieldAddr 33 (.tmp 8) 0) 0 "l07_done.go:87" #[eD 4] none
abbrev Jh1 : Oper := oq 10 (.load 3 (.tmp 9)) 3 "l07_done.go:87" #[eD 5] none
abbrev JjO : Oper := oq 11 (.fieldAddr 62 (.tmp 3) 0) 0 "l07_done.go:87" #[] none
abbrev Jit : Oper := oq 12 (.fieldAddr 33 (.tmp 11) 1) 0 "l07_done.go:87" #[eD 7] none
abbrev Jig : Oper := oq 13 (.load 3 (.tmp 12)) 3 "l07_done.go:87" #[eD 8] none
abbrev JfZ : Oper := oq 14 (.indexAddr 24 (.tmp 7) (.tmp 10)) 0 "l07_done.go:87" #[eD 3, eD 6, eP 0, eP 1, eP 2, eP 3, eP 4, eP 5, eP 6, eP 7, eP 8, eP 9] none
abbrev JgR : Oper := oz (.store 3 (.tmp 14) (.tmp 13)) 0 "l07_done.go:87" #[eD 10, eD 9, eP 0, eP 1, eP 2, eP 3, eP 4, eP 5, eP 6, eP 7, eP 8, eP 9] none
theorem JcR (S : Sta) (A : Ac) (u : Value) (p : Nat) (u0 u1 u2 u3 : Value) (B : Nat) (w : World) (hS : SOk S) (hA : AOk A) (hR : JU S A) (hk : A.k = 3) (hp : Row w p #[u0, u1, u2, u3] 29) (hpl : p < w.heap.size) (hB : B ≤ w.heap.size) (hO : OwnS w B S u0 u1 u2 u3) (hoff : Zp p u0 u1 u2 u3) (hU : ∀ wx, FrB w wx B p → IntsAt wx u A.l) :
  Calls Tryz.prog 142 #[.pointer (some ⟨p, 0, none⟩), .agg #[int i64 A.r, int i64 A.s, int i64 A.t, u, int i64 A.k, .string A.o, .string A.y, int i64 A.v, int i64 A.x, int i64 A.z]] w fun e w' => e = .returned (.tuple #[]) ∧ ∃ v0 v1 v2 v3, Row w' p #[v0, v1, v2, v3] 29 ∧ OwnS w' B (doS S A) v0 v1 v2 v3 ∧ FrB w w' B p := by
 obtain ⟨a0, c0, a1, c1, a2, c2, a3, c3, rfl, rfl, rfl, rfl⟩ := hO.at.shape
 have hl3 : S.l.length = 3 := hS.1.1
 obtain ⟨g0, rfl⟩ : ∃ g, a0 = some ⟨g, 0, none⟩ := by
  rcases hO.1.1.2 with ⟨h0, h1⟩ | ⟨g, cap, cur, e, -⟩
  ·rw [hl3] at h1; cases h1
  ·injection e with e1; exact ⟨g, e1⟩
 obtain ⟨rn, hrn⟩ : ∃ rn : Nat, A.r = rn := Int.eq_ofNat_of_zero_le hA.1.1
 have hr3 : rn < 3 := by have := hA.1.2.1; omega
 have hO0 : w.ownsRow B 3 1 (.slice (some ⟨g0, 0, none⟩) S.l.length c0) S.l.length (Jj S.l) := hO.1.1
 have hg0 := hO0.lt g0 rfl
 have hg0p : g0 ≠ p := hoff.1 g0 rfl
 have HOFF := Ja hoff
 obtain ⟨W, hW⟩ : ∃ W, W = w.alloc (.cells #[int i64 A.r, int i64 A.s, int i64 A.t, u, int i64 A.k, .string A.o, .string A.y, int i64 A.v, int i64 A.x, int i64 A.z] 62) := ⟨_, rfl⟩
 have hBW : Below w.heap.size w W := by rw [hW]; exact (Below.refl _ _).alloc (Nat.le_refl _) _
 have hWs : W.heap.size = w.heap.size + 1 := by rw [hW]; simp
 have hRA : Row W w.heap.size #[int i64 A.r, int i64 A.s, int i64 A.t, u, int i64 A.k, .string A.o, .string A.y, int i64 A.v, int i64 A.x, int i64 A.z] 62 := by rw [hW]; exact Jb w _ _ rfl
 have hRP : Row W p #[.slice (some ⟨g0, 0, none⟩) S.l.length c0, .slice a1 S.T.length c1, .slice a2 S.L.length c2, .slice a3 S.C.length c3] 29 := hp.next hBW
 have hOW : OwnS W B S (.slice (some ⟨g0, 0, none⟩) S.l.length c0) (.slice a1 S.T.length c1) (.slice a2 S.L.length c2) (.slice a3 S.C.length c3) := Own4.next hO hBW
 have HW : Hid (w.alloc (.cells #[int i64 A.r, int i64 A.s, int i64 A.t, u, int i64 A.k, .string A.o, .string A.y, int i64 A.v, int i64 A.x, int i64 A.z] 62) = W) := hW.symm
 have HU := Ja hU
 have HLT3 : Hid (∀ j, (Value.slice a3 S.C.length c3).ownBlock = some j → j < w.heap.size) := fun j hj => (World.ownsRow.lt hO.1.2.2.2 j hj).2
 have HS := Ja hS
 have HA := Ja hA
 have HR := Ja hR
 have HK : Hid (A.k = 3) := hk
 have HL3 := Ja hl3
 have HRN := Ja hrn
 have hi1 : (rn : Int) < S.l.length := by omega
 have hi0 : (0 : Int) ≤ rn := by omega
 have HSS : Hid (∀ wx, Below W.heap.size W wx → wx.cell? ⟨p, 0, none⟩ = some (.slice (some ⟨g0, 0, none⟩) S.l.length c0) ∧ wx.cell? ⟨w.heap.size, 0, none⟩ = some (int i64 (rn : Int)) ∧ wx.cell? ⟨w.heap.size, 1, none⟩ = some (int i64 A.s)) := fun wx h => ⟨(hRP.next h).cell 0 rfl, by have := (hRA.next h).cell 0 rfl; rw [← HRN.out]; exact this, (hRA.next h).cell 1 rfl⟩
 have hBc : Below W.heap.size W W.drew := (Below.refl _ _).drew
 -- behind the store
 obtain ⟨Y, hY⟩ : ∃ Y, Y = W.drew.setCell ⟨g0, rn, none⟩ (int i64 A.s) := ⟨_, rfl⟩
 have hOD : W.drew.ownsRow B 3 1 (.slice (some ⟨g0, 0, none⟩) S.l.length c0) S.l.length (Jj S.l) := Jf hOW.1.1 hBc
 have y0 : W.drew.cell? ⟨g0, rn, none⟩ = some (int i64 (S.l.getD rn 0)) := by
  rw [hOD.cellAt rn (by omega)]; simp [Jj, List.getD, show rn < S.l.length by omega]
 have y1 := hOD.frozenAt rn
 have hYb : ∀ j, j ≠ g0 → Y.heap[j]? = W.drew.heap[j]? := fun j hj => by rw [hY]; exact Below.heap_setCell W.drew _ _ j (fun e => hj e)
 have hYs : Y.heap.size = W.heap.size := by rw [hY]; simp [World.setCell]
 have HYP : Hid (Row Y p #[.slice (some ⟨g0, 0, none⟩) S.l.length c0, .slice a1 S.T.length c1, .slice a2 S.L.length c2, .slice a3 S.C.length c3] 29) := by rw [hY]; exact (hRP.next hBc).other (by simp; omega) _
 have HYA : Hid (Row Y w.heap.size #[int i64 A.r, int i64 A.s, int i64 A.t, u, int i64 A.k, .string A.o, .string A.y, int i64 A.v, int i64 A.x, int i64 A.z] 62) := by rw [hY]; exact (hRA.next hBc).other (by simp; omega) _
 have hset : (Jj S.l).set rn (int i64 A.s) = Jj (S.l.set rn A.s) := by simp [Jj, List.map_set]
 have HYO : Hid (OwnS Y B ⟨S.l.set rn A.s, S.T, S.L, S.C⟩ (.slice (some ⟨g0, 0, none⟩) S.l.length c0) (.slice a1 S.T.length c1) (.slice a2 S.L.length c2) (.slice a3 S.C.length c3)) := by
  have hD : OwnS W.drew B S (.slice (some ⟨g0, 0, none⟩) S.l.length c0) (.slice a1 S.T.length c1) (.slice a2 S.L.length c2) (.slice a3 S.C.length c3) := Own4.next hOW hBc
  have ho1 : ownO Y B (some ⟨.slice (some ⟨g0, 0, none⟩) S.l.length c0, 3, 1, (S.l.set rn A.s).length, Jj (S.l.set rn A.s)⟩) := by
   show World.ownsRow _ _ _ _ _ _ _
   rw [← hset, List.length_set, hY]
   exact (hOD.stored rn (int i64 A.s)).1
  refine Own4.swap1 (p := p) hD HOFF.out (fun k hk hp hr => hYb k (fun e => hr (by rw [e]; rfl))) ho1 (fun k hk => .inl hk)
 have HYF : Hid (FrB w Y B p) := ⟨by rw [hY]; exact hBW.os, by rw [hY]; exact hBW.tape, by rw [hY]; exact hBW.output, by rw [hYs, hWs]; omega, fun j hj _ => by rw [hYb j (by omega)]; exact hBW.block j (by omega)⟩
 have HDS : Hid (doS S A = ⟨S.l.set rn A.s, S.T, Je S.L false A.o A.y A.l, S.C⟩) := by show _ = _; have e : A.r.toNat = rn := (by omega); unfold doS; rw [e, hk]; rfl
 have HYZ : Hid (Y.heap.size = w.heap.size + 1) := by show _ = _; omega
 have HY : Hid (W.drew.setCell ⟨g0, rn, none⟩ (int i64 A.s) = Y) := hY.symm
 rw [hrn]
 rw [hrn] at HW
 clear hS hA hR hU hp hO hoff hW hBW hRA hRP hOW hO0 hOD hset hYb hrn hl3 hWs hk hY hYs
 go_enter Tryz.func142, Tryz.ntmps142
 go_wp2
 rw [HW.out]
 try simp only [List.append_eq, List.cons_append, List.nil_append]
 refine wph HSS hBc 12 ?_
 refine tQ 0 JjQ ?_ (HSS.out _ hBc); refine tQ 1 Ji6 ?_ (HSS.out _ hBc); refine tQ 2 Ji4 ?_ (HSS.out _ hBc); refine tQ 3 JjY ?_ (HSS.out _ hBc); refine tQ 4 Jij ?_ (HSS.out _ hBc); refine tQ 5 Jiy ?_ (HSS.out _ hBc); refine tQ 6 Jh1 ?_ (HSS.out _ hBc); refine tQ 7 JjO ?_ (HSS.out _ hBc); refine tQ 8 Jit ?_ (HSS.out _ hBc); refine tQ 9 Jig ?_ (HSS.out _ hBc); refine tQ 10 JfZ ?_ (HSS.out _ hBc)
 have hS2 : Y.cell? ⟨p, 0, none⟩ = some (.slice (some ⟨g0, 0, none⟩) S.l.length c0) ∧ Y.cell? ⟨w.heap.size, 0, none⟩ = some (int i64 (rn : Int)) ∧ Y.cell? ⟨w.heap.size, 1, none⟩ = some (int i64 A.s) := ⟨HYP.out.cell 0 rfl, by have := HYA.out.cell 0 rfl; rw [← HRN.out]; exact this, HYA.out.cell 1 rfl⟩
 refine rd 11 JgR (fun K hK => ?_)
 go_simp
 rw [show (W.setCell ⟨g0, rn, none⟩ (int i64 A.s)).drew = W.drew.setCell ⟨g0, rn, none⟩ (int i64 A.s) from rfl, HY.out]
 refine hK.out _ _ hS2 (fun hcl => ?_)
 clear hK K hS2 y0 y1 HY HSS hBc HW hcl
 refine wpd ?_
 obtain ⟨m0, m1, m2, m3, m4, m5, m6, m7, m8, m9⟩ := Z7 HYA.out
 have b1 : (A.k == 1) = false := by simp [HK.out]
 have b2 : (A.k == 2) = false := by simp [HK.out]
 have b3 : (A.k == 3) = true := by simp [HK.out]
 have hAl : A.l.length ≤ 1048576 := by have := HA.out.2.1.1; omega
 have HTC := Ja (ZY S.L p (.slice (some ⟨g0, 0, none⟩) S.l.length c0) (.slice a1 S.T.length c1) (.slice a2 S.L.length c2) (.slice a3 S.C.length c3) false A.o A.y A.l u Y (Nat.le_trans HS.out.2.2.1.1 (by omega)) hAl HYP.out (LiAt.own HYO.out.1.2.2.1 rfl) (HU.out Y HYF.out))
 clear hAl
 go_wp2_with fail
 refine HTC.out.mono ?_
 rintro e w2 ⟨rfl, a2', d2', hRw, hOw, hF⟩
 have HRF := Ja hRw
 have HOF : Hid (OwnS w2 B (doS S A) (.slice (some ⟨g0, 0, none⟩) S.l.length c0) (.slice a1 S.T.length c1) (.slice a2' (Je S.L false A.o A.y A.l).length d2') (.slice a3 S.C.length c3)) := by
  show OwnS _ _ _ _ _ _ _
  rw [HDS.out]
  exact Own4.swap3 (p := p) HYO.out HOFF.out (fun k hk hp hr => hF.block k hk (fun e => hp (by injection e))) (Jo hOw (by have := HYZ.out; omega)) (fun k hk => .inr (hOw.lt k hk).1)
 have HFF : Hid (FrB w w2 B p) := HYF.out.trans (FrB.grown hF (by have := HYZ.out; omega))
 clear hRw hOw hF HTC
 clear m0 m1 m2 m3 m4 m5 m6 m7 m8 m9
 go_wp2
 go_end0
 exact ⟨rfl, _, _, _, _, HRF.out, HOF.out, HFF.out⟩
abbrev Jjp : Oper := oq 4 (.move (.tmp 0)) 169 "l07_done.go:87" #[] none
abbrev Jjm : Oper := oq 5 (.nilCheck (.tmp 4)) 0 "l07_done.go:87" #[eD 0] none
abbrev Jis : Oper := oq 6 (.fieldAddr 29 (.tmp 5) 0) 0 "l07_done.go:87" #[eD 1] none
abbrev JjD : Oper := oq 7 (.load 24 (.tmp 6)) 24 "l07_done.go:87" #[eD 2] none
abbrev JjC : Oper := oq 8 (.fieldAddr 62 (.tmp 3) 0) 0 "l07_done.go:87" #[] none
abbrev Jjf : Oper := oq 9 (.fieldAddr 33 (.tmp 8) 0) 0 "l07_done.go:87" #[eD 4] none
abbrev Jjh : Oper := oq 10 (.load 3 (.tmp 9)) 3 "l07_done.go:87" #[eD 5] none
abbrev Jiw : Oper := oq 11 (.fieldAddr 62 (.tmp 3) 0) 0 "l07_done.go:87" #[] none
abbrev JjW : Oper := oq 12 (.fieldAddr 33 (.tmp 11) 1) 0 "l07_done.go:87" #[eD 7] none
abbrev JiK : Oper := oq 13 (.load 3 (.tmp 12)) 3 "l07_done.go:87" #[eD 8] none
abbrev JhW : Oper := oq 14 (.indexAddr 24 (.tmp 7) (.tmp 10)) 0 "l07_done.go:87" #[eD 3, eD 6, eP 0, eP 1, eP 2, eP 3, eP 4, eP 5, eP 6, eP 7, eP 8, eP 9] none
abbrev Jgd : Oper := oz (.store 3 (.tmp 14) (.tmp 13)) 0 "l07_done.go:87" #[eD 10, eD 9, eP 0, eP 1, eP 2, eP 3, eP 4, eP 5, eP 6, eP 7, eP 8, eP 9] none
abbrev JgK : Oper := oq 65 (.move (.tmp 0)) 169 "l07_done.go:97" #[] none
abbrev JgA : Oper := oq 66 (.move (.tmp 0)) 169 "l07_done.go:97" #[] none
abbrev JfY : Oper := oq 67 (.nilCheck (.tmp 66)) 0 "l07_done.go:97" #[eD 1] none
abbrev JgZ : Oper := oq 68 (.fieldAddr 29 (.tmp 67) 2) 0 "l07_done.go:97" #[eD 2] none
abbrev Jgs : Oper := oq 70 (.fieldAddr 62 (.tmp 3) 4) 0 "l07_done.go:97" #[] none
abbrev JfF : Oper := oq 71 (.load 9 (.tmp 70)) 9 "l07_done.go:97" #[eD 5] none
abbrev JhI : Oper := oq 72 (.fieldAddr 62 (.tmp 3) 5) 0 "l07_done.go:97" #[] none
abbrev JgS : Oper := oq 73 (.load 9 (.tmp 72)) 9 "l07_done.go:97" #[eD 7] none
abbrev JfL : Oper := oq 74 (.fieldAddr 62 (.tmp 3) 6) 0 "l07_done.go:97" #[] none
abbrev JgU : Oper := oq 75 (.load 3 (.tmp 74)) 3 "l07_done.go:97" #[eD 9] none
abbrev Jg4 : Oper := oq 76 (.fieldAddr 62 (.tmp 3) 0) 0 "l07_done.go:97" #[] none
abbrev JgD : Oper := oq 77 (.load 33 (.tmp 76)) 33 "l07_done.go:97" #[eD 11] none
abbrev Jha : Oper := oq 78 (.build 40 #[(0, .const (.bool true)), (1, .tmp 71), (2, .tmp 73), (3, .tmp 75), (4, .tmp 77)]) 40 "l07_done.go:97" #[eD 6, eD 8, eD 10, eD 12] none
abbrev Jga : Oper := oq 69 (.load 26 (.tmp 68)) 26 "l07_done.go:97" #[eD 3] none
abbrev Jht : Oper := oq 79 (.call ⟨.value (.func 103), #[.tmp 69, .tmp 78], #[26, 40]⟩) 26 "l07_done.go:97" #[eD 4, eD 13] none
abbrev Jg2 : Oper := oq 80 (.nilCheck (.tmp 65)) 0 "l07_done.go:97" #[eD 0, eP 0, eP 1, eP 2, eP 3, eP 4, eP 5, eP 6, eP 7, eP 8, eP 9, eP 10, eP 11, eP 12, eP 13, eP 14] none
abbrev JgJ : Oper := oq 81 (.fieldAddr 29 (.tmp 80) 2) 0 "l07_done.go:97" #[eD 15, eP 0, eP 1, eP 2, eP 3, eP 4, eP 5, eP 6, eP 7, eP 8, eP 9, eP 10, eP 11, eP 12, eP 13, eP 14] none
abbrev Jgf : Oper := oz (.store 26 (.tmp 81) (.tmp 79)) 0 "l07_done.go:97" #[eD 16, eD 14, eC 14, eP 0, eP 1, eP 2, eP 3, eP 4, eP 5, eP 6, eP 7, eP 8, eP 9, eP 10, eP 11, eP 12, eP 13, eP 14] none
theorem JcZ (S : Sta) (A : Ac) (u : Value) (p : Nat) (u0 u1 u2 u3 : Value) (B : Nat) (w : World) (hS : SOk S) (hA : AOk A) (hR : JU S A) (hk : A.k = 4) (hp : Row w p #[u0, u1, u2, u3] 29) (hpl : p < w.heap.size) (hB : B ≤ w.heap.size) (hO : OwnS w B S u0 u1 u2 u3) (hoff : Zp p u0 u1 u2 u3) (hU : ∀ wx, FrB w wx B p → IntsAt wx u A.l) :
  Calls Tryz.prog 142 #[.pointer (some ⟨p, 0, none⟩), .agg #[int i64 A.r, int i64 A.s, int i64 A.t, u, int i64 A.k, .string A.o, .string A.y, int i64 A.v, int i64 A.x, int i64 A.z]] w fun e w' => e = .returned (.tuple #[]) ∧ ∃ v0 v1 v2 v3, Row w' p #[v0, v1, v2, v3] 29 ∧ OwnS w' B (doS S A) v0 v1 v2 v3 ∧ FrB w w' B p := by
 obtain ⟨a0, c0, a1, c1, a2, c2, a3, c3, rfl, rfl, rfl, rfl⟩ := hO.at.shape
 have hl3 : S.l.length = 3 := hS.1.1
 obtain ⟨g0, rfl⟩ : ∃ g, a0 = some ⟨g, 0, none⟩ := by
  rcases hO.1.1.2 with ⟨h0, h1⟩ | ⟨g, cap, cur, e, -⟩
  ·rw [hl3] at h1; cases h1
  ·injection e with e1; exact ⟨g, e1⟩
 obtain ⟨rn, hrn⟩ : ∃ rn : Nat, A.r = rn := Int.eq_ofNat_of_zero_le hA.1.1
 have hr3 : rn < 3 := by have := hA.1.2.1; omega
 have hO0 : w.ownsRow B 3 1 (.slice (some ⟨g0, 0, none⟩) S.l.length c0) S.l.length (Jj S.l) := hO.1.1
 have hg0 := hO0.lt g0 rfl
 have hg0p : g0 ≠ p := hoff.1 g0 rfl
 have HOFF := Ja hoff
 obtain ⟨W, hW⟩ : ∃ W, W = w.alloc (.cells #[int i64 A.r, int i64 A.s, int i64 A.t, u, int i64 A.k, .string A.o, .string A.y, int i64 A.v, int i64 A.x, int i64 A.z] 62) := ⟨_, rfl⟩
 have hBW : Below w.heap.size w W := by rw [hW]; exact (Below.refl _ _).alloc (Nat.le_refl _) _
 have hWs : W.heap.size = w.heap.size + 1 := by rw [hW]; simp
 have hRA : Row W w.heap.size #[int i64 A.r, int i64 A.s, int i64 A.t, u, int i64 A.k, .string A.o, .string A.y, int i64 A.v, int i64 A.x, int i64 A.z] 62 := by rw [hW]; exact Jb w _ _ rfl
 have hRP : Row W p #[.slice (some ⟨g0, 0, none⟩) S.l.length c0, .slice a1 S.T.length c1, .slice a2 S.L.length c2, .slice a3 S.C.length c3] 29 := hp.next hBW
 have hOW : OwnS W B S (.slice (some ⟨g0, 0, none⟩) S.l.length c0) (.slice a1 S.T.length c1) (.slice a2 S.L.length c2) (.slice a3 S.C.length c3) := Own4.next hO hBW
 have HW : Hid (w.alloc (.cells #[int i64 A.r, int i64 A.s, int i64 A.t, u, int i64 A.k, .string A.o, .string A.y, int i64 A.v, int i64 A.x, int i64 A.z] 62) = W) := hW.symm
 have HU := Ja hU
 have HLT3 : Hid (∀ j, (Value.slice a3 S.C.length c3).ownBlock = some j → j < w.heap.size) := fun j hj => (World.ownsRow.lt hO.1.2.2.2 j hj).2
 have HS := Ja hS
 have HA := Ja hA
 have HR := Ja hR
 have HK : Hid (A.k = 4) := hk
 have HL3 := Ja hl3
 have HRN := Ja hrn
 have hi1 : (rn : Int) < S.l.length := by omega
 have hi0 : (0 : Int) ≤ rn := by omega
 have HSS : Hid (∀ wx, Below W.heap.size W wx → wx.cell? ⟨p, 0, none⟩ = some (.slice (some ⟨g0, 0, none⟩) S.l.length c0) ∧ wx.cell? ⟨w.heap.size, 0, none⟩ = some (int i64 (rn : Int)) ∧ wx.cell? ⟨w.heap.size, 1, none⟩ = some (int i64 A.s)) := fun wx h => ⟨(hRP.next h).cell 0 rfl, by have := (hRA.next h).cell 0 rfl; rw [← HRN.out]; exact this, (hRA.next h).cell 1 rfl⟩
 have hBc : Below W.heap.size W W.drew := (Below.refl _ _).drew
 -- behind the store
 obtain ⟨Y, hY⟩ : ∃ Y, Y = W.drew.setCell ⟨g0, rn, none⟩ (int i64 A.s) := ⟨_, rfl⟩
 have hOD : W.drew.ownsRow B 3 1 (.slice (some ⟨g0, 0, none⟩) S.l.length c0) S.l.length (Jj S.l) := Jf hOW.1.1 hBc
 have y0 : W.drew.cell? ⟨g0, rn, none⟩ = some (int i64 (S.l.getD rn 0)) := by
  rw [hOD.cellAt rn (by omega)]; simp [Jj, List.getD, show rn < S.l.length by omega]
 have y1 := hOD.frozenAt rn
 have hYb : ∀ j, j ≠ g0 → Y.heap[j]? = W.drew.heap[j]? := fun j hj => by rw [hY]; exact Below.heap_setCell W.drew _ _ j (fun e => hj e)
 have hYs : Y.heap.size = W.heap.size := by rw [hY]; simp [World.setCell]
 have HYP : Hid (Row Y p #[.slice (some ⟨g0, 0, none⟩) S.l.length c0, .slice a1 S.T.length c1, .slice a2 S.L.length c2, .slice a3 S.C.length c3] 29) := by rw [hY]; exact (hRP.next hBc).other (by simp; omega) _
 have HYA : Hid (Row Y w.heap.size #[int i64 A.r, int i64 A.s, int i64 A.t, u, int i64 A.k, .string A.o, .string A.y, int i64 A.v, int i64 A.x, int i64 A.z] 62) := by rw [hY]; exact (hRA.next hBc).other (by simp; omega) _
 have hset : (Jj S.l).set rn (int i64 A.s) = Jj (S.l.set rn A.s) := by simp [Jj, List.map_set]
 have HYO : Hid (OwnS Y B ⟨S.l.set rn A.s, S.T, S.L, S.C⟩ (.slice (some ⟨g0, 0, none⟩) S.l.length c0) (.slice a1 S.T.length c1) (.slice a2 S.L.length c2) (.slice a3 S.C.length c3)) := by
  have hD : OwnS W.drew B S (.slice (some ⟨g0, 0, none⟩) S.l.length c0) (.slice a1 S.T.length c1) (.slice a2 S.L.length c2) (.slice a3 S.C.length c3) := Own4.next hOW hBc
  have ho1 : ownO Y B (some ⟨.slice (some ⟨g0, 0, none⟩) S.l.length c0, 3, 1, (S.l.set rn A.s).length, Jj (S.l.set rn A.s)⟩) := by
   show World.ownsRow _ _ _ _ _ _ _
   rw [← hset, List.length_set, hY]
   exact (hOD.stored rn (int i64 A.s)).1
  refine Own4.swap1 (p := p) hD HOFF.out (fun k hk hp hr => hYb k (fun e => hr (by rw [e]; rfl))) ho1 (fun k hk => .inl hk)
 have HYF : Hid (FrB w Y B p) := ⟨by rw [hY]; exact hBW.os, by rw [hY]; exact hBW.tape, by rw [hY]; exact hBW.output, by rw [hYs, hWs]; omega, fun j hj _ => by rw [hYb j (by omega)]; exact hBW.block j (by omega)⟩
 have HDS : Hid (doS S A = ⟨S.l.set rn A.s, S.T, ZI (JE true A.v A) (Je S.L true A.o A.y A.l), S.C⟩) := by show _ = _; have e : A.r.toNat = rn := (by omega); unfold doS; rw [e, hk]; rfl
 have HYZ : Hid (Y.heap.size = w.heap.size + 1) := by show _ = _; omega
 have HY : Hid (W.drew.setCell ⟨g0, rn, none⟩ (int i64 A.s) = Y) := hY.symm
 rw [hrn]
 rw [hrn] at HW
 clear hS hA hR hU hp hO hoff hW hBW hRA hRP hOW hO0 hOD hset hYb hrn hl3 hWs hk hY hYs
 go_enter Tryz.func142, Tryz.ntmps142
 go_wp2
 rw [HW.out]
 try simp only [List.append_eq, List.cons_append, List.nil_append]
 refine wph HSS hBc 12 ?_
 refine tQ 0 Jjp ?_ (HSS.out _ hBc); refine tQ 1 Jjm ?_ (HSS.out _ hBc); refine tQ 2 Jis ?_ (HSS.out _ hBc); refine tQ 3 JjD ?_ (HSS.out _ hBc); refine tQ 4 JjC ?_ (HSS.out _ hBc); refine tQ 5 Jjf ?_ (HSS.out _ hBc); refine tQ 6 Jjh ?_ (HSS.out _ hBc); refine tQ 7 Jiw ?_ (HSS.out _ hBc); refine tQ 8 JjW ?_ (HSS.out _ hBc); refine tQ 9 JiK ?_ (HSS.out _ hBc); refine tQ 10 JhW ?_ (HSS.out _ hBc)
 have hS2 : Y.cell? ⟨p, 0, none⟩ = some (.slice (some ⟨g0, 0, none⟩) S.l.length c0) ∧ Y.cell? ⟨w.heap.size, 0, none⟩ = some (int i64 (rn : Int)) ∧ Y.cell? ⟨w.heap.size, 1, none⟩ = some (int i64 A.s) := ⟨HYP.out.cell 0 rfl, by have := HYA.out.cell 0 rfl; rw [← HRN.out]; exact this, HYA.out.cell 1 rfl⟩
 refine rd 11 Jgd (fun K hK => ?_)
 go_simp
 rw [show (W.setCell ⟨g0, rn, none⟩ (int i64 A.s)).drew = W.drew.setCell ⟨g0, rn, none⟩ (int i64 A.s) from rfl, HY.out]
 refine hK.out _ _ hS2 (fun hcl => ?_)
 clear hK K hS2 y0 y1 HY HSS hBc HW hcl
 refine wpd ?_
 obtain ⟨m0, m1, m2, m3, m4, m5, m6, m7, m8, m9⟩ := Z7 HYA.out
 have b1 : (A.k == 1) = false := by simp [HK.out]
 have b2 : (A.k == 2) = false := by simp [HK.out]
 have b3 : (A.k == 3) = false := by simp [HK.out]
 have b4 : (A.k == 4) = true := by simp [HK.out]
 have hAl : A.l.length ≤ 1048576 := by have := HA.out.2.1.1; omega
 have HTC := Ja (ZY S.L p (.slice (some ⟨g0, 0, none⟩) S.l.length c0) (.slice a1 S.T.length c1) (.slice a2 S.L.length c2) (.slice a3 S.C.length c3) true A.o A.y A.l u Y (Nat.le_trans HS.out.2.2.1.1 (by omega)) hAl HYP.out (LiAt.own HYO.out.1.2.2.1 rfl) (HU.out Y HYF.out))
 clear hAl
 go_wp2_with fail
 refine HTC.out.mono ?_
 rintro e w2 ⟨rfl, a2', d2', hRw, hOw, hF⟩
 have HYP2 := Ja hRw
 have HYA2 : Hid (Row w2 w.heap.size #[int i64 A.r, int i64 A.s, int i64 A.t, u, int i64 A.k, .string A.o, .string A.y, int i64 A.v, int i64 A.x, int i64 A.z] 62) := Row.grown HYA.out hF (by simp; omega)
 have HYO2 : Hid (OwnS w2 B ⟨S.l.set rn A.s, S.T, Je S.L true A.o A.y A.l, S.C⟩ (.slice (some ⟨g0, 0, none⟩) S.l.length c0) (.slice a1 S.T.length c1) (.slice a2' (Je S.L true A.o A.y A.l).length d2') (.slice a3 S.C.length c3)) :=
  Own4.swap3 (p := p) HYO.out HOFF.out (fun k hk hp hr => hF.block k hk (fun e => hp (by injection e))) (Jo hOw (by have := HYZ.out; omega)) (fun k hk => .inr (hOw.lt k hk).1)
 have HOFF2 : Hid (Zp p (.slice (some ⟨g0, 0, none⟩) S.l.length c0) (.slice a1 S.T.length c1) (.slice a2' (Je S.L true A.o A.y A.l).length d2') (.slice a3 S.C.length c3)) := ⟨HOFF.out.1, HOFF.out.2.1, fun k hk => by have := (hOw.lt k hk).1; have := HYZ.out; omega, HOFF.out.2.2.2⟩
 have HYF2 : Hid (FrB w w2 B p) := HYF.out.trans (FrB.grown hF (by have := HYZ.out; omega))
 have HYZ2 : Hid (w.heap.size + 1 ≤ w2.heap.size) := by have := HYZ.out; have := hF.size; show _ ≤ _; omega
 have hcl4 : (Je S.L true A.o A.y A.l).length ≤ 1048576 := Nat.le_trans (List.length_filter_le _ _) (Nat.le_trans HS.out.2.2.1.1 (by omega))
 clear hRw hOw hF HTC m0 m1 m2 m3 m4 m5 m6 m7 m8 m9 HYA HYP HYO
 have HSY : Hid (∀ wx, Below w2.heap.size w2 wx → wx.cell? ⟨p, 0, none⟩ = some (.slice (some ⟨g0, 0, none⟩) S.l.length c0) ∧ wx.cell? ⟨p, 1, none⟩ = some (.slice a1 S.T.length c1) ∧ wx.cell? ⟨p, 3, none⟩ = some (.slice a3 S.C.length c3) ∧ wx.cell? ⟨w.heap.size, 0, none⟩ = some (int i64 A.r) ∧ wx.cell? ⟨w.heap.size, 1, none⟩ = some (int i64 A.s) ∧ wx.cell? ⟨w.heap.size, 2, none⟩ = some (int i64 A.t) ∧ wx.cell? ⟨w.heap.size, 3, none⟩ = some (u) ∧ wx.cell? ⟨w.heap.size, 4, none⟩ = some (int i64 A.k) ∧ wx.cell? ⟨w.heap.size, 5, none⟩ = some (.string A.o) ∧ wx.cell? ⟨w.heap.size, 6, none⟩ = some (.string A.y) ∧ wx.cell? ⟨w.heap.size, 7, none⟩ = some (int i64 A.v) ∧ wx.cell? ⟨w.heap.size, 8, none⟩ = some (int i64 A.x) ∧ wx.cell? ⟨w.heap.size, 9, none⟩ = some (int i64 A.z)) := fun wx h => ⟨(HYP2.out.next h).cell 0 rfl, (HYP2.out.next h).cell 1 rfl, (HYP2.out.next h).cell 3 rfl, (HYA2.out.next h).cell 0 rfl, (HYA2.out.next h).cell 1 rfl, (HYA2.out.next h).cell 2 rfl, (HYA2.out.next h).cell 3 rfl, (HYA2.out.next h).cell 4 rfl, (HYA2.out.next h).cell 5 rfl, (HYA2.out.next h).cell 6 rfl, (HYA2.out.next h).cell 7 rfl, (HYA2.out.next h).cell 8 rfl, (HYA2.out.next h).cell 9 rfl⟩
 have hBc : Below w2.heap.size w2 w2.drew := (Below.refl _ _).drew
 go_wp2
 try simp only [List.append_eq, List.cons_append, List.nil_append]
 refine wph HSY hBc 18 ?_
 refine tQ 0 JgK ?_ (HSY.out _ hBc)
 refine tQ 1 JgA ?_ (HSY.out _ hBc)
 refine tQ 2 JfY ?_ (HSY.out _ hBc)
 refine tQ 3 JgZ ?_ (HSY.out _ hBc)
 refine tQ 5 Jgs ?_ (HSY.out _ hBc)
 refine tQ 6 JfF ?_ (HSY.out _ hBc)
 refine tQ 7 JhI ?_ (HSY.out _ hBc)
 refine tQ 8 JgS ?_ (HSY.out _ hBc)
 refine tQ 9 JfL ?_ (HSY.out _ hBc)
 refine tQ 10 JgU ?_ (HSY.out _ hBc)
 refine tQ 11 Jg4 ?_ (HSY.out _ hBc)
 refine tQ 12 JgD ?_ (HSY.out _ hBc)
 refine tQ 13 Jha ?_ (HSY.out _ hBc)
 refine rd 4 Jga (fun K hK => ?_)
 have zc := (HYP2.out.next hBc).cell 2 rfl
 go_simp
 refine hK.out _ _ (HSY.out _ hBc) (fun hcl => ?_)
 clear hK K hcl zc
 try simp only [s1, s2, s3]
 refine rd 14 Jht (fun K hK => ?_)
 go_simp
 have hBd := hBc
 refine (Ko (Je S.L true A.o A.y A.l) _ (JE true A.v A) _ hcl4 (LiAt.below (LiAt.own HYO2.out.1.2.2.1 rfl) hBc)).mono ?_
 rintro e wn ⟨vv, rfl, hov, hbn⟩
 replace hBc := nx hBc hbn
 obtain ⟨av, dv, rfl, -⟩ := LiAt.own hov rfl
 have hvlt : ∀ j, (Value.slice av (ZI (JE true A.v A) (Je S.L true A.o A.y A.l)).length dv).ownBlock = some j → w2.heap.size ≤ j := fun j hj => Nat.le_trans hBd.size (hov.lt j hj).1
 replace hov : wn.ownsRow B 40 6 (.slice av (ZI (JE true A.v A) (Je S.L true A.o A.y A.l)).length dv) (ZI (JE true A.v A) (Je S.L true A.o A.y A.l)).length (liV (ZI (JE true A.v A) (Je S.L true A.o A.y A.l))) := Jo hov (Nat.le_trans (by have := HYZ2.out; omega) hBd.size)
 clear hbn hBd
 try go_wp2_with fail
 refine hK.out _ _ (HSY.out _ hBc) (fun hcl => ?_)
 clear hK K hcl
 try simp only [s1, s2, s3]
 refine tQ 15 Jg2 ?_ (HSY.out _ hBc)
 refine tQ 16 JgJ ?_ (HSY.out _ hBc)
 have z0 := (HYP2.out.next hBc).cell 2 rfl
 have z1 := (HYP2.out.next hBc).free 2
 obtain ⟨V, hV⟩ : ∃ V, V = wn.setCell ⟨p, 2, none⟩ (.slice av (ZI (JE true A.v A) (Je S.L true A.o A.y A.l)).length dv) := ⟨_, rfl⟩
 have hVP : Row V p #[.slice (some ⟨g0, 0, none⟩) S.l.length c0, .slice a1 S.T.length c1, .slice av (ZI (JE true A.v A) (Je S.L true A.o A.y A.l)).length dv, .slice a3 S.C.length c3] 29 := by rw [hV]; exact (HYP2.out.next hBc).st2 _
 have hVA : Row V w.heap.size #[int i64 A.r, int i64 A.s, int i64 A.t, u, int i64 A.k, .string A.o, .string A.y, int i64 A.v, int i64 A.x, int i64 A.z] 62 := by rw [hV]; exact (HYA2.out.next hBc).other (by simp; omega) _
 have hVb : ∀ j, j ≠ p → V.heap[j]? = wn.heap[j]? := fun j hj => by rw [hV]; exact Below.heap_setCell wn _ _ j (fun e => hj e)
 have hVs : wn.heap.size ≤ V.heap.size := by rw [hV]; simp [World.setCell]
 have hV3 : V.os = wn.os ∧ V.tape = wn.tape ∧ V.output = wn.output := by rw [hV]; exact ⟨rfl, rfl, rfl⟩
 have HV : Hid (wn.setCell ⟨p, 2, none⟩ (.slice av (ZI (JE true A.v A) (Je S.L true A.o A.y A.l)).length dv) = V) := hV.symm
 clear hV
 have HOF : Hid (OwnS V B (doS S A) (.slice (some ⟨g0, 0, none⟩) S.l.length c0) (.slice a1 S.T.length c1) (.slice av (ZI (JE true A.v A) (Je S.L true A.o A.y A.l)).length dv) (.slice a3 S.C.length c3)) := by
  show OwnS _ _ _ _ _ _ _
  rw [HDS.out]
  exact Own4.swap3 (p := p) HYO2.out HOFF2.out (fun k hk hp hr => by rw [hVb k hp]; exact hBc.block k hk) (G0 hov (fun k hk => hVb k (by have := hvlt k hk; have := HYZ2.out; omega))) (fun k hk => .inr (hvlt k hk))
 have HFF : Hid (FrB w V B p) := HYF2.out.trans ⟨hV3.1.trans hBc.os, hV3.2.1.trans hBc.tape, hV3.2.2.trans hBc.output, Nat.le_trans hBc.size hVs, fun k hk hp => by rw [hVb k hp]; exact hBc.block k (by have := HYZ2.out; omega)⟩
 have HRF := Ja hVP
 refine rd 17 Jgf (fun K hK => ?_)
 go_simp
 rw [show wn.setCell ⟨p, 2, none⟩ (.slice av (ins (fun y => decide (Jn (JE true A.v A).r (JE true A.v A).s y.r y.s)) (JE true A.v A) (Je S.L true A.o A.y A.l)).length dv) = V from HV.out]
 refine hK.out _ _ ⟨hVP.cell 0 rfl, hVP.cell 1 rfl, hVP.cell 3 rfl, hVA.cell 0 rfl, hVA.cell 1 rfl, hVA.cell 2 rfl, hVA.cell 3 rfl, hVA.cell 4 rfl, hVA.cell 5 rfl, hVA.cell 6 rfl, hVA.cell 7 rfl, hVA.cell 8 rfl, hVA.cell 9 rfl⟩ (fun hcl => ?_)
 clear hK K hcl z0 z1 hVP hVA hVb hVs hV3 HV hBc HSY hov hvlt
 refine wpd ?_
 go_wp2
 go_end0
 exact ⟨rfl, _, _, _, _, HRF.out, HOF.out, HFF.out⟩
abbrev JjI : Oper := oq 4 (.move (.tmp 0)) 169 "l07_done.go:87" #[] none
abbrev JjM : Oper := oq 5 (.nilCheck (.tmp 4)) 0 "l07_done.go:87" #[eD 0] none
abbrev Jkm : Oper := oq 6 (.fieldAddr 29 (.tmp 5) 0) 0 "l07_done.go:87" #[eD 1] none
abbrev Jkl : Oper := oq 7 (.load 24 (.tmp 6)) 24 "l07_done.go:87" #[eD 2] none
abbrev Jj0 : Oper := oq 8 (.fieldAddr 62 (.tmp 3) 0) 0 "l07_done.go:87" #[] none
abbrev Jjz : Oper := oq 9 (.fieldAddr 33 (.tmp 8) 0) 0 "l07_done.go:87" #[eD 4] none
abbrev JjE : Oper := oq 10 (.load 3 (.tmp 9)) 3 "l07_done.go:87" #[eD 5] none
abbrev JjJ : Oper := oq 11 (.fieldAddr 62 (.tmp 3) 0) 0 "l07_done.go:87" #[] none
abbrev Ji0 : Oper := oq 12 (.fieldAddr 33 (.tmp 11) 1) 0 "l07_done.go:87" #[eD 7] none
abbrev JiJ : Oper := oq 13 (.load 3 (.tmp 12)) 3 "l07_done.go:87" #[eD 8] none
abbrev JhG : Oper := oq 14 (.indexAddr 24 (.tmp 7) (.tmp 10)) 0 "l07_done.go:87" #[eD 3, eD 6, eP 0, eP 1, eP 2, eP 3, eP 4, eP 5, eP 6, eP 7, eP 8, eP 9] none
abbrev JfI : Oper := oz (.store 3 (.tmp 14) (.tmp 13)) 0 "l07_done.go:87" #[eD 10, eD 9, eP 0, eP 1, eP 2, eP 3, eP 4, eP 5, eP 6, eP 7, eP 8, eP 9] none
theorem Jdo (S : Sta) (A : Ac) (u : Value) (p : Nat) (u0 u1 u2 u3 : Value) (B : Nat) (w : World) (hS : SOk S) (hA : AOk A) (hR : JU S A) (hk : A.k = 5) (hp : Row w p #[u0, u1, u2, u3] 29) (hpl : p < w.heap.size) (hB : B ≤ w.heap.size) (hO : OwnS w B S u0 u1 u2 u3) (hoff : Zp p u0 u1 u2 u3) (hU : ∀ wx, FrB w wx B p → IntsAt wx u A.l) :
  Calls Tryz.prog 142 #[.pointer (some ⟨p, 0, none⟩), .agg #[int i64 A.r, int i64 A.s, int i64 A.t, u, int i64 A.k, .string A.o, .string A.y, int i64 A.v, int i64 A.x, int i64 A.z]] w fun e w' => e = .returned (.tuple #[]) ∧ ∃ v0 v1 v2 v3, Row w' p #[v0, v1, v2, v3] 29 ∧ OwnS w' B (doS S A) v0 v1 v2 v3 ∧ FrB w w' B p := by
 obtain ⟨a0, c0, a1, c1, a2, c2, a3, c3, rfl, rfl, rfl, rfl⟩ := hO.at.shape
 have hl3 : S.l.length = 3 := hS.1.1
 obtain ⟨g0, rfl⟩ : ∃ g, a0 = some ⟨g, 0, none⟩ := by
  rcases hO.1.1.2 with ⟨h0, h1⟩ | ⟨g, cap, cur, e, -⟩
  ·rw [hl3] at h1; cases h1
  ·injection e with e1; exact ⟨g, e1⟩
 obtain ⟨rn, hrn⟩ : ∃ rn : Nat, A.r = rn := Int.eq_ofNat_of_zero_le hA.1.1
 have hr3 : rn < 3 := by have := hA.1.2.1; omega
 have hO0 : w.ownsRow B 3 1 (.slice (some ⟨g0, 0, none⟩) S.l.length c0) S.l.length (Jj S.l) := hO.1.1
 have hg0 := hO0.lt g0 rfl
 have hg0p : g0 ≠ p := hoff.1 g0 rfl
 have HOFF := Ja hoff
 obtain ⟨W, hW⟩ : ∃ W, W = w.alloc (.cells #[int i64 A.r, int i64 A.s, int i64 A.t, u, int i64 A.k, .string A.o, .string A.y, int i64 A.v, int i64 A.x, int i64 A.z] 62) := ⟨_, rfl⟩
 have hBW : Below w.heap.size w W := by rw [hW]; exact (Below.refl _ _).alloc (Nat.le_refl _) _
 have hWs : W.heap.size = w.heap.size + 1 := by rw [hW]; simp
 have hRA : Row W w.heap.size #[int i64 A.r, int i64 A.s, int i64 A.t, u, int i64 A.k, .string A.o, .string A.y, int i64 A.v, int i64 A.x, int i64 A.z] 62 := by rw [hW]; exact Jb w _ _ rfl
 have hRP : Row W p #[.slice (some ⟨g0, 0, none⟩) S.l.length c0, .slice a1 S.T.length c1, .slice a2 S.L.length c2, .slice a3 S.C.length c3] 29 := hp.next hBW
 have hOW : OwnS W B S (.slice (some ⟨g0, 0, none⟩) S.l.length c0) (.slice a1 S.T.length c1) (.slice a2 S.L.length c2) (.slice a3 S.C.length c3) := Own4.next hO hBW
 have HW : Hid (w.alloc (.cells #[int i64 A.r, int i64 A.s, int i64 A.t, u, int i64 A.k, .string A.o, .string A.y, int i64 A.v, int i64 A.x, int i64 A.z] 62) = W) := hW.symm
 have HU := Ja hU
 have HLT3 : Hid (∀ j, (Value.slice a3 S.C.length c3).ownBlock = some j → j < w.heap.size) := fun j hj => (World.ownsRow.lt hO.1.2.2.2 j hj).2
 have HS := Ja hS
 have HA := Ja hA
 have HR := Ja hR
 have HK : Hid (A.k = 5) := hk
 have HL3 := Ja hl3
 have HRN := Ja hrn
 have hi1 : (rn : Int) < S.l.length := by omega
 have hi0 : (0 : Int) ≤ rn := by omega
 have HSS : Hid (∀ wx, Below W.heap.size W wx → wx.cell? ⟨p, 0, none⟩ = some (.slice (some ⟨g0, 0, none⟩) S.l.length c0) ∧ wx.cell? ⟨w.heap.size, 0, none⟩ = some (int i64 (rn : Int)) ∧ wx.cell? ⟨w.heap.size, 1, none⟩ = some (int i64 A.s)) := fun wx h => ⟨(hRP.next h).cell 0 rfl, by have := (hRA.next h).cell 0 rfl; rw [← HRN.out]; exact this, (hRA.next h).cell 1 rfl⟩
 have hBc : Below W.heap.size W W.drew := (Below.refl _ _).drew
 -- behind the store
 obtain ⟨Y, hY⟩ : ∃ Y, Y = W.drew.setCell ⟨g0, rn, none⟩ (int i64 A.s) := ⟨_, rfl⟩
 have hOD : W.drew.ownsRow B 3 1 (.slice (some ⟨g0, 0, none⟩) S.l.length c0) S.l.length (Jj S.l) := Jf hOW.1.1 hBc
 have y0 : W.drew.cell? ⟨g0, rn, none⟩ = some (int i64 (S.l.getD rn 0)) := by
  rw [hOD.cellAt rn (by omega)]; simp [Jj, List.getD, show rn < S.l.length by omega]
 have y1 := hOD.frozenAt rn
 have hYb : ∀ j, j ≠ g0 → Y.heap[j]? = W.drew.heap[j]? := fun j hj => by rw [hY]; exact Below.heap_setCell W.drew _ _ j (fun e => hj e)
 have hYs : Y.heap.size = W.heap.size := by rw [hY]; simp [World.setCell]
 have HYP : Hid (Row Y p #[.slice (some ⟨g0, 0, none⟩) S.l.length c0, .slice a1 S.T.length c1, .slice a2 S.L.length c2, .slice a3 S.C.length c3] 29) := by rw [hY]; exact (hRP.next hBc).other (by simp; omega) _
 have HYA : Hid (Row Y w.heap.size #[int i64 A.r, int i64 A.s, int i64 A.t, u, int i64 A.k, .string A.o, .string A.y, int i64 A.v, int i64 A.x, int i64 A.z] 62) := by rw [hY]; exact (hRA.next hBc).other (by simp; omega) _
 have hset : (Jj S.l).set rn (int i64 A.s) = Jj (S.l.set rn A.s) := by simp [Jj, List.map_set]
 have HYO : Hid (OwnS Y B ⟨S.l.set rn A.s, S.T, S.L, S.C⟩ (.slice (some ⟨g0, 0, none⟩) S.l.length c0) (.slice a1 S.T.length c1) (.slice a2 S.L.length c2) (.slice a3 S.C.length c3)) := by
  have hD : OwnS W.drew B S (.slice (some ⟨g0, 0, none⟩) S.l.length c0) (.slice a1 S.T.length c1) (.slice a2 S.L.length c2) (.slice a3 S.C.length c3) := Own4.next hOW hBc
  have ho1 : ownO Y B (some ⟨.slice (some ⟨g0, 0, none⟩) S.l.length c0, 3, 1, (S.l.set rn A.s).length, Jj (S.l.set rn A.s)⟩) := by
   show World.ownsRow _ _ _ _ _ _ _
   rw [← hset, List.length_set, hY]
   exact (hOD.stored rn (int i64 A.s)).1
  refine Own4.swap1 (p := p) hD HOFF.out (fun k hk hp hr => hYb k (fun e => hr (by rw [e]; rfl))) ho1 (fun k hk => .inl hk)
 have HYF : Hid (FrB w Y B p) := ⟨by rw [hY]; exact hBW.os, by rw [hY]; exact hBW.tape, by rw [hY]; exact hBW.output, by rw [hYs, hWs]; omega, fun j hj _ => by rw [hYb j (by omega)]; exact hBW.block j (by omega)⟩
 have HDS : Hid (doS S A = ⟨S.l.set rn A.s, S.T, Je S.L true A.o A.y A.l, S.C⟩) := by show _ = _; have e : A.r.toNat = rn := (by omega); unfold doS; rw [e, hk]; rfl
 have HYZ : Hid (Y.heap.size = w.heap.size + 1) := by show _ = _; omega
 have HY : Hid (W.drew.setCell ⟨g0, rn, none⟩ (int i64 A.s) = Y) := hY.symm
 rw [hrn]
 rw [hrn] at HW
 clear hS hA hR hU hp hO hoff hW hBW hRA hRP hOW hO0 hOD hset hYb hrn hl3 hWs hk hY hYs
 go_enter Tryz.func142, Tryz.ntmps142
 go_wp2
 rw [HW.out]
 try simp only [List.append_eq, List.cons_append, List.nil_append]
 refine wph HSS hBc 12 ?_
 refine tQ 0 JjI ?_ (HSS.out _ hBc); refine tQ 1 JjM ?_ (HSS.out _ hBc); refine tQ 2 Jkm ?_ (HSS.out _ hBc); refine tQ 3 Jkl ?_ (HSS.out _ hBc); refine tQ 4 Jj0 ?_ (HSS.out _ hBc); refine tQ 5 Jjz ?_ (HSS.out _ hBc); refine tQ 6 JjE ?_ (HSS.out _ hBc); refine tQ 7 JjJ ?_ (HSS.out _ hBc); refine tQ 8 Ji0 ?_ (HSS.out _ hBc); refine tQ 9 JiJ ?_ (HSS.out _ hBc); refine tQ 10 JhG ?_ (HSS.out _ hBc)
 have hS2 : Y.cell? ⟨p, 0, none⟩ = some (.slice (some ⟨g0, 0, none⟩) S.l.length c0) ∧ Y.cell? ⟨w.heap.size, 0, none⟩ = some (int i64 (rn : Int)) ∧ Y.cell? ⟨w.heap.size, 1, none⟩ = some (int i64 A.s) := ⟨HYP.out.cell 0 rfl, by have := HYA.out.cell 0 rfl; rw [← HRN.out]; exact this, HYA.out.cell 1 rfl⟩
 refine rd 11 JfI (fun K hK => ?_)
 go_simp
 rw [show (W.setCell ⟨g0, rn, none⟩ (int i64 A.s)).drew = W.drew.setCell ⟨g0, rn, none⟩ (int i64 A.s) from rfl, HY.out]
 refine hK.out _ _ hS2 (fun hcl => ?_)
 clear hK K hS2 y0 y1 HY HSS hBc HW hcl
 refine wpd ?_
 obtain ⟨m0, m1, m2, m3, m4, m5, m6, m7, m8, m9⟩ := Z7 HYA.out
 have b1 : (A.k == 1) = false := by simp [HK.out]
 have b2 : (A.k == 2) = false := by simp [HK.out]
 have b3 : (A.k == 3) = false := by simp [HK.out]
 have b4 : (A.k == 4) = false := by simp [HK.out]
 have b5 : (A.k == 5) = true := by simp [HK.out]
 have hAl : A.l.length ≤ 1048576 := by have := HA.out.2.1.1; omega
 have HTC := Ja (ZY S.L p (.slice (some ⟨g0, 0, none⟩) S.l.length c0) (.slice a1 S.T.length c1) (.slice a2 S.L.length c2) (.slice a3 S.C.length c3) true A.o A.y A.l u Y (Nat.le_trans HS.out.2.2.1.1 (by omega)) hAl HYP.out (LiAt.own HYO.out.1.2.2.1 rfl) (HU.out Y HYF.out))
 clear hAl
 go_wp2_with fail
 refine HTC.out.mono ?_
 rintro e w2 ⟨rfl, a2', d2', hRw, hOw, hF⟩
 have HRF := Ja hRw
 have HOF : Hid (OwnS w2 B (doS S A) (.slice (some ⟨g0, 0, none⟩) S.l.length c0) (.slice a1 S.T.length c1) (.slice a2' (Je S.L true A.o A.y A.l).length d2') (.slice a3 S.C.length c3)) := by
  show OwnS _ _ _ _ _ _ _
  rw [HDS.out]
  exact Own4.swap3 (p := p) HYO.out HOFF.out (fun k hk hp hr => hF.block k hk (fun e => hp (by injection e))) (Jo hOw (by have := HYZ.out; omega)) (fun k hk => .inr (hOw.lt k hk).1)
 have HFF : Hid (FrB w w2 B p) := HYF.out.trans (FrB.grown hF (by have := HYZ.out; omega))
 clear hRw hOw hF HTC
 clear m0 m1 m2 m3 m4 m5 m6 m7 m8 m9
 go_wp2
 go_end0
 exact ⟨rfl, _, _, _, _, HRF.out, HOF.out, HFF.out⟩
end Go.Proofs.YtdknoflkingodaaGreat
