/- Two states that went on from one. -/
import Derived.Test.YtdknoflkingodaaGreatQ39
set_option maxHeartbeats 16000000
namespace Go.Proofs.YtdknoflkingodaaGreat
open Value (int)
open IntKind (i64)
set_option maxRecDepth 100000
set_option linter.unusedVariables false
open Go.RowKit
theorem Jca {fn : Func} {p q r : Tmp} (h : fn.results = #[.cell p 29, .cell q 29, .cell r 29]) {tmps : Array Value} {w : World} {g k j : Nat} {c0 c1 c2 c3 d0 d1 d2 d3 e0 e1 e2 e3 : Value} (hp : tmps.getD p undef = .pointer (some ⟨g, 0, none⟩)) (hq : tmps.getD q undef = .pointer (some ⟨k, 0, none⟩)) (hr : tmps.getD r undef = .pointer (some ⟨j, 0, none⟩)) (hg : Row w g #[c0, c1, c2, c3] 29) (hk : Row w k #[d0, d1, d2, d3] 29) (hj : Row w j #[e0, e1, e2, e3] 29) :
  (results fn tmps).run Tryz.prog w = .ok (.tuple #[.agg #[c0, c1, c2, c3], .agg #[d0, d1, d2, d3], .agg #[e0, e1, e2, e3]]) w := by
 rw [Array.getD_eq_getD_getElem?] at hp hq hr
 simp only [results, h]
 simp [Sem.run_bind, hp, hq, hr, asAddr, Result.andThen, run_loadVar_row w g 29 29 _ (0, 0) _ hg Tryz.underlying29 rfl (by kernel_rfl), run_loadVar_row w k 29 29 _ (0, 0) _ hk Tryz.underlying29 rfl (by kernel_rfl), run_loadVar_row w j 29 29 _ (0, 0) _ hj Tryz.underlying29 rfl (by kernel_rfl)]
structure TwoS (M S R : Sta) : Prop where
 mo : SOk M
 so : SOk S
 ro : SOk R
 sb : Bnd 9 S
 rb : Bnd 9 R
 s : Went 0 M S
 r : Went 1 M R
structure Lies (w : World) (b g : Nat) (S : Sta) (v0 v1 v2 v3 : Value) : Prop where
 own : OwnS w b S v0 v1 v2 v3
 o1 : Zp (g + 1) v0 v1 v2 v3
 o2 : Zp (g + 1 + 1) v0 v1 v2 v3
theorem Lies.drew {w w' : World} {b B p n g : Nat} {v : Value} {S : Sta} {v0 v1 v2 v3 : Value} (h : Lies w b g S v0 v1 v2 v3) (hd : Drew w w' B p v n) (hp : p < b) : Lies w' b g S v0 v1 v2 v3 := ⟨h.own.drewC hd hp, h.o1, h.o2⟩
theorem Lies.put1 {w : World} {b g : Nat} {S : Sta} {v0 v1 v2 v3 : Value} (h : Lies w b g S v0 v1 v2 v3) (i : Nat) (x : Value) : Lies (w.setCell ⟨g + 1, i, none⟩ x) b g S v0 v1 v2 v3 := ⟨h.own.put h.o1, h.o1, h.o2⟩
theorem Lies.put2 {w : World} {b g : Nat} {S : Sta} {v0 v1 v2 v3 : Value} (h : Lies w b g S v0 v1 v2 v3) (i : Nat) (x : Value) : Lies (w.setCell ⟨g + 1 + 1, i, none⟩ x) b g S v0 v1 v2 v3 := ⟨h.own.put h.o2, h.o1, h.o2⟩
theorem Jk0 (B p : Nat) (v : Value) (n : Nat) (hn : n ≤ 1048576) (w : World) (hB : B ≤ w.heap.size) (hc : Cur w B p v n) :
  Calls Tryz.prog 82 #[.pointer (some ⟨p, 0, none⟩)] w fun e w' => ∃ M S R : Sta, TwoS M S R ∧ ∃ m0 m1 m2 m3 s0 s1 s2 s3 r0 r1 r2 r3 : Value, e = .returned (.tuple #[.agg #[m0, m1, m2, m3], .agg #[s0, s1, s2, s3], .agg #[r0, r1, r2, r3]]) ∧ OwnS w' w.heap.size M m0 m1 m2 m3 ∧ OwnS w' w.heap.size S s0 s1 s2 s3 ∧ OwnS w' w.heap.size R r0 r1 r2 r3 ∧ Drew w w' B p v n := by
 have hp := hc.lt
 obtain ⟨W, hW⟩ : ∃ W, W = ((w.alloc (.cells #[.slice none 0 0, .slice none 0 0, .slice none 0 0, .slice none 0 0] 29)).alloc (.cells #[.slice none 0 0, .slice none 0 0, .slice none 0 0, .slice none 0 0] 29)).alloc (.cells #[.slice none 0 0, .slice none 0 0, .slice none 0 0, .slice none 0 0] 29) := ⟨_, rfl⟩
 have HZ0 : Hid (Row W w.heap.size #[.slice none 0 0, .slice none 0 0, .slice none 0 0, .slice none 0 0] 29) := by rw [hW]; exact ((Jb w _ _ rfl).alloc _).alloc _
 have HZ1 : Hid (Row W (w.heap.size + 1) #[.slice none 0 0, .slice none 0 0, .slice none 0 0, .slice none 0 0] 29) := by rw [hW]; exact (Jb _ _ _ (by simp)).alloc _
 have HZ2 : Hid (Row W (w.heap.size + 1 + 1) #[.slice none 0 0, .slice none 0 0, .slice none 0 0, .slice none 0 0] 29) := by rw [hW]; exact Jb _ _ _ (by simp)
 have HD : Hid (Drew w W B p v n) := by rw [hW]; exact (((Drew.refl hc).alloc hp hB _).alloc hp hB _).alloc hp hB _
 have hWs : W.heap.size = w.heap.size + 3 := by rw [hW]; simp
 have HW : Hid (((w.alloc (.cells #[.slice none 0 0, .slice none 0 0, .slice none 0 0, .slice none 0 0] 29)).alloc (.cells #[.slice none 0 0, .slice none 0 0, .slice none 0 0, .slice none 0 0] 29)).alloc (.cells #[.slice none 0 0, .slice none 0 0, .slice none 0 0, .slice none 0 0] 29) = W) := hW.symm
 clear hW
 go_enter Tryz.func82, Tryz.ntmps82
 go_wp2_with fail
 rw [HW.out]
 clear HW
 try go_wp2_with fail
 refine (JbZ W).mono ?_
 rintro e w1 ⟨y0, y1, y2, y3, rfl, ho, hb⟩
 replace HZ0 := Ja (HZ0.out.next hb)
 replace HZ1 := Ja (HZ1.out.next hb)
 replace HZ2 := Ja (HZ2.out.next hb)
 replace HD := Ja (HD.out.call hp hB hb)
 have hs1 := hb.size
 have HO := Ja ho
 clear ho hb
 go_wp2_with fail
 refine (KU 5 (by omega) (by omega) B p v n hn _ HD.out.1).mono ?_
 rintro e w2 ⟨x, rfl, hx, hd⟩
 replace HZ0 := Ja (HZ0.out.grown hd.2 (by intro e; injection e with e; omega))
 replace HZ1 := Ja (HZ1.out.grown hd.2 (by intro e; injection e with e; omega))
 replace HZ2 := Ja (HZ2.out.grown hd.2 (by intro e; injection e with e; omega))
 replace HD := Ja (HD.out.trans hd)
 replace HO := Ja (OwnS.drewC HO.out hd (by omega))
 have hs2 := hd.2.size
 clear hd
 have hwx : IntKind.i64.wrap (1 + (x : Int)) = ((1 + x : Nat) : Int) := by rw [IntKind.wrap_i64] <;> omega
 go_wp2_with fail
 first | rw [hwx] | rw [show (1 + (x : Int)) = ((1 + x : Nat) : Int) by omega] | skip
 refine (Jgn 0 (1 + x) (by omega) W.heap.size B p v n hn w2 (by omega) HD.out.1 (by omega) (by omega) Gc _ _ _ _ Je4 Jd0 HO.out).mono ?_
 rintro e w3 ⟨M, hS, hM, v0, v1, v2, v3, rfl, ho, hd⟩
 obtain ⟨a0, c0, a1, c1, a2, c2, a3, c3, rfl, rfl, rfl, rfl⟩ := ho.at.shape
 replace HZ0 := Ja (HZ0.out.grown hd.2 (by intro e; injection e with e; omega))
 replace HZ1 := Ja (HZ1.out.grown hd.2 (by intro e; injection e with e; omega))
 replace HZ2 := Ja (HZ2.out.grown hd.2 (by intro e; injection e with e; omega))
 replace HD := Ja (HD.out.trans hd)
 have hs3 := hd.2.size
 have HMK := Ja hS
 have HMB : Hid (Bnd 5 M) := hM.mono (by omega)
 obtain ⟨g, hg⟩ : ∃ g, g = w3.heap.size := ⟨_, rfl⟩
 obtain ⟨Y, hY⟩ : ∃ Y, Y = ((w3.alloc (.cells #[.slice a0 M.l.length c0, .slice a1 M.T.length c1, .slice a2 M.L.length c2, .slice a3 M.C.length c3] 29)).alloc (.cells #[.slice a0 M.l.length c0, .slice a1 M.T.length c1, .slice a2 M.L.length c2, .slice a3 M.C.length c3] 29)).alloc (.cells #[.slice a0 M.l.length c0, .slice a1 M.T.length c1, .slice a2 M.L.length c2, .slice a3 M.C.length c3] 29) := ⟨_, rfl⟩
 have hz0 : Row Y w.heap.size #[.slice none 0 0, .slice none 0 0, .slice none 0 0, .slice none 0 0] 29 := by rw [hY]; exact ((HZ0.out.alloc _).alloc _).alloc _
 have hz1 : Row Y (w.heap.size + 1) #[.slice none 0 0, .slice none 0 0, .slice none 0 0, .slice none 0 0] 29 := by rw [hY]; exact ((HZ1.out.alloc _).alloc _).alloc _
 have hz2 : Row Y (w.heap.size + 1 + 1) #[.slice none 0 0, .slice none 0 0, .slice none 0 0, .slice none 0 0] 29 := by rw [hY]; exact ((HZ2.out.alloc _).alloc _).alloc _
 have hr0 : Row Y g #[.slice a0 M.l.length c0, .slice a1 M.T.length c1, .slice a2 M.L.length c2, .slice a3 M.C.length c3] 29 := by rw [hY, hg]; exact ((Jb w3 _ _ rfl).alloc _).alloc _
 have hr1 : Row Y (g + 1) #[.slice a0 M.l.length c0, .slice a1 M.T.length c1, .slice a2 M.L.length c2, .slice a3 M.C.length c3] 29 := by rw [hY, hg]; exact (Jb _ _ _ (by simp)).alloc _
 have hr2 : Row Y (g + 1 + 1) #[.slice a0 M.l.length c0, .slice a1 M.T.length c1, .slice a2 M.L.length c2, .slice a3 M.C.length c3] 29 := by rw [hY, hg]; exact Jb _ _ _ (by simp)
 have hl : Lies Y W.heap.size g M (.slice a0 M.l.length c0) (.slice a1 M.T.length c1) (.slice a2 M.L.length c2) (.slice a3 M.C.length c3) := by
  refine ⟨?_, ho.off (.inr (by omega)), ho.off (.inr (by omega))⟩
  rw [hY]; exact Own4.next ho ((((Below.refl _ _).alloc (Nat.le_refl _) _).alloc (by simp) _).alloc (by simp; omega) _)
 have hdY : Drew w Y B p v n := by rw [hY]; exact ((HD.out.alloc hp hB _).alloc hp hB _).alloc hp hB _
 have HYY : Hid (((w3.alloc (.cells #[.slice a0 M.l.length c0, .slice a1 M.T.length c1, .slice a2 M.L.length c2, .slice a3 M.C.length c3] 29)).alloc (.cells #[.slice a0 M.l.length c0, .slice a1 M.T.length c1, .slice a2 M.L.length c2, .slice a3 M.C.length c3] 29)).alloc (.cells #[.slice a0 M.l.length c0, .slice a1 M.T.length c1, .slice a2 M.L.length c2, .slice a3 M.C.length c3] 29) = Y) := hY.symm
 have hgs : W.heap.size ≤ g := by omega
 have HI : Hid (∃ (S : Sta) (s0 s1 s2 s3 : Value), SOk S ∧ Bnd (5 + 0) S ∧ Went 0 M S ∧ Lies Y W.heap.size g M (.slice a0 M.l.length c0) (.slice a1 M.T.length c1) (.slice a2 M.L.length c2) (.slice a3 M.C.length c3) ∧ Lies Y W.heap.size g S s0 s1 s2 s3 ∧ Row Y g #[.slice a0 M.l.length c0, .slice a1 M.T.length c1, .slice a2 M.L.length c2, .slice a3 M.C.length c3] 29 ∧ Row Y (g + 1) #[s0, s1, s2, s3] 29 ∧ Row Y (g + 1 + 1) #[.slice a0 M.l.length c0, .slice a1 M.T.length c1, .slice a2 M.L.length c2, .slice a3 M.C.length c3] 29 ∧ Row Y w.heap.size #[.slice none 0 0, .slice none 0 0, .slice none 0 0, .slice none 0 0] 29 ∧ Row Y (w.heap.size + 1) #[.slice none 0 0, .slice none 0 0, .slice none 0 0, .slice none 0 0] 29 ∧ Row Y (w.heap.size + 1 + 1) #[.slice none 0 0, .slice none 0 0, .slice none 0 0, .slice none 0 0] 29 ∧ Drew w Y B p v n) := ⟨M, _, _, _, _, hS, hM.mono (by omega), Went.refl 0 M, hl, hl, hr0, hr1, hr2, hz0, hz1, hz2, hdY⟩
 clear hY hz0 hz1 hz2 hr0 hr1 hr2 hl hdY HZ0 HZ1 HZ2 HD HO hS hM ho hd hs1 hs2 hs3 hx hwx
 go_wp2_with fail
 rw [HYY.out, ← hg]
 clear HYY hg

 go_loopw [8] (fun z wr => ∃ k : Nat, k ≤ 4 ∧ z = int i64 k ∧ ∃ (S : Sta) (s0 s1 s2 s3 : Value), SOk S ∧ Bnd (5 + k) S ∧ Went 0 M S ∧ Lies wr W.heap.size g M (.slice a0 M.l.length c0) (.slice a1 M.T.length c1) (.slice a2 M.L.length c2) (.slice a3 M.C.length c3) ∧ Lies wr W.heap.size g S s0 s1 s2 s3 ∧ Row wr g #[.slice a0 M.l.length c0, .slice a1 M.T.length c1, .slice a2 M.L.length c2, .slice a3 M.C.length c3] 29 ∧ Row wr (g + 1) #[s0, s1, s2, s3] 29 ∧ Row wr (g + 1 + 1) #[.slice a0 M.l.length c0, .slice a1 M.T.length c1, .slice a2 M.L.length c2, .slice a3 M.C.length c3] 29 ∧ Row wr w.heap.size #[.slice none 0 0, .slice none 0 0, .slice none 0 0, .slice none 0 0] 29 ∧ Row wr (w.heap.size + 1) #[.slice none 0 0, .slice none 0 0, .slice none 0 0, .slice none 0 0] 29 ∧ Row wr (w.heap.size + 1 + 1) #[.slice none 0 0, .slice none 0 0, .slice none 0 0, .slice none 0 0] 29 ∧ Drew w wr B p v n) (fun z _ => 4 - (intOf z).toNat)
 case atStart => exact ⟨0, by omega, rfl, HI.out⟩
 case round =>
  clear HI
  obtain ⟨k, hk, rfl, S, v0, v1, v2, v3, hS, hM, hW, hlM, hlX, t0, t1, t2, z0, z1, z2, hd⟩ := hrel
  obtain ⟨e0, f0, e1, f1, e2, f2, e3, f3, rfl, rfl, rfl, rfl⟩ := hlX.own.at.shape
  have HS := Ja hS
  have HM := Ja hM
  have HWT := Ja hW
  have hl2 := t2.lt
  clear hS hM hW
  go_wp2_with fail
  refine (KU 5 (by omega) (by omega) B p v n hn _ hd.1).mono ?_
  rintro e w1 ⟨x, rfl, hx, hd1⟩
  have hpw : (some p : Option Nat) = some p := rfl
  have HT0 := Ja (t0.grown hd1.2 (by intro e; injection e with e; omega))
  have HT1 := Ja (t1.grown hd1.2 (by intro e; injection e with e; omega))
  have HT2 := Ja (t2.grown hd1.2 (by intro e; injection e with e; omega))
  have HZ0 := Ja (z0.grown hd1.2 (by intro e; injection e with e; omega))
  have HZ1 := Ja (z1.grown hd1.2 (by intro e; injection e with e; omega))
  have HZ2 := Ja (z2.grown hd1.2 (by intro e; injection e with e; omega))
  have HLM := Ja (hlM.drew hd1 (by omega))
  have HLX := Ja (hlX.drew hd1 (by omega))
  skip
  have HD := Ja (hd.trans hd1)
  have hs1 := hd1.2.size
  clear hd hd1 hlM hlX  t0 t1 t2 z0 z1 z2 hpw
  by_cases hlt : k < x
  ·have hlt1 : (k : Int) < x := by omega
   obtain ⟨q0, q1, q2, q3⟩ := Row.four HT1.out
   go_wp2_with fail
   refine (Jfx 0 (5 + k) W.heap.size B p v n hn w1 (by omega) HD.out.1 (by omega) (by omega) S _ _ _ _ HS.out HM.out HLX.out.own).mono ?_
   rintro e w2 ⟨Q, hQ, hQM, hQW, y0, y1, y2, y3, rfl, ho, hoff, hd2⟩
   obtain ⟨b0, d0, b1, d1, b2, d2, b3, d3, rfl, rfl, rfl, rfl⟩ := ho.at.shape
   have HQW : Hid (Went 0 M Q) := hQW M HWT.out
   have HQK := Ja hQ
   have HQM : Hid (Bnd (5 + (k + 1)) Q) := hQM
   have t0 := HT0.out.grown hd2.2 (by intro e; injection e with e; omega)
   have t1 := HT1.out.grown hd2.2 (by intro e; injection e with e; omega)
   have t2 := HT2.out.grown hd2.2 (by intro e; injection e with e; omega)
   have z0 := HZ0.out.grown hd2.2 (by intro e; injection e with e; omega)
   have z1 := HZ1.out.grown hd2.2 (by intro e; injection e with e; omega)
   have z2 := HZ2.out.grown hd2.2 (by intro e; injection e with e; omega)
   have lM := HLM.out.drew hd2 (by omega)
   skip
   have lQ : Lies w2 W.heap.size g Q (.slice b0 Q.l.length d0) (.slice b1 Q.T.length d1) (.slice b2 Q.L.length d2) (.slice b3 Q.C.length d3) := ⟨ho, hoff _ (by omega) HLX.out.o1, hoff _ (by omega) HLX.out.o2⟩
   have hdd := HD.out.trans hd2
   clear hQ hQM hQW ho hoff hd2 q0 q1 q2 q3 HT0 HT1 HT2 HZ0 HZ1 HZ2 HLM HLX HD 
   obtain ⟨YY, hYY⟩ : ∃ YY, YY = (((w2.setCell ⟨g + 1, 0, none⟩ (.slice b0 Q.l.length d0)).setCell ⟨g + 1, 1, none⟩ (.slice b1 Q.T.length d1)).setCell ⟨g + 1, 2, none⟩ (.slice b2 Q.L.length d2)).setCell ⟨g + 1, 3, none⟩ (.slice b3 Q.C.length d3) := ⟨_, rfl⟩
   have HYY : Hid (((((w2.setCell ⟨g + 1, 0, none⟩ (.slice b0 Q.l.length d0)).setCell ⟨g + 1, 1, none⟩ (.slice b1 Q.T.length d1)).setCell ⟨g + 1, 2, none⟩ (.slice b2 Q.L.length d2)).setCell ⟨g + 1, 3, none⟩ (.slice b3 Q.C.length d3)) = YY) := hYY.symm
   have HT0 : Hid (Row YY g #[.slice a0 M.l.length c0, .slice a1 M.T.length c1, .slice a2 M.L.length c2, .slice a3 M.C.length c3] 29) := by rw [hYY]; exact (((t0.other (by simp; try omega) _).other (by simp; try omega) _).other (by simp; try omega) _).other (by simp; try omega) _
   have HT1 : Hid (Row YY (g + 1) #[.slice b0 Q.l.length d0, .slice b1 Q.T.length d1, .slice b2 Q.L.length d2, .slice b3 Q.C.length d3] 29) := by rw [hYY]; exact (((t1.st0 _).st1 _).st2 _).st3 _
   have HT2 : Hid (Row YY (g + 1 + 1) #[.slice a0 M.l.length c0, .slice a1 M.T.length c1, .slice a2 M.L.length c2, .slice a3 M.C.length c3] 29) := by rw [hYY]; exact (((t2.other (by simp; try omega) _).other (by simp; try omega) _).other (by simp; try omega) _).other (by simp; try omega) _
   have HZ0 : Hid (Row YY w.heap.size #[.slice none 0 0, .slice none 0 0, .slice none 0 0, .slice none 0 0] 29) := by rw [hYY]; exact (((z0.other (by simp; try omega) _).other (by simp; try omega) _).other (by simp; try omega) _).other (by simp; try omega) _
   have HZ1 : Hid (Row YY (w.heap.size + 1) #[.slice none 0 0, .slice none 0 0, .slice none 0 0, .slice none 0 0] 29) := by rw [hYY]; exact (((z1.other (by simp; try omega) _).other (by simp; try omega) _).other (by simp; try omega) _).other (by simp; try omega) _
   have HZ2 : Hid (Row YY (w.heap.size + 1 + 1) #[.slice none 0 0, .slice none 0 0, .slice none 0 0, .slice none 0 0] 29) := by rw [hYY]; exact (((z2.other (by simp; try omega) _).other (by simp; try omega) _).other (by simp; try omega) _).other (by simp; try omega) _
   have HLM : Hid (Lies YY W.heap.size g M (.slice a0 M.l.length c0) (.slice a1 M.T.length c1) (.slice a2 M.L.length c2) (.slice a3 M.C.length c3)) := by rw [hYY]; exact (((lM.put1 0 _).put1 1 _).put1 2 _).put1 3 _
   skip
   have HLQ : Hid (Lies YY W.heap.size g Q (.slice b0 Q.l.length d0) (.slice b1 Q.T.length d1) (.slice b2 Q.L.length d2) (.slice b3 Q.C.length d3)) := by rw [hYY]; exact (((lQ.put1 0 _).put1 1 _).put1 2 _).put1 3 _
   have HDD : Hid (Drew w YY B p v n) := by rw [hYY]; exact (((hdd.set hp hB (by omega) _ _).set hp hB (by omega) _ _).set hp hB (by omega) _ _).set hp hB (by omega) _ _
   obtain ⟨o0, o1, o2, o3⟩ := Row.four t1
   have g0 := t1.free 0
   have g1 := t1.free 1
   have g2 := t1.free 2
   have g3 := t1.free 3
   clear hYY t0 t1 t2 z0 z1 z2 lM  lQ hdd
   go_wp2
   rw [HYY.out]
   go_roundw
   all_goals first
    | exact ⟨k + 1, by omega, by go_num, Q, _, _, _, _, HQK.out, HQM.out, HQW.out, HLM.out, HLQ.out, HT0.out, HT1.out, HT2.out, HZ0.out, HZ1.out, HZ2.out, HDD.out⟩
    | (simp [intOf]; omega)
  ·have hlt1 : ¬ ((k : Int) < x) := by omega
   have HSB : Hid (Bnd 9 S) := HM.out.mono (by omega)
   have HSK := Ja HS.out
   have HSW := Ja HWT.out
   have HI2 : Hid (∃ (R : Sta) (r0 r1 r2 r3 : Value), SOk R ∧ Bnd (5 + 0) R ∧ Went 1 M R ∧ Lies w1 W.heap.size g M (.slice a0 M.l.length c0) (.slice a1 M.T.length c1) (.slice a2 M.L.length c2) (.slice a3 M.C.length c3) ∧ Lies w1 W.heap.size g S (.slice e0 S.l.length f0) (.slice e1 S.T.length f1) (.slice e2 S.L.length f2) (.slice e3 S.C.length f3) ∧ Lies w1 W.heap.size g R r0 r1 r2 r3 ∧ Row w1 g #[.slice a0 M.l.length c0, .slice a1 M.T.length c1, .slice a2 M.L.length c2, .slice a3 M.C.length c3] 29 ∧ Row w1 (g + 1) #[.slice e0 S.l.length f0, .slice e1 S.T.length f1, .slice e2 S.L.length f2, .slice e3 S.C.length f3] 29 ∧ Row w1 (g + 1 + 1) #[r0, r1, r2, r3] 29 ∧ Row w1 w.heap.size #[.slice none 0 0, .slice none 0 0, .slice none 0 0, .slice none 0 0] 29 ∧ Row w1 (w.heap.size + 1) #[.slice none 0 0, .slice none 0 0, .slice none 0 0, .slice none 0 0] 29 ∧ Row w1 (w.heap.size + 1 + 1) #[.slice none 0 0, .slice none 0 0, .slice none 0 0, .slice none 0 0] 29 ∧ Drew w w1 B p v n) := ⟨M, _, _, _, _, HMK.out, HMB.out.mono (by omega), Went.refl 1 M, HLM.out, HLX.out, HLM.out, HT0.out, HT1.out, HT2.out, HZ0.out, HZ1.out, HZ2.out, HD.out⟩
   clear HS HM HWT hk hlt HT0 HT1 HT2 HZ0 HZ1 HZ2 HLM HLX HD hl2 hs1 hx
   go_wp2
   try rw [show decide (k < x) = false from decide_eq_false (by omega)]
   clear hlt1
   go_loopw [9] (fun z wr => ∃ k : Nat, k ≤ 4 ∧ z = int i64 k ∧ ∃ (R : Sta) (r0 r1 r2 r3 : Value), SOk R ∧ Bnd (5 + k) R ∧ Went 1 M R ∧ Lies wr W.heap.size g M (.slice a0 M.l.length c0) (.slice a1 M.T.length c1) (.slice a2 M.L.length c2) (.slice a3 M.C.length c3) ∧ Lies wr W.heap.size g S (.slice e0 S.l.length f0) (.slice e1 S.T.length f1) (.slice e2 S.L.length f2) (.slice e3 S.C.length f3) ∧ Lies wr W.heap.size g R r0 r1 r2 r3 ∧ Row wr g #[.slice a0 M.l.length c0, .slice a1 M.T.length c1, .slice a2 M.L.length c2, .slice a3 M.C.length c3] 29 ∧ Row wr (g + 1) #[.slice e0 S.l.length f0, .slice e1 S.T.length f1, .slice e2 S.L.length f2, .slice e3 S.C.length f3] 29 ∧ Row wr (g + 1 + 1) #[r0, r1, r2, r3] 29 ∧ Row wr w.heap.size #[.slice none 0 0, .slice none 0 0, .slice none 0 0, .slice none 0 0] 29 ∧ Row wr (w.heap.size + 1) #[.slice none 0 0, .slice none 0 0, .slice none 0 0, .slice none 0 0] 29 ∧ Row wr (w.heap.size + 1 + 1) #[.slice none 0 0, .slice none 0 0, .slice none 0 0, .slice none 0 0] 29 ∧ Drew w wr B p v n) (fun z _ => 4 - (intOf z).toNat)
   case atStart => exact ⟨0, by omega, rfl, HI2.out⟩
   case round =>
    clear HI2
    obtain ⟨k, hk, rfl, R, v0, v1, v2, v3, hS, hM, hW, hlM, hlS0, hlX, t0, t1, t2, z0, z1, z2, hd⟩ := hrel
    obtain ⟨h0, j0, h1, j1, h2, j2, h3, j3, rfl, rfl, rfl, rfl⟩ := hlX.own.at.shape
    have HS := Ja hS
    have HM := Ja hM
    have HWT := Ja hW
    have hl2 := t2.lt
    clear hS hM hW
    go_wp2_with fail
    refine (KU 5 (by omega) (by omega) B p v n hn _ hd.1).mono ?_
    rintro e w1 ⟨x, rfl, hx, hd1⟩
    have hpw : (some p : Option Nat) = some p := rfl
    have HT0 := Ja (t0.grown hd1.2 (by intro e; injection e with e; omega))
    have HT1 := Ja (t1.grown hd1.2 (by intro e; injection e with e; omega))
    have HT2 := Ja (t2.grown hd1.2 (by intro e; injection e with e; omega))
    have HZ0 := Ja (z0.grown hd1.2 (by intro e; injection e with e; omega))
    have HZ1 := Ja (z1.grown hd1.2 (by intro e; injection e with e; omega))
    have HZ2 := Ja (z2.grown hd1.2 (by intro e; injection e with e; omega))
    have HLM := Ja (hlM.drew hd1 (by omega))
    have HLX := Ja (hlX.drew hd1 (by omega))
    have HLS := Ja (hlS0.drew hd1 (by omega))
    have HD := Ja (hd.trans hd1)
    have hs1 := hd1.2.size
    clear hd hd1 hlM hlX hlS0 t0 t1 t2 z0 z1 z2 hpw
    by_cases hlt : k < x
    ·have hlt1 : (k : Int) < x := by omega
     obtain ⟨q0, q1, q2, q3⟩ := Row.four HT2.out
     go_wp2_with fail
     refine (Jfx 1 (5 + k) W.heap.size B p v n hn w1 (by omega) HD.out.1 (by omega) (by omega) R _ _ _ _ HS.out HM.out HLX.out.own).mono ?_
     rintro e w2 ⟨Q, hQ, hQM, hQW, y0, y1, y2, y3, rfl, ho, hoff, hd2⟩
     obtain ⟨b0, d0, b1, d1, b2, d2, b3, d3, rfl, rfl, rfl, rfl⟩ := ho.at.shape
     have HQW : Hid (Went 1 M Q) := hQW M HWT.out
     have HQK := Ja hQ
     have HQM : Hid (Bnd (5 + (k + 1)) Q) := hQM
     have t0 := HT0.out.grown hd2.2 (by intro e; injection e with e; omega)
     have t1 := HT1.out.grown hd2.2 (by intro e; injection e with e; omega)
     have t2 := HT2.out.grown hd2.2 (by intro e; injection e with e; omega)
     have z0 := HZ0.out.grown hd2.2 (by intro e; injection e with e; omega)
     have z1 := HZ1.out.grown hd2.2 (by intro e; injection e with e; omega)
     have z2 := HZ2.out.grown hd2.2 (by intro e; injection e with e; omega)
     have lM := HLM.out.drew hd2 (by omega)
     have lS := HLS.out.drew hd2 (by omega)
     have lQ : Lies w2 W.heap.size g Q (.slice b0 Q.l.length d0) (.slice b1 Q.T.length d1) (.slice b2 Q.L.length d2) (.slice b3 Q.C.length d3) := ⟨ho, hoff _ (by omega) HLX.out.o1, hoff _ (by omega) HLX.out.o2⟩
     have hdd := HD.out.trans hd2
     clear hQ hQM hQW ho hoff hd2 q0 q1 q2 q3 HT0 HT1 HT2 HZ0 HZ1 HZ2 HLM HLX HD HLS
     obtain ⟨YY, hYY⟩ : ∃ YY, YY = (((w2.setCell ⟨g + 1 + 1, 0, none⟩ (.slice b0 Q.l.length d0)).setCell ⟨g + 1 + 1, 1, none⟩ (.slice b1 Q.T.length d1)).setCell ⟨g + 1 + 1, 2, none⟩ (.slice b2 Q.L.length d2)).setCell ⟨g + 1 + 1, 3, none⟩ (.slice b3 Q.C.length d3) := ⟨_, rfl⟩
     have HYY : Hid (((((w2.setCell ⟨g + 1 + 1, 0, none⟩ (.slice b0 Q.l.length d0)).setCell ⟨g + 1 + 1, 1, none⟩ (.slice b1 Q.T.length d1)).setCell ⟨g + 1 + 1, 2, none⟩ (.slice b2 Q.L.length d2)).setCell ⟨g + 1 + 1, 3, none⟩ (.slice b3 Q.C.length d3)) = YY) := hYY.symm
     have HT0 : Hid (Row YY g #[.slice a0 M.l.length c0, .slice a1 M.T.length c1, .slice a2 M.L.length c2, .slice a3 M.C.length c3] 29) := by rw [hYY]; exact (((t0.other (by simp; try omega) _).other (by simp; try omega) _).other (by simp; try omega) _).other (by simp; try omega) _
     have HT1 : Hid (Row YY (g + 1) #[.slice e0 S.l.length f0, .slice e1 S.T.length f1, .slice e2 S.L.length f2, .slice e3 S.C.length f3] 29) := by rw [hYY]; exact (((t1.other (by simp; try omega) _).other (by simp; try omega) _).other (by simp; try omega) _).other (by simp; try omega) _
     have HT2 : Hid (Row YY (g + 1 + 1) #[.slice b0 Q.l.length d0, .slice b1 Q.T.length d1, .slice b2 Q.L.length d2, .slice b3 Q.C.length d3] 29) := by rw [hYY]; exact (((t2.st0 _).st1 _).st2 _).st3 _
     have HZ0 : Hid (Row YY w.heap.size #[.slice none 0 0, .slice none 0 0, .slice none 0 0, .slice none 0 0] 29) := by rw [hYY]; exact (((z0.other (by simp; try omega) _).other (by simp; try omega) _).other (by simp; try omega) _).other (by simp; try omega) _
     have HZ1 : Hid (Row YY (w.heap.size + 1) #[.slice none 0 0, .slice none 0 0, .slice none 0 0, .slice none 0 0] 29) := by rw [hYY]; exact (((z1.other (by simp; try omega) _).other (by simp; try omega) _).other (by simp; try omega) _).other (by simp; try omega) _
     have HZ2 : Hid (Row YY (w.heap.size + 1 + 1) #[.slice none 0 0, .slice none 0 0, .slice none 0 0, .slice none 0 0] 29) := by rw [hYY]; exact (((z2.other (by simp; try omega) _).other (by simp; try omega) _).other (by simp; try omega) _).other (by simp; try omega) _
     have HLM : Hid (Lies YY W.heap.size g M (.slice a0 M.l.length c0) (.slice a1 M.T.length c1) (.slice a2 M.L.length c2) (.slice a3 M.C.length c3)) := by rw [hYY]; exact (((lM.put2 0 _).put2 1 _).put2 2 _).put2 3 _
     have HLS : Hid (Lies YY W.heap.size g S (.slice e0 S.l.length f0) (.slice e1 S.T.length f1) (.slice e2 S.L.length f2) (.slice e3 S.C.length f3)) := by rw [hYY]; exact (((lS.put2 0 _).put2 1 _).put2 2 _).put2 3 _
     have HLQ : Hid (Lies YY W.heap.size g Q (.slice b0 Q.l.length d0) (.slice b1 Q.T.length d1) (.slice b2 Q.L.length d2) (.slice b3 Q.C.length d3)) := by rw [hYY]; exact (((lQ.put2 0 _).put2 1 _).put2 2 _).put2 3 _
     have HDD : Hid (Drew w YY B p v n) := by rw [hYY]; exact (((hdd.set hp hB (by omega) _ _).set hp hB (by omega) _ _).set hp hB (by omega) _ _).set hp hB (by omega) _ _
     obtain ⟨o0, o1, o2, o3⟩ := Row.four t2
     have g0 := t2.free 0
     have g1 := t2.free 1
     have g2 := t2.free 2
     have g3 := t2.free 3
     clear hYY t0 t1 t2 z0 z1 z2 lM lS lQ hdd
     go_wp2
     rw [HYY.out]
     go_roundw
     all_goals first
      | exact ⟨k + 1, by omega, by go_num, Q, _, _, _, _, HQK.out, HQM.out, HQW.out, HLM.out, HLS.out, HLQ.out, HT0.out, HT1.out, HT2.out, HZ0.out, HZ1.out, HZ2.out, HDD.out⟩
      | (simp [intOf]; omega)
    ·have hlt1 : ¬ ((k : Int) < x) := by omega
     have HRB : Hid (Bnd 9 R) := HM.out.mono (by omega)
     have HTW : Hid (TwoS M S R) := ⟨HMK.out, HSK.out, HS.out, HSB.out, HRB, HSW.out, HWT.out⟩
     have z00 := HZ0.out
     obtain ⟨x0, x1, x2, x3⟩ := Row.four HT0.out
     obtain ⟨y0, y1, y2, y3⟩ := Row.four HT1.out
     obtain ⟨u0, u1, u2, u3⟩ := Row.four HT2.out
     obtain ⟨o0, o1, o2, o3⟩ := Row.four HZ0.out
     obtain ⟨i0, i1, i2, i3⟩ := Row.four HZ1.out
     obtain ⟨l0, l1, l2, l3⟩ := Row.four HZ2.out
     have k0 := HZ0.out.free 0
     have k1 := HZ0.out.free 1
     have k2 := HZ0.out.free 2
     have k3 := HZ0.out.free 3
     have k4 := HZ1.out.free 0
     have k5 := HZ1.out.free 1
     have k6 := HZ1.out.free 2
     have k7 := HZ1.out.free 3
     have k8 := HZ2.out.free 0
     have k9 := HZ2.out.free 1
     have ka := HZ2.out.free 2
     have kb := HZ2.out.free 3
     have nn1 : (w.heap.size = g) = False := by simp; omega
     have nn2 : (w.heap.size = g + 1) = False := by simp; omega
     have nn3 : (w.heap.size = g + 1 + 1) = False := by simp; omega
     have nn4 : (w.heap.size + 1 = g) = False := by simp; omega
     have nn5 : (w.heap.size = g) = False := by simp; omega
     have nn6 : (g = w.heap.size) = False := by simp; omega
     have nn7 : (g = w.heap.size + 1) = False := by simp; omega
     have nn8 : (g = w.heap.size + 1 + 1) = False := by simp; omega
     have nn9 : (g + 1 = w.heap.size) = False := by simp; omega
     have nna : (g + 1 + 1 = w.heap.size) = False := by simp; omega
     have nnb : (g + 1 = w.heap.size + 1 + 1) = False := by simp; omega
     have nnd : (w.heap.size + 1 + 1 = g) = False := by simp; omega
     have nne : (w.heap.size + 1 + 1 = g + 1) = False := by simp; omega
     have nnf : (g + 1 + 1 = w.heap.size + 1) = False := by simp; omega
     have nng : (w.heap.size + 1 = g + 1 + 1) = False := by simp; omega
     clear HRB HS HM HWT HSB HSK HSW HMK HMB z00 HT0 HT1 HT2
     go_wp2_with fail
     go_region
     obtain ⟨F, hF⟩ : ∃ F, F = (((((((((((w1.setCell ⟨w.heap.size, 0, none⟩ (.slice a0 M.l.length c0)).setCell ⟨w.heap.size, 1, none⟩ (.slice a1 M.T.length c1)).setCell ⟨w.heap.size, 2, none⟩ (.slice a2 M.L.length c2)).setCell ⟨w.heap.size, 3, none⟩ (.slice a3 M.C.length c3)).setCell ⟨w.heap.size + 1, 0, none⟩ (.slice e0 S.l.length f0)).setCell ⟨w.heap.size + 1, 1, none⟩ (.slice e1 S.T.length f1)).setCell ⟨w.heap.size + 1, 2, none⟩ (.slice e2 S.L.length f2)).setCell ⟨w.heap.size + 1, 3, none⟩ (.slice e3 S.C.length f3)).setCell ⟨w.heap.size + 1 + 1, 0, none⟩ (.slice h0 R.l.length j0)).setCell ⟨w.heap.size + 1 + 1, 1, none⟩ (.slice h1 R.T.length j1)).setCell ⟨w.heap.size + 1 + 1, 2, none⟩ (.slice h2 R.L.length j2)).setCell ⟨w.heap.size + 1 + 1, 3, none⟩ (.slice h3 R.C.length j3) := ⟨_, rfl⟩
     have HF0 : Hid (Row F w.heap.size #[.slice a0 M.l.length c0, .slice a1 M.T.length c1, .slice a2 M.L.length c2, .slice a3 M.C.length c3] 29) := by rw [hF]; exact ((((((((((((HZ0.out.st0 _).st1 _).st2 _).st3 _).other (by simp; try omega) _).other (by simp; try omega) _).other (by simp; try omega) _).other (by simp; try omega) _).other (by simp; try omega) _).other (by simp; try omega) _).other (by simp; try omega) _).other (by simp; try omega) _)
     have HF1 : Hid (Row F (w.heap.size + 1) #[.slice e0 S.l.length f0, .slice e1 S.T.length f1, .slice e2 S.L.length f2, .slice e3 S.C.length f3] 29) := by rw [hF]; exact ((((((((((((HZ1.out.other (by simp; try omega) _).other (by simp; try omega) _).other (by simp; try omega) _).other (by simp; try omega) _).st0 _).st1 _).st2 _).st3 _).other (by simp; try omega) _).other (by simp; try omega) _).other (by simp; try omega) _).other (by simp; try omega) _)
     have HF2 : Hid (Row F (w.heap.size + 1 + 1) #[.slice h0 R.l.length j0, .slice h1 R.T.length j1, .slice h2 R.L.length j2, .slice h3 R.C.length j3] 29) := by rw [hF]; exact ((((((((((((HZ2.out.other (by simp; try omega) _).other (by simp; try omega) _).other (by simp; try omega) _).other (by simp; try omega) _).other (by simp; try omega) _).other (by simp; try omega) _).other (by simp; try omega) _).other (by simp; try omega) _).st0 _).st1 _).st2 _).st3 _)
     have oM : ∀ q, q < W.heap.size → Zp q (.slice a0 M.l.length c0) (.slice a1 M.T.length c1) (.slice a2 M.L.length c2) (.slice a3 M.C.length c3) := fun q hq => HLM.out.own.off (.inl hq)
     have oS : ∀ q, q < W.heap.size → Zp q (.slice e0 S.l.length f0) (.slice e1 S.T.length f1) (.slice e2 S.L.length f2) (.slice e3 S.C.length f3) := fun q hq => HLS.out.own.off (.inl hq)
     have oR : ∀ q, q < W.heap.size → Zp q (.slice h0 R.l.length j0) (.slice h1 R.T.length j1) (.slice h2 R.L.length j2) (.slice h3 R.C.length j3) := fun q hq => HLX.out.own.off (.inl hq)
     have HOM : Hid (OwnS F w.heap.size M (.slice a0 M.l.length c0) (.slice a1 M.T.length c1) (.slice a2 M.L.length c2) (.slice a3 M.C.length c3)) := by rw [hF]; exact Own4.base ((((((((((((HLM.out.own.put (oM _ (by omega))).put (oM _ (by omega))).put (oM _ (by omega))).put (oM _ (by omega))).put (oM _ (by omega))).put (oM _ (by omega))).put (oM _ (by omega))).put (oM _ (by omega))).put (oM _ (by omega))).put (oM _ (by omega))).put (oM _ (by omega))).put (oM _ (by omega))) (by omega)
     have HOS : Hid (OwnS F w.heap.size S (.slice e0 S.l.length f0) (.slice e1 S.T.length f1) (.slice e2 S.L.length f2) (.slice e3 S.C.length f3)) := by rw [hF]; exact Own4.base ((((((((((((HLS.out.own.put (oS _ (by omega))).put (oS _ (by omega))).put (oS _ (by omega))).put (oS _ (by omega))).put (oS _ (by omega))).put (oS _ (by omega))).put (oS _ (by omega))).put (oS _ (by omega))).put (oS _ (by omega))).put (oS _ (by omega))).put (oS _ (by omega))).put (oS _ (by omega))) (by omega)
     have HOR : Hid (OwnS F w.heap.size R (.slice h0 R.l.length j0) (.slice h1 R.T.length j1) (.slice h2 R.L.length j2) (.slice h3 R.C.length j3)) := by rw [hF]; exact Own4.base ((((((((((((HLX.out.own.put (oR _ (by omega))).put (oR _ (by omega))).put (oR _ (by omega))).put (oR _ (by omega))).put (oR _ (by omega))).put (oR _ (by omega))).put (oR _ (by omega))).put (oR _ (by omega))).put (oR _ (by omega))).put (oR _ (by omega))).put (oR _ (by omega))).put (oR _ (by omega))) (by omega)
     have HDF : Hid (Drew w F B p v n) := by rw [hF]; exact ((((((((((((HD.out.set hp hB (by omega) _ _).set hp hB (by omega) _ _).set hp hB (by omega) _ _).set hp hB (by omega) _ _).set hp hB (by omega) _ _).set hp hB (by omega) _ _).set hp hB (by omega) _ _).set hp hB (by omega) _ _).set hp hB (by omega) _ _).set hp hB (by omega) _ _).set hp hB (by omega) _ _).set hp hB (by omega) _ _)
     rw [← hF]
     clear hF
     go_wp2
     exact bodyPost_ret (Jca rfl rfl rfl rfl HF0.out HF1.out HF2.out) rfl ⟨M, S, R, HTW.out, _, _, _, _, _, _, _, _, _, _, _, _, rfl, HOM.out, HOS.out, HOR.out, HDF.out.call hp hB (Below.drew (Below.refl _ _))⟩
end Go.Proofs.YtdknoflkingodaaGreat
