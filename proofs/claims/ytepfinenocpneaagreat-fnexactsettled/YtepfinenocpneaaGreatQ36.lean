/- The program's deeds on lives. -/
import Derived.Deep.RegionWith
import Derived.Test.YtepfinenocpneaaGreatQ35
set_option maxHeartbeats 16000000
namespace Go.Proofs.YtepfinenocpneaaGreat
open Value (int)
open IntKind (i64)
set_option maxRecDepth 100000
set_option linter.unusedVariables false
open Go.RowKit
theorem JaF (S : Sta) (a0 a1 a2 a3 : Option Addr) (n0 n1 n3 c0 c1 c2 c3 : Nat) (A : Ac) (aa : Option Addr) (ca : Nat) (w : World) (hS : SOk S) (hk : ¬ Jf S.l A.r A.s = true) (h : LiAt w (.slice a2 S.L.length c2) S.L) (hu : IntsAt w (.slice aa A.l.length ca) A.l) (hal : A.l.length ≤ 1048576 ∧ A.o.size ≤ 1048576 ∧ A.y.size ≤ 1048576) :
  Calls Tryz.prog 123 #[.agg #[.slice a0 n0 c0, .slice a1 n1 c1, .slice a2 S.L.length c2, .slice a3 n3 c3], .agg #[int i64 A.r, int i64 A.s, int i64 A.t, .slice aa A.l.length ca, int i64 A.k, .string A.o, .string A.y, int i64 A.v, int i64 A.x, int i64 A.z]] w fun e w' => ∃ q, e = .returned (.agg #[.slice a0 n0 c0, .slice a1 n1 c1, q, .slice a3 n3 c3]) ∧ w'.ownsRow w.heap.size 88 6 q (JE (Jj false A.v A) S.L).length (liV (JE (Jj false A.v A) S.L)) ∧ Below w.heap.size w w' := by
 obtain ⟨W, hW⟩ : ∃ W, W = ((w.alloc (.cells #[.slice a0 n0 c0, .slice a1 n1 c1, .slice a2 S.L.length c2, .slice a3 n3 c3] 29)).alloc (.cells #[int i64 A.r, int i64 A.s, int i64 A.t, .slice aa A.l.length ca, int i64 A.k, .string A.o, .string A.y, int i64 A.v, int i64 A.x, int i64 A.z] 44)).alloc (.cells #[.slice none 0 0, .slice none 0 0, .slice none 0 0, .slice none 0 0] 29) := ⟨_, rfl⟩
 have hWs : W.heap.size = w.heap.size + 1 + 1 + 1 := by rw [hW]; simp
 have hB0 : Below w.heap.size w W := by rw [hW]; exact (((Below.refl _ _).alloc (Nat.le_refl _) _).alloc (by simp) _).alloc (by simp; omega) _
 have hR1 : Row W w.heap.size #[.slice a0 n0 c0, .slice a1 n1 c1, .slice a2 S.L.length c2, .slice a3 n3 c3] 29 := by rw [hW]; exact ((Jb w _ _ rfl).alloc _).alloc _
 have hR2 : Row W (w.heap.size + 1) #[int i64 A.r, int i64 A.s, int i64 A.t, .slice aa A.l.length ca, int i64 A.k, .string A.o, .string A.y, int i64 A.v, int i64 A.x, int i64 A.z] 44 := by rw [hW]; exact (Jb _ _ _ (by simp)).alloc _
 have hR3 : Row W (w.heap.size + 1 + 1) #[.slice none 0 0, .slice none 0 0, .slice none 0 0, .slice none 0 0] 29 := by rw [hW]; exact Jb _ _ _ (by simp)
 have HWW : Hid (((w.alloc (.cells #[.slice a0 n0 c0, .slice a1 n1 c1, .slice a2 S.L.length c2, .slice a3 n3 c3] 29)).alloc (.cells #[int i64 A.r, int i64 A.s, int i64 A.t, .slice aa A.l.length ca, int i64 A.k, .string A.o, .string A.y, int i64 A.v, int i64 A.x, int i64 A.z] 44)).alloc (.cells #[.slice none 0 0, .slice none 0 0, .slice none 0 0, .slice none 0 0] 29) = W) := hW.symm
 have hlen := hS.len.2.2.1
 have HC : Hid (Calls Tryz.prog 143 #[.agg #[.slice a0 n0 c0, .slice a1 n1 c1, .slice a2 S.L.length c2, .slice a3 n3 c3], .bool false, .agg #[int i64 A.r, int i64 A.s, int i64 A.t, .slice aa A.l.length ca, int i64 A.k, .string A.o, .string A.y, int i64 A.v, int i64 A.x, int i64 A.z]] W fun e w' => ∃ q, e = .returned (.agg #[.slice a0 n0 c0, .slice a1 n1 c1, q, .slice a3 n3 c3]) ∧ w'.ownsRow W.heap.size 88 6 q (JE (Jj false A.v A) S.L).length (liV (JE (Jj false A.v A) S.L)) ∧ Below W.heap.size W w') := Kf S.L _ _ _ _ _ _ _ _ _ _ _ false A aa ca W (by omega) (JdF hS.pairL _ _) (hS.noL hk) (h.below hB0) hal.2.1 hal.2.2
 obtain ⟨e0, e1, e2, e3⟩ := Row.four hR1
 obtain ⟨m0, m1, m2, m3, m4, m5, m6, m7, m8, m9⟩ := Row.ten hR2
 have HB0 := Ja hB0
 have HWS := Ja hWs
 have HR3 := Ja hR3
 rw [hW] at e0 e1 e2 e3 m0 m1 m2 m3 m4 m5 m6 m7 m8 m9
 clear hW h hu hB0 hR1 hR2 hR3 hWs hS hk hal hlen
 go_enter Tryz.func123, Tryz.ntmps123
 go_wp2_with fail
 rw [HWW.out]
 refine HC.out.mono ?_
 rintro e w5 ⟨u, rfl, hou, hb5⟩
 clear HWW HC e0 e1 e2 e3 m0 m1 m2 m3 m4 m5 m6 m7 m8 m9
 obtain ⟨aq, cq, rfl⟩ := JN hou
 have HB5 := Ja hb5
 have HOQ : Hid (w5.ownsRow W.heap.size 88 6 (.slice aq (JE (Jj false A.v A) S.L).length cq) (JE (Jj false A.v A) S.L).length (liV (JE (Jj false A.v A) S.L))) := hou
 generalize hnq : (JE (Jj false A.v A) S.L).length = nq at *
 have HNQ := Ja hnq
 have hr3 := HR3.out.next hb5
 clear hnq hou hb5
 obtain ⟨r0, r1, r2, r3⟩ := Row.four hr3
 have fr0 := hr3.free 0
 have fr1 := hr3.free 1
 have fr2 := hr3.free 2
 have fr3 := hr3.free 3
 have hWz : w.heap.size + 1 + 1 < W.heap.size := by have := HWS.out; omega
 have HRF : Hid (Row ((((w5.setCell ⟨w.heap.size + 1 + 1, 0, none⟩ (.slice a0 n0 c0)).setCell ⟨w.heap.size + 1 + 1, 1, none⟩ (.slice a1 n1 c1)).setCell ⟨w.heap.size + 1 + 1, 2, none⟩ (.slice aq nq cq)).setCell ⟨w.heap.size + 1 + 1, 3, none⟩ (.slice a3 n3 c3)) (w.heap.size + 1 + 1) #[.slice a0 n0 c0, .slice a1 n1 c1, .slice aq nq cq, .slice a3 n3 c3] 29) := ZK hr3
 have HOF : Hid (((((w5.setCell ⟨w.heap.size + 1 + 1, 0, none⟩ (.slice a0 n0 c0)).setCell ⟨w.heap.size + 1 + 1, 1, none⟩ (.slice a1 n1 c1)).setCell ⟨w.heap.size + 1 + 1, 2, none⟩ (.slice aq nq cq)).setCell ⟨w.heap.size + 1 + 1, 3, none⟩ (.slice a3 n3 c3)).ownsRow W.heap.size 88 6 (.slice aq nq cq) nq (liV (JE (Jj false A.v A) S.L))) := Vx HOQ.out hWz
 have HBF : Hid (Below w.heap.size w ((((w5.setCell ⟨w.heap.size + 1 + 1, 0, none⟩ (.slice a0 n0 c0)).setCell ⟨w.heap.size + 1 + 1, 1, none⟩ (.slice a1 n1 c1)).setCell ⟨w.heap.size + 1 + 1, 2, none⟩ (.slice aq nq cq)).setCell ⟨w.heap.size + 1 + 1, 3, none⟩ (.slice a3 n3 c3))) := JS (HB0.out.trans (HB5.out.mono HB0.out.size)) (by omega)
 clear hr3 hWz
 go_wp2
 refine bodyPost_ret (ZQ rfl rfl rfl HRF.out) rfl ⟨_, rfl, ?_, HBF.out⟩
 rw [HNQ.out]
 exact Jk HOF.out HB0.out.size
theorem Vs (S : Sta) (a0 a1 a2 a3 : Option Addr) (n0 n1 n3 c0 c1 c2 c3 : Nat) (A : Ac) (aa : Option Addr) (ca : Nat) (w : World) (hS : SOk S) (hk : ¬ Jf S.l A.r A.s = true) (h : LiAt w (.slice a2 S.L.length c2) S.L) (hu : IntsAt w (.slice aa A.l.length ca) A.l) (hal : A.l.length ≤ 1048576 ∧ A.o.size ≤ 1048576 ∧ A.y.size ≤ 1048576) :
  Calls Tryz.prog 124 #[.agg #[.slice a0 n0 c0, .slice a1 n1 c1, .slice a2 S.L.length c2, .slice a3 n3 c3], .agg #[int i64 A.r, int i64 A.s, int i64 A.t, .slice aa A.l.length ca, int i64 A.k, .string A.o, .string A.y, int i64 A.v, int i64 A.x, int i64 A.z]] w fun e w' => ∃ q, e = .returned (.agg #[.slice a0 n0 c0, .slice a1 n1 c1, q, .slice a3 n3 c3]) ∧ w'.ownsRow w.heap.size 88 6 q (Jd S.L false A.o A.y A.l).length (liV (Jd S.L false A.o A.y A.l)) ∧ Below w.heap.size w w' := by
 obtain ⟨W, hW⟩ : ∃ W, W = ((w.alloc (.cells #[.slice a0 n0 c0, .slice a1 n1 c1, .slice a2 S.L.length c2, .slice a3 n3 c3] 29)).alloc (.cells #[int i64 A.r, int i64 A.s, int i64 A.t, .slice aa A.l.length ca, int i64 A.k, .string A.o, .string A.y, int i64 A.v, int i64 A.x, int i64 A.z] 44)).alloc (.cells #[.slice none 0 0, .slice none 0 0, .slice none 0 0, .slice none 0 0] 29) := ⟨_, rfl⟩
 have hWs : W.heap.size = w.heap.size + 1 + 1 + 1 := by rw [hW]; simp
 have hB0 : Below w.heap.size w W := by rw [hW]; exact (((Below.refl _ _).alloc (Nat.le_refl _) _).alloc (by simp) _).alloc (by simp; omega) _
 have hR1 : Row W w.heap.size #[.slice a0 n0 c0, .slice a1 n1 c1, .slice a2 S.L.length c2, .slice a3 n3 c3] 29 := by rw [hW]; exact ((Jb w _ _ rfl).alloc _).alloc _
 have hR2 : Row W (w.heap.size + 1) #[int i64 A.r, int i64 A.s, int i64 A.t, .slice aa A.l.length ca, int i64 A.k, .string A.o, .string A.y, int i64 A.v, int i64 A.x, int i64 A.z] 44 := by rw [hW]; exact (Jb _ _ _ (by simp)).alloc _
 have hR3 : Row W (w.heap.size + 1 + 1) #[.slice none 0 0, .slice none 0 0, .slice none 0 0, .slice none 0 0] 29 := by rw [hW]; exact Jb _ _ _ (by simp)
 have HWW : Hid (((w.alloc (.cells #[.slice a0 n0 c0, .slice a1 n1 c1, .slice a2 S.L.length c2, .slice a3 n3 c3] 29)).alloc (.cells #[int i64 A.r, int i64 A.s, int i64 A.t, .slice aa A.l.length ca, int i64 A.k, .string A.o, .string A.y, int i64 A.v, int i64 A.x, int i64 A.z] 44)).alloc (.cells #[.slice none 0 0, .slice none 0 0, .slice none 0 0, .slice none 0 0] 29) = W) := hW.symm
 have hlen := hS.len.2.2.1
 have HC : Hid (Calls Tryz.prog 144 #[.agg #[.slice a0 n0 c0, .slice a1 n1 c1, .slice a2 S.L.length c2, .slice a3 n3 c3], .bool false, .agg #[int i64 A.r, int i64 A.s, int i64 A.t, .slice aa A.l.length ca, int i64 A.k, .string A.o, .string A.y, int i64 A.v, int i64 A.x, int i64 A.z]] W fun e w' => ∃ q, e = .returned (.agg #[.slice a0 n0 c0, .slice a1 n1 c1, q, .slice a3 n3 c3]) ∧ w'.ownsRow W.heap.size 88 6 q (Jd S.L false A.o A.y A.l).length (liV (Jd S.L false A.o A.y A.l)) ∧ Below W.heap.size W w') := Zd S.L _ _ _ _ _ _ _ _ _ _ _ false A aa ca W (by omega) (h.below hB0) (hu.below hB0) hal.1
 obtain ⟨e0, e1, e2, e3⟩ := Row.four hR1
 obtain ⟨m0, m1, m2, m3, m4, m5, m6, m7, m8, m9⟩ := Row.ten hR2
 have HB0 := Ja hB0
 have HWS := Ja hWs
 have HR3 := Ja hR3
 rw [hW] at e0 e1 e2 e3 m0 m1 m2 m3 m4 m5 m6 m7 m8 m9
 clear hW h hu hB0 hR1 hR2 hR3 hWs hS hk hal hlen
 go_enter Tryz.func124, Tryz.ntmps124
 go_wp2_with fail
 rw [HWW.out]
 refine HC.out.mono ?_
 rintro e w5 ⟨u, rfl, hou, hb5⟩
 clear HWW HC e0 e1 e2 e3 m0 m1 m2 m3 m4 m5 m6 m7 m8 m9
 obtain ⟨aq, cq, rfl⟩ := JN hou
 have HB5 := Ja hb5
 have HOQ : Hid (w5.ownsRow W.heap.size 88 6 (.slice aq (Jd S.L false A.o A.y A.l).length cq) (Jd S.L false A.o A.y A.l).length (liV (Jd S.L false A.o A.y A.l))) := hou
 generalize hnq : (Jd S.L false A.o A.y A.l).length = nq at *
 have HNQ := Ja hnq
 have hr3 := HR3.out.next hb5
 clear hnq hou hb5
 obtain ⟨r0, r1, r2, r3⟩ := Row.four hr3
 have fr0 := hr3.free 0
 have fr1 := hr3.free 1
 have fr2 := hr3.free 2
 have fr3 := hr3.free 3
 have hWz : w.heap.size + 1 + 1 < W.heap.size := by have := HWS.out; omega
 have HRF : Hid (Row ((((w5.setCell ⟨w.heap.size + 1 + 1, 0, none⟩ (.slice a0 n0 c0)).setCell ⟨w.heap.size + 1 + 1, 1, none⟩ (.slice a1 n1 c1)).setCell ⟨w.heap.size + 1 + 1, 2, none⟩ (.slice aq nq cq)).setCell ⟨w.heap.size + 1 + 1, 3, none⟩ (.slice a3 n3 c3)) (w.heap.size + 1 + 1) #[.slice a0 n0 c0, .slice a1 n1 c1, .slice aq nq cq, .slice a3 n3 c3] 29) := ZK hr3
 have HOF : Hid (((((w5.setCell ⟨w.heap.size + 1 + 1, 0, none⟩ (.slice a0 n0 c0)).setCell ⟨w.heap.size + 1 + 1, 1, none⟩ (.slice a1 n1 c1)).setCell ⟨w.heap.size + 1 + 1, 2, none⟩ (.slice aq nq cq)).setCell ⟨w.heap.size + 1 + 1, 3, none⟩ (.slice a3 n3 c3)).ownsRow W.heap.size 88 6 (.slice aq nq cq) nq (liV (Jd S.L false A.o A.y A.l))) := Vx HOQ.out hWz
 have HBF : Hid (Below w.heap.size w ((((w5.setCell ⟨w.heap.size + 1 + 1, 0, none⟩ (.slice a0 n0 c0)).setCell ⟨w.heap.size + 1 + 1, 1, none⟩ (.slice a1 n1 c1)).setCell ⟨w.heap.size + 1 + 1, 2, none⟩ (.slice aq nq cq)).setCell ⟨w.heap.size + 1 + 1, 3, none⟩ (.slice a3 n3 c3))) := JS (HB0.out.trans (HB5.out.mono HB0.out.size)) (by omega)
 clear hr3 hWz
 go_wp2
 refine bodyPost_ret (ZQ rfl rfl rfl HRF.out) rfl ⟨_, rfl, ?_, HBF.out⟩
 rw [HNQ.out]
 exact Jk HOF.out HB0.out.size
theorem Vi (S : Sta) (a0 a1 a2 a3 : Option Addr) (n0 n1 n3 c0 c1 c2 c3 : Nat) (A : Ac) (aa : Option Addr) (ca : Nat) (w : World) (hS : SOk S) (hk : ¬ Jf S.l A.r A.s = true) (h : LiAt w (.slice a2 S.L.length c2) S.L) (hu : IntsAt w (.slice aa A.l.length ca) A.l) (hal : A.l.length ≤ 1048576 ∧ A.o.size ≤ 1048576 ∧ A.y.size ≤ 1048576) :
  Calls Tryz.prog 126 #[.agg #[.slice a0 n0 c0, .slice a1 n1 c1, .slice a2 S.L.length c2, .slice a3 n3 c3], .agg #[int i64 A.r, int i64 A.s, int i64 A.t, .slice aa A.l.length ca, int i64 A.k, .string A.o, .string A.y, int i64 A.v, int i64 A.x, int i64 A.z]] w fun e w' => ∃ q, e = .returned (.agg #[.slice a0 n0 c0, .slice a1 n1 c1, q, .slice a3 n3 c3]) ∧ w'.ownsRow w.heap.size 88 6 q (Jd S.L true A.o A.y A.l).length (liV (Jd S.L true A.o A.y A.l)) ∧ Below w.heap.size w w' := by
 obtain ⟨W, hW⟩ : ∃ W, W = ((w.alloc (.cells #[.slice a0 n0 c0, .slice a1 n1 c1, .slice a2 S.L.length c2, .slice a3 n3 c3] 29)).alloc (.cells #[int i64 A.r, int i64 A.s, int i64 A.t, .slice aa A.l.length ca, int i64 A.k, .string A.o, .string A.y, int i64 A.v, int i64 A.x, int i64 A.z] 44)).alloc (.cells #[.slice none 0 0, .slice none 0 0, .slice none 0 0, .slice none 0 0] 29) := ⟨_, rfl⟩
 have hWs : W.heap.size = w.heap.size + 1 + 1 + 1 := by rw [hW]; simp
 have hB0 : Below w.heap.size w W := by rw [hW]; exact (((Below.refl _ _).alloc (Nat.le_refl _) _).alloc (by simp) _).alloc (by simp; omega) _
 have hR1 : Row W w.heap.size #[.slice a0 n0 c0, .slice a1 n1 c1, .slice a2 S.L.length c2, .slice a3 n3 c3] 29 := by rw [hW]; exact ((Jb w _ _ rfl).alloc _).alloc _
 have hR2 : Row W (w.heap.size + 1) #[int i64 A.r, int i64 A.s, int i64 A.t, .slice aa A.l.length ca, int i64 A.k, .string A.o, .string A.y, int i64 A.v, int i64 A.x, int i64 A.z] 44 := by rw [hW]; exact (Jb _ _ _ (by simp)).alloc _
 have hR3 : Row W (w.heap.size + 1 + 1) #[.slice none 0 0, .slice none 0 0, .slice none 0 0, .slice none 0 0] 29 := by rw [hW]; exact Jb _ _ _ (by simp)
 have HWW : Hid (((w.alloc (.cells #[.slice a0 n0 c0, .slice a1 n1 c1, .slice a2 S.L.length c2, .slice a3 n3 c3] 29)).alloc (.cells #[int i64 A.r, int i64 A.s, int i64 A.t, .slice aa A.l.length ca, int i64 A.k, .string A.o, .string A.y, int i64 A.v, int i64 A.x, int i64 A.z] 44)).alloc (.cells #[.slice none 0 0, .slice none 0 0, .slice none 0 0, .slice none 0 0] 29) = W) := hW.symm
 have hlen := hS.len.2.2.1
 have HC : Hid (Calls Tryz.prog 144 #[.agg #[.slice a0 n0 c0, .slice a1 n1 c1, .slice a2 S.L.length c2, .slice a3 n3 c3], .bool true, .agg #[int i64 A.r, int i64 A.s, int i64 A.t, .slice aa A.l.length ca, int i64 A.k, .string A.o, .string A.y, int i64 A.v, int i64 A.x, int i64 A.z]] W fun e w' => ∃ q, e = .returned (.agg #[.slice a0 n0 c0, .slice a1 n1 c1, q, .slice a3 n3 c3]) ∧ w'.ownsRow W.heap.size 88 6 q (Jd S.L true A.o A.y A.l).length (liV (Jd S.L true A.o A.y A.l)) ∧ Below W.heap.size W w') := Zd S.L _ _ _ _ _ _ _ _ _ _ _ true A aa ca W (by omega) (h.below hB0) (hu.below hB0) hal.1
 obtain ⟨e0, e1, e2, e3⟩ := Row.four hR1
 obtain ⟨m0, m1, m2, m3, m4, m5, m6, m7, m8, m9⟩ := Row.ten hR2
 have HB0 := Ja hB0
 have HWS := Ja hWs
 have HR3 := Ja hR3
 rw [hW] at e0 e1 e2 e3 m0 m1 m2 m3 m4 m5 m6 m7 m8 m9
 clear hW h hu hB0 hR1 hR2 hR3 hWs hS hk hal hlen
 go_enter Tryz.func126, Tryz.ntmps126
 go_wp2_with fail
 rw [HWW.out]
 refine HC.out.mono ?_
 rintro e w5 ⟨u, rfl, hou, hb5⟩
 clear HWW HC e0 e1 e2 e3 m0 m1 m2 m3 m4 m5 m6 m7 m8 m9
 obtain ⟨aq, cq, rfl⟩ := JN hou
 have HB5 := Ja hb5
 have HOQ : Hid (w5.ownsRow W.heap.size 88 6 (.slice aq (Jd S.L true A.o A.y A.l).length cq) (Jd S.L true A.o A.y A.l).length (liV (Jd S.L true A.o A.y A.l))) := hou
 generalize hnq : (Jd S.L true A.o A.y A.l).length = nq at *
 have HNQ := Ja hnq
 have hr3 := HR3.out.next hb5
 clear hnq hou hb5
 obtain ⟨r0, r1, r2, r3⟩ := Row.four hr3
 have fr0 := hr3.free 0
 have fr1 := hr3.free 1
 have fr2 := hr3.free 2
 have fr3 := hr3.free 3
 have hWz : w.heap.size + 1 + 1 < W.heap.size := by have := HWS.out; omega
 have HRF : Hid (Row ((((w5.setCell ⟨w.heap.size + 1 + 1, 0, none⟩ (.slice a0 n0 c0)).setCell ⟨w.heap.size + 1 + 1, 1, none⟩ (.slice a1 n1 c1)).setCell ⟨w.heap.size + 1 + 1, 2, none⟩ (.slice aq nq cq)).setCell ⟨w.heap.size + 1 + 1, 3, none⟩ (.slice a3 n3 c3)) (w.heap.size + 1 + 1) #[.slice a0 n0 c0, .slice a1 n1 c1, .slice aq nq cq, .slice a3 n3 c3] 29) := ZK hr3
 have HOF : Hid (((((w5.setCell ⟨w.heap.size + 1 + 1, 0, none⟩ (.slice a0 n0 c0)).setCell ⟨w.heap.size + 1 + 1, 1, none⟩ (.slice a1 n1 c1)).setCell ⟨w.heap.size + 1 + 1, 2, none⟩ (.slice aq nq cq)).setCell ⟨w.heap.size + 1 + 1, 3, none⟩ (.slice a3 n3 c3)).ownsRow W.heap.size 88 6 (.slice aq nq cq) nq (liV (Jd S.L true A.o A.y A.l))) := Vx HOQ.out hWz
 have HBF : Hid (Below w.heap.size w ((((w5.setCell ⟨w.heap.size + 1 + 1, 0, none⟩ (.slice a0 n0 c0)).setCell ⟨w.heap.size + 1 + 1, 1, none⟩ (.slice a1 n1 c1)).setCell ⟨w.heap.size + 1 + 1, 2, none⟩ (.slice aq nq cq)).setCell ⟨w.heap.size + 1 + 1, 3, none⟩ (.slice a3 n3 c3))) := JS (HB0.out.trans (HB5.out.mono HB0.out.size)) (by omega)
 clear hr3 hWz
 go_wp2
 refine bodyPost_ret (ZQ rfl rfl rfl HRF.out) rfl ⟨_, rfl, ?_, HBF.out⟩
 rw [HNQ.out]
 exact Jk HOF.out HB0.out.size
theorem JbX (S : Sta) (a0 a1 a2 a3 : Option Addr) (n0 n1 n3 c0 c1 c2 c3 : Nat) (A : Ac) (aa : Option Addr) (ca : Nat) (w : World) (hS : SOk S) (hk : ¬ Jf S.l A.r A.s = true) (h : LiAt w (.slice a2 S.L.length c2) S.L) (hu : IntsAt w (.slice aa A.l.length ca) A.l) (hal : A.l.length ≤ 1048576 ∧ A.o.size ≤ 1048576 ∧ A.y.size ≤ 1048576) :
  Calls Tryz.prog 125 #[.agg #[.slice a0 n0 c0, .slice a1 n1 c1, .slice a2 S.L.length c2, .slice a3 n3 c3], .agg #[int i64 A.r, int i64 A.s, int i64 A.t, .slice aa A.l.length ca, int i64 A.k, .string A.o, .string A.y, int i64 A.v, int i64 A.x, int i64 A.z]] w fun e w' => ∃ q, e = .returned (.agg #[.slice a0 n0 c0, .slice a1 n1 c1, q, .slice a3 n3 c3]) ∧ w'.ownsRow w.heap.size 88 6 q (JE (Jj true A.v A) (Jd S.L true A.o A.y A.l)).length (liV (JE (Jj true A.v A) (Jd S.L true A.o A.y A.l))) ∧ Below w.heap.size w w' := by
 obtain ⟨W, hW⟩ : ∃ W, W = ((w.alloc (.cells #[.slice a0 n0 c0, .slice a1 n1 c1, .slice a2 S.L.length c2, .slice a3 n3 c3] 29)).alloc (.cells #[int i64 A.r, int i64 A.s, int i64 A.t, .slice aa A.l.length ca, int i64 A.k, .string A.o, .string A.y, int i64 A.v, int i64 A.x, int i64 A.z] 44)).alloc (.cells #[.slice none 0 0, .slice none 0 0, .slice none 0 0, .slice none 0 0] 29) := ⟨_, rfl⟩
 have hWs : W.heap.size = w.heap.size + 1 + 1 + 1 := by rw [hW]; simp
 have hB0 : Below w.heap.size w W := by rw [hW]; exact (((Below.refl _ _).alloc (Nat.le_refl _) _).alloc (by simp) _).alloc (by simp; omega) _
 have hR1 : Row W w.heap.size #[.slice a0 n0 c0, .slice a1 n1 c1, .slice a2 S.L.length c2, .slice a3 n3 c3] 29 := by rw [hW]; exact ((Jb w _ _ rfl).alloc _).alloc _
 have hR2 : Row W (w.heap.size + 1) #[int i64 A.r, int i64 A.s, int i64 A.t, .slice aa A.l.length ca, int i64 A.k, .string A.o, .string A.y, int i64 A.v, int i64 A.x, int i64 A.z] 44 := by rw [hW]; exact (Jb _ _ _ (by simp)).alloc _
 have hR3 : Row W (w.heap.size + 1 + 1) #[.slice none 0 0, .slice none 0 0, .slice none 0 0, .slice none 0 0] 29 := by rw [hW]; exact Jb _ _ _ (by simp)
 have HWW : Hid (((w.alloc (.cells #[.slice a0 n0 c0, .slice a1 n1 c1, .slice a2 S.L.length c2, .slice a3 n3 c3] 29)).alloc (.cells #[int i64 A.r, int i64 A.s, int i64 A.t, .slice aa A.l.length ca, int i64 A.k, .string A.o, .string A.y, int i64 A.v, int i64 A.x, int i64 A.z] 44)).alloc (.cells #[.slice none 0 0, .slice none 0 0, .slice none 0 0, .slice none 0 0] 29) = W) := hW.symm
 have hlen := hS.len.2.2.1
 have HC1 : Hid (∀ wx, Below W.heap.size W wx → Calls Tryz.prog 144 #[.agg #[.slice a0 n0 c0, .slice a1 n1 c1, .slice a2 S.L.length c2, .slice a3 n3 c3], .bool true, .agg #[int i64 A.r, int i64 A.s, int i64 A.t, .slice aa A.l.length ca, int i64 A.k, .string A.o, .string A.y, int i64 A.v, int i64 A.x, int i64 A.z]] wx fun e w' => ∃ q, e = .returned (.agg #[.slice a0 n0 c0, .slice a1 n1 c1, q, .slice a3 n3 c3]) ∧ w'.ownsRow wx.heap.size 88 6 q (Jd S.L true A.o A.y A.l).length (liV (Jd S.L true A.o A.y A.l)) ∧ Below wx.heap.size wx w') := fun wx hb => Zd S.L _ _ _ _ _ _ _ _ _ _ _ true A aa ca wx (by omega) (h.below (hB0.trans (hb.mono hB0.size))) (hu.below (hB0.trans (hb.mono hB0.size))) hal.1
 have hl1 : (Jd S.L true A.o A.y A.l).length ≤ 120 := Nat.le_trans (List.length_filter_le _ _) hlen
 have HC2 : Hid (∀ wx aq cq, LiAt wx (.slice aq (Jd S.L true A.o A.y A.l).length cq) (Jd S.L true A.o A.y A.l) → Calls Tryz.prog 143 #[.agg #[.slice a0 n0 c0, .slice a1 n1 c1, .slice aq (Jd S.L true A.o A.y A.l).length cq, .slice a3 n3 c3], .bool true, .agg #[int i64 A.r, int i64 A.s, int i64 A.t, .slice aa A.l.length ca, int i64 A.k, .string A.o, .string A.y, int i64 A.v, int i64 A.x, int i64 A.z]] wx fun e w' => ∃ q, e = .returned (.agg #[.slice a0 n0 c0, .slice a1 n1 c1, q, .slice a3 n3 c3]) ∧ w'.ownsRow wx.heap.size 88 6 q (JE (Jj true A.v A) (Jd S.L true A.o A.y A.l)).length (liV (JE (Jj true A.v A) (Jd S.L true A.o A.y A.l))) ∧ Below wx.heap.size wx w') := fun wx aq cq hx => Kf (Jd S.L true A.o A.y A.l) _ _ _ _ _ _ _ _ _ _ _ true A aa ca wx (by omega) (JdF (hS.pairL.filter _) _ _) (fun y hy => hS.noL hk y (List.mem_filter.1 hy).1) hx hal.2.1 hal.2.2
 have HB0 := Ja hB0
 have HWS := Ja hWs
 have HR1 : Hid (∀ wx, Below W.heap.size W wx → Row wx w.heap.size #[.slice a0 n0 c0, .slice a1 n1 c1, .slice a2 S.L.length c2, .slice a3 n3 c3] 29) := fun wx h => hR1.next h
 have HR2 : Hid (∀ wx, Below W.heap.size W wx → Row wx (w.heap.size + 1) #[int i64 A.r, int i64 A.s, int i64 A.t, .slice aa A.l.length ca, int i64 A.k, .string A.o, .string A.y, int i64 A.v, int i64 A.x, int i64 A.z] 44) := fun wx h => hR2.next h
 have HR3 := Ja hR3
 clear hW h hu hB0 hWs hS hk hal hlen hl1 hR1 hR2 hR3
 go_enter Tryz.func125, Tryz.ntmps125
 go_wp2
 rw [HWW.out]
 clear HWW
 obtain ⟨e0, e1, e2, e3⟩ := Row.four (HR1.out W (Below.refl _ _))
 obtain ⟨m0, m1, m2, m3, m4, m5, m6, m7, m8, m9⟩ := Row.ten (HR2.out W (Below.refl _ _))
 have hr3 := HR3.out
 go_region_with (first
  | (go_at_call 144; refine (HC1.out _ (Below.refl _ _).drew).mono ?_; rintro e w4 ⟨q, rfl, hoq, hb4⟩; have hb4' : Below W.heap.size W w4 := (Below.refl W.heap.size W).drew.trans hb4; obtain ⟨a4, c4, rfl⟩ := JN hoq; have hat := LiAt.own hoq rfl; have HSZ := Ja hb4'.size; obtain ⟨g0, g1, g2, g3, g4, g5, g6, g7, g8, g9⟩ := Row.ten (HR2.out w4 hb4'))
  | (go_at_call 143; refine (HC2.out w4 a4 c4 hat).mono ?_; rintro e w5 ⟨u, rfl, hou, hb5'⟩; obtain ⟨aq, cq, rfl⟩ := JN hou; have hb5 := hb4'.trans (hb5'.mono hb4'.size); have hr5 := HR3.out.next hb5; obtain ⟨r0, r1, r2, r3⟩ := Row.four hr5; have fr0 := hr5.free 0; have fr1 := hr5.free 1; have fr2 := hr5.free 2; have fr3 := hr5.free 3))
 all_goals
  have hWz : w.heap.size + 1 + 1 < w4.heap.size := by have h1 := HWS.out; have h2 := HSZ.out; omega
  have hWy : w.heap.size ≤ w4.heap.size := by omega
  have HRF := Ja (ZK (x0 := .slice a0 n0 c0) (x1 := .slice a1 n1 c1) (x2 := .slice aq (JE (Jj true A.v A) (Jd S.L true A.o A.y A.l)).length cq) (x3 := .slice a3 n3 c3) hr5)
  have HOF := Ja (Vx (i0 := 0) (i1 := 1) (i2 := 2) (i3 := 3) (x0 := .slice a0 n0 c0) (x1 := .slice a1 n1 c1) (x2 := .slice aq (JE (Jj true A.v A) (Jd S.L true A.o A.y A.l)).length cq) (x3 := .slice a3 n3 c3) hou hWz)
  have HBF := Ja (JS (i0 := 0) (i1 := 1) (i2 := 2) (i3 := 3) (x0 := .slice a0 n0 c0) (x1 := .slice a1 n1 c1) (x2 := .slice aq (JE (Jj true A.v A) (Jd S.L true A.o A.y A.l)).length cq) (x3 := .slice a3 n3 c3) (HB0.out.trans (hb5.mono HB0.out.size)) (show w.heap.size ≤ w.heap.size + 1 + 1 by omega))
  go_wp2
  refine bodyPost_ret (ZQ rfl rfl rfl HRF.out) rfl ⟨_, rfl, Jk HOF.out hWy, HBF.out⟩
theorem JcP (r s : Int) (a : Ce) : decide (Jo r s a.r a.s) = true ↔ 0 < J0 r s a := by
 unfold J0
 rw [decide_eq_true_iff]
 rcases J4 a.r a.s r s with ⟨h1, h2⟩ | ⟨h1, h2⟩ | ⟨h1, h2⟩
 ·unfold Jo at h1 ⊢; omega
 ·unfold Jo; omega
 ·unfold Jo at h1 ⊢; omega
theorem Uh (l : List Ce) (v : Value) (x : Ce) (w : World) (hn : l.length ≤ 1000) (hp : Gw (J0 x.r x.s) l) (hx : ∀ y ∈ l, ¬ J0 x.r x.s y = 0) (h : CeAt w v l) :
  Calls Tryz.prog 145 #[v, .agg #[.string x.o, int i64 x.r, int i64 x.s, int i64 x.t, int i64 x.x, int i64 x.z, int i64 x.v, .bool x.g]] w fun e w' => ∃ u, e = .returned u ∧ w'.ownsRow w.heap.size 90 8 u (Zg x l).length (ceV (Zg x l)) ∧ Below w.heap.size w w' := by
 obtain ⟨W, hW⟩ : ∃ W, W = w.alloc (.cells #[.string x.o, int i64 x.r, int i64 x.s, int i64 x.t, int i64 x.x, int i64 x.z, int i64 x.v, .bool x.g] 90) := ⟨_, rfl⟩
 have HBW : Hid (Below w.heap.size w W) := by rw [hW]; exact (Below.refl _ _).alloc (Nat.le_refl _) _
 have hRW : Row W w.heap.size #[.string x.o, int i64 x.r, int i64 x.s, int i64 x.t, int i64 x.x, int i64 x.z, int i64 x.v, .bool x.g] 90 := by rw [hW]; exact Jb w _ _ rfl
 have HWW : Hid (w.alloc (.cells #[.string x.o, int i64 x.r, int i64 x.s, int i64 x.t, int i64 x.x, int i64 x.z, int i64 x.v, .bool x.g] 90) = W) := hW.symm
 have HAT : Hid (∀ wx, Below W.heap.size W wx → CeAt wx v l) := fun wx hx => h.below (HBW.out.trans (hx.mono HBW.out.size))
 have HRW : Hid (∀ wx, Below W.heap.size W wx → Row wx w.heap.size #[.string x.o, int i64 x.r, int i64 x.s, int i64 x.t, int i64 x.x, int i64 x.z, int i64 x.v, .bool x.g] 90) := fun wx hx => hRW.next hx
 have HRK : Hid (∀ wx, Calls Tryz.prog 135 #[.iface 90 (.agg #[.string x.o, int i64 x.r, int i64 x.s, int i64 x.t, int i64 x.x, int i64 x.z, int i64 x.v, .bool x.g])] wx fun e w' => e = .returned (.agg #[.string ⟨#[]⟩, int i64 x.r, int i64 x.s]) ∧ Below wx.heap.size wx w') := fun wx => Gx x wx
 have HPL : Hid (∀ wx, Below W.heap.size W wx → Calls Tryz.prog 121 #[v, .agg #[.string ⟨#[]⟩, int i64 x.r, int i64 x.s]] wx fun e w' => JT e l (J0 x.r x.s) ∧ Below wx.heap.size wx w') := fun wx hx => Z8 l v x.r x.s wx (by omega) hp (HAT.out wx hx)
 have HCL : Hid (∀ wx, Below W.heap.size W wx → Calls Tryz.prog 93 #[v] wx fun e w' => ∃ q, e = .returned q ∧ w'.ownsRow wx.heap.size 90 8 q l.length (ceV l) ∧ Below wx.heap.size wx w') := fun wx hx => KH l v wx hn (HAT.out wx hx)
 have HX := Ja hx
 have hcl := hRW
 obtain ⟨c0, c1, c2, c3, c4, c5, c6, c7⟩ : W.cell? ⟨w.heap.size, 0, none⟩ = some (.string x.o) ∧ W.cell? ⟨w.heap.size, 1, none⟩ = some (int i64 x.r) ∧ W.cell? ⟨w.heap.size, 2, none⟩ = some (int i64 x.s) ∧ W.cell? ⟨w.heap.size, 3, none⟩ = some (int i64 x.t) ∧ W.cell? ⟨w.heap.size, 4, none⟩ = some (int i64 x.x) ∧ W.cell? ⟨w.heap.size, 5, none⟩ = some (int i64 x.z) ∧ W.cell? ⟨w.heap.size, 6, none⟩ = some (int i64 x.v) ∧ W.cell? ⟨w.heap.size, 7, none⟩ = some (.bool x.g) := ⟨hRW.cell 0 rfl, hRW.cell 1 rfl, hRW.cell 2 rfl, hRW.cell 3 rfl, hRW.cell 4 rfl, hRW.cell 5 rfl, hRW.cell 6 rfl, hRW.cell 7 rfl⟩
 rw [hW] at c0 c1 c2 c3 c4 c5 c6 c7
 clear hW hRW h hp hx hcl
 go_enter Tryz.func145, Tryz.ntmps145
 go_wp2_with fail
 rw [HWW.out]
 refine (HRK.out _).mono ?_
 rintro e w1 ⟨rfl, hb1⟩
 clear HRK c0 c1 c2 c3 c4 c5 c6 c7
 go_wp2_with fail
 refine (HPL.out _ hb1).mono ?_
 rintro e w2 ⟨⟨k, b, rfl, hq⟩, hb2⟩
 have hB2 : Below W.heap.size W w2 := hb1.trans (hb2.mono hb1.size)
 clear HPL hb1 hb2
 have hbf : b = false := by
  cases b with
  | false => rfl
  | true => obtain ⟨hk, e⟩ := hq.2.2.2.1 rfl; exact absurd e (HX.out _ (List.getElem_mem hk))
 have hkl := hq.1
 have HPU : Hid (Zg x l = l.take k ++ x :: l.drop k) := KM hq hbf _ (fun a _ => JcP x.r x.s a) x
 clear hq HX hbf HWW
 have HZ2 := Ja hB2.size
 have HB2 := Ja hB2
 have HINS : Hid (∀ wx q gx, Below W.heap.size W wx → wx.ownsRow W.heap.size 90 8 q l.length (ceV l) → Row wx gx #[.string x.o, int i64 x.r, int i64 x.s, int i64 x.t, int i64 x.x, int i64 x.z, int i64 x.v, .bool x.g] 90 → (∀ b, q.ownBlock = some b → b ≠ gx) → Calls Tryz.prog 157 #[q, int i64 k, .slice (some ⟨gx, 0, none⟩) 1 1] wx fun e w' => ∃ u, e = .returned u ∧ w'.ownsRow W.heap.size 90 8 u (Zg x l).length (ceV (Zg x l)) ∧ Below W.heap.size W w') := fun wx q gx hbx hox hrx hne => by
  refine (VA l q k x gx wx W.heap.size hkl hn hox hrx hne hbx.size).mono ?_
  rintro e w' ⟨u, rfl, h1, h2⟩
  rw [← HPU.out] at h1
  exact ⟨u, rfl, h1, hbx.grown h2 hbx.size (fun j hj => (hox.lt j hj).1)⟩
 have HINA : Hid (∀ w4 q, Below w2.heap.size w2.drew w4 → w4.ownsRow w2.heap.size 90 8 q l.length (ceV l) → Calls Tryz.prog 157 #[q, int i64 k, .slice (some ⟨w4.heap.size, 0, none⟩) 1 1] (w4.alloc (.cells #[.string x.o, int i64 x.r, int i64 x.s, int i64 x.t, int i64 x.x, int i64 x.z, int i64 x.v, .bool x.g] 90)) fun e w' => ∃ u, e = .returned u ∧ w'.ownsRow W.heap.size 90 8 u (Zg x l).length (ceV (Zg x l)) ∧ Below W.heap.size W w') := fun w4 q hb ho =>
  HINS.out _ q _ ((HB2.out.drew.trans (hb.mono HZ2.out)).alloc (Nat.le_trans HZ2.out hb.size) _) ((Jk ho HZ2.out).alloc _) (Jb w4 _ _ rfl) (fun b hb' e => by have := (ho.lt b hb').2; omega)
 have HINB : Hid (∀ w4 q, Below (w2.drew.alloc (.cells #[.string x.o, int i64 x.r, int i64 x.s, int i64 x.t, int i64 x.x, int i64 x.z, int i64 x.v, .bool x.g] 90)).heap.size (w2.drew.alloc (.cells #[.string x.o, int i64 x.r, int i64 x.s, int i64 x.t, int i64 x.x, int i64 x.z, int i64 x.v, .bool x.g] 90)) w4 → w4.ownsRow (w2.drew.alloc (.cells #[.string x.o, int i64 x.r, int i64 x.s, int i64 x.t, int i64 x.x, int i64 x.z, int i64 x.v, .bool x.g] 90)).heap.size 90 8 q l.length (ceV l) → Calls Tryz.prog 157 #[q, int i64 k, .slice (some ⟨w2.heap.size, 0, none⟩) 1 1] w4 fun e w' => ∃ u, e = .returned u ∧ w'.ownsRow W.heap.size 90 8 u (Zg x l).length (ceV (Zg x l)) ∧ Below W.heap.size W w') := fun w4 q hb ho => by
  have e1 : (w2.drew.alloc (.cells #[.string x.o, int i64 x.r, int i64 x.s, int i64 x.t, int i64 x.x, int i64 x.z, int i64 x.v, .bool x.g] 90)).heap.size = w2.heap.size + 1 := by simp
  have h0 : Below W.heap.size W (w2.drew.alloc (.cells #[.string x.o, int i64 x.r, int i64 x.s, int i64 x.t, int i64 x.x, int i64 x.z, int i64 x.v, .bool x.g] 90)) := HB2.out.drew.alloc HZ2.out _
  have hz := HZ2.out
  exact HINS.out w4 q w2.heap.size (h0.trans (hb.mono h0.size)) (Jk ho (by omega)) ((Jb w2.drew _ _ rfl).next hb) (fun b hb' e => by have := (ho.lt b hb').1; omega)
 have hrow2 := HRW.out w2 HB2.out
 obtain ⟨d0, d1, d2, d3, d4, d5, d6, d7⟩ : w2.cell? ⟨w.heap.size, 0, none⟩ = some (.string x.o) ∧ w2.cell? ⟨w.heap.size, 1, none⟩ = some (int i64 x.r) ∧ w2.cell? ⟨w.heap.size, 2, none⟩ = some (int i64 x.s) ∧ w2.cell? ⟨w.heap.size, 3, none⟩ = some (int i64 x.t) ∧ w2.cell? ⟨w.heap.size, 4, none⟩ = some (int i64 x.x) ∧ w2.cell? ⟨w.heap.size, 5, none⟩ = some (int i64 x.z) ∧ w2.cell? ⟨w.heap.size, 6, none⟩ = some (int i64 x.v) ∧ w2.cell? ⟨w.heap.size, 7, none⟩ = some (.bool x.g) := ⟨hrow2.cell 0 rfl, hrow2.cell 1 rfl, hrow2.cell 2 rfl, hrow2.cell 3 rfl, hrow2.cell 4 rfl, hrow2.cell 5 rfl, hrow2.cell 6 rfl, hrow2.cell 7 rfl⟩
 have HWS : Hid (w.heap.size ≤ W.heap.size) := HBW.out.size
 clear hrow2 HINS hB2
 go_wp2
 go_region_with (first
  | (go_at_call 93; refine (HCL.out _ (by first | exact HB2.out.drew | exact HB2.out.drew.alloc HZ2.out _)).mono ?_; rintro e w4 ⟨q, rfl, ho4, hb4⟩; have hr4 := HRW.out w4 (by first | exact HB2.out.drew.trans (hb4.mono HZ2.out) | exact (HB2.out.drew.alloc HZ2.out _).trans (hb4.mono (HB2.out.drew.alloc HZ2.out _).size)); have g0 := hr4.cell 0 rfl; have g1 := hr4.cell 1 rfl; have g2 := hr4.cell 2 rfl; have g3 := hr4.cell 3 rfl; have g4 := hr4.cell 4 rfl; have g5 := hr4.cell 5 rfl; have g6 := hr4.cell 6 rfl; have g7 := hr4.cell 7 rfl)
  | (go_at_call 157; first | (refine (HINA.out _ _ hb4 ho4).mono ?_; rintro e w5 ⟨u, rfl, ho5, hb5⟩) | (refine (HINB.out _ _ hb4 ho4).mono ?_; rintro e w5 ⟨u, rfl, ho5, hb5⟩)))
 all_goals go_wp2
 all_goals go_ret
 all_goals exact ⟨_, rfl, Jk ho5 HWS.out, HBW.out.trans (hb5.mono HWS.out)⟩
abbrev lc0 : Oper := oq 6 (.fieldAddr 44 (.tmp 3) 4) 0 "l07_done.go:61" #[] none
abbrev lc1 : Oper := oq 7 (.load 9 (.tmp 6)) 9 "l07_done.go:61" #[eD 0] none
abbrev lc2 : Oper := oq 8 (.call ⟨.value (.func 94), #[.tmp 7], #[9]⟩) 9 "l07_done.go:61" #[eD 1] none
abbrev lc3 : Oper := oq 9 (.fieldAddr 44 (.tmp 3) 0) 0 "l07_done.go:61" #[] none
abbrev lc4 : Oper := oq 10 (.load 42 (.tmp 9)) 42 "l07_done.go:61" #[eD 3] none
abbrev lc5 : Oper := oq 11 (.fieldAddr 44 (.tmp 3) 1) 0 "l07_done.go:61" #[] none
abbrev lc6 : Oper := oq 12 (.load 3 (.tmp 11)) 3 "l07_done.go:61" #[eD 5] none
abbrev lc7 : Oper := oq 13 (.fieldAddr 44 (.tmp 3) 7) 0 "l07_done.go:61" #[] none
abbrev lc8 : Oper := oq 14 (.load 42 (.tmp 13)) 42 "l07_done.go:61" #[eD 7] none
abbrev lc9 : Oper := oq 15 (.fieldAddr 44 (.tmp 3) 6) 0 "l07_done.go:61" #[] none
abbrev JiT : Oper := oq 16 (.load 3 (.tmp 15)) 3 "l07_done.go:61" #[eD 9] none
abbrev Jhf : Oper := oq 17 (.build 90 #[(0, .tmp 8), (1, .tmp 10), (2, .tmp 12), (3, .tmp 14), (4, .tmp 16)]) 90 "l07_done.go:61" #[eD 2, eD 4, eD 6, eD 8, eD 10] none
abbrev JhD : Oper := oq 5 (.alloc 90) 0 "l07_done.go:61" #[] none
abbrev Ji7 : Oper := oz (.store 90 (.tmp 5) (.tmp 17)) 0 "l07_done.go:61" #[eD 12, eD 11, eC 2, eP 0, eP 1, eP 2, eP 3, eP 4, eP 5, eP 6, eP 7, eP 8, eP 9, eP 10, eP 11, eP 12] none
theorem UY (S : Sta) (a0 a1 a2 a3 : Option Addr) (n0 n1 n2 c0 c1 c2 c3 : Nat) (A : Ac) (aa : Option Addr) (ca : Nat) (w : World) (hS : SOk S) (hk : ¬ Jf S.l A.r A.s = true) (h : CeAt w (.slice a3 S.C.length c3) S.C) (hal : A.l.length ≤ 1048576 ∧ A.o.size ≤ 1048576 ∧ A.y.size ≤ 1048576) :
  Calls Tryz.prog 127 #[.agg #[.slice a0 n0 c0, .slice a1 n1 c1, .slice a2 n2 c2, .slice a3 S.C.length c3], .agg #[int i64 A.r, int i64 A.s, int i64 A.t, .slice aa A.l.length ca, int i64 A.k, .string A.o, .string A.y, int i64 A.v, int i64 A.x, int i64 A.z]] w fun e w' => ∃ q, e = .returned (.agg #[.slice a0 n0 c0, .slice a1 n1 c1, .slice a2 n2 c2, q]) ∧ w'.ownsRow w.heap.size 90 8 q (Zg (JI A) S.C).length (ceV (Zg (JI A) S.C)) ∧ Below w.heap.size w w' := by
 obtain ⟨W, hW⟩ : ∃ W, W = ((w.alloc (.cells #[.slice a0 n0 c0, .slice a1 n1 c1, .slice a2 n2 c2, .slice a3 S.C.length c3] 29)).alloc (.cells #[int i64 A.r, int i64 A.s, int i64 A.t, .slice aa A.l.length ca, int i64 A.k, .string A.o, .string A.y, int i64 A.v, int i64 A.x, int i64 A.z] 44)).alloc (.cells #[.slice none 0 0, .slice none 0 0, .slice none 0 0, .slice none 0 0] 29) := ⟨_, rfl⟩
 have hWs : W.heap.size = w.heap.size + 1 + 1 + 1 := by rw [hW]; simp
 have hB0 : Below w.heap.size w W := by rw [hW]; exact (((Below.refl _ _).alloc (Nat.le_refl _) _).alloc (by simp) _).alloc (by simp; omega) _
 have hR1 : Row W w.heap.size #[.slice a0 n0 c0, .slice a1 n1 c1, .slice a2 n2 c2, .slice a3 S.C.length c3] 29 := by rw [hW]; exact ((Jb w _ _ rfl).alloc _).alloc _
 have hR2 : Row W (w.heap.size + 1) #[int i64 A.r, int i64 A.s, int i64 A.t, .slice aa A.l.length ca, int i64 A.k, .string A.o, .string A.y, int i64 A.v, int i64 A.x, int i64 A.z] 44 := by rw [hW]; exact (Jb _ _ _ (by simp)).alloc _
 have hR3 : Row W (w.heap.size + 1 + 1) #[.slice none 0 0, .slice none 0 0, .slice none 0 0, .slice none 0 0] 29 := by rw [hW]; exact Jb _ _ _ (by simp)
 have HWW : Hid (((w.alloc (.cells #[.slice a0 n0 c0, .slice a1 n1 c1, .slice a2 n2 c2, .slice a3 S.C.length c3] 29)).alloc (.cells #[int i64 A.r, int i64 A.s, int i64 A.t, .slice aa A.l.length ca, int i64 A.k, .string A.o, .string A.y, int i64 A.v, int i64 A.x, int i64 A.z] 44)).alloc (.cells #[.slice none 0 0, .slice none 0 0, .slice none 0 0, .slice none 0 0] 29) = W) := hW.symm
 have hlen := hS.len.2.2.2
 have ho := hal.2.1
 have HCO : Hid (∀ wx, Calls Tryz.prog 94 #[.string A.o] wx fun e w' => e = .returned (.string A.o) ∧ Below wx.heap.size wx w') := fun wx => ZM A.o wx (by omega)
 have HWP : Hid (∀ wx, Below W.heap.size W wx → Calls Tryz.prog 145 #[.slice a3 S.C.length c3, .agg #[.string A.o, int i64 A.r, int i64 A.s, int i64 A.t, int i64 A.x, int i64 A.z, int i64 A.v, .bool false]] wx fun e w' => ∃ u, e = .returned u ∧ w'.ownsRow wx.heap.size 90 8 u (Zg (JI A) S.C).length (ceV (Zg (JI A) S.C)) ∧ Below wx.heap.size wx w') := fun wx hbx => Uh S.C _ (JI A) wx (by omega) (JaX hS.pairC _ _) (hS.noC hk) (h.below (hB0.trans (hbx.mono hB0.size)))
 have HB0 := Ja hB0
 have HR1 : Hid (∀ wx, Below W.heap.size W wx → Row wx w.heap.size #[.slice a0 n0 c0, .slice a1 n1 c1, .slice a2 n2 c2, .slice a3 S.C.length c3] 29) := fun wx h => hR1.next h
 have HR3 : Hid (∀ wx, Below W.heap.size W wx → Row wx (w.heap.size + 1 + 1) #[.slice none 0 0, .slice none 0 0, .slice none 0 0, .slice none 0 0] 29) := fun wx h => hR3.next h
 clear hW h hB0 hR1 hR3 hS hk hal hlen ho
 go_enter Tryz.func127, Tryz.ntmps127
 go_wp2
 rw [HWW.out]
 clear HWW
 have HS : Hid (∀ wx, Below W.heap.size W wx → wx.cell? ⟨w.heap.size + 1, 0, none⟩ = some (int i64 A.r) ∧ wx.cell? ⟨w.heap.size + 1, 1, none⟩ = some (int i64 A.s) ∧ wx.cell? ⟨w.heap.size + 1, 2, none⟩ = some (int i64 A.t) ∧ wx.cell? ⟨w.heap.size + 1, 3, none⟩ = some (.slice aa A.l.length ca) ∧ wx.cell? ⟨w.heap.size + 1, 4, none⟩ = some (int i64 A.k) ∧ wx.cell? ⟨w.heap.size + 1, 5, none⟩ = some (.string A.o) ∧ wx.cell? ⟨w.heap.size + 1, 6, none⟩ = some (.string A.y) ∧ wx.cell? ⟨w.heap.size + 1, 7, none⟩ = some (int i64 A.v) ∧ wx.cell? ⟨w.heap.size + 1, 8, none⟩ = some (int i64 A.x) ∧ wx.cell? ⟨w.heap.size + 1, 9, none⟩ = some (int i64 A.z)) := fun wx h => Row.ten (hR2.next h)
 have hBc : Below W.heap.size W W := Below.refl _ _
 have HWS := Ja hWs
 clear hWs
 replace hBc := hBc.drew
 have hs := Ja (HS.out _ hBc)
 refine wph HS hBc 14 ?_
 generalize W.drew = wn at *
 refine tQ 0 lc0 ?_; refine tQ 1 lc1 ?_; refine tQ 3 lc3 ?_; refine tQ 4 lc4 ?_; refine tQ 5 lc5 ?_; refine tQ 6 lc6 ?_; refine tQ 7 lc7 ?_; refine tQ 8 lc8 ?_; refine tQ 9 lc9 ?_; refine tQ 10 JiT ?_
 refine wpAnyH_ready (rs := [2, 12]) (by as_aux_lemma => kernel_rfl) (by simp) ?_
 refine AllReadyH.cons (o := lc2) rfl (fun K hK => ?_) (AllReadyH.cons (o := JhD) rfl (fun K hK => ?_) AllReadyH.nil)
 case' refine_2 =>
  have HG := Ja (Jb wn #[.string ⟨#[]⟩, int i64 0, int i64 0, int i64 0, int i64 0, int i64 0, int i64 0, .bool false] 90 rfl)
  have HGL := Ja hBc.size
  replace hBc := hBc.alloc hBc.size (.cells #[.string ⟨#[]⟩, int i64 0, int i64 0, int i64 0, int i64 0, int i64 0, int i64 0, .bool false] 90)
  replace hs := Ja (HS.out _ hBc)
  go_simp
  refine hK.out _ _ hs.out (fun hx => ?_)
  clear hx hK K
  try simp only [s1, s2, s3]
  generalize wn.alloc (.cells #[.string ⟨#[]⟩, int i64 0, int i64 0, int i64 0, int i64 0, int i64 0, int i64 0, .bool false] 90) = wq at *
  generalize wn.heap.size = gq at *
  refine rd 2 lc2 (fun K hK => ?_)
  go_simp
  refine (HCO.out _).mono ?_
  rintro e wn ⟨rfl, hbn⟩
  replace HG := Ja (HG.out.next hbn)
  replace hBc := nx hBc hbn
  clear hbn
  try go_wp2_with fail
  replace hs := Ja (HS.out _ hBc)
  refine hK.out _ _ hs.out (fun hx => ?_)
  clear hx hK K
  try simp only [s1, s2, s3]
  refine tQ 11 Jhf ?_
 case' refine_1 =>
  go_simp
  refine (HCO.out _).mono ?_
  rintro e wn ⟨rfl, hbn⟩
  replace hBc := nx hBc hbn
  clear hbn
  try go_wp2_with fail
  replace hs := Ja (HS.out _ hBc)
  refine hK.out _ _ hs.out (fun hx => ?_)
  clear hx hK K
  try simp only [s1, s2, s3]
  refine tQ 11 Jhf ?_
  refine rd 12 JhD (fun K hK => ?_)
  have HG := Ja (Jb wn #[.string ⟨#[]⟩, int i64 0, int i64 0, int i64 0, int i64 0, int i64 0, int i64 0, .bool false] 90 rfl)
  have HGL := Ja hBc.size
  replace hBc := hBc.alloc hBc.size (.cells #[.string ⟨#[]⟩, int i64 0, int i64 0, int i64 0, int i64 0, int i64 0, int i64 0, .bool false] 90)
  replace hs := Ja (HS.out _ hBc)
  go_simp
  refine hK.out _ _ hs.out (fun hx => ?_)
  clear hx hK K
  try simp only [s1, s2, s3]
  generalize wn.alloc (.cells #[.string ⟨#[]⟩, int i64 0, int i64 0, int i64 0, int i64 0, int i64 0, int i64 0, .bool false] 90) = wq at *
  generalize wn.heap.size = gq at *
 all_goals
  rename World => wz
  refine rd 13 Ji7 (fun K hK => ?_)
  obtain ⟨z0, z1, z2, z3, z4, z5, z6, z7⟩ := Jev HG.out
  have fz0 := HG.out.free 0
  have fz1 := HG.out.free 1
  have fz2 := HG.out.free 2
  have fz3 := HG.out.free 3
  have fz4 := HG.out.free 4
  have fz5 := HG.out.free 5
  have fz6 := HG.out.free 6
  have fz7 := HG.out.free 7
  have HBN : Hid (Below W.heap.size W ((((((((wz.setCell ⟨gq, 0, none⟩ (.string A.o)).setCell ⟨gq, 1, none⟩ (int i64 A.r)).setCell ⟨gq, 2, none⟩ (int i64 A.s)).setCell ⟨gq, 3, none⟩ (int i64 A.t)).setCell ⟨gq, 4, none⟩ (int i64 A.x)).setCell ⟨gq, 5, none⟩ (int i64 A.z)).setCell ⟨gq, 6, none⟩ (int i64 A.v)).setCell ⟨gq, 7, none⟩ (.bool false))) := ((((((((hBc.setCell (p := ⟨gq, 0, none⟩) HGL.out _).setCell (p := ⟨gq, 1, none⟩) HGL.out _).setCell (p := ⟨gq, 2, none⟩) HGL.out _).setCell (p := ⟨gq, 3, none⟩) HGL.out _).setCell (p := ⟨gq, 4, none⟩) HGL.out _).setCell (p := ⟨gq, 5, none⟩) HGL.out _).setCell (p := ⟨gq, 6, none⟩) HGL.out _).setCell (p := ⟨gq, 7, none⟩) HGL.out _)
  have HGN : Hid (Row ((((((((wz.setCell ⟨gq, 0, none⟩ (.string A.o)).setCell ⟨gq, 1, none⟩ (int i64 A.r)).setCell ⟨gq, 2, none⟩ (int i64 A.s)).setCell ⟨gq, 3, none⟩ (int i64 A.t)).setCell ⟨gq, 4, none⟩ (int i64 A.x)).setCell ⟨gq, 5, none⟩ (int i64 A.z)).setCell ⟨gq, 6, none⟩ (int i64 A.v)).setCell ⟨gq, 7, none⟩ (.bool false)) gq #[.string A.o, int i64 A.r, int i64 A.s, int i64 A.t, int i64 A.x, int i64 A.z, int i64 A.v, .bool false] 90) := by show Row _ _ _ _; exact ((((((((HG.out.setL 0 (.string A.o)).setL 1 (int i64 A.r)).setL 2 (int i64 A.s)).setL 3 (int i64 A.t)).setL 4 (int i64 A.x)).setL 5 (int i64 A.z)).setL 6 (int i64 A.v)).setL 7 (.bool false))
  replace hs := Ja (HS.out _ HBN.out)
  go_simp
  refine hK.out _ _ hs.out (fun hx => ?_)
  clear hx hK K
  try simp only [s1, s2, s3]
  refine wpd ?_
  replace HG := HGN
  replace hBc := HBN.out
  clear HGN HBN z0 z1 z2 z3 z4 z5 z6 z7 fz0 fz1 fz2 fz3 fz4 fz5 fz6 fz7 hs
  generalize ((((((((wz.setCell ⟨gq, 0, none⟩ (.string A.o)).setCell ⟨gq, 1, none⟩ (int i64 A.r)).setCell ⟨gq, 2, none⟩ (int i64 A.s)).setCell ⟨gq, 3, none⟩ (int i64 A.t)).setCell ⟨gq, 4, none⟩ (int i64 A.x)).setCell ⟨gq, 5, none⟩ (int i64 A.z)).setCell ⟨gq, 6, none⟩ (int i64 A.v)).setCell ⟨gq, 7, none⟩ (.bool false)) = wy at *
  obtain ⟨e0, e1, e2, e3⟩ := Row.four (HR1.out wy hBc)
  obtain ⟨z0, z1, z2, z3, z4, z5, z6, z7⟩ := Jev HG.out
  go_wp2_with fail
  refine (HWP.out wy hBc).mono ?_
  rintro e w5 ⟨q, rfl, hoq, hb5⟩
  obtain ⟨aq, cq, rfl⟩ := JN hoq
  have HB5 := Ja (hBc.trans (hb5.mono hBc.size))
  have HW1 : Hid (w.heap.size ≤ wy.heap.size) := by have h1 := HWS.out; have h2 := hBc.size; show _ ≤ _; omega
  have HLZ := Ja hBc.size
  have HOQ : Hid (w5.ownsRow wy.heap.size 90 8 (.slice aq (Zg (JI A) S.C).length cq) (Zg (JI A) S.C).length (ceV (Zg (JI A) S.C))) := hoq
  generalize hnq : (Zg (JI A) S.C).length = nq at *
  have HNQ := Ja hnq
  clear hnq
  clear hoq hb5 z0 z1 z2 z3 z4 z5 z6 z7 e0 e1 e2 e3 HG HGL HWP hBc
  have hr1 := HR1.out w5 HB5.out
  have hr3 := HR3.out w5 HB5.out
  obtain ⟨e0, e1, e2, e3⟩ := Row.four hr1
  obtain ⟨r0, r1, r2, r3⟩ := Row.four hr3
  have fe3 := hr1.free 3
  have fr0 := hr3.free 0
  have fr1 := hr3.free 1
  have fr2 := hr3.free 2
  have fr3 := hr3.free 3
  have HRF : Hid (Row (((((w5.setCell ⟨w.heap.size, 3, none⟩ (.slice aq nq cq)).setCell ⟨w.heap.size + 1 + 1, 0, none⟩ (.slice a0 n0 c0)).setCell ⟨w.heap.size + 1 + 1, 1, none⟩ (.slice a1 n1 c1)).setCell ⟨w.heap.size + 1 + 1, 2, none⟩ (.slice a2 n2 c2)).setCell ⟨w.heap.size + 1 + 1, 3, none⟩ (.slice aq nq cq)) (w.heap.size + 1 + 1) #[.slice a0 n0 c0, .slice a1 n1 c1, .slice a2 n2 c2, .slice aq nq cq] 29) := ZK (Ju hr3 (by omega))
  have hWz : w.heap.size + 1 + 1 < wy.heap.size := by
   have h1 := HWS.out
   have h2 := HLZ.out
   omega
  have HOF : Hid ((((((w5.setCell ⟨w.heap.size, 3, none⟩ (.slice aq nq cq)).setCell ⟨w.heap.size + 1 + 1, 0, none⟩ (.slice a0 n0 c0)).setCell ⟨w.heap.size + 1 + 1, 1, none⟩ (.slice a1 n1 c1)).setCell ⟨w.heap.size + 1 + 1, 2, none⟩ (.slice a2 n2 c2)).setCell ⟨w.heap.size + 1 + 1, 3, none⟩ (.slice aq nq cq)).ownsRow wy.heap.size 90 8 (.slice aq nq cq) nq (ceV (Zg (JI A) S.C))) := Vx (JB HOQ.out (by omega)) hWz
  have HBF : Hid (Below w.heap.size w (((((w5.setCell ⟨w.heap.size, 3, none⟩ (.slice aq nq cq)).setCell ⟨w.heap.size + 1 + 1, 0, none⟩ (.slice a0 n0 c0)).setCell ⟨w.heap.size + 1 + 1, 1, none⟩ (.slice a1 n1 c1)).setCell ⟨w.heap.size + 1 + 1, 2, none⟩ (.slice a2 n2 c2)).setCell ⟨w.heap.size + 1 + 1, 3, none⟩ (.slice aq nq cq))) := JS ((HB0.out.trans (HB5.out.mono HB0.out.size)).setCell (p := ⟨w.heap.size, 3, none⟩) (Nat.le_refl _) _) (by omega)
  clear hr1 hr3 hWz
  go_wp2
  refine bodyPost_ret (ZQ rfl rfl rfl HRF.out) rfl ⟨_, rfl, ?_, HBF.out⟩
  rw [HNQ.out]
  exact Jk HOF.out HW1.out
end Go.Proofs.YtepfinenocpneaaGreat
