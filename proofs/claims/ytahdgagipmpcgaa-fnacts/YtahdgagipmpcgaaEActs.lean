/- The law on acts, walked: for every slice of bytes it comes out true and writes into no memory that was there. -/
import Derived.BigRegion
import Derived.Test.YtahdgagipmpcgaaEDraw8
import Derived.Test.YtahdgagipmpcgaaEMath
import Derived.Test.YtahdgagipmpcgaaALaw6
import Derived.Test.YtahdgagipmpcgaaASam2
import Derived.Test.YtahdgagipmpcgaaCBig
namespace Go.Proofs.Ytahdgagipmpcgaa
set_option maxRecDepth 100000
set_option linter.unusedVariables false
open Go.RowKit

theorem acts_back (A : Ac) (h : (actT A).2 = true) : rdR (ByteArray.mk #[112, 113] ++ (actT A).1 ++ ByteArray.mk #[114]) 2 = (A, 2 + ((actT A).1.size : Int), true) := by
  by_cases hA : AOk A
  · have e : actT A = (ba (actB A), true) := by unfold actT; rw [if_pos hA]
    rw [e]
    have hq : ByteArray.mk #[112, 113] ++ ba (actB A) ++ ByteArray.mk #[114] = ba ([112, 113] ++ actB A ++ [114]) := by
      rw [show ByteArray.mk #[112, 113] = ba [112, 113] from rfl, show ByteArray.mk #[114] = ba [114] from rfl, ba_add, ba_add]
    rw [hq]
    have := rdR_back (s := ba ([112, 113] ++ actB A ++ [114])) (a := 2) (L := [114]) hA ⟨by rw [ba_size]; simp, by simp [ba]⟩
    rw [show (2 : Int) = ((2 : Nat) : Int) from rfl, this, ba_size]
    simp
  · have e : (actT A).2 = false := by unfold actT; rw [if_neg hA]
    rw [e] at h; cases h
theorem actT_ok (A : Ac) : (actT A).2 = decide (AOk A) := by
  unfold actT
  by_cases h : AOk A
  · rw [if_pos h, decide_eq_true h]
  · rw [if_neg h, decide_eq_false h]
theorem later_not (A B : Ac) (h : later A B = true) : later B A = false := by
  unfold later at *
  simp only [Bool.or_eq_true, Bool.and_eq_true, decide_eq_true_eq] at h
  simp only [Bool.or_eq_false_iff, Bool.and_eq_false_iff, decide_eq_false_iff_not]
  omega

set_option maxHeartbeats 40000000 in
theorem fnActs_walk (v : Value) (n : Nat) (hm : n ≤ maxLen) (w : World) (hc : CodeIs w w.heap.size v n) :
    Calls Try.prog 8 #[v] w fun e w' => e = .returned (.bool true) ∧ Below w.heap.size w w' := by
  obtain ⟨av, cv, rfl⟩ := hc.form
  have hbig := big_calls av n cv w
  unfold maxLen at hm
  cases hq : decide ((1048576 : Int) < n)
  · rw [hq] at hbig
    have hn : n ≤ 1048576 := by have := of_decide_eq_false hq; omega
    have HC : Hid (CodeIs w w.heap.size (.slice av n cv) n) := hc
    have HCW : Hid (∀ wx, Below w.heap.size w wx → CodeIs wx w.heap.size (.slice av n cv) n) := fun wx h => HC.out.below h
    clear hq hc hm
    go_enter Try.func8, Try.ntmps8
    go_wp2_with fail
    refine hbig.mono ?_
    rintro e w1 ⟨rfl, rfl⟩
    clear hbig
    go_wp2_with fail
    refine (drawActText_calls w1.heap.size _ n hn w1 (Nat.le_refl _) HC.out).mono ?_
    rintro e w2 ⟨A, ga, ca, hsA, rfl, ia, hb⟩
    have hlA := hsA.lim
    have hnB : w1.heap.size ≤ w1.heap.size := Nat.le_refl _
    unfold Ac.val
    obtain ⟨X1, hX1⟩ : ∃ XX, XX = w2.alloc (.cells #[.int .i64 A.r, .int .i64 A.s, .int .i64 A.t, .slice (some ⟨ga, 0, none⟩) A.l.length ca, .int .i64 A.k, .string A.o, .string A.y, .int .i64 A.v, .int .i64 A.x, .int .i64 A.z] 75) := ⟨_, rfl⟩
    have HX : Hid (w2.alloc (.cells #[.int .i64 A.r, .int .i64 A.s, .int .i64 A.t, .slice (some ⟨ga, 0, none⟩) A.l.length ca, .int .i64 A.k, .string A.o, .string A.y, .int .i64 A.v, .int .i64 A.x, .int .i64 A.z] 75) = X1) := hX1.symm
    have RA : Hid (Row X1 w2.heap.size #[.int .i64 A.r, .int .i64 A.s, .int .i64 A.t, .slice (some ⟨ga, 0, none⟩) A.l.length ca, .int .i64 A.k, .string A.o, .string A.y, .int .i64 A.v, .int .i64 A.x, .int .i64 A.z] 75) := by rw [hX1]; exact row_new _ _ _ rfl
    have IA : Hid (IntsAt X1 (.slice (some ⟨ga, 0, none⟩) A.l.length ca) A.l) := by rw [hX1]; exact (ia.alloc _)
    have HB : Hid (Below w1.heap.size w1 X1) := by rw [hX1]; exact hb.alloc hb.size _
    clear hX1
    clear ia hb
    have HT := hidI (actText_calls A _ X1 hlA IA.out)
    unfold Ac.val at HT
    have htz := actT_size A
    have hback := acts_back A
    have hokA := actT_ok A
    generalize (actT A).1 = t at *
    generalize (actT A).2 = ok at *
    go_wp2_with fail
    rw [HX.out]
    refine HT.out.mono ?_
    rintro e w3 ⟨rfl, hb⟩
    clear HT HX
    replace RA : Hid (Row w3 w2.heap.size #[.int .i64 A.r, .int .i64 A.s, .int .i64 A.t, .slice (some ⟨ga, 0, none⟩) A.l.length ca, .int .i64 A.k, .string A.o, .string A.y, .int .i64 A.v, .int .i64 A.x, .int .i64 A.z] 75) := RA.out.next hb
    replace IA : Hid (IntsAt w3 (.slice (some ⟨ga, 0, none⟩) A.l.length ca) A.l) := IA.out.below hb
    replace HB : Hid (Below w1.heap.size w1 w3) := HB.out.trans (hb.mono HB.out.size)
    clear hb
    have ha1 := add_str { data := #[112, 113] } t (by have : ByteArray.size { data := #[112, 113] } = 2 := rfl; omega)
    have hz1 : (ByteArray.mk #[112, 113] ++ t).size ≤ 300 := by rw [ByteArray.size_append]; have : ByteArray.size { data := #[112, 113] } = 2 := rfl; omega
    have ha2 := add_str (ByteArray.mk #[112, 113] ++ t) { data := #[114] } (by have : ByteArray.size { data := #[114] } = 1 := rfl; omega)
    have hz2 : (ByteArray.mk #[112, 113] ++ t ++ ByteArray.mk #[114]).size ≤ 400 := by rw [ByteArray.size_append]; have : ByteArray.size { data := #[114] } = 1 := rfl; omega
    generalize ByteArray.mk #[112, 113] ++ t = q3 at *
    generalize q3 ++ ByteArray.mk #[114] = q4 at *
    have HRD := hidI (readAct_calls q4 (by omega) 2 w3)
    have hlX := rdR_len q4 2
    unfold Ac.val at HRD
    generalize rdR q4 2 = P1 at *
    obtain ⟨X, ax, rx⟩ := P1
    dsimp only at HRD hlX
    have HBACK := hidI hback
    have HOKA := hidI hokA
    clear hback hokA
    go_wp2_with fail
    refine HRD.out.mono ?_
    rintro e w4 ⟨xa, xc, rfl, ho, hb⟩
    clear HRD ha1 ha2 hz1 hz2
    replace RA : Hid (Row w4 w2.heap.size #[.int .i64 A.r, .int .i64 A.s, .int .i64 A.t, .slice (some ⟨ga, 0, none⟩) A.l.length ca, .int .i64 A.k, .string A.o, .string A.y, .int .i64 A.v, .int .i64 A.x, .int .i64 A.z] 75) := RA.out.next hb
    replace IA : Hid (IntsAt w4 (.slice (some ⟨ga, 0, none⟩) A.l.length ca) A.l) := IA.out.below hb
    replace HB : Hid (Below w1.heap.size w1 w4) := HB.out.trans (hb.mono HB.out.size)
    have ix := IntsAt.own ho rfl
    clear hb ho
    obtain ⟨X2, hX2⟩ : ∃ XX, XX = w4.alloc (.cells #[.int .i64 X.r, .int .i64 X.s, .int .i64 X.t, .slice xa X.l.length xc, .int .i64 X.k, .string X.o, .string X.y, .int .i64 X.v, .int .i64 X.x, .int .i64 X.z] 75) := ⟨_, rfl⟩
    have HX : Hid (w4.alloc (.cells #[.int .i64 X.r, .int .i64 X.s, .int .i64 X.t, .slice xa X.l.length xc, .int .i64 X.k, .string X.o, .string X.y, .int .i64 X.v, .int .i64 X.x, .int .i64 X.z] 75) = X2) := hX2.symm
    replace RA : Hid (Row X2 w2.heap.size #[.int .i64 A.r, .int .i64 A.s, .int .i64 A.t, .slice (some ⟨ga, 0, none⟩) A.l.length ca, .int .i64 A.k, .string A.o, .string A.y, .int .i64 A.v, .int .i64 A.x, .int .i64 A.z] 75) := by rw [hX2]; exact (RA.out.alloc _)
    replace IA : Hid (IntsAt X2 (.slice (some ⟨ga, 0, none⟩) A.l.length ca) A.l) := by rw [hX2]; exact (IA.out.alloc _)
    have RX : Hid (Row X2 w4.heap.size #[.int .i64 X.r, .int .i64 X.s, .int .i64 X.t, .slice xa X.l.length xc, .int .i64 X.k, .string X.o, .string X.y, .int .i64 X.v, .int .i64 X.x, .int .i64 X.z] 75) := by rw [hX2]; exact row_new _ _ _ rfl
    have IX : Hid (IntsAt X2 (.slice xa X.l.length xc) X.l) := by rw [hX2]; exact (ix.alloc _)
    replace HB : Hid (Below w1.heap.size w1 X2) := by rw [hX2]; exact HB.out.alloc HB.out.size _
    clear hX2
    clear ix
    go_wp2_with fail
    rw [HX.out]
    refine (drawReadAct_calls w1.heap.size _ n hn X2 HB.out.size (HCW.out _ HB.out)).mono ?_
    rintro e w5 ⟨t2, f, ht2, rfl, hb⟩
    clear HX
    replace RA : Hid (Row w5 w2.heap.size #[.int .i64 A.r, .int .i64 A.s, .int .i64 A.t, .slice (some ⟨ga, 0, none⟩) A.l.length ca, .int .i64 A.k, .string A.o, .string A.y, .int .i64 A.v, .int .i64 A.x, .int .i64 A.z] 75) := RA.out.next hb
    replace IA : Hid (IntsAt w5 (.slice (some ⟨ga, 0, none⟩) A.l.length ca) A.l) := IA.out.below hb
    replace RX : Hid (Row w5 w4.heap.size #[.int .i64 X.r, .int .i64 X.s, .int .i64 X.t, .slice xa X.l.length xc, .int .i64 X.k, .string X.o, .string X.y, .int .i64 X.v, .int .i64 X.x, .int .i64 X.z] 75) := RX.out.next hb
    replace IX : Hid (IntsAt w5 (.slice xa X.l.length xc) X.l) := IX.out.below hb
    replace HB : Hid (Below w1.heap.size w1 w5) := HB.out.trans (hb.mono HB.out.size)
    clear hb
    have HRD := hidI (readAct_calls t2 (by omega) f w5)
    have HRS := hidI (fun wx => specReadAct_calls t2 (by omega) f wx)
    have hlY := rdR_len t2 f
    unfold Ac.val at HRD HRS
    generalize rdR t2 f = P2 at *
    obtain ⟨Y, ay, ry⟩ := P2
    dsimp only at HRD HRS hlY
    go_wp2_with fail
    refine HRD.out.mono ?_
    rintro e w6 ⟨ya, yc, rfl, ho, hb⟩
    clear HRD
    replace RA : Hid (Row w6 w2.heap.size #[.int .i64 A.r, .int .i64 A.s, .int .i64 A.t, .slice (some ⟨ga, 0, none⟩) A.l.length ca, .int .i64 A.k, .string A.o, .string A.y, .int .i64 A.v, .int .i64 A.x, .int .i64 A.z] 75) := RA.out.next hb
    replace IA : Hid (IntsAt w6 (.slice (some ⟨ga, 0, none⟩) A.l.length ca) A.l) := IA.out.below hb
    replace RX : Hid (Row w6 w4.heap.size #[.int .i64 X.r, .int .i64 X.s, .int .i64 X.t, .slice xa X.l.length xc, .int .i64 X.k, .string X.o, .string X.y, .int .i64 X.v, .int .i64 X.x, .int .i64 X.z] 75) := RX.out.next hb
    replace IX : Hid (IntsAt w6 (.slice xa X.l.length xc) X.l) := IX.out.below hb
    replace HB : Hid (Below w1.heap.size w1 w6) := HB.out.trans (hb.mono HB.out.size)
    have iy := IntsAt.own ho rfl
    clear hb ho
    obtain ⟨X3, hX3⟩ : ∃ XX, XX = w6.alloc (.cells #[.int .i64 Y.r, .int .i64 Y.s, .int .i64 Y.t, .slice ya Y.l.length yc, .int .i64 Y.k, .string Y.o, .string Y.y, .int .i64 Y.v, .int .i64 Y.x, .int .i64 Y.z] 75) := ⟨_, rfl⟩
    have HX : Hid (w6.alloc (.cells #[.int .i64 Y.r, .int .i64 Y.s, .int .i64 Y.t, .slice ya Y.l.length yc, .int .i64 Y.k, .string Y.o, .string Y.y, .int .i64 Y.v, .int .i64 Y.x, .int .i64 Y.z] 75) = X3) := hX3.symm
    replace RA : Hid (Row X3 w2.heap.size #[.int .i64 A.r, .int .i64 A.s, .int .i64 A.t, .slice (some ⟨ga, 0, none⟩) A.l.length ca, .int .i64 A.k, .string A.o, .string A.y, .int .i64 A.v, .int .i64 A.x, .int .i64 A.z] 75) := by rw [hX3]; exact (RA.out.alloc _)
    replace IA : Hid (IntsAt X3 (.slice (some ⟨ga, 0, none⟩) A.l.length ca) A.l) := by rw [hX3]; exact (IA.out.alloc _)
    replace RX : Hid (Row X3 w4.heap.size #[.int .i64 X.r, .int .i64 X.s, .int .i64 X.t, .slice xa X.l.length xc, .int .i64 X.k, .string X.o, .string X.y, .int .i64 X.v, .int .i64 X.x, .int .i64 X.z] 75) := by rw [hX3]; exact (RX.out.alloc _)
    replace IX : Hid (IntsAt X3 (.slice xa X.l.length xc) X.l) := by rw [hX3]; exact (IX.out.alloc _)
    have RY : Hid (Row X3 w6.heap.size #[.int .i64 Y.r, .int .i64 Y.s, .int .i64 Y.t, .slice ya Y.l.length yc, .int .i64 Y.k, .string Y.o, .string Y.y, .int .i64 Y.v, .int .i64 Y.x, .int .i64 Y.z] 75) := by rw [hX3]; exact row_new _ _ _ rfl
    have IY : Hid (IntsAt X3 (.slice ya Y.l.length yc) Y.l) := by rw [hX3]; exact (iy.alloc _)
    replace HB : Hid (Below w1.heap.size w1 X3) := by rw [hX3]; exact HB.out.alloc HB.out.size _
    clear hX3
    clear iy
    go_wp2_with fail
    rw [HX.out]
    refine (HRS.out X3).mono ?_
    rintro e w7 ⟨za, zc, rfl, iz, hb⟩
    clear HRS HX
    replace RA : Hid (Row w7 w2.heap.size #[.int .i64 A.r, .int .i64 A.s, .int .i64 A.t, .slice (some ⟨ga, 0, none⟩) A.l.length ca, .int .i64 A.k, .string A.o, .string A.y, .int .i64 A.v, .int .i64 A.x, .int .i64 A.z] 75) := RA.out.next hb
    replace IA : Hid (IntsAt w7 (.slice (some ⟨ga, 0, none⟩) A.l.length ca) A.l) := IA.out.below hb
    replace RX : Hid (Row w7 w4.heap.size #[.int .i64 X.r, .int .i64 X.s, .int .i64 X.t, .slice xa X.l.length xc, .int .i64 X.k, .string X.o, .string X.y, .int .i64 X.v, .int .i64 X.x, .int .i64 X.z] 75) := RX.out.next hb
    replace IX : Hid (IntsAt w7 (.slice xa X.l.length xc) X.l) := IX.out.below hb
    replace RY : Hid (Row w7 w6.heap.size #[.int .i64 Y.r, .int .i64 Y.s, .int .i64 Y.t, .slice ya Y.l.length yc, .int .i64 Y.k, .string Y.o, .string Y.y, .int .i64 Y.v, .int .i64 Y.x, .int .i64 Y.z] 75) := RY.out.next hb
    replace IY : Hid (IntsAt w7 (.slice ya Y.l.length yc) Y.l) := IY.out.below hb
    replace HB : Hid (Below w1.heap.size w1 w7) := HB.out.trans (hb.mono HB.out.size)
    clear hb
    obtain ⟨X4, hX4⟩ : ∃ XX, XX = w7.alloc (.cells #[.int .i64 Y.r, .int .i64 Y.s, .int .i64 Y.t, .slice za Y.l.length zc, .int .i64 Y.k, .string Y.o, .string Y.y, .int .i64 Y.v, .int .i64 Y.x, .int .i64 Y.z] 75) := ⟨_, rfl⟩
    have HX : Hid (w7.alloc (.cells #[.int .i64 Y.r, .int .i64 Y.s, .int .i64 Y.t, .slice za Y.l.length zc, .int .i64 Y.k, .string Y.o, .string Y.y, .int .i64 Y.v, .int .i64 Y.x, .int .i64 Y.z] 75) = X4) := hX4.symm
    replace RA : Hid (Row X4 w2.heap.size #[.int .i64 A.r, .int .i64 A.s, .int .i64 A.t, .slice (some ⟨ga, 0, none⟩) A.l.length ca, .int .i64 A.k, .string A.o, .string A.y, .int .i64 A.v, .int .i64 A.x, .int .i64 A.z] 75) := by rw [hX4]; exact (RA.out.alloc _)
    replace IA : Hid (IntsAt X4 (.slice (some ⟨ga, 0, none⟩) A.l.length ca) A.l) := by rw [hX4]; exact (IA.out.alloc _)
    replace RX : Hid (Row X4 w4.heap.size #[.int .i64 X.r, .int .i64 X.s, .int .i64 X.t, .slice xa X.l.length xc, .int .i64 X.k, .string X.o, .string X.y, .int .i64 X.v, .int .i64 X.x, .int .i64 X.z] 75) := by rw [hX4]; exact (RX.out.alloc _)
    replace IX : Hid (IntsAt X4 (.slice xa X.l.length xc) X.l) := by rw [hX4]; exact (IX.out.alloc _)
    replace RY : Hid (Row X4 w6.heap.size #[.int .i64 Y.r, .int .i64 Y.s, .int .i64 Y.t, .slice ya Y.l.length yc, .int .i64 Y.k, .string Y.o, .string Y.y, .int .i64 Y.v, .int .i64 Y.x, .int .i64 Y.z] 75) := by rw [hX4]; exact (RY.out.alloc _)
    replace IY : Hid (IntsAt X4 (.slice ya Y.l.length yc) Y.l) := by rw [hX4]; exact (IY.out.alloc _)
    have RZ : Hid (Row X4 w7.heap.size #[.int .i64 Y.r, .int .i64 Y.s, .int .i64 Y.t, .slice za Y.l.length zc, .int .i64 Y.k, .string Y.o, .string Y.y, .int .i64 Y.v, .int .i64 Y.x, .int .i64 Y.z] 75) := by rw [hX4]; exact row_new _ _ _ rfl
    have IZ : Hid (IntsAt X4 (.slice za Y.l.length zc) Y.l) := by rw [hX4]; exact (iz.alloc _)
    replace HB : Hid (Below w1.heap.size w1 X4) := by rw [hX4]; exact HB.out.alloc HB.out.size _
    clear hX4
    clear iz
    go_wp2_with fail
    rw [HX.out]
    refine (drawSameAct_calls w1.heap.size _ n hn X4 HB.out.size (HCW.out _ HB.out)).mono ?_
    rintro e w8 ⟨B, gb, cb, C, gc, cc, hsB, hsC, rfl, ib, ic, hb⟩
    clear HX
    replace RA : Hid (Row w8 w2.heap.size #[.int .i64 A.r, .int .i64 A.s, .int .i64 A.t, .slice (some ⟨ga, 0, none⟩) A.l.length ca, .int .i64 A.k, .string A.o, .string A.y, .int .i64 A.v, .int .i64 A.x, .int .i64 A.z] 75) := RA.out.next hb
    replace IA : Hid (IntsAt w8 (.slice (some ⟨ga, 0, none⟩) A.l.length ca) A.l) := IA.out.below hb
    replace RX : Hid (Row w8 w4.heap.size #[.int .i64 X.r, .int .i64 X.s, .int .i64 X.t, .slice xa X.l.length xc, .int .i64 X.k, .string X.o, .string X.y, .int .i64 X.v, .int .i64 X.x, .int .i64 X.z] 75) := RX.out.next hb
    replace IX : Hid (IntsAt w8 (.slice xa X.l.length xc) X.l) := IX.out.below hb
    replace RY : Hid (Row w8 w6.heap.size #[.int .i64 Y.r, .int .i64 Y.s, .int .i64 Y.t, .slice ya Y.l.length yc, .int .i64 Y.k, .string Y.o, .string Y.y, .int .i64 Y.v, .int .i64 Y.x, .int .i64 Y.z] 75) := RY.out.next hb
    replace IY : Hid (IntsAt w8 (.slice ya Y.l.length yc) Y.l) := IY.out.below hb
    replace RZ : Hid (Row w8 w7.heap.size #[.int .i64 Y.r, .int .i64 Y.s, .int .i64 Y.t, .slice za Y.l.length zc, .int .i64 Y.k, .string Y.o, .string Y.y, .int .i64 Y.v, .int .i64 Y.x, .int .i64 Y.z] 75) := RZ.out.next hb
    replace IZ : Hid (IntsAt w8 (.slice za Y.l.length zc) Y.l) := IZ.out.below hb
    replace HB : Hid (Below w1.heap.size w1 w8) := HB.out.trans (hb.mono HB.out.size)
    clear hb
    unfold Ac.val
    have hlB := hsB.lim
    have hlC := hsC.lim
    obtain ⟨X5, hX5⟩ : ∃ XX, XX = (w8.alloc (.cells #[.int .i64 B.r, .int .i64 B.s, .int .i64 B.t, .slice (some ⟨gb, 0, none⟩) B.l.length cb, .int .i64 B.k, .string B.o, .string B.y, .int .i64 B.v, .int .i64 B.x, .int .i64 B.z] 75)).alloc (.cells #[.int .i64 C.r, .int .i64 C.s, .int .i64 C.t, .slice (some ⟨gc, 0, none⟩) C.l.length cc, .int .i64 C.k, .string C.o, .string C.y, .int .i64 C.v, .int .i64 C.x, .int .i64 C.z] 75) := ⟨_, rfl⟩
    have HX : Hid ((w8.alloc (.cells #[.int .i64 B.r, .int .i64 B.s, .int .i64 B.t, .slice (some ⟨gb, 0, none⟩) B.l.length cb, .int .i64 B.k, .string B.o, .string B.y, .int .i64 B.v, .int .i64 B.x, .int .i64 B.z] 75)).alloc (.cells #[.int .i64 C.r, .int .i64 C.s, .int .i64 C.t, .slice (some ⟨gc, 0, none⟩) C.l.length cc, .int .i64 C.k, .string C.o, .string C.y, .int .i64 C.v, .int .i64 C.x, .int .i64 C.z] 75) = X5) := hX5.symm
    replace RA : Hid (Row X5 w2.heap.size #[.int .i64 A.r, .int .i64 A.s, .int .i64 A.t, .slice (some ⟨ga, 0, none⟩) A.l.length ca, .int .i64 A.k, .string A.o, .string A.y, .int .i64 A.v, .int .i64 A.x, .int .i64 A.z] 75) := by rw [hX5]; exact ((RA.out.alloc _).alloc _)
    replace IA : Hid (IntsAt X5 (.slice (some ⟨ga, 0, none⟩) A.l.length ca) A.l) := by rw [hX5]; exact ((IA.out.alloc _).alloc _)
    replace RX : Hid (Row X5 w4.heap.size #[.int .i64 X.r, .int .i64 X.s, .int .i64 X.t, .slice xa X.l.length xc, .int .i64 X.k, .string X.o, .string X.y, .int .i64 X.v, .int .i64 X.x, .int .i64 X.z] 75) := by rw [hX5]; exact ((RX.out.alloc _).alloc _)
    replace IX : Hid (IntsAt X5 (.slice xa X.l.length xc) X.l) := by rw [hX5]; exact ((IX.out.alloc _).alloc _)
    replace RY : Hid (Row X5 w6.heap.size #[.int .i64 Y.r, .int .i64 Y.s, .int .i64 Y.t, .slice ya Y.l.length yc, .int .i64 Y.k, .string Y.o, .string Y.y, .int .i64 Y.v, .int .i64 Y.x, .int .i64 Y.z] 75) := by rw [hX5]; exact ((RY.out.alloc _).alloc _)
    replace IY : Hid (IntsAt X5 (.slice ya Y.l.length yc) Y.l) := by rw [hX5]; exact ((IY.out.alloc _).alloc _)
    replace RZ : Hid (Row X5 w7.heap.size #[.int .i64 Y.r, .int .i64 Y.s, .int .i64 Y.t, .slice za Y.l.length zc, .int .i64 Y.k, .string Y.o, .string Y.y, .int .i64 Y.v, .int .i64 Y.x, .int .i64 Y.z] 75) := by rw [hX5]; exact ((RZ.out.alloc _).alloc _)
    replace IZ : Hid (IntsAt X5 (.slice za Y.l.length zc) Y.l) := by rw [hX5]; exact ((IZ.out.alloc _).alloc _)
    have RB : Hid (Row X5 w8.heap.size #[.int .i64 B.r, .int .i64 B.s, .int .i64 B.t, .slice (some ⟨gb, 0, none⟩) B.l.length cb, .int .i64 B.k, .string B.o, .string B.y, .int .i64 B.v, .int .i64 B.x, .int .i64 B.z] 75) := by rw [hX5]; exact (row_new _ _ _ rfl).alloc _
    have IB : Hid (IntsAt X5 (.slice (some ⟨gb, 0, none⟩) B.l.length cb) B.l) := by rw [hX5]; exact ((ib.alloc _).alloc _)
    have RC : Hid (Row X5 (w8.heap.size + 1) #[.int .i64 C.r, .int .i64 C.s, .int .i64 C.t, .slice (some ⟨gc, 0, none⟩) C.l.length cc, .int .i64 C.k, .string C.o, .string C.y, .int .i64 C.v, .int .i64 C.x, .int .i64 C.z] 75) := by rw [hX5]; exact row_new _ _ _ (by simp)
    have IC : Hid (IntsAt X5 (.slice (some ⟨gc, 0, none⟩) C.l.length cc) C.l) := by rw [hX5]; exact ((ic.alloc _).alloc _)
    replace HB : Hid (Below w1.heap.size w1 X5) := by rw [hX5]; exact (HB.out.alloc HB.out.size _).alloc (Nat.le_trans HB.out.size (by simp)) _
    clear hX5
    clear ib ic
    go_wp2_with fail
    rw [HX.out]
    refine (drawLater_calls w1.heap.size _ n hn X5 HB.out.size (HCW.out _ HB.out)).mono ?_
    rintro e w9 ⟨D, gd, cd, E, ge, ce, -, -, rfl, -, -, hb⟩
    clear HX
    replace RA : Hid (Row w9 w2.heap.size #[.int .i64 A.r, .int .i64 A.s, .int .i64 A.t, .slice (some ⟨ga, 0, none⟩) A.l.length ca, .int .i64 A.k, .string A.o, .string A.y, .int .i64 A.v, .int .i64 A.x, .int .i64 A.z] 75) := RA.out.next hb
    replace IA : Hid (IntsAt w9 (.slice (some ⟨ga, 0, none⟩) A.l.length ca) A.l) := IA.out.below hb
    replace RX : Hid (Row w9 w4.heap.size #[.int .i64 X.r, .int .i64 X.s, .int .i64 X.t, .slice xa X.l.length xc, .int .i64 X.k, .string X.o, .string X.y, .int .i64 X.v, .int .i64 X.x, .int .i64 X.z] 75) := RX.out.next hb
    replace IX : Hid (IntsAt w9 (.slice xa X.l.length xc) X.l) := IX.out.below hb
    replace RY : Hid (Row w9 w6.heap.size #[.int .i64 Y.r, .int .i64 Y.s, .int .i64 Y.t, .slice ya Y.l.length yc, .int .i64 Y.k, .string Y.o, .string Y.y, .int .i64 Y.v, .int .i64 Y.x, .int .i64 Y.z] 75) := RY.out.next hb
    replace IY : Hid (IntsAt w9 (.slice ya Y.l.length yc) Y.l) := IY.out.below hb
    replace RZ : Hid (Row w9 w7.heap.size #[.int .i64 Y.r, .int .i64 Y.s, .int .i64 Y.t, .slice za Y.l.length zc, .int .i64 Y.k, .string Y.o, .string Y.y, .int .i64 Y.v, .int .i64 Y.x, .int .i64 Y.z] 75) := RZ.out.next hb
    replace IZ : Hid (IntsAt w9 (.slice za Y.l.length zc) Y.l) := IZ.out.below hb
    replace RB : Hid (Row w9 w8.heap.size #[.int .i64 B.r, .int .i64 B.s, .int .i64 B.t, .slice (some ⟨gb, 0, none⟩) B.l.length cb, .int .i64 B.k, .string B.o, .string B.y, .int .i64 B.v, .int .i64 B.x, .int .i64 B.z] 75) := RB.out.next hb
    replace IB : Hid (IntsAt w9 (.slice (some ⟨gb, 0, none⟩) B.l.length cb) B.l) := IB.out.below hb
    replace RC : Hid (Row w9 (w8.heap.size + 1) #[.int .i64 C.r, .int .i64 C.s, .int .i64 C.t, .slice (some ⟨gc, 0, none⟩) C.l.length cc, .int .i64 C.k, .string C.o, .string C.y, .int .i64 C.v, .int .i64 C.x, .int .i64 C.z] 75) := RC.out.next hb
    replace IC : Hid (IntsAt w9 (.slice (some ⟨gc, 0, none⟩) C.l.length cc) C.l) := IC.out.below hb
    replace HB : Hid (Below w1.heap.size w1 w9) := HB.out.trans (hb.mono HB.out.size)
    clear hb
    unfold Ac.val
    obtain ⟨X6, hX6⟩ : ∃ XX, XX = (w9.alloc (.cells #[.int .i64 D.r, .int .i64 D.s, .int .i64 D.t, .slice (some ⟨gd, 0, none⟩) D.l.length cd, .int .i64 D.k, .string D.o, .string D.y, .int .i64 D.v, .int .i64 D.x, .int .i64 D.z] 75)).alloc (.cells #[.int .i64 E.r, .int .i64 E.s, .int .i64 E.t, .slice (some ⟨ge, 0, none⟩) E.l.length ce, .int .i64 E.k, .string E.o, .string E.y, .int .i64 E.v, .int .i64 E.x, .int .i64 E.z] 75) := ⟨_, rfl⟩
    have HX : Hid ((w9.alloc (.cells #[.int .i64 D.r, .int .i64 D.s, .int .i64 D.t, .slice (some ⟨gd, 0, none⟩) D.l.length cd, .int .i64 D.k, .string D.o, .string D.y, .int .i64 D.v, .int .i64 D.x, .int .i64 D.z] 75)).alloc (.cells #[.int .i64 E.r, .int .i64 E.s, .int .i64 E.t, .slice (some ⟨ge, 0, none⟩) E.l.length ce, .int .i64 E.k, .string E.o, .string E.y, .int .i64 E.v, .int .i64 E.x, .int .i64 E.z] 75) = X6) := hX6.symm
    replace RA : Hid (Row X6 w2.heap.size #[.int .i64 A.r, .int .i64 A.s, .int .i64 A.t, .slice (some ⟨ga, 0, none⟩) A.l.length ca, .int .i64 A.k, .string A.o, .string A.y, .int .i64 A.v, .int .i64 A.x, .int .i64 A.z] 75) := by rw [hX6]; exact ((RA.out.alloc _).alloc _)
    replace IA : Hid (IntsAt X6 (.slice (some ⟨ga, 0, none⟩) A.l.length ca) A.l) := by rw [hX6]; exact ((IA.out.alloc _).alloc _)
    replace RX : Hid (Row X6 w4.heap.size #[.int .i64 X.r, .int .i64 X.s, .int .i64 X.t, .slice xa X.l.length xc, .int .i64 X.k, .string X.o, .string X.y, .int .i64 X.v, .int .i64 X.x, .int .i64 X.z] 75) := by rw [hX6]; exact ((RX.out.alloc _).alloc _)
    replace IX : Hid (IntsAt X6 (.slice xa X.l.length xc) X.l) := by rw [hX6]; exact ((IX.out.alloc _).alloc _)
    replace RY : Hid (Row X6 w6.heap.size #[.int .i64 Y.r, .int .i64 Y.s, .int .i64 Y.t, .slice ya Y.l.length yc, .int .i64 Y.k, .string Y.o, .string Y.y, .int .i64 Y.v, .int .i64 Y.x, .int .i64 Y.z] 75) := by rw [hX6]; exact ((RY.out.alloc _).alloc _)
    replace IY : Hid (IntsAt X6 (.slice ya Y.l.length yc) Y.l) := by rw [hX6]; exact ((IY.out.alloc _).alloc _)
    replace RZ : Hid (Row X6 w7.heap.size #[.int .i64 Y.r, .int .i64 Y.s, .int .i64 Y.t, .slice za Y.l.length zc, .int .i64 Y.k, .string Y.o, .string Y.y, .int .i64 Y.v, .int .i64 Y.x, .int .i64 Y.z] 75) := by rw [hX6]; exact ((RZ.out.alloc _).alloc _)
    replace IZ : Hid (IntsAt X6 (.slice za Y.l.length zc) Y.l) := by rw [hX6]; exact ((IZ.out.alloc _).alloc _)
    replace RB : Hid (Row X6 w8.heap.size #[.int .i64 B.r, .int .i64 B.s, .int .i64 B.t, .slice (some ⟨gb, 0, none⟩) B.l.length cb, .int .i64 B.k, .string B.o, .string B.y, .int .i64 B.v, .int .i64 B.x, .int .i64 B.z] 75) := by rw [hX6]; exact ((RB.out.alloc _).alloc _)
    replace IB : Hid (IntsAt X6 (.slice (some ⟨gb, 0, none⟩) B.l.length cb) B.l) := by rw [hX6]; exact ((IB.out.alloc _).alloc _)
    replace RC : Hid (Row X6 (w8.heap.size + 1) #[.int .i64 C.r, .int .i64 C.s, .int .i64 C.t, .slice (some ⟨gc, 0, none⟩) C.l.length cc, .int .i64 C.k, .string C.o, .string C.y, .int .i64 C.v, .int .i64 C.x, .int .i64 C.z] 75) := by rw [hX6]; exact ((RC.out.alloc _).alloc _)
    replace IC : Hid (IntsAt X6 (.slice (some ⟨gc, 0, none⟩) C.l.length cc) C.l) := by rw [hX6]; exact ((IC.out.alloc _).alloc _)
    have RD : Hid (Row X6 w9.heap.size #[.int .i64 D.r, .int .i64 D.s, .int .i64 D.t, .slice (some ⟨gd, 0, none⟩) D.l.length cd, .int .i64 D.k, .string D.o, .string D.y, .int .i64 D.v, .int .i64 D.x, .int .i64 D.z] 75) := by rw [hX6]; exact (row_new _ _ _ rfl).alloc _
    have RE : Hid (Row X6 (w9.heap.size + 1) #[.int .i64 E.r, .int .i64 E.s, .int .i64 E.t, .slice (some ⟨ge, 0, none⟩) E.l.length ce, .int .i64 E.k, .string E.o, .string E.y, .int .i64 E.v, .int .i64 E.x, .int .i64 E.z] 75) := by rw [hX6]; exact row_new _ _ _ (by simp)
    replace HB : Hid (Below w1.heap.size w1 X6) := by rw [hX6]; exact (HB.out.alloc HB.out.size _).alloc (Nat.le_trans HB.out.size (by simp)) _
    clear hX6
    go_wp2_with fail
    rw [HX.out]
    refine (drawNameOk_calls w1.heap.size _ n hn X6 HB.out.size (HCW.out _ HB.out)).mono ?_
    rintro e W ⟨z, hz, rfl, hb⟩
    clear HX
    replace RA : Hid (Row W w2.heap.size #[.int .i64 A.r, .int .i64 A.s, .int .i64 A.t, .slice (some ⟨ga, 0, none⟩) A.l.length ca, .int .i64 A.k, .string A.o, .string A.y, .int .i64 A.v, .int .i64 A.x, .int .i64 A.z] 75) := RA.out.next hb
    replace IA : Hid (IntsAt W (.slice (some ⟨ga, 0, none⟩) A.l.length ca) A.l) := IA.out.below hb
    replace RX : Hid (Row W w4.heap.size #[.int .i64 X.r, .int .i64 X.s, .int .i64 X.t, .slice xa X.l.length xc, .int .i64 X.k, .string X.o, .string X.y, .int .i64 X.v, .int .i64 X.x, .int .i64 X.z] 75) := RX.out.next hb
    replace IX : Hid (IntsAt W (.slice xa X.l.length xc) X.l) := IX.out.below hb
    replace RY : Hid (Row W w6.heap.size #[.int .i64 Y.r, .int .i64 Y.s, .int .i64 Y.t, .slice ya Y.l.length yc, .int .i64 Y.k, .string Y.o, .string Y.y, .int .i64 Y.v, .int .i64 Y.x, .int .i64 Y.z] 75) := RY.out.next hb
    replace IY : Hid (IntsAt W (.slice ya Y.l.length yc) Y.l) := IY.out.below hb
    replace RZ : Hid (Row W w7.heap.size #[.int .i64 Y.r, .int .i64 Y.s, .int .i64 Y.t, .slice za Y.l.length zc, .int .i64 Y.k, .string Y.o, .string Y.y, .int .i64 Y.v, .int .i64 Y.x, .int .i64 Y.z] 75) := RZ.out.next hb
    replace IZ : Hid (IntsAt W (.slice za Y.l.length zc) Y.l) := IZ.out.below hb
    replace RB : Hid (Row W w8.heap.size #[.int .i64 B.r, .int .i64 B.s, .int .i64 B.t, .slice (some ⟨gb, 0, none⟩) B.l.length cb, .int .i64 B.k, .string B.o, .string B.y, .int .i64 B.v, .int .i64 B.x, .int .i64 B.z] 75) := RB.out.next hb
    replace IB : Hid (IntsAt W (.slice (some ⟨gb, 0, none⟩) B.l.length cb) B.l) := IB.out.below hb
    replace RC : Hid (Row W (w8.heap.size + 1) #[.int .i64 C.r, .int .i64 C.s, .int .i64 C.t, .slice (some ⟨gc, 0, none⟩) C.l.length cc, .int .i64 C.k, .string C.o, .string C.y, .int .i64 C.v, .int .i64 C.x, .int .i64 C.z] 75) := RC.out.next hb
    replace IC : Hid (IntsAt W (.slice (some ⟨gc, 0, none⟩) C.l.length cc) C.l) := IC.out.below hb
    replace RD : Hid (Row W w9.heap.size #[.int .i64 D.r, .int .i64 D.s, .int .i64 D.t, .slice (some ⟨gd, 0, none⟩) D.l.length cd, .int .i64 D.k, .string D.o, .string D.y, .int .i64 D.v, .int .i64 D.x, .int .i64 D.z] 75) := RD.out.next hb
    replace RE : Hid (Row W (w9.heap.size + 1) #[.int .i64 E.r, .int .i64 E.s, .int .i64 E.t, .slice (some ⟨ge, 0, none⟩) E.l.length ce, .int .i64 E.k, .string E.o, .string E.y, .int .i64 E.v, .int .i64 E.x, .int .i64 E.z] 75) := RE.out.next hb
    replace HB : Hid (Below w1.heap.size w1 W) := HB.out.trans (hb.mono HB.out.size)
    clear hb HC HCW
    have K1 : Hid (∀ wx, Below W.heap.size W wx → Calls Try.prog 54 #[.agg #[.int .i64 A.r, .int .i64 A.s, .int .i64 A.t, .slice (some ⟨ga, 0, none⟩) A.l.length ca, .int .i64 A.k, .string A.o, .string A.y, .int .i64 A.v, .int .i64 A.x, .int .i64 A.z]] wx fun e w' => e = .returned (.bool (decide (AOk A))) ∧ Below wx.heap.size wx w') := fun wx h => specActOk_calls A _ wx hlA (IA.out.below h)
    have K2 : Hid (∀ wx, Below W.heap.size W wx → Calls Try.prog 55 #[.agg #[.int .i64 A.r, .int .i64 A.s, .int .i64 A.t, .slice (some ⟨ga, 0, none⟩) A.l.length ca, .int .i64 A.k, .string A.o, .string A.y, .int .i64 A.v, .int .i64 A.x, .int .i64 A.z]] wx fun e w' => e = .returned (.bool (decide (AOk A))) ∧ Below wx.heap.size wx w') := fun wx h => actOk_calls A _ wx hlA (IA.out.below h)
    have K3 : Hid (∀ wx, Below W.heap.size W wx → Calls Try.prog 56 #[.agg #[.int .i64 X.r, .int .i64 X.s, .int .i64 X.t, .slice xa X.l.length xc, .int .i64 X.k, .string X.o, .string X.y, .int .i64 X.v, .int .i64 X.x, .int .i64 X.z], .agg #[.int .i64 A.r, .int .i64 A.s, .int .i64 A.t, .slice (some ⟨ga, 0, none⟩) A.l.length ca, .int .i64 A.k, .string A.o, .string A.y, .int .i64 A.v, .int .i64 A.x, .int .i64 A.z]] wx fun e w' => e = .returned (.bool (decide (X = A))) ∧ Below wx.heap.size wx w') := fun wx h => specSameAct_calls X A _ _ wx (by omega) hlA.1 (IX.out.below h) (IA.out.below h)
    have K4 : Hid (∀ wx, Below W.heap.size W wx → Calls Try.prog 56 #[.agg #[.int .i64 Y.r, .int .i64 Y.s, .int .i64 Y.t, .slice ya Y.l.length yc, .int .i64 Y.k, .string Y.o, .string Y.y, .int .i64 Y.v, .int .i64 Y.x, .int .i64 Y.z], .agg #[.int .i64 Y.r, .int .i64 Y.s, .int .i64 Y.t, .slice za Y.l.length zc, .int .i64 Y.k, .string Y.o, .string Y.y, .int .i64 Y.v, .int .i64 Y.x, .int .i64 Y.z]] wx fun e w' => e = .returned (.bool (decide (Y = Y))) ∧ Below wx.heap.size wx w') := fun wx h => specSameAct_calls Y Y _ _ wx (by omega) (by omega) (IY.out.below h) (IZ.out.below h)
    have K5 : Hid (∀ wx, Below W.heap.size W wx → Calls Try.prog 57 #[.agg #[.int .i64 B.r, .int .i64 B.s, .int .i64 B.t, .slice (some ⟨gb, 0, none⟩) B.l.length cb, .int .i64 B.k, .string B.o, .string B.y, .int .i64 B.v, .int .i64 B.x, .int .i64 B.z], .agg #[.int .i64 C.r, .int .i64 C.s, .int .i64 C.t, .slice (some ⟨gc, 0, none⟩) C.l.length cc, .int .i64 C.k, .string C.o, .string C.y, .int .i64 C.v, .int .i64 C.x, .int .i64 C.z]] wx fun e w' => e = .returned (.bool (decide (B = C))) ∧ Below wx.heap.size wx w') := fun wx h => sameAct_calls B C _ _ wx hlB.1 hlC.1 (IB.out.below h) (IC.out.below h)
    have K6 : Hid (∀ wx, Below W.heap.size W wx → Calls Try.prog 56 #[.agg #[.int .i64 B.r, .int .i64 B.s, .int .i64 B.t, .slice (some ⟨gb, 0, none⟩) B.l.length cb, .int .i64 B.k, .string B.o, .string B.y, .int .i64 B.v, .int .i64 B.x, .int .i64 B.z], .agg #[.int .i64 C.r, .int .i64 C.s, .int .i64 C.t, .slice (some ⟨gc, 0, none⟩) C.l.length cc, .int .i64 C.k, .string C.o, .string C.y, .int .i64 C.v, .int .i64 C.x, .int .i64 C.z]] wx fun e w' => e = .returned (.bool (decide (B = C))) ∧ Below wx.heap.size wx w') := fun wx h => specSameAct_calls B C _ _ wx hlB.1 hlC.1 (IB.out.below h) (IC.out.below h)
    have K7 : Hid (∀ wx, Below W.heap.size W wx → Calls Try.prog 58 #[.agg #[.int .i64 D.r, .int .i64 D.s, .int .i64 D.t, .slice (some ⟨gd, 0, none⟩) D.l.length cd, .int .i64 D.k, .string D.o, .string D.y, .int .i64 D.v, .int .i64 D.x, .int .i64 D.z], .agg #[.int .i64 E.r, .int .i64 E.s, .int .i64 E.t, .slice (some ⟨ge, 0, none⟩) E.l.length ce, .int .i64 E.k, .string E.o, .string E.y, .int .i64 E.v, .int .i64 E.x, .int .i64 E.z]] wx fun e w' => e = .returned (.bool (later D E)) ∧ Below wx.heap.size wx w') := fun wx h => later_calls D E _ _ wx
    have K8 : Hid (∀ wx, Below W.heap.size W wx → Calls Try.prog 59 #[.agg #[.int .i64 D.r, .int .i64 D.s, .int .i64 D.t, .slice (some ⟨gd, 0, none⟩) D.l.length cd, .int .i64 D.k, .string D.o, .string D.y, .int .i64 D.v, .int .i64 D.x, .int .i64 D.z], .agg #[.int .i64 E.r, .int .i64 E.s, .int .i64 E.t, .slice (some ⟨ge, 0, none⟩) E.l.length ce, .int .i64 E.k, .string E.o, .string E.y, .int .i64 E.v, .int .i64 E.x, .int .i64 E.z]] wx fun e w' => e = .returned (.bool (later D E)) ∧ Below wx.heap.size wx w') := fun wx h => specLater_calls D E _ _ wx
    have K9 : Hid (∀ wx, Below W.heap.size W wx → Calls Try.prog 58 #[.agg #[.int .i64 E.r, .int .i64 E.s, .int .i64 E.t, .slice (some ⟨ge, 0, none⟩) E.l.length ce, .int .i64 E.k, .string E.o, .string E.y, .int .i64 E.v, .int .i64 E.x, .int .i64 E.z], .agg #[.int .i64 D.r, .int .i64 D.s, .int .i64 D.t, .slice (some ⟨gd, 0, none⟩) D.l.length cd, .int .i64 D.k, .string D.o, .string D.y, .int .i64 D.v, .int .i64 D.x, .int .i64 D.z]] wx fun e w' => e = .returned (.bool (later E D)) ∧ Below wx.heap.size wx w') := fun wx h => later_calls E D _ _ wx
    have K10 : Hid (∀ wx, Below W.heap.size W wx → Calls Try.prog 60 #[.string z] wx fun e w' => e = .returned (.bool (decide (NOk z))) ∧ Below wx.heap.size wx w') := fun wx h => (implNameOk_calls z (by unfold maxLen; omega) wx).mono (by rintro e w' ⟨rfl, rfl⟩; exact ⟨rfl, Below.refl _ _⟩)
    have K11 : Hid (∀ wx, Below W.heap.size W wx → Calls Try.prog 61 #[.string z] wx fun e w' => e = .returned (.bool (decide (NOk z))) ∧ Below wx.heap.size wx w') := fun wx h => (specNameOk_calls z (by unfold maxLen; omega) wx).mono (by rintro e w' ⟨rfl, rfl⟩; exact ⟨rfl, Below.refl _ _⟩)
    have hwr : IntKind.i64.wrap (2 + (t.size : Int)) = 2 + (t.size : Int) := by rw [IntKind.wrap_i64] <;> omega
    have HLN : Hid (later D E = true → later E D = false) := later_not D E
    rw [decide_eq_true (rfl : Y = Y)] at K4
    rw [← HOKA.out] at K1 K2
    generalize decide (B = C) = sb at K5 K6
    generalize decide (NOk z) = nb at K10 K11
    generalize later D E = lb at K7 K8 HLN
    generalize later E D = le at K9 HLN
    clear HOKA hlB hlC hlA hlX hlY htz ht2 hz hsA hsB hsC hnB hn
    have HS : Hid (∀ wx, Below W.heap.size W wx → (wx.cell? ⟨w2.heap.size, 0, none⟩ = some (.int .i64 A.r) ∧ wx.cell? ⟨w2.heap.size, 1, none⟩ = some (.int .i64 A.s) ∧ wx.cell? ⟨w2.heap.size, 2, none⟩ = some (.int .i64 A.t) ∧ wx.cell? ⟨w2.heap.size, 3, none⟩ = some (.slice (some ⟨ga, 0, none⟩) A.l.length ca) ∧ wx.cell? ⟨w2.heap.size, 4, none⟩ = some (.int .i64 A.k) ∧ wx.cell? ⟨w2.heap.size, 5, none⟩ = some (.string A.o) ∧ wx.cell? ⟨w2.heap.size, 6, none⟩ = some (.string A.y) ∧ wx.cell? ⟨w2.heap.size, 7, none⟩ = some (.int .i64 A.v) ∧ wx.cell? ⟨w2.heap.size, 8, none⟩ = some (.int .i64 A.x) ∧ wx.cell? ⟨w2.heap.size, 9, none⟩ = some (.int .i64 A.z)) ∧ (wx.cell? ⟨w4.heap.size, 0, none⟩ = some (.int .i64 X.r) ∧ wx.cell? ⟨w4.heap.size, 1, none⟩ = some (.int .i64 X.s) ∧ wx.cell? ⟨w4.heap.size, 2, none⟩ = some (.int .i64 X.t) ∧ wx.cell? ⟨w4.heap.size, 3, none⟩ = some (.slice xa X.l.length xc) ∧ wx.cell? ⟨w4.heap.size, 4, none⟩ = some (.int .i64 X.k) ∧ wx.cell? ⟨w4.heap.size, 5, none⟩ = some (.string X.o) ∧ wx.cell? ⟨w4.heap.size, 6, none⟩ = some (.string X.y) ∧ wx.cell? ⟨w4.heap.size, 7, none⟩ = some (.int .i64 X.v) ∧ wx.cell? ⟨w4.heap.size, 8, none⟩ = some (.int .i64 X.x) ∧ wx.cell? ⟨w4.heap.size, 9, none⟩ = some (.int .i64 X.z)) ∧ (wx.cell? ⟨w6.heap.size, 0, none⟩ = some (.int .i64 Y.r) ∧ wx.cell? ⟨w6.heap.size, 1, none⟩ = some (.int .i64 Y.s) ∧ wx.cell? ⟨w6.heap.size, 2, none⟩ = some (.int .i64 Y.t) ∧ wx.cell? ⟨w6.heap.size, 3, none⟩ = some (.slice ya Y.l.length yc) ∧ wx.cell? ⟨w6.heap.size, 4, none⟩ = some (.int .i64 Y.k) ∧ wx.cell? ⟨w6.heap.size, 5, none⟩ = some (.string Y.o) ∧ wx.cell? ⟨w6.heap.size, 6, none⟩ = some (.string Y.y) ∧ wx.cell? ⟨w6.heap.size, 7, none⟩ = some (.int .i64 Y.v) ∧ wx.cell? ⟨w6.heap.size, 8, none⟩ = some (.int .i64 Y.x) ∧ wx.cell? ⟨w6.heap.size, 9, none⟩ = some (.int .i64 Y.z)) ∧ (wx.cell? ⟨w7.heap.size, 0, none⟩ = some (.int .i64 Y.r) ∧ wx.cell? ⟨w7.heap.size, 1, none⟩ = some (.int .i64 Y.s) ∧ wx.cell? ⟨w7.heap.size, 2, none⟩ = some (.int .i64 Y.t) ∧ wx.cell? ⟨w7.heap.size, 3, none⟩ = some (.slice za Y.l.length zc) ∧ wx.cell? ⟨w7.heap.size, 4, none⟩ = some (.int .i64 Y.k) ∧ wx.cell? ⟨w7.heap.size, 5, none⟩ = some (.string Y.o) ∧ wx.cell? ⟨w7.heap.size, 6, none⟩ = some (.string Y.y) ∧ wx.cell? ⟨w7.heap.size, 7, none⟩ = some (.int .i64 Y.v) ∧ wx.cell? ⟨w7.heap.size, 8, none⟩ = some (.int .i64 Y.x) ∧ wx.cell? ⟨w7.heap.size, 9, none⟩ = some (.int .i64 Y.z)) ∧ (wx.cell? ⟨w8.heap.size, 0, none⟩ = some (.int .i64 B.r) ∧ wx.cell? ⟨w8.heap.size, 1, none⟩ = some (.int .i64 B.s) ∧ wx.cell? ⟨w8.heap.size, 2, none⟩ = some (.int .i64 B.t) ∧ wx.cell? ⟨w8.heap.size, 3, none⟩ = some (.slice (some ⟨gb, 0, none⟩) B.l.length cb) ∧ wx.cell? ⟨w8.heap.size, 4, none⟩ = some (.int .i64 B.k) ∧ wx.cell? ⟨w8.heap.size, 5, none⟩ = some (.string B.o) ∧ wx.cell? ⟨w8.heap.size, 6, none⟩ = some (.string B.y) ∧ wx.cell? ⟨w8.heap.size, 7, none⟩ = some (.int .i64 B.v) ∧ wx.cell? ⟨w8.heap.size, 8, none⟩ = some (.int .i64 B.x) ∧ wx.cell? ⟨w8.heap.size, 9, none⟩ = some (.int .i64 B.z)) ∧ (wx.cell? ⟨(w8.heap.size + 1), 0, none⟩ = some (.int .i64 C.r) ∧ wx.cell? ⟨(w8.heap.size + 1), 1, none⟩ = some (.int .i64 C.s) ∧ wx.cell? ⟨(w8.heap.size + 1), 2, none⟩ = some (.int .i64 C.t) ∧ wx.cell? ⟨(w8.heap.size + 1), 3, none⟩ = some (.slice (some ⟨gc, 0, none⟩) C.l.length cc) ∧ wx.cell? ⟨(w8.heap.size + 1), 4, none⟩ = some (.int .i64 C.k) ∧ wx.cell? ⟨(w8.heap.size + 1), 5, none⟩ = some (.string C.o) ∧ wx.cell? ⟨(w8.heap.size + 1), 6, none⟩ = some (.string C.y) ∧ wx.cell? ⟨(w8.heap.size + 1), 7, none⟩ = some (.int .i64 C.v) ∧ wx.cell? ⟨(w8.heap.size + 1), 8, none⟩ = some (.int .i64 C.x) ∧ wx.cell? ⟨(w8.heap.size + 1), 9, none⟩ = some (.int .i64 C.z)) ∧ (wx.cell? ⟨w9.heap.size, 0, none⟩ = some (.int .i64 D.r) ∧ wx.cell? ⟨w9.heap.size, 1, none⟩ = some (.int .i64 D.s) ∧ wx.cell? ⟨w9.heap.size, 2, none⟩ = some (.int .i64 D.t) ∧ wx.cell? ⟨w9.heap.size, 3, none⟩ = some (.slice (some ⟨gd, 0, none⟩) D.l.length cd) ∧ wx.cell? ⟨w9.heap.size, 4, none⟩ = some (.int .i64 D.k) ∧ wx.cell? ⟨w9.heap.size, 5, none⟩ = some (.string D.o) ∧ wx.cell? ⟨w9.heap.size, 6, none⟩ = some (.string D.y) ∧ wx.cell? ⟨w9.heap.size, 7, none⟩ = some (.int .i64 D.v) ∧ wx.cell? ⟨w9.heap.size, 8, none⟩ = some (.int .i64 D.x) ∧ wx.cell? ⟨w9.heap.size, 9, none⟩ = some (.int .i64 D.z)) ∧ (wx.cell? ⟨(w9.heap.size + 1), 0, none⟩ = some (.int .i64 E.r) ∧ wx.cell? ⟨(w9.heap.size + 1), 1, none⟩ = some (.int .i64 E.s) ∧ wx.cell? ⟨(w9.heap.size + 1), 2, none⟩ = some (.int .i64 E.t) ∧ wx.cell? ⟨(w9.heap.size + 1), 3, none⟩ = some (.slice (some ⟨ge, 0, none⟩) E.l.length ce) ∧ wx.cell? ⟨(w9.heap.size + 1), 4, none⟩ = some (.int .i64 E.k) ∧ wx.cell? ⟨(w9.heap.size + 1), 5, none⟩ = some (.string E.o) ∧ wx.cell? ⟨(w9.heap.size + 1), 6, none⟩ = some (.string E.y) ∧ wx.cell? ⟨(w9.heap.size + 1), 7, none⟩ = some (.int .i64 E.v) ∧ wx.cell? ⟨(w9.heap.size + 1), 8, none⟩ = some (.int .i64 E.x) ∧ wx.cell? ⟨(w9.heap.size + 1), 9, none⟩ = some (.int .i64 E.z))) := fun wx h => by
      exact ⟨Row.ten (RA.out.next h), Row.ten (RX.out.next h), Row.ten (RY.out.next h), Row.ten (RZ.out.next h), Row.ten (RB.out.next h), Row.ten (RC.out.next h), Row.ten (RD.out.next h), Row.ten (RE.out.next h)⟩
    clear IA IX IY IZ IB IC RA RX RY RZ RB RC RD RE
    have hBc : Below W.heap.size W W := Below.refl _ _
    obtain ⟨⟨c0_0, c0_1, c0_2, c0_3, c0_4, c0_5, c0_6, c0_7, c0_8, c0_9⟩, ⟨c1_0, c1_1, c1_2, c1_3, c1_4, c1_5, c1_6, c1_7, c1_8, c1_9⟩, ⟨c2_0, c2_1, c2_2, c2_3, c2_4, c2_5, c2_6, c2_7, c2_8, c2_9⟩, ⟨c3_0, c3_1, c3_2, c3_3, c3_4, c3_5, c3_6, c3_7, c3_8, c3_9⟩, ⟨c4_0, c4_1, c4_2, c4_3, c4_4, c4_5, c4_6, c4_7, c4_8, c4_9⟩, ⟨c5_0, c5_1, c5_2, c5_3, c5_4, c5_5, c5_6, c5_7, c5_8, c5_9⟩, ⟨c6_0, c6_1, c6_2, c6_3, c6_4, c6_5, c6_6, c6_7, c6_8, c6_9⟩, ⟨c7_0, c7_1, c7_2, c7_3, c7_4, c7_5, c7_6, c7_7, c7_8, c7_9⟩⟩ := HS.out _ hBc
    go_wp2
    try simp only [List.append_eq, List.cons_append, List.nil_append]
    have hBd := hBc.drew
    replace hBc := hBd
    clear hBd c0_0 c0_1 c0_2 c0_3 c0_4 c0_5 c0_6 c0_7 c0_8 c0_9 c1_0 c1_1 c1_2 c1_3 c1_4 c1_5 c1_6 c1_7 c1_8 c1_9 c2_0 c2_1 c2_2 c2_3 c2_4 c2_5 c2_6 c2_7 c2_8 c2_9 c3_0 c3_1 c3_2 c3_3 c3_4 c3_5 c3_6 c3_7 c3_8 c3_9 c4_0 c4_1 c4_2 c4_3 c4_4 c4_5 c4_6 c4_7 c4_8 c4_9 c5_0 c5_1 c5_2 c5_3 c5_4 c5_5 c5_6 c5_7 c5_8 c5_9 c6_0 c6_1 c6_2 c6_3 c6_4 c6_5 c6_6 c6_7 c6_8 c6_9 c7_0 c7_1 c7_2 c7_3 c7_4 c7_5 c7_6 c7_7 c7_8 c7_9
    cases ok with
    | true =>
      have hk := HBACK.out rfl
      simp only [Prod.mk.injEq] at hk
      obtain ⟨hXA, rfl, rfl⟩ := hk
      rw [decide_eq_true hXA] at K3
      clear hXA
      clear HBACK
      cases lb with
      | true =>
        obtain rfl := HLN.out rfl
        clear HLN
        refine wp_region_held_drew (S := (fun w' => (w'.cell? ⟨w2.heap.size, 0, none⟩ = some (.int .i64 A.r) ∧ w'.cell? ⟨w2.heap.size, 1, none⟩ = some (.int .i64 A.s) ∧ w'.cell? ⟨w2.heap.size, 2, none⟩ = some (.int .i64 A.t) ∧ w'.cell? ⟨w2.heap.size, 3, none⟩ = some (.slice (some ⟨ga, 0, none⟩) A.l.length ca) ∧ w'.cell? ⟨w2.heap.size, 4, none⟩ = some (.int .i64 A.k) ∧ w'.cell? ⟨w2.heap.size, 5, none⟩ = some (.string A.o) ∧ w'.cell? ⟨w2.heap.size, 6, none⟩ = some (.string A.y) ∧ w'.cell? ⟨w2.heap.size, 7, none⟩ = some (.int .i64 A.v) ∧ w'.cell? ⟨w2.heap.size, 8, none⟩ = some (.int .i64 A.x) ∧ w'.cell? ⟨w2.heap.size, 9, none⟩ = some (.int .i64 A.z)) ∧ (w'.cell? ⟨w4.heap.size, 0, none⟩ = some (.int .i64 X.r) ∧ w'.cell? ⟨w4.heap.size, 1, none⟩ = some (.int .i64 X.s) ∧ w'.cell? ⟨w4.heap.size, 2, none⟩ = some (.int .i64 X.t) ∧ w'.cell? ⟨w4.heap.size, 3, none⟩ = some (.slice xa X.l.length xc) ∧ w'.cell? ⟨w4.heap.size, 4, none⟩ = some (.int .i64 X.k) ∧ w'.cell? ⟨w4.heap.size, 5, none⟩ = some (.string X.o) ∧ w'.cell? ⟨w4.heap.size, 6, none⟩ = some (.string X.y) ∧ w'.cell? ⟨w4.heap.size, 7, none⟩ = some (.int .i64 X.v) ∧ w'.cell? ⟨w4.heap.size, 8, none⟩ = some (.int .i64 X.x) ∧ w'.cell? ⟨w4.heap.size, 9, none⟩ = some (.int .i64 X.z)) ∧ (w'.cell? ⟨w6.heap.size, 0, none⟩ = some (.int .i64 Y.r) ∧ w'.cell? ⟨w6.heap.size, 1, none⟩ = some (.int .i64 Y.s) ∧ w'.cell? ⟨w6.heap.size, 2, none⟩ = some (.int .i64 Y.t) ∧ w'.cell? ⟨w6.heap.size, 3, none⟩ = some (.slice ya Y.l.length yc) ∧ w'.cell? ⟨w6.heap.size, 4, none⟩ = some (.int .i64 Y.k) ∧ w'.cell? ⟨w6.heap.size, 5, none⟩ = some (.string Y.o) ∧ w'.cell? ⟨w6.heap.size, 6, none⟩ = some (.string Y.y) ∧ w'.cell? ⟨w6.heap.size, 7, none⟩ = some (.int .i64 Y.v) ∧ w'.cell? ⟨w6.heap.size, 8, none⟩ = some (.int .i64 Y.x) ∧ w'.cell? ⟨w6.heap.size, 9, none⟩ = some (.int .i64 Y.z)) ∧ (w'.cell? ⟨w7.heap.size, 0, none⟩ = some (.int .i64 Y.r) ∧ w'.cell? ⟨w7.heap.size, 1, none⟩ = some (.int .i64 Y.s) ∧ w'.cell? ⟨w7.heap.size, 2, none⟩ = some (.int .i64 Y.t) ∧ w'.cell? ⟨w7.heap.size, 3, none⟩ = some (.slice za Y.l.length zc) ∧ w'.cell? ⟨w7.heap.size, 4, none⟩ = some (.int .i64 Y.k) ∧ w'.cell? ⟨w7.heap.size, 5, none⟩ = some (.string Y.o) ∧ w'.cell? ⟨w7.heap.size, 6, none⟩ = some (.string Y.y) ∧ w'.cell? ⟨w7.heap.size, 7, none⟩ = some (.int .i64 Y.v) ∧ w'.cell? ⟨w7.heap.size, 8, none⟩ = some (.int .i64 Y.x) ∧ w'.cell? ⟨w7.heap.size, 9, none⟩ = some (.int .i64 Y.z)) ∧ (w'.cell? ⟨w8.heap.size, 0, none⟩ = some (.int .i64 B.r) ∧ w'.cell? ⟨w8.heap.size, 1, none⟩ = some (.int .i64 B.s) ∧ w'.cell? ⟨w8.heap.size, 2, none⟩ = some (.int .i64 B.t) ∧ w'.cell? ⟨w8.heap.size, 3, none⟩ = some (.slice (some ⟨gb, 0, none⟩) B.l.length cb) ∧ w'.cell? ⟨w8.heap.size, 4, none⟩ = some (.int .i64 B.k) ∧ w'.cell? ⟨w8.heap.size, 5, none⟩ = some (.string B.o) ∧ w'.cell? ⟨w8.heap.size, 6, none⟩ = some (.string B.y) ∧ w'.cell? ⟨w8.heap.size, 7, none⟩ = some (.int .i64 B.v) ∧ w'.cell? ⟨w8.heap.size, 8, none⟩ = some (.int .i64 B.x) ∧ w'.cell? ⟨w8.heap.size, 9, none⟩ = some (.int .i64 B.z)) ∧ (w'.cell? ⟨(w8.heap.size + 1), 0, none⟩ = some (.int .i64 C.r) ∧ w'.cell? ⟨(w8.heap.size + 1), 1, none⟩ = some (.int .i64 C.s) ∧ w'.cell? ⟨(w8.heap.size + 1), 2, none⟩ = some (.int .i64 C.t) ∧ w'.cell? ⟨(w8.heap.size + 1), 3, none⟩ = some (.slice (some ⟨gc, 0, none⟩) C.l.length cc) ∧ w'.cell? ⟨(w8.heap.size + 1), 4, none⟩ = some (.int .i64 C.k) ∧ w'.cell? ⟨(w8.heap.size + 1), 5, none⟩ = some (.string C.o) ∧ w'.cell? ⟨(w8.heap.size + 1), 6, none⟩ = some (.string C.y) ∧ w'.cell? ⟨(w8.heap.size + 1), 7, none⟩ = some (.int .i64 C.v) ∧ w'.cell? ⟨(w8.heap.size + 1), 8, none⟩ = some (.int .i64 C.x) ∧ w'.cell? ⟨(w8.heap.size + 1), 9, none⟩ = some (.int .i64 C.z)) ∧ (w'.cell? ⟨w9.heap.size, 0, none⟩ = some (.int .i64 D.r) ∧ w'.cell? ⟨w9.heap.size, 1, none⟩ = some (.int .i64 D.s) ∧ w'.cell? ⟨w9.heap.size, 2, none⟩ = some (.int .i64 D.t) ∧ w'.cell? ⟨w9.heap.size, 3, none⟩ = some (.slice (some ⟨gd, 0, none⟩) D.l.length cd) ∧ w'.cell? ⟨w9.heap.size, 4, none⟩ = some (.int .i64 D.k) ∧ w'.cell? ⟨w9.heap.size, 5, none⟩ = some (.string D.o) ∧ w'.cell? ⟨w9.heap.size, 6, none⟩ = some (.string D.y) ∧ w'.cell? ⟨w9.heap.size, 7, none⟩ = some (.int .i64 D.v) ∧ w'.cell? ⟨w9.heap.size, 8, none⟩ = some (.int .i64 D.x) ∧ w'.cell? ⟨w9.heap.size, 9, none⟩ = some (.int .i64 D.z)) ∧ (w'.cell? ⟨(w9.heap.size + 1), 0, none⟩ = some (.int .i64 E.r) ∧ w'.cell? ⟨(w9.heap.size + 1), 1, none⟩ = some (.int .i64 E.s) ∧ w'.cell? ⟨(w9.heap.size + 1), 2, none⟩ = some (.int .i64 E.t) ∧ w'.cell? ⟨(w9.heap.size + 1), 3, none⟩ = some (.slice (some ⟨ge, 0, none⟩) E.l.length ce) ∧ w'.cell? ⟨(w9.heap.size + 1), 4, none⟩ = some (.int .i64 E.k) ∧ w'.cell? ⟨(w9.heap.size + 1), 5, none⟩ = some (.string E.o) ∧ w'.cell? ⟨(w9.heap.size + 1), 6, none⟩ = some (.string E.y) ∧ w'.cell? ⟨(w9.heap.size + 1), 7, none⟩ = some (.int .i64 E.v) ∧ w'.cell? ⟨(w9.heap.size + 1), 8, none⟩ = some (.int .i64 E.x) ∧ w'.cell? ⟨(w9.heap.size + 1), 9, none⟩ = some (.int .i64 E.z)))) (by kernel_rfl) (HS.out _ hBc) (fun _ => ?_)
        refine wpAnyH_list (l' := #[false, false, false, false, false, false, false, false, false, false, false, false, false, false, false, false, false, false, false, false, false, false, false, false, false, false, false, false, false, false, false, false, false, false, false, false, false, false, false, false, false, false, false, false, false, false, false, false, false, false, false, false, false, false, false, false, false, false, false, false, false, false, false, false, false, false, false, false, false, false, false, false, false, false, false, false, false, false, false, false, false]) (by as_aux_lemma => kernel_rfl) ?_
        refine wpAnyH_take (i := 0) (oi := { dst := some 70, op := Op.move (Operand.tmp 5), type := 4, pos := "laws.go:266", after := #[], guard := none }) (v := ?v0_11) rfl (by as_aux_lemma => kernel_rfl) (by as_aux_lemma => kernel_rfl) (by as_aux_lemma => kernel_rfl) (fun _ _ _ h => h) (Or.inl ⟨by rfl, ?hy0_11⟩) (HS.out _ hBc) ?_
        case hy0_11 =>
          intro w _
          go_simp <;> with_reducible rfl
        try simp only [Act.put, List.setIfInBounds_toArray, List.set_cons_zero, List.set_cons_succ]
        refine wpAnyH_take (i := 1) (oi := { dst := some 71, op := Op.load 75 (Operand.tmp 3), type := 75, pos := "laws.go:266", after := #[], guard := none }) (v := ?v1_11) rfl (by as_aux_lemma => kernel_rfl) (by as_aux_lemma => kernel_rfl) (by as_aux_lemma => kernel_rfl) (fun _ _ _ h => h) (Or.inl ⟨by rfl, ?hy1_11⟩) (HS.out _ hBc) ?_
        case hy1_11 =>
          intro w hSw
          replace hSw := hSw.1
          go_simp <;> with_reducible rfl
        try simp only [Act.put, List.setIfInBounds_toArray, List.set_cons_zero, List.set_cons_succ]
        refine wpAnyH_ready (rs := [2]) (by as_aux_lemma => kernel_rfl) (by simp) ?_
        refine AllReadyH.cons (o := { dst := some 72, op := Op.call { callee := Callee.value (Operand.func 54), args := #[Operand.tmp 71], argTypes := #[75] }, type := 4, pos := "laws.go:266", after := #[{ on := 1, ground := Ground.data }], guard := none }) rfl (fun K hK => ?_) AllReadyH.nil
        go_simp
        refine (K1.out _ hBc).mono ?_
        rintro e wn ⟨rfl, hbn⟩
        replace hBc := hBc.trans (hbn.mono hBc.size)
        clear hbn
        try go_wp2_with fail
        refine hK.out _ _ (HS.out _ hBc) (fun _ => ?_)
        clear hK K
        try simp only [List.setIfInBounds_toArray, List.set_cons_zero, List.set_cons_succ]
        refine wpAnyH_take (i := 3) (oi := { dst := some 73, op := Op.binOp BinOp.eql 4 (Operand.tmp 70) (Operand.tmp 72) 4, type := 4, pos := "laws.go:266", after := #[{ on := 0, ground := Ground.data }, { on := 2, ground := Ground.data }], guard := none }) (v := ?v3_11) rfl (by as_aux_lemma => kernel_rfl) (by as_aux_lemma => kernel_rfl) (by as_aux_lemma => kernel_rfl) (fun _ _ _ h => h) (Or.inl ⟨by rfl, ?hy3_11⟩) (HS.out _ hBc) ?_
        case hy3_11 =>
          intro w _
          go_simp <;> with_reducible rfl
        try simp only [Act.put, List.setIfInBounds_toArray, List.set_cons_zero, List.set_cons_succ]
        refine wpAnyH_take (i := 4) (oi := { dst := some 74, op := Op.move (Operand.tmp 73), type := 4, pos := "laws.go:266", after := #[{ on := 3, ground := Ground.data }, { on := 2, ground := Ground.chain }], guard := none }) (v := ?v4_11) rfl (by as_aux_lemma => kernel_rfl) (by as_aux_lemma => kernel_rfl) (by as_aux_lemma => kernel_rfl) (fun _ _ _ h => h) (Or.inl ⟨by rfl, ?hy4_11⟩) (HS.out _ hBc) ?_
        case hy4_11 =>
          intro w _
          go_simp <;> with_reducible rfl
        try simp only [Act.put, List.setIfInBounds_toArray, List.set_cons_zero, List.set_cons_succ]
        refine wpAnyH_take (i := 5) (oi := { dst := some 75, op := Op.load 75 (Operand.tmp 3), type := 75, pos := "laws.go:266", after := #[{ on := 4, ground := Ground.guard }], guard := some (4, true) }) (v := ?v5_11) rfl (by as_aux_lemma => kernel_rfl) (by as_aux_lemma => kernel_rfl) (by as_aux_lemma => kernel_rfl) (fun _ _ _ h => h) (Or.inl ⟨by rfl, ?hy5_11⟩) (HS.out _ hBc) ?_
        case hy5_11 =>
          intro w hSw
          replace hSw := hSw.1
          go_simp <;> with_reducible rfl
        try simp only [Act.put, List.setIfInBounds_toArray, List.set_cons_zero, List.set_cons_succ]
        refine wpAnyH_take (i := 7) (oi := { dst := some 77, op := Op.move (Operand.tmp 5), type := 4, pos := "laws.go:266", after := #[{ on := 4, ground := Ground.guard }], guard := some (4, true) }) (v := ?v7_11) rfl (by as_aux_lemma => kernel_rfl) (by as_aux_lemma => kernel_rfl) (by as_aux_lemma => kernel_rfl) (fun _ _ _ h => h) (Or.inl ⟨by rfl, ?hy7_11⟩) (HS.out _ hBc) ?_
        case hy7_11 =>
          intro w _
          go_simp <;> with_reducible rfl
        try simp only [Act.put, List.setIfInBounds_toArray, List.set_cons_zero, List.set_cons_succ]
        refine wpAnyH_ready (rs := [6]) (by as_aux_lemma => kernel_rfl) (by simp) ?_
        refine AllReadyH.cons (o := { dst := some 76, op := Op.call { callee := Callee.value (Operand.func 55), args := #[Operand.tmp 75], argTypes := #[75] }, type := 4, pos := "laws.go:266", after := #[{ on := 5, ground := Ground.data }, { on := 4, ground := Ground.chain }, { on := 4, ground := Ground.guard }], guard := some (4, true) }) rfl (fun K hK => ?_) AllReadyH.nil
        go_simp
        refine (K2.out _ hBc).mono ?_
        rintro e wn ⟨rfl, hbn⟩
        replace hBc := hBc.trans (hbn.mono hBc.size)
        clear hbn
        try go_wp2_with fail
        refine hK.out _ _ (HS.out _ hBc) (fun _ => ?_)
        clear hK K
        try simp only [List.setIfInBounds_toArray, List.set_cons_zero, List.set_cons_succ]
        refine wpAnyH_take (i := 8) (oi := { dst := some 78, op := Op.binOp BinOp.eql 4 (Operand.tmp 76) (Operand.tmp 77) 4, type := 4, pos := "laws.go:266", after := #[{ on := 6, ground := Ground.data }, { on := 7, ground := Ground.data }, { on := 4, ground := Ground.guard }], guard := some (4, true) }) (v := ?v8_11) rfl (by as_aux_lemma => kernel_rfl) (by as_aux_lemma => kernel_rfl) (by as_aux_lemma => kernel_rfl) (fun _ _ _ h => h) (Or.inl ⟨by rfl, ?hy8_11⟩) (HS.out _ hBc) ?_
        case hy8_11 =>
          intro w _
          go_simp <;> with_reducible rfl
        try simp only [Act.put, List.setIfInBounds_toArray, List.set_cons_zero, List.set_cons_succ]
        refine wpAnyH_take (i := 9) (oi := { dst := some 79, op := Op.pick (Operand.tmp 74) (Operand.tmp 78) (Operand.const (Value.bool false)), type := 4, pos := "laws.go:266", after := #[{ on := 4, ground := Ground.data }, { on := 8, ground := Ground.data }], guard := none }) (v := ?v9_11) rfl (by as_aux_lemma => kernel_rfl) (by as_aux_lemma => kernel_rfl) (by as_aux_lemma => kernel_rfl) (fun _ _ _ h => h) (Or.inl ⟨by rfl, ?hy9_11⟩) (HS.out _ hBc) ?_
        case hy9_11 =>
          intro w _
          go_simp <;> with_reducible rfl
        try simp only [Act.put, List.setIfInBounds_toArray, List.set_cons_zero, List.set_cons_succ]
        refine wpAnyH_take (i := 10) (oi := { dst := some 80, op := Op.move (Operand.tmp 79), type := 4, pos := "laws.go:266", after := #[{ on := 9, ground := Ground.data }, { on := 6, ground := Ground.chain }], guard := none }) (v := ?v10_11) rfl (by as_aux_lemma => kernel_rfl) (by as_aux_lemma => kernel_rfl) (by as_aux_lemma => kernel_rfl) (fun _ _ _ h => h) (Or.inl ⟨by rfl, ?hy10_11⟩) (HS.out _ hBc) ?_
        case hy10_11 =>
          intro w _
          go_simp <;> with_reducible rfl
        try simp only [Act.put, List.setIfInBounds_toArray, List.set_cons_zero, List.set_cons_succ]
        refine wpAnyH_take (i := 11) (oi := { dst := some 81, op := Op.move (Operand.tmp 5), type := 4, pos := "laws.go:266", after := #[{ on := 10, ground := Ground.guard }], guard := some (10, true) }) (v := ?v11_11) rfl (by as_aux_lemma => kernel_rfl) (by as_aux_lemma => kernel_rfl) (by as_aux_lemma => kernel_rfl) (fun _ _ _ h => h) (Or.inl ⟨by rfl, ?hy11_11⟩) (HS.out _ hBc) ?_
        case hy11_11 =>
          intro w _
          go_simp <;> with_reducible rfl
        try simp only [Act.put, List.setIfInBounds_toArray, List.set_cons_zero, List.set_cons_succ]
        as_aux_lemma =>
         refine wpAnyH_take (i := 12) (oi := { dst := some 82, op := Op.unOp UnOp.not 4 (Operand.tmp 81), type := 4, pos := "laws.go:266", after := #[{ on := 11, ground := Ground.data }, { on := 10, ground := Ground.guard }], guard := some (10, true) }) (v := ?v12_11) rfl (by as_aux_lemma => kernel_rfl) (by as_aux_lemma => kernel_rfl) (by as_aux_lemma => kernel_rfl) (fun _ _ _ h => h) (Or.inl ⟨by rfl, ?hy12_11⟩) (HS.out _ hBc) ?_
         case hy12_11 =>
           intro w _
           go_simp <;> with_reducible rfl
         try simp only [Act.put, List.setIfInBounds_toArray, List.set_cons_zero, List.set_cons_succ]
         refine wpAnyH_take (i := 13) (oi := { dst := some 83, op := Op.move (Operand.tmp 82), type := 4, pos := "laws.go:266", after := #[{ on := 12, ground := Ground.data }, { on := 10, ground := Ground.chain }, { on := 10, ground := Ground.guard }], guard := some (10, true) }) (v := ?v13_11) rfl (by as_aux_lemma => kernel_rfl) (by as_aux_lemma => kernel_rfl) (by as_aux_lemma => kernel_rfl) (fun _ _ _ h => h) (Or.inl ⟨by rfl, ?hy13_11⟩) (HS.out _ hBc) ?_
         case hy13_11 =>
           intro w _
           go_simp <;> with_reducible rfl
         try simp only [Act.put, List.setIfInBounds_toArray, List.set_cons_zero, List.set_cons_succ]
         refine wpAnyH_take (i := 14) (oi := { dst := some 84, op := Op.move (Operand.tmp 8), type := 4, pos := "laws.go:266", after := #[{ on := 13, ground := Ground.guard }], guard := some (13, false) }) (v := ?v14_11) rfl (by as_aux_lemma => kernel_rfl) (by as_aux_lemma => kernel_rfl) (by as_aux_lemma => kernel_rfl) (fun _ _ _ h => h) (Or.inl ⟨by rfl, ?hy14_11⟩) (HS.out _ hBc) ?_
         case hy14_11 =>
           intro w _
           go_simp <;> with_reducible rfl
         try simp only [Act.put, List.setIfInBounds_toArray, List.set_cons_zero, List.set_cons_succ]
         refine wpAnyH_take (i := 15) (oi := { dst := some 85, op := Op.move (Operand.tmp 84), type := 4, pos := "laws.go:266", after := #[{ on := 14, ground := Ground.data }, { on := 13, ground := Ground.chain }, { on := 13, ground := Ground.guard }], guard := some (13, false) }) (v := ?v15_11) rfl (by as_aux_lemma => kernel_rfl) (by as_aux_lemma => kernel_rfl) (by as_aux_lemma => kernel_rfl) (fun _ _ _ h => h) (Or.inl ⟨by rfl, ?hy15_11⟩) (HS.out _ hBc) ?_
         case hy15_11 =>
           intro w _
           go_simp <;> with_reducible rfl
         try simp only [Act.put, List.setIfInBounds_toArray, List.set_cons_zero, List.set_cons_succ]
         refine wpAnyH_take (i := 16) (oi := { dst := some 86, op := Op.load 75 (Operand.tmp 6), type := 75, pos := "laws.go:266", after := #[{ on := 15, ground := Ground.guard }], guard := some (15, true) }) (v := ?v16_11) rfl (by as_aux_lemma => kernel_rfl) (by as_aux_lemma => kernel_rfl) (by as_aux_lemma => kernel_rfl) (fun _ _ _ h => h) (Or.inl ⟨by rfl, ?hy16_11⟩) (HS.out _ hBc) ?_
         case hy16_11 =>
           intro w hSw
           replace hSw := hSw.2.1
           go_simp <;> with_reducible rfl
         try simp only [Act.put, List.setIfInBounds_toArray, List.set_cons_zero, List.set_cons_succ]
         refine wpAnyH_take (i := 17) (oi := { dst := some 87, op := Op.load 75 (Operand.tmp 3), type := 75, pos := "laws.go:266", after := #[{ on := 15, ground := Ground.guard }], guard := some (15, true) }) (v := ?v17_11) rfl (by as_aux_lemma => kernel_rfl) (by as_aux_lemma => kernel_rfl) (by as_aux_lemma => kernel_rfl) (fun _ _ _ h => h) (Or.inl ⟨by rfl, ?hy17_11⟩) (HS.out _ hBc) ?_
         case hy17_11 =>
           intro w hSw
           replace hSw := hSw.1
           go_simp <;> with_reducible rfl
         try simp only [Act.put, List.setIfInBounds_toArray, List.set_cons_zero, List.set_cons_succ]
         refine wpAnyH_ready (rs := [18]) (by as_aux_lemma => kernel_rfl) (by simp) ?_
         refine AllReadyH.cons (o := { dst := some 88, op := Op.call { callee := Callee.value (Operand.func 56), args := #[Operand.tmp 86, Operand.tmp 87], argTypes := #[75, 75] }, type := 4, pos := "laws.go:266", after := #[{ on := 16, ground := Ground.data }, { on := 17, ground := Ground.data }, { on := 15, ground := Ground.chain }, { on := 15, ground := Ground.guard }], guard := some (15, true) }) rfl (fun K hK => ?_) AllReadyH.nil
         go_simp
         refine (K3.out _ hBc).mono ?_
         rintro e wn ⟨rfl, hbn⟩
         replace hBc := hBc.trans (hbn.mono hBc.size)
         clear hbn
         try go_wp2_with fail
         refine hK.out _ _ (HS.out _ hBc) (fun _ => ?_)
         clear hK K
         try simp only [List.setIfInBounds_toArray, List.set_cons_zero, List.set_cons_succ]
         refine wpAnyH_take (i := 19) (oi := { dst := some 89, op := Op.pick (Operand.tmp 85) (Operand.tmp 88) (Operand.const (Value.bool false)), type := 4, pos := "laws.go:266", after := #[{ on := 15, ground := Ground.data }, { on := 18, ground := Ground.data }, { on := 13, ground := Ground.guard }], guard := some (13, false) }) (v := ?v19_11) rfl (by as_aux_lemma => kernel_rfl) (by as_aux_lemma => kernel_rfl) (by as_aux_lemma => kernel_rfl) (fun _ _ _ h => h) (Or.inl ⟨by rfl, ?hy19_11⟩) (HS.out _ hBc) ?_
         case hy19_11 =>
           intro w _
           go_simp <;> with_reducible rfl
         try simp only [Act.put, List.setIfInBounds_toArray, List.set_cons_zero, List.set_cons_succ]
         refine wpAnyH_take (i := 20) (oi := { dst := some 90, op := Op.move (Operand.tmp 89), type := 4, pos := "laws.go:266", after := #[{ on := 19, ground := Ground.data }, { on := 18, ground := Ground.chain }, { on := 13, ground := Ground.guard }], guard := some (13, false) }) (v := ?v20_11) rfl (by as_aux_lemma => kernel_rfl) (by as_aux_lemma => kernel_rfl) (by as_aux_lemma => kernel_rfl) (fun _ _ _ h => h) (Or.inl ⟨by rfl, ?hy20_11⟩) (HS.out _ hBc) ?_
         case hy20_11 =>
           intro w _
           go_simp <;> with_reducible rfl
         try simp only [Act.put, List.setIfInBounds_toArray, List.set_cons_zero, List.set_cons_succ]
         refine wpAnyH_take (i := 21) (oi := { dst := some 91, op := Op.move (Operand.tmp 7), type := 3, pos := "laws.go:266", after := #[{ on := 20, ground := Ground.guard }], guard := some (20, true) }) (v := ?v21_11) rfl (by as_aux_lemma => kernel_rfl) (by as_aux_lemma => kernel_rfl) (by as_aux_lemma => kernel_rfl) (fun _ _ _ h => h) (Or.inl ⟨by rfl, ?hy21_11⟩) (HS.out _ hBc) ?_
         case hy21_11 =>
           intro w _
           go_simp <;> with_reducible rfl
         try simp only [Act.put, List.setIfInBounds_toArray, List.set_cons_zero, List.set_cons_succ]
         refine wpAnyH_take (i := 22) (oi := { dst := some 92, op := Op.move (Operand.tmp 4), type := 9, pos := "laws.go:266", after := #[{ on := 20, ground := Ground.guard }], guard := some (20, true) }) (v := ?v22_11) rfl (by as_aux_lemma => kernel_rfl) (by as_aux_lemma => kernel_rfl) (by as_aux_lemma => kernel_rfl) (fun _ _ _ h => h) (Or.inl ⟨by rfl, ?hy22_11⟩) (HS.out _ hBc) ?_
         case hy22_11 =>
           intro w _
           go_simp <;> with_reducible rfl
         try simp only [Act.put, List.setIfInBounds_toArray, List.set_cons_zero, List.set_cons_succ]
         refine wpAnyH_take (i := 23) (oi := { dst := some 93, op := Op.call { callee := Callee.builtin Builtin.len, args := #[Operand.tmp 92], argTypes := #[9] }, type := 3, pos := "laws.go:266", after := #[{ on := 22, ground := Ground.data }, { on := 20, ground := Ground.guard }], guard := some (20, true) }) (v := ?v23_11) rfl (by as_aux_lemma => kernel_rfl) (by as_aux_lemma => kernel_rfl) (by as_aux_lemma => kernel_rfl) (fun _ _ _ h => h) (Or.inl ⟨by rfl, ?hy23_11⟩) (HS.out _ hBc) ?_
         case hy23_11 =>
           intro w _
           go_simp <;> with_reducible rfl
         try simp only [Act.put, List.setIfInBounds_toArray, List.set_cons_zero, List.set_cons_succ]
         as_aux_lemma =>
          refine wpAnyH_take (i := 24) (oi := { dst := some 94, op := Op.binOp BinOp.add 3 (Operand.const (Value.int IntKind.i64 2)) (Operand.tmp 93) 3, type := 3, pos := "laws.go:266", after := #[{ on := 23, ground := Ground.data }, { on := 20, ground := Ground.guard }], guard := some (20, true) }) (v := ?v24_11) rfl (by as_aux_lemma => kernel_rfl) (by as_aux_lemma => kernel_rfl) (by as_aux_lemma => kernel_rfl) (fun _ _ _ h => h) (Or.inl ⟨by rfl, ?hy24_11⟩) (HS.out _ hBc) ?_
          case hy24_11 =>
            intro w _
            go_simp <;> with_reducible rfl
          try simp only [Act.put, List.setIfInBounds_toArray, List.set_cons_zero, List.set_cons_succ]
          refine wpAnyH_take (i := 25) (oi := { dst := some 95, op := Op.binOp BinOp.eql 3 (Operand.tmp 91) (Operand.tmp 94) 3, type := 4, pos := "laws.go:266", after := #[{ on := 21, ground := Ground.data }, { on := 24, ground := Ground.data }, { on := 20, ground := Ground.guard }], guard := some (20, true) }) (v := ?v25_11) rfl (by as_aux_lemma => kernel_rfl) (by as_aux_lemma => kernel_rfl) (by as_aux_lemma => kernel_rfl) (fun _ _ _ h => h) (Or.inl ⟨by rfl, ?hy25_11⟩) (HS.out _ hBc) ?_
          case hy25_11 =>
            intro w _
            go_simp <;> with_reducible rfl
          try simp only [Act.put, List.setIfInBounds_toArray, List.set_cons_zero, List.set_cons_succ]
          refine wpAnyH_take (i := 26) (oi := { dst := some 96, op := Op.pick (Operand.tmp 90) (Operand.tmp 95) (Operand.const (Value.bool false)), type := 4, pos := "laws.go:266", after := #[{ on := 20, ground := Ground.data }, { on := 25, ground := Ground.data }, { on := 13, ground := Ground.guard }], guard := some (13, false) }) (v := ?v26_11) rfl (by as_aux_lemma => kernel_rfl) (by as_aux_lemma => kernel_rfl) (by as_aux_lemma => kernel_rfl) (fun _ _ _ h => h) (Or.inl ⟨by rfl, ?hy26_11⟩) (HS.out _ hBc) ?_
          case hy26_11 =>
            intro w _
            go_simp <;> with_reducible rfl
          try simp only [Act.put, List.setIfInBounds_toArray, List.set_cons_zero, List.set_cons_succ]
          refine wpAnyH_take (i := 27) (oi := { dst := some 97, op := Op.pick (Operand.tmp 83) (Operand.const (Value.bool true)) (Operand.tmp 96), type := 4, pos := "laws.go:266", after := #[{ on := 13, ground := Ground.data }, { on := 26, ground := Ground.data }, { on := 10, ground := Ground.guard }], guard := some (10, true) }) (v := ?v27_11) rfl (by as_aux_lemma => kernel_rfl) (by as_aux_lemma => kernel_rfl) (by as_aux_lemma => kernel_rfl) (fun _ _ _ h => h) (Or.inl ⟨by rfl, ?hy27_11⟩) (HS.out _ hBc) ?_
          case hy27_11 =>
            intro w _
            go_simp <;> with_reducible rfl
          try simp only [Act.put, List.setIfInBounds_toArray, List.set_cons_zero, List.set_cons_succ]
          refine wpAnyH_take (i := 28) (oi := { dst := some 98, op := Op.pick (Operand.tmp 80) (Operand.tmp 97) (Operand.const (Value.bool false)), type := 4, pos := "laws.go:266", after := #[{ on := 10, ground := Ground.data }, { on := 27, ground := Ground.data }], guard := none }) (v := ?v28_11) rfl (by as_aux_lemma => kernel_rfl) (by as_aux_lemma => kernel_rfl) (by as_aux_lemma => kernel_rfl) (fun _ _ _ h => h) (Or.inl ⟨by rfl, ?hy28_11⟩) (HS.out _ hBc) ?_
          case hy28_11 =>
            intro w _
            go_simp <;> with_reducible rfl
          try simp only [Act.put, List.setIfInBounds_toArray, List.set_cons_zero, List.set_cons_succ]
          refine wpAnyH_take (i := 29) (oi := { dst := some 99, op := Op.move (Operand.tmp 98), type := 4, pos := "laws.go:266", after := #[{ on := 28, ground := Ground.data }, { on := 20, ground := Ground.chain }], guard := none }) (v := ?v29_11) rfl (by as_aux_lemma => kernel_rfl) (by as_aux_lemma => kernel_rfl) (by as_aux_lemma => kernel_rfl) (fun _ _ _ h => h) (Or.inl ⟨by rfl, ?hy29_11⟩) (HS.out _ hBc) ?_
          case hy29_11 =>
            intro w _
            go_simp <;> with_reducible rfl
          try simp only [Act.put, List.setIfInBounds_toArray, List.set_cons_zero, List.set_cons_succ]
          refine wpAnyH_take (i := 30) (oi := { dst := some 100, op := Op.move (Operand.tmp 13), type := 4, pos := "laws.go:266", after := #[{ on := 29, ground := Ground.guard }], guard := some (29, true) }) (v := ?v30_11) rfl (by as_aux_lemma => kernel_rfl) (by as_aux_lemma => kernel_rfl) (by as_aux_lemma => kernel_rfl) (fun _ _ _ h => h) (Or.inl ⟨by rfl, ?hy30_11⟩) (HS.out _ hBc) ?_
          case hy30_11 =>
            intro w _
            go_simp <;> with_reducible rfl
          try simp only [Act.put, List.setIfInBounds_toArray, List.set_cons_zero, List.set_cons_succ]
          refine wpAnyH_take (i := 31) (oi := { dst := some 101, op := Op.move (Operand.tmp 16), type := 4, pos := "laws.go:266", after := #[{ on := 29, ground := Ground.guard }], guard := some (29, true) }) (v := ?v31_11) rfl (by as_aux_lemma => kernel_rfl) (by as_aux_lemma => kernel_rfl) (by as_aux_lemma => kernel_rfl) (fun _ _ _ h => h) (Or.inl ⟨by rfl, ?hy31_11⟩) (HS.out _ hBc) ?_
          case hy31_11 =>
            intro w _
            go_simp <;> with_reducible rfl
          try simp only [Act.put, List.setIfInBounds_toArray, List.set_cons_zero, List.set_cons_succ]
          refine wpAnyH_take (i := 32) (oi := { dst := some 102, op := Op.binOp BinOp.eql 4 (Operand.tmp 100) (Operand.tmp 101) 4, type := 4, pos := "laws.go:266", after := #[{ on := 30, ground := Ground.data }, { on := 31, ground := Ground.data }, { on := 29, ground := Ground.guard }], guard := some (29, true) }) (v := ?v32_11) rfl (by as_aux_lemma => kernel_rfl) (by as_aux_lemma => kernel_rfl) (by as_aux_lemma => kernel_rfl) (fun _ _ _ h => h) (Or.inl ⟨by rfl, ?hy32_11⟩) (HS.out _ hBc) ?_
          case hy32_11 =>
            intro w _
            go_simp <;> with_reducible rfl
          try simp only [Act.put, List.setIfInBounds_toArray, List.set_cons_zero, List.set_cons_succ]
          refine wpAnyH_take (i := 33) (oi := { dst := some 103, op := Op.pick (Operand.tmp 99) (Operand.tmp 102) (Operand.const (Value.bool false)), type := 4, pos := "laws.go:266", after := #[{ on := 29, ground := Ground.data }, { on := 32, ground := Ground.data }], guard := none }) (v := ?v33_11) rfl (by as_aux_lemma => kernel_rfl) (by as_aux_lemma => kernel_rfl) (by as_aux_lemma => kernel_rfl) (fun _ _ _ h => h) (Or.inl ⟨by rfl, ?hy33_11⟩) (HS.out _ hBc) ?_
          case hy33_11 =>
            intro w _
            go_simp <;> with_reducible rfl
          try simp only [Act.put, List.setIfInBounds_toArray, List.set_cons_zero, List.set_cons_succ]
          refine wpAnyH_take (i := 34) (oi := { dst := some 104, op := Op.move (Operand.tmp 103), type := 4, pos := "laws.go:266", after := #[{ on := 33, ground := Ground.data }, { on := 29, ground := Ground.chain }], guard := none }) (v := ?v34_11) rfl (by as_aux_lemma => kernel_rfl) (by as_aux_lemma => kernel_rfl) (by as_aux_lemma => kernel_rfl) (fun _ _ _ h => h) (Or.inl ⟨by rfl, ?hy34_11⟩) (HS.out _ hBc) ?_
          case hy34_11 =>
            intro w _
            go_simp <;> with_reducible rfl
          try simp only [Act.put, List.setIfInBounds_toArray, List.set_cons_zero, List.set_cons_succ]
          refine wpAnyH_take (i := 35) (oi := { dst := some 105, op := Op.move (Operand.tmp 12), type := 3, pos := "laws.go:266", after := #[{ on := 34, ground := Ground.guard }], guard := some (34, true) }) (v := ?v35_11) rfl (by as_aux_lemma => kernel_rfl) (by as_aux_lemma => kernel_rfl) (by as_aux_lemma => kernel_rfl) (fun _ _ _ h => h) (Or.inl ⟨by rfl, ?hy35_11⟩) (HS.out _ hBc) ?_
          case hy35_11 =>
            intro w _
            go_simp <;> with_reducible rfl
          try simp only [Act.put, List.setIfInBounds_toArray, List.set_cons_zero, List.set_cons_succ]
          as_aux_lemma =>
           refine wpAnyH_take (i := 36) (oi := { dst := some 106, op := Op.move (Operand.tmp 15), type := 3, pos := "laws.go:266", after := #[{ on := 34, ground := Ground.guard }], guard := some (34, true) }) (v := ?v36_11) rfl (by as_aux_lemma => kernel_rfl) (by as_aux_lemma => kernel_rfl) (by as_aux_lemma => kernel_rfl) (fun _ _ _ h => h) (Or.inl ⟨by rfl, ?hy36_11⟩) (HS.out _ hBc) ?_
           case hy36_11 =>
             intro w _
             go_simp <;> with_reducible rfl
           try simp only [Act.put, List.setIfInBounds_toArray, List.set_cons_zero, List.set_cons_succ]
           refine wpAnyH_take (i := 37) (oi := { dst := some 107, op := Op.binOp BinOp.eql 3 (Operand.tmp 105) (Operand.tmp 106) 3, type := 4, pos := "laws.go:266", after := #[{ on := 35, ground := Ground.data }, { on := 36, ground := Ground.data }, { on := 34, ground := Ground.guard }], guard := some (34, true) }) (v := ?v37_11) rfl (by as_aux_lemma => kernel_rfl) (by as_aux_lemma => kernel_rfl) (by as_aux_lemma => kernel_rfl) (fun _ _ _ h => h) (Or.inl ⟨by rfl, ?hy37_11⟩) (HS.out _ hBc) ?_
           case hy37_11 =>
             intro w _
             go_simp <;> with_reducible rfl
           try simp only [Act.put, List.setIfInBounds_toArray, List.set_cons_zero, List.set_cons_succ]
           refine wpAnyH_take (i := 38) (oi := { dst := some 108, op := Op.pick (Operand.tmp 104) (Operand.tmp 107) (Operand.const (Value.bool false)), type := 4, pos := "laws.go:266", after := #[{ on := 34, ground := Ground.data }, { on := 37, ground := Ground.data }], guard := none }) (v := ?v38_11) rfl (by as_aux_lemma => kernel_rfl) (by as_aux_lemma => kernel_rfl) (by as_aux_lemma => kernel_rfl) (fun _ _ _ h => h) (Or.inl ⟨by rfl, ?hy38_11⟩) (HS.out _ hBc) ?_
           case hy38_11 =>
             intro w _
             go_simp <;> with_reducible rfl
           try simp only [Act.put, List.setIfInBounds_toArray, List.set_cons_zero, List.set_cons_succ]
           refine wpAnyH_take (i := 39) (oi := { dst := some 109, op := Op.move (Operand.tmp 108), type := 4, pos := "laws.go:266", after := #[{ on := 38, ground := Ground.data }, { on := 34, ground := Ground.chain }], guard := none }) (v := ?v39_11) rfl (by as_aux_lemma => kernel_rfl) (by as_aux_lemma => kernel_rfl) (by as_aux_lemma => kernel_rfl) (fun _ _ _ h => h) (Or.inl ⟨by rfl, ?hy39_11⟩) (HS.out _ hBc) ?_
           case hy39_11 =>
             intro w _
             go_simp <;> with_reducible rfl
           try simp only [Act.put, List.setIfInBounds_toArray, List.set_cons_zero, List.set_cons_succ]
           refine wpAnyH_take (i := 40) (oi := { dst := some 110, op := Op.load 75 (Operand.tmp 11), type := 75, pos := "laws.go:266", after := #[{ on := 39, ground := Ground.guard }], guard := some (39, true) }) (v := ?v40_11) rfl (by as_aux_lemma => kernel_rfl) (by as_aux_lemma => kernel_rfl) (by as_aux_lemma => kernel_rfl) (fun _ _ _ h => h) (Or.inl ⟨by rfl, ?hy40_11⟩) (HS.out _ hBc) ?_
           case hy40_11 =>
             intro w hSw
             replace hSw := hSw.2.2.1
             go_simp <;> with_reducible rfl
           try simp only [Act.put, List.setIfInBounds_toArray, List.set_cons_zero, List.set_cons_succ]
           refine wpAnyH_take (i := 41) (oi := { dst := some 111, op := Op.load 75 (Operand.tmp 14), type := 75, pos := "laws.go:266", after := #[{ on := 39, ground := Ground.guard }], guard := some (39, true) }) (v := ?v41_11) rfl (by as_aux_lemma => kernel_rfl) (by as_aux_lemma => kernel_rfl) (by as_aux_lemma => kernel_rfl) (fun _ _ _ h => h) (Or.inl ⟨by rfl, ?hy41_11⟩) (HS.out _ hBc) ?_
           case hy41_11 =>
             intro w hSw
             replace hSw := hSw.2.2.2.1
             go_simp <;> with_reducible rfl
           try simp only [Act.put, List.setIfInBounds_toArray, List.set_cons_zero, List.set_cons_succ]
           refine wpAnyH_ready (rs := [42]) (by as_aux_lemma => kernel_rfl) (by simp) ?_
           refine AllReadyH.cons (o := { dst := some 112, op := Op.call { callee := Callee.value (Operand.func 56), args := #[Operand.tmp 110, Operand.tmp 111], argTypes := #[75, 75] }, type := 4, pos := "laws.go:266", after := #[{ on := 40, ground := Ground.data }, { on := 41, ground := Ground.data }, { on := 39, ground := Ground.chain }, { on := 39, ground := Ground.guard }], guard := some (39, true) }) rfl (fun K hK => ?_) AllReadyH.nil
           go_simp
           refine (K4.out _ hBc).mono ?_
           rintro e wn ⟨rfl, hbn⟩
           replace hBc := hBc.trans (hbn.mono hBc.size)
           clear hbn
           try go_wp2_with fail
           refine hK.out _ _ (HS.out _ hBc) (fun _ => ?_)
           clear hK K
           try simp only [List.setIfInBounds_toArray, List.set_cons_zero, List.set_cons_succ]
           refine wpAnyH_take (i := 43) (oi := { dst := some 113, op := Op.pick (Operand.tmp 109) (Operand.tmp 112) (Operand.const (Value.bool false)), type := 4, pos := "laws.go:266", after := #[{ on := 39, ground := Ground.data }, { on := 42, ground := Ground.data }], guard := none }) (v := ?v43_11) rfl (by as_aux_lemma => kernel_rfl) (by as_aux_lemma => kernel_rfl) (by as_aux_lemma => kernel_rfl) (fun _ _ _ h => h) (Or.inl ⟨by rfl, ?hy43_11⟩) (HS.out _ hBc) ?_
           case hy43_11 =>
             intro w _
             go_simp <;> with_reducible rfl
           try simp only [Act.put, List.setIfInBounds_toArray, List.set_cons_zero, List.set_cons_succ]
           refine wpAnyH_take (i := 44) (oi := { dst := some 114, op := Op.move (Operand.tmp 113), type := 4, pos := "laws.go:266", after := #[{ on := 43, ground := Ground.data }, { on := 42, ground := Ground.chain }], guard := none }) (v := ?v44_11) rfl (by as_aux_lemma => kernel_rfl) (by as_aux_lemma => kernel_rfl) (by as_aux_lemma => kernel_rfl) (fun _ _ _ h => h) (Or.inl ⟨by rfl, ?hy44_11⟩) (HS.out _ hBc) ?_
           case hy44_11 =>
             intro w _
             go_simp <;> with_reducible rfl
           try simp only [Act.put, List.setIfInBounds_toArray, List.set_cons_zero, List.set_cons_succ]
           refine wpAnyH_take (i := 45) (oi := { dst := some 115, op := Op.load 75 (Operand.tmp 17), type := 75, pos := "laws.go:266", after := #[{ on := 44, ground := Ground.guard }], guard := some (44, true) }) (v := ?v45_11) rfl (by as_aux_lemma => kernel_rfl) (by as_aux_lemma => kernel_rfl) (by as_aux_lemma => kernel_rfl) (fun _ _ _ h => h) (Or.inl ⟨by rfl, ?hy45_11⟩) (HS.out _ hBc) ?_
           case hy45_11 =>
             intro w hSw
             replace hSw := hSw.2.2.2.2.1
             go_simp <;> with_reducible rfl
           try simp only [Act.put, List.setIfInBounds_toArray, List.set_cons_zero, List.set_cons_succ]
           refine wpAnyH_take (i := 46) (oi := { dst := some 116, op := Op.load 75 (Operand.tmp 18), type := 75, pos := "laws.go:266", after := #[{ on := 44, ground := Ground.guard }], guard := some (44, true) }) (v := ?v46_11) rfl (by as_aux_lemma => kernel_rfl) (by as_aux_lemma => kernel_rfl) (by as_aux_lemma => kernel_rfl) (fun _ _ _ h => h) (Or.inl ⟨by rfl, ?hy46_11⟩) (HS.out _ hBc) ?_
           case hy46_11 =>
             intro w hSw
             replace hSw := hSw.2.2.2.2.2.1
             go_simp <;> with_reducible rfl
           try simp only [Act.put, List.setIfInBounds_toArray, List.set_cons_zero, List.set_cons_succ]
           refine wpAnyH_take (i := 48) (oi := { dst := some 118, op := Op.load 75 (Operand.tmp 17), type := 75, pos := "laws.go:266", after := #[{ on := 44, ground := Ground.guard }], guard := some (44, true) }) (v := ?v48_11) rfl (by as_aux_lemma => kernel_rfl) (by as_aux_lemma => kernel_rfl) (by as_aux_lemma => kernel_rfl) (fun _ _ _ h => h) (Or.inl ⟨by rfl, ?hy48_11⟩) (HS.out _ hBc) ?_
           case hy48_11 =>
             intro w hSw
             replace hSw := hSw.2.2.2.2.1
             go_simp <;> with_reducible rfl
           try simp only [Act.put, List.setIfInBounds_toArray, List.set_cons_zero, List.set_cons_succ]
           as_aux_lemma =>
            refine wpAnyH_take (i := 49) (oi := { dst := some 119, op := Op.load 75 (Operand.tmp 18), type := 75, pos := "laws.go:266", after := #[{ on := 44, ground := Ground.guard }], guard := some (44, true) }) (v := ?v49_11) rfl (by as_aux_lemma => kernel_rfl) (by as_aux_lemma => kernel_rfl) (by as_aux_lemma => kernel_rfl) (fun _ _ _ h => h) (Or.inl ⟨by rfl, ?hy49_11⟩) (HS.out _ hBc) ?_
            case hy49_11 =>
              intro w hSw
              replace hSw := hSw.2.2.2.2.2.1
              go_simp <;> with_reducible rfl
            try simp only [Act.put, List.setIfInBounds_toArray, List.set_cons_zero, List.set_cons_succ]
            refine wpAnyH_ready (rs := [47]) (by as_aux_lemma => kernel_rfl) (by simp) ?_
            refine AllReadyH.cons (o := { dst := some 117, op := Op.call { callee := Callee.value (Operand.func 57), args := #[Operand.tmp 115, Operand.tmp 116], argTypes := #[75, 75] }, type := 4, pos := "laws.go:266", after := #[{ on := 45, ground := Ground.data }, { on := 46, ground := Ground.data }, { on := 44, ground := Ground.chain }, { on := 44, ground := Ground.guard }], guard := some (44, true) }) rfl (fun K hK => ?_) AllReadyH.nil
            go_simp
            refine (K5.out _ hBc).mono ?_
            rintro e wn ⟨rfl, hbn⟩
            replace hBc := hBc.trans (hbn.mono hBc.size)
            clear hbn
            try go_wp2_with fail
            refine hK.out _ _ (HS.out _ hBc) (fun _ => ?_)
            clear hK K
            try simp only [List.setIfInBounds_toArray, List.set_cons_zero, List.set_cons_succ]
            refine wpAnyH_ready (rs := [50]) (by as_aux_lemma => kernel_rfl) (by simp) ?_
            refine AllReadyH.cons (o := { dst := some 120, op := Op.call { callee := Callee.value (Operand.func 56), args := #[Operand.tmp 118, Operand.tmp 119], argTypes := #[75, 75] }, type := 4, pos := "laws.go:266", after := #[{ on := 48, ground := Ground.data }, { on := 49, ground := Ground.data }, { on := 47, ground := Ground.chain }, { on := 44, ground := Ground.guard }], guard := some (44, true) }) rfl (fun K hK => ?_) AllReadyH.nil
            go_simp
            refine (K6.out _ hBc).mono ?_
            rintro e wn ⟨rfl, hbn⟩
            replace hBc := hBc.trans (hbn.mono hBc.size)
            clear hbn
            try go_wp2_with fail
            refine hK.out _ _ (HS.out _ hBc) (fun _ => ?_)
            clear hK K
            try simp only [List.setIfInBounds_toArray, List.set_cons_zero, List.set_cons_succ]
            refine wpAnyH_take (i := 51) (oi := { dst := some 121, op := Op.binOp BinOp.eql 4 (Operand.tmp 117) (Operand.tmp 120) 4, type := 4, pos := "laws.go:266", after := #[{ on := 47, ground := Ground.data }, { on := 50, ground := Ground.data }, { on := 44, ground := Ground.guard }], guard := some (44, true) }) (v := ?v51_11) rfl (by as_aux_lemma => kernel_rfl) (by as_aux_lemma => kernel_rfl) (by as_aux_lemma => kernel_rfl) (fun _ _ _ h => h) (Or.inl ⟨by rfl, ?hy51_11⟩) (HS.out _ hBc) ?_
            case hy51_11 =>
              intro w _
              go_simp <;> with_reducible rfl
            try simp only [Act.put, List.setIfInBounds_toArray, List.set_cons_zero, List.set_cons_succ]
            refine wpAnyH_take (i := 52) (oi := { dst := some 122, op := Op.pick (Operand.tmp 114) (Operand.tmp 121) (Operand.const (Value.bool false)), type := 4, pos := "laws.go:266", after := #[{ on := 44, ground := Ground.data }, { on := 51, ground := Ground.data }], guard := none }) (v := ?v52_11) rfl (by as_aux_lemma => kernel_rfl) (by as_aux_lemma => kernel_rfl) (by as_aux_lemma => kernel_rfl) (fun _ _ _ h => h) (Or.inl ⟨by rfl, ?hy52_11⟩) (HS.out _ hBc) ?_
            case hy52_11 =>
              intro w _
              go_simp <;> with_reducible rfl
            try simp only [Act.put, List.setIfInBounds_toArray, List.set_cons_zero, List.set_cons_succ]
            refine wpAnyH_take (i := 53) (oi := { dst := some 123, op := Op.move (Operand.tmp 122), type := 4, pos := "laws.go:266", after := #[{ on := 52, ground := Ground.data }, { on := 50, ground := Ground.chain }], guard := none }) (v := ?v53_11) rfl (by as_aux_lemma => kernel_rfl) (by as_aux_lemma => kernel_rfl) (by as_aux_lemma => kernel_rfl) (fun _ _ _ h => h) (Or.inl ⟨by rfl, ?hy53_11⟩) (HS.out _ hBc) ?_
            case hy53_11 =>
              intro w _
              go_simp <;> with_reducible rfl
            try simp only [Act.put, List.setIfInBounds_toArray, List.set_cons_zero, List.set_cons_succ]
            refine wpAnyH_take (i := 54) (oi := { dst := some 124, op := Op.load 75 (Operand.tmp 19), type := 75, pos := "laws.go:266", after := #[{ on := 53, ground := Ground.guard }], guard := some (53, true) }) (v := ?v54_11) rfl (by as_aux_lemma => kernel_rfl) (by as_aux_lemma => kernel_rfl) (by as_aux_lemma => kernel_rfl) (fun _ _ _ h => h) (Or.inl ⟨by rfl, ?hy54_11⟩) (HS.out _ hBc) ?_
            case hy54_11 =>
              intro w hSw
              replace hSw := hSw.2.2.2.2.2.2.1
              go_simp <;> with_reducible rfl
            try simp only [Act.put, List.setIfInBounds_toArray, List.set_cons_zero, List.set_cons_succ]
            refine wpAnyH_take (i := 55) (oi := { dst := some 125, op := Op.load 75 (Operand.tmp 20), type := 75, pos := "laws.go:266", after := #[{ on := 53, ground := Ground.guard }], guard := some (53, true) }) (v := ?v55_11) rfl (by as_aux_lemma => kernel_rfl) (by as_aux_lemma => kernel_rfl) (by as_aux_lemma => kernel_rfl) (fun _ _ _ h => h) (Or.inl ⟨by rfl, ?hy55_11⟩) (HS.out _ hBc) ?_
            case hy55_11 =>
              intro w hSw
              replace hSw := hSw.2.2.2.2.2.2.2
              go_simp <;> with_reducible rfl
            try simp only [Act.put, List.setIfInBounds_toArray, List.set_cons_zero, List.set_cons_succ]
            refine wpAnyH_take (i := 57) (oi := { dst := some 127, op := Op.load 75 (Operand.tmp 19), type := 75, pos := "laws.go:266", after := #[{ on := 53, ground := Ground.guard }], guard := some (53, true) }) (v := ?v57_11) rfl (by as_aux_lemma => kernel_rfl) (by as_aux_lemma => kernel_rfl) (by as_aux_lemma => kernel_rfl) (fun _ _ _ h => h) (Or.inl ⟨by rfl, ?hy57_11⟩) (HS.out _ hBc) ?_
            case hy57_11 =>
              intro w hSw
              replace hSw := hSw.2.2.2.2.2.2.1
              go_simp <;> with_reducible rfl
            try simp only [Act.put, List.setIfInBounds_toArray, List.set_cons_zero, List.set_cons_succ]
            refine wpAnyH_take (i := 58) (oi := { dst := some 128, op := Op.load 75 (Operand.tmp 20), type := 75, pos := "laws.go:266", after := #[{ on := 53, ground := Ground.guard }], guard := some (53, true) }) (v := ?v58_11) rfl (by as_aux_lemma => kernel_rfl) (by as_aux_lemma => kernel_rfl) (by as_aux_lemma => kernel_rfl) (fun _ _ _ h => h) (Or.inl ⟨by rfl, ?hy58_11⟩) (HS.out _ hBc) ?_
            case hy58_11 =>
              intro w hSw
              replace hSw := hSw.2.2.2.2.2.2.2
              go_simp <;> with_reducible rfl
            try simp only [Act.put, List.setIfInBounds_toArray, List.set_cons_zero, List.set_cons_succ]
            refine wpAnyH_ready (rs := [56]) (by as_aux_lemma => kernel_rfl) (by simp) ?_
            refine AllReadyH.cons (o := { dst := some 126, op := Op.call { callee := Callee.value (Operand.func 58), args := #[Operand.tmp 124, Operand.tmp 125], argTypes := #[75, 75] }, type := 4, pos := "laws.go:266", after := #[{ on := 54, ground := Ground.data }, { on := 55, ground := Ground.data }, { on := 53, ground := Ground.chain }, { on := 53, ground := Ground.guard }], guard := some (53, true) }) rfl (fun K hK => ?_) AllReadyH.nil
            go_simp
            refine (K7.out _ hBc).mono ?_
            rintro e wn ⟨rfl, hbn⟩
            replace hBc := hBc.trans (hbn.mono hBc.size)
            clear hbn
            try go_wp2_with fail
            refine hK.out _ _ (HS.out _ hBc) (fun _ => ?_)
            clear hK K
            try simp only [List.setIfInBounds_toArray, List.set_cons_zero, List.set_cons_succ]
            refine wpAnyH_ready (rs := [59]) (by as_aux_lemma => kernel_rfl) (by simp) ?_
            refine AllReadyH.cons (o := { dst := some 129, op := Op.call { callee := Callee.value (Operand.func 59), args := #[Operand.tmp 127, Operand.tmp 128], argTypes := #[75, 75] }, type := 4, pos := "laws.go:266", after := #[{ on := 57, ground := Ground.data }, { on := 58, ground := Ground.data }, { on := 56, ground := Ground.chain }, { on := 53, ground := Ground.guard }], guard := some (53, true) }) rfl (fun K hK => ?_) AllReadyH.nil
            go_simp
            refine (K8.out _ hBc).mono ?_
            rintro e wn ⟨rfl, hbn⟩
            replace hBc := hBc.trans (hbn.mono hBc.size)
            clear hbn
            try go_wp2_with fail
            refine hK.out _ _ (HS.out _ hBc) (fun _ => ?_)
            clear hK K
            try simp only [List.setIfInBounds_toArray, List.set_cons_zero, List.set_cons_succ]
            as_aux_lemma =>
             refine wpAnyH_take (i := 60) (oi := { dst := some 130, op := Op.binOp BinOp.eql 4 (Operand.tmp 126) (Operand.tmp 129) 4, type := 4, pos := "laws.go:266", after := #[{ on := 56, ground := Ground.data }, { on := 59, ground := Ground.data }, { on := 53, ground := Ground.guard }], guard := some (53, true) }) (v := ?v60_11) rfl (by as_aux_lemma => kernel_rfl) (by as_aux_lemma => kernel_rfl) (by as_aux_lemma => kernel_rfl) (fun _ _ _ h => h) (Or.inl ⟨by rfl, ?hy60_11⟩) (HS.out _ hBc) ?_
             case hy60_11 =>
               intro w _
               go_simp <;> with_reducible rfl
             try simp only [Act.put, List.setIfInBounds_toArray, List.set_cons_zero, List.set_cons_succ]
             refine wpAnyH_take (i := 61) (oi := { dst := some 131, op := Op.pick (Operand.tmp 123) (Operand.tmp 130) (Operand.const (Value.bool false)), type := 4, pos := "laws.go:266", after := #[{ on := 53, ground := Ground.data }, { on := 60, ground := Ground.data }], guard := none }) (v := ?v61_11) rfl (by as_aux_lemma => kernel_rfl) (by as_aux_lemma => kernel_rfl) (by as_aux_lemma => kernel_rfl) (fun _ _ _ h => h) (Or.inl ⟨by rfl, ?hy61_11⟩) (HS.out _ hBc) ?_
             case hy61_11 =>
               intro w _
               go_simp <;> with_reducible rfl
             try simp only [Act.put, List.setIfInBounds_toArray, List.set_cons_zero, List.set_cons_succ]
             refine wpAnyH_take (i := 62) (oi := { dst := some 132, op := Op.move (Operand.tmp 131), type := 4, pos := "laws.go:266", after := #[{ on := 61, ground := Ground.data }, { on := 59, ground := Ground.chain }], guard := none }) (v := ?v62_11) rfl (by as_aux_lemma => kernel_rfl) (by as_aux_lemma => kernel_rfl) (by as_aux_lemma => kernel_rfl) (fun _ _ _ h => h) (Or.inl ⟨by rfl, ?hy62_11⟩) (HS.out _ hBc) ?_
             case hy62_11 =>
               intro w _
               go_simp <;> with_reducible rfl
             try simp only [Act.put, List.setIfInBounds_toArray, List.set_cons_zero, List.set_cons_succ]
             refine wpAnyH_take (i := 63) (oi := { dst := some 133, op := Op.load 75 (Operand.tmp 19), type := 75, pos := "laws.go:266", after := #[{ on := 62, ground := Ground.guard }], guard := some (62, true) }) (v := ?v63_11) rfl (by as_aux_lemma => kernel_rfl) (by as_aux_lemma => kernel_rfl) (by as_aux_lemma => kernel_rfl) (fun _ _ _ h => h) (Or.inl ⟨by rfl, ?hy63_11⟩) (HS.out _ hBc) ?_
             case hy63_11 =>
               intro w hSw
               replace hSw := hSw.2.2.2.2.2.2.1
               go_simp <;> with_reducible rfl
             try simp only [Act.put, List.setIfInBounds_toArray, List.set_cons_zero, List.set_cons_succ]
             refine wpAnyH_take (i := 64) (oi := { dst := some 134, op := Op.load 75 (Operand.tmp 20), type := 75, pos := "laws.go:266", after := #[{ on := 62, ground := Ground.guard }], guard := some (62, true) }) (v := ?v64_11) rfl (by as_aux_lemma => kernel_rfl) (by as_aux_lemma => kernel_rfl) (by as_aux_lemma => kernel_rfl) (fun _ _ _ h => h) (Or.inl ⟨by rfl, ?hy64_11⟩) (HS.out _ hBc) ?_
             case hy64_11 =>
               intro w hSw
               replace hSw := hSw.2.2.2.2.2.2.2
               go_simp <;> with_reducible rfl
             try simp only [Act.put, List.setIfInBounds_toArray, List.set_cons_zero, List.set_cons_succ]
             refine wpAnyH_ready (rs := [65]) (by as_aux_lemma => kernel_rfl) (by simp) ?_
             refine AllReadyH.cons (o := { dst := some 135, op := Op.call { callee := Callee.value (Operand.func 58), args := #[Operand.tmp 133, Operand.tmp 134], argTypes := #[75, 75] }, type := 4, pos := "laws.go:266", after := #[{ on := 63, ground := Ground.data }, { on := 64, ground := Ground.data }, { on := 62, ground := Ground.chain }, { on := 62, ground := Ground.guard }], guard := some (62, true) }) rfl (fun K hK => ?_) AllReadyH.nil
             go_simp
             refine (K7.out _ hBc).mono ?_
             rintro e wn ⟨rfl, hbn⟩
             replace hBc := hBc.trans (hbn.mono hBc.size)
             clear hbn
             try go_wp2_with fail
             refine hK.out _ _ (HS.out _ hBc) (fun _ => ?_)
             clear hK K
             try simp only [List.setIfInBounds_toArray, List.set_cons_zero, List.set_cons_succ]
             refine wpAnyH_take (i := 66) (oi := { dst := some 136, op := Op.move (Operand.tmp 135), type := 4, pos := "laws.go:266", after := #[{ on := 65, ground := Ground.data }, { on := 65, ground := Ground.chain }, { on := 62, ground := Ground.guard }], guard := some (62, true) }) (v := ?v66_11) rfl (by as_aux_lemma => kernel_rfl) (by as_aux_lemma => kernel_rfl) (by as_aux_lemma => kernel_rfl) (fun _ _ _ h => h) (Or.inl ⟨by rfl, ?hy66_11⟩) (HS.out _ hBc) ?_
             case hy66_11 =>
               intro w _
               go_simp <;> with_reducible rfl
             try simp only [Act.put, List.setIfInBounds_toArray, List.set_cons_zero, List.set_cons_succ]
             refine wpAnyH_take (i := 67) (oi := { dst := some 137, op := Op.load 75 (Operand.tmp 20), type := 75, pos := "laws.go:266", after := #[{ on := 66, ground := Ground.guard }], guard := some (66, true) }) (v := ?v67_11) rfl (by as_aux_lemma => kernel_rfl) (by as_aux_lemma => kernel_rfl) (by as_aux_lemma => kernel_rfl) (fun _ _ _ h => h) (Or.inl ⟨by rfl, ?hy67_11⟩) (HS.out _ hBc) ?_
             case hy67_11 =>
               intro w hSw
               replace hSw := hSw.2.2.2.2.2.2.2
               go_simp <;> with_reducible rfl
             try simp only [Act.put, List.setIfInBounds_toArray, List.set_cons_zero, List.set_cons_succ]
             refine wpAnyH_take (i := 68) (oi := { dst := some 138, op := Op.load 75 (Operand.tmp 19), type := 75, pos := "laws.go:266", after := #[{ on := 66, ground := Ground.guard }], guard := some (66, true) }) (v := ?v68_11) rfl (by as_aux_lemma => kernel_rfl) (by as_aux_lemma => kernel_rfl) (by as_aux_lemma => kernel_rfl) (fun _ _ _ h => h) (Or.inl ⟨by rfl, ?hy68_11⟩) (HS.out _ hBc) ?_
             case hy68_11 =>
               intro w hSw
               replace hSw := hSw.2.2.2.2.2.2.1
               go_simp <;> with_reducible rfl
             try simp only [Act.put, List.setIfInBounds_toArray, List.set_cons_zero, List.set_cons_succ]
             refine wpAnyH_ready (rs := [69]) (by as_aux_lemma => kernel_rfl) (by simp) ?_
             refine AllReadyH.cons (o := { dst := some 139, op := Op.call { callee := Callee.value (Operand.func 58), args := #[Operand.tmp 137, Operand.tmp 138], argTypes := #[75, 75] }, type := 4, pos := "laws.go:266", after := #[{ on := 67, ground := Ground.data }, { on := 68, ground := Ground.data }, { on := 66, ground := Ground.chain }, { on := 66, ground := Ground.guard }], guard := some (66, true) }) rfl (fun K hK => ?_) AllReadyH.nil
             go_simp
             refine (K9.out _ hBc).mono ?_
             rintro e wn ⟨rfl, hbn⟩
             replace hBc := hBc.trans (hbn.mono hBc.size)
             clear hbn
             try go_wp2_with fail
             refine hK.out _ _ (HS.out _ hBc) (fun _ => ?_)
             clear hK K
             try simp only [List.setIfInBounds_toArray, List.set_cons_zero, List.set_cons_succ]
             refine wpAnyH_take (i := 70) (oi := { dst := some 140, op := Op.pick (Operand.tmp 136) (Operand.tmp 139) (Operand.const (Value.bool false)), type := 4, pos := "laws.go:266", after := #[{ on := 66, ground := Ground.data }, { on := 69, ground := Ground.data }, { on := 62, ground := Ground.guard }], guard := some (62, true) }) (v := ?v70_11) rfl (by as_aux_lemma => kernel_rfl) (by as_aux_lemma => kernel_rfl) (by as_aux_lemma => kernel_rfl) (fun _ _ _ h => h) (Or.inl ⟨by rfl, ?hy70_11⟩) (HS.out _ hBc) ?_
             case hy70_11 =>
               intro w _
               go_simp <;> with_reducible rfl
             try simp only [Act.put, List.setIfInBounds_toArray, List.set_cons_zero, List.set_cons_succ]
             refine wpAnyH_take (i := 71) (oi := { dst := some 141, op := Op.unOp UnOp.not 4 (Operand.tmp 140), type := 4, pos := "laws.go:266", after := #[{ on := 70, ground := Ground.data }, { on := 62, ground := Ground.guard }], guard := some (62, true) }) (v := ?v71_11) rfl (by as_aux_lemma => kernel_rfl) (by as_aux_lemma => kernel_rfl) (by as_aux_lemma => kernel_rfl) (fun _ _ _ h => h) (Or.inl ⟨by rfl, ?hy71_11⟩) (HS.out _ hBc) ?_
             case hy71_11 =>
               intro w _
               go_simp <;> with_reducible rfl
             try simp only [Act.put, List.setIfInBounds_toArray, List.set_cons_zero, List.set_cons_succ]
             as_aux_lemma =>
              refine wpAnyH_take (i := 72) (oi := { dst := some 142, op := Op.pick (Operand.tmp 132) (Operand.tmp 141) (Operand.const (Value.bool false)), type := 4, pos := "laws.go:266", after := #[{ on := 62, ground := Ground.data }, { on := 71, ground := Ground.data }], guard := none }) (v := ?v72_11) rfl (by as_aux_lemma => kernel_rfl) (by as_aux_lemma => kernel_rfl) (by as_aux_lemma => kernel_rfl) (fun _ _ _ h => h) (Or.inl ⟨by rfl, ?hy72_11⟩) (HS.out _ hBc) ?_
              case hy72_11 =>
                intro w _
                go_simp <;> with_reducible rfl
              try simp only [Act.put, List.setIfInBounds_toArray, List.set_cons_zero, List.set_cons_succ]
              refine wpAnyH_take (i := 73) (oi := { dst := some 143, op := Op.move (Operand.tmp 142), type := 4, pos := "laws.go:266", after := #[{ on := 72, ground := Ground.data }, { on := 69, ground := Ground.chain }], guard := none }) (v := ?v73_11) rfl (by as_aux_lemma => kernel_rfl) (by as_aux_lemma => kernel_rfl) (by as_aux_lemma => kernel_rfl) (fun _ _ _ h => h) (Or.inl ⟨by rfl, ?hy73_11⟩) (HS.out _ hBc) ?_
              case hy73_11 =>
                intro w _
                go_simp <;> with_reducible rfl
              try simp only [Act.put, List.setIfInBounds_toArray, List.set_cons_zero, List.set_cons_succ]
              refine wpAnyH_take (i := 74) (oi := { dst := some 144, op := Op.move (Operand.tmp 21), type := 9, pos := "laws.go:266", after := #[{ on := 73, ground := Ground.guard }], guard := some (73, true) }) (v := ?v74_11) rfl (by as_aux_lemma => kernel_rfl) (by as_aux_lemma => kernel_rfl) (by as_aux_lemma => kernel_rfl) (fun _ _ _ h => h) (Or.inl ⟨by rfl, ?hy74_11⟩) (HS.out _ hBc) ?_
              case hy74_11 =>
                intro w _
                go_simp <;> with_reducible rfl
              try simp only [Act.put, List.setIfInBounds_toArray, List.set_cons_zero, List.set_cons_succ]
              refine wpAnyH_take (i := 76) (oi := { dst := some 146, op := Op.move (Operand.tmp 21), type := 9, pos := "laws.go:266", after := #[{ on := 73, ground := Ground.guard }], guard := some (73, true) }) (v := ?v76_11) rfl (by as_aux_lemma => kernel_rfl) (by as_aux_lemma => kernel_rfl) (by as_aux_lemma => kernel_rfl) (fun _ _ _ h => h) (Or.inl ⟨by rfl, ?hy76_11⟩) (HS.out _ hBc) ?_
              case hy76_11 =>
                intro w _
                go_simp <;> with_reducible rfl
              try simp only [Act.put, List.setIfInBounds_toArray, List.set_cons_zero, List.set_cons_succ]
              refine wpAnyH_ready (rs := [75]) (by as_aux_lemma => kernel_rfl) (by simp) ?_
              refine AllReadyH.cons (o := { dst := some 145, op := Op.call { callee := Callee.value (Operand.func 60), args := #[Operand.tmp 144], argTypes := #[9] }, type := 4, pos := "laws.go:266", after := #[{ on := 74, ground := Ground.data }, { on := 73, ground := Ground.chain }, { on := 73, ground := Ground.guard }], guard := some (73, true) }) rfl (fun K hK => ?_) AllReadyH.nil
              go_simp
              refine (K10.out _ hBc).mono ?_
              rintro e wn ⟨rfl, hbn⟩
              replace hBc := hBc.trans (hbn.mono hBc.size)
              clear hbn
              try go_wp2_with fail
              refine hK.out _ _ (HS.out _ hBc) (fun _ => ?_)
              clear hK K
              try simp only [List.setIfInBounds_toArray, List.set_cons_zero, List.set_cons_succ]
              refine wpAnyH_ready (rs := [77]) (by as_aux_lemma => kernel_rfl) (by simp) ?_
              refine AllReadyH.cons (o := { dst := some 147, op := Op.call { callee := Callee.value (Operand.func 61), args := #[Operand.tmp 146], argTypes := #[9] }, type := 4, pos := "laws.go:266", after := #[{ on := 76, ground := Ground.data }, { on := 75, ground := Ground.chain }, { on := 73, ground := Ground.guard }], guard := some (73, true) }) rfl (fun K hK => ?_) AllReadyH.nil
              go_simp
              refine (K11.out _ hBc).mono ?_
              rintro e wn ⟨rfl, hbn⟩
              replace hBc := hBc.trans (hbn.mono hBc.size)
              clear hbn
              try go_wp2_with fail
              refine hK.out _ _ (HS.out _ hBc) (fun _ => ?_)
              clear hK K
              try simp only [List.setIfInBounds_toArray, List.set_cons_zero, List.set_cons_succ]
              refine wpAnyH_take (i := 78) (oi := { dst := some 148, op := Op.binOp BinOp.eql 4 (Operand.tmp 145) (Operand.tmp 147) 4, type := 4, pos := "laws.go:266", after := #[{ on := 75, ground := Ground.data }, { on := 77, ground := Ground.data }, { on := 73, ground := Ground.guard }], guard := some (73, true) }) (v := ?v78_11) rfl (by as_aux_lemma => kernel_rfl) (by as_aux_lemma => kernel_rfl) (by as_aux_lemma => kernel_rfl) (fun _ _ _ h => h) (Or.inl ⟨by rfl, ?hy78_11⟩) (HS.out _ hBc) ?_
              case hy78_11 =>
                intro w _
                go_simp <;> with_reducible rfl
              try simp only [Act.put, List.setIfInBounds_toArray, List.set_cons_zero, List.set_cons_succ]
              refine wpAnyH_take (i := 79) (oi := { dst := some 149, op := Op.pick (Operand.tmp 143) (Operand.tmp 148) (Operand.const (Value.bool false)), type := 4, pos := "laws.go:266", after := #[{ on := 73, ground := Ground.data }, { on := 78, ground := Ground.data }], guard := none }) (v := ?v79_11) rfl (by as_aux_lemma => kernel_rfl) (by as_aux_lemma => kernel_rfl) (by as_aux_lemma => kernel_rfl) (fun _ _ _ h => h) (Or.inl ⟨by rfl, ?hy79_11⟩) (HS.out _ hBc) ?_
              case hy79_11 =>
                intro w _
                go_simp <;> with_reducible rfl
              try simp only [Act.put, List.setIfInBounds_toArray, List.set_cons_zero, List.set_cons_succ]
              refine wpAnyH_take (i := 80) (oi := { dst := some 2, op := Op.assign (Operand.tmp 149), type := 4, pos := "laws.go:266", after := #[{ on := 79, ground := Ground.data }, { on := 77, ground := Ground.chain }, { on := 0, ground := Ground.phase }, { on := 1, ground := Ground.phase }, { on := 2, ground := Ground.phase }, { on := 3, ground := Ground.phase }, { on := 4, ground := Ground.phase }, { on := 5, ground := Ground.phase }, { on := 6, ground := Ground.phase }, { on := 7, ground := Ground.phase }, { on := 8, ground := Ground.phase }, { on := 9, ground := Ground.phase }, { on := 10, ground := Ground.phase }, { on := 11, ground := Ground.phase }, { on := 12, ground := Ground.phase }, { on := 13, ground := Ground.phase }, { on := 14, ground := Ground.phase }, { on := 15, ground := Ground.phase }, { on := 16, ground := Ground.phase }, { on := 17, ground := Ground.phase }, { on := 18, ground := Ground.phase }, { on := 19, ground := Ground.phase }, { on := 20, ground := Ground.phase }, { on := 21, ground := Ground.phase }, { on := 22, ground := Ground.phase }, { on := 23, ground := Ground.phase }, { on := 24, ground := Ground.phase }, { on := 25, ground := Ground.phase }, { on := 26, ground := Ground.phase }, { on := 27, ground := Ground.phase }, { on := 28, ground := Ground.phase }, { on := 29, ground := Ground.phase }, { on := 30, ground := Ground.phase }, { on := 31, ground := Ground.phase }, { on := 32, ground := Ground.phase }, { on := 33, ground := Ground.phase }, { on := 34, ground := Ground.phase }, { on := 35, ground := Ground.phase }, { on := 36, ground := Ground.phase }, { on := 37, ground := Ground.phase }, { on := 38, ground := Ground.phase }, { on := 39, ground := Ground.phase }, { on := 40, ground := Ground.phase }, { on := 41, ground := Ground.phase }, { on := 42, ground := Ground.phase }, { on := 43, ground := Ground.phase }, { on := 44, ground := Ground.phase }, { on := 45, ground := Ground.phase }, { on := 46, ground := Ground.phase }, { on := 47, ground := Ground.phase }, { on := 48, ground := Ground.phase }, { on := 49, ground := Ground.phase }, { on := 50, ground := Ground.phase }, { on := 51, ground := Ground.phase }, { on := 52, ground := Ground.phase }, { on := 53, ground := Ground.phase }, { on := 54, ground := Ground.phase }, { on := 55, ground := Ground.phase }, { on := 56, ground := Ground.phase }, { on := 57, ground := Ground.phase }, { on := 58, ground := Ground.phase }, { on := 59, ground := Ground.phase }, { on := 60, ground := Ground.phase }, { on := 61, ground := Ground.phase }, { on := 62, ground := Ground.phase }, { on := 63, ground := Ground.phase }, { on := 64, ground := Ground.phase }, { on := 65, ground := Ground.phase }, { on := 66, ground := Ground.phase }, { on := 67, ground := Ground.phase }, { on := 68, ground := Ground.phase }, { on := 69, ground := Ground.phase }, { on := 70, ground := Ground.phase }, { on := 71, ground := Ground.phase }, { on := 72, ground := Ground.phase }, { on := 73, ground := Ground.phase }, { on := 74, ground := Ground.phase }, { on := 75, ground := Ground.phase }, { on := 76, ground := Ground.phase }, { on := 77, ground := Ground.phase }, { on := 78, ground := Ground.phase }, { on := 79, ground := Ground.phase }], guard := none }) (v := ?v80_11) rfl (by as_aux_lemma => kernel_rfl) (by as_aux_lemma => kernel_rfl) (by as_aux_lemma => kernel_rfl) (fun _ _ _ h => h) (Or.inl ⟨by rfl, ?hy80_11⟩) (HS.out _ hBc) ?_
              case hy80_11 =>
                intro w _
                go_simp <;> with_reducible rfl
              try simp only [Act.put, List.setIfInBounds_toArray, List.set_cons_zero, List.set_cons_succ]
              refine wpAnyH_done (by as_aux_lemma => kernel_rfl) ?_ _
              go_wp2
              go_ret
              exact ⟨rfl, HB.out.trans (hBc.mono HB.out.size)⟩
      | false =>
        clear HLN
        refine wp_region_held_drew (S := (fun w' => (w'.cell? ⟨w2.heap.size, 0, none⟩ = some (.int .i64 A.r) ∧ w'.cell? ⟨w2.heap.size, 1, none⟩ = some (.int .i64 A.s) ∧ w'.cell? ⟨w2.heap.size, 2, none⟩ = some (.int .i64 A.t) ∧ w'.cell? ⟨w2.heap.size, 3, none⟩ = some (.slice (some ⟨ga, 0, none⟩) A.l.length ca) ∧ w'.cell? ⟨w2.heap.size, 4, none⟩ = some (.int .i64 A.k) ∧ w'.cell? ⟨w2.heap.size, 5, none⟩ = some (.string A.o) ∧ w'.cell? ⟨w2.heap.size, 6, none⟩ = some (.string A.y) ∧ w'.cell? ⟨w2.heap.size, 7, none⟩ = some (.int .i64 A.v) ∧ w'.cell? ⟨w2.heap.size, 8, none⟩ = some (.int .i64 A.x) ∧ w'.cell? ⟨w2.heap.size, 9, none⟩ = some (.int .i64 A.z)) ∧ (w'.cell? ⟨w4.heap.size, 0, none⟩ = some (.int .i64 X.r) ∧ w'.cell? ⟨w4.heap.size, 1, none⟩ = some (.int .i64 X.s) ∧ w'.cell? ⟨w4.heap.size, 2, none⟩ = some (.int .i64 X.t) ∧ w'.cell? ⟨w4.heap.size, 3, none⟩ = some (.slice xa X.l.length xc) ∧ w'.cell? ⟨w4.heap.size, 4, none⟩ = some (.int .i64 X.k) ∧ w'.cell? ⟨w4.heap.size, 5, none⟩ = some (.string X.o) ∧ w'.cell? ⟨w4.heap.size, 6, none⟩ = some (.string X.y) ∧ w'.cell? ⟨w4.heap.size, 7, none⟩ = some (.int .i64 X.v) ∧ w'.cell? ⟨w4.heap.size, 8, none⟩ = some (.int .i64 X.x) ∧ w'.cell? ⟨w4.heap.size, 9, none⟩ = some (.int .i64 X.z)) ∧ (w'.cell? ⟨w6.heap.size, 0, none⟩ = some (.int .i64 Y.r) ∧ w'.cell? ⟨w6.heap.size, 1, none⟩ = some (.int .i64 Y.s) ∧ w'.cell? ⟨w6.heap.size, 2, none⟩ = some (.int .i64 Y.t) ∧ w'.cell? ⟨w6.heap.size, 3, none⟩ = some (.slice ya Y.l.length yc) ∧ w'.cell? ⟨w6.heap.size, 4, none⟩ = some (.int .i64 Y.k) ∧ w'.cell? ⟨w6.heap.size, 5, none⟩ = some (.string Y.o) ∧ w'.cell? ⟨w6.heap.size, 6, none⟩ = some (.string Y.y) ∧ w'.cell? ⟨w6.heap.size, 7, none⟩ = some (.int .i64 Y.v) ∧ w'.cell? ⟨w6.heap.size, 8, none⟩ = some (.int .i64 Y.x) ∧ w'.cell? ⟨w6.heap.size, 9, none⟩ = some (.int .i64 Y.z)) ∧ (w'.cell? ⟨w7.heap.size, 0, none⟩ = some (.int .i64 Y.r) ∧ w'.cell? ⟨w7.heap.size, 1, none⟩ = some (.int .i64 Y.s) ∧ w'.cell? ⟨w7.heap.size, 2, none⟩ = some (.int .i64 Y.t) ∧ w'.cell? ⟨w7.heap.size, 3, none⟩ = some (.slice za Y.l.length zc) ∧ w'.cell? ⟨w7.heap.size, 4, none⟩ = some (.int .i64 Y.k) ∧ w'.cell? ⟨w7.heap.size, 5, none⟩ = some (.string Y.o) ∧ w'.cell? ⟨w7.heap.size, 6, none⟩ = some (.string Y.y) ∧ w'.cell? ⟨w7.heap.size, 7, none⟩ = some (.int .i64 Y.v) ∧ w'.cell? ⟨w7.heap.size, 8, none⟩ = some (.int .i64 Y.x) ∧ w'.cell? ⟨w7.heap.size, 9, none⟩ = some (.int .i64 Y.z)) ∧ (w'.cell? ⟨w8.heap.size, 0, none⟩ = some (.int .i64 B.r) ∧ w'.cell? ⟨w8.heap.size, 1, none⟩ = some (.int .i64 B.s) ∧ w'.cell? ⟨w8.heap.size, 2, none⟩ = some (.int .i64 B.t) ∧ w'.cell? ⟨w8.heap.size, 3, none⟩ = some (.slice (some ⟨gb, 0, none⟩) B.l.length cb) ∧ w'.cell? ⟨w8.heap.size, 4, none⟩ = some (.int .i64 B.k) ∧ w'.cell? ⟨w8.heap.size, 5, none⟩ = some (.string B.o) ∧ w'.cell? ⟨w8.heap.size, 6, none⟩ = some (.string B.y) ∧ w'.cell? ⟨w8.heap.size, 7, none⟩ = some (.int .i64 B.v) ∧ w'.cell? ⟨w8.heap.size, 8, none⟩ = some (.int .i64 B.x) ∧ w'.cell? ⟨w8.heap.size, 9, none⟩ = some (.int .i64 B.z)) ∧ (w'.cell? ⟨(w8.heap.size + 1), 0, none⟩ = some (.int .i64 C.r) ∧ w'.cell? ⟨(w8.heap.size + 1), 1, none⟩ = some (.int .i64 C.s) ∧ w'.cell? ⟨(w8.heap.size + 1), 2, none⟩ = some (.int .i64 C.t) ∧ w'.cell? ⟨(w8.heap.size + 1), 3, none⟩ = some (.slice (some ⟨gc, 0, none⟩) C.l.length cc) ∧ w'.cell? ⟨(w8.heap.size + 1), 4, none⟩ = some (.int .i64 C.k) ∧ w'.cell? ⟨(w8.heap.size + 1), 5, none⟩ = some (.string C.o) ∧ w'.cell? ⟨(w8.heap.size + 1), 6, none⟩ = some (.string C.y) ∧ w'.cell? ⟨(w8.heap.size + 1), 7, none⟩ = some (.int .i64 C.v) ∧ w'.cell? ⟨(w8.heap.size + 1), 8, none⟩ = some (.int .i64 C.x) ∧ w'.cell? ⟨(w8.heap.size + 1), 9, none⟩ = some (.int .i64 C.z)) ∧ (w'.cell? ⟨w9.heap.size, 0, none⟩ = some (.int .i64 D.r) ∧ w'.cell? ⟨w9.heap.size, 1, none⟩ = some (.int .i64 D.s) ∧ w'.cell? ⟨w9.heap.size, 2, none⟩ = some (.int .i64 D.t) ∧ w'.cell? ⟨w9.heap.size, 3, none⟩ = some (.slice (some ⟨gd, 0, none⟩) D.l.length cd) ∧ w'.cell? ⟨w9.heap.size, 4, none⟩ = some (.int .i64 D.k) ∧ w'.cell? ⟨w9.heap.size, 5, none⟩ = some (.string D.o) ∧ w'.cell? ⟨w9.heap.size, 6, none⟩ = some (.string D.y) ∧ w'.cell? ⟨w9.heap.size, 7, none⟩ = some (.int .i64 D.v) ∧ w'.cell? ⟨w9.heap.size, 8, none⟩ = some (.int .i64 D.x) ∧ w'.cell? ⟨w9.heap.size, 9, none⟩ = some (.int .i64 D.z)) ∧ (w'.cell? ⟨(w9.heap.size + 1), 0, none⟩ = some (.int .i64 E.r) ∧ w'.cell? ⟨(w9.heap.size + 1), 1, none⟩ = some (.int .i64 E.s) ∧ w'.cell? ⟨(w9.heap.size + 1), 2, none⟩ = some (.int .i64 E.t) ∧ w'.cell? ⟨(w9.heap.size + 1), 3, none⟩ = some (.slice (some ⟨ge, 0, none⟩) E.l.length ce) ∧ w'.cell? ⟨(w9.heap.size + 1), 4, none⟩ = some (.int .i64 E.k) ∧ w'.cell? ⟨(w9.heap.size + 1), 5, none⟩ = some (.string E.o) ∧ w'.cell? ⟨(w9.heap.size + 1), 6, none⟩ = some (.string E.y) ∧ w'.cell? ⟨(w9.heap.size + 1), 7, none⟩ = some (.int .i64 E.v) ∧ w'.cell? ⟨(w9.heap.size + 1), 8, none⟩ = some (.int .i64 E.x) ∧ w'.cell? ⟨(w9.heap.size + 1), 9, none⟩ = some (.int .i64 E.z)))) (by kernel_rfl) (HS.out _ hBc) (fun _ => ?_)
        refine wpAnyH_list (l' := #[false, false, false, false, false, false, false, false, false, false, false, false, false, false, false, false, false, false, false, false, false, false, false, false, false, false, false, false, false, false, false, false, false, false, false, false, false, false, false, false, false, false, false, false, false, false, false, false, false, false, false, false, false, false, false, false, false, false, false, false, false, false, false, false, false, false, false, false, false, false, false, false, false, false, false, false, false, false, false, false, false]) (by as_aux_lemma => kernel_rfl) ?_
        refine wpAnyH_take (i := 0) (oi := { dst := some 70, op := Op.move (Operand.tmp 5), type := 4, pos := "laws.go:266", after := #[], guard := none }) (v := ?v0_10) rfl (by as_aux_lemma => kernel_rfl) (by as_aux_lemma => kernel_rfl) (by as_aux_lemma => kernel_rfl) (fun _ _ _ h => h) (Or.inl ⟨by rfl, ?hy0_10⟩) (HS.out _ hBc) ?_
        case hy0_10 =>
          intro w _
          go_simp <;> with_reducible rfl
        try simp only [Act.put, List.setIfInBounds_toArray, List.set_cons_zero, List.set_cons_succ]
        refine wpAnyH_take (i := 1) (oi := { dst := some 71, op := Op.load 75 (Operand.tmp 3), type := 75, pos := "laws.go:266", after := #[], guard := none }) (v := ?v1_10) rfl (by as_aux_lemma => kernel_rfl) (by as_aux_lemma => kernel_rfl) (by as_aux_lemma => kernel_rfl) (fun _ _ _ h => h) (Or.inl ⟨by rfl, ?hy1_10⟩) (HS.out _ hBc) ?_
        case hy1_10 =>
          intro w hSw
          replace hSw := hSw.1
          go_simp <;> with_reducible rfl
        try simp only [Act.put, List.setIfInBounds_toArray, List.set_cons_zero, List.set_cons_succ]
        refine wpAnyH_ready (rs := [2]) (by as_aux_lemma => kernel_rfl) (by simp) ?_
        refine AllReadyH.cons (o := { dst := some 72, op := Op.call { callee := Callee.value (Operand.func 54), args := #[Operand.tmp 71], argTypes := #[75] }, type := 4, pos := "laws.go:266", after := #[{ on := 1, ground := Ground.data }], guard := none }) rfl (fun K hK => ?_) AllReadyH.nil
        go_simp
        refine (K1.out _ hBc).mono ?_
        rintro e wn ⟨rfl, hbn⟩
        replace hBc := hBc.trans (hbn.mono hBc.size)
        clear hbn
        try go_wp2_with fail
        refine hK.out _ _ (HS.out _ hBc) (fun _ => ?_)
        clear hK K
        try simp only [List.setIfInBounds_toArray, List.set_cons_zero, List.set_cons_succ]
        refine wpAnyH_take (i := 3) (oi := { dst := some 73, op := Op.binOp BinOp.eql 4 (Operand.tmp 70) (Operand.tmp 72) 4, type := 4, pos := "laws.go:266", after := #[{ on := 0, ground := Ground.data }, { on := 2, ground := Ground.data }], guard := none }) (v := ?v3_10) rfl (by as_aux_lemma => kernel_rfl) (by as_aux_lemma => kernel_rfl) (by as_aux_lemma => kernel_rfl) (fun _ _ _ h => h) (Or.inl ⟨by rfl, ?hy3_10⟩) (HS.out _ hBc) ?_
        case hy3_10 =>
          intro w _
          go_simp <;> with_reducible rfl
        try simp only [Act.put, List.setIfInBounds_toArray, List.set_cons_zero, List.set_cons_succ]
        refine wpAnyH_take (i := 4) (oi := { dst := some 74, op := Op.move (Operand.tmp 73), type := 4, pos := "laws.go:266", after := #[{ on := 3, ground := Ground.data }, { on := 2, ground := Ground.chain }], guard := none }) (v := ?v4_10) rfl (by as_aux_lemma => kernel_rfl) (by as_aux_lemma => kernel_rfl) (by as_aux_lemma => kernel_rfl) (fun _ _ _ h => h) (Or.inl ⟨by rfl, ?hy4_10⟩) (HS.out _ hBc) ?_
        case hy4_10 =>
          intro w _
          go_simp <;> with_reducible rfl
        try simp only [Act.put, List.setIfInBounds_toArray, List.set_cons_zero, List.set_cons_succ]
        refine wpAnyH_take (i := 5) (oi := { dst := some 75, op := Op.load 75 (Operand.tmp 3), type := 75, pos := "laws.go:266", after := #[{ on := 4, ground := Ground.guard }], guard := some (4, true) }) (v := ?v5_10) rfl (by as_aux_lemma => kernel_rfl) (by as_aux_lemma => kernel_rfl) (by as_aux_lemma => kernel_rfl) (fun _ _ _ h => h) (Or.inl ⟨by rfl, ?hy5_10⟩) (HS.out _ hBc) ?_
        case hy5_10 =>
          intro w hSw
          replace hSw := hSw.1
          go_simp <;> with_reducible rfl
        try simp only [Act.put, List.setIfInBounds_toArray, List.set_cons_zero, List.set_cons_succ]
        refine wpAnyH_take (i := 7) (oi := { dst := some 77, op := Op.move (Operand.tmp 5), type := 4, pos := "laws.go:266", after := #[{ on := 4, ground := Ground.guard }], guard := some (4, true) }) (v := ?v7_10) rfl (by as_aux_lemma => kernel_rfl) (by as_aux_lemma => kernel_rfl) (by as_aux_lemma => kernel_rfl) (fun _ _ _ h => h) (Or.inl ⟨by rfl, ?hy7_10⟩) (HS.out _ hBc) ?_
        case hy7_10 =>
          intro w _
          go_simp <;> with_reducible rfl
        try simp only [Act.put, List.setIfInBounds_toArray, List.set_cons_zero, List.set_cons_succ]
        refine wpAnyH_ready (rs := [6]) (by as_aux_lemma => kernel_rfl) (by simp) ?_
        refine AllReadyH.cons (o := { dst := some 76, op := Op.call { callee := Callee.value (Operand.func 55), args := #[Operand.tmp 75], argTypes := #[75] }, type := 4, pos := "laws.go:266", after := #[{ on := 5, ground := Ground.data }, { on := 4, ground := Ground.chain }, { on := 4, ground := Ground.guard }], guard := some (4, true) }) rfl (fun K hK => ?_) AllReadyH.nil
        go_simp
        refine (K2.out _ hBc).mono ?_
        rintro e wn ⟨rfl, hbn⟩
        replace hBc := hBc.trans (hbn.mono hBc.size)
        clear hbn
        try go_wp2_with fail
        refine hK.out _ _ (HS.out _ hBc) (fun _ => ?_)
        clear hK K
        try simp only [List.setIfInBounds_toArray, List.set_cons_zero, List.set_cons_succ]
        refine wpAnyH_take (i := 8) (oi := { dst := some 78, op := Op.binOp BinOp.eql 4 (Operand.tmp 76) (Operand.tmp 77) 4, type := 4, pos := "laws.go:266", after := #[{ on := 6, ground := Ground.data }, { on := 7, ground := Ground.data }, { on := 4, ground := Ground.guard }], guard := some (4, true) }) (v := ?v8_10) rfl (by as_aux_lemma => kernel_rfl) (by as_aux_lemma => kernel_rfl) (by as_aux_lemma => kernel_rfl) (fun _ _ _ h => h) (Or.inl ⟨by rfl, ?hy8_10⟩) (HS.out _ hBc) ?_
        case hy8_10 =>
          intro w _
          go_simp <;> with_reducible rfl
        try simp only [Act.put, List.setIfInBounds_toArray, List.set_cons_zero, List.set_cons_succ]
        refine wpAnyH_take (i := 9) (oi := { dst := some 79, op := Op.pick (Operand.tmp 74) (Operand.tmp 78) (Operand.const (Value.bool false)), type := 4, pos := "laws.go:266", after := #[{ on := 4, ground := Ground.data }, { on := 8, ground := Ground.data }], guard := none }) (v := ?v9_10) rfl (by as_aux_lemma => kernel_rfl) (by as_aux_lemma => kernel_rfl) (by as_aux_lemma => kernel_rfl) (fun _ _ _ h => h) (Or.inl ⟨by rfl, ?hy9_10⟩) (HS.out _ hBc) ?_
        case hy9_10 =>
          intro w _
          go_simp <;> with_reducible rfl
        try simp only [Act.put, List.setIfInBounds_toArray, List.set_cons_zero, List.set_cons_succ]
        refine wpAnyH_take (i := 10) (oi := { dst := some 80, op := Op.move (Operand.tmp 79), type := 4, pos := "laws.go:266", after := #[{ on := 9, ground := Ground.data }, { on := 6, ground := Ground.chain }], guard := none }) (v := ?v10_10) rfl (by as_aux_lemma => kernel_rfl) (by as_aux_lemma => kernel_rfl) (by as_aux_lemma => kernel_rfl) (fun _ _ _ h => h) (Or.inl ⟨by rfl, ?hy10_10⟩) (HS.out _ hBc) ?_
        case hy10_10 =>
          intro w _
          go_simp <;> with_reducible rfl
        try simp only [Act.put, List.setIfInBounds_toArray, List.set_cons_zero, List.set_cons_succ]
        refine wpAnyH_take (i := 11) (oi := { dst := some 81, op := Op.move (Operand.tmp 5), type := 4, pos := "laws.go:266", after := #[{ on := 10, ground := Ground.guard }], guard := some (10, true) }) (v := ?v11_10) rfl (by as_aux_lemma => kernel_rfl) (by as_aux_lemma => kernel_rfl) (by as_aux_lemma => kernel_rfl) (fun _ _ _ h => h) (Or.inl ⟨by rfl, ?hy11_10⟩) (HS.out _ hBc) ?_
        case hy11_10 =>
          intro w _
          go_simp <;> with_reducible rfl
        try simp only [Act.put, List.setIfInBounds_toArray, List.set_cons_zero, List.set_cons_succ]
        as_aux_lemma =>
         refine wpAnyH_take (i := 12) (oi := { dst := some 82, op := Op.unOp UnOp.not 4 (Operand.tmp 81), type := 4, pos := "laws.go:266", after := #[{ on := 11, ground := Ground.data }, { on := 10, ground := Ground.guard }], guard := some (10, true) }) (v := ?v12_10) rfl (by as_aux_lemma => kernel_rfl) (by as_aux_lemma => kernel_rfl) (by as_aux_lemma => kernel_rfl) (fun _ _ _ h => h) (Or.inl ⟨by rfl, ?hy12_10⟩) (HS.out _ hBc) ?_
         case hy12_10 =>
           intro w _
           go_simp <;> with_reducible rfl
         try simp only [Act.put, List.setIfInBounds_toArray, List.set_cons_zero, List.set_cons_succ]
         refine wpAnyH_take (i := 13) (oi := { dst := some 83, op := Op.move (Operand.tmp 82), type := 4, pos := "laws.go:266", after := #[{ on := 12, ground := Ground.data }, { on := 10, ground := Ground.chain }, { on := 10, ground := Ground.guard }], guard := some (10, true) }) (v := ?v13_10) rfl (by as_aux_lemma => kernel_rfl) (by as_aux_lemma => kernel_rfl) (by as_aux_lemma => kernel_rfl) (fun _ _ _ h => h) (Or.inl ⟨by rfl, ?hy13_10⟩) (HS.out _ hBc) ?_
         case hy13_10 =>
           intro w _
           go_simp <;> with_reducible rfl
         try simp only [Act.put, List.setIfInBounds_toArray, List.set_cons_zero, List.set_cons_succ]
         refine wpAnyH_take (i := 14) (oi := { dst := some 84, op := Op.move (Operand.tmp 8), type := 4, pos := "laws.go:266", after := #[{ on := 13, ground := Ground.guard }], guard := some (13, false) }) (v := ?v14_10) rfl (by as_aux_lemma => kernel_rfl) (by as_aux_lemma => kernel_rfl) (by as_aux_lemma => kernel_rfl) (fun _ _ _ h => h) (Or.inl ⟨by rfl, ?hy14_10⟩) (HS.out _ hBc) ?_
         case hy14_10 =>
           intro w _
           go_simp <;> with_reducible rfl
         try simp only [Act.put, List.setIfInBounds_toArray, List.set_cons_zero, List.set_cons_succ]
         refine wpAnyH_take (i := 15) (oi := { dst := some 85, op := Op.move (Operand.tmp 84), type := 4, pos := "laws.go:266", after := #[{ on := 14, ground := Ground.data }, { on := 13, ground := Ground.chain }, { on := 13, ground := Ground.guard }], guard := some (13, false) }) (v := ?v15_10) rfl (by as_aux_lemma => kernel_rfl) (by as_aux_lemma => kernel_rfl) (by as_aux_lemma => kernel_rfl) (fun _ _ _ h => h) (Or.inl ⟨by rfl, ?hy15_10⟩) (HS.out _ hBc) ?_
         case hy15_10 =>
           intro w _
           go_simp <;> with_reducible rfl
         try simp only [Act.put, List.setIfInBounds_toArray, List.set_cons_zero, List.set_cons_succ]
         refine wpAnyH_take (i := 16) (oi := { dst := some 86, op := Op.load 75 (Operand.tmp 6), type := 75, pos := "laws.go:266", after := #[{ on := 15, ground := Ground.guard }], guard := some (15, true) }) (v := ?v16_10) rfl (by as_aux_lemma => kernel_rfl) (by as_aux_lemma => kernel_rfl) (by as_aux_lemma => kernel_rfl) (fun _ _ _ h => h) (Or.inl ⟨by rfl, ?hy16_10⟩) (HS.out _ hBc) ?_
         case hy16_10 =>
           intro w hSw
           replace hSw := hSw.2.1
           go_simp <;> with_reducible rfl
         try simp only [Act.put, List.setIfInBounds_toArray, List.set_cons_zero, List.set_cons_succ]
         refine wpAnyH_take (i := 17) (oi := { dst := some 87, op := Op.load 75 (Operand.tmp 3), type := 75, pos := "laws.go:266", after := #[{ on := 15, ground := Ground.guard }], guard := some (15, true) }) (v := ?v17_10) rfl (by as_aux_lemma => kernel_rfl) (by as_aux_lemma => kernel_rfl) (by as_aux_lemma => kernel_rfl) (fun _ _ _ h => h) (Or.inl ⟨by rfl, ?hy17_10⟩) (HS.out _ hBc) ?_
         case hy17_10 =>
           intro w hSw
           replace hSw := hSw.1
           go_simp <;> with_reducible rfl
         try simp only [Act.put, List.setIfInBounds_toArray, List.set_cons_zero, List.set_cons_succ]
         refine wpAnyH_ready (rs := [18]) (by as_aux_lemma => kernel_rfl) (by simp) ?_
         refine AllReadyH.cons (o := { dst := some 88, op := Op.call { callee := Callee.value (Operand.func 56), args := #[Operand.tmp 86, Operand.tmp 87], argTypes := #[75, 75] }, type := 4, pos := "laws.go:266", after := #[{ on := 16, ground := Ground.data }, { on := 17, ground := Ground.data }, { on := 15, ground := Ground.chain }, { on := 15, ground := Ground.guard }], guard := some (15, true) }) rfl (fun K hK => ?_) AllReadyH.nil
         go_simp
         refine (K3.out _ hBc).mono ?_
         rintro e wn ⟨rfl, hbn⟩
         replace hBc := hBc.trans (hbn.mono hBc.size)
         clear hbn
         try go_wp2_with fail
         refine hK.out _ _ (HS.out _ hBc) (fun _ => ?_)
         clear hK K
         try simp only [List.setIfInBounds_toArray, List.set_cons_zero, List.set_cons_succ]
         refine wpAnyH_take (i := 19) (oi := { dst := some 89, op := Op.pick (Operand.tmp 85) (Operand.tmp 88) (Operand.const (Value.bool false)), type := 4, pos := "laws.go:266", after := #[{ on := 15, ground := Ground.data }, { on := 18, ground := Ground.data }, { on := 13, ground := Ground.guard }], guard := some (13, false) }) (v := ?v19_10) rfl (by as_aux_lemma => kernel_rfl) (by as_aux_lemma => kernel_rfl) (by as_aux_lemma => kernel_rfl) (fun _ _ _ h => h) (Or.inl ⟨by rfl, ?hy19_10⟩) (HS.out _ hBc) ?_
         case hy19_10 =>
           intro w _
           go_simp <;> with_reducible rfl
         try simp only [Act.put, List.setIfInBounds_toArray, List.set_cons_zero, List.set_cons_succ]
         refine wpAnyH_take (i := 20) (oi := { dst := some 90, op := Op.move (Operand.tmp 89), type := 4, pos := "laws.go:266", after := #[{ on := 19, ground := Ground.data }, { on := 18, ground := Ground.chain }, { on := 13, ground := Ground.guard }], guard := some (13, false) }) (v := ?v20_10) rfl (by as_aux_lemma => kernel_rfl) (by as_aux_lemma => kernel_rfl) (by as_aux_lemma => kernel_rfl) (fun _ _ _ h => h) (Or.inl ⟨by rfl, ?hy20_10⟩) (HS.out _ hBc) ?_
         case hy20_10 =>
           intro w _
           go_simp <;> with_reducible rfl
         try simp only [Act.put, List.setIfInBounds_toArray, List.set_cons_zero, List.set_cons_succ]
         refine wpAnyH_take (i := 21) (oi := { dst := some 91, op := Op.move (Operand.tmp 7), type := 3, pos := "laws.go:266", after := #[{ on := 20, ground := Ground.guard }], guard := some (20, true) }) (v := ?v21_10) rfl (by as_aux_lemma => kernel_rfl) (by as_aux_lemma => kernel_rfl) (by as_aux_lemma => kernel_rfl) (fun _ _ _ h => h) (Or.inl ⟨by rfl, ?hy21_10⟩) (HS.out _ hBc) ?_
         case hy21_10 =>
           intro w _
           go_simp <;> with_reducible rfl
         try simp only [Act.put, List.setIfInBounds_toArray, List.set_cons_zero, List.set_cons_succ]
         refine wpAnyH_take (i := 22) (oi := { dst := some 92, op := Op.move (Operand.tmp 4), type := 9, pos := "laws.go:266", after := #[{ on := 20, ground := Ground.guard }], guard := some (20, true) }) (v := ?v22_10) rfl (by as_aux_lemma => kernel_rfl) (by as_aux_lemma => kernel_rfl) (by as_aux_lemma => kernel_rfl) (fun _ _ _ h => h) (Or.inl ⟨by rfl, ?hy22_10⟩) (HS.out _ hBc) ?_
         case hy22_10 =>
           intro w _
           go_simp <;> with_reducible rfl
         try simp only [Act.put, List.setIfInBounds_toArray, List.set_cons_zero, List.set_cons_succ]
         refine wpAnyH_take (i := 23) (oi := { dst := some 93, op := Op.call { callee := Callee.builtin Builtin.len, args := #[Operand.tmp 92], argTypes := #[9] }, type := 3, pos := "laws.go:266", after := #[{ on := 22, ground := Ground.data }, { on := 20, ground := Ground.guard }], guard := some (20, true) }) (v := ?v23_10) rfl (by as_aux_lemma => kernel_rfl) (by as_aux_lemma => kernel_rfl) (by as_aux_lemma => kernel_rfl) (fun _ _ _ h => h) (Or.inl ⟨by rfl, ?hy23_10⟩) (HS.out _ hBc) ?_
         case hy23_10 =>
           intro w _
           go_simp <;> with_reducible rfl
         try simp only [Act.put, List.setIfInBounds_toArray, List.set_cons_zero, List.set_cons_succ]
         as_aux_lemma =>
          refine wpAnyH_take (i := 24) (oi := { dst := some 94, op := Op.binOp BinOp.add 3 (Operand.const (Value.int IntKind.i64 2)) (Operand.tmp 93) 3, type := 3, pos := "laws.go:266", after := #[{ on := 23, ground := Ground.data }, { on := 20, ground := Ground.guard }], guard := some (20, true) }) (v := ?v24_10) rfl (by as_aux_lemma => kernel_rfl) (by as_aux_lemma => kernel_rfl) (by as_aux_lemma => kernel_rfl) (fun _ _ _ h => h) (Or.inl ⟨by rfl, ?hy24_10⟩) (HS.out _ hBc) ?_
          case hy24_10 =>
            intro w _
            go_simp <;> with_reducible rfl
          try simp only [Act.put, List.setIfInBounds_toArray, List.set_cons_zero, List.set_cons_succ]
          refine wpAnyH_take (i := 25) (oi := { dst := some 95, op := Op.binOp BinOp.eql 3 (Operand.tmp 91) (Operand.tmp 94) 3, type := 4, pos := "laws.go:266", after := #[{ on := 21, ground := Ground.data }, { on := 24, ground := Ground.data }, { on := 20, ground := Ground.guard }], guard := some (20, true) }) (v := ?v25_10) rfl (by as_aux_lemma => kernel_rfl) (by as_aux_lemma => kernel_rfl) (by as_aux_lemma => kernel_rfl) (fun _ _ _ h => h) (Or.inl ⟨by rfl, ?hy25_10⟩) (HS.out _ hBc) ?_
          case hy25_10 =>
            intro w _
            go_simp <;> with_reducible rfl
          try simp only [Act.put, List.setIfInBounds_toArray, List.set_cons_zero, List.set_cons_succ]
          refine wpAnyH_take (i := 26) (oi := { dst := some 96, op := Op.pick (Operand.tmp 90) (Operand.tmp 95) (Operand.const (Value.bool false)), type := 4, pos := "laws.go:266", after := #[{ on := 20, ground := Ground.data }, { on := 25, ground := Ground.data }, { on := 13, ground := Ground.guard }], guard := some (13, false) }) (v := ?v26_10) rfl (by as_aux_lemma => kernel_rfl) (by as_aux_lemma => kernel_rfl) (by as_aux_lemma => kernel_rfl) (fun _ _ _ h => h) (Or.inl ⟨by rfl, ?hy26_10⟩) (HS.out _ hBc) ?_
          case hy26_10 =>
            intro w _
            go_simp <;> with_reducible rfl
          try simp only [Act.put, List.setIfInBounds_toArray, List.set_cons_zero, List.set_cons_succ]
          refine wpAnyH_take (i := 27) (oi := { dst := some 97, op := Op.pick (Operand.tmp 83) (Operand.const (Value.bool true)) (Operand.tmp 96), type := 4, pos := "laws.go:266", after := #[{ on := 13, ground := Ground.data }, { on := 26, ground := Ground.data }, { on := 10, ground := Ground.guard }], guard := some (10, true) }) (v := ?v27_10) rfl (by as_aux_lemma => kernel_rfl) (by as_aux_lemma => kernel_rfl) (by as_aux_lemma => kernel_rfl) (fun _ _ _ h => h) (Or.inl ⟨by rfl, ?hy27_10⟩) (HS.out _ hBc) ?_
          case hy27_10 =>
            intro w _
            go_simp <;> with_reducible rfl
          try simp only [Act.put, List.setIfInBounds_toArray, List.set_cons_zero, List.set_cons_succ]
          refine wpAnyH_take (i := 28) (oi := { dst := some 98, op := Op.pick (Operand.tmp 80) (Operand.tmp 97) (Operand.const (Value.bool false)), type := 4, pos := "laws.go:266", after := #[{ on := 10, ground := Ground.data }, { on := 27, ground := Ground.data }], guard := none }) (v := ?v28_10) rfl (by as_aux_lemma => kernel_rfl) (by as_aux_lemma => kernel_rfl) (by as_aux_lemma => kernel_rfl) (fun _ _ _ h => h) (Or.inl ⟨by rfl, ?hy28_10⟩) (HS.out _ hBc) ?_
          case hy28_10 =>
            intro w _
            go_simp <;> with_reducible rfl
          try simp only [Act.put, List.setIfInBounds_toArray, List.set_cons_zero, List.set_cons_succ]
          refine wpAnyH_take (i := 29) (oi := { dst := some 99, op := Op.move (Operand.tmp 98), type := 4, pos := "laws.go:266", after := #[{ on := 28, ground := Ground.data }, { on := 20, ground := Ground.chain }], guard := none }) (v := ?v29_10) rfl (by as_aux_lemma => kernel_rfl) (by as_aux_lemma => kernel_rfl) (by as_aux_lemma => kernel_rfl) (fun _ _ _ h => h) (Or.inl ⟨by rfl, ?hy29_10⟩) (HS.out _ hBc) ?_
          case hy29_10 =>
            intro w _
            go_simp <;> with_reducible rfl
          try simp only [Act.put, List.setIfInBounds_toArray, List.set_cons_zero, List.set_cons_succ]
          refine wpAnyH_take (i := 30) (oi := { dst := some 100, op := Op.move (Operand.tmp 13), type := 4, pos := "laws.go:266", after := #[{ on := 29, ground := Ground.guard }], guard := some (29, true) }) (v := ?v30_10) rfl (by as_aux_lemma => kernel_rfl) (by as_aux_lemma => kernel_rfl) (by as_aux_lemma => kernel_rfl) (fun _ _ _ h => h) (Or.inl ⟨by rfl, ?hy30_10⟩) (HS.out _ hBc) ?_
          case hy30_10 =>
            intro w _
            go_simp <;> with_reducible rfl
          try simp only [Act.put, List.setIfInBounds_toArray, List.set_cons_zero, List.set_cons_succ]
          refine wpAnyH_take (i := 31) (oi := { dst := some 101, op := Op.move (Operand.tmp 16), type := 4, pos := "laws.go:266", after := #[{ on := 29, ground := Ground.guard }], guard := some (29, true) }) (v := ?v31_10) rfl (by as_aux_lemma => kernel_rfl) (by as_aux_lemma => kernel_rfl) (by as_aux_lemma => kernel_rfl) (fun _ _ _ h => h) (Or.inl ⟨by rfl, ?hy31_10⟩) (HS.out _ hBc) ?_
          case hy31_10 =>
            intro w _
            go_simp <;> with_reducible rfl
          try simp only [Act.put, List.setIfInBounds_toArray, List.set_cons_zero, List.set_cons_succ]
          refine wpAnyH_take (i := 32) (oi := { dst := some 102, op := Op.binOp BinOp.eql 4 (Operand.tmp 100) (Operand.tmp 101) 4, type := 4, pos := "laws.go:266", after := #[{ on := 30, ground := Ground.data }, { on := 31, ground := Ground.data }, { on := 29, ground := Ground.guard }], guard := some (29, true) }) (v := ?v32_10) rfl (by as_aux_lemma => kernel_rfl) (by as_aux_lemma => kernel_rfl) (by as_aux_lemma => kernel_rfl) (fun _ _ _ h => h) (Or.inl ⟨by rfl, ?hy32_10⟩) (HS.out _ hBc) ?_
          case hy32_10 =>
            intro w _
            go_simp <;> with_reducible rfl
          try simp only [Act.put, List.setIfInBounds_toArray, List.set_cons_zero, List.set_cons_succ]
          refine wpAnyH_take (i := 33) (oi := { dst := some 103, op := Op.pick (Operand.tmp 99) (Operand.tmp 102) (Operand.const (Value.bool false)), type := 4, pos := "laws.go:266", after := #[{ on := 29, ground := Ground.data }, { on := 32, ground := Ground.data }], guard := none }) (v := ?v33_10) rfl (by as_aux_lemma => kernel_rfl) (by as_aux_lemma => kernel_rfl) (by as_aux_lemma => kernel_rfl) (fun _ _ _ h => h) (Or.inl ⟨by rfl, ?hy33_10⟩) (HS.out _ hBc) ?_
          case hy33_10 =>
            intro w _
            go_simp <;> with_reducible rfl
          try simp only [Act.put, List.setIfInBounds_toArray, List.set_cons_zero, List.set_cons_succ]
          refine wpAnyH_take (i := 34) (oi := { dst := some 104, op := Op.move (Operand.tmp 103), type := 4, pos := "laws.go:266", after := #[{ on := 33, ground := Ground.data }, { on := 29, ground := Ground.chain }], guard := none }) (v := ?v34_10) rfl (by as_aux_lemma => kernel_rfl) (by as_aux_lemma => kernel_rfl) (by as_aux_lemma => kernel_rfl) (fun _ _ _ h => h) (Or.inl ⟨by rfl, ?hy34_10⟩) (HS.out _ hBc) ?_
          case hy34_10 =>
            intro w _
            go_simp <;> with_reducible rfl
          try simp only [Act.put, List.setIfInBounds_toArray, List.set_cons_zero, List.set_cons_succ]
          refine wpAnyH_take (i := 35) (oi := { dst := some 105, op := Op.move (Operand.tmp 12), type := 3, pos := "laws.go:266", after := #[{ on := 34, ground := Ground.guard }], guard := some (34, true) }) (v := ?v35_10) rfl (by as_aux_lemma => kernel_rfl) (by as_aux_lemma => kernel_rfl) (by as_aux_lemma => kernel_rfl) (fun _ _ _ h => h) (Or.inl ⟨by rfl, ?hy35_10⟩) (HS.out _ hBc) ?_
          case hy35_10 =>
            intro w _
            go_simp <;> with_reducible rfl
          try simp only [Act.put, List.setIfInBounds_toArray, List.set_cons_zero, List.set_cons_succ]
          as_aux_lemma =>
           refine wpAnyH_take (i := 36) (oi := { dst := some 106, op := Op.move (Operand.tmp 15), type := 3, pos := "laws.go:266", after := #[{ on := 34, ground := Ground.guard }], guard := some (34, true) }) (v := ?v36_10) rfl (by as_aux_lemma => kernel_rfl) (by as_aux_lemma => kernel_rfl) (by as_aux_lemma => kernel_rfl) (fun _ _ _ h => h) (Or.inl ⟨by rfl, ?hy36_10⟩) (HS.out _ hBc) ?_
           case hy36_10 =>
             intro w _
             go_simp <;> with_reducible rfl
           try simp only [Act.put, List.setIfInBounds_toArray, List.set_cons_zero, List.set_cons_succ]
           refine wpAnyH_take (i := 37) (oi := { dst := some 107, op := Op.binOp BinOp.eql 3 (Operand.tmp 105) (Operand.tmp 106) 3, type := 4, pos := "laws.go:266", after := #[{ on := 35, ground := Ground.data }, { on := 36, ground := Ground.data }, { on := 34, ground := Ground.guard }], guard := some (34, true) }) (v := ?v37_10) rfl (by as_aux_lemma => kernel_rfl) (by as_aux_lemma => kernel_rfl) (by as_aux_lemma => kernel_rfl) (fun _ _ _ h => h) (Or.inl ⟨by rfl, ?hy37_10⟩) (HS.out _ hBc) ?_
           case hy37_10 =>
             intro w _
             go_simp <;> with_reducible rfl
           try simp only [Act.put, List.setIfInBounds_toArray, List.set_cons_zero, List.set_cons_succ]
           refine wpAnyH_take (i := 38) (oi := { dst := some 108, op := Op.pick (Operand.tmp 104) (Operand.tmp 107) (Operand.const (Value.bool false)), type := 4, pos := "laws.go:266", after := #[{ on := 34, ground := Ground.data }, { on := 37, ground := Ground.data }], guard := none }) (v := ?v38_10) rfl (by as_aux_lemma => kernel_rfl) (by as_aux_lemma => kernel_rfl) (by as_aux_lemma => kernel_rfl) (fun _ _ _ h => h) (Or.inl ⟨by rfl, ?hy38_10⟩) (HS.out _ hBc) ?_
           case hy38_10 =>
             intro w _
             go_simp <;> with_reducible rfl
           try simp only [Act.put, List.setIfInBounds_toArray, List.set_cons_zero, List.set_cons_succ]
           refine wpAnyH_take (i := 39) (oi := { dst := some 109, op := Op.move (Operand.tmp 108), type := 4, pos := "laws.go:266", after := #[{ on := 38, ground := Ground.data }, { on := 34, ground := Ground.chain }], guard := none }) (v := ?v39_10) rfl (by as_aux_lemma => kernel_rfl) (by as_aux_lemma => kernel_rfl) (by as_aux_lemma => kernel_rfl) (fun _ _ _ h => h) (Or.inl ⟨by rfl, ?hy39_10⟩) (HS.out _ hBc) ?_
           case hy39_10 =>
             intro w _
             go_simp <;> with_reducible rfl
           try simp only [Act.put, List.setIfInBounds_toArray, List.set_cons_zero, List.set_cons_succ]
           refine wpAnyH_take (i := 40) (oi := { dst := some 110, op := Op.load 75 (Operand.tmp 11), type := 75, pos := "laws.go:266", after := #[{ on := 39, ground := Ground.guard }], guard := some (39, true) }) (v := ?v40_10) rfl (by as_aux_lemma => kernel_rfl) (by as_aux_lemma => kernel_rfl) (by as_aux_lemma => kernel_rfl) (fun _ _ _ h => h) (Or.inl ⟨by rfl, ?hy40_10⟩) (HS.out _ hBc) ?_
           case hy40_10 =>
             intro w hSw
             replace hSw := hSw.2.2.1
             go_simp <;> with_reducible rfl
           try simp only [Act.put, List.setIfInBounds_toArray, List.set_cons_zero, List.set_cons_succ]
           refine wpAnyH_take (i := 41) (oi := { dst := some 111, op := Op.load 75 (Operand.tmp 14), type := 75, pos := "laws.go:266", after := #[{ on := 39, ground := Ground.guard }], guard := some (39, true) }) (v := ?v41_10) rfl (by as_aux_lemma => kernel_rfl) (by as_aux_lemma => kernel_rfl) (by as_aux_lemma => kernel_rfl) (fun _ _ _ h => h) (Or.inl ⟨by rfl, ?hy41_10⟩) (HS.out _ hBc) ?_
           case hy41_10 =>
             intro w hSw
             replace hSw := hSw.2.2.2.1
             go_simp <;> with_reducible rfl
           try simp only [Act.put, List.setIfInBounds_toArray, List.set_cons_zero, List.set_cons_succ]
           refine wpAnyH_ready (rs := [42]) (by as_aux_lemma => kernel_rfl) (by simp) ?_
           refine AllReadyH.cons (o := { dst := some 112, op := Op.call { callee := Callee.value (Operand.func 56), args := #[Operand.tmp 110, Operand.tmp 111], argTypes := #[75, 75] }, type := 4, pos := "laws.go:266", after := #[{ on := 40, ground := Ground.data }, { on := 41, ground := Ground.data }, { on := 39, ground := Ground.chain }, { on := 39, ground := Ground.guard }], guard := some (39, true) }) rfl (fun K hK => ?_) AllReadyH.nil
           go_simp
           refine (K4.out _ hBc).mono ?_
           rintro e wn ⟨rfl, hbn⟩
           replace hBc := hBc.trans (hbn.mono hBc.size)
           clear hbn
           try go_wp2_with fail
           refine hK.out _ _ (HS.out _ hBc) (fun _ => ?_)
           clear hK K
           try simp only [List.setIfInBounds_toArray, List.set_cons_zero, List.set_cons_succ]
           refine wpAnyH_take (i := 43) (oi := { dst := some 113, op := Op.pick (Operand.tmp 109) (Operand.tmp 112) (Operand.const (Value.bool false)), type := 4, pos := "laws.go:266", after := #[{ on := 39, ground := Ground.data }, { on := 42, ground := Ground.data }], guard := none }) (v := ?v43_10) rfl (by as_aux_lemma => kernel_rfl) (by as_aux_lemma => kernel_rfl) (by as_aux_lemma => kernel_rfl) (fun _ _ _ h => h) (Or.inl ⟨by rfl, ?hy43_10⟩) (HS.out _ hBc) ?_
           case hy43_10 =>
             intro w _
             go_simp <;> with_reducible rfl
           try simp only [Act.put, List.setIfInBounds_toArray, List.set_cons_zero, List.set_cons_succ]
           refine wpAnyH_take (i := 44) (oi := { dst := some 114, op := Op.move (Operand.tmp 113), type := 4, pos := "laws.go:266", after := #[{ on := 43, ground := Ground.data }, { on := 42, ground := Ground.chain }], guard := none }) (v := ?v44_10) rfl (by as_aux_lemma => kernel_rfl) (by as_aux_lemma => kernel_rfl) (by as_aux_lemma => kernel_rfl) (fun _ _ _ h => h) (Or.inl ⟨by rfl, ?hy44_10⟩) (HS.out _ hBc) ?_
           case hy44_10 =>
             intro w _
             go_simp <;> with_reducible rfl
           try simp only [Act.put, List.setIfInBounds_toArray, List.set_cons_zero, List.set_cons_succ]
           refine wpAnyH_take (i := 45) (oi := { dst := some 115, op := Op.load 75 (Operand.tmp 17), type := 75, pos := "laws.go:266", after := #[{ on := 44, ground := Ground.guard }], guard := some (44, true) }) (v := ?v45_10) rfl (by as_aux_lemma => kernel_rfl) (by as_aux_lemma => kernel_rfl) (by as_aux_lemma => kernel_rfl) (fun _ _ _ h => h) (Or.inl ⟨by rfl, ?hy45_10⟩) (HS.out _ hBc) ?_
           case hy45_10 =>
             intro w hSw
             replace hSw := hSw.2.2.2.2.1
             go_simp <;> with_reducible rfl
           try simp only [Act.put, List.setIfInBounds_toArray, List.set_cons_zero, List.set_cons_succ]
           refine wpAnyH_take (i := 46) (oi := { dst := some 116, op := Op.load 75 (Operand.tmp 18), type := 75, pos := "laws.go:266", after := #[{ on := 44, ground := Ground.guard }], guard := some (44, true) }) (v := ?v46_10) rfl (by as_aux_lemma => kernel_rfl) (by as_aux_lemma => kernel_rfl) (by as_aux_lemma => kernel_rfl) (fun _ _ _ h => h) (Or.inl ⟨by rfl, ?hy46_10⟩) (HS.out _ hBc) ?_
           case hy46_10 =>
             intro w hSw
             replace hSw := hSw.2.2.2.2.2.1
             go_simp <;> with_reducible rfl
           try simp only [Act.put, List.setIfInBounds_toArray, List.set_cons_zero, List.set_cons_succ]
           refine wpAnyH_take (i := 48) (oi := { dst := some 118, op := Op.load 75 (Operand.tmp 17), type := 75, pos := "laws.go:266", after := #[{ on := 44, ground := Ground.guard }], guard := some (44, true) }) (v := ?v48_10) rfl (by as_aux_lemma => kernel_rfl) (by as_aux_lemma => kernel_rfl) (by as_aux_lemma => kernel_rfl) (fun _ _ _ h => h) (Or.inl ⟨by rfl, ?hy48_10⟩) (HS.out _ hBc) ?_
           case hy48_10 =>
             intro w hSw
             replace hSw := hSw.2.2.2.2.1
             go_simp <;> with_reducible rfl
           try simp only [Act.put, List.setIfInBounds_toArray, List.set_cons_zero, List.set_cons_succ]
           as_aux_lemma =>
            refine wpAnyH_take (i := 49) (oi := { dst := some 119, op := Op.load 75 (Operand.tmp 18), type := 75, pos := "laws.go:266", after := #[{ on := 44, ground := Ground.guard }], guard := some (44, true) }) (v := ?v49_10) rfl (by as_aux_lemma => kernel_rfl) (by as_aux_lemma => kernel_rfl) (by as_aux_lemma => kernel_rfl) (fun _ _ _ h => h) (Or.inl ⟨by rfl, ?hy49_10⟩) (HS.out _ hBc) ?_
            case hy49_10 =>
              intro w hSw
              replace hSw := hSw.2.2.2.2.2.1
              go_simp <;> with_reducible rfl
            try simp only [Act.put, List.setIfInBounds_toArray, List.set_cons_zero, List.set_cons_succ]
            refine wpAnyH_ready (rs := [47]) (by as_aux_lemma => kernel_rfl) (by simp) ?_
            refine AllReadyH.cons (o := { dst := some 117, op := Op.call { callee := Callee.value (Operand.func 57), args := #[Operand.tmp 115, Operand.tmp 116], argTypes := #[75, 75] }, type := 4, pos := "laws.go:266", after := #[{ on := 45, ground := Ground.data }, { on := 46, ground := Ground.data }, { on := 44, ground := Ground.chain }, { on := 44, ground := Ground.guard }], guard := some (44, true) }) rfl (fun K hK => ?_) AllReadyH.nil
            go_simp
            refine (K5.out _ hBc).mono ?_
            rintro e wn ⟨rfl, hbn⟩
            replace hBc := hBc.trans (hbn.mono hBc.size)
            clear hbn
            try go_wp2_with fail
            refine hK.out _ _ (HS.out _ hBc) (fun _ => ?_)
            clear hK K
            try simp only [List.setIfInBounds_toArray, List.set_cons_zero, List.set_cons_succ]
            refine wpAnyH_ready (rs := [50]) (by as_aux_lemma => kernel_rfl) (by simp) ?_
            refine AllReadyH.cons (o := { dst := some 120, op := Op.call { callee := Callee.value (Operand.func 56), args := #[Operand.tmp 118, Operand.tmp 119], argTypes := #[75, 75] }, type := 4, pos := "laws.go:266", after := #[{ on := 48, ground := Ground.data }, { on := 49, ground := Ground.data }, { on := 47, ground := Ground.chain }, { on := 44, ground := Ground.guard }], guard := some (44, true) }) rfl (fun K hK => ?_) AllReadyH.nil
            go_simp
            refine (K6.out _ hBc).mono ?_
            rintro e wn ⟨rfl, hbn⟩
            replace hBc := hBc.trans (hbn.mono hBc.size)
            clear hbn
            try go_wp2_with fail
            refine hK.out _ _ (HS.out _ hBc) (fun _ => ?_)
            clear hK K
            try simp only [List.setIfInBounds_toArray, List.set_cons_zero, List.set_cons_succ]
            refine wpAnyH_take (i := 51) (oi := { dst := some 121, op := Op.binOp BinOp.eql 4 (Operand.tmp 117) (Operand.tmp 120) 4, type := 4, pos := "laws.go:266", after := #[{ on := 47, ground := Ground.data }, { on := 50, ground := Ground.data }, { on := 44, ground := Ground.guard }], guard := some (44, true) }) (v := ?v51_10) rfl (by as_aux_lemma => kernel_rfl) (by as_aux_lemma => kernel_rfl) (by as_aux_lemma => kernel_rfl) (fun _ _ _ h => h) (Or.inl ⟨by rfl, ?hy51_10⟩) (HS.out _ hBc) ?_
            case hy51_10 =>
              intro w _
              go_simp <;> with_reducible rfl
            try simp only [Act.put, List.setIfInBounds_toArray, List.set_cons_zero, List.set_cons_succ]
            refine wpAnyH_take (i := 52) (oi := { dst := some 122, op := Op.pick (Operand.tmp 114) (Operand.tmp 121) (Operand.const (Value.bool false)), type := 4, pos := "laws.go:266", after := #[{ on := 44, ground := Ground.data }, { on := 51, ground := Ground.data }], guard := none }) (v := ?v52_10) rfl (by as_aux_lemma => kernel_rfl) (by as_aux_lemma => kernel_rfl) (by as_aux_lemma => kernel_rfl) (fun _ _ _ h => h) (Or.inl ⟨by rfl, ?hy52_10⟩) (HS.out _ hBc) ?_
            case hy52_10 =>
              intro w _
              go_simp <;> with_reducible rfl
            try simp only [Act.put, List.setIfInBounds_toArray, List.set_cons_zero, List.set_cons_succ]
            refine wpAnyH_take (i := 53) (oi := { dst := some 123, op := Op.move (Operand.tmp 122), type := 4, pos := "laws.go:266", after := #[{ on := 52, ground := Ground.data }, { on := 50, ground := Ground.chain }], guard := none }) (v := ?v53_10) rfl (by as_aux_lemma => kernel_rfl) (by as_aux_lemma => kernel_rfl) (by as_aux_lemma => kernel_rfl) (fun _ _ _ h => h) (Or.inl ⟨by rfl, ?hy53_10⟩) (HS.out _ hBc) ?_
            case hy53_10 =>
              intro w _
              go_simp <;> with_reducible rfl
            try simp only [Act.put, List.setIfInBounds_toArray, List.set_cons_zero, List.set_cons_succ]
            refine wpAnyH_take (i := 54) (oi := { dst := some 124, op := Op.load 75 (Operand.tmp 19), type := 75, pos := "laws.go:266", after := #[{ on := 53, ground := Ground.guard }], guard := some (53, true) }) (v := ?v54_10) rfl (by as_aux_lemma => kernel_rfl) (by as_aux_lemma => kernel_rfl) (by as_aux_lemma => kernel_rfl) (fun _ _ _ h => h) (Or.inl ⟨by rfl, ?hy54_10⟩) (HS.out _ hBc) ?_
            case hy54_10 =>
              intro w hSw
              replace hSw := hSw.2.2.2.2.2.2.1
              go_simp <;> with_reducible rfl
            try simp only [Act.put, List.setIfInBounds_toArray, List.set_cons_zero, List.set_cons_succ]
            refine wpAnyH_take (i := 55) (oi := { dst := some 125, op := Op.load 75 (Operand.tmp 20), type := 75, pos := "laws.go:266", after := #[{ on := 53, ground := Ground.guard }], guard := some (53, true) }) (v := ?v55_10) rfl (by as_aux_lemma => kernel_rfl) (by as_aux_lemma => kernel_rfl) (by as_aux_lemma => kernel_rfl) (fun _ _ _ h => h) (Or.inl ⟨by rfl, ?hy55_10⟩) (HS.out _ hBc) ?_
            case hy55_10 =>
              intro w hSw
              replace hSw := hSw.2.2.2.2.2.2.2
              go_simp <;> with_reducible rfl
            try simp only [Act.put, List.setIfInBounds_toArray, List.set_cons_zero, List.set_cons_succ]
            refine wpAnyH_take (i := 57) (oi := { dst := some 127, op := Op.load 75 (Operand.tmp 19), type := 75, pos := "laws.go:266", after := #[{ on := 53, ground := Ground.guard }], guard := some (53, true) }) (v := ?v57_10) rfl (by as_aux_lemma => kernel_rfl) (by as_aux_lemma => kernel_rfl) (by as_aux_lemma => kernel_rfl) (fun _ _ _ h => h) (Or.inl ⟨by rfl, ?hy57_10⟩) (HS.out _ hBc) ?_
            case hy57_10 =>
              intro w hSw
              replace hSw := hSw.2.2.2.2.2.2.1
              go_simp <;> with_reducible rfl
            try simp only [Act.put, List.setIfInBounds_toArray, List.set_cons_zero, List.set_cons_succ]
            refine wpAnyH_take (i := 58) (oi := { dst := some 128, op := Op.load 75 (Operand.tmp 20), type := 75, pos := "laws.go:266", after := #[{ on := 53, ground := Ground.guard }], guard := some (53, true) }) (v := ?v58_10) rfl (by as_aux_lemma => kernel_rfl) (by as_aux_lemma => kernel_rfl) (by as_aux_lemma => kernel_rfl) (fun _ _ _ h => h) (Or.inl ⟨by rfl, ?hy58_10⟩) (HS.out _ hBc) ?_
            case hy58_10 =>
              intro w hSw
              replace hSw := hSw.2.2.2.2.2.2.2
              go_simp <;> with_reducible rfl
            try simp only [Act.put, List.setIfInBounds_toArray, List.set_cons_zero, List.set_cons_succ]
            refine wpAnyH_ready (rs := [56]) (by as_aux_lemma => kernel_rfl) (by simp) ?_
            refine AllReadyH.cons (o := { dst := some 126, op := Op.call { callee := Callee.value (Operand.func 58), args := #[Operand.tmp 124, Operand.tmp 125], argTypes := #[75, 75] }, type := 4, pos := "laws.go:266", after := #[{ on := 54, ground := Ground.data }, { on := 55, ground := Ground.data }, { on := 53, ground := Ground.chain }, { on := 53, ground := Ground.guard }], guard := some (53, true) }) rfl (fun K hK => ?_) AllReadyH.nil
            go_simp
            refine (K7.out _ hBc).mono ?_
            rintro e wn ⟨rfl, hbn⟩
            replace hBc := hBc.trans (hbn.mono hBc.size)
            clear hbn
            try go_wp2_with fail
            refine hK.out _ _ (HS.out _ hBc) (fun _ => ?_)
            clear hK K
            try simp only [List.setIfInBounds_toArray, List.set_cons_zero, List.set_cons_succ]
            refine wpAnyH_ready (rs := [59]) (by as_aux_lemma => kernel_rfl) (by simp) ?_
            refine AllReadyH.cons (o := { dst := some 129, op := Op.call { callee := Callee.value (Operand.func 59), args := #[Operand.tmp 127, Operand.tmp 128], argTypes := #[75, 75] }, type := 4, pos := "laws.go:266", after := #[{ on := 57, ground := Ground.data }, { on := 58, ground := Ground.data }, { on := 56, ground := Ground.chain }, { on := 53, ground := Ground.guard }], guard := some (53, true) }) rfl (fun K hK => ?_) AllReadyH.nil
            go_simp
            refine (K8.out _ hBc).mono ?_
            rintro e wn ⟨rfl, hbn⟩
            replace hBc := hBc.trans (hbn.mono hBc.size)
            clear hbn
            try go_wp2_with fail
            refine hK.out _ _ (HS.out _ hBc) (fun _ => ?_)
            clear hK K
            try simp only [List.setIfInBounds_toArray, List.set_cons_zero, List.set_cons_succ]
            as_aux_lemma =>
             refine wpAnyH_take (i := 60) (oi := { dst := some 130, op := Op.binOp BinOp.eql 4 (Operand.tmp 126) (Operand.tmp 129) 4, type := 4, pos := "laws.go:266", after := #[{ on := 56, ground := Ground.data }, { on := 59, ground := Ground.data }, { on := 53, ground := Ground.guard }], guard := some (53, true) }) (v := ?v60_10) rfl (by as_aux_lemma => kernel_rfl) (by as_aux_lemma => kernel_rfl) (by as_aux_lemma => kernel_rfl) (fun _ _ _ h => h) (Or.inl ⟨by rfl, ?hy60_10⟩) (HS.out _ hBc) ?_
             case hy60_10 =>
               intro w _
               go_simp <;> with_reducible rfl
             try simp only [Act.put, List.setIfInBounds_toArray, List.set_cons_zero, List.set_cons_succ]
             refine wpAnyH_take (i := 61) (oi := { dst := some 131, op := Op.pick (Operand.tmp 123) (Operand.tmp 130) (Operand.const (Value.bool false)), type := 4, pos := "laws.go:266", after := #[{ on := 53, ground := Ground.data }, { on := 60, ground := Ground.data }], guard := none }) (v := ?v61_10) rfl (by as_aux_lemma => kernel_rfl) (by as_aux_lemma => kernel_rfl) (by as_aux_lemma => kernel_rfl) (fun _ _ _ h => h) (Or.inl ⟨by rfl, ?hy61_10⟩) (HS.out _ hBc) ?_
             case hy61_10 =>
               intro w _
               go_simp <;> with_reducible rfl
             try simp only [Act.put, List.setIfInBounds_toArray, List.set_cons_zero, List.set_cons_succ]
             refine wpAnyH_take (i := 62) (oi := { dst := some 132, op := Op.move (Operand.tmp 131), type := 4, pos := "laws.go:266", after := #[{ on := 61, ground := Ground.data }, { on := 59, ground := Ground.chain }], guard := none }) (v := ?v62_10) rfl (by as_aux_lemma => kernel_rfl) (by as_aux_lemma => kernel_rfl) (by as_aux_lemma => kernel_rfl) (fun _ _ _ h => h) (Or.inl ⟨by rfl, ?hy62_10⟩) (HS.out _ hBc) ?_
             case hy62_10 =>
               intro w _
               go_simp <;> with_reducible rfl
             try simp only [Act.put, List.setIfInBounds_toArray, List.set_cons_zero, List.set_cons_succ]
             refine wpAnyH_take (i := 63) (oi := { dst := some 133, op := Op.load 75 (Operand.tmp 19), type := 75, pos := "laws.go:266", after := #[{ on := 62, ground := Ground.guard }], guard := some (62, true) }) (v := ?v63_10) rfl (by as_aux_lemma => kernel_rfl) (by as_aux_lemma => kernel_rfl) (by as_aux_lemma => kernel_rfl) (fun _ _ _ h => h) (Or.inl ⟨by rfl, ?hy63_10⟩) (HS.out _ hBc) ?_
             case hy63_10 =>
               intro w hSw
               replace hSw := hSw.2.2.2.2.2.2.1
               go_simp <;> with_reducible rfl
             try simp only [Act.put, List.setIfInBounds_toArray, List.set_cons_zero, List.set_cons_succ]
             refine wpAnyH_take (i := 64) (oi := { dst := some 134, op := Op.load 75 (Operand.tmp 20), type := 75, pos := "laws.go:266", after := #[{ on := 62, ground := Ground.guard }], guard := some (62, true) }) (v := ?v64_10) rfl (by as_aux_lemma => kernel_rfl) (by as_aux_lemma => kernel_rfl) (by as_aux_lemma => kernel_rfl) (fun _ _ _ h => h) (Or.inl ⟨by rfl, ?hy64_10⟩) (HS.out _ hBc) ?_
             case hy64_10 =>
               intro w hSw
               replace hSw := hSw.2.2.2.2.2.2.2
               go_simp <;> with_reducible rfl
             try simp only [Act.put, List.setIfInBounds_toArray, List.set_cons_zero, List.set_cons_succ]
             refine wpAnyH_ready (rs := [65]) (by as_aux_lemma => kernel_rfl) (by simp) ?_
             refine AllReadyH.cons (o := { dst := some 135, op := Op.call { callee := Callee.value (Operand.func 58), args := #[Operand.tmp 133, Operand.tmp 134], argTypes := #[75, 75] }, type := 4, pos := "laws.go:266", after := #[{ on := 63, ground := Ground.data }, { on := 64, ground := Ground.data }, { on := 62, ground := Ground.chain }, { on := 62, ground := Ground.guard }], guard := some (62, true) }) rfl (fun K hK => ?_) AllReadyH.nil
             go_simp
             refine (K7.out _ hBc).mono ?_
             rintro e wn ⟨rfl, hbn⟩
             replace hBc := hBc.trans (hbn.mono hBc.size)
             clear hbn
             try go_wp2_with fail
             refine hK.out _ _ (HS.out _ hBc) (fun _ => ?_)
             clear hK K
             try simp only [List.setIfInBounds_toArray, List.set_cons_zero, List.set_cons_succ]
             refine wpAnyH_take (i := 66) (oi := { dst := some 136, op := Op.move (Operand.tmp 135), type := 4, pos := "laws.go:266", after := #[{ on := 65, ground := Ground.data }, { on := 65, ground := Ground.chain }, { on := 62, ground := Ground.guard }], guard := some (62, true) }) (v := ?v66_10) rfl (by as_aux_lemma => kernel_rfl) (by as_aux_lemma => kernel_rfl) (by as_aux_lemma => kernel_rfl) (fun _ _ _ h => h) (Or.inl ⟨by rfl, ?hy66_10⟩) (HS.out _ hBc) ?_
             case hy66_10 =>
               intro w _
               go_simp <;> with_reducible rfl
             try simp only [Act.put, List.setIfInBounds_toArray, List.set_cons_zero, List.set_cons_succ]
             refine wpAnyH_take (i := 67) (oi := { dst := some 137, op := Op.load 75 (Operand.tmp 20), type := 75, pos := "laws.go:266", after := #[{ on := 66, ground := Ground.guard }], guard := some (66, true) }) (v := undef) rfl (by as_aux_lemma => kernel_rfl) (by as_aux_lemma => kernel_rfl) (by as_aux_lemma => kernel_rfl) (fun _ _ _ h => h) (Or.inr ⟨by rfl, rfl⟩) (HS.out _ hBc) ?_
             try simp only [Act.put, List.setIfInBounds_toArray, List.set_cons_zero, List.set_cons_succ]
             refine wpAnyH_take (i := 68) (oi := { dst := some 138, op := Op.load 75 (Operand.tmp 19), type := 75, pos := "laws.go:266", after := #[{ on := 66, ground := Ground.guard }], guard := some (66, true) }) (v := undef) rfl (by as_aux_lemma => kernel_rfl) (by as_aux_lemma => kernel_rfl) (by as_aux_lemma => kernel_rfl) (fun _ _ _ h => h) (Or.inr ⟨by rfl, rfl⟩) (HS.out _ hBc) ?_
             try simp only [Act.put, List.setIfInBounds_toArray, List.set_cons_zero, List.set_cons_succ]
             refine wpAnyH_ready (rs := [69]) (by as_aux_lemma => kernel_rfl) (by simp) ?_
             refine AllReadyH.cons (o := { dst := some 139, op := Op.call { callee := Callee.value (Operand.func 58), args := #[Operand.tmp 137, Operand.tmp 138], argTypes := #[75, 75] }, type := 4, pos := "laws.go:266", after := #[{ on := 67, ground := Ground.data }, { on := 68, ground := Ground.data }, { on := 66, ground := Ground.chain }, { on := 66, ground := Ground.guard }], guard := some (66, true) }) rfl (fun K hK => ?_) AllReadyH.nil
             refine Eq.mpr (if_neg (fun h => Bool.noConfusion (show false = true from h))) ?_
             refine hK.out _ _ (HS.out _ hBc) (fun _ => ?_)
             clear hK K
             try simp only [Act.put, List.setIfInBounds_toArray, List.set_cons_zero, List.set_cons_succ]
             refine wpAnyH_take (i := 70) (oi := { dst := some 140, op := Op.pick (Operand.tmp 136) (Operand.tmp 139) (Operand.const (Value.bool false)), type := 4, pos := "laws.go:266", after := #[{ on := 66, ground := Ground.data }, { on := 69, ground := Ground.data }, { on := 62, ground := Ground.guard }], guard := some (62, true) }) (v := ?v70_10) rfl (by as_aux_lemma => kernel_rfl) (by as_aux_lemma => kernel_rfl) (by as_aux_lemma => kernel_rfl) (fun _ _ _ h => h) (Or.inl ⟨by rfl, ?hy70_10⟩) (HS.out _ hBc) ?_
             case hy70_10 =>
               intro w _
               go_simp <;> with_reducible rfl
             try simp only [Act.put, List.setIfInBounds_toArray, List.set_cons_zero, List.set_cons_succ]
             refine wpAnyH_take (i := 71) (oi := { dst := some 141, op := Op.unOp UnOp.not 4 (Operand.tmp 140), type := 4, pos := "laws.go:266", after := #[{ on := 70, ground := Ground.data }, { on := 62, ground := Ground.guard }], guard := some (62, true) }) (v := ?v71_10) rfl (by as_aux_lemma => kernel_rfl) (by as_aux_lemma => kernel_rfl) (by as_aux_lemma => kernel_rfl) (fun _ _ _ h => h) (Or.inl ⟨by rfl, ?hy71_10⟩) (HS.out _ hBc) ?_
             case hy71_10 =>
               intro w _
               go_simp <;> with_reducible rfl
             try simp only [Act.put, List.setIfInBounds_toArray, List.set_cons_zero, List.set_cons_succ]
             as_aux_lemma =>
              refine wpAnyH_take (i := 72) (oi := { dst := some 142, op := Op.pick (Operand.tmp 132) (Operand.tmp 141) (Operand.const (Value.bool false)), type := 4, pos := "laws.go:266", after := #[{ on := 62, ground := Ground.data }, { on := 71, ground := Ground.data }], guard := none }) (v := ?v72_10) rfl (by as_aux_lemma => kernel_rfl) (by as_aux_lemma => kernel_rfl) (by as_aux_lemma => kernel_rfl) (fun _ _ _ h => h) (Or.inl ⟨by rfl, ?hy72_10⟩) (HS.out _ hBc) ?_
              case hy72_10 =>
                intro w _
                go_simp <;> with_reducible rfl
              try simp only [Act.put, List.setIfInBounds_toArray, List.set_cons_zero, List.set_cons_succ]
              refine wpAnyH_take (i := 73) (oi := { dst := some 143, op := Op.move (Operand.tmp 142), type := 4, pos := "laws.go:266", after := #[{ on := 72, ground := Ground.data }, { on := 69, ground := Ground.chain }], guard := none }) (v := ?v73_10) rfl (by as_aux_lemma => kernel_rfl) (by as_aux_lemma => kernel_rfl) (by as_aux_lemma => kernel_rfl) (fun _ _ _ h => h) (Or.inl ⟨by rfl, ?hy73_10⟩) (HS.out _ hBc) ?_
              case hy73_10 =>
                intro w _
                go_simp <;> with_reducible rfl
              try simp only [Act.put, List.setIfInBounds_toArray, List.set_cons_zero, List.set_cons_succ]
              refine wpAnyH_take (i := 74) (oi := { dst := some 144, op := Op.move (Operand.tmp 21), type := 9, pos := "laws.go:266", after := #[{ on := 73, ground := Ground.guard }], guard := some (73, true) }) (v := ?v74_10) rfl (by as_aux_lemma => kernel_rfl) (by as_aux_lemma => kernel_rfl) (by as_aux_lemma => kernel_rfl) (fun _ _ _ h => h) (Or.inl ⟨by rfl, ?hy74_10⟩) (HS.out _ hBc) ?_
              case hy74_10 =>
                intro w _
                go_simp <;> with_reducible rfl
              try simp only [Act.put, List.setIfInBounds_toArray, List.set_cons_zero, List.set_cons_succ]
              refine wpAnyH_take (i := 76) (oi := { dst := some 146, op := Op.move (Operand.tmp 21), type := 9, pos := "laws.go:266", after := #[{ on := 73, ground := Ground.guard }], guard := some (73, true) }) (v := ?v76_10) rfl (by as_aux_lemma => kernel_rfl) (by as_aux_lemma => kernel_rfl) (by as_aux_lemma => kernel_rfl) (fun _ _ _ h => h) (Or.inl ⟨by rfl, ?hy76_10⟩) (HS.out _ hBc) ?_
              case hy76_10 =>
                intro w _
                go_simp <;> with_reducible rfl
              try simp only [Act.put, List.setIfInBounds_toArray, List.set_cons_zero, List.set_cons_succ]
              refine wpAnyH_ready (rs := [75]) (by as_aux_lemma => kernel_rfl) (by simp) ?_
              refine AllReadyH.cons (o := { dst := some 145, op := Op.call { callee := Callee.value (Operand.func 60), args := #[Operand.tmp 144], argTypes := #[9] }, type := 4, pos := "laws.go:266", after := #[{ on := 74, ground := Ground.data }, { on := 73, ground := Ground.chain }, { on := 73, ground := Ground.guard }], guard := some (73, true) }) rfl (fun K hK => ?_) AllReadyH.nil
              go_simp
              refine (K10.out _ hBc).mono ?_
              rintro e wn ⟨rfl, hbn⟩
              replace hBc := hBc.trans (hbn.mono hBc.size)
              clear hbn
              try go_wp2_with fail
              refine hK.out _ _ (HS.out _ hBc) (fun _ => ?_)
              clear hK K
              try simp only [List.setIfInBounds_toArray, List.set_cons_zero, List.set_cons_succ]
              refine wpAnyH_ready (rs := [77]) (by as_aux_lemma => kernel_rfl) (by simp) ?_
              refine AllReadyH.cons (o := { dst := some 147, op := Op.call { callee := Callee.value (Operand.func 61), args := #[Operand.tmp 146], argTypes := #[9] }, type := 4, pos := "laws.go:266", after := #[{ on := 76, ground := Ground.data }, { on := 75, ground := Ground.chain }, { on := 73, ground := Ground.guard }], guard := some (73, true) }) rfl (fun K hK => ?_) AllReadyH.nil
              go_simp
              refine (K11.out _ hBc).mono ?_
              rintro e wn ⟨rfl, hbn⟩
              replace hBc := hBc.trans (hbn.mono hBc.size)
              clear hbn
              try go_wp2_with fail
              refine hK.out _ _ (HS.out _ hBc) (fun _ => ?_)
              clear hK K
              try simp only [List.setIfInBounds_toArray, List.set_cons_zero, List.set_cons_succ]
              refine wpAnyH_take (i := 78) (oi := { dst := some 148, op := Op.binOp BinOp.eql 4 (Operand.tmp 145) (Operand.tmp 147) 4, type := 4, pos := "laws.go:266", after := #[{ on := 75, ground := Ground.data }, { on := 77, ground := Ground.data }, { on := 73, ground := Ground.guard }], guard := some (73, true) }) (v := ?v78_10) rfl (by as_aux_lemma => kernel_rfl) (by as_aux_lemma => kernel_rfl) (by as_aux_lemma => kernel_rfl) (fun _ _ _ h => h) (Or.inl ⟨by rfl, ?hy78_10⟩) (HS.out _ hBc) ?_
              case hy78_10 =>
                intro w _
                go_simp <;> with_reducible rfl
              try simp only [Act.put, List.setIfInBounds_toArray, List.set_cons_zero, List.set_cons_succ]
              refine wpAnyH_take (i := 79) (oi := { dst := some 149, op := Op.pick (Operand.tmp 143) (Operand.tmp 148) (Operand.const (Value.bool false)), type := 4, pos := "laws.go:266", after := #[{ on := 73, ground := Ground.data }, { on := 78, ground := Ground.data }], guard := none }) (v := ?v79_10) rfl (by as_aux_lemma => kernel_rfl) (by as_aux_lemma => kernel_rfl) (by as_aux_lemma => kernel_rfl) (fun _ _ _ h => h) (Or.inl ⟨by rfl, ?hy79_10⟩) (HS.out _ hBc) ?_
              case hy79_10 =>
                intro w _
                go_simp <;> with_reducible rfl
              try simp only [Act.put, List.setIfInBounds_toArray, List.set_cons_zero, List.set_cons_succ]
              refine wpAnyH_take (i := 80) (oi := { dst := some 2, op := Op.assign (Operand.tmp 149), type := 4, pos := "laws.go:266", after := #[{ on := 79, ground := Ground.data }, { on := 77, ground := Ground.chain }, { on := 0, ground := Ground.phase }, { on := 1, ground := Ground.phase }, { on := 2, ground := Ground.phase }, { on := 3, ground := Ground.phase }, { on := 4, ground := Ground.phase }, { on := 5, ground := Ground.phase }, { on := 6, ground := Ground.phase }, { on := 7, ground := Ground.phase }, { on := 8, ground := Ground.phase }, { on := 9, ground := Ground.phase }, { on := 10, ground := Ground.phase }, { on := 11, ground := Ground.phase }, { on := 12, ground := Ground.phase }, { on := 13, ground := Ground.phase }, { on := 14, ground := Ground.phase }, { on := 15, ground := Ground.phase }, { on := 16, ground := Ground.phase }, { on := 17, ground := Ground.phase }, { on := 18, ground := Ground.phase }, { on := 19, ground := Ground.phase }, { on := 20, ground := Ground.phase }, { on := 21, ground := Ground.phase }, { on := 22, ground := Ground.phase }, { on := 23, ground := Ground.phase }, { on := 24, ground := Ground.phase }, { on := 25, ground := Ground.phase }, { on := 26, ground := Ground.phase }, { on := 27, ground := Ground.phase }, { on := 28, ground := Ground.phase }, { on := 29, ground := Ground.phase }, { on := 30, ground := Ground.phase }, { on := 31, ground := Ground.phase }, { on := 32, ground := Ground.phase }, { on := 33, ground := Ground.phase }, { on := 34, ground := Ground.phase }, { on := 35, ground := Ground.phase }, { on := 36, ground := Ground.phase }, { on := 37, ground := Ground.phase }, { on := 38, ground := Ground.phase }, { on := 39, ground := Ground.phase }, { on := 40, ground := Ground.phase }, { on := 41, ground := Ground.phase }, { on := 42, ground := Ground.phase }, { on := 43, ground := Ground.phase }, { on := 44, ground := Ground.phase }, { on := 45, ground := Ground.phase }, { on := 46, ground := Ground.phase }, { on := 47, ground := Ground.phase }, { on := 48, ground := Ground.phase }, { on := 49, ground := Ground.phase }, { on := 50, ground := Ground.phase }, { on := 51, ground := Ground.phase }, { on := 52, ground := Ground.phase }, { on := 53, ground := Ground.phase }, { on := 54, ground := Ground.phase }, { on := 55, ground := Ground.phase }, { on := 56, ground := Ground.phase }, { on := 57, ground := Ground.phase }, { on := 58, ground := Ground.phase }, { on := 59, ground := Ground.phase }, { on := 60, ground := Ground.phase }, { on := 61, ground := Ground.phase }, { on := 62, ground := Ground.phase }, { on := 63, ground := Ground.phase }, { on := 64, ground := Ground.phase }, { on := 65, ground := Ground.phase }, { on := 66, ground := Ground.phase }, { on := 67, ground := Ground.phase }, { on := 68, ground := Ground.phase }, { on := 69, ground := Ground.phase }, { on := 70, ground := Ground.phase }, { on := 71, ground := Ground.phase }, { on := 72, ground := Ground.phase }, { on := 73, ground := Ground.phase }, { on := 74, ground := Ground.phase }, { on := 75, ground := Ground.phase }, { on := 76, ground := Ground.phase }, { on := 77, ground := Ground.phase }, { on := 78, ground := Ground.phase }, { on := 79, ground := Ground.phase }], guard := none }) (v := ?v80_10) rfl (by as_aux_lemma => kernel_rfl) (by as_aux_lemma => kernel_rfl) (by as_aux_lemma => kernel_rfl) (fun _ _ _ h => h) (Or.inl ⟨by rfl, ?hy80_10⟩) (HS.out _ hBc) ?_
              case hy80_10 =>
                intro w _
                go_simp <;> with_reducible rfl
              try simp only [Act.put, List.setIfInBounds_toArray, List.set_cons_zero, List.set_cons_succ]
              refine wpAnyH_done (by as_aux_lemma => kernel_rfl) ?_ _
              go_wp2
              go_ret
              exact ⟨rfl, HB.out.trans (hBc.mono HB.out.size)⟩
    | false =>
      clear HBACK
      cases lb with
      | true =>
        obtain rfl := HLN.out rfl
        clear HLN
        refine wp_region_held_drew (S := (fun w' => (w'.cell? ⟨w2.heap.size, 0, none⟩ = some (.int .i64 A.r) ∧ w'.cell? ⟨w2.heap.size, 1, none⟩ = some (.int .i64 A.s) ∧ w'.cell? ⟨w2.heap.size, 2, none⟩ = some (.int .i64 A.t) ∧ w'.cell? ⟨w2.heap.size, 3, none⟩ = some (.slice (some ⟨ga, 0, none⟩) A.l.length ca) ∧ w'.cell? ⟨w2.heap.size, 4, none⟩ = some (.int .i64 A.k) ∧ w'.cell? ⟨w2.heap.size, 5, none⟩ = some (.string A.o) ∧ w'.cell? ⟨w2.heap.size, 6, none⟩ = some (.string A.y) ∧ w'.cell? ⟨w2.heap.size, 7, none⟩ = some (.int .i64 A.v) ∧ w'.cell? ⟨w2.heap.size, 8, none⟩ = some (.int .i64 A.x) ∧ w'.cell? ⟨w2.heap.size, 9, none⟩ = some (.int .i64 A.z)) ∧ (w'.cell? ⟨w4.heap.size, 0, none⟩ = some (.int .i64 X.r) ∧ w'.cell? ⟨w4.heap.size, 1, none⟩ = some (.int .i64 X.s) ∧ w'.cell? ⟨w4.heap.size, 2, none⟩ = some (.int .i64 X.t) ∧ w'.cell? ⟨w4.heap.size, 3, none⟩ = some (.slice xa X.l.length xc) ∧ w'.cell? ⟨w4.heap.size, 4, none⟩ = some (.int .i64 X.k) ∧ w'.cell? ⟨w4.heap.size, 5, none⟩ = some (.string X.o) ∧ w'.cell? ⟨w4.heap.size, 6, none⟩ = some (.string X.y) ∧ w'.cell? ⟨w4.heap.size, 7, none⟩ = some (.int .i64 X.v) ∧ w'.cell? ⟨w4.heap.size, 8, none⟩ = some (.int .i64 X.x) ∧ w'.cell? ⟨w4.heap.size, 9, none⟩ = some (.int .i64 X.z)) ∧ (w'.cell? ⟨w6.heap.size, 0, none⟩ = some (.int .i64 Y.r) ∧ w'.cell? ⟨w6.heap.size, 1, none⟩ = some (.int .i64 Y.s) ∧ w'.cell? ⟨w6.heap.size, 2, none⟩ = some (.int .i64 Y.t) ∧ w'.cell? ⟨w6.heap.size, 3, none⟩ = some (.slice ya Y.l.length yc) ∧ w'.cell? ⟨w6.heap.size, 4, none⟩ = some (.int .i64 Y.k) ∧ w'.cell? ⟨w6.heap.size, 5, none⟩ = some (.string Y.o) ∧ w'.cell? ⟨w6.heap.size, 6, none⟩ = some (.string Y.y) ∧ w'.cell? ⟨w6.heap.size, 7, none⟩ = some (.int .i64 Y.v) ∧ w'.cell? ⟨w6.heap.size, 8, none⟩ = some (.int .i64 Y.x) ∧ w'.cell? ⟨w6.heap.size, 9, none⟩ = some (.int .i64 Y.z)) ∧ (w'.cell? ⟨w7.heap.size, 0, none⟩ = some (.int .i64 Y.r) ∧ w'.cell? ⟨w7.heap.size, 1, none⟩ = some (.int .i64 Y.s) ∧ w'.cell? ⟨w7.heap.size, 2, none⟩ = some (.int .i64 Y.t) ∧ w'.cell? ⟨w7.heap.size, 3, none⟩ = some (.slice za Y.l.length zc) ∧ w'.cell? ⟨w7.heap.size, 4, none⟩ = some (.int .i64 Y.k) ∧ w'.cell? ⟨w7.heap.size, 5, none⟩ = some (.string Y.o) ∧ w'.cell? ⟨w7.heap.size, 6, none⟩ = some (.string Y.y) ∧ w'.cell? ⟨w7.heap.size, 7, none⟩ = some (.int .i64 Y.v) ∧ w'.cell? ⟨w7.heap.size, 8, none⟩ = some (.int .i64 Y.x) ∧ w'.cell? ⟨w7.heap.size, 9, none⟩ = some (.int .i64 Y.z)) ∧ (w'.cell? ⟨w8.heap.size, 0, none⟩ = some (.int .i64 B.r) ∧ w'.cell? ⟨w8.heap.size, 1, none⟩ = some (.int .i64 B.s) ∧ w'.cell? ⟨w8.heap.size, 2, none⟩ = some (.int .i64 B.t) ∧ w'.cell? ⟨w8.heap.size, 3, none⟩ = some (.slice (some ⟨gb, 0, none⟩) B.l.length cb) ∧ w'.cell? ⟨w8.heap.size, 4, none⟩ = some (.int .i64 B.k) ∧ w'.cell? ⟨w8.heap.size, 5, none⟩ = some (.string B.o) ∧ w'.cell? ⟨w8.heap.size, 6, none⟩ = some (.string B.y) ∧ w'.cell? ⟨w8.heap.size, 7, none⟩ = some (.int .i64 B.v) ∧ w'.cell? ⟨w8.heap.size, 8, none⟩ = some (.int .i64 B.x) ∧ w'.cell? ⟨w8.heap.size, 9, none⟩ = some (.int .i64 B.z)) ∧ (w'.cell? ⟨(w8.heap.size + 1), 0, none⟩ = some (.int .i64 C.r) ∧ w'.cell? ⟨(w8.heap.size + 1), 1, none⟩ = some (.int .i64 C.s) ∧ w'.cell? ⟨(w8.heap.size + 1), 2, none⟩ = some (.int .i64 C.t) ∧ w'.cell? ⟨(w8.heap.size + 1), 3, none⟩ = some (.slice (some ⟨gc, 0, none⟩) C.l.length cc) ∧ w'.cell? ⟨(w8.heap.size + 1), 4, none⟩ = some (.int .i64 C.k) ∧ w'.cell? ⟨(w8.heap.size + 1), 5, none⟩ = some (.string C.o) ∧ w'.cell? ⟨(w8.heap.size + 1), 6, none⟩ = some (.string C.y) ∧ w'.cell? ⟨(w8.heap.size + 1), 7, none⟩ = some (.int .i64 C.v) ∧ w'.cell? ⟨(w8.heap.size + 1), 8, none⟩ = some (.int .i64 C.x) ∧ w'.cell? ⟨(w8.heap.size + 1), 9, none⟩ = some (.int .i64 C.z)) ∧ (w'.cell? ⟨w9.heap.size, 0, none⟩ = some (.int .i64 D.r) ∧ w'.cell? ⟨w9.heap.size, 1, none⟩ = some (.int .i64 D.s) ∧ w'.cell? ⟨w9.heap.size, 2, none⟩ = some (.int .i64 D.t) ∧ w'.cell? ⟨w9.heap.size, 3, none⟩ = some (.slice (some ⟨gd, 0, none⟩) D.l.length cd) ∧ w'.cell? ⟨w9.heap.size, 4, none⟩ = some (.int .i64 D.k) ∧ w'.cell? ⟨w9.heap.size, 5, none⟩ = some (.string D.o) ∧ w'.cell? ⟨w9.heap.size, 6, none⟩ = some (.string D.y) ∧ w'.cell? ⟨w9.heap.size, 7, none⟩ = some (.int .i64 D.v) ∧ w'.cell? ⟨w9.heap.size, 8, none⟩ = some (.int .i64 D.x) ∧ w'.cell? ⟨w9.heap.size, 9, none⟩ = some (.int .i64 D.z)) ∧ (w'.cell? ⟨(w9.heap.size + 1), 0, none⟩ = some (.int .i64 E.r) ∧ w'.cell? ⟨(w9.heap.size + 1), 1, none⟩ = some (.int .i64 E.s) ∧ w'.cell? ⟨(w9.heap.size + 1), 2, none⟩ = some (.int .i64 E.t) ∧ w'.cell? ⟨(w9.heap.size + 1), 3, none⟩ = some (.slice (some ⟨ge, 0, none⟩) E.l.length ce) ∧ w'.cell? ⟨(w9.heap.size + 1), 4, none⟩ = some (.int .i64 E.k) ∧ w'.cell? ⟨(w9.heap.size + 1), 5, none⟩ = some (.string E.o) ∧ w'.cell? ⟨(w9.heap.size + 1), 6, none⟩ = some (.string E.y) ∧ w'.cell? ⟨(w9.heap.size + 1), 7, none⟩ = some (.int .i64 E.v) ∧ w'.cell? ⟨(w9.heap.size + 1), 8, none⟩ = some (.int .i64 E.x) ∧ w'.cell? ⟨(w9.heap.size + 1), 9, none⟩ = some (.int .i64 E.z)))) (by kernel_rfl) (HS.out _ hBc) (fun _ => ?_)
        refine wpAnyH_list (l' := #[false, false, false, false, false, false, false, false, false, false, false, false, false, false, false, false, false, false, false, false, false, false, false, false, false, false, false, false, false, false, false, false, false, false, false, false, false, false, false, false, false, false, false, false, false, false, false, false, false, false, false, false, false, false, false, false, false, false, false, false, false, false, false, false, false, false, false, false, false, false, false, false, false, false, false, false, false, false, false, false, false]) (by as_aux_lemma => kernel_rfl) ?_
        refine wpAnyH_take (i := 0) (oi := { dst := some 70, op := Op.move (Operand.tmp 5), type := 4, pos := "laws.go:266", after := #[], guard := none }) (v := ?v0_01) rfl (by as_aux_lemma => kernel_rfl) (by as_aux_lemma => kernel_rfl) (by as_aux_lemma => kernel_rfl) (fun _ _ _ h => h) (Or.inl ⟨by rfl, ?hy0_01⟩) (HS.out _ hBc) ?_
        case hy0_01 =>
          intro w _
          go_simp <;> with_reducible rfl
        try simp only [Act.put, List.setIfInBounds_toArray, List.set_cons_zero, List.set_cons_succ]
        refine wpAnyH_take (i := 1) (oi := { dst := some 71, op := Op.load 75 (Operand.tmp 3), type := 75, pos := "laws.go:266", after := #[], guard := none }) (v := ?v1_01) rfl (by as_aux_lemma => kernel_rfl) (by as_aux_lemma => kernel_rfl) (by as_aux_lemma => kernel_rfl) (fun _ _ _ h => h) (Or.inl ⟨by rfl, ?hy1_01⟩) (HS.out _ hBc) ?_
        case hy1_01 =>
          intro w hSw
          replace hSw := hSw.1
          go_simp <;> with_reducible rfl
        try simp only [Act.put, List.setIfInBounds_toArray, List.set_cons_zero, List.set_cons_succ]
        refine wpAnyH_ready (rs := [2]) (by as_aux_lemma => kernel_rfl) (by simp) ?_
        refine AllReadyH.cons (o := { dst := some 72, op := Op.call { callee := Callee.value (Operand.func 54), args := #[Operand.tmp 71], argTypes := #[75] }, type := 4, pos := "laws.go:266", after := #[{ on := 1, ground := Ground.data }], guard := none }) rfl (fun K hK => ?_) AllReadyH.nil
        go_simp
        refine (K1.out _ hBc).mono ?_
        rintro e wn ⟨rfl, hbn⟩
        replace hBc := hBc.trans (hbn.mono hBc.size)
        clear hbn
        try go_wp2_with fail
        refine hK.out _ _ (HS.out _ hBc) (fun _ => ?_)
        clear hK K
        try simp only [List.setIfInBounds_toArray, List.set_cons_zero, List.set_cons_succ]
        refine wpAnyH_take (i := 3) (oi := { dst := some 73, op := Op.binOp BinOp.eql 4 (Operand.tmp 70) (Operand.tmp 72) 4, type := 4, pos := "laws.go:266", after := #[{ on := 0, ground := Ground.data }, { on := 2, ground := Ground.data }], guard := none }) (v := ?v3_01) rfl (by as_aux_lemma => kernel_rfl) (by as_aux_lemma => kernel_rfl) (by as_aux_lemma => kernel_rfl) (fun _ _ _ h => h) (Or.inl ⟨by rfl, ?hy3_01⟩) (HS.out _ hBc) ?_
        case hy3_01 =>
          intro w _
          go_simp <;> with_reducible rfl
        try simp only [Act.put, List.setIfInBounds_toArray, List.set_cons_zero, List.set_cons_succ]
        refine wpAnyH_take (i := 4) (oi := { dst := some 74, op := Op.move (Operand.tmp 73), type := 4, pos := "laws.go:266", after := #[{ on := 3, ground := Ground.data }, { on := 2, ground := Ground.chain }], guard := none }) (v := ?v4_01) rfl (by as_aux_lemma => kernel_rfl) (by as_aux_lemma => kernel_rfl) (by as_aux_lemma => kernel_rfl) (fun _ _ _ h => h) (Or.inl ⟨by rfl, ?hy4_01⟩) (HS.out _ hBc) ?_
        case hy4_01 =>
          intro w _
          go_simp <;> with_reducible rfl
        try simp only [Act.put, List.setIfInBounds_toArray, List.set_cons_zero, List.set_cons_succ]
        refine wpAnyH_take (i := 5) (oi := { dst := some 75, op := Op.load 75 (Operand.tmp 3), type := 75, pos := "laws.go:266", after := #[{ on := 4, ground := Ground.guard }], guard := some (4, true) }) (v := ?v5_01) rfl (by as_aux_lemma => kernel_rfl) (by as_aux_lemma => kernel_rfl) (by as_aux_lemma => kernel_rfl) (fun _ _ _ h => h) (Or.inl ⟨by rfl, ?hy5_01⟩) (HS.out _ hBc) ?_
        case hy5_01 =>
          intro w hSw
          replace hSw := hSw.1
          go_simp <;> with_reducible rfl
        try simp only [Act.put, List.setIfInBounds_toArray, List.set_cons_zero, List.set_cons_succ]
        refine wpAnyH_take (i := 7) (oi := { dst := some 77, op := Op.move (Operand.tmp 5), type := 4, pos := "laws.go:266", after := #[{ on := 4, ground := Ground.guard }], guard := some (4, true) }) (v := ?v7_01) rfl (by as_aux_lemma => kernel_rfl) (by as_aux_lemma => kernel_rfl) (by as_aux_lemma => kernel_rfl) (fun _ _ _ h => h) (Or.inl ⟨by rfl, ?hy7_01⟩) (HS.out _ hBc) ?_
        case hy7_01 =>
          intro w _
          go_simp <;> with_reducible rfl
        try simp only [Act.put, List.setIfInBounds_toArray, List.set_cons_zero, List.set_cons_succ]
        refine wpAnyH_ready (rs := [6]) (by as_aux_lemma => kernel_rfl) (by simp) ?_
        refine AllReadyH.cons (o := { dst := some 76, op := Op.call { callee := Callee.value (Operand.func 55), args := #[Operand.tmp 75], argTypes := #[75] }, type := 4, pos := "laws.go:266", after := #[{ on := 5, ground := Ground.data }, { on := 4, ground := Ground.chain }, { on := 4, ground := Ground.guard }], guard := some (4, true) }) rfl (fun K hK => ?_) AllReadyH.nil
        go_simp
        refine (K2.out _ hBc).mono ?_
        rintro e wn ⟨rfl, hbn⟩
        replace hBc := hBc.trans (hbn.mono hBc.size)
        clear hbn
        try go_wp2_with fail
        refine hK.out _ _ (HS.out _ hBc) (fun _ => ?_)
        clear hK K
        try simp only [List.setIfInBounds_toArray, List.set_cons_zero, List.set_cons_succ]
        refine wpAnyH_take (i := 8) (oi := { dst := some 78, op := Op.binOp BinOp.eql 4 (Operand.tmp 76) (Operand.tmp 77) 4, type := 4, pos := "laws.go:266", after := #[{ on := 6, ground := Ground.data }, { on := 7, ground := Ground.data }, { on := 4, ground := Ground.guard }], guard := some (4, true) }) (v := ?v8_01) rfl (by as_aux_lemma => kernel_rfl) (by as_aux_lemma => kernel_rfl) (by as_aux_lemma => kernel_rfl) (fun _ _ _ h => h) (Or.inl ⟨by rfl, ?hy8_01⟩) (HS.out _ hBc) ?_
        case hy8_01 =>
          intro w _
          go_simp <;> with_reducible rfl
        try simp only [Act.put, List.setIfInBounds_toArray, List.set_cons_zero, List.set_cons_succ]
        refine wpAnyH_take (i := 9) (oi := { dst := some 79, op := Op.pick (Operand.tmp 74) (Operand.tmp 78) (Operand.const (Value.bool false)), type := 4, pos := "laws.go:266", after := #[{ on := 4, ground := Ground.data }, { on := 8, ground := Ground.data }], guard := none }) (v := ?v9_01) rfl (by as_aux_lemma => kernel_rfl) (by as_aux_lemma => kernel_rfl) (by as_aux_lemma => kernel_rfl) (fun _ _ _ h => h) (Or.inl ⟨by rfl, ?hy9_01⟩) (HS.out _ hBc) ?_
        case hy9_01 =>
          intro w _
          go_simp <;> with_reducible rfl
        try simp only [Act.put, List.setIfInBounds_toArray, List.set_cons_zero, List.set_cons_succ]
        refine wpAnyH_take (i := 10) (oi := { dst := some 80, op := Op.move (Operand.tmp 79), type := 4, pos := "laws.go:266", after := #[{ on := 9, ground := Ground.data }, { on := 6, ground := Ground.chain }], guard := none }) (v := ?v10_01) rfl (by as_aux_lemma => kernel_rfl) (by as_aux_lemma => kernel_rfl) (by as_aux_lemma => kernel_rfl) (fun _ _ _ h => h) (Or.inl ⟨by rfl, ?hy10_01⟩) (HS.out _ hBc) ?_
        case hy10_01 =>
          intro w _
          go_simp <;> with_reducible rfl
        try simp only [Act.put, List.setIfInBounds_toArray, List.set_cons_zero, List.set_cons_succ]
        refine wpAnyH_take (i := 11) (oi := { dst := some 81, op := Op.move (Operand.tmp 5), type := 4, pos := "laws.go:266", after := #[{ on := 10, ground := Ground.guard }], guard := some (10, true) }) (v := ?v11_01) rfl (by as_aux_lemma => kernel_rfl) (by as_aux_lemma => kernel_rfl) (by as_aux_lemma => kernel_rfl) (fun _ _ _ h => h) (Or.inl ⟨by rfl, ?hy11_01⟩) (HS.out _ hBc) ?_
        case hy11_01 =>
          intro w _
          go_simp <;> with_reducible rfl
        try simp only [Act.put, List.setIfInBounds_toArray, List.set_cons_zero, List.set_cons_succ]
        as_aux_lemma =>
         refine wpAnyH_take (i := 12) (oi := { dst := some 82, op := Op.unOp UnOp.not 4 (Operand.tmp 81), type := 4, pos := "laws.go:266", after := #[{ on := 11, ground := Ground.data }, { on := 10, ground := Ground.guard }], guard := some (10, true) }) (v := ?v12_01) rfl (by as_aux_lemma => kernel_rfl) (by as_aux_lemma => kernel_rfl) (by as_aux_lemma => kernel_rfl) (fun _ _ _ h => h) (Or.inl ⟨by rfl, ?hy12_01⟩) (HS.out _ hBc) ?_
         case hy12_01 =>
           intro w _
           go_simp <;> with_reducible rfl
         try simp only [Act.put, List.setIfInBounds_toArray, List.set_cons_zero, List.set_cons_succ]
         refine wpAnyH_take (i := 13) (oi := { dst := some 83, op := Op.move (Operand.tmp 82), type := 4, pos := "laws.go:266", after := #[{ on := 12, ground := Ground.data }, { on := 10, ground := Ground.chain }, { on := 10, ground := Ground.guard }], guard := some (10, true) }) (v := ?v13_01) rfl (by as_aux_lemma => kernel_rfl) (by as_aux_lemma => kernel_rfl) (by as_aux_lemma => kernel_rfl) (fun _ _ _ h => h) (Or.inl ⟨by rfl, ?hy13_01⟩) (HS.out _ hBc) ?_
         case hy13_01 =>
           intro w _
           go_simp <;> with_reducible rfl
         try simp only [Act.put, List.setIfInBounds_toArray, List.set_cons_zero, List.set_cons_succ]
         refine wpAnyH_take (i := 14) (oi := { dst := some 84, op := Op.move (Operand.tmp 8), type := 4, pos := "laws.go:266", after := #[{ on := 13, ground := Ground.guard }], guard := some (13, false) }) (v := undef) rfl (by as_aux_lemma => kernel_rfl) (by as_aux_lemma => kernel_rfl) (by as_aux_lemma => kernel_rfl) (fun _ _ _ h => h) (Or.inr ⟨by rfl, rfl⟩) (HS.out _ hBc) ?_
         try simp only [Act.put, List.setIfInBounds_toArray, List.set_cons_zero, List.set_cons_succ]
         refine wpAnyH_take (i := 15) (oi := { dst := some 85, op := Op.move (Operand.tmp 84), type := 4, pos := "laws.go:266", after := #[{ on := 14, ground := Ground.data }, { on := 13, ground := Ground.chain }, { on := 13, ground := Ground.guard }], guard := some (13, false) }) (v := undef) rfl (by as_aux_lemma => kernel_rfl) (by as_aux_lemma => kernel_rfl) (by as_aux_lemma => kernel_rfl) (fun _ _ _ h => h) (Or.inr ⟨by rfl, rfl⟩) (HS.out _ hBc) ?_
         try simp only [Act.put, List.setIfInBounds_toArray, List.set_cons_zero, List.set_cons_succ]
         refine wpAnyH_take (i := 16) (oi := { dst := some 86, op := Op.load 75 (Operand.tmp 6), type := 75, pos := "laws.go:266", after := #[{ on := 15, ground := Ground.guard }], guard := some (15, true) }) (v := undef) rfl (by as_aux_lemma => kernel_rfl) (by as_aux_lemma => kernel_rfl) (by as_aux_lemma => kernel_rfl) (fun _ _ _ h => h) (Or.inr ⟨by rfl, rfl⟩) (HS.out _ hBc) ?_
         try simp only [Act.put, List.setIfInBounds_toArray, List.set_cons_zero, List.set_cons_succ]
         refine wpAnyH_take (i := 17) (oi := { dst := some 87, op := Op.load 75 (Operand.tmp 3), type := 75, pos := "laws.go:266", after := #[{ on := 15, ground := Ground.guard }], guard := some (15, true) }) (v := undef) rfl (by as_aux_lemma => kernel_rfl) (by as_aux_lemma => kernel_rfl) (by as_aux_lemma => kernel_rfl) (fun _ _ _ h => h) (Or.inr ⟨by rfl, rfl⟩) (HS.out _ hBc) ?_
         try simp only [Act.put, List.setIfInBounds_toArray, List.set_cons_zero, List.set_cons_succ]
         refine wpAnyH_ready (rs := [18]) (by as_aux_lemma => kernel_rfl) (by simp) ?_
         refine AllReadyH.cons (o := { dst := some 88, op := Op.call { callee := Callee.value (Operand.func 56), args := #[Operand.tmp 86, Operand.tmp 87], argTypes := #[75, 75] }, type := 4, pos := "laws.go:266", after := #[{ on := 16, ground := Ground.data }, { on := 17, ground := Ground.data }, { on := 15, ground := Ground.chain }, { on := 15, ground := Ground.guard }], guard := some (15, true) }) rfl (fun K hK => ?_) AllReadyH.nil
         refine Eq.mpr (if_neg (fun h => Bool.noConfusion (show false = true from h))) ?_
         refine hK.out _ _ (HS.out _ hBc) (fun _ => ?_)
         clear hK K
         try simp only [Act.put, List.setIfInBounds_toArray, List.set_cons_zero, List.set_cons_succ]
         refine wpAnyH_take (i := 19) (oi := { dst := some 89, op := Op.pick (Operand.tmp 85) (Operand.tmp 88) (Operand.const (Value.bool false)), type := 4, pos := "laws.go:266", after := #[{ on := 15, ground := Ground.data }, { on := 18, ground := Ground.data }, { on := 13, ground := Ground.guard }], guard := some (13, false) }) (v := undef) rfl (by as_aux_lemma => kernel_rfl) (by as_aux_lemma => kernel_rfl) (by as_aux_lemma => kernel_rfl) (fun _ _ _ h => h) (Or.inr ⟨by rfl, rfl⟩) (HS.out _ hBc) ?_
         try simp only [Act.put, List.setIfInBounds_toArray, List.set_cons_zero, List.set_cons_succ]
         refine wpAnyH_take (i := 20) (oi := { dst := some 90, op := Op.move (Operand.tmp 89), type := 4, pos := "laws.go:266", after := #[{ on := 19, ground := Ground.data }, { on := 18, ground := Ground.chain }, { on := 13, ground := Ground.guard }], guard := some (13, false) }) (v := undef) rfl (by as_aux_lemma => kernel_rfl) (by as_aux_lemma => kernel_rfl) (by as_aux_lemma => kernel_rfl) (fun _ _ _ h => h) (Or.inr ⟨by rfl, rfl⟩) (HS.out _ hBc) ?_
         try simp only [Act.put, List.setIfInBounds_toArray, List.set_cons_zero, List.set_cons_succ]
         refine wpAnyH_take (i := 21) (oi := { dst := some 91, op := Op.move (Operand.tmp 7), type := 3, pos := "laws.go:266", after := #[{ on := 20, ground := Ground.guard }], guard := some (20, true) }) (v := undef) rfl (by as_aux_lemma => kernel_rfl) (by as_aux_lemma => kernel_rfl) (by as_aux_lemma => kernel_rfl) (fun _ _ _ h => h) (Or.inr ⟨by rfl, rfl⟩) (HS.out _ hBc) ?_
         try simp only [Act.put, List.setIfInBounds_toArray, List.set_cons_zero, List.set_cons_succ]
         refine wpAnyH_take (i := 22) (oi := { dst := some 92, op := Op.move (Operand.tmp 4), type := 9, pos := "laws.go:266", after := #[{ on := 20, ground := Ground.guard }], guard := some (20, true) }) (v := undef) rfl (by as_aux_lemma => kernel_rfl) (by as_aux_lemma => kernel_rfl) (by as_aux_lemma => kernel_rfl) (fun _ _ _ h => h) (Or.inr ⟨by rfl, rfl⟩) (HS.out _ hBc) ?_
         try simp only [Act.put, List.setIfInBounds_toArray, List.set_cons_zero, List.set_cons_succ]
         refine wpAnyH_take (i := 23) (oi := { dst := some 93, op := Op.call { callee := Callee.builtin Builtin.len, args := #[Operand.tmp 92], argTypes := #[9] }, type := 3, pos := "laws.go:266", after := #[{ on := 22, ground := Ground.data }, { on := 20, ground := Ground.guard }], guard := some (20, true) }) (v := undef) rfl (by as_aux_lemma => kernel_rfl) (by as_aux_lemma => kernel_rfl) (by as_aux_lemma => kernel_rfl) (fun _ _ _ h => h) (Or.inr ⟨by rfl, rfl⟩) (HS.out _ hBc) ?_
         try simp only [Act.put, List.setIfInBounds_toArray, List.set_cons_zero, List.set_cons_succ]
         as_aux_lemma =>
          refine wpAnyH_take (i := 24) (oi := { dst := some 94, op := Op.binOp BinOp.add 3 (Operand.const (Value.int IntKind.i64 2)) (Operand.tmp 93) 3, type := 3, pos := "laws.go:266", after := #[{ on := 23, ground := Ground.data }, { on := 20, ground := Ground.guard }], guard := some (20, true) }) (v := undef) rfl (by as_aux_lemma => kernel_rfl) (by as_aux_lemma => kernel_rfl) (by as_aux_lemma => kernel_rfl) (fun _ _ _ h => h) (Or.inr ⟨by rfl, rfl⟩) (HS.out _ hBc) ?_
          try simp only [Act.put, List.setIfInBounds_toArray, List.set_cons_zero, List.set_cons_succ]
          refine wpAnyH_take (i := 25) (oi := { dst := some 95, op := Op.binOp BinOp.eql 3 (Operand.tmp 91) (Operand.tmp 94) 3, type := 4, pos := "laws.go:266", after := #[{ on := 21, ground := Ground.data }, { on := 24, ground := Ground.data }, { on := 20, ground := Ground.guard }], guard := some (20, true) }) (v := undef) rfl (by as_aux_lemma => kernel_rfl) (by as_aux_lemma => kernel_rfl) (by as_aux_lemma => kernel_rfl) (fun _ _ _ h => h) (Or.inr ⟨by rfl, rfl⟩) (HS.out _ hBc) ?_
          try simp only [Act.put, List.setIfInBounds_toArray, List.set_cons_zero, List.set_cons_succ]
          refine wpAnyH_take (i := 26) (oi := { dst := some 96, op := Op.pick (Operand.tmp 90) (Operand.tmp 95) (Operand.const (Value.bool false)), type := 4, pos := "laws.go:266", after := #[{ on := 20, ground := Ground.data }, { on := 25, ground := Ground.data }, { on := 13, ground := Ground.guard }], guard := some (13, false) }) (v := undef) rfl (by as_aux_lemma => kernel_rfl) (by as_aux_lemma => kernel_rfl) (by as_aux_lemma => kernel_rfl) (fun _ _ _ h => h) (Or.inr ⟨by rfl, rfl⟩) (HS.out _ hBc) ?_
          try simp only [Act.put, List.setIfInBounds_toArray, List.set_cons_zero, List.set_cons_succ]
          refine wpAnyH_take (i := 27) (oi := { dst := some 97, op := Op.pick (Operand.tmp 83) (Operand.const (Value.bool true)) (Operand.tmp 96), type := 4, pos := "laws.go:266", after := #[{ on := 13, ground := Ground.data }, { on := 26, ground := Ground.data }, { on := 10, ground := Ground.guard }], guard := some (10, true) }) (v := ?v27_01) rfl (by as_aux_lemma => kernel_rfl) (by as_aux_lemma => kernel_rfl) (by as_aux_lemma => kernel_rfl) (fun _ _ _ h => h) (Or.inl ⟨by rfl, ?hy27_01⟩) (HS.out _ hBc) ?_
          case hy27_01 =>
            intro w _
            go_simp <;> with_reducible rfl
          try simp only [Act.put, List.setIfInBounds_toArray, List.set_cons_zero, List.set_cons_succ]
          refine wpAnyH_take (i := 28) (oi := { dst := some 98, op := Op.pick (Operand.tmp 80) (Operand.tmp 97) (Operand.const (Value.bool false)), type := 4, pos := "laws.go:266", after := #[{ on := 10, ground := Ground.data }, { on := 27, ground := Ground.data }], guard := none }) (v := ?v28_01) rfl (by as_aux_lemma => kernel_rfl) (by as_aux_lemma => kernel_rfl) (by as_aux_lemma => kernel_rfl) (fun _ _ _ h => h) (Or.inl ⟨by rfl, ?hy28_01⟩) (HS.out _ hBc) ?_
          case hy28_01 =>
            intro w _
            go_simp <;> with_reducible rfl
          try simp only [Act.put, List.setIfInBounds_toArray, List.set_cons_zero, List.set_cons_succ]
          refine wpAnyH_take (i := 29) (oi := { dst := some 99, op := Op.move (Operand.tmp 98), type := 4, pos := "laws.go:266", after := #[{ on := 28, ground := Ground.data }, { on := 20, ground := Ground.chain }], guard := none }) (v := ?v29_01) rfl (by as_aux_lemma => kernel_rfl) (by as_aux_lemma => kernel_rfl) (by as_aux_lemma => kernel_rfl) (fun _ _ _ h => h) (Or.inl ⟨by rfl, ?hy29_01⟩) (HS.out _ hBc) ?_
          case hy29_01 =>
            intro w _
            go_simp <;> with_reducible rfl
          try simp only [Act.put, List.setIfInBounds_toArray, List.set_cons_zero, List.set_cons_succ]
          refine wpAnyH_take (i := 30) (oi := { dst := some 100, op := Op.move (Operand.tmp 13), type := 4, pos := "laws.go:266", after := #[{ on := 29, ground := Ground.guard }], guard := some (29, true) }) (v := ?v30_01) rfl (by as_aux_lemma => kernel_rfl) (by as_aux_lemma => kernel_rfl) (by as_aux_lemma => kernel_rfl) (fun _ _ _ h => h) (Or.inl ⟨by rfl, ?hy30_01⟩) (HS.out _ hBc) ?_
          case hy30_01 =>
            intro w _
            go_simp <;> with_reducible rfl
          try simp only [Act.put, List.setIfInBounds_toArray, List.set_cons_zero, List.set_cons_succ]
          refine wpAnyH_take (i := 31) (oi := { dst := some 101, op := Op.move (Operand.tmp 16), type := 4, pos := "laws.go:266", after := #[{ on := 29, ground := Ground.guard }], guard := some (29, true) }) (v := ?v31_01) rfl (by as_aux_lemma => kernel_rfl) (by as_aux_lemma => kernel_rfl) (by as_aux_lemma => kernel_rfl) (fun _ _ _ h => h) (Or.inl ⟨by rfl, ?hy31_01⟩) (HS.out _ hBc) ?_
          case hy31_01 =>
            intro w _
            go_simp <;> with_reducible rfl
          try simp only [Act.put, List.setIfInBounds_toArray, List.set_cons_zero, List.set_cons_succ]
          refine wpAnyH_take (i := 32) (oi := { dst := some 102, op := Op.binOp BinOp.eql 4 (Operand.tmp 100) (Operand.tmp 101) 4, type := 4, pos := "laws.go:266", after := #[{ on := 30, ground := Ground.data }, { on := 31, ground := Ground.data }, { on := 29, ground := Ground.guard }], guard := some (29, true) }) (v := ?v32_01) rfl (by as_aux_lemma => kernel_rfl) (by as_aux_lemma => kernel_rfl) (by as_aux_lemma => kernel_rfl) (fun _ _ _ h => h) (Or.inl ⟨by rfl, ?hy32_01⟩) (HS.out _ hBc) ?_
          case hy32_01 =>
            intro w _
            go_simp <;> with_reducible rfl
          try simp only [Act.put, List.setIfInBounds_toArray, List.set_cons_zero, List.set_cons_succ]
          refine wpAnyH_take (i := 33) (oi := { dst := some 103, op := Op.pick (Operand.tmp 99) (Operand.tmp 102) (Operand.const (Value.bool false)), type := 4, pos := "laws.go:266", after := #[{ on := 29, ground := Ground.data }, { on := 32, ground := Ground.data }], guard := none }) (v := ?v33_01) rfl (by as_aux_lemma => kernel_rfl) (by as_aux_lemma => kernel_rfl) (by as_aux_lemma => kernel_rfl) (fun _ _ _ h => h) (Or.inl ⟨by rfl, ?hy33_01⟩) (HS.out _ hBc) ?_
          case hy33_01 =>
            intro w _
            go_simp <;> with_reducible rfl
          try simp only [Act.put, List.setIfInBounds_toArray, List.set_cons_zero, List.set_cons_succ]
          refine wpAnyH_take (i := 34) (oi := { dst := some 104, op := Op.move (Operand.tmp 103), type := 4, pos := "laws.go:266", after := #[{ on := 33, ground := Ground.data }, { on := 29, ground := Ground.chain }], guard := none }) (v := ?v34_01) rfl (by as_aux_lemma => kernel_rfl) (by as_aux_lemma => kernel_rfl) (by as_aux_lemma => kernel_rfl) (fun _ _ _ h => h) (Or.inl ⟨by rfl, ?hy34_01⟩) (HS.out _ hBc) ?_
          case hy34_01 =>
            intro w _
            go_simp <;> with_reducible rfl
          try simp only [Act.put, List.setIfInBounds_toArray, List.set_cons_zero, List.set_cons_succ]
          refine wpAnyH_take (i := 35) (oi := { dst := some 105, op := Op.move (Operand.tmp 12), type := 3, pos := "laws.go:266", after := #[{ on := 34, ground := Ground.guard }], guard := some (34, true) }) (v := ?v35_01) rfl (by as_aux_lemma => kernel_rfl) (by as_aux_lemma => kernel_rfl) (by as_aux_lemma => kernel_rfl) (fun _ _ _ h => h) (Or.inl ⟨by rfl, ?hy35_01⟩) (HS.out _ hBc) ?_
          case hy35_01 =>
            intro w _
            go_simp <;> with_reducible rfl
          try simp only [Act.put, List.setIfInBounds_toArray, List.set_cons_zero, List.set_cons_succ]
          as_aux_lemma =>
           refine wpAnyH_take (i := 36) (oi := { dst := some 106, op := Op.move (Operand.tmp 15), type := 3, pos := "laws.go:266", after := #[{ on := 34, ground := Ground.guard }], guard := some (34, true) }) (v := ?v36_01) rfl (by as_aux_lemma => kernel_rfl) (by as_aux_lemma => kernel_rfl) (by as_aux_lemma => kernel_rfl) (fun _ _ _ h => h) (Or.inl ⟨by rfl, ?hy36_01⟩) (HS.out _ hBc) ?_
           case hy36_01 =>
             intro w _
             go_simp <;> with_reducible rfl
           try simp only [Act.put, List.setIfInBounds_toArray, List.set_cons_zero, List.set_cons_succ]
           refine wpAnyH_take (i := 37) (oi := { dst := some 107, op := Op.binOp BinOp.eql 3 (Operand.tmp 105) (Operand.tmp 106) 3, type := 4, pos := "laws.go:266", after := #[{ on := 35, ground := Ground.data }, { on := 36, ground := Ground.data }, { on := 34, ground := Ground.guard }], guard := some (34, true) }) (v := ?v37_01) rfl (by as_aux_lemma => kernel_rfl) (by as_aux_lemma => kernel_rfl) (by as_aux_lemma => kernel_rfl) (fun _ _ _ h => h) (Or.inl ⟨by rfl, ?hy37_01⟩) (HS.out _ hBc) ?_
           case hy37_01 =>
             intro w _
             go_simp <;> with_reducible rfl
           try simp only [Act.put, List.setIfInBounds_toArray, List.set_cons_zero, List.set_cons_succ]
           refine wpAnyH_take (i := 38) (oi := { dst := some 108, op := Op.pick (Operand.tmp 104) (Operand.tmp 107) (Operand.const (Value.bool false)), type := 4, pos := "laws.go:266", after := #[{ on := 34, ground := Ground.data }, { on := 37, ground := Ground.data }], guard := none }) (v := ?v38_01) rfl (by as_aux_lemma => kernel_rfl) (by as_aux_lemma => kernel_rfl) (by as_aux_lemma => kernel_rfl) (fun _ _ _ h => h) (Or.inl ⟨by rfl, ?hy38_01⟩) (HS.out _ hBc) ?_
           case hy38_01 =>
             intro w _
             go_simp <;> with_reducible rfl
           try simp only [Act.put, List.setIfInBounds_toArray, List.set_cons_zero, List.set_cons_succ]
           refine wpAnyH_take (i := 39) (oi := { dst := some 109, op := Op.move (Operand.tmp 108), type := 4, pos := "laws.go:266", after := #[{ on := 38, ground := Ground.data }, { on := 34, ground := Ground.chain }], guard := none }) (v := ?v39_01) rfl (by as_aux_lemma => kernel_rfl) (by as_aux_lemma => kernel_rfl) (by as_aux_lemma => kernel_rfl) (fun _ _ _ h => h) (Or.inl ⟨by rfl, ?hy39_01⟩) (HS.out _ hBc) ?_
           case hy39_01 =>
             intro w _
             go_simp <;> with_reducible rfl
           try simp only [Act.put, List.setIfInBounds_toArray, List.set_cons_zero, List.set_cons_succ]
           refine wpAnyH_take (i := 40) (oi := { dst := some 110, op := Op.load 75 (Operand.tmp 11), type := 75, pos := "laws.go:266", after := #[{ on := 39, ground := Ground.guard }], guard := some (39, true) }) (v := ?v40_01) rfl (by as_aux_lemma => kernel_rfl) (by as_aux_lemma => kernel_rfl) (by as_aux_lemma => kernel_rfl) (fun _ _ _ h => h) (Or.inl ⟨by rfl, ?hy40_01⟩) (HS.out _ hBc) ?_
           case hy40_01 =>
             intro w hSw
             replace hSw := hSw.2.2.1
             go_simp <;> with_reducible rfl
           try simp only [Act.put, List.setIfInBounds_toArray, List.set_cons_zero, List.set_cons_succ]
           refine wpAnyH_take (i := 41) (oi := { dst := some 111, op := Op.load 75 (Operand.tmp 14), type := 75, pos := "laws.go:266", after := #[{ on := 39, ground := Ground.guard }], guard := some (39, true) }) (v := ?v41_01) rfl (by as_aux_lemma => kernel_rfl) (by as_aux_lemma => kernel_rfl) (by as_aux_lemma => kernel_rfl) (fun _ _ _ h => h) (Or.inl ⟨by rfl, ?hy41_01⟩) (HS.out _ hBc) ?_
           case hy41_01 =>
             intro w hSw
             replace hSw := hSw.2.2.2.1
             go_simp <;> with_reducible rfl
           try simp only [Act.put, List.setIfInBounds_toArray, List.set_cons_zero, List.set_cons_succ]
           refine wpAnyH_ready (rs := [42]) (by as_aux_lemma => kernel_rfl) (by simp) ?_
           refine AllReadyH.cons (o := { dst := some 112, op := Op.call { callee := Callee.value (Operand.func 56), args := #[Operand.tmp 110, Operand.tmp 111], argTypes := #[75, 75] }, type := 4, pos := "laws.go:266", after := #[{ on := 40, ground := Ground.data }, { on := 41, ground := Ground.data }, { on := 39, ground := Ground.chain }, { on := 39, ground := Ground.guard }], guard := some (39, true) }) rfl (fun K hK => ?_) AllReadyH.nil
           go_simp
           refine (K4.out _ hBc).mono ?_
           rintro e wn ⟨rfl, hbn⟩
           replace hBc := hBc.trans (hbn.mono hBc.size)
           clear hbn
           try go_wp2_with fail
           refine hK.out _ _ (HS.out _ hBc) (fun _ => ?_)
           clear hK K
           try simp only [List.setIfInBounds_toArray, List.set_cons_zero, List.set_cons_succ]
           refine wpAnyH_take (i := 43) (oi := { dst := some 113, op := Op.pick (Operand.tmp 109) (Operand.tmp 112) (Operand.const (Value.bool false)), type := 4, pos := "laws.go:266", after := #[{ on := 39, ground := Ground.data }, { on := 42, ground := Ground.data }], guard := none }) (v := ?v43_01) rfl (by as_aux_lemma => kernel_rfl) (by as_aux_lemma => kernel_rfl) (by as_aux_lemma => kernel_rfl) (fun _ _ _ h => h) (Or.inl ⟨by rfl, ?hy43_01⟩) (HS.out _ hBc) ?_
           case hy43_01 =>
             intro w _
             go_simp <;> with_reducible rfl
           try simp only [Act.put, List.setIfInBounds_toArray, List.set_cons_zero, List.set_cons_succ]
           refine wpAnyH_take (i := 44) (oi := { dst := some 114, op := Op.move (Operand.tmp 113), type := 4, pos := "laws.go:266", after := #[{ on := 43, ground := Ground.data }, { on := 42, ground := Ground.chain }], guard := none }) (v := ?v44_01) rfl (by as_aux_lemma => kernel_rfl) (by as_aux_lemma => kernel_rfl) (by as_aux_lemma => kernel_rfl) (fun _ _ _ h => h) (Or.inl ⟨by rfl, ?hy44_01⟩) (HS.out _ hBc) ?_
           case hy44_01 =>
             intro w _
             go_simp <;> with_reducible rfl
           try simp only [Act.put, List.setIfInBounds_toArray, List.set_cons_zero, List.set_cons_succ]
           refine wpAnyH_take (i := 45) (oi := { dst := some 115, op := Op.load 75 (Operand.tmp 17), type := 75, pos := "laws.go:266", after := #[{ on := 44, ground := Ground.guard }], guard := some (44, true) }) (v := ?v45_01) rfl (by as_aux_lemma => kernel_rfl) (by as_aux_lemma => kernel_rfl) (by as_aux_lemma => kernel_rfl) (fun _ _ _ h => h) (Or.inl ⟨by rfl, ?hy45_01⟩) (HS.out _ hBc) ?_
           case hy45_01 =>
             intro w hSw
             replace hSw := hSw.2.2.2.2.1
             go_simp <;> with_reducible rfl
           try simp only [Act.put, List.setIfInBounds_toArray, List.set_cons_zero, List.set_cons_succ]
           refine wpAnyH_take (i := 46) (oi := { dst := some 116, op := Op.load 75 (Operand.tmp 18), type := 75, pos := "laws.go:266", after := #[{ on := 44, ground := Ground.guard }], guard := some (44, true) }) (v := ?v46_01) rfl (by as_aux_lemma => kernel_rfl) (by as_aux_lemma => kernel_rfl) (by as_aux_lemma => kernel_rfl) (fun _ _ _ h => h) (Or.inl ⟨by rfl, ?hy46_01⟩) (HS.out _ hBc) ?_
           case hy46_01 =>
             intro w hSw
             replace hSw := hSw.2.2.2.2.2.1
             go_simp <;> with_reducible rfl
           try simp only [Act.put, List.setIfInBounds_toArray, List.set_cons_zero, List.set_cons_succ]
           refine wpAnyH_take (i := 48) (oi := { dst := some 118, op := Op.load 75 (Operand.tmp 17), type := 75, pos := "laws.go:266", after := #[{ on := 44, ground := Ground.guard }], guard := some (44, true) }) (v := ?v48_01) rfl (by as_aux_lemma => kernel_rfl) (by as_aux_lemma => kernel_rfl) (by as_aux_lemma => kernel_rfl) (fun _ _ _ h => h) (Or.inl ⟨by rfl, ?hy48_01⟩) (HS.out _ hBc) ?_
           case hy48_01 =>
             intro w hSw
             replace hSw := hSw.2.2.2.2.1
             go_simp <;> with_reducible rfl
           try simp only [Act.put, List.setIfInBounds_toArray, List.set_cons_zero, List.set_cons_succ]
           as_aux_lemma =>
            refine wpAnyH_take (i := 49) (oi := { dst := some 119, op := Op.load 75 (Operand.tmp 18), type := 75, pos := "laws.go:266", after := #[{ on := 44, ground := Ground.guard }], guard := some (44, true) }) (v := ?v49_01) rfl (by as_aux_lemma => kernel_rfl) (by as_aux_lemma => kernel_rfl) (by as_aux_lemma => kernel_rfl) (fun _ _ _ h => h) (Or.inl ⟨by rfl, ?hy49_01⟩) (HS.out _ hBc) ?_
            case hy49_01 =>
              intro w hSw
              replace hSw := hSw.2.2.2.2.2.1
              go_simp <;> with_reducible rfl
            try simp only [Act.put, List.setIfInBounds_toArray, List.set_cons_zero, List.set_cons_succ]
            refine wpAnyH_ready (rs := [47]) (by as_aux_lemma => kernel_rfl) (by simp) ?_
            refine AllReadyH.cons (o := { dst := some 117, op := Op.call { callee := Callee.value (Operand.func 57), args := #[Operand.tmp 115, Operand.tmp 116], argTypes := #[75, 75] }, type := 4, pos := "laws.go:266", after := #[{ on := 45, ground := Ground.data }, { on := 46, ground := Ground.data }, { on := 44, ground := Ground.chain }, { on := 44, ground := Ground.guard }], guard := some (44, true) }) rfl (fun K hK => ?_) AllReadyH.nil
            go_simp
            refine (K5.out _ hBc).mono ?_
            rintro e wn ⟨rfl, hbn⟩
            replace hBc := hBc.trans (hbn.mono hBc.size)
            clear hbn
            try go_wp2_with fail
            refine hK.out _ _ (HS.out _ hBc) (fun _ => ?_)
            clear hK K
            try simp only [List.setIfInBounds_toArray, List.set_cons_zero, List.set_cons_succ]
            refine wpAnyH_ready (rs := [50]) (by as_aux_lemma => kernel_rfl) (by simp) ?_
            refine AllReadyH.cons (o := { dst := some 120, op := Op.call { callee := Callee.value (Operand.func 56), args := #[Operand.tmp 118, Operand.tmp 119], argTypes := #[75, 75] }, type := 4, pos := "laws.go:266", after := #[{ on := 48, ground := Ground.data }, { on := 49, ground := Ground.data }, { on := 47, ground := Ground.chain }, { on := 44, ground := Ground.guard }], guard := some (44, true) }) rfl (fun K hK => ?_) AllReadyH.nil
            go_simp
            refine (K6.out _ hBc).mono ?_
            rintro e wn ⟨rfl, hbn⟩
            replace hBc := hBc.trans (hbn.mono hBc.size)
            clear hbn
            try go_wp2_with fail
            refine hK.out _ _ (HS.out _ hBc) (fun _ => ?_)
            clear hK K
            try simp only [List.setIfInBounds_toArray, List.set_cons_zero, List.set_cons_succ]
            refine wpAnyH_take (i := 51) (oi := { dst := some 121, op := Op.binOp BinOp.eql 4 (Operand.tmp 117) (Operand.tmp 120) 4, type := 4, pos := "laws.go:266", after := #[{ on := 47, ground := Ground.data }, { on := 50, ground := Ground.data }, { on := 44, ground := Ground.guard }], guard := some (44, true) }) (v := ?v51_01) rfl (by as_aux_lemma => kernel_rfl) (by as_aux_lemma => kernel_rfl) (by as_aux_lemma => kernel_rfl) (fun _ _ _ h => h) (Or.inl ⟨by rfl, ?hy51_01⟩) (HS.out _ hBc) ?_
            case hy51_01 =>
              intro w _
              go_simp <;> with_reducible rfl
            try simp only [Act.put, List.setIfInBounds_toArray, List.set_cons_zero, List.set_cons_succ]
            refine wpAnyH_take (i := 52) (oi := { dst := some 122, op := Op.pick (Operand.tmp 114) (Operand.tmp 121) (Operand.const (Value.bool false)), type := 4, pos := "laws.go:266", after := #[{ on := 44, ground := Ground.data }, { on := 51, ground := Ground.data }], guard := none }) (v := ?v52_01) rfl (by as_aux_lemma => kernel_rfl) (by as_aux_lemma => kernel_rfl) (by as_aux_lemma => kernel_rfl) (fun _ _ _ h => h) (Or.inl ⟨by rfl, ?hy52_01⟩) (HS.out _ hBc) ?_
            case hy52_01 =>
              intro w _
              go_simp <;> with_reducible rfl
            try simp only [Act.put, List.setIfInBounds_toArray, List.set_cons_zero, List.set_cons_succ]
            refine wpAnyH_take (i := 53) (oi := { dst := some 123, op := Op.move (Operand.tmp 122), type := 4, pos := "laws.go:266", after := #[{ on := 52, ground := Ground.data }, { on := 50, ground := Ground.chain }], guard := none }) (v := ?v53_01) rfl (by as_aux_lemma => kernel_rfl) (by as_aux_lemma => kernel_rfl) (by as_aux_lemma => kernel_rfl) (fun _ _ _ h => h) (Or.inl ⟨by rfl, ?hy53_01⟩) (HS.out _ hBc) ?_
            case hy53_01 =>
              intro w _
              go_simp <;> with_reducible rfl
            try simp only [Act.put, List.setIfInBounds_toArray, List.set_cons_zero, List.set_cons_succ]
            refine wpAnyH_take (i := 54) (oi := { dst := some 124, op := Op.load 75 (Operand.tmp 19), type := 75, pos := "laws.go:266", after := #[{ on := 53, ground := Ground.guard }], guard := some (53, true) }) (v := ?v54_01) rfl (by as_aux_lemma => kernel_rfl) (by as_aux_lemma => kernel_rfl) (by as_aux_lemma => kernel_rfl) (fun _ _ _ h => h) (Or.inl ⟨by rfl, ?hy54_01⟩) (HS.out _ hBc) ?_
            case hy54_01 =>
              intro w hSw
              replace hSw := hSw.2.2.2.2.2.2.1
              go_simp <;> with_reducible rfl
            try simp only [Act.put, List.setIfInBounds_toArray, List.set_cons_zero, List.set_cons_succ]
            refine wpAnyH_take (i := 55) (oi := { dst := some 125, op := Op.load 75 (Operand.tmp 20), type := 75, pos := "laws.go:266", after := #[{ on := 53, ground := Ground.guard }], guard := some (53, true) }) (v := ?v55_01) rfl (by as_aux_lemma => kernel_rfl) (by as_aux_lemma => kernel_rfl) (by as_aux_lemma => kernel_rfl) (fun _ _ _ h => h) (Or.inl ⟨by rfl, ?hy55_01⟩) (HS.out _ hBc) ?_
            case hy55_01 =>
              intro w hSw
              replace hSw := hSw.2.2.2.2.2.2.2
              go_simp <;> with_reducible rfl
            try simp only [Act.put, List.setIfInBounds_toArray, List.set_cons_zero, List.set_cons_succ]
            refine wpAnyH_take (i := 57) (oi := { dst := some 127, op := Op.load 75 (Operand.tmp 19), type := 75, pos := "laws.go:266", after := #[{ on := 53, ground := Ground.guard }], guard := some (53, true) }) (v := ?v57_01) rfl (by as_aux_lemma => kernel_rfl) (by as_aux_lemma => kernel_rfl) (by as_aux_lemma => kernel_rfl) (fun _ _ _ h => h) (Or.inl ⟨by rfl, ?hy57_01⟩) (HS.out _ hBc) ?_
            case hy57_01 =>
              intro w hSw
              replace hSw := hSw.2.2.2.2.2.2.1
              go_simp <;> with_reducible rfl
            try simp only [Act.put, List.setIfInBounds_toArray, List.set_cons_zero, List.set_cons_succ]
            refine wpAnyH_take (i := 58) (oi := { dst := some 128, op := Op.load 75 (Operand.tmp 20), type := 75, pos := "laws.go:266", after := #[{ on := 53, ground := Ground.guard }], guard := some (53, true) }) (v := ?v58_01) rfl (by as_aux_lemma => kernel_rfl) (by as_aux_lemma => kernel_rfl) (by as_aux_lemma => kernel_rfl) (fun _ _ _ h => h) (Or.inl ⟨by rfl, ?hy58_01⟩) (HS.out _ hBc) ?_
            case hy58_01 =>
              intro w hSw
              replace hSw := hSw.2.2.2.2.2.2.2
              go_simp <;> with_reducible rfl
            try simp only [Act.put, List.setIfInBounds_toArray, List.set_cons_zero, List.set_cons_succ]
            refine wpAnyH_ready (rs := [56]) (by as_aux_lemma => kernel_rfl) (by simp) ?_
            refine AllReadyH.cons (o := { dst := some 126, op := Op.call { callee := Callee.value (Operand.func 58), args := #[Operand.tmp 124, Operand.tmp 125], argTypes := #[75, 75] }, type := 4, pos := "laws.go:266", after := #[{ on := 54, ground := Ground.data }, { on := 55, ground := Ground.data }, { on := 53, ground := Ground.chain }, { on := 53, ground := Ground.guard }], guard := some (53, true) }) rfl (fun K hK => ?_) AllReadyH.nil
            go_simp
            refine (K7.out _ hBc).mono ?_
            rintro e wn ⟨rfl, hbn⟩
            replace hBc := hBc.trans (hbn.mono hBc.size)
            clear hbn
            try go_wp2_with fail
            refine hK.out _ _ (HS.out _ hBc) (fun _ => ?_)
            clear hK K
            try simp only [List.setIfInBounds_toArray, List.set_cons_zero, List.set_cons_succ]
            refine wpAnyH_ready (rs := [59]) (by as_aux_lemma => kernel_rfl) (by simp) ?_
            refine AllReadyH.cons (o := { dst := some 129, op := Op.call { callee := Callee.value (Operand.func 59), args := #[Operand.tmp 127, Operand.tmp 128], argTypes := #[75, 75] }, type := 4, pos := "laws.go:266", after := #[{ on := 57, ground := Ground.data }, { on := 58, ground := Ground.data }, { on := 56, ground := Ground.chain }, { on := 53, ground := Ground.guard }], guard := some (53, true) }) rfl (fun K hK => ?_) AllReadyH.nil
            go_simp
            refine (K8.out _ hBc).mono ?_
            rintro e wn ⟨rfl, hbn⟩
            replace hBc := hBc.trans (hbn.mono hBc.size)
            clear hbn
            try go_wp2_with fail
            refine hK.out _ _ (HS.out _ hBc) (fun _ => ?_)
            clear hK K
            try simp only [List.setIfInBounds_toArray, List.set_cons_zero, List.set_cons_succ]
            as_aux_lemma =>
             refine wpAnyH_take (i := 60) (oi := { dst := some 130, op := Op.binOp BinOp.eql 4 (Operand.tmp 126) (Operand.tmp 129) 4, type := 4, pos := "laws.go:266", after := #[{ on := 56, ground := Ground.data }, { on := 59, ground := Ground.data }, { on := 53, ground := Ground.guard }], guard := some (53, true) }) (v := ?v60_01) rfl (by as_aux_lemma => kernel_rfl) (by as_aux_lemma => kernel_rfl) (by as_aux_lemma => kernel_rfl) (fun _ _ _ h => h) (Or.inl ⟨by rfl, ?hy60_01⟩) (HS.out _ hBc) ?_
             case hy60_01 =>
               intro w _
               go_simp <;> with_reducible rfl
             try simp only [Act.put, List.setIfInBounds_toArray, List.set_cons_zero, List.set_cons_succ]
             refine wpAnyH_take (i := 61) (oi := { dst := some 131, op := Op.pick (Operand.tmp 123) (Operand.tmp 130) (Operand.const (Value.bool false)), type := 4, pos := "laws.go:266", after := #[{ on := 53, ground := Ground.data }, { on := 60, ground := Ground.data }], guard := none }) (v := ?v61_01) rfl (by as_aux_lemma => kernel_rfl) (by as_aux_lemma => kernel_rfl) (by as_aux_lemma => kernel_rfl) (fun _ _ _ h => h) (Or.inl ⟨by rfl, ?hy61_01⟩) (HS.out _ hBc) ?_
             case hy61_01 =>
               intro w _
               go_simp <;> with_reducible rfl
             try simp only [Act.put, List.setIfInBounds_toArray, List.set_cons_zero, List.set_cons_succ]
             refine wpAnyH_take (i := 62) (oi := { dst := some 132, op := Op.move (Operand.tmp 131), type := 4, pos := "laws.go:266", after := #[{ on := 61, ground := Ground.data }, { on := 59, ground := Ground.chain }], guard := none }) (v := ?v62_01) rfl (by as_aux_lemma => kernel_rfl) (by as_aux_lemma => kernel_rfl) (by as_aux_lemma => kernel_rfl) (fun _ _ _ h => h) (Or.inl ⟨by rfl, ?hy62_01⟩) (HS.out _ hBc) ?_
             case hy62_01 =>
               intro w _
               go_simp <;> with_reducible rfl
             try simp only [Act.put, List.setIfInBounds_toArray, List.set_cons_zero, List.set_cons_succ]
             refine wpAnyH_take (i := 63) (oi := { dst := some 133, op := Op.load 75 (Operand.tmp 19), type := 75, pos := "laws.go:266", after := #[{ on := 62, ground := Ground.guard }], guard := some (62, true) }) (v := ?v63_01) rfl (by as_aux_lemma => kernel_rfl) (by as_aux_lemma => kernel_rfl) (by as_aux_lemma => kernel_rfl) (fun _ _ _ h => h) (Or.inl ⟨by rfl, ?hy63_01⟩) (HS.out _ hBc) ?_
             case hy63_01 =>
               intro w hSw
               replace hSw := hSw.2.2.2.2.2.2.1
               go_simp <;> with_reducible rfl
             try simp only [Act.put, List.setIfInBounds_toArray, List.set_cons_zero, List.set_cons_succ]
             refine wpAnyH_take (i := 64) (oi := { dst := some 134, op := Op.load 75 (Operand.tmp 20), type := 75, pos := "laws.go:266", after := #[{ on := 62, ground := Ground.guard }], guard := some (62, true) }) (v := ?v64_01) rfl (by as_aux_lemma => kernel_rfl) (by as_aux_lemma => kernel_rfl) (by as_aux_lemma => kernel_rfl) (fun _ _ _ h => h) (Or.inl ⟨by rfl, ?hy64_01⟩) (HS.out _ hBc) ?_
             case hy64_01 =>
               intro w hSw
               replace hSw := hSw.2.2.2.2.2.2.2
               go_simp <;> with_reducible rfl
             try simp only [Act.put, List.setIfInBounds_toArray, List.set_cons_zero, List.set_cons_succ]
             refine wpAnyH_ready (rs := [65]) (by as_aux_lemma => kernel_rfl) (by simp) ?_
             refine AllReadyH.cons (o := { dst := some 135, op := Op.call { callee := Callee.value (Operand.func 58), args := #[Operand.tmp 133, Operand.tmp 134], argTypes := #[75, 75] }, type := 4, pos := "laws.go:266", after := #[{ on := 63, ground := Ground.data }, { on := 64, ground := Ground.data }, { on := 62, ground := Ground.chain }, { on := 62, ground := Ground.guard }], guard := some (62, true) }) rfl (fun K hK => ?_) AllReadyH.nil
             go_simp
             refine (K7.out _ hBc).mono ?_
             rintro e wn ⟨rfl, hbn⟩
             replace hBc := hBc.trans (hbn.mono hBc.size)
             clear hbn
             try go_wp2_with fail
             refine hK.out _ _ (HS.out _ hBc) (fun _ => ?_)
             clear hK K
             try simp only [List.setIfInBounds_toArray, List.set_cons_zero, List.set_cons_succ]
             refine wpAnyH_take (i := 66) (oi := { dst := some 136, op := Op.move (Operand.tmp 135), type := 4, pos := "laws.go:266", after := #[{ on := 65, ground := Ground.data }, { on := 65, ground := Ground.chain }, { on := 62, ground := Ground.guard }], guard := some (62, true) }) (v := ?v66_01) rfl (by as_aux_lemma => kernel_rfl) (by as_aux_lemma => kernel_rfl) (by as_aux_lemma => kernel_rfl) (fun _ _ _ h => h) (Or.inl ⟨by rfl, ?hy66_01⟩) (HS.out _ hBc) ?_
             case hy66_01 =>
               intro w _
               go_simp <;> with_reducible rfl
             try simp only [Act.put, List.setIfInBounds_toArray, List.set_cons_zero, List.set_cons_succ]
             refine wpAnyH_take (i := 67) (oi := { dst := some 137, op := Op.load 75 (Operand.tmp 20), type := 75, pos := "laws.go:266", after := #[{ on := 66, ground := Ground.guard }], guard := some (66, true) }) (v := ?v67_01) rfl (by as_aux_lemma => kernel_rfl) (by as_aux_lemma => kernel_rfl) (by as_aux_lemma => kernel_rfl) (fun _ _ _ h => h) (Or.inl ⟨by rfl, ?hy67_01⟩) (HS.out _ hBc) ?_
             case hy67_01 =>
               intro w hSw
               replace hSw := hSw.2.2.2.2.2.2.2
               go_simp <;> with_reducible rfl
             try simp only [Act.put, List.setIfInBounds_toArray, List.set_cons_zero, List.set_cons_succ]
             refine wpAnyH_take (i := 68) (oi := { dst := some 138, op := Op.load 75 (Operand.tmp 19), type := 75, pos := "laws.go:266", after := #[{ on := 66, ground := Ground.guard }], guard := some (66, true) }) (v := ?v68_01) rfl (by as_aux_lemma => kernel_rfl) (by as_aux_lemma => kernel_rfl) (by as_aux_lemma => kernel_rfl) (fun _ _ _ h => h) (Or.inl ⟨by rfl, ?hy68_01⟩) (HS.out _ hBc) ?_
             case hy68_01 =>
               intro w hSw
               replace hSw := hSw.2.2.2.2.2.2.1
               go_simp <;> with_reducible rfl
             try simp only [Act.put, List.setIfInBounds_toArray, List.set_cons_zero, List.set_cons_succ]
             refine wpAnyH_ready (rs := [69]) (by as_aux_lemma => kernel_rfl) (by simp) ?_
             refine AllReadyH.cons (o := { dst := some 139, op := Op.call { callee := Callee.value (Operand.func 58), args := #[Operand.tmp 137, Operand.tmp 138], argTypes := #[75, 75] }, type := 4, pos := "laws.go:266", after := #[{ on := 67, ground := Ground.data }, { on := 68, ground := Ground.data }, { on := 66, ground := Ground.chain }, { on := 66, ground := Ground.guard }], guard := some (66, true) }) rfl (fun K hK => ?_) AllReadyH.nil
             go_simp
             refine (K9.out _ hBc).mono ?_
             rintro e wn ⟨rfl, hbn⟩
             replace hBc := hBc.trans (hbn.mono hBc.size)
             clear hbn
             try go_wp2_with fail
             refine hK.out _ _ (HS.out _ hBc) (fun _ => ?_)
             clear hK K
             try simp only [List.setIfInBounds_toArray, List.set_cons_zero, List.set_cons_succ]
             refine wpAnyH_take (i := 70) (oi := { dst := some 140, op := Op.pick (Operand.tmp 136) (Operand.tmp 139) (Operand.const (Value.bool false)), type := 4, pos := "laws.go:266", after := #[{ on := 66, ground := Ground.data }, { on := 69, ground := Ground.data }, { on := 62, ground := Ground.guard }], guard := some (62, true) }) (v := ?v70_01) rfl (by as_aux_lemma => kernel_rfl) (by as_aux_lemma => kernel_rfl) (by as_aux_lemma => kernel_rfl) (fun _ _ _ h => h) (Or.inl ⟨by rfl, ?hy70_01⟩) (HS.out _ hBc) ?_
             case hy70_01 =>
               intro w _
               go_simp <;> with_reducible rfl
             try simp only [Act.put, List.setIfInBounds_toArray, List.set_cons_zero, List.set_cons_succ]
             refine wpAnyH_take (i := 71) (oi := { dst := some 141, op := Op.unOp UnOp.not 4 (Operand.tmp 140), type := 4, pos := "laws.go:266", after := #[{ on := 70, ground := Ground.data }, { on := 62, ground := Ground.guard }], guard := some (62, true) }) (v := ?v71_01) rfl (by as_aux_lemma => kernel_rfl) (by as_aux_lemma => kernel_rfl) (by as_aux_lemma => kernel_rfl) (fun _ _ _ h => h) (Or.inl ⟨by rfl, ?hy71_01⟩) (HS.out _ hBc) ?_
             case hy71_01 =>
               intro w _
               go_simp <;> with_reducible rfl
             try simp only [Act.put, List.setIfInBounds_toArray, List.set_cons_zero, List.set_cons_succ]
             as_aux_lemma =>
              refine wpAnyH_take (i := 72) (oi := { dst := some 142, op := Op.pick (Operand.tmp 132) (Operand.tmp 141) (Operand.const (Value.bool false)), type := 4, pos := "laws.go:266", after := #[{ on := 62, ground := Ground.data }, { on := 71, ground := Ground.data }], guard := none }) (v := ?v72_01) rfl (by as_aux_lemma => kernel_rfl) (by as_aux_lemma => kernel_rfl) (by as_aux_lemma => kernel_rfl) (fun _ _ _ h => h) (Or.inl ⟨by rfl, ?hy72_01⟩) (HS.out _ hBc) ?_
              case hy72_01 =>
                intro w _
                go_simp <;> with_reducible rfl
              try simp only [Act.put, List.setIfInBounds_toArray, List.set_cons_zero, List.set_cons_succ]
              refine wpAnyH_take (i := 73) (oi := { dst := some 143, op := Op.move (Operand.tmp 142), type := 4, pos := "laws.go:266", after := #[{ on := 72, ground := Ground.data }, { on := 69, ground := Ground.chain }], guard := none }) (v := ?v73_01) rfl (by as_aux_lemma => kernel_rfl) (by as_aux_lemma => kernel_rfl) (by as_aux_lemma => kernel_rfl) (fun _ _ _ h => h) (Or.inl ⟨by rfl, ?hy73_01⟩) (HS.out _ hBc) ?_
              case hy73_01 =>
                intro w _
                go_simp <;> with_reducible rfl
              try simp only [Act.put, List.setIfInBounds_toArray, List.set_cons_zero, List.set_cons_succ]
              refine wpAnyH_take (i := 74) (oi := { dst := some 144, op := Op.move (Operand.tmp 21), type := 9, pos := "laws.go:266", after := #[{ on := 73, ground := Ground.guard }], guard := some (73, true) }) (v := ?v74_01) rfl (by as_aux_lemma => kernel_rfl) (by as_aux_lemma => kernel_rfl) (by as_aux_lemma => kernel_rfl) (fun _ _ _ h => h) (Or.inl ⟨by rfl, ?hy74_01⟩) (HS.out _ hBc) ?_
              case hy74_01 =>
                intro w _
                go_simp <;> with_reducible rfl
              try simp only [Act.put, List.setIfInBounds_toArray, List.set_cons_zero, List.set_cons_succ]
              refine wpAnyH_take (i := 76) (oi := { dst := some 146, op := Op.move (Operand.tmp 21), type := 9, pos := "laws.go:266", after := #[{ on := 73, ground := Ground.guard }], guard := some (73, true) }) (v := ?v76_01) rfl (by as_aux_lemma => kernel_rfl) (by as_aux_lemma => kernel_rfl) (by as_aux_lemma => kernel_rfl) (fun _ _ _ h => h) (Or.inl ⟨by rfl, ?hy76_01⟩) (HS.out _ hBc) ?_
              case hy76_01 =>
                intro w _
                go_simp <;> with_reducible rfl
              try simp only [Act.put, List.setIfInBounds_toArray, List.set_cons_zero, List.set_cons_succ]
              refine wpAnyH_ready (rs := [75]) (by as_aux_lemma => kernel_rfl) (by simp) ?_
              refine AllReadyH.cons (o := { dst := some 145, op := Op.call { callee := Callee.value (Operand.func 60), args := #[Operand.tmp 144], argTypes := #[9] }, type := 4, pos := "laws.go:266", after := #[{ on := 74, ground := Ground.data }, { on := 73, ground := Ground.chain }, { on := 73, ground := Ground.guard }], guard := some (73, true) }) rfl (fun K hK => ?_) AllReadyH.nil
              go_simp
              refine (K10.out _ hBc).mono ?_
              rintro e wn ⟨rfl, hbn⟩
              replace hBc := hBc.trans (hbn.mono hBc.size)
              clear hbn
              try go_wp2_with fail
              refine hK.out _ _ (HS.out _ hBc) (fun _ => ?_)
              clear hK K
              try simp only [List.setIfInBounds_toArray, List.set_cons_zero, List.set_cons_succ]
              refine wpAnyH_ready (rs := [77]) (by as_aux_lemma => kernel_rfl) (by simp) ?_
              refine AllReadyH.cons (o := { dst := some 147, op := Op.call { callee := Callee.value (Operand.func 61), args := #[Operand.tmp 146], argTypes := #[9] }, type := 4, pos := "laws.go:266", after := #[{ on := 76, ground := Ground.data }, { on := 75, ground := Ground.chain }, { on := 73, ground := Ground.guard }], guard := some (73, true) }) rfl (fun K hK => ?_) AllReadyH.nil
              go_simp
              refine (K11.out _ hBc).mono ?_
              rintro e wn ⟨rfl, hbn⟩
              replace hBc := hBc.trans (hbn.mono hBc.size)
              clear hbn
              try go_wp2_with fail
              refine hK.out _ _ (HS.out _ hBc) (fun _ => ?_)
              clear hK K
              try simp only [List.setIfInBounds_toArray, List.set_cons_zero, List.set_cons_succ]
              refine wpAnyH_take (i := 78) (oi := { dst := some 148, op := Op.binOp BinOp.eql 4 (Operand.tmp 145) (Operand.tmp 147) 4, type := 4, pos := "laws.go:266", after := #[{ on := 75, ground := Ground.data }, { on := 77, ground := Ground.data }, { on := 73, ground := Ground.guard }], guard := some (73, true) }) (v := ?v78_01) rfl (by as_aux_lemma => kernel_rfl) (by as_aux_lemma => kernel_rfl) (by as_aux_lemma => kernel_rfl) (fun _ _ _ h => h) (Or.inl ⟨by rfl, ?hy78_01⟩) (HS.out _ hBc) ?_
              case hy78_01 =>
                intro w _
                go_simp <;> with_reducible rfl
              try simp only [Act.put, List.setIfInBounds_toArray, List.set_cons_zero, List.set_cons_succ]
              refine wpAnyH_take (i := 79) (oi := { dst := some 149, op := Op.pick (Operand.tmp 143) (Operand.tmp 148) (Operand.const (Value.bool false)), type := 4, pos := "laws.go:266", after := #[{ on := 73, ground := Ground.data }, { on := 78, ground := Ground.data }], guard := none }) (v := ?v79_01) rfl (by as_aux_lemma => kernel_rfl) (by as_aux_lemma => kernel_rfl) (by as_aux_lemma => kernel_rfl) (fun _ _ _ h => h) (Or.inl ⟨by rfl, ?hy79_01⟩) (HS.out _ hBc) ?_
              case hy79_01 =>
                intro w _
                go_simp <;> with_reducible rfl
              try simp only [Act.put, List.setIfInBounds_toArray, List.set_cons_zero, List.set_cons_succ]
              refine wpAnyH_take (i := 80) (oi := { dst := some 2, op := Op.assign (Operand.tmp 149), type := 4, pos := "laws.go:266", after := #[{ on := 79, ground := Ground.data }, { on := 77, ground := Ground.chain }, { on := 0, ground := Ground.phase }, { on := 1, ground := Ground.phase }, { on := 2, ground := Ground.phase }, { on := 3, ground := Ground.phase }, { on := 4, ground := Ground.phase }, { on := 5, ground := Ground.phase }, { on := 6, ground := Ground.phase }, { on := 7, ground := Ground.phase }, { on := 8, ground := Ground.phase }, { on := 9, ground := Ground.phase }, { on := 10, ground := Ground.phase }, { on := 11, ground := Ground.phase }, { on := 12, ground := Ground.phase }, { on := 13, ground := Ground.phase }, { on := 14, ground := Ground.phase }, { on := 15, ground := Ground.phase }, { on := 16, ground := Ground.phase }, { on := 17, ground := Ground.phase }, { on := 18, ground := Ground.phase }, { on := 19, ground := Ground.phase }, { on := 20, ground := Ground.phase }, { on := 21, ground := Ground.phase }, { on := 22, ground := Ground.phase }, { on := 23, ground := Ground.phase }, { on := 24, ground := Ground.phase }, { on := 25, ground := Ground.phase }, { on := 26, ground := Ground.phase }, { on := 27, ground := Ground.phase }, { on := 28, ground := Ground.phase }, { on := 29, ground := Ground.phase }, { on := 30, ground := Ground.phase }, { on := 31, ground := Ground.phase }, { on := 32, ground := Ground.phase }, { on := 33, ground := Ground.phase }, { on := 34, ground := Ground.phase }, { on := 35, ground := Ground.phase }, { on := 36, ground := Ground.phase }, { on := 37, ground := Ground.phase }, { on := 38, ground := Ground.phase }, { on := 39, ground := Ground.phase }, { on := 40, ground := Ground.phase }, { on := 41, ground := Ground.phase }, { on := 42, ground := Ground.phase }, { on := 43, ground := Ground.phase }, { on := 44, ground := Ground.phase }, { on := 45, ground := Ground.phase }, { on := 46, ground := Ground.phase }, { on := 47, ground := Ground.phase }, { on := 48, ground := Ground.phase }, { on := 49, ground := Ground.phase }, { on := 50, ground := Ground.phase }, { on := 51, ground := Ground.phase }, { on := 52, ground := Ground.phase }, { on := 53, ground := Ground.phase }, { on := 54, ground := Ground.phase }, { on := 55, ground := Ground.phase }, { on := 56, ground := Ground.phase }, { on := 57, ground := Ground.phase }, { on := 58, ground := Ground.phase }, { on := 59, ground := Ground.phase }, { on := 60, ground := Ground.phase }, { on := 61, ground := Ground.phase }, { on := 62, ground := Ground.phase }, { on := 63, ground := Ground.phase }, { on := 64, ground := Ground.phase }, { on := 65, ground := Ground.phase }, { on := 66, ground := Ground.phase }, { on := 67, ground := Ground.phase }, { on := 68, ground := Ground.phase }, { on := 69, ground := Ground.phase }, { on := 70, ground := Ground.phase }, { on := 71, ground := Ground.phase }, { on := 72, ground := Ground.phase }, { on := 73, ground := Ground.phase }, { on := 74, ground := Ground.phase }, { on := 75, ground := Ground.phase }, { on := 76, ground := Ground.phase }, { on := 77, ground := Ground.phase }, { on := 78, ground := Ground.phase }, { on := 79, ground := Ground.phase }], guard := none }) (v := ?v80_01) rfl (by as_aux_lemma => kernel_rfl) (by as_aux_lemma => kernel_rfl) (by as_aux_lemma => kernel_rfl) (fun _ _ _ h => h) (Or.inl ⟨by rfl, ?hy80_01⟩) (HS.out _ hBc) ?_
              case hy80_01 =>
                intro w _
                go_simp <;> with_reducible rfl
              try simp only [Act.put, List.setIfInBounds_toArray, List.set_cons_zero, List.set_cons_succ]
              refine wpAnyH_done (by as_aux_lemma => kernel_rfl) ?_ _
              go_wp2
              go_ret
              exact ⟨rfl, HB.out.trans (hBc.mono HB.out.size)⟩
      | false =>
        clear HLN
        refine wp_region_held_drew (S := (fun w' => (w'.cell? ⟨w2.heap.size, 0, none⟩ = some (.int .i64 A.r) ∧ w'.cell? ⟨w2.heap.size, 1, none⟩ = some (.int .i64 A.s) ∧ w'.cell? ⟨w2.heap.size, 2, none⟩ = some (.int .i64 A.t) ∧ w'.cell? ⟨w2.heap.size, 3, none⟩ = some (.slice (some ⟨ga, 0, none⟩) A.l.length ca) ∧ w'.cell? ⟨w2.heap.size, 4, none⟩ = some (.int .i64 A.k) ∧ w'.cell? ⟨w2.heap.size, 5, none⟩ = some (.string A.o) ∧ w'.cell? ⟨w2.heap.size, 6, none⟩ = some (.string A.y) ∧ w'.cell? ⟨w2.heap.size, 7, none⟩ = some (.int .i64 A.v) ∧ w'.cell? ⟨w2.heap.size, 8, none⟩ = some (.int .i64 A.x) ∧ w'.cell? ⟨w2.heap.size, 9, none⟩ = some (.int .i64 A.z)) ∧ (w'.cell? ⟨w4.heap.size, 0, none⟩ = some (.int .i64 X.r) ∧ w'.cell? ⟨w4.heap.size, 1, none⟩ = some (.int .i64 X.s) ∧ w'.cell? ⟨w4.heap.size, 2, none⟩ = some (.int .i64 X.t) ∧ w'.cell? ⟨w4.heap.size, 3, none⟩ = some (.slice xa X.l.length xc) ∧ w'.cell? ⟨w4.heap.size, 4, none⟩ = some (.int .i64 X.k) ∧ w'.cell? ⟨w4.heap.size, 5, none⟩ = some (.string X.o) ∧ w'.cell? ⟨w4.heap.size, 6, none⟩ = some (.string X.y) ∧ w'.cell? ⟨w4.heap.size, 7, none⟩ = some (.int .i64 X.v) ∧ w'.cell? ⟨w4.heap.size, 8, none⟩ = some (.int .i64 X.x) ∧ w'.cell? ⟨w4.heap.size, 9, none⟩ = some (.int .i64 X.z)) ∧ (w'.cell? ⟨w6.heap.size, 0, none⟩ = some (.int .i64 Y.r) ∧ w'.cell? ⟨w6.heap.size, 1, none⟩ = some (.int .i64 Y.s) ∧ w'.cell? ⟨w6.heap.size, 2, none⟩ = some (.int .i64 Y.t) ∧ w'.cell? ⟨w6.heap.size, 3, none⟩ = some (.slice ya Y.l.length yc) ∧ w'.cell? ⟨w6.heap.size, 4, none⟩ = some (.int .i64 Y.k) ∧ w'.cell? ⟨w6.heap.size, 5, none⟩ = some (.string Y.o) ∧ w'.cell? ⟨w6.heap.size, 6, none⟩ = some (.string Y.y) ∧ w'.cell? ⟨w6.heap.size, 7, none⟩ = some (.int .i64 Y.v) ∧ w'.cell? ⟨w6.heap.size, 8, none⟩ = some (.int .i64 Y.x) ∧ w'.cell? ⟨w6.heap.size, 9, none⟩ = some (.int .i64 Y.z)) ∧ (w'.cell? ⟨w7.heap.size, 0, none⟩ = some (.int .i64 Y.r) ∧ w'.cell? ⟨w7.heap.size, 1, none⟩ = some (.int .i64 Y.s) ∧ w'.cell? ⟨w7.heap.size, 2, none⟩ = some (.int .i64 Y.t) ∧ w'.cell? ⟨w7.heap.size, 3, none⟩ = some (.slice za Y.l.length zc) ∧ w'.cell? ⟨w7.heap.size, 4, none⟩ = some (.int .i64 Y.k) ∧ w'.cell? ⟨w7.heap.size, 5, none⟩ = some (.string Y.o) ∧ w'.cell? ⟨w7.heap.size, 6, none⟩ = some (.string Y.y) ∧ w'.cell? ⟨w7.heap.size, 7, none⟩ = some (.int .i64 Y.v) ∧ w'.cell? ⟨w7.heap.size, 8, none⟩ = some (.int .i64 Y.x) ∧ w'.cell? ⟨w7.heap.size, 9, none⟩ = some (.int .i64 Y.z)) ∧ (w'.cell? ⟨w8.heap.size, 0, none⟩ = some (.int .i64 B.r) ∧ w'.cell? ⟨w8.heap.size, 1, none⟩ = some (.int .i64 B.s) ∧ w'.cell? ⟨w8.heap.size, 2, none⟩ = some (.int .i64 B.t) ∧ w'.cell? ⟨w8.heap.size, 3, none⟩ = some (.slice (some ⟨gb, 0, none⟩) B.l.length cb) ∧ w'.cell? ⟨w8.heap.size, 4, none⟩ = some (.int .i64 B.k) ∧ w'.cell? ⟨w8.heap.size, 5, none⟩ = some (.string B.o) ∧ w'.cell? ⟨w8.heap.size, 6, none⟩ = some (.string B.y) ∧ w'.cell? ⟨w8.heap.size, 7, none⟩ = some (.int .i64 B.v) ∧ w'.cell? ⟨w8.heap.size, 8, none⟩ = some (.int .i64 B.x) ∧ w'.cell? ⟨w8.heap.size, 9, none⟩ = some (.int .i64 B.z)) ∧ (w'.cell? ⟨(w8.heap.size + 1), 0, none⟩ = some (.int .i64 C.r) ∧ w'.cell? ⟨(w8.heap.size + 1), 1, none⟩ = some (.int .i64 C.s) ∧ w'.cell? ⟨(w8.heap.size + 1), 2, none⟩ = some (.int .i64 C.t) ∧ w'.cell? ⟨(w8.heap.size + 1), 3, none⟩ = some (.slice (some ⟨gc, 0, none⟩) C.l.length cc) ∧ w'.cell? ⟨(w8.heap.size + 1), 4, none⟩ = some (.int .i64 C.k) ∧ w'.cell? ⟨(w8.heap.size + 1), 5, none⟩ = some (.string C.o) ∧ w'.cell? ⟨(w8.heap.size + 1), 6, none⟩ = some (.string C.y) ∧ w'.cell? ⟨(w8.heap.size + 1), 7, none⟩ = some (.int .i64 C.v) ∧ w'.cell? ⟨(w8.heap.size + 1), 8, none⟩ = some (.int .i64 C.x) ∧ w'.cell? ⟨(w8.heap.size + 1), 9, none⟩ = some (.int .i64 C.z)) ∧ (w'.cell? ⟨w9.heap.size, 0, none⟩ = some (.int .i64 D.r) ∧ w'.cell? ⟨w9.heap.size, 1, none⟩ = some (.int .i64 D.s) ∧ w'.cell? ⟨w9.heap.size, 2, none⟩ = some (.int .i64 D.t) ∧ w'.cell? ⟨w9.heap.size, 3, none⟩ = some (.slice (some ⟨gd, 0, none⟩) D.l.length cd) ∧ w'.cell? ⟨w9.heap.size, 4, none⟩ = some (.int .i64 D.k) ∧ w'.cell? ⟨w9.heap.size, 5, none⟩ = some (.string D.o) ∧ w'.cell? ⟨w9.heap.size, 6, none⟩ = some (.string D.y) ∧ w'.cell? ⟨w9.heap.size, 7, none⟩ = some (.int .i64 D.v) ∧ w'.cell? ⟨w9.heap.size, 8, none⟩ = some (.int .i64 D.x) ∧ w'.cell? ⟨w9.heap.size, 9, none⟩ = some (.int .i64 D.z)) ∧ (w'.cell? ⟨(w9.heap.size + 1), 0, none⟩ = some (.int .i64 E.r) ∧ w'.cell? ⟨(w9.heap.size + 1), 1, none⟩ = some (.int .i64 E.s) ∧ w'.cell? ⟨(w9.heap.size + 1), 2, none⟩ = some (.int .i64 E.t) ∧ w'.cell? ⟨(w9.heap.size + 1), 3, none⟩ = some (.slice (some ⟨ge, 0, none⟩) E.l.length ce) ∧ w'.cell? ⟨(w9.heap.size + 1), 4, none⟩ = some (.int .i64 E.k) ∧ w'.cell? ⟨(w9.heap.size + 1), 5, none⟩ = some (.string E.o) ∧ w'.cell? ⟨(w9.heap.size + 1), 6, none⟩ = some (.string E.y) ∧ w'.cell? ⟨(w9.heap.size + 1), 7, none⟩ = some (.int .i64 E.v) ∧ w'.cell? ⟨(w9.heap.size + 1), 8, none⟩ = some (.int .i64 E.x) ∧ w'.cell? ⟨(w9.heap.size + 1), 9, none⟩ = some (.int .i64 E.z)))) (by kernel_rfl) (HS.out _ hBc) (fun _ => ?_)
        refine wpAnyH_list (l' := #[false, false, false, false, false, false, false, false, false, false, false, false, false, false, false, false, false, false, false, false, false, false, false, false, false, false, false, false, false, false, false, false, false, false, false, false, false, false, false, false, false, false, false, false, false, false, false, false, false, false, false, false, false, false, false, false, false, false, false, false, false, false, false, false, false, false, false, false, false, false, false, false, false, false, false, false, false, false, false, false, false]) (by as_aux_lemma => kernel_rfl) ?_
        refine wpAnyH_take (i := 0) (oi := { dst := some 70, op := Op.move (Operand.tmp 5), type := 4, pos := "laws.go:266", after := #[], guard := none }) (v := ?v0_00) rfl (by as_aux_lemma => kernel_rfl) (by as_aux_lemma => kernel_rfl) (by as_aux_lemma => kernel_rfl) (fun _ _ _ h => h) (Or.inl ⟨by rfl, ?hy0_00⟩) (HS.out _ hBc) ?_
        case hy0_00 =>
          intro w _
          go_simp <;> with_reducible rfl
        try simp only [Act.put, List.setIfInBounds_toArray, List.set_cons_zero, List.set_cons_succ]
        refine wpAnyH_take (i := 1) (oi := { dst := some 71, op := Op.load 75 (Operand.tmp 3), type := 75, pos := "laws.go:266", after := #[], guard := none }) (v := ?v1_00) rfl (by as_aux_lemma => kernel_rfl) (by as_aux_lemma => kernel_rfl) (by as_aux_lemma => kernel_rfl) (fun _ _ _ h => h) (Or.inl ⟨by rfl, ?hy1_00⟩) (HS.out _ hBc) ?_
        case hy1_00 =>
          intro w hSw
          replace hSw := hSw.1
          go_simp <;> with_reducible rfl
        try simp only [Act.put, List.setIfInBounds_toArray, List.set_cons_zero, List.set_cons_succ]
        refine wpAnyH_ready (rs := [2]) (by as_aux_lemma => kernel_rfl) (by simp) ?_
        refine AllReadyH.cons (o := { dst := some 72, op := Op.call { callee := Callee.value (Operand.func 54), args := #[Operand.tmp 71], argTypes := #[75] }, type := 4, pos := "laws.go:266", after := #[{ on := 1, ground := Ground.data }], guard := none }) rfl (fun K hK => ?_) AllReadyH.nil
        go_simp
        refine (K1.out _ hBc).mono ?_
        rintro e wn ⟨rfl, hbn⟩
        replace hBc := hBc.trans (hbn.mono hBc.size)
        clear hbn
        try go_wp2_with fail
        refine hK.out _ _ (HS.out _ hBc) (fun _ => ?_)
        clear hK K
        try simp only [List.setIfInBounds_toArray, List.set_cons_zero, List.set_cons_succ]
        refine wpAnyH_take (i := 3) (oi := { dst := some 73, op := Op.binOp BinOp.eql 4 (Operand.tmp 70) (Operand.tmp 72) 4, type := 4, pos := "laws.go:266", after := #[{ on := 0, ground := Ground.data }, { on := 2, ground := Ground.data }], guard := none }) (v := ?v3_00) rfl (by as_aux_lemma => kernel_rfl) (by as_aux_lemma => kernel_rfl) (by as_aux_lemma => kernel_rfl) (fun _ _ _ h => h) (Or.inl ⟨by rfl, ?hy3_00⟩) (HS.out _ hBc) ?_
        case hy3_00 =>
          intro w _
          go_simp <;> with_reducible rfl
        try simp only [Act.put, List.setIfInBounds_toArray, List.set_cons_zero, List.set_cons_succ]
        refine wpAnyH_take (i := 4) (oi := { dst := some 74, op := Op.move (Operand.tmp 73), type := 4, pos := "laws.go:266", after := #[{ on := 3, ground := Ground.data }, { on := 2, ground := Ground.chain }], guard := none }) (v := ?v4_00) rfl (by as_aux_lemma => kernel_rfl) (by as_aux_lemma => kernel_rfl) (by as_aux_lemma => kernel_rfl) (fun _ _ _ h => h) (Or.inl ⟨by rfl, ?hy4_00⟩) (HS.out _ hBc) ?_
        case hy4_00 =>
          intro w _
          go_simp <;> with_reducible rfl
        try simp only [Act.put, List.setIfInBounds_toArray, List.set_cons_zero, List.set_cons_succ]
        refine wpAnyH_take (i := 5) (oi := { dst := some 75, op := Op.load 75 (Operand.tmp 3), type := 75, pos := "laws.go:266", after := #[{ on := 4, ground := Ground.guard }], guard := some (4, true) }) (v := ?v5_00) rfl (by as_aux_lemma => kernel_rfl) (by as_aux_lemma => kernel_rfl) (by as_aux_lemma => kernel_rfl) (fun _ _ _ h => h) (Or.inl ⟨by rfl, ?hy5_00⟩) (HS.out _ hBc) ?_
        case hy5_00 =>
          intro w hSw
          replace hSw := hSw.1
          go_simp <;> with_reducible rfl
        try simp only [Act.put, List.setIfInBounds_toArray, List.set_cons_zero, List.set_cons_succ]
        refine wpAnyH_take (i := 7) (oi := { dst := some 77, op := Op.move (Operand.tmp 5), type := 4, pos := "laws.go:266", after := #[{ on := 4, ground := Ground.guard }], guard := some (4, true) }) (v := ?v7_00) rfl (by as_aux_lemma => kernel_rfl) (by as_aux_lemma => kernel_rfl) (by as_aux_lemma => kernel_rfl) (fun _ _ _ h => h) (Or.inl ⟨by rfl, ?hy7_00⟩) (HS.out _ hBc) ?_
        case hy7_00 =>
          intro w _
          go_simp <;> with_reducible rfl
        try simp only [Act.put, List.setIfInBounds_toArray, List.set_cons_zero, List.set_cons_succ]
        refine wpAnyH_ready (rs := [6]) (by as_aux_lemma => kernel_rfl) (by simp) ?_
        refine AllReadyH.cons (o := { dst := some 76, op := Op.call { callee := Callee.value (Operand.func 55), args := #[Operand.tmp 75], argTypes := #[75] }, type := 4, pos := "laws.go:266", after := #[{ on := 5, ground := Ground.data }, { on := 4, ground := Ground.chain }, { on := 4, ground := Ground.guard }], guard := some (4, true) }) rfl (fun K hK => ?_) AllReadyH.nil
        go_simp
        refine (K2.out _ hBc).mono ?_
        rintro e wn ⟨rfl, hbn⟩
        replace hBc := hBc.trans (hbn.mono hBc.size)
        clear hbn
        try go_wp2_with fail
        refine hK.out _ _ (HS.out _ hBc) (fun _ => ?_)
        clear hK K
        try simp only [List.setIfInBounds_toArray, List.set_cons_zero, List.set_cons_succ]
        refine wpAnyH_take (i := 8) (oi := { dst := some 78, op := Op.binOp BinOp.eql 4 (Operand.tmp 76) (Operand.tmp 77) 4, type := 4, pos := "laws.go:266", after := #[{ on := 6, ground := Ground.data }, { on := 7, ground := Ground.data }, { on := 4, ground := Ground.guard }], guard := some (4, true) }) (v := ?v8_00) rfl (by as_aux_lemma => kernel_rfl) (by as_aux_lemma => kernel_rfl) (by as_aux_lemma => kernel_rfl) (fun _ _ _ h => h) (Or.inl ⟨by rfl, ?hy8_00⟩) (HS.out _ hBc) ?_
        case hy8_00 =>
          intro w _
          go_simp <;> with_reducible rfl
        try simp only [Act.put, List.setIfInBounds_toArray, List.set_cons_zero, List.set_cons_succ]
        refine wpAnyH_take (i := 9) (oi := { dst := some 79, op := Op.pick (Operand.tmp 74) (Operand.tmp 78) (Operand.const (Value.bool false)), type := 4, pos := "laws.go:266", after := #[{ on := 4, ground := Ground.data }, { on := 8, ground := Ground.data }], guard := none }) (v := ?v9_00) rfl (by as_aux_lemma => kernel_rfl) (by as_aux_lemma => kernel_rfl) (by as_aux_lemma => kernel_rfl) (fun _ _ _ h => h) (Or.inl ⟨by rfl, ?hy9_00⟩) (HS.out _ hBc) ?_
        case hy9_00 =>
          intro w _
          go_simp <;> with_reducible rfl
        try simp only [Act.put, List.setIfInBounds_toArray, List.set_cons_zero, List.set_cons_succ]
        refine wpAnyH_take (i := 10) (oi := { dst := some 80, op := Op.move (Operand.tmp 79), type := 4, pos := "laws.go:266", after := #[{ on := 9, ground := Ground.data }, { on := 6, ground := Ground.chain }], guard := none }) (v := ?v10_00) rfl (by as_aux_lemma => kernel_rfl) (by as_aux_lemma => kernel_rfl) (by as_aux_lemma => kernel_rfl) (fun _ _ _ h => h) (Or.inl ⟨by rfl, ?hy10_00⟩) (HS.out _ hBc) ?_
        case hy10_00 =>
          intro w _
          go_simp <;> with_reducible rfl
        try simp only [Act.put, List.setIfInBounds_toArray, List.set_cons_zero, List.set_cons_succ]
        refine wpAnyH_take (i := 11) (oi := { dst := some 81, op := Op.move (Operand.tmp 5), type := 4, pos := "laws.go:266", after := #[{ on := 10, ground := Ground.guard }], guard := some (10, true) }) (v := ?v11_00) rfl (by as_aux_lemma => kernel_rfl) (by as_aux_lemma => kernel_rfl) (by as_aux_lemma => kernel_rfl) (fun _ _ _ h => h) (Or.inl ⟨by rfl, ?hy11_00⟩) (HS.out _ hBc) ?_
        case hy11_00 =>
          intro w _
          go_simp <;> with_reducible rfl
        try simp only [Act.put, List.setIfInBounds_toArray, List.set_cons_zero, List.set_cons_succ]
        as_aux_lemma =>
         refine wpAnyH_take (i := 12) (oi := { dst := some 82, op := Op.unOp UnOp.not 4 (Operand.tmp 81), type := 4, pos := "laws.go:266", after := #[{ on := 11, ground := Ground.data }, { on := 10, ground := Ground.guard }], guard := some (10, true) }) (v := ?v12_00) rfl (by as_aux_lemma => kernel_rfl) (by as_aux_lemma => kernel_rfl) (by as_aux_lemma => kernel_rfl) (fun _ _ _ h => h) (Or.inl ⟨by rfl, ?hy12_00⟩) (HS.out _ hBc) ?_
         case hy12_00 =>
           intro w _
           go_simp <;> with_reducible rfl
         try simp only [Act.put, List.setIfInBounds_toArray, List.set_cons_zero, List.set_cons_succ]
         refine wpAnyH_take (i := 13) (oi := { dst := some 83, op := Op.move (Operand.tmp 82), type := 4, pos := "laws.go:266", after := #[{ on := 12, ground := Ground.data }, { on := 10, ground := Ground.chain }, { on := 10, ground := Ground.guard }], guard := some (10, true) }) (v := ?v13_00) rfl (by as_aux_lemma => kernel_rfl) (by as_aux_lemma => kernel_rfl) (by as_aux_lemma => kernel_rfl) (fun _ _ _ h => h) (Or.inl ⟨by rfl, ?hy13_00⟩) (HS.out _ hBc) ?_
         case hy13_00 =>
           intro w _
           go_simp <;> with_reducible rfl
         try simp only [Act.put, List.setIfInBounds_toArray, List.set_cons_zero, List.set_cons_succ]
         refine wpAnyH_take (i := 14) (oi := { dst := some 84, op := Op.move (Operand.tmp 8), type := 4, pos := "laws.go:266", after := #[{ on := 13, ground := Ground.guard }], guard := some (13, false) }) (v := undef) rfl (by as_aux_lemma => kernel_rfl) (by as_aux_lemma => kernel_rfl) (by as_aux_lemma => kernel_rfl) (fun _ _ _ h => h) (Or.inr ⟨by rfl, rfl⟩) (HS.out _ hBc) ?_
         try simp only [Act.put, List.setIfInBounds_toArray, List.set_cons_zero, List.set_cons_succ]
         refine wpAnyH_take (i := 15) (oi := { dst := some 85, op := Op.move (Operand.tmp 84), type := 4, pos := "laws.go:266", after := #[{ on := 14, ground := Ground.data }, { on := 13, ground := Ground.chain }, { on := 13, ground := Ground.guard }], guard := some (13, false) }) (v := undef) rfl (by as_aux_lemma => kernel_rfl) (by as_aux_lemma => kernel_rfl) (by as_aux_lemma => kernel_rfl) (fun _ _ _ h => h) (Or.inr ⟨by rfl, rfl⟩) (HS.out _ hBc) ?_
         try simp only [Act.put, List.setIfInBounds_toArray, List.set_cons_zero, List.set_cons_succ]
         refine wpAnyH_take (i := 16) (oi := { dst := some 86, op := Op.load 75 (Operand.tmp 6), type := 75, pos := "laws.go:266", after := #[{ on := 15, ground := Ground.guard }], guard := some (15, true) }) (v := undef) rfl (by as_aux_lemma => kernel_rfl) (by as_aux_lemma => kernel_rfl) (by as_aux_lemma => kernel_rfl) (fun _ _ _ h => h) (Or.inr ⟨by rfl, rfl⟩) (HS.out _ hBc) ?_
         try simp only [Act.put, List.setIfInBounds_toArray, List.set_cons_zero, List.set_cons_succ]
         refine wpAnyH_take (i := 17) (oi := { dst := some 87, op := Op.load 75 (Operand.tmp 3), type := 75, pos := "laws.go:266", after := #[{ on := 15, ground := Ground.guard }], guard := some (15, true) }) (v := undef) rfl (by as_aux_lemma => kernel_rfl) (by as_aux_lemma => kernel_rfl) (by as_aux_lemma => kernel_rfl) (fun _ _ _ h => h) (Or.inr ⟨by rfl, rfl⟩) (HS.out _ hBc) ?_
         try simp only [Act.put, List.setIfInBounds_toArray, List.set_cons_zero, List.set_cons_succ]
         refine wpAnyH_ready (rs := [18]) (by as_aux_lemma => kernel_rfl) (by simp) ?_
         refine AllReadyH.cons (o := { dst := some 88, op := Op.call { callee := Callee.value (Operand.func 56), args := #[Operand.tmp 86, Operand.tmp 87], argTypes := #[75, 75] }, type := 4, pos := "laws.go:266", after := #[{ on := 16, ground := Ground.data }, { on := 17, ground := Ground.data }, { on := 15, ground := Ground.chain }, { on := 15, ground := Ground.guard }], guard := some (15, true) }) rfl (fun K hK => ?_) AllReadyH.nil
         refine Eq.mpr (if_neg (fun h => Bool.noConfusion (show false = true from h))) ?_
         refine hK.out _ _ (HS.out _ hBc) (fun _ => ?_)
         clear hK K
         try simp only [Act.put, List.setIfInBounds_toArray, List.set_cons_zero, List.set_cons_succ]
         refine wpAnyH_take (i := 19) (oi := { dst := some 89, op := Op.pick (Operand.tmp 85) (Operand.tmp 88) (Operand.const (Value.bool false)), type := 4, pos := "laws.go:266", after := #[{ on := 15, ground := Ground.data }, { on := 18, ground := Ground.data }, { on := 13, ground := Ground.guard }], guard := some (13, false) }) (v := undef) rfl (by as_aux_lemma => kernel_rfl) (by as_aux_lemma => kernel_rfl) (by as_aux_lemma => kernel_rfl) (fun _ _ _ h => h) (Or.inr ⟨by rfl, rfl⟩) (HS.out _ hBc) ?_
         try simp only [Act.put, List.setIfInBounds_toArray, List.set_cons_zero, List.set_cons_succ]
         refine wpAnyH_take (i := 20) (oi := { dst := some 90, op := Op.move (Operand.tmp 89), type := 4, pos := "laws.go:266", after := #[{ on := 19, ground := Ground.data }, { on := 18, ground := Ground.chain }, { on := 13, ground := Ground.guard }], guard := some (13, false) }) (v := undef) rfl (by as_aux_lemma => kernel_rfl) (by as_aux_lemma => kernel_rfl) (by as_aux_lemma => kernel_rfl) (fun _ _ _ h => h) (Or.inr ⟨by rfl, rfl⟩) (HS.out _ hBc) ?_
         try simp only [Act.put, List.setIfInBounds_toArray, List.set_cons_zero, List.set_cons_succ]
         refine wpAnyH_take (i := 21) (oi := { dst := some 91, op := Op.move (Operand.tmp 7), type := 3, pos := "laws.go:266", after := #[{ on := 20, ground := Ground.guard }], guard := some (20, true) }) (v := undef) rfl (by as_aux_lemma => kernel_rfl) (by as_aux_lemma => kernel_rfl) (by as_aux_lemma => kernel_rfl) (fun _ _ _ h => h) (Or.inr ⟨by rfl, rfl⟩) (HS.out _ hBc) ?_
         try simp only [Act.put, List.setIfInBounds_toArray, List.set_cons_zero, List.set_cons_succ]
         refine wpAnyH_take (i := 22) (oi := { dst := some 92, op := Op.move (Operand.tmp 4), type := 9, pos := "laws.go:266", after := #[{ on := 20, ground := Ground.guard }], guard := some (20, true) }) (v := undef) rfl (by as_aux_lemma => kernel_rfl) (by as_aux_lemma => kernel_rfl) (by as_aux_lemma => kernel_rfl) (fun _ _ _ h => h) (Or.inr ⟨by rfl, rfl⟩) (HS.out _ hBc) ?_
         try simp only [Act.put, List.setIfInBounds_toArray, List.set_cons_zero, List.set_cons_succ]
         refine wpAnyH_take (i := 23) (oi := { dst := some 93, op := Op.call { callee := Callee.builtin Builtin.len, args := #[Operand.tmp 92], argTypes := #[9] }, type := 3, pos := "laws.go:266", after := #[{ on := 22, ground := Ground.data }, { on := 20, ground := Ground.guard }], guard := some (20, true) }) (v := undef) rfl (by as_aux_lemma => kernel_rfl) (by as_aux_lemma => kernel_rfl) (by as_aux_lemma => kernel_rfl) (fun _ _ _ h => h) (Or.inr ⟨by rfl, rfl⟩) (HS.out _ hBc) ?_
         try simp only [Act.put, List.setIfInBounds_toArray, List.set_cons_zero, List.set_cons_succ]
         as_aux_lemma =>
          refine wpAnyH_take (i := 24) (oi := { dst := some 94, op := Op.binOp BinOp.add 3 (Operand.const (Value.int IntKind.i64 2)) (Operand.tmp 93) 3, type := 3, pos := "laws.go:266", after := #[{ on := 23, ground := Ground.data }, { on := 20, ground := Ground.guard }], guard := some (20, true) }) (v := undef) rfl (by as_aux_lemma => kernel_rfl) (by as_aux_lemma => kernel_rfl) (by as_aux_lemma => kernel_rfl) (fun _ _ _ h => h) (Or.inr ⟨by rfl, rfl⟩) (HS.out _ hBc) ?_
          try simp only [Act.put, List.setIfInBounds_toArray, List.set_cons_zero, List.set_cons_succ]
          refine wpAnyH_take (i := 25) (oi := { dst := some 95, op := Op.binOp BinOp.eql 3 (Operand.tmp 91) (Operand.tmp 94) 3, type := 4, pos := "laws.go:266", after := #[{ on := 21, ground := Ground.data }, { on := 24, ground := Ground.data }, { on := 20, ground := Ground.guard }], guard := some (20, true) }) (v := undef) rfl (by as_aux_lemma => kernel_rfl) (by as_aux_lemma => kernel_rfl) (by as_aux_lemma => kernel_rfl) (fun _ _ _ h => h) (Or.inr ⟨by rfl, rfl⟩) (HS.out _ hBc) ?_
          try simp only [Act.put, List.setIfInBounds_toArray, List.set_cons_zero, List.set_cons_succ]
          refine wpAnyH_take (i := 26) (oi := { dst := some 96, op := Op.pick (Operand.tmp 90) (Operand.tmp 95) (Operand.const (Value.bool false)), type := 4, pos := "laws.go:266", after := #[{ on := 20, ground := Ground.data }, { on := 25, ground := Ground.data }, { on := 13, ground := Ground.guard }], guard := some (13, false) }) (v := undef) rfl (by as_aux_lemma => kernel_rfl) (by as_aux_lemma => kernel_rfl) (by as_aux_lemma => kernel_rfl) (fun _ _ _ h => h) (Or.inr ⟨by rfl, rfl⟩) (HS.out _ hBc) ?_
          try simp only [Act.put, List.setIfInBounds_toArray, List.set_cons_zero, List.set_cons_succ]
          refine wpAnyH_take (i := 27) (oi := { dst := some 97, op := Op.pick (Operand.tmp 83) (Operand.const (Value.bool true)) (Operand.tmp 96), type := 4, pos := "laws.go:266", after := #[{ on := 13, ground := Ground.data }, { on := 26, ground := Ground.data }, { on := 10, ground := Ground.guard }], guard := some (10, true) }) (v := ?v27_00) rfl (by as_aux_lemma => kernel_rfl) (by as_aux_lemma => kernel_rfl) (by as_aux_lemma => kernel_rfl) (fun _ _ _ h => h) (Or.inl ⟨by rfl, ?hy27_00⟩) (HS.out _ hBc) ?_
          case hy27_00 =>
            intro w _
            go_simp <;> with_reducible rfl
          try simp only [Act.put, List.setIfInBounds_toArray, List.set_cons_zero, List.set_cons_succ]
          refine wpAnyH_take (i := 28) (oi := { dst := some 98, op := Op.pick (Operand.tmp 80) (Operand.tmp 97) (Operand.const (Value.bool false)), type := 4, pos := "laws.go:266", after := #[{ on := 10, ground := Ground.data }, { on := 27, ground := Ground.data }], guard := none }) (v := ?v28_00) rfl (by as_aux_lemma => kernel_rfl) (by as_aux_lemma => kernel_rfl) (by as_aux_lemma => kernel_rfl) (fun _ _ _ h => h) (Or.inl ⟨by rfl, ?hy28_00⟩) (HS.out _ hBc) ?_
          case hy28_00 =>
            intro w _
            go_simp <;> with_reducible rfl
          try simp only [Act.put, List.setIfInBounds_toArray, List.set_cons_zero, List.set_cons_succ]
          refine wpAnyH_take (i := 29) (oi := { dst := some 99, op := Op.move (Operand.tmp 98), type := 4, pos := "laws.go:266", after := #[{ on := 28, ground := Ground.data }, { on := 20, ground := Ground.chain }], guard := none }) (v := ?v29_00) rfl (by as_aux_lemma => kernel_rfl) (by as_aux_lemma => kernel_rfl) (by as_aux_lemma => kernel_rfl) (fun _ _ _ h => h) (Or.inl ⟨by rfl, ?hy29_00⟩) (HS.out _ hBc) ?_
          case hy29_00 =>
            intro w _
            go_simp <;> with_reducible rfl
          try simp only [Act.put, List.setIfInBounds_toArray, List.set_cons_zero, List.set_cons_succ]
          refine wpAnyH_take (i := 30) (oi := { dst := some 100, op := Op.move (Operand.tmp 13), type := 4, pos := "laws.go:266", after := #[{ on := 29, ground := Ground.guard }], guard := some (29, true) }) (v := ?v30_00) rfl (by as_aux_lemma => kernel_rfl) (by as_aux_lemma => kernel_rfl) (by as_aux_lemma => kernel_rfl) (fun _ _ _ h => h) (Or.inl ⟨by rfl, ?hy30_00⟩) (HS.out _ hBc) ?_
          case hy30_00 =>
            intro w _
            go_simp <;> with_reducible rfl
          try simp only [Act.put, List.setIfInBounds_toArray, List.set_cons_zero, List.set_cons_succ]
          refine wpAnyH_take (i := 31) (oi := { dst := some 101, op := Op.move (Operand.tmp 16), type := 4, pos := "laws.go:266", after := #[{ on := 29, ground := Ground.guard }], guard := some (29, true) }) (v := ?v31_00) rfl (by as_aux_lemma => kernel_rfl) (by as_aux_lemma => kernel_rfl) (by as_aux_lemma => kernel_rfl) (fun _ _ _ h => h) (Or.inl ⟨by rfl, ?hy31_00⟩) (HS.out _ hBc) ?_
          case hy31_00 =>
            intro w _
            go_simp <;> with_reducible rfl
          try simp only [Act.put, List.setIfInBounds_toArray, List.set_cons_zero, List.set_cons_succ]
          refine wpAnyH_take (i := 32) (oi := { dst := some 102, op := Op.binOp BinOp.eql 4 (Operand.tmp 100) (Operand.tmp 101) 4, type := 4, pos := "laws.go:266", after := #[{ on := 30, ground := Ground.data }, { on := 31, ground := Ground.data }, { on := 29, ground := Ground.guard }], guard := some (29, true) }) (v := ?v32_00) rfl (by as_aux_lemma => kernel_rfl) (by as_aux_lemma => kernel_rfl) (by as_aux_lemma => kernel_rfl) (fun _ _ _ h => h) (Or.inl ⟨by rfl, ?hy32_00⟩) (HS.out _ hBc) ?_
          case hy32_00 =>
            intro w _
            go_simp <;> with_reducible rfl
          try simp only [Act.put, List.setIfInBounds_toArray, List.set_cons_zero, List.set_cons_succ]
          refine wpAnyH_take (i := 33) (oi := { dst := some 103, op := Op.pick (Operand.tmp 99) (Operand.tmp 102) (Operand.const (Value.bool false)), type := 4, pos := "laws.go:266", after := #[{ on := 29, ground := Ground.data }, { on := 32, ground := Ground.data }], guard := none }) (v := ?v33_00) rfl (by as_aux_lemma => kernel_rfl) (by as_aux_lemma => kernel_rfl) (by as_aux_lemma => kernel_rfl) (fun _ _ _ h => h) (Or.inl ⟨by rfl, ?hy33_00⟩) (HS.out _ hBc) ?_
          case hy33_00 =>
            intro w _
            go_simp <;> with_reducible rfl
          try simp only [Act.put, List.setIfInBounds_toArray, List.set_cons_zero, List.set_cons_succ]
          refine wpAnyH_take (i := 34) (oi := { dst := some 104, op := Op.move (Operand.tmp 103), type := 4, pos := "laws.go:266", after := #[{ on := 33, ground := Ground.data }, { on := 29, ground := Ground.chain }], guard := none }) (v := ?v34_00) rfl (by as_aux_lemma => kernel_rfl) (by as_aux_lemma => kernel_rfl) (by as_aux_lemma => kernel_rfl) (fun _ _ _ h => h) (Or.inl ⟨by rfl, ?hy34_00⟩) (HS.out _ hBc) ?_
          case hy34_00 =>
            intro w _
            go_simp <;> with_reducible rfl
          try simp only [Act.put, List.setIfInBounds_toArray, List.set_cons_zero, List.set_cons_succ]
          refine wpAnyH_take (i := 35) (oi := { dst := some 105, op := Op.move (Operand.tmp 12), type := 3, pos := "laws.go:266", after := #[{ on := 34, ground := Ground.guard }], guard := some (34, true) }) (v := ?v35_00) rfl (by as_aux_lemma => kernel_rfl) (by as_aux_lemma => kernel_rfl) (by as_aux_lemma => kernel_rfl) (fun _ _ _ h => h) (Or.inl ⟨by rfl, ?hy35_00⟩) (HS.out _ hBc) ?_
          case hy35_00 =>
            intro w _
            go_simp <;> with_reducible rfl
          try simp only [Act.put, List.setIfInBounds_toArray, List.set_cons_zero, List.set_cons_succ]
          as_aux_lemma =>
           refine wpAnyH_take (i := 36) (oi := { dst := some 106, op := Op.move (Operand.tmp 15), type := 3, pos := "laws.go:266", after := #[{ on := 34, ground := Ground.guard }], guard := some (34, true) }) (v := ?v36_00) rfl (by as_aux_lemma => kernel_rfl) (by as_aux_lemma => kernel_rfl) (by as_aux_lemma => kernel_rfl) (fun _ _ _ h => h) (Or.inl ⟨by rfl, ?hy36_00⟩) (HS.out _ hBc) ?_
           case hy36_00 =>
             intro w _
             go_simp <;> with_reducible rfl
           try simp only [Act.put, List.setIfInBounds_toArray, List.set_cons_zero, List.set_cons_succ]
           refine wpAnyH_take (i := 37) (oi := { dst := some 107, op := Op.binOp BinOp.eql 3 (Operand.tmp 105) (Operand.tmp 106) 3, type := 4, pos := "laws.go:266", after := #[{ on := 35, ground := Ground.data }, { on := 36, ground := Ground.data }, { on := 34, ground := Ground.guard }], guard := some (34, true) }) (v := ?v37_00) rfl (by as_aux_lemma => kernel_rfl) (by as_aux_lemma => kernel_rfl) (by as_aux_lemma => kernel_rfl) (fun _ _ _ h => h) (Or.inl ⟨by rfl, ?hy37_00⟩) (HS.out _ hBc) ?_
           case hy37_00 =>
             intro w _
             go_simp <;> with_reducible rfl
           try simp only [Act.put, List.setIfInBounds_toArray, List.set_cons_zero, List.set_cons_succ]
           refine wpAnyH_take (i := 38) (oi := { dst := some 108, op := Op.pick (Operand.tmp 104) (Operand.tmp 107) (Operand.const (Value.bool false)), type := 4, pos := "laws.go:266", after := #[{ on := 34, ground := Ground.data }, { on := 37, ground := Ground.data }], guard := none }) (v := ?v38_00) rfl (by as_aux_lemma => kernel_rfl) (by as_aux_lemma => kernel_rfl) (by as_aux_lemma => kernel_rfl) (fun _ _ _ h => h) (Or.inl ⟨by rfl, ?hy38_00⟩) (HS.out _ hBc) ?_
           case hy38_00 =>
             intro w _
             go_simp <;> with_reducible rfl
           try simp only [Act.put, List.setIfInBounds_toArray, List.set_cons_zero, List.set_cons_succ]
           refine wpAnyH_take (i := 39) (oi := { dst := some 109, op := Op.move (Operand.tmp 108), type := 4, pos := "laws.go:266", after := #[{ on := 38, ground := Ground.data }, { on := 34, ground := Ground.chain }], guard := none }) (v := ?v39_00) rfl (by as_aux_lemma => kernel_rfl) (by as_aux_lemma => kernel_rfl) (by as_aux_lemma => kernel_rfl) (fun _ _ _ h => h) (Or.inl ⟨by rfl, ?hy39_00⟩) (HS.out _ hBc) ?_
           case hy39_00 =>
             intro w _
             go_simp <;> with_reducible rfl
           try simp only [Act.put, List.setIfInBounds_toArray, List.set_cons_zero, List.set_cons_succ]
           refine wpAnyH_take (i := 40) (oi := { dst := some 110, op := Op.load 75 (Operand.tmp 11), type := 75, pos := "laws.go:266", after := #[{ on := 39, ground := Ground.guard }], guard := some (39, true) }) (v := ?v40_00) rfl (by as_aux_lemma => kernel_rfl) (by as_aux_lemma => kernel_rfl) (by as_aux_lemma => kernel_rfl) (fun _ _ _ h => h) (Or.inl ⟨by rfl, ?hy40_00⟩) (HS.out _ hBc) ?_
           case hy40_00 =>
             intro w hSw
             replace hSw := hSw.2.2.1
             go_simp <;> with_reducible rfl
           try simp only [Act.put, List.setIfInBounds_toArray, List.set_cons_zero, List.set_cons_succ]
           refine wpAnyH_take (i := 41) (oi := { dst := some 111, op := Op.load 75 (Operand.tmp 14), type := 75, pos := "laws.go:266", after := #[{ on := 39, ground := Ground.guard }], guard := some (39, true) }) (v := ?v41_00) rfl (by as_aux_lemma => kernel_rfl) (by as_aux_lemma => kernel_rfl) (by as_aux_lemma => kernel_rfl) (fun _ _ _ h => h) (Or.inl ⟨by rfl, ?hy41_00⟩) (HS.out _ hBc) ?_
           case hy41_00 =>
             intro w hSw
             replace hSw := hSw.2.2.2.1
             go_simp <;> with_reducible rfl
           try simp only [Act.put, List.setIfInBounds_toArray, List.set_cons_zero, List.set_cons_succ]
           refine wpAnyH_ready (rs := [42]) (by as_aux_lemma => kernel_rfl) (by simp) ?_
           refine AllReadyH.cons (o := { dst := some 112, op := Op.call { callee := Callee.value (Operand.func 56), args := #[Operand.tmp 110, Operand.tmp 111], argTypes := #[75, 75] }, type := 4, pos := "laws.go:266", after := #[{ on := 40, ground := Ground.data }, { on := 41, ground := Ground.data }, { on := 39, ground := Ground.chain }, { on := 39, ground := Ground.guard }], guard := some (39, true) }) rfl (fun K hK => ?_) AllReadyH.nil
           go_simp
           refine (K4.out _ hBc).mono ?_
           rintro e wn ⟨rfl, hbn⟩
           replace hBc := hBc.trans (hbn.mono hBc.size)
           clear hbn
           try go_wp2_with fail
           refine hK.out _ _ (HS.out _ hBc) (fun _ => ?_)
           clear hK K
           try simp only [List.setIfInBounds_toArray, List.set_cons_zero, List.set_cons_succ]
           refine wpAnyH_take (i := 43) (oi := { dst := some 113, op := Op.pick (Operand.tmp 109) (Operand.tmp 112) (Operand.const (Value.bool false)), type := 4, pos := "laws.go:266", after := #[{ on := 39, ground := Ground.data }, { on := 42, ground := Ground.data }], guard := none }) (v := ?v43_00) rfl (by as_aux_lemma => kernel_rfl) (by as_aux_lemma => kernel_rfl) (by as_aux_lemma => kernel_rfl) (fun _ _ _ h => h) (Or.inl ⟨by rfl, ?hy43_00⟩) (HS.out _ hBc) ?_
           case hy43_00 =>
             intro w _
             go_simp <;> with_reducible rfl
           try simp only [Act.put, List.setIfInBounds_toArray, List.set_cons_zero, List.set_cons_succ]
           refine wpAnyH_take (i := 44) (oi := { dst := some 114, op := Op.move (Operand.tmp 113), type := 4, pos := "laws.go:266", after := #[{ on := 43, ground := Ground.data }, { on := 42, ground := Ground.chain }], guard := none }) (v := ?v44_00) rfl (by as_aux_lemma => kernel_rfl) (by as_aux_lemma => kernel_rfl) (by as_aux_lemma => kernel_rfl) (fun _ _ _ h => h) (Or.inl ⟨by rfl, ?hy44_00⟩) (HS.out _ hBc) ?_
           case hy44_00 =>
             intro w _
             go_simp <;> with_reducible rfl
           try simp only [Act.put, List.setIfInBounds_toArray, List.set_cons_zero, List.set_cons_succ]
           refine wpAnyH_take (i := 45) (oi := { dst := some 115, op := Op.load 75 (Operand.tmp 17), type := 75, pos := "laws.go:266", after := #[{ on := 44, ground := Ground.guard }], guard := some (44, true) }) (v := ?v45_00) rfl (by as_aux_lemma => kernel_rfl) (by as_aux_lemma => kernel_rfl) (by as_aux_lemma => kernel_rfl) (fun _ _ _ h => h) (Or.inl ⟨by rfl, ?hy45_00⟩) (HS.out _ hBc) ?_
           case hy45_00 =>
             intro w hSw
             replace hSw := hSw.2.2.2.2.1
             go_simp <;> with_reducible rfl
           try simp only [Act.put, List.setIfInBounds_toArray, List.set_cons_zero, List.set_cons_succ]
           refine wpAnyH_take (i := 46) (oi := { dst := some 116, op := Op.load 75 (Operand.tmp 18), type := 75, pos := "laws.go:266", after := #[{ on := 44, ground := Ground.guard }], guard := some (44, true) }) (v := ?v46_00) rfl (by as_aux_lemma => kernel_rfl) (by as_aux_lemma => kernel_rfl) (by as_aux_lemma => kernel_rfl) (fun _ _ _ h => h) (Or.inl ⟨by rfl, ?hy46_00⟩) (HS.out _ hBc) ?_
           case hy46_00 =>
             intro w hSw
             replace hSw := hSw.2.2.2.2.2.1
             go_simp <;> with_reducible rfl
           try simp only [Act.put, List.setIfInBounds_toArray, List.set_cons_zero, List.set_cons_succ]
           refine wpAnyH_take (i := 48) (oi := { dst := some 118, op := Op.load 75 (Operand.tmp 17), type := 75, pos := "laws.go:266", after := #[{ on := 44, ground := Ground.guard }], guard := some (44, true) }) (v := ?v48_00) rfl (by as_aux_lemma => kernel_rfl) (by as_aux_lemma => kernel_rfl) (by as_aux_lemma => kernel_rfl) (fun _ _ _ h => h) (Or.inl ⟨by rfl, ?hy48_00⟩) (HS.out _ hBc) ?_
           case hy48_00 =>
             intro w hSw
             replace hSw := hSw.2.2.2.2.1
             go_simp <;> with_reducible rfl
           try simp only [Act.put, List.setIfInBounds_toArray, List.set_cons_zero, List.set_cons_succ]
           as_aux_lemma =>
            refine wpAnyH_take (i := 49) (oi := { dst := some 119, op := Op.load 75 (Operand.tmp 18), type := 75, pos := "laws.go:266", after := #[{ on := 44, ground := Ground.guard }], guard := some (44, true) }) (v := ?v49_00) rfl (by as_aux_lemma => kernel_rfl) (by as_aux_lemma => kernel_rfl) (by as_aux_lemma => kernel_rfl) (fun _ _ _ h => h) (Or.inl ⟨by rfl, ?hy49_00⟩) (HS.out _ hBc) ?_
            case hy49_00 =>
              intro w hSw
              replace hSw := hSw.2.2.2.2.2.1
              go_simp <;> with_reducible rfl
            try simp only [Act.put, List.setIfInBounds_toArray, List.set_cons_zero, List.set_cons_succ]
            refine wpAnyH_ready (rs := [47]) (by as_aux_lemma => kernel_rfl) (by simp) ?_
            refine AllReadyH.cons (o := { dst := some 117, op := Op.call { callee := Callee.value (Operand.func 57), args := #[Operand.tmp 115, Operand.tmp 116], argTypes := #[75, 75] }, type := 4, pos := "laws.go:266", after := #[{ on := 45, ground := Ground.data }, { on := 46, ground := Ground.data }, { on := 44, ground := Ground.chain }, { on := 44, ground := Ground.guard }], guard := some (44, true) }) rfl (fun K hK => ?_) AllReadyH.nil
            go_simp
            refine (K5.out _ hBc).mono ?_
            rintro e wn ⟨rfl, hbn⟩
            replace hBc := hBc.trans (hbn.mono hBc.size)
            clear hbn
            try go_wp2_with fail
            refine hK.out _ _ (HS.out _ hBc) (fun _ => ?_)
            clear hK K
            try simp only [List.setIfInBounds_toArray, List.set_cons_zero, List.set_cons_succ]
            refine wpAnyH_ready (rs := [50]) (by as_aux_lemma => kernel_rfl) (by simp) ?_
            refine AllReadyH.cons (o := { dst := some 120, op := Op.call { callee := Callee.value (Operand.func 56), args := #[Operand.tmp 118, Operand.tmp 119], argTypes := #[75, 75] }, type := 4, pos := "laws.go:266", after := #[{ on := 48, ground := Ground.data }, { on := 49, ground := Ground.data }, { on := 47, ground := Ground.chain }, { on := 44, ground := Ground.guard }], guard := some (44, true) }) rfl (fun K hK => ?_) AllReadyH.nil
            go_simp
            refine (K6.out _ hBc).mono ?_
            rintro e wn ⟨rfl, hbn⟩
            replace hBc := hBc.trans (hbn.mono hBc.size)
            clear hbn
            try go_wp2_with fail
            refine hK.out _ _ (HS.out _ hBc) (fun _ => ?_)
            clear hK K
            try simp only [List.setIfInBounds_toArray, List.set_cons_zero, List.set_cons_succ]
            refine wpAnyH_take (i := 51) (oi := { dst := some 121, op := Op.binOp BinOp.eql 4 (Operand.tmp 117) (Operand.tmp 120) 4, type := 4, pos := "laws.go:266", after := #[{ on := 47, ground := Ground.data }, { on := 50, ground := Ground.data }, { on := 44, ground := Ground.guard }], guard := some (44, true) }) (v := ?v51_00) rfl (by as_aux_lemma => kernel_rfl) (by as_aux_lemma => kernel_rfl) (by as_aux_lemma => kernel_rfl) (fun _ _ _ h => h) (Or.inl ⟨by rfl, ?hy51_00⟩) (HS.out _ hBc) ?_
            case hy51_00 =>
              intro w _
              go_simp <;> with_reducible rfl
            try simp only [Act.put, List.setIfInBounds_toArray, List.set_cons_zero, List.set_cons_succ]
            refine wpAnyH_take (i := 52) (oi := { dst := some 122, op := Op.pick (Operand.tmp 114) (Operand.tmp 121) (Operand.const (Value.bool false)), type := 4, pos := "laws.go:266", after := #[{ on := 44, ground := Ground.data }, { on := 51, ground := Ground.data }], guard := none }) (v := ?v52_00) rfl (by as_aux_lemma => kernel_rfl) (by as_aux_lemma => kernel_rfl) (by as_aux_lemma => kernel_rfl) (fun _ _ _ h => h) (Or.inl ⟨by rfl, ?hy52_00⟩) (HS.out _ hBc) ?_
            case hy52_00 =>
              intro w _
              go_simp <;> with_reducible rfl
            try simp only [Act.put, List.setIfInBounds_toArray, List.set_cons_zero, List.set_cons_succ]
            refine wpAnyH_take (i := 53) (oi := { dst := some 123, op := Op.move (Operand.tmp 122), type := 4, pos := "laws.go:266", after := #[{ on := 52, ground := Ground.data }, { on := 50, ground := Ground.chain }], guard := none }) (v := ?v53_00) rfl (by as_aux_lemma => kernel_rfl) (by as_aux_lemma => kernel_rfl) (by as_aux_lemma => kernel_rfl) (fun _ _ _ h => h) (Or.inl ⟨by rfl, ?hy53_00⟩) (HS.out _ hBc) ?_
            case hy53_00 =>
              intro w _
              go_simp <;> with_reducible rfl
            try simp only [Act.put, List.setIfInBounds_toArray, List.set_cons_zero, List.set_cons_succ]
            refine wpAnyH_take (i := 54) (oi := { dst := some 124, op := Op.load 75 (Operand.tmp 19), type := 75, pos := "laws.go:266", after := #[{ on := 53, ground := Ground.guard }], guard := some (53, true) }) (v := ?v54_00) rfl (by as_aux_lemma => kernel_rfl) (by as_aux_lemma => kernel_rfl) (by as_aux_lemma => kernel_rfl) (fun _ _ _ h => h) (Or.inl ⟨by rfl, ?hy54_00⟩) (HS.out _ hBc) ?_
            case hy54_00 =>
              intro w hSw
              replace hSw := hSw.2.2.2.2.2.2.1
              go_simp <;> with_reducible rfl
            try simp only [Act.put, List.setIfInBounds_toArray, List.set_cons_zero, List.set_cons_succ]
            refine wpAnyH_take (i := 55) (oi := { dst := some 125, op := Op.load 75 (Operand.tmp 20), type := 75, pos := "laws.go:266", after := #[{ on := 53, ground := Ground.guard }], guard := some (53, true) }) (v := ?v55_00) rfl (by as_aux_lemma => kernel_rfl) (by as_aux_lemma => kernel_rfl) (by as_aux_lemma => kernel_rfl) (fun _ _ _ h => h) (Or.inl ⟨by rfl, ?hy55_00⟩) (HS.out _ hBc) ?_
            case hy55_00 =>
              intro w hSw
              replace hSw := hSw.2.2.2.2.2.2.2
              go_simp <;> with_reducible rfl
            try simp only [Act.put, List.setIfInBounds_toArray, List.set_cons_zero, List.set_cons_succ]
            refine wpAnyH_take (i := 57) (oi := { dst := some 127, op := Op.load 75 (Operand.tmp 19), type := 75, pos := "laws.go:266", after := #[{ on := 53, ground := Ground.guard }], guard := some (53, true) }) (v := ?v57_00) rfl (by as_aux_lemma => kernel_rfl) (by as_aux_lemma => kernel_rfl) (by as_aux_lemma => kernel_rfl) (fun _ _ _ h => h) (Or.inl ⟨by rfl, ?hy57_00⟩) (HS.out _ hBc) ?_
            case hy57_00 =>
              intro w hSw
              replace hSw := hSw.2.2.2.2.2.2.1
              go_simp <;> with_reducible rfl
            try simp only [Act.put, List.setIfInBounds_toArray, List.set_cons_zero, List.set_cons_succ]
            refine wpAnyH_take (i := 58) (oi := { dst := some 128, op := Op.load 75 (Operand.tmp 20), type := 75, pos := "laws.go:266", after := #[{ on := 53, ground := Ground.guard }], guard := some (53, true) }) (v := ?v58_00) rfl (by as_aux_lemma => kernel_rfl) (by as_aux_lemma => kernel_rfl) (by as_aux_lemma => kernel_rfl) (fun _ _ _ h => h) (Or.inl ⟨by rfl, ?hy58_00⟩) (HS.out _ hBc) ?_
            case hy58_00 =>
              intro w hSw
              replace hSw := hSw.2.2.2.2.2.2.2
              go_simp <;> with_reducible rfl
            try simp only [Act.put, List.setIfInBounds_toArray, List.set_cons_zero, List.set_cons_succ]
            refine wpAnyH_ready (rs := [56]) (by as_aux_lemma => kernel_rfl) (by simp) ?_
            refine AllReadyH.cons (o := { dst := some 126, op := Op.call { callee := Callee.value (Operand.func 58), args := #[Operand.tmp 124, Operand.tmp 125], argTypes := #[75, 75] }, type := 4, pos := "laws.go:266", after := #[{ on := 54, ground := Ground.data }, { on := 55, ground := Ground.data }, { on := 53, ground := Ground.chain }, { on := 53, ground := Ground.guard }], guard := some (53, true) }) rfl (fun K hK => ?_) AllReadyH.nil
            go_simp
            refine (K7.out _ hBc).mono ?_
            rintro e wn ⟨rfl, hbn⟩
            replace hBc := hBc.trans (hbn.mono hBc.size)
            clear hbn
            try go_wp2_with fail
            refine hK.out _ _ (HS.out _ hBc) (fun _ => ?_)
            clear hK K
            try simp only [List.setIfInBounds_toArray, List.set_cons_zero, List.set_cons_succ]
            refine wpAnyH_ready (rs := [59]) (by as_aux_lemma => kernel_rfl) (by simp) ?_
            refine AllReadyH.cons (o := { dst := some 129, op := Op.call { callee := Callee.value (Operand.func 59), args := #[Operand.tmp 127, Operand.tmp 128], argTypes := #[75, 75] }, type := 4, pos := "laws.go:266", after := #[{ on := 57, ground := Ground.data }, { on := 58, ground := Ground.data }, { on := 56, ground := Ground.chain }, { on := 53, ground := Ground.guard }], guard := some (53, true) }) rfl (fun K hK => ?_) AllReadyH.nil
            go_simp
            refine (K8.out _ hBc).mono ?_
            rintro e wn ⟨rfl, hbn⟩
            replace hBc := hBc.trans (hbn.mono hBc.size)
            clear hbn
            try go_wp2_with fail
            refine hK.out _ _ (HS.out _ hBc) (fun _ => ?_)
            clear hK K
            try simp only [List.setIfInBounds_toArray, List.set_cons_zero, List.set_cons_succ]
            as_aux_lemma =>
             refine wpAnyH_take (i := 60) (oi := { dst := some 130, op := Op.binOp BinOp.eql 4 (Operand.tmp 126) (Operand.tmp 129) 4, type := 4, pos := "laws.go:266", after := #[{ on := 56, ground := Ground.data }, { on := 59, ground := Ground.data }, { on := 53, ground := Ground.guard }], guard := some (53, true) }) (v := ?v60_00) rfl (by as_aux_lemma => kernel_rfl) (by as_aux_lemma => kernel_rfl) (by as_aux_lemma => kernel_rfl) (fun _ _ _ h => h) (Or.inl ⟨by rfl, ?hy60_00⟩) (HS.out _ hBc) ?_
             case hy60_00 =>
               intro w _
               go_simp <;> with_reducible rfl
             try simp only [Act.put, List.setIfInBounds_toArray, List.set_cons_zero, List.set_cons_succ]
             refine wpAnyH_take (i := 61) (oi := { dst := some 131, op := Op.pick (Operand.tmp 123) (Operand.tmp 130) (Operand.const (Value.bool false)), type := 4, pos := "laws.go:266", after := #[{ on := 53, ground := Ground.data }, { on := 60, ground := Ground.data }], guard := none }) (v := ?v61_00) rfl (by as_aux_lemma => kernel_rfl) (by as_aux_lemma => kernel_rfl) (by as_aux_lemma => kernel_rfl) (fun _ _ _ h => h) (Or.inl ⟨by rfl, ?hy61_00⟩) (HS.out _ hBc) ?_
             case hy61_00 =>
               intro w _
               go_simp <;> with_reducible rfl
             try simp only [Act.put, List.setIfInBounds_toArray, List.set_cons_zero, List.set_cons_succ]
             refine wpAnyH_take (i := 62) (oi := { dst := some 132, op := Op.move (Operand.tmp 131), type := 4, pos := "laws.go:266", after := #[{ on := 61, ground := Ground.data }, { on := 59, ground := Ground.chain }], guard := none }) (v := ?v62_00) rfl (by as_aux_lemma => kernel_rfl) (by as_aux_lemma => kernel_rfl) (by as_aux_lemma => kernel_rfl) (fun _ _ _ h => h) (Or.inl ⟨by rfl, ?hy62_00⟩) (HS.out _ hBc) ?_
             case hy62_00 =>
               intro w _
               go_simp <;> with_reducible rfl
             try simp only [Act.put, List.setIfInBounds_toArray, List.set_cons_zero, List.set_cons_succ]
             refine wpAnyH_take (i := 63) (oi := { dst := some 133, op := Op.load 75 (Operand.tmp 19), type := 75, pos := "laws.go:266", after := #[{ on := 62, ground := Ground.guard }], guard := some (62, true) }) (v := ?v63_00) rfl (by as_aux_lemma => kernel_rfl) (by as_aux_lemma => kernel_rfl) (by as_aux_lemma => kernel_rfl) (fun _ _ _ h => h) (Or.inl ⟨by rfl, ?hy63_00⟩) (HS.out _ hBc) ?_
             case hy63_00 =>
               intro w hSw
               replace hSw := hSw.2.2.2.2.2.2.1
               go_simp <;> with_reducible rfl
             try simp only [Act.put, List.setIfInBounds_toArray, List.set_cons_zero, List.set_cons_succ]
             refine wpAnyH_take (i := 64) (oi := { dst := some 134, op := Op.load 75 (Operand.tmp 20), type := 75, pos := "laws.go:266", after := #[{ on := 62, ground := Ground.guard }], guard := some (62, true) }) (v := ?v64_00) rfl (by as_aux_lemma => kernel_rfl) (by as_aux_lemma => kernel_rfl) (by as_aux_lemma => kernel_rfl) (fun _ _ _ h => h) (Or.inl ⟨by rfl, ?hy64_00⟩) (HS.out _ hBc) ?_
             case hy64_00 =>
               intro w hSw
               replace hSw := hSw.2.2.2.2.2.2.2
               go_simp <;> with_reducible rfl
             try simp only [Act.put, List.setIfInBounds_toArray, List.set_cons_zero, List.set_cons_succ]
             refine wpAnyH_ready (rs := [65]) (by as_aux_lemma => kernel_rfl) (by simp) ?_
             refine AllReadyH.cons (o := { dst := some 135, op := Op.call { callee := Callee.value (Operand.func 58), args := #[Operand.tmp 133, Operand.tmp 134], argTypes := #[75, 75] }, type := 4, pos := "laws.go:266", after := #[{ on := 63, ground := Ground.data }, { on := 64, ground := Ground.data }, { on := 62, ground := Ground.chain }, { on := 62, ground := Ground.guard }], guard := some (62, true) }) rfl (fun K hK => ?_) AllReadyH.nil
             go_simp
             refine (K7.out _ hBc).mono ?_
             rintro e wn ⟨rfl, hbn⟩
             replace hBc := hBc.trans (hbn.mono hBc.size)
             clear hbn
             try go_wp2_with fail
             refine hK.out _ _ (HS.out _ hBc) (fun _ => ?_)
             clear hK K
             try simp only [List.setIfInBounds_toArray, List.set_cons_zero, List.set_cons_succ]
             refine wpAnyH_take (i := 66) (oi := { dst := some 136, op := Op.move (Operand.tmp 135), type := 4, pos := "laws.go:266", after := #[{ on := 65, ground := Ground.data }, { on := 65, ground := Ground.chain }, { on := 62, ground := Ground.guard }], guard := some (62, true) }) (v := ?v66_00) rfl (by as_aux_lemma => kernel_rfl) (by as_aux_lemma => kernel_rfl) (by as_aux_lemma => kernel_rfl) (fun _ _ _ h => h) (Or.inl ⟨by rfl, ?hy66_00⟩) (HS.out _ hBc) ?_
             case hy66_00 =>
               intro w _
               go_simp <;> with_reducible rfl
             try simp only [Act.put, List.setIfInBounds_toArray, List.set_cons_zero, List.set_cons_succ]
             refine wpAnyH_take (i := 67) (oi := { dst := some 137, op := Op.load 75 (Operand.tmp 20), type := 75, pos := "laws.go:266", after := #[{ on := 66, ground := Ground.guard }], guard := some (66, true) }) (v := undef) rfl (by as_aux_lemma => kernel_rfl) (by as_aux_lemma => kernel_rfl) (by as_aux_lemma => kernel_rfl) (fun _ _ _ h => h) (Or.inr ⟨by rfl, rfl⟩) (HS.out _ hBc) ?_
             try simp only [Act.put, List.setIfInBounds_toArray, List.set_cons_zero, List.set_cons_succ]
             refine wpAnyH_take (i := 68) (oi := { dst := some 138, op := Op.load 75 (Operand.tmp 19), type := 75, pos := "laws.go:266", after := #[{ on := 66, ground := Ground.guard }], guard := some (66, true) }) (v := undef) rfl (by as_aux_lemma => kernel_rfl) (by as_aux_lemma => kernel_rfl) (by as_aux_lemma => kernel_rfl) (fun _ _ _ h => h) (Or.inr ⟨by rfl, rfl⟩) (HS.out _ hBc) ?_
             try simp only [Act.put, List.setIfInBounds_toArray, List.set_cons_zero, List.set_cons_succ]
             refine wpAnyH_ready (rs := [69]) (by as_aux_lemma => kernel_rfl) (by simp) ?_
             refine AllReadyH.cons (o := { dst := some 139, op := Op.call { callee := Callee.value (Operand.func 58), args := #[Operand.tmp 137, Operand.tmp 138], argTypes := #[75, 75] }, type := 4, pos := "laws.go:266", after := #[{ on := 67, ground := Ground.data }, { on := 68, ground := Ground.data }, { on := 66, ground := Ground.chain }, { on := 66, ground := Ground.guard }], guard := some (66, true) }) rfl (fun K hK => ?_) AllReadyH.nil
             refine Eq.mpr (if_neg (fun h => Bool.noConfusion (show false = true from h))) ?_
             refine hK.out _ _ (HS.out _ hBc) (fun _ => ?_)
             clear hK K
             try simp only [Act.put, List.setIfInBounds_toArray, List.set_cons_zero, List.set_cons_succ]
             refine wpAnyH_take (i := 70) (oi := { dst := some 140, op := Op.pick (Operand.tmp 136) (Operand.tmp 139) (Operand.const (Value.bool false)), type := 4, pos := "laws.go:266", after := #[{ on := 66, ground := Ground.data }, { on := 69, ground := Ground.data }, { on := 62, ground := Ground.guard }], guard := some (62, true) }) (v := ?v70_00) rfl (by as_aux_lemma => kernel_rfl) (by as_aux_lemma => kernel_rfl) (by as_aux_lemma => kernel_rfl) (fun _ _ _ h => h) (Or.inl ⟨by rfl, ?hy70_00⟩) (HS.out _ hBc) ?_
             case hy70_00 =>
               intro w _
               go_simp <;> with_reducible rfl
             try simp only [Act.put, List.setIfInBounds_toArray, List.set_cons_zero, List.set_cons_succ]
             refine wpAnyH_take (i := 71) (oi := { dst := some 141, op := Op.unOp UnOp.not 4 (Operand.tmp 140), type := 4, pos := "laws.go:266", after := #[{ on := 70, ground := Ground.data }, { on := 62, ground := Ground.guard }], guard := some (62, true) }) (v := ?v71_00) rfl (by as_aux_lemma => kernel_rfl) (by as_aux_lemma => kernel_rfl) (by as_aux_lemma => kernel_rfl) (fun _ _ _ h => h) (Or.inl ⟨by rfl, ?hy71_00⟩) (HS.out _ hBc) ?_
             case hy71_00 =>
               intro w _
               go_simp <;> with_reducible rfl
             try simp only [Act.put, List.setIfInBounds_toArray, List.set_cons_zero, List.set_cons_succ]
             as_aux_lemma =>
              refine wpAnyH_take (i := 72) (oi := { dst := some 142, op := Op.pick (Operand.tmp 132) (Operand.tmp 141) (Operand.const (Value.bool false)), type := 4, pos := "laws.go:266", after := #[{ on := 62, ground := Ground.data }, { on := 71, ground := Ground.data }], guard := none }) (v := ?v72_00) rfl (by as_aux_lemma => kernel_rfl) (by as_aux_lemma => kernel_rfl) (by as_aux_lemma => kernel_rfl) (fun _ _ _ h => h) (Or.inl ⟨by rfl, ?hy72_00⟩) (HS.out _ hBc) ?_
              case hy72_00 =>
                intro w _
                go_simp <;> with_reducible rfl
              try simp only [Act.put, List.setIfInBounds_toArray, List.set_cons_zero, List.set_cons_succ]
              refine wpAnyH_take (i := 73) (oi := { dst := some 143, op := Op.move (Operand.tmp 142), type := 4, pos := "laws.go:266", after := #[{ on := 72, ground := Ground.data }, { on := 69, ground := Ground.chain }], guard := none }) (v := ?v73_00) rfl (by as_aux_lemma => kernel_rfl) (by as_aux_lemma => kernel_rfl) (by as_aux_lemma => kernel_rfl) (fun _ _ _ h => h) (Or.inl ⟨by rfl, ?hy73_00⟩) (HS.out _ hBc) ?_
              case hy73_00 =>
                intro w _
                go_simp <;> with_reducible rfl
              try simp only [Act.put, List.setIfInBounds_toArray, List.set_cons_zero, List.set_cons_succ]
              refine wpAnyH_take (i := 74) (oi := { dst := some 144, op := Op.move (Operand.tmp 21), type := 9, pos := "laws.go:266", after := #[{ on := 73, ground := Ground.guard }], guard := some (73, true) }) (v := ?v74_00) rfl (by as_aux_lemma => kernel_rfl) (by as_aux_lemma => kernel_rfl) (by as_aux_lemma => kernel_rfl) (fun _ _ _ h => h) (Or.inl ⟨by rfl, ?hy74_00⟩) (HS.out _ hBc) ?_
              case hy74_00 =>
                intro w _
                go_simp <;> with_reducible rfl
              try simp only [Act.put, List.setIfInBounds_toArray, List.set_cons_zero, List.set_cons_succ]
              refine wpAnyH_take (i := 76) (oi := { dst := some 146, op := Op.move (Operand.tmp 21), type := 9, pos := "laws.go:266", after := #[{ on := 73, ground := Ground.guard }], guard := some (73, true) }) (v := ?v76_00) rfl (by as_aux_lemma => kernel_rfl) (by as_aux_lemma => kernel_rfl) (by as_aux_lemma => kernel_rfl) (fun _ _ _ h => h) (Or.inl ⟨by rfl, ?hy76_00⟩) (HS.out _ hBc) ?_
              case hy76_00 =>
                intro w _
                go_simp <;> with_reducible rfl
              try simp only [Act.put, List.setIfInBounds_toArray, List.set_cons_zero, List.set_cons_succ]
              refine wpAnyH_ready (rs := [75]) (by as_aux_lemma => kernel_rfl) (by simp) ?_
              refine AllReadyH.cons (o := { dst := some 145, op := Op.call { callee := Callee.value (Operand.func 60), args := #[Operand.tmp 144], argTypes := #[9] }, type := 4, pos := "laws.go:266", after := #[{ on := 74, ground := Ground.data }, { on := 73, ground := Ground.chain }, { on := 73, ground := Ground.guard }], guard := some (73, true) }) rfl (fun K hK => ?_) AllReadyH.nil
              go_simp
              refine (K10.out _ hBc).mono ?_
              rintro e wn ⟨rfl, hbn⟩
              replace hBc := hBc.trans (hbn.mono hBc.size)
              clear hbn
              try go_wp2_with fail
              refine hK.out _ _ (HS.out _ hBc) (fun _ => ?_)
              clear hK K
              try simp only [List.setIfInBounds_toArray, List.set_cons_zero, List.set_cons_succ]
              refine wpAnyH_ready (rs := [77]) (by as_aux_lemma => kernel_rfl) (by simp) ?_
              refine AllReadyH.cons (o := { dst := some 147, op := Op.call { callee := Callee.value (Operand.func 61), args := #[Operand.tmp 146], argTypes := #[9] }, type := 4, pos := "laws.go:266", after := #[{ on := 76, ground := Ground.data }, { on := 75, ground := Ground.chain }, { on := 73, ground := Ground.guard }], guard := some (73, true) }) rfl (fun K hK => ?_) AllReadyH.nil
              go_simp
              refine (K11.out _ hBc).mono ?_
              rintro e wn ⟨rfl, hbn⟩
              replace hBc := hBc.trans (hbn.mono hBc.size)
              clear hbn
              try go_wp2_with fail
              refine hK.out _ _ (HS.out _ hBc) (fun _ => ?_)
              clear hK K
              try simp only [List.setIfInBounds_toArray, List.set_cons_zero, List.set_cons_succ]
              refine wpAnyH_take (i := 78) (oi := { dst := some 148, op := Op.binOp BinOp.eql 4 (Operand.tmp 145) (Operand.tmp 147) 4, type := 4, pos := "laws.go:266", after := #[{ on := 75, ground := Ground.data }, { on := 77, ground := Ground.data }, { on := 73, ground := Ground.guard }], guard := some (73, true) }) (v := ?v78_00) rfl (by as_aux_lemma => kernel_rfl) (by as_aux_lemma => kernel_rfl) (by as_aux_lemma => kernel_rfl) (fun _ _ _ h => h) (Or.inl ⟨by rfl, ?hy78_00⟩) (HS.out _ hBc) ?_
              case hy78_00 =>
                intro w _
                go_simp <;> with_reducible rfl
              try simp only [Act.put, List.setIfInBounds_toArray, List.set_cons_zero, List.set_cons_succ]
              refine wpAnyH_take (i := 79) (oi := { dst := some 149, op := Op.pick (Operand.tmp 143) (Operand.tmp 148) (Operand.const (Value.bool false)), type := 4, pos := "laws.go:266", after := #[{ on := 73, ground := Ground.data }, { on := 78, ground := Ground.data }], guard := none }) (v := ?v79_00) rfl (by as_aux_lemma => kernel_rfl) (by as_aux_lemma => kernel_rfl) (by as_aux_lemma => kernel_rfl) (fun _ _ _ h => h) (Or.inl ⟨by rfl, ?hy79_00⟩) (HS.out _ hBc) ?_
              case hy79_00 =>
                intro w _
                go_simp <;> with_reducible rfl
              try simp only [Act.put, List.setIfInBounds_toArray, List.set_cons_zero, List.set_cons_succ]
              refine wpAnyH_take (i := 80) (oi := { dst := some 2, op := Op.assign (Operand.tmp 149), type := 4, pos := "laws.go:266", after := #[{ on := 79, ground := Ground.data }, { on := 77, ground := Ground.chain }, { on := 0, ground := Ground.phase }, { on := 1, ground := Ground.phase }, { on := 2, ground := Ground.phase }, { on := 3, ground := Ground.phase }, { on := 4, ground := Ground.phase }, { on := 5, ground := Ground.phase }, { on := 6, ground := Ground.phase }, { on := 7, ground := Ground.phase }, { on := 8, ground := Ground.phase }, { on := 9, ground := Ground.phase }, { on := 10, ground := Ground.phase }, { on := 11, ground := Ground.phase }, { on := 12, ground := Ground.phase }, { on := 13, ground := Ground.phase }, { on := 14, ground := Ground.phase }, { on := 15, ground := Ground.phase }, { on := 16, ground := Ground.phase }, { on := 17, ground := Ground.phase }, { on := 18, ground := Ground.phase }, { on := 19, ground := Ground.phase }, { on := 20, ground := Ground.phase }, { on := 21, ground := Ground.phase }, { on := 22, ground := Ground.phase }, { on := 23, ground := Ground.phase }, { on := 24, ground := Ground.phase }, { on := 25, ground := Ground.phase }, { on := 26, ground := Ground.phase }, { on := 27, ground := Ground.phase }, { on := 28, ground := Ground.phase }, { on := 29, ground := Ground.phase }, { on := 30, ground := Ground.phase }, { on := 31, ground := Ground.phase }, { on := 32, ground := Ground.phase }, { on := 33, ground := Ground.phase }, { on := 34, ground := Ground.phase }, { on := 35, ground := Ground.phase }, { on := 36, ground := Ground.phase }, { on := 37, ground := Ground.phase }, { on := 38, ground := Ground.phase }, { on := 39, ground := Ground.phase }, { on := 40, ground := Ground.phase }, { on := 41, ground := Ground.phase }, { on := 42, ground := Ground.phase }, { on := 43, ground := Ground.phase }, { on := 44, ground := Ground.phase }, { on := 45, ground := Ground.phase }, { on := 46, ground := Ground.phase }, { on := 47, ground := Ground.phase }, { on := 48, ground := Ground.phase }, { on := 49, ground := Ground.phase }, { on := 50, ground := Ground.phase }, { on := 51, ground := Ground.phase }, { on := 52, ground := Ground.phase }, { on := 53, ground := Ground.phase }, { on := 54, ground := Ground.phase }, { on := 55, ground := Ground.phase }, { on := 56, ground := Ground.phase }, { on := 57, ground := Ground.phase }, { on := 58, ground := Ground.phase }, { on := 59, ground := Ground.phase }, { on := 60, ground := Ground.phase }, { on := 61, ground := Ground.phase }, { on := 62, ground := Ground.phase }, { on := 63, ground := Ground.phase }, { on := 64, ground := Ground.phase }, { on := 65, ground := Ground.phase }, { on := 66, ground := Ground.phase }, { on := 67, ground := Ground.phase }, { on := 68, ground := Ground.phase }, { on := 69, ground := Ground.phase }, { on := 70, ground := Ground.phase }, { on := 71, ground := Ground.phase }, { on := 72, ground := Ground.phase }, { on := 73, ground := Ground.phase }, { on := 74, ground := Ground.phase }, { on := 75, ground := Ground.phase }, { on := 76, ground := Ground.phase }, { on := 77, ground := Ground.phase }, { on := 78, ground := Ground.phase }, { on := 79, ground := Ground.phase }], guard := none }) (v := ?v80_00) rfl (by as_aux_lemma => kernel_rfl) (by as_aux_lemma => kernel_rfl) (by as_aux_lemma => kernel_rfl) (fun _ _ _ h => h) (Or.inl ⟨by rfl, ?hy80_00⟩) (HS.out _ hBc) ?_
              case hy80_00 =>
                intro w _
                go_simp <;> with_reducible rfl
              try simp only [Act.put, List.setIfInBounds_toArray, List.set_cons_zero, List.set_cons_succ]
              refine wpAnyH_done (by as_aux_lemma => kernel_rfl) ?_ _
              go_wp2
              go_ret
              exact ⟨rfl, HB.out.trans (hBc.mono HB.out.size)⟩
  · rw [hq] at hbig
    clear hc
    go_enter Try.func8, Try.ntmps8
    go_wp2_with fail
    refine hbig.mono ?_
    rintro e w1 ⟨rfl, rfl⟩
    go_wp2
    go_ret
    exact ⟨rfl, Below.refl _ _⟩

end Go.Proofs.Ytahdgagipmpcgaa
