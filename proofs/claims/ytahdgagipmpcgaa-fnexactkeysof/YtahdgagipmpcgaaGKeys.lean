/- The keys of a set, or of a map, as the program tells them. -/
import Derived.Test.YtahdgagipmpcgaaGKeysS
import Derived.Test.YtahdgagipmpcgaaGSort
namespace Go.Proofs.Ytahdgagipmpcgaa
set_option maxRecDepth 100000
set_option linter.unusedVariables false
open Go.RowKit

set_option maxHeartbeats 8000000 in
theorem keysIn_calls (S : Sta) (u0 u1 u2 u3 : Value) (m : Bool) (o : ByteArray) (w : World) (hn : S.L.length ≤ 1048576) (hst : ∀ a ∈ S.L, a.o.size ≤ 1048576 ∧ a.y.size ≤ 1048576) (h : StAt w S u0 u1 u2 u3) :
    Calls Try.prog 71 #[.agg #[u0, u1, u2, u3], .bool m, .string o] w fun e w' => ∃ u, e = .returned u ∧ w'.ownsRow w.heap.size 9 1 u (keysL S.L m o).length (strC (keysL S.L m o)) ∧ Below w.heap.size w w' := by
  obtain ⟨a0, c0, a1, c1, a2, c2, a3, c3, rfl, rfl, rfl, rfl⟩ := h.shape
  obtain ⟨W, hW⟩ : ∃ W, W = w.alloc (.cells #[.slice a0 S.l.length c0, .slice a1 S.T.length c1, .slice a2 S.L.length c2, .slice a3 S.C.length c3] 35) := ⟨_, rfl⟩
  have HP : Hid (∀ wx, Below W.heap.size W wx → Row wx w.heap.size #[.slice a0 S.l.length c0, .slice a1 S.T.length c1, .slice a2 S.L.length c2, .slice a3 S.C.length c3] 35) := fun wx h => by
    have h0 : Row W w.heap.size #[.slice a0 S.l.length c0, .slice a1 S.T.length c1, .slice a2 S.L.length c2, .slice a3 S.C.length c3] 35 := by rw [hW]; exact row_new w _ _ rfl
    exact h0.next h
  have HB : Hid (Below w.heap.size w W) := by rw [hW]; exact (Below.refl _ _).alloc (Nat.le_refl _) _
  have HS : Hid (StAt W S (.slice a0 S.l.length c0) (.slice a1 S.T.length c1) (.slice a2 S.L.length c2) (.slice a3 S.C.length c3)) := by rw [hW]; exact h.alloc _
  have hWs : W.heap.size = w.heap.size + 1 := by rw [hW]; simp
  have HW : Hid (w.alloc (.cells #[.slice a0 S.l.length c0, .slice a1 S.T.length c1, .slice a2 S.L.length c2, .slice a3 S.C.length c3] 35) = W) := hW.symm
  clear hW h
  obtain ⟨l, hl⟩ : ∃ l, l = S.L := ⟨_, rfl⟩
  have HGA : Hid (LiG W a2 l) := by
    obtain ⟨x, y, hq, hg⟩ := HS.out.2.2.1
    simp only [Value.slice.injEq] at hq
    rw [hl, hq.1]; exact hg
  have HST : Hid (∀ a ∈ l, a.o.size ≤ 1048576 ∧ a.y.size ≤ 1048576) := by rw [hl]; exact hst
  obtain ⟨n, hnl⟩ : ∃ n, n = l.length := ⟨_, rfl⟩
  have HL : Hid (n = l.length) := hnl
  rw [← hl] at hn ⊢
  rw [← hnl] at hn ⊢
  rw [← hl, ← hnl] at HP HW
  have HALL : Hid (keysR (l.take n) m o = keysR l m o) := by show _ = _; rw [hnl, List.take_length]
  obtain ⟨i0, hi, hz0, hz1, hz2⟩ := info_parts infoStrG
  obtain ⟨X, hX⟩ : ∃ X, X = W.alloc (.cells #[] 9) := ⟨_, rfl⟩
  have HO : Hid (X.ownsRow W.heap.size 9 1 (.slice (some ⟨W.heap.size, 0, none⟩) 0 0) (keysR (l.take 0) m o).length (strC (keysR (l.take 0) m o))) := by rw [hX]; exact own_none W 9 1 rfl (Nat.le_refl _)
  have HBX : Hid (Below W.heap.size W X) := by rw [hX]; exact (Below.refl _ _).alloc (Nat.le_refl _) _
  have HX : Hid (W.alloc (.cells #[] 9) = X) := hX.symm
  rw [← HW.out] at HX
  clear HS hnl hl hX hst
  have d2 := (HP.out X HBX.out).cell 2 rfl
  rw [← HX.out] at d2
  go_enter Try.func71, Try.ntmps71
  go_wp2
  rw [HX.out]
  have hws : (w.alloc (.cells #[.slice a0 S.l.length c0, .slice a1 S.T.length c1, .slice a2 n c2, .slice a3 S.C.length c3] 35)).heap.size = W.heap.size := by rw [HW.out]
  try rw [show w.heap.size + 1 = W.heap.size from hWs.symm]
  have HWS : Hid (W.heap.size = w.heap.size + 1) := hWs
  clear d2 HX hws HW hWs
  go_loopw [7, 14] (fun x z wr => ∃ k : Nat, k ≤ n ∧ z = .int .i64 k ∧ wr.ownsRow W.heap.size 9 1 x (keysR (l.take k) m o).length (strC (keysR (l.take k) m o)) ∧ x ≠ .slice none 0 0 ∧ Below W.heap.size W wr) (fun _ z _ => n - (intOf z).toNat)
  case atStart => exact ⟨0, Nat.zero_le _, rfl, HO.out, by simp, HBX.out⟩
  case round =>
    clear HO HBX
    obtain ⟨k, hk, rfl, hown, hnn, hbel⟩ := hrel
    have HOW := hidI hown
    have HNZ := hidI hnn
    have HBE := hidI hbel
    have d2 := (HP.out wr hbel).cell 2 rfl
    have hsz := hbel.size
    have hcl := keysR_len l m o k
    have hwx : w.heap.size ≤ wr.heap.size := by have := HWS.out; omega
    by_cases hlt : k < n
    · have hkl : k < l.length := by rw [← HL.out]; exact hlt
      obtain ⟨g, f, rfl, hg, hcc⟩ := HGA.out (by omega)
      have hk1 : (k : Int) < n := by omega
      have hk0 : (0 : Int) ≤ k := by omega
      have q := (hcc k hkl).below hbel hg
      have HY : Hid (l[k].m = m ∧ l[k].o = o → keysR (l.take (k + 1)) m o = keysR (l.take k) m o ++ [l[k].y.data.toList]) := keysR_yes l m o k hkl
      have HN : Hid (¬ (l[k].m = m ∧ l[k].o = o) → keysR (l.take (k + 1)) m o = keysR (l.take k) m o) := keysR_no l m o k hkl
      have hsx := HST.out l[k] (List.getElem_mem hkl)
      generalize l[k] = x at *
      unfold liC at q
      obtain ⟨q0, q1, q2, q3, q4, q5⟩ := q
      clear hcc hbel hkl hown hnn
      have HBA : Hid (Below W.heap.size W (wr.alloc (.cells #[.bool x.m, .string x.o, .string x.y, .int .i64 x.v, .int .i64 x.r, .int .i64 x.s] 62))) := HBE.out.alloc hsz _
      have HNX : Hid (¬ (x.m = m ∧ x.o = o) → (wr.alloc (.cells #[.bool x.m, .string x.o, .string x.y, .int .i64 x.v, .int .i64 x.r, .int .i64 x.s] 62)).ownsRow W.heap.size 9 1 u7 (keysR (l.take (k + 1)) m o).length (strC (keysR (l.take (k + 1)) m o))) := fun h => by rw [HN.out h]; exact HOW.out.alloc _
      by_cases h1 : x.m = m
      case neg =>
        have b1 : (x.m == m) = false := by simp [h1]
        have HE := hidI (HNX.out (fun h => h1 h.1))
        clear h1 HNX HY HN HOW
        go_wp2
        go_roundw
        case rel => exact ⟨k + 1, by omega, by go_num, HE.out, HNZ.out, HBA.out⟩
        case measure => simp [intOf]; omega
      have b1 : (x.m == m) = true := by simp [h1]
      by_cases h2 : x.o = o
      case neg =>
        have b2 := beq_str_no x.o o h2
        have HE := hidI (HNX.out (fun h => h2 h.2))
        clear h1 h2 HNX HY HN HOW
        go_wp2
        go_roundw
        case rel => exact ⟨k + 1, by omega, by go_num, HE.out, HNZ.out, HBA.out⟩
        case measure => simp [intOf]; omega
      have b2 := beq_str x.o o h2
      have HYY : Hid (keysR (l.take (k + 1)) m o = keysR (l.take k) m o ++ [x.y.data.toList]) := HY.out ⟨h1, h2⟩
      clear h1 h2 HNX HY HN
      have HOA := hidI (HOW.out.alloc (.cells #[.bool x.m, .string x.o, .string x.y, .int .i64 x.v, .int .i64 x.r, .int .i64 x.s] 62))
      have HOF : Hid (∀ k', u7.ownBlock = some k' → W.heap.size ≤ k' ∧ k' < wr.heap.size) := fun k' hk' => HOW.out.lt k' hk'
      clear HOW
      have HCL : Hid (∀ wx, Calls Try.prog 140 #[.string x.y] wx fun e w' => e = .returned (.string x.y) ∧ Below wx.heap.size wx w') := fun wx => clone_calls x.y wx (by omega)
      clear hsx
      go_wp2_with fail
      refine (HCL.out _).mono ?_
      rintro e YY ⟨rfl, hb1⟩
      have hOY := own_below HOA.out hb1
      have hBY := HBA.out.trans (hb1.mono HBA.out.size)
      clear hb1 HOA HBA HCL q0 q1 q2 q3 q4 q5
      have hysz := hBY.size
      have HOWN := hidI (hOY.alloc (.cells #[Value.string x.y] 9))
      have HB2 : Hid (Below W.heap.size W (YY.alloc (.cells #[Value.string x.y] 9))) := hBY.alloc hysz _
      clear hOY hBY
      go_wp2_with (at_builtin; refine wpList_append_own _ rfl _ _ 29 rfl W.heap.size 9 i0 (.string ByteArray.empty) 1 16 Try.underlying29 hi hz0 hz1 hz2 rfl (by decide) _ _ _ rfl HOWN.out ⟨YY.heap.size, 0, none⟩ 1 1 [Value.string x.y] rfl rfl (one_new _ _ _) (by intro u' hu'; simp at hu'; subst hu'; rfl) (by unfold maxLen; omega) (by omega) (by simp; omega) ?_)
      intro v2 w4 hown4 hgrow hne2
      have hb4 : Below W.heap.size W w4 := HB2.out.grown hgrow (by simp; omega) (fun k' hk' => (HOF.out k' hk').1)
      have HO4 : Hid (w4.ownsRow W.heap.size 9 1 v2 (keysR (l.take (k + 1)) m o).length (strC (keysR (l.take (k + 1)) m o))) := by
        show World.ownsRow _ _ _ _ _ _ _
        rw [HYY.out, strC_snoc, len_snoc, back_str]; exact hown4
      have HN4 := hidI hne2
      clear hown4 hgrow hne2 HYY HOWN HB2 HOF hysz
      go_wp2
      go_roundw
      case rel => exact ⟨k + 1, by omega, by go_num, HO4.out, HN4.out, hb4⟩
      case measure => simp [intOf]; omega
    · have hk1 : ¬ ((k : Int) < n) := by omega
      have hE : wr.ownsRow W.heap.size 9 1 u7 (keysR l m o).length (strC (keysR l m o)) := by
        have hkn : k = n := by omega
        have := HOW.out
        rwa [hkn, HALL.out] at this
      have hlr : (keysR l m o).length ≤ 1048576 := by
        have := keysR_len l m o n
        rw [HALL.out] at this; omega
      have HSO := hidI (sortS_calls wr hlr hE HNZ.out hsz)
      have HML : Hid (((keysR l m o).mergeSort fun x y => decide (x ≤ y)).length = (keysR l m o).length) := List.length_mergeSort _
      have HKS := hidI (keys_same (keysR l m o))
      have HWW : Hid (w.heap.size ≤ W.heap.size) := by have := HWS.out; show _ ≤ _; omega
      clear HOW hown hbel hE hnn
      go_wp2_with fail
      refine HSO.out.mono ?_
      rintro e w2 ⟨rfl, hu, hb⟩
      rw [← HML.out] at hu
      have HCO := hidI (compS_calls w2 (by rw [HML.out]; exact hlr) hu HNZ.out (Nat.le_trans hsz hb.size))
      have HB2 : Hid (Below W.heap.size W w2) := HBE.out.trans hb
      clear hu hb HSO
      go_wp2_with fail
      refine HCO.out.mono ?_
      rintro e w3 ⟨u, rfl, hu, hb⟩
      rw [HKS.out] at hu
      have HU : Hid (w3.ownsRow w.heap.size 9 1 u (keysL l m o).length (strC (keysL l m o))) := own_base hu HWW.out
      have HF : Hid (Below w.heap.size w w3) := HB.out.trans ((HB2.out.trans hb).mono HB.out.size)
      clear hu hb HCO HB2
      go_wp2
      go_ret
      exact ⟨_, rfl, HU.out, HF.out⟩

set_option maxHeartbeats 4000000 in
theorem setOf_calls (S : Sta) (u0 u1 u2 u3 : Value) (o : ByteArray) (w : World) (hn : S.L.length ≤ 1048576) (hst : ∀ a ∈ S.L, a.o.size ≤ 1048576 ∧ a.y.size ≤ 1048576) (h : StAt w S u0 u1 u2 u3) :
    Calls Try.prog 12 #[.agg #[u0, u1, u2, u3], .string o] w fun e w' => ∃ u, e = .returned u ∧ w'.ownsRow w.heap.size 9 1 u (keysL S.L false o).length (strC (keysL S.L false o)) ∧ Below w.heap.size w w' := by
  obtain ⟨a0, c0, a1, c1, a2, c2, a3, c3, rfl, rfl, rfl, rfl⟩ := h.shape
  obtain ⟨W, hW⟩ : ∃ W, W = w.alloc (.cells #[.slice a0 S.l.length c0, .slice a1 S.T.length c1, .slice a2 S.L.length c2, .slice a3 S.C.length c3] 35) := ⟨_, rfl⟩
  have hR : Row W w.heap.size #[.slice a0 S.l.length c0, .slice a1 S.T.length c1, .slice a2 S.L.length c2, .slice a3 S.C.length c3] 35 := by rw [hW]; exact row_new w _ _ rfl
  have HB : Hid (Below w.heap.size w W) := by rw [hW]; exact (Below.refl _ _).alloc (Nat.le_refl _) _
  have HC := hidI (keysIn_calls S _ _ _ _ false o W hn hst (by rw [hW]; exact h.alloc _ : StAt W S (.slice a0 S.l.length c0) (.slice a1 S.T.length c1) (.slice a2 S.L.length c2) (.slice a3 S.C.length c3)))
  have HW : Hid (w.alloc (.cells #[.slice a0 S.l.length c0, .slice a1 S.T.length c1, .slice a2 S.L.length c2, .slice a3 S.C.length c3] 35) = W) := hW.symm
  obtain ⟨d0, d1, d2, d3⟩ := Row.four hR
  rw [hW] at d0 d1 d2 d3
  clear hW h hR hst
  go_enter Try.func12, Try.ntmps12
  go_wp2_with fail
  rw [HW.out]
  refine HC.out.mono ?_
  rintro e w2 ⟨u, rfl, hu, hb⟩
  have HU : Hid (w2.ownsRow w.heap.size 9 1 u (keysL S.L false o).length (strC (keysL S.L false o))) := own_base hu HB.out.size
  have HB2 : Hid (Below w.heap.size w w2) := HB.out.trans (hb.mono HB.out.size)
  clear hu hb HC HW d0 d1 d2 d3
  go_wp2
  go_ret
  exact ⟨_, rfl, HU.out, HB2.out⟩

set_option maxHeartbeats 4000000 in
theorem keysOf_calls (S : Sta) (u0 u1 u2 u3 : Value) (o : ByteArray) (w : World) (hn : S.L.length ≤ 1048576) (hst : ∀ a ∈ S.L, a.o.size ≤ 1048576 ∧ a.y.size ≤ 1048576) (h : StAt w S u0 u1 u2 u3) :
    Calls Try.prog 24 #[.agg #[u0, u1, u2, u3], .string o] w fun e w' => ∃ u, e = .returned u ∧ w'.ownsRow w.heap.size 9 1 u (keysL S.L true o).length (strC (keysL S.L true o)) ∧ Below w.heap.size w w' := by
  obtain ⟨a0, c0, a1, c1, a2, c2, a3, c3, rfl, rfl, rfl, rfl⟩ := h.shape
  obtain ⟨W, hW⟩ : ∃ W, W = w.alloc (.cells #[.slice a0 S.l.length c0, .slice a1 S.T.length c1, .slice a2 S.L.length c2, .slice a3 S.C.length c3] 35) := ⟨_, rfl⟩
  have hR : Row W w.heap.size #[.slice a0 S.l.length c0, .slice a1 S.T.length c1, .slice a2 S.L.length c2, .slice a3 S.C.length c3] 35 := by rw [hW]; exact row_new w _ _ rfl
  have HB : Hid (Below w.heap.size w W) := by rw [hW]; exact (Below.refl _ _).alloc (Nat.le_refl _) _
  have HC := hidI (keysIn_calls S _ _ _ _ true o W hn hst (by rw [hW]; exact h.alloc _ : StAt W S (.slice a0 S.l.length c0) (.slice a1 S.T.length c1) (.slice a2 S.L.length c2) (.slice a3 S.C.length c3)))
  have HW : Hid (w.alloc (.cells #[.slice a0 S.l.length c0, .slice a1 S.T.length c1, .slice a2 S.L.length c2, .slice a3 S.C.length c3] 35) = W) := hW.symm
  obtain ⟨d0, d1, d2, d3⟩ := Row.four hR
  rw [hW] at d0 d1 d2 d3
  clear hW h hR hst
  go_enter Try.func24, Try.ntmps24
  go_wp2_with fail
  rw [HW.out]
  refine HC.out.mono ?_
  rintro e w2 ⟨u, rfl, hu, hb⟩
  have HU : Hid (w2.ownsRow w.heap.size 9 1 u (keysL S.L true o).length (strC (keysL S.L true o))) := own_base hu HB.out.size
  have HB2 : Hid (Below w.heap.size w w2) := HB.out.trans (hb.mono HB.out.size)
  clear hu hb HC HW d0 d1 d2 d3
  go_wp2
  go_ret
  exact ⟨_, rfl, HU.out, HB2.out⟩

end Go.Proofs.Ytahdgagipmpcgaa
