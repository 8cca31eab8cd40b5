/- The keys of a set, or of a map, as the specification tells them. -/
import Derived.Test.YtahdgagipmpcgaaGPut
namespace Go.Proofs.Ytahdgagipmpcgaa
set_option maxRecDepth 100000
set_option linter.unusedVariables false
open Go.RowKit

def isKey (m : Bool) (o : ByteArray) (x : Li) : Bool := decide (x.m = m ∧ x.o = o)
/-- The keys as they stand, and each once in their order. -/
def keysR (l : List Li) (m : Bool) (o : ByteArray) : List (List UInt8) := (l.filter (isKey m o)).map fun x => x.y.data.toList
def keysL (l : List Li) (m : Bool) (o : ByteArray) : List (List UInt8) := keysS (keysR l m o)
theorem keysR_yes (l : List Li) (m : Bool) (o : ByteArray) (k : Nat) (h : k < l.length) (hx : l[k].m = m ∧ l[k].o = o) : keysR (l.take (k + 1)) m o = keysR (l.take k) m o ++ [l[k].y.data.toList] := by
  unfold keysR
  rw [List.take_succ_eq_append_getElem h, List.filter_append, List.map_append]
  congr 1
  simp [isKey, hx]
theorem keysR_no (l : List Li) (m : Bool) (o : ByteArray) (k : Nat) (h : k < l.length) (hx : ¬ (l[k].m = m ∧ l[k].o = o)) : keysR (l.take (k + 1)) m o = keysR (l.take k) m o := by
  unfold keysR
  rw [List.take_succ_eq_append_getElem h, List.filter_append]
  have : isKey m o l[k] = false := by unfold isKey; exact decide_eq_false hx
  simp [this]
theorem keysR_len (l : List Li) (m : Bool) (o : ByteArray) (k : Nat) : (keysR (l.take k) m o).length ≤ k := by
  unfold keysR
  rw [List.length_map]
  have h1 : ((l.take k).filter (isKey m o)).length ≤ (l.take k).length := List.length_filter_le _ _
  have h2 : (l.take k).length ≤ k := by rw [List.length_take]; omega
  omega
theorem keysL_len (l : List Li) (m : Bool) (o : ByteArray) : (keysL l m o).length ≤ l.length := by
  have h := (keysS_all (keysR l m o)).2.2
  have h2 : (keysR l m o).length ≤ l.length := by unfold keysR; rw [List.length_map]; exact List.length_filter_le _ _
  unfold keysL; omega

set_option maxHeartbeats 8000000 in
theorem specKeysIn_calls (S : Sta) (u0 u1 u2 u3 : Value) (m : Bool) (o : ByteArray) (w : World) (hn : S.L.length ≤ 1048576) (h : StAt w S u0 u1 u2 u3) :
    Calls Try.prog 66 #[.agg #[u0, u1, u2, u3], .bool m, .string o] w fun e w' => ∃ u, e = .returned u ∧ w'.ownsRow w.heap.size 9 1 u (keysL S.L m o).length (strC (keysL S.L m o)) ∧ Below w.heap.size w w' := by
  obtain ⟨a0, c0, a1, c1, a2, c2, a3, c3, rfl, rfl, rfl, rfl⟩ := h.shape
  obtain ⟨W, hW⟩ : ∃ W, W = w.alloc (.cells #[.slice a0 S.l.length c0, .slice a1 S.T.length c1, .slice a2 S.L.length c2, .slice a3 S.C.length c3] 35) := ⟨_, rfl⟩
  have HP : Hid (∀ wx, Below W.heap.size W wx → Row wx w.heap.size #[.slice a0 S.l.length c0, .slice a1 S.T.length c1, .slice a2 S.L.length c2, .slice a3 S.C.length c3] 35) := fun wx h => by
    have h0 : Row W w.heap.size #[.slice a0 S.l.length c0, .slice a1 S.T.length c1, .slice a2 S.L.length c2, .slice a3 S.C.length c3] 35 := by rw [hW]; exact row_new w _ _ rfl
    exact h0.next h
  have HB : Hid (Below w.heap.size w W) := by rw [hW]; exact (Below.refl _ _).alloc (Nat.le_refl _) _
  have HS : Hid (StAt W S (.slice a0 S.l.length c0) (.slice a1 S.T.length c1) (.slice a2 S.L.length c2) (.slice a3 S.C.length c3)) := by rw [hW]; exact h.alloc _
  have hWs : W.heap.size = w.heap.size + 1 := by rw [hW]; simp
  have HW : Hid (w.alloc (.cells #[.slice a0 S.l.length c0, .slice a1 S.T.length c1, .slice a2 S.L.length c2, .slice a3 S.C.length c3] 35) = W) := hW.symm
  clear hW h
  obtain ⟨l, hl⟩ : ∃ l, l = S.L := ⟨_, rfl⟩
  have HGA : Hid (LiG W a2 l) := by
    obtain ⟨x, y, hq, hg⟩ := HS.out.2.2.1
    simp only [Value.slice.injEq] at hq
    rw [hl, hq.1]; exact hg
  obtain ⟨n, hnl⟩ : ∃ n, n = l.length := ⟨_, rfl⟩
  have HL : Hid (n = l.length) := hnl
  rw [← hl] at hn ⊢
  rw [← hnl] at hn ⊢
  rw [← hl, ← hnl] at HP HW
  have HALL : Hid (keysR (l.take n) m o = keysR l m o) := by show _ = _; rw [hnl, List.take_length]
  obtain ⟨i0, hi, hz0, hz1, hz2⟩ := info_parts infoStrG
  obtain ⟨X, hX⟩ : ∃ X, X = W.alloc (.cells #[] 9) := ⟨_, rfl⟩
  have HO : Hid (X.ownsRow W.heap.size 9 1 (.slice (some ⟨W.heap.size, 0, none⟩) 0 0) (keysS (keysR (l.take 0) m o)).length (strC (keysS (keysR (l.take 0) m o)))) := by rw [hX]; exact own_none W 9 1 rfl (Nat.le_refl _)
  have HBX : Hid (Below W.heap.size W X) := by rw [hX]; exact (Below.refl _ _).alloc (Nat.le_refl _) _
  have HX : Hid (W.alloc (.cells #[] 9) = X) := hX.symm
  rw [← HW.out] at HX
  clear HS hnl hl hX
  have d2 := (HP.out X HBX.out).cell 2 rfl
  rw [← HX.out] at d2
  go_enter Try.func66, Try.ntmps66
  go_wp2
  rw [HX.out]
  have hws : (w.alloc (.cells #[.slice a0 S.l.length c0, .slice a1 S.T.length c1, .slice a2 n c2, .slice a3 S.C.length c3] 35)).heap.size = W.heap.size := by rw [HW.out]
  try rw [show w.heap.size + 1 = W.heap.size from hWs.symm]
  have HWS : Hid (W.heap.size = w.heap.size + 1) := hWs
  clear d2 HX hws HW hWs
  go_loopw [7, 8] (fun x z wr => ∃ k : Nat, k ≤ n ∧ z = .int .i64 k ∧ wr.ownsRow W.heap.size 9 1 x (keysS (keysR (l.take k) m o)).length (strC (keysS (keysR (l.take k) m o))) ∧ Below W.heap.size W wr) (fun _ z _ => n - (intOf z).toNat)
  case atStart => exact ⟨0, Nat.zero_le _, rfl, HO.out, HBX.out⟩
  case round =>
    clear HO HBX
    obtain ⟨k, hk, rfl, hown, hbel⟩ := hrel
    have HOW := hidI hown
    have HBE := hidI hbel
    have d2 := (HP.out wr hbel).cell 2 rfl
    have hsz := hbel.size
    have hcl : (keysS (keysR (l.take k) m o)).length ≤ k := Nat.le_trans (keysS_all _).2.2 (keysR_len l m o k)
    have hwx : w.heap.size ≤ wr.heap.size := by have := HWS.out; omega
    by_cases hlt : k < n
    · have hkl : k < l.length := by rw [← HL.out]; exact hlt
      obtain ⟨g, f, rfl, hg, hcc⟩ := HGA.out (by omega)
      have hk1 : (k : Int) < n := by omega
      have hk0 : (0 : Int) ≤ k := by omega
      have q := (hcc k hkl).below hbel hg
      have HY : Hid (l[k].m = m ∧ l[k].o = o → keysR (l.take (k + 1)) m o = keysR (l.take k) m o ++ [l[k].y.data.toList]) := keysR_yes l m o k hkl
      have HN : Hid (¬ (l[k].m = m ∧ l[k].o = o) → keysR (l.take (k + 1)) m o = keysR (l.take k) m o) := keysR_no l m o k hkl
      generalize l[k] = x at *
      unfold liC at q
      obtain ⟨q0, q1, q2, q3, q4, q5⟩ := q
      clear hcc hbel hkl hown q3 q4 q5
      by_cases h1 : x.m = m
      case neg =>
        have b1 : (x.m == m) = false := by simp [h1]
        have HE : Hid (wr.ownsRow W.heap.size 9 1 u7 (keysS (keysR (l.take (k + 1)) m o)).length (strC (keysS (keysR (l.take (k + 1)) m o)))) := by rw [HN.out (fun h => h1 h.1)]; exact HOW.out
        clear h1 HY HN HOW q1 q2
        go_wp2
        go_roundw
        case rel => exact ⟨k + 1, by omega, by go_num, HE.out, HBE.out⟩
        case measure => simp [intOf]; omega
      have b1 : (x.m == m) = true := by simp [h1]
      by_cases h2 : x.o = o
      case neg =>
        have b2 := beq_str_no x.o o h2
        have HE : Hid (wr.ownsRow W.heap.size 9 1 u7 (keysS (keysR (l.take (k + 1)) m o)).length (strC (keysS (keysR (l.take (k + 1)) m o)))) := by rw [HN.out (fun h => h2 h.2)]; exact HOW.out
        clear h1 h2 HY HN HOW q2
        go_wp2
        go_roundw
        case rel => exact ⟨k + 1, by omega, by go_num, HE.out, HBE.out⟩
        case measure => simp [intOf]; omega
      have b2 := beq_str x.o o h2
      have HYY : Hid (keysS (keysR (l.take (k + 1)) m o) = putS (keysS (keysR (l.take k) m o)) x.y.data.toList) := by show _ = _; rw [HY.out ⟨h1, h2⟩, keysS_snoc]
      have HPU := hidI (specPut_calls x.y wr (by omega) HOW.out (by omega))
      clear h1 h2 HY HN HOW
      go_wp2_with fail
      refine HPU.out.mono ?_
      rintro e w2 ⟨u, rfl, hu, hb⟩
      have HO2 : Hid (w2.ownsRow W.heap.size 9 1 u (keysS (keysR (l.take (k + 1)) m o)).length (strC (keysS (keysR (l.take (k + 1)) m o)))) := by rw [HYY.out]; exact hu
      have HB2 : Hid (Below W.heap.size W w2) := HBE.out.trans (hb.mono HBE.out.size)
      clear hu hb HPU HYY q0 q1 q2 d2
      go_wp2
      go_roundw
      case rel => exact ⟨k + 1, by omega, by go_num, HO2.out, HB2.out⟩
      case measure => simp [intOf]; omega
    · have hk1 : ¬ ((k : Int) < n) := by omega
      have HE : Hid (wr.ownsRow w.heap.size 9 1 u7 (keysL l m o).length (strC (keysL l m o))) := by
        have hkn : k = n := by omega
        have := own_base HOW.out (show w.heap.size ≤ W.heap.size by have := HWS.out; omega)
        rw [hkn, HALL.out] at this
        exact this
      clear HOW hown hbel
      go_wp2
      go_ret
      exact ⟨_, rfl, HE.out, HB.out.trans (HBE.out.mono HB.out.size)⟩

set_option maxHeartbeats 4000000 in
theorem specSetOf_calls (S : Sta) (u0 u1 u2 u3 : Value) (o : ByteArray) (w : World) (hn : S.L.length ≤ 1048576) (h : StAt w S u0 u1 u2 u3) :
    Calls Try.prog 10 #[.agg #[u0, u1, u2, u3], .string o] w fun e w' => ∃ u, e = .returned u ∧ w'.ownsRow w.heap.size 9 1 u (keysL S.L false o).length (strC (keysL S.L false o)) ∧ Below w.heap.size w w' := by
  obtain ⟨a0, c0, a1, c1, a2, c2, a3, c3, rfl, rfl, rfl, rfl⟩ := h.shape
  obtain ⟨W, hW⟩ : ∃ W, W = w.alloc (.cells #[.slice a0 S.l.length c0, .slice a1 S.T.length c1, .slice a2 S.L.length c2, .slice a3 S.C.length c3] 35) := ⟨_, rfl⟩
  have hR : Row W w.heap.size #[.slice a0 S.l.length c0, .slice a1 S.T.length c1, .slice a2 S.L.length c2, .slice a3 S.C.length c3] 35 := by rw [hW]; exact row_new w _ _ rfl
  have HB : Hid (Below w.heap.size w W) := by rw [hW]; exact (Below.refl _ _).alloc (Nat.le_refl _) _
  have HC := hidI (specKeysIn_calls S _ _ _ _ false o W hn (by rw [hW]; exact h.alloc _ : StAt W S (.slice a0 S.l.length c0) (.slice a1 S.T.length c1) (.slice a2 S.L.length c2) (.slice a3 S.C.length c3)))
  have HW : Hid (w.alloc (.cells #[.slice a0 S.l.length c0, .slice a1 S.T.length c1, .slice a2 S.L.length c2, .slice a3 S.C.length c3] 35) = W) := hW.symm
  obtain ⟨d0, d1, d2, d3⟩ := Row.four hR
  rw [hW] at d0 d1 d2 d3
  clear hW h hR
  go_enter Try.func10, Try.ntmps10
  go_wp2_with fail
  rw [HW.out]
  refine HC.out.mono ?_
  rintro e w2 ⟨u, rfl, hu, hb⟩
  have HU : Hid (w2.ownsRow w.heap.size 9 1 u (keysL S.L false o).length (strC (keysL S.L false o))) := own_base hu HB.out.size
  have HB2 : Hid (Below w.heap.size w w2) := HB.out.trans (hb.mono HB.out.size)
  clear hu hb HC HW d0 d1 d2 d3
  go_wp2
  go_ret
  exact ⟨_, rfl, HU.out, HB2.out⟩

set_option maxHeartbeats 4000000 in
theorem specKeysOf_calls (S : Sta) (u0 u1 u2 u3 : Value) (o : ByteArray) (w : World) (hn : S.L.length ≤ 1048576) (h : StAt w S u0 u1 u2 u3) :
    Calls Try.prog 23 #[.agg #[u0, u1, u2, u3], .string o] w fun e w' => ∃ u, e = .returned u ∧ w'.ownsRow w.heap.size 9 1 u (keysL S.L true o).length (strC (keysL S.L true o)) ∧ Below w.heap.size w w' := by
  obtain ⟨a0, c0, a1, c1, a2, c2, a3, c3, rfl, rfl, rfl, rfl⟩ := h.shape
  obtain ⟨W, hW⟩ : ∃ W, W = w.alloc (.cells #[.slice a0 S.l.length c0, .slice a1 S.T.length c1, .slice a2 S.L.length c2, .slice a3 S.C.length c3] 35) := ⟨_, rfl⟩
  have hR : Row W w.heap.size #[.slice a0 S.l.length c0, .slice a1 S.T.length c1, .slice a2 S.L.length c2, .slice a3 S.C.length c3] 35 := by rw [hW]; exact row_new w _ _ rfl
  have HB : Hid (Below w.heap.size w W) := by rw [hW]; exact (Below.refl _ _).alloc (Nat.le_refl _) _
  have HC := hidI (specKeysIn_calls S _ _ _ _ true o W hn (by rw [hW]; exact h.alloc _ : StAt W S (.slice a0 S.l.length c0) (.slice a1 S.T.length c1) (.slice a2 S.L.length c2) (.slice a3 S.C.length c3)))
  have HW : Hid (w.alloc (.cells #[.slice a0 S.l.length c0, .slice a1 S.T.length c1, .slice a2 S.L.length c2, .slice a3 S.C.length c3] 35) = W) := hW.symm
  obtain ⟨d0, d1, d2, d3⟩ := Row.four hR
  rw [hW] at d0 d1 d2 d3
  clear hW h hR
  go_enter Try.func23, Try.ntmps23
  go_wp2_with fail
  rw [HW.out]
  refine HC.out.mono ?_
  rintro e w2 ⟨u, rfl, hu, hb⟩
  have HU : Hid (w2.ownsRow w.heap.size 9 1 u (keysL S.L true o).length (strC (keysL S.L true o))) := own_base hu HB.out.size
  have HB2 : Hid (Below w.heap.size w w2) := HB.out.trans (hb.mono HB.out.size)
  clear hu hb HC HW d0 d1 d2 d3
  go_wp2
  go_ret
  exact ⟨_, rfl, HU.out, HB2.out⟩

end Go.Proofs.Ytahdgagipmpcgaa
