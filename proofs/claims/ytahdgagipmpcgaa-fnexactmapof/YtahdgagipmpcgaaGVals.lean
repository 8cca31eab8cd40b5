/- The values of a key, as both tell them. -/
import Derived.Test.YtahdgagipmpcgaaGPut
import Derived.Test.YtahdgagipmpcgaaGSort
namespace Go.Proofs.Ytahdgagipmpcgaa
set_option maxRecDepth 100000
set_option linter.unusedVariables false
open Go.RowKit

def valsR (l : List Li) (o y : ByteArray) : List Int := (livesOf l true o y).map Li.v
def valsL (l : List Li) (o y : ByteArray) : List Int := valsI (valsR l o y)
theorem valsR_len (l : List Li) (o y : ByteArray) : (valsR l o y).length ≤ l.length := by
  unfold valsR livesOf; rw [List.length_map]; exact List.length_filter_le _ _
theorem valsL_len (l : List Li) (o y : ByteArray) : (valsL l o y).length ≤ l.length := by
  unfold valsL; rw [vals_len]; exact valsR_len l o y
theorem intV_snoc (l : List Int) (x : Int) : intV (l ++ [x]) = intV l ++ [Value.int .i64 x] := by simp [intV]
/-- A row that grows, and leaves what was there at w2 as it was, but for one block of its own. -/
def Apart (m : Nat) (w2 wr : World) (x : Value) : Prop := (∀ j, x.ownBlock = some j → j = m ∨ w2.heap.size ≤ j) ∧ w2.heap.size ≤ wr.heap.size ∧ ∀ j, j < w2.heap.size → j ≠ m → wr.heap[j]? = w2.heap[j]?
theorem Apart.alloc {m : Nat} {w2 wr : World} {x : Value} (h : Apart m w2 wr x) (o : Obj) : Apart m w2 (wr.alloc o) x :=
  ⟨h.1, Nat.le_trans h.2.1 (by simp), fun j hj hm => (((Below.refl _ _).alloc (Nat.le_refl _) o).block j (Nat.lt_of_lt_of_le hj h.2.1)).trans (h.2.2 j hj hm)⟩
theorem Apart.more {m : Nat} {w2 wr w3 : World} {x v : Value} (h : Apart m w2 wr x) (hg : wr.grownBy w3 x.ownBlock) (ha : v.ownBlock = x.ownBlock ∨ v.ownBlock = some wr.heap.size) : Apart m w2 w3 v := by
  refine ⟨fun j hj => ?_, Nat.le_trans h.2.1 hg.size, fun j hj hm => ?_⟩
  · rcases ha with ha | ha
    · exact h.1 j (ha ▸ hj)
    · rw [ha] at hj; injection hj with hj; subst hj; exact .inr h.2.1
  · refine (hg.block j (Nat.lt_of_lt_of_le hj h.2.1) (fun e => ?_)).trans (h.2.2 j hj hm)
    rcases h.1 j e.symm with h1 | h1
    · exact hm h1
    · omega
theorem Apart.liC {m : Nat} {w2 wr : World} {x : Value} {g k : Nat} {a : Li} (h : Apart m w2 wr x) (hg : g < w2.heap.size) (hm : g ≠ m) (q : liC w2 g k a) : liC wr g k a := by
  have e : ∀ i, wr.cell? ⟨g, i, none⟩ = w2.cell? ⟨g, i, none⟩ := fun i => by unfold World.cell?; rw [h.2.2 g hg hm]
  obtain ⟨h0, h1, h2, h3, h4, h5⟩ := q
  exact ⟨(e _).trans h0, (e _).trans h1, (e _).trans h2, (e _).trans h3, (e _).trans h4, (e _).trans h5⟩
theorem map_take_snoc (l : List Li) (k : Nat) (h : k < l.length) : (l.take (k + 1)).map Li.v = (l.take k).map Li.v ++ [l[k].v] := by
  rw [take_snoc l k h, List.map_append]; rfl

set_option maxHeartbeats 8000000 in
theorem mapOf_calls (S : Sta) (u0 u1 u2 u3 : Value) (o y : ByteArray) (w : World) (hn : S.L.length ≤ 1048576) (hst : ∀ a ∈ S.L, a.o.size ≤ 1048576 ∧ a.y.size ≤ 1048576) (h : StAt w S u0 u1 u2 u3) :
    Calls Try.prog 19 #[.agg #[u0, u1, u2, u3], .string o, .string y] w fun e w' => ∃ u, e = .returned u ∧ w'.ownsRow w.heap.size 3 1 u (valsL S.L o y).length (intV (valsL S.L o y)) ∧ Below w.heap.size w w' := by
  obtain ⟨a0, c0, a1, c1, a2, c2, a3, c3, rfl, rfl, rfl, rfl⟩ := h.shape
  obtain ⟨W, hW⟩ : ∃ W, W = (w.alloc (.cells #[.slice a0 S.l.length c0, .slice a1 S.T.length c1, .slice a2 S.L.length c2, .slice a3 S.C.length c3] 35)).alloc (.cells #[] 3) := ⟨_, rfl⟩
  have hR : Row W w.heap.size #[.slice a0 S.l.length c0, .slice a1 S.T.length c1, .slice a2 S.L.length c2, .slice a3 S.C.length c3] 35 := by rw [hW]; exact (row_new w _ _ rfl).alloc _
  have HB : Hid (Below w.heap.size w W) := by rw [hW]; exact ((Below.refl _ _).alloc (Nat.le_refl _) _).alloc (by simp) _
  have hWs2 : w.heap.size + 1 < W.heap.size := by rw [hW]; simp
  have HC := hidI (livesOf_calls S _ _ _ _ true o y W hn hst (by rw [hW]; exact (h.alloc _).alloc _ : StAt W S (.slice a0 S.l.length c0) (.slice a1 S.T.length c1) (.slice a2 S.L.length c2) (.slice a3 S.C.length c3)))
  have HO : Hid (W.ownsRow (w.heap.size + 1) 3 1 (.slice (some ⟨w.heap.size + 1, 0, none⟩) 0 0) 0 (intV [])) := by rw [hW]; exact own_none _ 3 1 (by simp) (Nat.le_refl _)
  have HW : Hid ((w.alloc (.cells #[.slice a0 S.l.length c0, .slice a1 S.T.length c1, .slice a2 S.L.length c2, .slice a3 S.C.length c3] 35)).alloc (.cells #[] 3) = W) := hW.symm
  obtain ⟨d0, d1, d2, d3⟩ := Row.four hR
  rw [hW] at d0 d1 d2 d3
  obtain ⟨i0, hi, hz0, hz1, hz2⟩ := info_parts infoInt
  have HVL : Hid (valsL S.L o y = valsI ((livesOf S.L true o y).map Li.v)) := rfl
  have HLL : Hid ((livesOf S.L true o y).length ≤ 1048576) := Nat.le_trans (List.length_filter_le _ _) hn
  obtain ⟨R, hRR⟩ : ∃ R, R = livesOf S.L true o y := ⟨_, rfl⟩
  rw [← hRR] at HC HVL HLL
  rw [HVL.out]
  have hRn := HLL.out
  clear hW h hR HVL HLL hn hRR hst
  go_enter Try.func19, Try.ntmps19
  go_wp2_with fail
  rw [HW.out]
  refine HC.out.mono ?_
  rintro e w2 ⟨u, rfl, hu, hb⟩
  have hs2 := hb.size
  have HB2 : Hid (Below w.heap.size w w2) := HB.out.trans (hb.mono HB.out.size)
  have HO2 := hidI (own_below HO.out hb)
  have hlt2 := hu.lt
  obtain ⟨aa, ca, rfl, hga⟩ := LiAt.own hu rfl
  have HNE : Hid (∀ g f, aa = some ⟨g, f, none⟩ → w.heap.size + 1 < g) := fun g f h => Nat.lt_of_lt_of_le hWs2 (hlt2 g (by rw [h]; rfl)).1
  obtain ⟨n, hnl⟩ : ∃ n, n = R.length := ⟨_, rfl⟩
  have HL : Hid (n = R.length) := hnl
  have HGA : Hid (LiG w2 aa R) := hga
  have HALL : Hid ((R.take n).map Li.v = R.map Li.v) := by show _ = _; rw [hnl, List.take_length]
  rw [← hnl] at hRn ⊢
  clear hu hb HC HW d0 d1 d2 d3 hga hnl HO hlt2
  go_wp2
  have HAP : Hid (Apart (w.heap.size + 1) w2 w2 (.slice (some ⟨w.heap.size + 1, 0, none⟩) 0 0)) := ⟨fun j hj => .inl (by injection hj with hj; exact hj.symm), Nat.le_refl _, fun j _ _ => rfl⟩
  go_loopw [7, 16] (fun x z wr => ∃ k : Nat, k ≤ n ∧ z = .int .i64 k ∧ wr.ownsRow (w.heap.size + 1) 3 1 x ((R.take k).map Li.v).length (intV ((R.take k).map Li.v)) ∧ x ≠ .slice none 0 0 ∧ Below w.heap.size w wr ∧ Apart (w.heap.size + 1) w2 wr x) (fun _ z _ => n - (intOf z).toNat)
  case atStart => exact ⟨0, Nat.zero_le _, rfl, HO2.out, by simp, HB2.out, HAP.out⟩
  case round =>
    clear HO2 HAP
    obtain ⟨k, hk, rfl, hown, hnn, hbel, hap⟩ := hrel
    have HOW := hidI hown
    have HNZ := hidI hnn
    have HBE := hidI hbel
    have HAP := hidI hap
    have hsz : w.heap.size + 1 ≤ wr.heap.size := by have := hap.2.1; omega
    have hcl : ((R.take k).map Li.v).length ≤ k := by rw [List.length_map, List.length_take]; omega
    clear hap hown hnn hbel
    by_cases hlt : k < n
    · have hkl : k < R.length := by rw [← HL.out]; exact hlt
      obtain ⟨g, f, rfl, hg, hcc⟩ := HGA.out (by omega)
      have hk1 : (k : Int) < n := by omega
      have hk0 : (0 : Int) ≤ k := by omega
      have q := HAP.out.liC hg (by have := HNE.out g f rfl; omega) (hcc k hkl)
      have HTK := hidI (map_take_snoc R k hkl)
      generalize R[k] = x at *
      generalize (R.take k).map Li.v = P at *
      unfold liC at q
      obtain ⟨q0, q1, q2, q3, q4, q5⟩ := q
      have HOWN := hidI ((HOW.out.alloc (.cells #[.bool x.m, .string x.o, .string x.y, .int .i64 x.v, .int .i64 x.r, .int .i64 x.s] 62)).alloc (.cells #[Value.int .i64 x.v] 3))
      have HAPA := hidI ((HAP.out.alloc (.cells #[.bool x.m, .string x.o, .string x.y, .int .i64 x.v, .int .i64 x.r, .int .i64 x.s] 62)).alloc (.cells #[Value.int .i64 x.v] 3))
      have HBA : Hid (Below w.heap.size w ((wr.alloc (.cells #[.bool x.m, .string x.o, .string x.y, .int .i64 x.v, .int .i64 x.r, .int .i64 x.s] 62)).alloc (.cells #[Value.int .i64 x.v] 3))) := (HBE.out.alloc (by omega) _).alloc (by simp; omega) _
      have HOB : Hid (∀ k', u7.ownBlock = some k' → w.heap.size ≤ k') := fun k' hk' => by have := (HOW.out.lt k' hk').1; omega
      have HNN : Hid (∀ j u, [Value.int .i64 x.v][j]? = some u → ((wr.alloc (.cells #[.bool x.m, .string x.o, .string x.y, .int .i64 x.v, .int .i64 x.r, .int .i64 x.s] 62)).alloc (.cells #[Value.int .i64 x.v] 3)).cell? (Addr.add ⟨wr.heap.size + 1, 0, none⟩ j) = some u) := by
        have h := one_new (wr.alloc (.cells #[.bool x.m, .string x.o, .string x.y, .int .i64 x.v, .int .i64 x.r, .int .i64 x.s] 62)) (Value.int .i64 x.v) 3
        rw [show (wr.alloc (.cells #[.bool x.m, .string x.o, .string x.y, .int .i64 x.v, .int .i64 x.r, .int .i64 x.s] 62)).heap.size = wr.heap.size + 1 by simp] at h
        exact h
      have HSZ : Hid (w.heap.size + 1 ≤ ((wr.alloc (.cells #[.bool x.m, .string x.o, .string x.y, .int .i64 x.v, .int .i64 x.r, .int .i64 x.s] 62)).alloc (.cells #[Value.int .i64 x.v] 3)).heap.size) := by show _ ≤ _; simp; omega
      clear HOW HAP hcc hkl
      go_wp2_with (at_builtin; refine wpList_append_own_at _ rfl _ _ 22 rfl (w.heap.size + 1) 3 i0 (.int .i64 0) 1 8 Try.underlying22 hi hz0 hz1 hz2 rfl (by decide) _ _ _ rfl HOWN.out ⟨wr.heap.size + 1, 0, none⟩ 1 1 [Value.int .i64 x.v] rfl rfl HNN.out (by intro u' hu'; simp at hu'; subst hu'; rfl) (by unfold maxLen; omega) (by omega) HSZ.out ?_)
      intro v2 w4 hown4 hgrow hne2 hat
      have HB4 : Hid (Below w.heap.size w w4) := HBA.out.grown hgrow (by simp; omega) HOB.out
      have HA4 := hidI (HAPA.out.more hgrow (by simpa using hat))
      have HO4 : Hid (w4.ownsRow (w.heap.size + 1) 3 1 v2 ((R.take (k + 1)).map Li.v).length (intV ((R.take (k + 1)).map Li.v))) := by
        show World.ownsRow _ _ _ _ _ _ _
        rw [HTK.out, intV_snoc, len_snoc]; exact hown4
      have HN4 : Hid (v2 ≠ .slice none 0 0) := fun e => hne2 e
      clear hown4 hgrow hne2 hat HOWN HAPA HBA HOB HNN HSZ HBE HNZ q0 q1 q2 q3 q4 q5 HTK
      go_wp2
      go_roundw
      case rel => exact ⟨k + 1, by omega, by go_num, HO4.out, HN4.out, HB4.out, HA4.out⟩
      case measure => simp [intOf]; omega
    · have hk1 : ¬ ((k : Int) < n) := by omega
      have hE : wr.ownsRow (w.heap.size + 1) 3 1 u7 (R.map Li.v).length (intV (R.map Li.v)) := by
        have hkn : k = n := by omega
        have := HOW.out
        rwa [hkn, HALL.out] at this
      have HSO := hidI (sortI_calls wr (by rw [List.length_map, ← HL.out]; exact hRn) hE HNZ.out hsz)
      have HML : Hid ((valsI (R.map Li.v)).length = (R.map Li.v).length) := vals_len _
      have HKS := hidI (vals_same (R.map Li.v))
      clear HOW hE
      go_wp2_with fail
      refine HSO.out.mono ?_
      rintro e w4 ⟨rfl, hu, hb⟩
      rw [HKS.out, ← HML.out] at hu
      have HU : Hid (w4.ownsRow w.heap.size 3 1 u7 (valsI (R.map Li.v)).length (intV (valsI (R.map Li.v)))) := own_base hu (by omega)
      have HF : Hid (Below w.heap.size w w4) := HBE.out.trans (hb.mono (by omega))
      clear hu hb HSO HBE
      go_wp2
      go_ret
      exact ⟨_, rfl, HU.out, HF.out⟩

set_option maxHeartbeats 16000000 in
theorem specMapOf_calls (S : Sta) (u0 u1 u2 u3 : Value) (o y : ByteArray) (w : World) (hn : S.L.length ≤ 1048576) (h : StAt w S u0 u1 u2 u3) :
    Calls Try.prog 18 #[.agg #[u0, u1, u2, u3], .string o, .string y] w fun e w' => ∃ u, e = .returned u ∧ w'.ownsRow w.heap.size 3 1 u (valsL S.L o y).length (intV (valsL S.L o y)) ∧ Below w.heap.size w w' := by
  obtain ⟨a0, c0, a1, c1, a2, c2, a3, c3, rfl, rfl, rfl, rfl⟩ := h.shape
  obtain ⟨W, hW⟩ : ∃ W, W = (w.alloc (.cells #[.slice a0 S.l.length c0, .slice a1 S.T.length c1, .slice a2 S.L.length c2, .slice a3 S.C.length c3] 35)).alloc (.cells #[] 3) := ⟨_, rfl⟩
  have hR : Row W w.heap.size #[.slice a0 S.l.length c0, .slice a1 S.T.length c1, .slice a2 S.L.length c2, .slice a3 S.C.length c3] 35 := by rw [hW]; exact (row_new w _ _ rfl).alloc _
  have HB : Hid (Below w.heap.size w W) := by rw [hW]; exact ((Below.refl _ _).alloc (Nat.le_refl _) _).alloc (by simp) _
  have hWs2 : w.heap.size + 1 < W.heap.size := by rw [hW]; simp
  have HC := hidI (specLivesOf_calls S _ _ _ _ true o y W hn (by rw [hW]; exact (h.alloc _).alloc _ : StAt W S (.slice a0 S.l.length c0) (.slice a1 S.T.length c1) (.slice a2 S.L.length c2) (.slice a3 S.C.length c3)))
  have HO : Hid (W.ownsRow (w.heap.size + 1) 3 1 (.slice (some ⟨w.heap.size + 1, 0, none⟩) 0 0) 0 (intV [])) := by rw [hW]; exact own_none _ 3 1 (by simp) (Nat.le_refl _)
  have HW : Hid ((w.alloc (.cells #[.slice a0 S.l.length c0, .slice a1 S.T.length c1, .slice a2 S.L.length c2, .slice a3 S.C.length c3] 35)).alloc (.cells #[] 3) = W) := hW.symm
  obtain ⟨d0, d1, d2, d3⟩ := Row.four hR
  rw [hW] at d0 d1 d2 d3
  obtain ⟨i0, hi, hz0, hz1, hz2⟩ := info_parts infoInt
  have HVL : Hid (valsL S.L o y = valsI ((livesOf S.L true o y).map Li.v)) := rfl
  have HLL : Hid ((livesOf S.L true o y).length ≤ 1048576) := Nat.le_trans (List.length_filter_le _ _) hn
  obtain ⟨R, hRR⟩ : ∃ R, R = livesOf S.L true o y := ⟨_, rfl⟩
  rw [← hRR] at HC HVL HLL
  rw [HVL.out]
  have hRn := HLL.out
  clear hW h hR HVL HLL hn hRR
  go_enter Try.func18, Try.ntmps18
  go_wp2_with fail
  rw [HW.out]
  refine HC.out.mono ?_
  rintro e w2 ⟨u, rfl, hu, hb⟩
  have hs2 := hb.size
  have HB2 : Hid (Below w.heap.size w w2) := HB.out.trans (hb.mono HB.out.size)
  have HO2 := hidI (own_below HO.out hb)
  have hlt2 := hu.lt
  obtain ⟨aa, ca, rfl, hga⟩ := LiAt.own hu rfl
  have HNE : Hid (∀ g f, aa = some ⟨g, f, none⟩ → w.heap.size + 1 < g) := fun g f h => Nat.lt_of_lt_of_le hWs2 (hlt2 g (by rw [h]; rfl)).1
  obtain ⟨n, hnl⟩ : ∃ n, n = R.length := ⟨_, rfl⟩
  have HL : Hid (n = R.length) := hnl
  have HGA : Hid (LiG w2 aa R) := hga
  have HALL : Hid ((R.take n).map Li.v = R.map Li.v) := by show _ = _; rw [hnl, List.take_length]
  rw [← hnl] at hRn ⊢
  clear hu hb HC HW d0 d1 d2 d3 hga hnl HO hlt2
  go_wp2
  go_loopw [7, 9] (fun x z wr => ∃ k : Nat, k ≤ n ∧ z = .int .i64 k ∧ wr.ownsRow (w.heap.size + 1) 3 1 x (valsI ((R.take k).map Li.v)).length (intV (valsI ((R.take k).map Li.v))) ∧ Below w.heap.size w wr ∧ Below w2.heap.size w2 wr) (fun _ z _ => n - (intOf z).toNat)
  case atStart => exact ⟨0, Nat.zero_le _, rfl, HO2.out, HB2.out, Below.refl _ _⟩
  case round =>
    clear HO2
    obtain ⟨k, hk, rfl, hown, hbel, hap⟩ := hrel
    have HOW := hidI hown
    have HBE := hidI hbel
    have HAP := hidI hap
    have hsz : w.heap.size + 1 ≤ wr.heap.size := by have := hap.size; omega
    have hcl : (valsI ((R.take k).map Li.v)).length ≤ k := by rw [vals_len, List.length_map, List.length_take]; omega
    clear hap hown hbel
    by_cases hlt : k < n
    · have hkl : k < R.length := by rw [← HL.out]; exact hlt
      obtain ⟨g, f, rfl, hg, hcc⟩ := HGA.out (by omega)
      have hk1 : (k : Int) < n := by omega
      have hk0 : (0 : Int) ≤ k := by omega
      have HQ : Hid (∀ wx, Below wr.heap.size wr wx → wx.cell? ⟨g, f + k * 6 + 3, none⟩ = some (.int .i64 R[k].v)) := fun wx h => by
        have := (((hcc k hkl).below HAP.out hg).below h (by have := HAP.out.size; omega))
        exact this.2.2.2.1
      have HTK : Hid (valsI ((R.take (k + 1)).map Li.v) = ins (fun x => decide (R[k].v < x)) R[k].v (valsI ((R.take k).map Li.v))) := by show _ = _; rw [map_take_snoc R k hkl, valsI_snoc]
      generalize R[k].v = v at *
      generalize valsI ((R.take k).map Li.v) = P at *
      obtain ⟨m, hm⟩ : ∃ m, m = P.length := ⟨_, rfl⟩
      have HM : Hid (m = P.length) := hm
      have HEN : Hid (∀ (N : List Int) (b : Bool), insP (fun x => decide (v < x)) v (P.take m) = (N, b) → ins (fun x => decide (v < x)) v P = if b then N else N ++ [v]) := fun N b h => by
        rw [hm, List.take_length] at h
        rw [← insP_end, h]
      obtain ⟨oa, oc, rfl, hga⟩ := own_shape HOW.out
      have HGO : Hid (OwnAt wr (w.heap.size + 1) P.length oa (intV P)) := hga
      have HN0 : Hid ((wr.alloc (.cells #[] 3)).ownsRow wr.heap.size 3 1 (.slice (some ⟨wr.heap.size, 0, none⟩) 0 0) ([] : List Int).length (intV [])) := own_none wr 3 1 rfl (Nat.le_refl _)
      have HNB : Hid (Below wr.heap.size wr (wr.alloc (.cells #[] 3))) := (Below.refl _ _).alloc (Nat.le_refl _) _
      rw [← hm] at hcl HGO ⊢
      clear hcc hkl hm hga HOW
      go_wp2
      rename World => Z
      go_loopw [10, 11, 12] (fun x q z wq => ∃ (j : Nat) (N : List Int) (b : Bool), j ≤ m ∧ z = .int .i64 j ∧ q = .bool b ∧ N.length ≤ j + 1 ∧ (b = false → N.length ≤ j) ∧ insP (fun x => decide (v < x)) v (P.take j) = (N, b) ∧ wq.ownsRow Z.heap.size 3 1 x N.length (intV N) ∧ Below Z.heap.size Z wq) (fun _ _ z _ => m - (intOf z).toNat)
      case atStart => exact ⟨0, [], false, Nat.zero_le _, rfl, rfl, by simp, by simp, rfl, HN0.out, HNB.out⟩
      case round =>
        clear HN0 HNB
        obtain ⟨j, N, b, hj, rfl, rfl, hnl, hnf, hin, hown, hbel⟩ := hrel
        have HOW := hidI hown
        have HB := hidI hbel
        have HIN := hidI hin
        have HNF := hidI hnf
        have hsq := hbel.size
        clear hown hbel hin hnf
        by_cases hjm : j < m
        · have hjl : j < P.length := by rw [← HM.out]; exact hjm
          obtain ⟨go, rfl, hgo, hgl, hoc⟩ := HGO.out (by omega)
          have hj1 : (j : Int) < m := by omega
          have hj0 : (0 : Int) ≤ j := by omega
          have HC0 : Hid (∀ wx, Below Z.heap.size Z wx → wx.cell? ⟨go, j, none⟩ = some (.int .i64 P[j])) := fun wx h => (h.cell (p := ⟨go, j, none⟩) hgl).trans (hoc j _ (by simp [intV, hjl]))
          have HIS := hidI (insP_snoc (fun x => decide (v < x)) v (P.take j) P[j])
          replace HIS : Hid (insP (fun x => decide (v < x)) v (P.take (j + 1)) = if b = false ∧ decide (v < P[j]) = true then (N ++ [v] ++ [P[j]], true) else (N ++ [P[j]], b)) := by
            show _ = _
            rw [take_snoc P j hjl, HIS.out, HIN.out]
          generalize P[j] = x at *
          have c0 := HC0.out wr HB.out
          have c1 := HQ.out wr HB.out
          clear hoc hjl
          cases b with
          | true =>
            have HIE : Hid (insP (fun x => decide (v < x)) v (P.take (j + 1)) = (N ++ [x], true)) := by show _ = _; rw [HIS.out, if_neg (by simp)]
            clear HIS HIN
            go_wp2
            go_quiet (fail)
            have hbq := below_drewN HB.out nq
            have hoq := own_below HOW.out (below_drewN (Below.refl _ _) nq)
            generalize wr.drewN nq = wq at *
            clear HB HOW c0 c1
            have hqs := hbq.size
            have HOWN := hidI (hoq.alloc (.cells #[Value.int .i64 x] 3))
            have HOB : Hid (∀ k', u10.ownBlock = some k' → Z.heap.size ≤ k') := fun k' hk' => (hoq.lt k' hk').1
            have HBQ := hidI hbq
            have c2 := HC0.out wq hbq
            clear hoq hbq
            go_wp2_with (at_builtin; refine wpList_append_own _ rfl _ _ 22 rfl Z.heap.size 3 i0 (.int .i64 0) 1 8 Try.underlying22 hi hz0 hz1 hz2 rfl (by decide) _ _ _ rfl HOWN.out ⟨wq.heap.size, 0, none⟩ 1 1 [Value.int .i64 x] rfl rfl (one_new _ _ _) (by intro u' hu'; simp at hu'; subst hu'; rfl) (by unfold maxLen; omega) (by omega) (by simp; omega) ?_)
            intro v2 w3 hown3 hgrow hne
            have hb3 : Below Z.heap.size Z w3 := (HBQ.out.alloc hqs _).grown hgrow (by simp; omega) HOB.out
            have HO3 : Hid (w3.ownsRow Z.heap.size 3 1 v2 (N ++ [x]).length (intV (N ++ [x]))) := by
              show World.ownsRow _ _ _ _ _ _ _
              rw [intV_snoc, len_snoc]; exact hown3
            clear hown3 hgrow hne HOWN HOB HBQ c2
            go_wp2
            go_roundw
            case rel => exact ⟨j + 1, N ++ [x], true, by omega, by go_num, rfl, by simp; omega, (fun h => by cases h), HIE.out, HO3.out, hb3⟩
            case measure => simp [intOf]; omega
          | false =>
            by_cases hlx : v < x
            · have HIE : Hid (insP (fun x => decide (v < x)) v (P.take (j + 1)) = (N ++ [v] ++ [x], true)) := by show _ = _; rw [HIS.out, if_pos ⟨rfl, decide_eq_true hlx⟩]
              clear HIS HIN
              go_wp2
              go_quiet (fail)
              have hbq := below_drewN HB.out nq
              have hoq := own_below HOW.out (below_drewN (Below.refl _ _) nq)
              generalize wr.drewN nq = wq at *
              clear HB HOW c0 c1
              have hqs := hbq.size
              have HOWN := hidI (hoq.alloc (.cells #[Value.int .i64 v] 3))
              have HOB : Hid (∀ k', u10.ownBlock = some k' → Z.heap.size ≤ k') := fun k' hk' => (hoq.lt k' hk').1
              have HBQ := hidI hbq
              have c3 := HQ.out wq hbq
              have hln := HNF.out (by simp)
              clear hoq hbq
              go_wp2_with (at_builtin; refine wpList_append_own _ rfl _ _ 22 rfl Z.heap.size 3 i0 (.int .i64 0) 1 8 Try.underlying22 hi hz0 hz1 hz2 rfl (by decide) _ _ _ rfl HOWN.out ⟨wq.heap.size, 0, none⟩ 1 1 [Value.int .i64 v] rfl rfl (one_new _ _ _) (by intro u' hu'; simp at hu'; subst hu'; rfl) (by unfold maxLen; omega) (by omega) (by simp; omega) ?_)
              intro v2 w3 hown3 hgrow hne
              have hb3 : Below Z.heap.size Z w3 := (HBQ.out.alloc hqs _).grown hgrow (by simp; omega) HOB.out
              have hs3 := hb3.size
              have HO3 : Hid ((w3.alloc (.cells #[Value.int .i64 x] 3)).ownsRow Z.heap.size 3 1 v2 (N ++ [v]).length (intV (N ++ [v]))) := by
                refine World.ownsRow.alloc ?_ _
                rw [intV_snoc, len_snoc]; exact hown3
              have HOB3 : Hid (∀ k', v2.ownBlock = some k' → Z.heap.size ≤ k') := fun k' hk' => (hown3.lt k' hk').1
              have hlp : (N ++ [v]).length = N.length + 1 := len_snoc _ _
              have c2 := HC0.out w3 hb3
              have HB3 := hidI hb3
              clear hown3 hgrow hne HOWN HOB HBQ c3 hb3
              go_wp2_with (at_builtin; refine wpList_append_own _ rfl _ _ 22 rfl Z.heap.size 3 i0 (.int .i64 0) 1 8 Try.underlying22 hi hz0 hz1 hz2 rfl (by decide) _ _ _ rfl HO3.out ⟨w3.heap.size, 0, none⟩ 1 1 [Value.int .i64 x] rfl rfl (one_new _ _ _) (by intro u' hu'; simp at hu'; subst hu'; rfl) (by unfold maxLen; omega) (by omega) (by simp; omega) ?_)
              intro v3 w4 hown4 hgrow4 hne4
              have hb4 : Below Z.heap.size Z w4 := (HB3.out.alloc hs3 _).grown hgrow4 (by simp; omega) HOB3.out
              have HO4 : Hid (w4.ownsRow Z.heap.size 3 1 v3 (N ++ [v] ++ [x]).length (intV (N ++ [v] ++ [x]))) := by
                show World.ownsRow _ _ _ _ _ _ _
                rw [intV_snoc, len_snoc, len_snoc]; exact hown4
              clear hown4 hgrow4 hne4 HO3 HOB3 HB3 c2
              go_wp2
              go_roundw
              case rel => exact ⟨j + 1, N ++ [v] ++ [x], true, by omega, by go_num, rfl, by simp; omega, (fun h => by cases h), HIE.out, HO4.out, hb4⟩
              case measure => simp [intOf]; omega
            · have HIE : Hid (insP (fun x => decide (v < x)) v (P.take (j + 1)) = (N ++ [x], false)) := by show _ = _; rw [HIS.out, if_neg (by simp; omega)]
              clear HIS HIN
              go_wp2
              go_quiet (fail)
              have hbq := below_drewN HB.out nq
              have hoq := own_below HOW.out (below_drewN (Below.refl _ _) nq)
              generalize wr.drewN nq = wq at *
              clear HB HOW c0 c1
              have hqs := hbq.size
              have HOWN := hidI (hoq.alloc (.cells #[Value.int .i64 x] 3))
              have HOB : Hid (∀ k', u10.ownBlock = some k' → Z.heap.size ≤ k') := fun k' hk' => (hoq.lt k' hk').1
              have HBQ := hidI hbq
              have c2 := HC0.out wq hbq
              have hln := HNF.out (by simp)
              clear hoq hbq
              go_wp2_with (at_builtin; refine wpList_append_own _ rfl _ _ 22 rfl Z.heap.size 3 i0 (.int .i64 0) 1 8 Try.underlying22 hi hz0 hz1 hz2 rfl (by decide) _ _ _ rfl HOWN.out ⟨wq.heap.size, 0, none⟩ 1 1 [Value.int .i64 x] rfl rfl (one_new _ _ _) (by intro u' hu'; simp at hu'; subst hu'; rfl) (by unfold maxLen; omega) (by omega) (by simp; omega) ?_)
              intro v2 w3 hown3 hgrow hne
              have hb3 : Below Z.heap.size Z w3 := (HBQ.out.alloc hqs _).grown hgrow (by simp; omega) HOB.out
              have HO3 : Hid (w3.ownsRow Z.heap.size 3 1 v2 (N ++ [x]).length (intV (N ++ [x]))) := by
                show World.ownsRow _ _ _ _ _ _ _
                rw [intV_snoc, len_snoc]; exact hown3
              clear hown3 hgrow hne HOWN HOB HBQ c2
              go_wp2
              go_roundw
              case rel => exact ⟨j + 1, N ++ [x], false, by omega, by go_num, rfl, by simp; omega, (fun _ => by simp; omega), HIE.out, HO3.out, hb3⟩
              case measure => simp [intOf]; omega
        · have hj1 : ¬ ((j : Int) < m) := by omega
          have HE : Hid (ins (fun x => decide (v < x)) v P = if b then N else N ++ [v]) := by
            have hjm' : j = m := by omega
            exact HEN.out N b (hjm' ▸ HIN.out)
          have HWZ : Hid (w.heap.size + 1 ≤ Z.heap.size) := hsz
          have c1 := HQ.out wr HB.out
          cases b with
          | true =>
            have HR : Hid (wr.ownsRow (w.heap.size + 1) 3 1 u10 (valsI ((R.take (k + 1)).map Li.v)).length (intV (valsI ((R.take (k + 1)).map Li.v)))) := by
              show World.ownsRow _ _ _ _ _ _ _
              rw [HTK.out, HE.out]; exact own_base HOW.out HWZ.out
            have HF : Hid (Below w.heap.size w wr ∧ Below w2.heap.size w2 wr) := ⟨HBE.out.trans (HB.out.mono HBE.out.size), HAP.out.trans (HB.out.mono HAP.out.size)⟩
            clear HOW HB HBE HAP HIN HNF
            go_wp2
            go_roundw
            case rel => exact ⟨k + 1, by omega, by go_num, HR.out, HF.out.1, HF.out.2⟩
            case measure => simp [intOf]; omega
          | false =>
            have HOWN := hidI (HOW.out.alloc (.cells #[Value.int .i64 v] 3))
            have HOB : Hid (∀ k', u10.ownBlock = some k' → Z.heap.size ≤ k') := fun k' hk' => (HOW.out.lt k' hk').1
            clear HOW
            go_wp2_with (at_builtin; refine wpList_append_own _ rfl _ _ 22 rfl Z.heap.size 3 i0 (.int .i64 0) 1 8 Try.underlying22 hi hz0 hz1 hz2 rfl (by decide) _ _ _ rfl HOWN.out ⟨wr.heap.size, 0, none⟩ 1 1 [Value.int .i64 v] rfl rfl (one_new _ _ _) (by intro u' hu'; simp at hu'; subst hu'; rfl) (by unfold maxLen; omega) (by omega) (by simp; omega) ?_)
            intro v2 w3 hown3 hgrow hne
            have hb3 : Below Z.heap.size Z w3 := (HB.out.alloc hsq _).grown hgrow (by simp; omega) HOB.out
            have HR : Hid (w3.ownsRow (w.heap.size + 1) 3 1 v2 (valsI ((R.take (k + 1)).map Li.v)).length (intV (valsI ((R.take (k + 1)).map Li.v)))) := by
              show World.ownsRow _ _ _ _ _ _ _
              rw [HTK.out, HE.out]
              simp only [Bool.false_eq_true, if_false]
              rw [intV_snoc, len_snoc]; exact own_base hown3 HWZ.out
            have HF : Hid (Below w.heap.size w w3 ∧ Below w2.heap.size w2 w3) := ⟨HBE.out.trans (hb3.mono HBE.out.size), HAP.out.trans (hb3.mono HAP.out.size)⟩
            clear hown3 hgrow hne HOWN HOB HB HBE HAP HIN HNF hb3 c1
            go_wp2
            go_roundw
            case rel => exact ⟨k + 1, by omega, by go_num, HR.out, HF.out.1, HF.out.2⟩
            case measure => simp [intOf]; omega
    · have hk1 : ¬ ((k : Int) < n) := by omega
      have hkn : k = n := by omega
      have HU : Hid (wr.ownsRow w.heap.size 3 1 u7 (valsI (R.map Li.v)).length (intV (valsI (R.map Li.v)))) := by
        have := HOW.out
        rw [hkn, HALL.out] at this
        exact own_base this (by omega)
      clear HOW hkn
      go_wp2
      go_ret
      exact ⟨_, rfl, HU.out, HBE.out⟩

end Go.Proofs.Ytahdgagipmpcgaa
