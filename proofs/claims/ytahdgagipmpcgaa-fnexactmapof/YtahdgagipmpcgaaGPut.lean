/- A text is put into a list of texts, as the specification does it; the keys of the lives, as it tells them. -/
import Derived.Test.YtahdgagipmpcgaaGMath
import Derived.Test.YtahdgagipmpcgaaGStr
import Derived.Test.YtahdgagipmpcgaaTFun3
import Derived.Laws.Cover1
import Derived.Sort.Walk0
namespace Go.Proofs.Ytahdgagipmpcgaa
set_option maxRecDepth 100000
set_option linter.unusedVariables false
open Go.RowKit

theorem infoStrG : (Try.prog.info? 9).map (fun i => (i.zero, i.size, i.bytes)) = some (some (.string ByteArray.empty), 1, 16) := by kernel_rfl
theorem back_str (s : ByteArray) : (⟨s.data.toList.toArray⟩ : ByteArray) = s := by simp
theorem toList_mk (x : List UInt8) : (⟨x.toArray⟩ : ByteArray).toList = x := by rw [ByteArray.toList_eq]
theorem toList_of (s : ByteArray) : s.toList = s.data.toList := ByteArray.toList_eq s
theorem strC_snoc (l : List (List UInt8)) (x : List UInt8) : strC (l ++ [x]) = strC l ++ [Value.string ⟨x.toArray⟩] := by simp [strC]
theorem len_snoc {α : Type} (l : List α) (x : α) : (l ++ [x]).length = l.length + 1 := by simp
theorem take_snoc {α : Type} (l : List α) (k : Nat) (h : k < l.length) : l.take (k + 1) = l.take k ++ [l[k]] := List.take_succ_eq_append_getElem h
theorem less_yes (x s : List UInt8) (h : s < x) : Op.bytesLess x s = false := by
  rw [bytesLess_eq]; exact decide_eq_false (fun k => List.lt_irrefl _ (List.lt_trans h k))
theorem less_no (x s : List UInt8) (h : ¬ s < x) (hne : x ≠ s) : Op.bytesLess x s = true := by
  rw [bytesLess_eq]; exact decide_eq_true (by_lt (List.not_lt.1 h) hne)

set_option maxHeartbeats 8000000 in
theorem specPut_calls {v : Value} {B : Nat} {l : List (List UInt8)} (s : ByteArray) (w : World) (hn : l.length ≤ 1048576) (ho : w.ownsRow B 9 1 v l.length (strC l)) (hB : B ≤ w.heap.size) :
    Calls Try.prog 136 #[v, .string s] w fun e w' => ∃ u, e = .returned u ∧ w'.ownsRow B 9 1 u (putS l s.data.toList).length (strC (putS l s.data.toList)) ∧ Below w.heap.size w w' := by
  obtain ⟨aa, ca, rfl, ga⟩ := own_shape ho
  have HGA : Hid (OwnAt w B l.length aa (strC l)) := ga
  obtain ⟨n, hnl⟩ : ∃ n, n = l.length := ⟨_, rfl⟩
  have HL : Hid (n = l.length) := hnl
  have HBB : Hid (B ≤ w.heap.size) := hB
  have HSS : Hid ((⟨s.data.toList.toArray⟩ : ByteArray) = s) := back_str s
  have HSL := hidI (toList_of s)
  obtain ⟨t, ht⟩ : ∃ t, t = s.data.toList := ⟨_, rfl⟩
  rw [← ht] at HSS HSL ⊢
  have HRT : Hid (t ∈ l → (w.ownsRow B 9 1 (.slice aa l.length ca) (putS l t).length (strC (putS l t)))) := fun h => by unfold putS; rw [if_pos h]; exact ho
  have HEN : Hid (∀ (P : List (List UInt8)) (b : Bool), insP (fun x => decide (t < x)) t (l.take n) = (P, b) → t ∉ l.take n → putS l t = if b then P else P ++ [t]) := fun P b h hm => by
    rw [hnl, List.take_length] at h hm
    unfold putS; rw [if_neg hm, ← insP_end, h]
  rw [← hnl] at hn ho HGA HRT ⊢
  clear hnl ga hB ht
  obtain ⟨i0, hi, hz0, hz1, hz2⟩ := info_parts infoStrG
  have HO0 : Hid ((w.alloc (.cells #[] 9)).ownsRow w.heap.size 9 1 (.slice (some ⟨w.heap.size, 0, none⟩) 0 0) (([] : List (List UInt8))).length (strC [])) := own_none w 9 1 rfl (Nat.le_refl _)
  have HB0 : Hid (Below w.heap.size w (w.alloc (.cells #[] 9))) := (Below.refl _ _).alloc (Nat.le_refl _) _
  clear ho
  go_enter Try.func136, Try.ntmps136
  go_wp2
  go_loopw [5, 6, 7] (fun x q z wr => ∃ (k : Nat) (P : List (List UInt8)) (b : Bool), k ≤ n ∧ z = .int .i64 k ∧ q = .bool b ∧ P.length ≤ k + 1 ∧ (b = false → P.length ≤ k) ∧ insP (fun x => decide (t < x)) t (l.take k) = (P, b) ∧ t ∉ l.take k ∧ wr.ownsRow w.heap.size 9 1 x P.length (strC P) ∧ Below w.heap.size w wr) (fun _ _ z _ => n - (intOf z).toNat)
  case atStart => exact ⟨0, [], false, Nat.zero_le _, rfl, rfl, by simp, by simp, rfl, by simp, HO0.out, HB0.out⟩
  case round =>
    clear HO0 HB0
    obtain ⟨k, P, b, hk, rfl, rfl, hpl, hpf, hin, hnm, hown, hbel⟩ := hrel
    have HOW := hidI hown
    have HBE := hidI hbel
    have HIN := hidI hin
    have HNM := hidI hnm
    have HPF := hidI hpf
    have hsz := hbel.size
    clear hpf
    by_cases hlt : k < n
    · have hkl : k < l.length := by rw [← HL.out]; exact hlt
      obtain ⟨g, rfl, hgB, hg, hcc⟩ := HGA.out (by omega)
      have hk1 : (k : Int) < n := by omega
      have hk0 : (0 : Int) ≤ k := by omega
      have HCC : Hid (∀ wx, Below w.heap.size w wx → wx.cell? ⟨g, k, none⟩ = some (.string ⟨(l[k]).toArray⟩)) := fun wx h => (h.cell (p := ⟨g, k, none⟩) hg).trans (hcc k _ (strC_at l k hkl))
      have HME : Hid (l[k] = t → t ∈ l) := fun h => h ▸ List.getElem_mem hkl
      have HTK := hidI (take_snoc l k hkl)
      have HXL := hidI (toList_mk l[k])
      generalize l[k] = x at *
      obtain ⟨X, hX⟩ : ∃ X : ByteArray, X = ⟨x.toArray⟩ := ⟨_, rfl⟩
      have HX := hidI hX
      rw [← hX] at HCC HXL
      have c0 := HCC.out wr hbel
      clear hcc hkl hX hown hin hnm
      by_cases hxs : x = t
      · have b1 : (X.toList == s.toList) = true := by rw [HXL.out, HSL.out, hxs]; simp
        have HR : Hid (wr.ownsRow B 9 1 (.slice (some ⟨g, 0, none⟩) n ca) (putS l t).length (strC (putS l t))) := own_below (HRT.out (HME.out hxs)) hbel
        clear hxs hbel
        go_wp2
        go_ret
        exact ⟨_, rfl, HR.out, HBE.out⟩
      · have b1 : (X.toList == s.toList) = false := by rw [HXL.out, HSL.out]; simpa using hxs
        have HNN : Hid (t ∉ l.take (k + 1)) := by
          show _ ∉ _
          rw [HTK.out]; simp only [List.mem_append, List.mem_singleton, not_or]; exact ⟨HNM.out, fun h => hxs h.symm⟩
        have HIS := hidI (insP_snoc (fun x => decide (t < x)) t (l.take k) x)
        replace HIS : Hid (insP (fun x => decide (t < x)) t (l.take (k + 1)) = if b = false ∧ decide (t < x) = true then (P ++ [t] ++ [x], true) else (P ++ [x], b)) := by
          show _ = _
          rw [HTK.out, HIS.out, HIN.out]
        cases b with
        | true =>
          have HIE : Hid (insP (fun x => decide (t < x)) t (l.take (k + 1)) = (P ++ [x], true)) := by show _ = _; rw [HIS.out, if_neg (by simp)]
          have HOWN := hidI (HOW.out.alloc (.cells #[Value.string X] 9))
          have HOB : Hid (∀ k', u5.ownBlock = some k' → w.heap.size ≤ k') := fun k' hk' => (HOW.out.lt k' hk').1
          clear hxs hbel HOW
          go_wp2_with (at_builtin; refine wpList_append_own _ rfl _ _ 29 rfl w.heap.size 9 i0 (.string ByteArray.empty) 1 16 Try.underlying29 hi hz0 hz1 hz2 rfl (by decide) _ _ _ rfl HOWN.out ⟨wr.heap.size, 0, none⟩ 1 1 [Value.string X] rfl rfl (one_new _ _ _) (by intro u' hu'; simp at hu'; subst hu'; rfl) (by unfold maxLen; omega) (by omega) (by simp; omega) ?_)
          intro v2 w2 hown2 hgrow hne2
          have hb2 : Below w.heap.size w w2 := (HBE.out.alloc hsz _).grown hgrow (by simp; omega) HOB.out
          have HO2 : Hid (w2.ownsRow w.heap.size 9 1 v2 (P ++ [x]).length (strC (P ++ [x]))) := by
            show World.ownsRow _ _ _ _ _ _ _
            rw [strC_snoc, len_snoc, ← HX.out]; exact hown2
          clear hown2 hgrow hne2 HOWN
          go_wp2
          go_roundw
          case rel => exact ⟨k + 1, P ++ [x], true, by omega, by go_num, rfl, by simp; omega, (fun h => by cases h), HIE.out, HNN.out, HO2.out, hb2⟩
          case measure => simp [intOf]; omega
        | false =>
          by_cases hlx : t < x
          · have b2 : Op.bytesLess X.toList s.toList = false := by rw [HXL.out, HSL.out]; exact less_yes x t hlx
            have HIE : Hid (insP (fun x => decide (t < x)) t (l.take (k + 1)) = (P ++ [t] ++ [x], true)) := by show _ = _; rw [HIS.out, if_pos ⟨rfl, decide_eq_true hlx⟩]
            have HOWN := hidI (HOW.out.alloc (.cells #[Value.string s] 9))
            have HOB : Hid (∀ k', u5.ownBlock = some k' → w.heap.size ≤ k') := fun k' hk' => (HOW.out.lt k' hk').1
            clear hxs hbel HOW hlx
            go_wp2_with (at_builtin; refine wpList_append_own _ rfl _ _ 29 rfl w.heap.size 9 i0 (.string ByteArray.empty) 1 16 Try.underlying29 hi hz0 hz1 hz2 rfl (by decide) _ _ _ rfl HOWN.out ⟨wr.heap.size, 0, none⟩ 1 1 [Value.string s] rfl rfl (one_new _ _ _) (by intro u' hu'; simp at hu'; subst hu'; rfl) (by unfold maxLen; omega) (by omega) (by simp; omega) ?_)
            intro v2 w2 hown2 hgrow hne2
            have hb2 : Below w.heap.size w w2 := (HBE.out.alloc hsz _).grown hgrow (by simp; omega) HOB.out
            have hs2 := hb2.size
            have HO2 : Hid ((w2.alloc (.cells #[Value.string X] 9)).ownsRow w.heap.size 9 1 v2 (P ++ [t]).length (strC (P ++ [t]))) := by
              refine World.ownsRow.alloc ?_ _
              rw [strC_snoc, len_snoc, HSS.out]; exact hown2
            have HOB2 : Hid (∀ k', v2.ownBlock = some k' → w.heap.size ≤ k') := fun k' hk' => (hown2.lt k' hk').1
            have c2 := HCC.out w2 hb2
            have hlp : (P ++ [t]).length = P.length + 1 := len_snoc _ _
            clear hown2 hgrow hne2 HOWN HOB c0
            go_wp2_with (at_builtin; refine wpList_append_own _ rfl _ _ 29 rfl w.heap.size 9 i0 (.string ByteArray.empty) 1 16 Try.underlying29 hi hz0 hz1 hz2 rfl (by decide) _ _ _ rfl HO2.out ⟨w2.heap.size, 0, none⟩ 1 1 [Value.string X] rfl rfl (one_new _ _ _) (by intro u' hu'; simp at hu'; subst hu'; rfl) (by unfold maxLen; omega) (by omega) (by simp; omega) ?_)
            intro v3 w3 hown3 hgrow3 hne3
            have hb3 : Below w.heap.size w w3 := (hb2.alloc hs2 _).grown hgrow3 (by simp; omega) HOB2.out
            have HO3 : Hid (w3.ownsRow w.heap.size 9 1 v3 (P ++ [t] ++ [x]).length (strC (P ++ [t] ++ [x]))) := by
              show World.ownsRow _ _ _ _ _ _ _
              rw [strC_snoc, len_snoc, len_snoc, ← HX.out]; exact hown3
            clear hown3 hgrow3 hne3 HO2 HOB2 hb2 c2
            go_wp2
            go_roundw
            case rel => exact ⟨k + 1, P ++ [t] ++ [x], true, by omega, by go_num, rfl, by have := HPF.out (by simp); simp; omega, (fun h => by cases h), HIE.out, HNN.out, HO3.out, hb3⟩
            case measure => simp [intOf]; omega
          · have b2 : Op.bytesLess X.toList s.toList = true := by rw [HXL.out, HSL.out]; exact less_no x t hlx hxs
            have HIE : Hid (insP (fun x => decide (t < x)) t (l.take (k + 1)) = (P ++ [x], false)) := by show _ = _; rw [HIS.out, if_neg (by simp [hlx])]
            have HOWN := hidI (HOW.out.alloc (.cells #[Value.string X] 9))
            have HOB : Hid (∀ k', u5.ownBlock = some k' → w.heap.size ≤ k') := fun k' hk' => (HOW.out.lt k' hk').1
            clear hxs hbel HOW hlx
            go_wp2_with (at_builtin; refine wpList_append_own _ rfl _ _ 29 rfl w.heap.size 9 i0 (.string ByteArray.empty) 1 16 Try.underlying29 hi hz0 hz1 hz2 rfl (by decide) _ _ _ rfl HOWN.out ⟨wr.heap.size, 0, none⟩ 1 1 [Value.string X] rfl rfl (one_new _ _ _) (by intro u' hu'; simp at hu'; subst hu'; rfl) (by unfold maxLen; omega) (by omega) (by simp; omega) ?_)
            intro v2 w2 hown2 hgrow hne2
            have hb2 : Below w.heap.size w w2 := (HBE.out.alloc hsz _).grown hgrow (by simp; omega) HOB.out
            have HO2 : Hid (w2.ownsRow w.heap.size 9 1 v2 (P ++ [x]).length (strC (P ++ [x]))) := by
              show World.ownsRow _ _ _ _ _ _ _
              rw [strC_snoc, len_snoc, ← HX.out]; exact hown2
            clear hown2 hgrow hne2 HOWN
            go_wp2
            go_roundw
            case rel => exact ⟨k + 1, P ++ [x], false, by omega, by go_num, rfl, by simp; omega, (fun _ => by have := HPF.out (by simp); simp; omega), HIE.out, HNN.out, HO2.out, hb2⟩
            case measure => simp [intOf]; omega
    · have hk1 : ¬ ((k : Int) < n) := by omega
      have HE : Hid (putS l t = if b then P else P ++ [t]) := by
        have hkn : k = n := by omega
        exact HEN.out P b (hkn ▸ HIN.out) (hkn ▸ HNM.out)
      clear hown hin hnm
      cases b with
      | true =>
        have HR : Hid (wr.ownsRow B 9 1 u5 (putS l t).length (strC (putS l t))) := by
          show World.ownsRow _ _ _ _ _ _ _
          rw [HE.out]; exact own_base HOW.out HBB.out
        clear HOW
        go_wp2
        go_ret
        exact ⟨_, rfl, HR.out, HBE.out⟩
      | false =>
        have HOWN := hidI (HOW.out.alloc (.cells #[Value.string s] 9))
        have HOB : Hid (∀ k', u5.ownBlock = some k' → w.heap.size ≤ k') := fun k' hk' => (HOW.out.lt k' hk').1
        clear hbel HOW
        go_wp2_with (at_builtin; refine wpList_append_own _ rfl _ _ 29 rfl w.heap.size 9 i0 (.string ByteArray.empty) 1 16 Try.underlying29 hi hz0 hz1 hz2 rfl (by decide) _ _ _ rfl HOWN.out ⟨wr.heap.size, 0, none⟩ 1 1 [Value.string s] rfl rfl (one_new _ _ _) (by intro u' hu'; simp at hu'; subst hu'; rfl) (by unfold maxLen; omega) (by omega) (by simp; omega) ?_)
        intro v2 w2 hown2 hgrow hne2
        have HFB : Hid (Below w.heap.size w w2) := (HBE.out.alloc hsz _).grown hgrow (by simp; omega) HOB.out
        have HR : Hid (w2.ownsRow B 9 1 v2 (putS l t).length (strC (putS l t))) := by
          show World.ownsRow _ _ _ _ _ _ _
          rw [HE.out]
          simp only [Bool.false_eq_true, if_false]
          rw [strC_snoc, len_snoc, HSS.out]; exact own_base hown2 HBB.out
        clear hown2 hgrow hne2 HOWN
        go_wp2
        go_ret
        exact ⟨_, rfl, HR.out, HFB.out⟩

end Go.Proofs.Ytahdgagipmpcgaa
