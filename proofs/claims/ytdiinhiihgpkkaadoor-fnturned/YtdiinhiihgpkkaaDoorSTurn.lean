/- A text whose one byte is another is not unsealed; one that was sealed is. -/
import Derived.Test.YtdiinhiihgpkkaaDoorSUn
namespace Go.Proofs.YtdiinhiihgpkkaaDoor

theorem ba_ext {a b : ByteArray} (h : a.data.toList = b.data.toList) : a = b := by
  apply ByteArray.ext
  rw [← Array.toArray_toList (xs := a.data), ← Array.toArray_toList (xs := b.data), h]
theorem head_list (s : ByteArray) : (headB s).data.toList = s.data.toList.take (s.size - 4) := by
  unfold headB; simp [ByteArray.data_extract, Array.toList_extract, List.extract_eq_take_drop]
theorem tail_list (s : ByteArray) : (tailB s).data.toList = s.data.toList.drop (s.size - 4) := by
  unfold tailB
  simp [ByteArray.data_extract, Array.toList_extract, List.extract_eq_take_drop]
  rw [List.take_of_length_le]
  simp
theorem seal_list (s : ByteArray) : (sealB s).data.toList = s.data.toList ++ four (sumOf s.data.toList) := by
  unfold sealB; simp
theorem seal_size (s : ByteArray) : (sealB s).size = s.size + 4 := by
  unfold sealB; simp [ByteArray.size_append]; rfl

theorem un_seal (s : ByteArray) (h : s.size ≤ 20000) : unAll (sealB s) = (s, true) := by
  have hh : headB (sealB s) = s := by
    apply ba_ext
    rw [head_list, seal_list, seal_size, show s.size + 4 - 4 = s.data.toList.length by simp, List.take_left]
  have ht : tailB (sealB s) = ⟨(four (sumOf s.data.toList)).toArray⟩ := by
    apply ba_ext
    rw [tail_list, seal_list, seal_size, show s.size + 4 - 4 = s.data.toList.length by simp, List.drop_left]
  unfold unAll
  rw [hh, if_pos ⟨by rw [seal_size]; omega, by rw [seal_size]; omega, ht⟩]

/-- Turned at one place. -/
theorem un_turned (s : ByteArray) (i : Nat) (y : UInt8) (t : ByteArray) (hi : i < s.size + 4) (hy : (sealB s).data.toList[i]? ≠ some y) (ht : t.data.toList = (sealB s).data.toList.set i y) : (unAll t).2 = false := by
  have hsz : t.size = s.size + 4 := by
    have := congrArg List.length ht
    simp only [Array.length_toList, List.length_set] at this
    have h2 := seal_size s
    simp only [ByteArray.size] at h2 ⊢
    omega
  unfold unAll
  rw [if_neg]
  rintro ⟨-, -, h⟩
  have h' := congrArg (fun b : ByteArray => b.data.toList) h
  simp only [tail_list, head_list] at h'
  rw [ht, seal_list, hsz, show s.size + 4 - 4 = s.data.toList.length by simp] at h'
  rw [seal_list] at hy
  have hl : s.data.toList.length = s.size := by simp
  by_cases hc : i < s.size
  · rw [List.set_append_left _ _ (by omega)] at h'
    have e1 : (s.data.toList.set i y).length = s.data.toList.length := by simp
    rw [← e1, List.drop_left, List.take_left] at h'
    have hfi := four_inj (sumOf_lt _) (sumOf_lt _) h'
    rw [List.getElem?_append_left (by omega)] at hy
    have hx : s.data.toList[i]? = some s.data.toList[i] := List.getElem?_eq_getElem (by omega)
    rw [hx] at hy
    have hne : s.data.toList[i] ≠ y := fun h => hy (by rw [h])
    have p1 : s.data.toList = s.data.toList.take i ++ s.data.toList[i] :: s.data.toList.drop (i + 1) := by rw [← List.drop_eq_getElem_cons (by omega), List.take_append_drop]
    have p2 : s.data.toList.set i y = s.data.toList.take i ++ y :: s.data.toList.drop (i + 1) := List.set_eq_take_append_cons_drop .. |>.trans (by rw [if_pos (by omega)])
    refine sumMore_turned (s := 4294967295) (by omega) (s.data.toList.take i) (s.data.toList.drop (i + 1)) hne ?_
    rw [← p1, ← p2]
    exact hfi
  · rw [List.set_append_right _ _ (by omega)] at h'
    rw [List.drop_left, List.take_left] at h'
    rw [List.getElem?_append_right (by omega)] at hy
    apply hy
    have : ((four (sumOf s.data.toList)).set (i - s.data.toList.length) y)[i - s.data.toList.length]? = some y := by
      rw [List.getElem?_set_self]; rw [four_len]; omega
    rw [← this, h']
end Go.Proofs.YtdiinhiihgpkkaaDoor
