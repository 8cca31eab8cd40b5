/- A text is put into a list of texts, as the specification does it; the keys of the lives, as it tells them. -/
import Derived.Test.YtajihpcihlbjgaaGMath
import Derived.Test.YtajihpcihlbjgaaGStr
import Derived.Test.YtajihpcihlbjgaaTFun3
import Derived.Laws.Cover1
import Derived.Sort.Walk0
namespace Go.Proofs.Ytajihpcihlbjgaa
set_option maxRecDepth 100000
set_option linter.unusedVariables false
open Go.RowKit

theorem infoStrG : (Try.prog.info? 9).map (fun i => (i.zero, i.size, i.bytes)) = some (some (.string ByteArray.empty), 1, 16) := by kernel_rfl
theorem back_str (s : ByteArray) : (⟨s.data.toList.toArray⟩ : ByteArray) = s := by simp
theorem toList_mk (x : List UInt8) : (⟨x.toArray⟩ : ByteArray).toList = x := by rw [ByteArray.toList_eq]
theorem toList_of (s : ByteArray) : s.toList = s.data.toList := ByteArray.toList_eq s
theorem strC_snoc (l : List (List UInt8)) (x : List UInt8) : strC (l ++ [x]) = strC l ++ [Value.string ⟨x.toArray⟩] := by simp [strC]
theorem len_snoc {α : Type} (l : List α) (x : α) : (l ++ [x]).length = l.length + 1 := by simp
theorem take_snoc {α : Type} (l : List α) (k : Nat) (h : k < l.length) : l.take (k + 1) = l.take k ++ [l[k]] := List.take_succ_eq_append_getElem h
theorem less_yes (x s : List UInt8) (h : s < x) : Op.bytesLess x s = false := by
  rw [bytesLess_eq]; exact decide_eq_false (fun k => List.lt_irrefl _ (List.lt_trans h k))
theorem less_no (x s : List UInt8) (h : ¬ s < x) (hne : x ≠ s) : Op.bytesLess x s = true := by
  rw [bytesLess_eq]; exact decide_eq_true (by_lt (List.not_lt.1 h) hne)

end Go.Proofs.Ytajihpcihlbjgaa
