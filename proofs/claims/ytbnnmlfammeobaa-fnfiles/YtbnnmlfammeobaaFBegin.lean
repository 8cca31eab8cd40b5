/- What the law on files asks of one text and another, and of the functions at what it makes. -/
import Derived.Test.YtbnnmlfammeobaaFDraw
import Derived.Test.YtbnnmlfammeobaaFLaw
import Derived.Laws.StructEq
namespace Go.Proofs.Ytbnnmlfammeobaa
open Go.RowKit

theorem begins_calls (a b : ByteArray) (w : World) (h1 : a.size ≤ b.size) (h2 : b.extract 0 a.size = a) :
    Calls Try.prog 18 #[.string a, .string b] w fun e w' => e = .returned (.bool true) ∧ w' = w := by
  have h3 : (a.size : Int) ≤ (b.size : Int) := by omega
  have hsl : ∀ wx, (Instr.slice 9 (.string b) none (some (.int .i64 (a.size : Int))) none).run Try.prog wx = .ok (.string a) wx := by
    intro wx
    rw [run_slice_string_h wx 9 b Try.underlying9 .i64 (a.size : Int) (by omega) (by omega), Int.toNat_natCast, h2]
  go_enter Try.func18, Try.ntmps18
  go_wp2
  go_ret
  exact ⟨by simp, rfl⟩

theorem ext_ext (s : ByteArray) (i j : Nat) (h : i ≤ j) : (s.extract 0 j).extract 0 i = s.extract 0 i := by
  apply ByteArray.ext
  apply Array.ext'
  simp only [ByteArray.data_extract, Array.toList_extract, List.extract_eq_take_drop, List.drop_zero, Nat.sub_zero, List.take_take]
  rw [Nat.min_eq_left h]
theorem ext_app (s t : ByteArray) (i : Nat) (h : i ≤ s.size) : (s ++ t).extract 0 i = s.extract 0 i := by
  apply ByteArray.ext
  apply Array.ext'
  simp only [ByteArray.data_extract, ByteArray.data_append, Array.toList_extract, Array.toList_append, List.extract_eq_take_drop, List.drop_zero, Nat.sub_zero]
  exact List.take_append_of_le_length (by have : s.data.toList.length = s.size := rfl; omega)

theorem crashed_some (s : ByteArray) (k : Nat) (keep : Int) (w : World) (hm : s.size ≤ 20000) (hk : k ≤ s.size) :
    Calls Try.prog 11 #[.agg #[.string s, .int .i64 (k : Int)], .int .i64 keep] w fun e w' => ∃ A : ByteArray, A.size ≤ s.size ∧ k ≤ A.size ∧ A.extract 0 k = s.extract 0 k ∧ s.extract 0 A.size = A ∧ e = .returned (.agg #[.string A, .int .i64 (A.size : Int)]) ∧ Below w.heap.size w w' := by
  refine (implCrashed_ok s k keep w hm hk).mono ?_
  rintro e w' ⟨rfl, hb⟩
  have hx : kept keep (s.size - k) ≤ s.size - k := by unfold kept; omega
  generalize kept keep (s.size - k) = x at hx ⊢
  have hsz : (s.extract 0 (k + x)).size = k + x := by simp; omega
  exact ⟨s.extract 0 (k + x), by omega, by omega, ext_ext s k (k + x) (by omega), by rw [hsz], by rw [hsz], hb⟩
theorem crashed_all (s : ByteArray) (w : World) (hm : s.size ≤ 20000) :
    Calls Try.prog 11 #[.agg #[.string s, .int .i64 (s.size : Int)], .int .i64 0] w fun e w' => e = .returned (.agg #[.string s, .int .i64 (s.size : Int)]) ∧ Below w.heap.size w w' := by
  refine (implCrashed_ok s s.size 0 w hm (Nat.le_refl _)).mono ?_
  rintro e w' ⟨rfl, hb⟩
  refine ⟨?_, hb⟩
  have : kept 0 (s.size - s.size) = 0 := by unfold kept; simp
  rw [this]; simp
theorem crashed_none (s : ByteArray) (k : Nat) (w : World) (hm : s.size ≤ 20000) (hk : k ≤ s.size) :
    Calls Try.prog 11 #[.agg #[.string s, .int .i64 (k : Int)], .int .i64 0] w fun e w' => e = .returned (.agg #[.string (s.extract 0 k), .int .i64 (k : Int)]) ∧ Below w.heap.size w w' := by
  refine (implCrashed_ok s k 0 w hm hk).mono ?_
  rintro e w' ⟨rfl, hb⟩
  refine ⟨?_, hb⟩
  have : kept 0 (s.size - k) = 0 := by unfold kept; simp
  rw [this]; simp
theorem appended_more (s : ByteArray) (k : Nat) (w : World) (hm : s.size < 20) (hk : k ≤ s.size) :
    Calls Try.prog 12 #[.agg #[.string s, .int .i64 (k : Int)], .string { data := #[109, 111, 114, 101] }] w fun e w' => ∃ M : ByteArray, M.size ≤ 100 ∧ k ≤ M.size ∧ M.extract 0 k = s.extract 0 k ∧ e = .returned (.tuple #[.agg #[.string M, .int .i64 (k : Int)], .bool true]) ∧ Below w.heap.size w w' := by
  have h4 : ({ data := #[109, 111, 114, 101] } : ByteArray).size = 4 := rfl
  refine (implAppended_ok s { data := #[109, 111, 114, 101] } k w (by omega) hk).mono ?_
  rintro e w' ⟨rfl, hb⟩
  refine ⟨_, ?_, ?_, ext_app s _ k hk, rfl, hb⟩ <;> (rw [ByteArray.size_append, h4]; omega)

theorem file_fields : Try.prog.underlying 25 = some (.struct (Try.prog.fieldsOf 25)) := by kernel_rfl
theorem file_held : Try.prog.stoodInHeld 25 = false := by kernel_rfl
theorem file_guard : Try.prog.eqGuardType Try.prog.depth 25 = false := by kernel_rfl
theorem eq_file_run (a : ByteArray) (b : Int) (w : World) : (Op.equalIn 10000 25 (.agg #[.string a, .int .i64 b]) (.agg #[.string a, .int .i64 b])).run Try.prog w = .ok true w := by
  rw [run_equalIn_struct w 9999 25 _ _ file_fields file_held]
  simp only [Program.fieldsOf, Try.underlying25]
  simp [Op.eqFields, go_sem]
theorem field_run (a : ByteArray) (b : Int) (w : World) : (Instr.field 25 (.agg #[.string a, .int .i64 b]) 0).run Try.prog w = .ok (.string a) w := by
  simp [Instr.field, run_underlying Try.underlying25, asAgg, go_sem]

end Go.Proofs.Ytbnnmlfammeobaa
