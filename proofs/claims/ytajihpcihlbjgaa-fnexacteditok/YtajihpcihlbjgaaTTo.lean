/- States that are handed in are copied. -/
import Derived.Test.YtajihpcihlbjgaaTBase
import Derived.Test.YtajihpcihlbjgaaALaw2
namespace Go.Proofs.Ytajihpcihlbjgaa
set_option maxRecDepth 100000
set_option linter.unusedVariables false
open Go.RowKit

theorem made_flat (zs : List Value) (s n : Nat) (hs : zs.length = s) (h0 : 0 < s) : (madeCells zs.toArray (n * s)).toList = (List.replicate n zs).flatten := by
  have hw : Wide s (List.replicate n zs) := fun r hr => by rw [List.eq_of_mem_replicate hr]; exact hs
  have hl := flat_len hw
  simp only [List.length_replicate] at hl
  apply List.ext_getElem?
  intro i
  by_cases hi : i < n * s
  · have hq : i / s < n := Nat.div_lt_of_lt_mul (by rw [Nat.mul_comm]; exact hi)
    have hm : i % s < s := Nat.mod_lt _ h0
    have h1 := flat_at hw (i / s) (by simpa using hq) (i % s) hm
    have e : i / s * s + i % s = i := by rw [Nat.mul_comm]; exact Nat.div_add_mod i s
    rw [e] at h1
    rw [h1]
    simp [madeCells, hi, hs, hm]
  · rw [List.getElem?_eq_none (by simp [madeCells]; omega), List.getElem?_eq_none (by omega)]
theorem own_flat {w : World} {g B n s : Nat} {rs : List (List Value)} {e : TypeId} (hw : Wide s rs) (h : w.heap[g]? = some (.cells rs.flatten.toArray e (0, 0))) (hB : B ≤ g) (hl : rs.length = n) (hm : n ≤ maxLen) : w.ownsRow B e s (.slice (some ⟨g, 0, none⟩) n n) n rs.flatten :=
  ⟨by rw [flat_len hw, hl], .inr ⟨g, n, rs.flatten.toArray, rfl, hB, h, Nat.le_refl _, hm, by simp only [List.size_toArray]; rw [flat_len hw, hl], by exact List.take_of_length_le (by rw [flat_len hw, hl]; exact Nat.le_refl _)⟩⟩
theorem set_in (A r C : List Value) (i : Nat) (hi : i < r.length) (x : Value) : (A ++ (r ++ C)).set (A.length + i) x = A ++ (r.set i x ++ C) := by
  rw [List.set_append_right _ _ (by omega), show A.length + i - A.length = i by omega, List.set_append_left _ _ hi]
theorem flat_split {s : Nat} {rs : List (List Value)} (h : Wide s rs) (j : Nat) (hj : j < rs.length) : ∃ A C, rs.flatten = A ++ (rs[j] ++ C) ∧ A.length = j * s ∧ ∀ r', (rs.set j r').flatten = A ++ (r' ++ C) := by
  refine ⟨(rs.take j).flatten, (rs.drop (j + 1)).flatten, ?_, ?_, fun r' => ?_⟩
  · rw [← List.flatten_cons, ← List.flatten_append, ← List.drop_eq_getElem_cons hj, List.take_append_drop]
  · rw [flat_len (s := s) (fun r hr => h r (List.mem_of_mem_take hr)), List.length_take, Nat.min_eq_left (by omega)]
  · rw [← List.flatten_cons, ← List.flatten_append, List.set_eq_take_append_cons_drop, if_pos hj]
theorem Row.ta0 {w : World} {g : Nat} {T : TypeId} {c0 c1 c2 : Value} (h : Row w g #[c0, c1, c2] T) (x : Value) : Row (w.setCell ⟨g, 0, none⟩ x) g #[x, c1, c2] T := h.set 0 x
theorem Row.ta1 {w : World} {g : Nat} {T : TypeId} {c0 c1 c2 : Value} (h : Row w g #[c0, c1, c2] T) (x : Value) : Row (w.setCell ⟨g, 1, none⟩ x) g #[c0, x, c2] T := h.set 1 x
theorem Row.ta2 {w : World} {g : Nat} {T : TypeId} {c0 c1 c2 : Value} (h : Row w g #[c0, c1, c2] T) (x : Value) : Row (w.setCell ⟨g, 2, none⟩ x) g #[c0, c1, x] T := h.set 2 x
theorem ta_sets (l : List Ta) (j : Nat) (h : j < l.length) (a : Ta) : (((taV l).set (j * 3) (.string a.o)).set (j * 3 + 1) (.int .i64 a.r)).set (j * 3 + 2) (.int .i64 a.n) = taV (l.set j a) := by
  obtain ⟨A, C, h1, h2, h3⟩ := flat_split (wide_ta l) j (by simpa using h)
  have e : taV (l.set j a) = A ++ (a.cs ++ C) := by unfold taV; rw [List.map_set]; exact h3 _
  rw [e]
  show ((((l.map Ta.cs).flatten).set (j * 3) (.string a.o)).set (j * 3 + 1) (.int .i64 a.r)).set (j * 3 + 2) (.int .i64 a.n) = _
  rw [h1, List.getElem_map]
  generalize l[j] = b
  rw [← h2]
  rw [show A ++ (b.cs ++ C) = A ++ ([.string b.o, .int .i64 b.r, .int .i64 b.n] ++ C) from rfl]
  have g0 := set_in A [.string b.o, .int .i64 b.r, .int .i64 b.n] C 0 (by simp) (.string a.o)
  rw [Nat.add_zero] at g0
  rw [g0, set_in _ _ _ 1 (by simp), set_in _ _ _ 2 (by simp)]
  rfl
theorem infoTally : (Try.prog.info? 45).map (fun i => (i.zero, i.size, i.bytes)) = some (some (.agg #[.string { data := #[] }, .int .i64 0, .int .i64 0]), 3, 32) := by kernel_rfl
def zTa : Ta := ⟨{ data := #[] }, 0, 0⟩
theorem makeTally (w : World) (n : Nat) (hn : n ≤ 1048576) : (Instr.makeSlice 32 (.int .i64 (n : Int)) (.int .i64 (n : Int))).run Try.prog w = .ok (.slice (some ⟨w.heap.size, 0, none⟩) n n) (w.alloc (.cells (taV (List.replicate n zTa)).toArray 45)) := by
  obtain ⟨i0, hi, hz0, hz1, hz2⟩ := info_parts infoTally
  have hr := run_make (P := Try.prog) w 32 45 i0 _ Try.underlying32 hi hz0 .i64 .i64 n n (by omega) (Int.le_refl _) (by rw [hz2]; omega) (by omega)
  have e : (taV (List.replicate n zTa)).toArray = madeCells #[.string { data := #[] }, .int .i64 0, .int .i64 0] (n * 3) := by
    apply Array.ext'
    have := made_flat zTa.cs 3 n rfl (by decide)
    unfold taV
    rw [List.map_replicate]
    exact this.symm
  rw [hz1] at hr
  rw [e]
  simpa [Value.cells] using hr
theorem taV_len (l : List Ta) : (taV l).length = l.length * 3 := by unfold taV; rw [flat_len (wide_ta l), List.length_map]
theorem taV_at (l : List Ta) (j : Nat) (h : j < l.length) : (taV l)[j * 3]? = some (.string l[j].o) ∧ (taV l)[j * 3 + 1]? = some (.int .i64 l[j].r) ∧ (taV l)[j * 3 + 2]? = some (.int .i64 l[j].n) := by
  have hq : ∀ i, i < 3 → (taV l)[j * 3 + i]? = (l[j].cs)[i]? := fun i hi => by unfold taV; rw [flat_at (wide_ta l) j (by simpa using h) i hi, List.getElem_map]
  exact ⟨hq 0 (by decide), hq 1 (by decide), hq 2 (by decide)⟩
theorem retTally {fn : Func} {p : Tmp} (h : fn.results = #[.cell p 45]) {tmps : Array Value} {w : World} {g : Nat} {cs : Array Value} (hc : cs.size = 3) (hp : tmps.getD p undef = .pointer (some ⟨g, 0, none⟩)) (hg : Row w g cs 45) :
    (results fn tmps).run Try.prog w = .ok (.agg cs) w := results_cell_row h tmps w g 45 _ (0, 0) _ hp hg Try.underlying45 rfl (by rw [hc]; kernel_rfl)
theorem Row.li0 {w : World} {g : Nat} {T : TypeId} {c0 c1 c2 c3 c4 c5 : Value} (h : Row w g #[c0, c1, c2, c3, c4, c5] T) (x : Value) : Row (w.setCell ⟨g, 0, none⟩ x) g #[x, c1, c2, c3, c4, c5] T := h.set 0 x
theorem Row.li1 {w : World} {g : Nat} {T : TypeId} {c0 c1 c2 c3 c4 c5 : Value} (h : Row w g #[c0, c1, c2, c3, c4, c5] T) (x : Value) : Row (w.setCell ⟨g, 1, none⟩ x) g #[c0, x, c2, c3, c4, c5] T := h.set 1 x
theorem Row.li2 {w : World} {g : Nat} {T : TypeId} {c0 c1 c2 c3 c4 c5 : Value} (h : Row w g #[c0, c1, c2, c3, c4, c5] T) (x : Value) : Row (w.setCell ⟨g, 2, none⟩ x) g #[c0, c1, x, c3, c4, c5] T := h.set 2 x
theorem Row.li3 {w : World} {g : Nat} {T : TypeId} {c0 c1 c2 c3 c4 c5 : Value} (h : Row w g #[c0, c1, c2, c3, c4, c5] T) (x : Value) : Row (w.setCell ⟨g, 3, none⟩ x) g #[c0, c1, c2, x, c4, c5] T := h.set 3 x
theorem Row.li4 {w : World} {g : Nat} {T : TypeId} {c0 c1 c2 c3 c4 c5 : Value} (h : Row w g #[c0, c1, c2, c3, c4, c5] T) (x : Value) : Row (w.setCell ⟨g, 4, none⟩ x) g #[c0, c1, c2, c3, x, c5] T := h.set 4 x
theorem Row.li5 {w : World} {g : Nat} {T : TypeId} {c0 c1 c2 c3 c4 c5 : Value} (h : Row w g #[c0, c1, c2, c3, c4, c5] T) (x : Value) : Row (w.setCell ⟨g, 5, none⟩ x) g #[c0, c1, c2, c3, c4, x] T := h.set 5 x
theorem li_sets (l : List Li) (j : Nat) (h : j < l.length) (a : Li) : ((((((liV l).set (j * 6) (.bool a.m)).set (j * 6 + 1) (.string a.o)).set (j * 6 + 2) (.string a.y)).set (j * 6 + 3) (.int .i64 a.v)).set (j * 6 + 4) (.int .i64 a.r)).set (j * 6 + 5) (.int .i64 a.s) = liV (l.set j a) := by
  obtain ⟨A, C, h1, h2, h3⟩ := flat_split (wide_li l) j (by simpa using h)
  have e : liV (l.set j a) = A ++ (a.cs ++ C) := by unfold liV; rw [List.map_set]; exact h3 _
  rw [e]
  show (((((((l.map Li.cs).flatten).set (j * 6) (.bool a.m)).set (j * 6 + 1) (.string a.o)).set (j * 6 + 2) (.string a.y)).set (j * 6 + 3) (.int .i64 a.v)).set (j * 6 + 4) (.int .i64 a.r)).set (j * 6 + 5) (.int .i64 a.s) = _
  rw [h1, List.getElem_map]
  generalize l[j] = b
  rw [← h2]
  rw [show A ++ (b.cs ++ C) = A ++ ([.bool b.m, .string b.o, .string b.y, .int .i64 b.v, .int .i64 b.r, .int .i64 b.s] ++ C) from rfl]
  have g0 := set_in A [.bool b.m, .string b.o, .string b.y, .int .i64 b.v, .int .i64 b.r, .int .i64 b.s] C 0 (by simp) (.bool a.m)
  rw [Nat.add_zero] at g0
  rw [g0, set_in _ _ _ 1 (by simp), set_in _ _ _ 2 (by simp), set_in _ _ _ 3 (by simp), set_in _ _ _ 4 (by simp), set_in _ _ _ 5 (by simp)]
  rfl
theorem infoLive : (Try.prog.info? 47).map (fun i => (i.zero, i.size, i.bytes)) = some (some (.agg #[.bool false, .string { data := #[] }, .string { data := #[] }, .int .i64 0, .int .i64 0, .int .i64 0]), 6, 64) := by kernel_rfl
def zLi : Li := ⟨false, { data := #[] }, { data := #[] }, 0, 0, 0⟩
theorem makeLive (w : World) (n : Nat) (hn : n ≤ 1048576) : (Instr.makeSlice 33 (.int .i64 (n : Int)) (.int .i64 (n : Int))).run Try.prog w = .ok (.slice (some ⟨w.heap.size, 0, none⟩) n n) (w.alloc (.cells (liV (List.replicate n zLi)).toArray 47)) := by
  obtain ⟨i0, hi, hz0, hz1, hz2⟩ := info_parts infoLive
  have hr := run_make (P := Try.prog) w 33 47 i0 _ Try.underlying33 hi hz0 .i64 .i64 n n (by omega) (Int.le_refl _) (by rw [hz2]; omega) (by omega)
  have e : (liV (List.replicate n zLi)).toArray = madeCells #[.bool false, .string { data := #[] }, .string { data := #[] }, .int .i64 0, .int .i64 0, .int .i64 0] (n * 6) := by
    apply Array.ext'
    have := made_flat zLi.cs 6 n rfl (by decide)
    unfold liV
    rw [List.map_replicate]
    exact this.symm
  rw [hz1] at hr
  rw [e]
  simpa [Value.cells] using hr
theorem liV_len (l : List Li) : (liV l).length = l.length * 6 := by unfold liV; rw [flat_len (wide_li l), List.length_map]
theorem liV_at (l : List Li) (j : Nat) (h : j < l.length) : (liV l)[j * 6]? = some (.bool l[j].m) ∧ (liV l)[j * 6 + 1]? = some (.string l[j].o) ∧ (liV l)[j * 6 + 2]? = some (.string l[j].y) ∧ (liV l)[j * 6 + 3]? = some (.int .i64 l[j].v) ∧ (liV l)[j * 6 + 4]? = some (.int .i64 l[j].r) ∧ (liV l)[j * 6 + 5]? = some (.int .i64 l[j].s) := by
  have hq : ∀ i, i < 6 → (liV l)[j * 6 + i]? = (l[j].cs)[i]? := fun i hi => by unfold liV; rw [flat_at (wide_li l) j (by simpa using h) i hi, List.getElem_map]
  exact ⟨hq 0 (by decide), hq 1 (by decide), hq 2 (by decide), hq 3 (by decide), hq 4 (by decide), hq 5 (by decide)⟩
theorem retLive {fn : Func} {p : Tmp} (h : fn.results = #[.cell p 47]) {tmps : Array Value} {w : World} {g : Nat} {cs : Array Value} (hc : cs.size = 6) (hp : tmps.getD p undef = .pointer (some ⟨g, 0, none⟩)) (hg : Row w g cs 47) :
    (results fn tmps).run Try.prog w = .ok (.agg cs) w := results_cell_row h tmps w g 47 _ (0, 0) _ hp hg Try.underlying47 rfl (by rw [hc]; kernel_rfl)
theorem Row.ce0 {w : World} {g : Nat} {T : TypeId} {c0 c1 c2 c3 c4 c5 c6 c7 : Value} (h : Row w g #[c0, c1, c2, c3, c4, c5, c6, c7] T) (x : Value) : Row (w.setCell ⟨g, 0, none⟩ x) g #[x, c1, c2, c3, c4, c5, c6, c7] T := h.set 0 x
theorem Row.ce1 {w : World} {g : Nat} {T : TypeId} {c0 c1 c2 c3 c4 c5 c6 c7 : Value} (h : Row w g #[c0, c1, c2, c3, c4, c5, c6, c7] T) (x : Value) : Row (w.setCell ⟨g, 1, none⟩ x) g #[c0, x, c2, c3, c4, c5, c6, c7] T := h.set 1 x
theorem Row.ce2 {w : World} {g : Nat} {T : TypeId} {c0 c1 c2 c3 c4 c5 c6 c7 : Value} (h : Row w g #[c0, c1, c2, c3, c4, c5, c6, c7] T) (x : Value) : Row (w.setCell ⟨g, 2, none⟩ x) g #[c0, c1, x, c3, c4, c5, c6, c7] T := h.set 2 x
theorem Row.ce3 {w : World} {g : Nat} {T : TypeId} {c0 c1 c2 c3 c4 c5 c6 c7 : Value} (h : Row w g #[c0, c1, c2, c3, c4, c5, c6, c7] T) (x : Value) : Row (w.setCell ⟨g, 3, none⟩ x) g #[c0, c1, c2, x, c4, c5, c6, c7] T := h.set 3 x
theorem Row.ce4 {w : World} {g : Nat} {T : TypeId} {c0 c1 c2 c3 c4 c5 c6 c7 : Value} (h : Row w g #[c0, c1, c2, c3, c4, c5, c6, c7] T) (x : Value) : Row (w.setCell ⟨g, 4, none⟩ x) g #[c0, c1, c2, c3, x, c5, c6, c7] T := h.set 4 x
theorem Row.ce5 {w : World} {g : Nat} {T : TypeId} {c0 c1 c2 c3 c4 c5 c6 c7 : Value} (h : Row w g #[c0, c1, c2, c3, c4, c5, c6, c7] T) (x : Value) : Row (w.setCell ⟨g, 5, none⟩ x) g #[c0, c1, c2, c3, c4, x, c6, c7] T := h.set 5 x
theorem Row.ce6 {w : World} {g : Nat} {T : TypeId} {c0 c1 c2 c3 c4 c5 c6 c7 : Value} (h : Row w g #[c0, c1, c2, c3, c4, c5, c6, c7] T) (x : Value) : Row (w.setCell ⟨g, 6, none⟩ x) g #[c0, c1, c2, c3, c4, c5, x, c7] T := h.set 6 x
theorem Row.ce7 {w : World} {g : Nat} {T : TypeId} {c0 c1 c2 c3 c4 c5 c6 c7 : Value} (h : Row w g #[c0, c1, c2, c3, c4, c5, c6, c7] T) (x : Value) : Row (w.setCell ⟨g, 7, none⟩ x) g #[c0, c1, c2, c3, c4, c5, c6, x] T := h.set 7 x
theorem ce_sets (l : List Ce) (j : Nat) (h : j < l.length) (a : Ce) : ((((((((ceV l).set (j * 8) (.string a.o)).set (j * 8 + 1) (.int .i64 a.r)).set (j * 8 + 2) (.int .i64 a.s)).set (j * 8 + 3) (.int .i64 a.t)).set (j * 8 + 4) (.int .i64 a.x)).set (j * 8 + 5) (.int .i64 a.z)).set (j * 8 + 6) (.int .i64 a.v)).set (j * 8 + 7) (.bool a.g) = ceV (l.set j a) := by
  obtain ⟨A, C, h1, h2, h3⟩ := flat_split (wide_ce l) j (by simpa using h)
  have e : ceV (l.set j a) = A ++ (a.cs ++ C) := by unfold ceV; rw [List.map_set]; exact h3 _
  rw [e]
  show (((((((((l.map Ce.cs).flatten).set (j * 8) (.string a.o)).set (j * 8 + 1) (.int .i64 a.r)).set (j * 8 + 2) (.int .i64 a.s)).set (j * 8 + 3) (.int .i64 a.t)).set (j * 8 + 4) (.int .i64 a.x)).set (j * 8 + 5) (.int .i64 a.z)).set (j * 8 + 6) (.int .i64 a.v)).set (j * 8 + 7) (.bool a.g) = _
  rw [h1, List.getElem_map]
  generalize l[j] = b
  rw [← h2]
  rw [show A ++ (b.cs ++ C) = A ++ ([.string b.o, .int .i64 b.r, .int .i64 b.s, .int .i64 b.t, .int .i64 b.x, .int .i64 b.z, .int .i64 b.v, .bool b.g] ++ C) from rfl]
  have g0 := set_in A [.string b.o, .int .i64 b.r, .int .i64 b.s, .int .i64 b.t, .int .i64 b.x, .int .i64 b.z, .int .i64 b.v, .bool b.g] C 0 (by simp) (.string a.o)
  rw [Nat.add_zero] at g0
  rw [g0, set_in _ _ _ 1 (by simp), set_in _ _ _ 2 (by simp), set_in _ _ _ 3 (by simp), set_in _ _ _ 4 (by simp), set_in _ _ _ 5 (by simp), set_in _ _ _ 6 (by simp), set_in _ _ _ 7 (by simp)]
  rfl
theorem infoCell : (Try.prog.info? 42).map (fun i => (i.zero, i.size, i.bytes)) = some (some (.agg #[.string { data := #[] }, .int .i64 0, .int .i64 0, .int .i64 0, .int .i64 0, .int .i64 0, .int .i64 0, .bool false]), 8, 72) := by kernel_rfl
def zCe : Ce := ⟨{ data := #[] }, 0, 0, 0, 0, 0, 0, false⟩
theorem makeCell (w : World) (n : Nat) (hn : n ≤ 1048576) : (Instr.makeSlice 34 (.int .i64 (n : Int)) (.int .i64 (n : Int))).run Try.prog w = .ok (.slice (some ⟨w.heap.size, 0, none⟩) n n) (w.alloc (.cells (ceV (List.replicate n zCe)).toArray 42)) := by
  obtain ⟨i0, hi, hz0, hz1, hz2⟩ := info_parts infoCell
  have hr := run_make (P := Try.prog) w 34 42 i0 _ Try.underlying34 hi hz0 .i64 .i64 n n (by omega) (Int.le_refl _) (by rw [hz2]; omega) (by omega)
  have e : (ceV (List.replicate n zCe)).toArray = madeCells #[.string { data := #[] }, .int .i64 0, .int .i64 0, .int .i64 0, .int .i64 0, .int .i64 0, .int .i64 0, .bool false] (n * 8) := by
    apply Array.ext'
    have := made_flat zCe.cs 8 n rfl (by decide)
    unfold ceV
    rw [List.map_replicate]
    exact this.symm
  rw [hz1] at hr
  rw [e]
  simpa [Value.cells] using hr
theorem ceV_len (l : List Ce) : (ceV l).length = l.length * 8 := by unfold ceV; rw [flat_len (wide_ce l), List.length_map]
theorem ceV_at (l : List Ce) (j : Nat) (h : j < l.length) : (ceV l)[j * 8]? = some (.string l[j].o) ∧ (ceV l)[j * 8 + 1]? = some (.int .i64 l[j].r) ∧ (ceV l)[j * 8 + 2]? = some (.int .i64 l[j].s) ∧ (ceV l)[j * 8 + 3]? = some (.int .i64 l[j].t) ∧ (ceV l)[j * 8 + 4]? = some (.int .i64 l[j].x) ∧ (ceV l)[j * 8 + 5]? = some (.int .i64 l[j].z) ∧ (ceV l)[j * 8 + 6]? = some (.int .i64 l[j].v) ∧ (ceV l)[j * 8 + 7]? = some (.bool l[j].g) := by
  have hq : ∀ i, i < 8 → (ceV l)[j * 8 + i]? = (l[j].cs)[i]? := fun i hi => by unfold ceV; rw [flat_at (wide_ce l) j (by simpa using h) i hi, List.getElem_map]
  exact ⟨hq 0 (by decide), hq 1 (by decide), hq 2 (by decide), hq 3 (by decide), hq 4 (by decide), hq 5 (by decide), hq 6 (by decide), hq 7 (by decide)⟩
theorem retCell {fn : Func} {p : Tmp} (h : fn.results = #[.cell p 42]) {tmps : Array Value} {w : World} {g : Nat} {cs : Array Value} (hc : cs.size = 8) (hp : tmps.getD p undef = .pointer (some ⟨g, 0, none⟩)) (hg : Row w g cs 42) :
    (results fn tmps).run Try.prog w = .ok (.agg cs) w := results_cell_row h tmps w g 42 _ (0, 0) _ hp hg Try.underlying42 rfl (by rw [hc]; kernel_rfl)

end Go.Proofs.Ytajihpcihlbjgaa
