/- A writer of an act: a strings.Builder as the first field of a struct. The writer of an act writes numbers and names; the act's text as the program makes it. The text of an act, as the specification makes it: its pieces. -/
import Derived.Test.YtahdgagipmpcgaaARow
import Derived.Test.YtahdgagipmpcgaaWShort
import Derived.Lib.Builder
import Derived.Lib.AppendStr
import Derived.Lib.UnsafeStr
import Derived.Laws.Externs
import Derived.Test.YtahdgagipmpcgaaKInts
namespace Go.Proofs.Ytahdgagipmpcgaa
set_option maxRecDepth 100000
set_option linter.unusedVariables false
open Go.RowKit

theorem sizeBuilder : ∃ j, Try.prog.info? 132 = some j ∧ j.size = 2 := ⟨_, rfl, rfl⟩
theorem liesBuilder : liesAt Try.prog Try.prog.depth 134 (2 / Try.prog.cellsOf 134) 0 132 1 = true := by kernel_rfl

/-- The writer stands in block b, and holds l. -/
def WrAt (B b : Nat) (l : List UInt8) (w : World) : Prop := Lib.IsBuilder 134 5 B b (Lib.byteCells l) w

set_option maxHeartbeats 1000000 in
theorem copyCheck_used (b : Nat) (w : World) (h0 : w.cell? ⟨b, 0, none⟩ = some (.pointer (some ⟨b, 0, none⟩))) :
    Calls Try.prog 208 #[.pointer (some ⟨b, 0, none⟩)] w fun e w' => e = .returned (.tuple #[]) ∧ w' = w := by
  obtain ⟨j, hj, _⟩ := sizeBuilder
  go_enter Try.func208, Try.ntmps208
  go_wp2
  rw [Lib.run_neq_ptr_same w _ Try.underlying130 hj]
  go_wp2
  go_end0
  exact ⟨rfl, rfl⟩

set_option maxHeartbeats 1000000 in
theorem copyCheck_new (b : Nat) (w : World) (h0 : w.cell? ⟨b, 0, none⟩ = some (.pointer none)) (hs : w.shape? b = some (134, 2)) (hf : w.frozen? ⟨b, 0, none⟩ = false) :
    Calls Try.prog 208 #[.pointer (some ⟨b, 0, none⟩)] w fun e w' => e = .returned (.tuple #[]) ∧ w' = w.setCell ⟨b, 0, none⟩ (.pointer (some ⟨b, 0, none⟩)) := by
  obtain ⟨j, hj, hz⟩ := sizeBuilder
  go_enter Try.func208, Try.ntmps208
  go_wp2
  rw [Lib.run_to_unsafe w ⟨b, 0, none⟩ Try.underlying130 Try.underlying265 hj (by rw [hz]; decide) hs (Nat.zero_lt_succ 1)]
  simp only [Result.andThen]
  rw [Oper.upon_value]
  go_wp2
  rw [run_callFunc_extern Try.func240 (by kernel_rfl) (by kernel_rfl) (by kernel_rfl) (e := Extern.AbiNoEscape.same) (by kernel_rfl)]
  rw [Lib.run_noEscape]
  simp only [Result.andThen]
  rw [Oper.upon_value]
  go_wp2
  rw [Lib.run_from_unsafe w ⟨b, 0, none⟩ Try.underlying265 Try.underlying130 hj hs liesBuilder]
  simp only [Result.andThen]
  rw [Oper.upon_value]
  go_wp2
  go_end0
  exact ⟨rfl, rfl⟩

theorem copyCheck_calls (B b : Nat) (l : List UInt8) (w : World) (h : WrAt B b l w) :
    Calls Try.prog 208 #[.pointer (some ⟨b, 0, none⟩)] w fun e w' => e = .returned (.tuple #[]) ∧ Lib.BuilderAt 134 5 B b (.pointer (some ⟨b, 0, none⟩)) (Lib.byteCells l) w' ∧ Below B w w' ∧ ∀ k, k ≠ b → w'.heap[k]? = w.heap[k]? := by
  rcases h with h | h
  · exact (copyCheck_new b w h.cell0 h.shape h.frozen0).mono (by rintro e w' ⟨rfl, rfl⟩; exact ⟨rfl, h.used _, (Below.refl B w).setCell (p := ⟨b, 0, none⟩) h.1 _, fun k hk => Below.heap_setCell w _ _ k hk⟩)
  · exact (copyCheck_used b w h.cell0).mono (by rintro e w' ⟨rfl, rfl⟩; exact ⟨rfl, h, Below.refl B _, fun _ _ => rfl⟩)

/-- Blocks that hold no bytes, and are not the writer's, stay. -/
def Keeps (b : Nat) (w w' : World) : Prop := ∀ k, k < w.heap.size → k ≠ b → (∀ cur fz, w.heap[k]? ≠ some (.cells cur 5 fz)) → w'.heap[k]? = w.heap[k]?

set_option maxHeartbeats 2000000 in
/-- A text is written behind what there is. -/
theorem write_calls (B b : Nat) (l : List UInt8) (s : ByteArray) (w : World) (h : WrAt B b l w) (hl : l.length + s.size ≤ 1073741824) (hB : B ≤ w.heap.size) :
    Calls Try.prog 162 #[.pointer (some ⟨b, 0, none⟩), .string s] w fun e w' => (∃ v, e = .returned v) ∧ WrAt B b (l ++ s.data.toList) w' ∧ Below B w w' ∧ Keeps b w w' := by
  obtain ⟨i0, hi, hz0, hz1, hz2⟩ := info_parts infoByte
  have hcc := copyCheck_calls B b l w h
  have HC : Hid (Calls Try.prog 208 #[.pointer (some ⟨b, 0, none⟩)] w fun e w' => e = .returned (.tuple #[]) ∧ Lib.BuilderAt 134 5 B b (.pointer (some ⟨b, 0, none⟩)) (Lib.byteCells l) w' ∧ Below B w w' ∧ ∀ k, k ≠ b → w'.heap[k]? = w.heap[k]?) := hcc
  clear hcc h
  go_enter Try.func162, Try.ntmps162
  go_wp2_with fail
  refine HC.out.mono ?_
  rintro e w1 ⟨rfl, ⟨hBb, v, hr, hown, hne⟩, hb1, hko⟩
  have hr1 : Row w1 b #[.pointer (some ⟨b, 0, none⟩), v] 134 := hr
  have c0 := hr1.cell 0 (v := .pointer (some ⟨b, 0, none⟩)) rfl
  have c1 := hr1.cell 1 (v := v) rfl
  rw [bc_len] at hown
  have hs1 := hb1.size
  go_wp2_with (at_builtin; refine Lib.wpList_append_own_string _ rfl _ _ 52 9 rfl B 5 i0 Try.underlying52 Try.underlying9 hi hz0 hz1 hz2 _ _ _ rfl hown s rfl (by unfold maxLen; omega) (by omega) (by omega) ?_)
  intro v' w2 hown' hgrow _
  have hr2 : Row w2 b #[.pointer (some ⟨b, 0, none⟩), v] 134 := hr1.grown hgrow hne
  have d0 := hr2.cell 0 (v := .pointer (some ⟨b, 0, none⟩)) rfl
  have d1 := hr2.cell 1 (v := v) rfl
  have f1 := hr2.free 1
  obtain ⟨ao, n', cap, rfl⟩ : ∃ ao n' cap, v' = .slice ao n' cap := by
    rcases hown'.2 with ⟨hv, _⟩ | ⟨g, cap, cur, hv, _⟩
    · exact ⟨_, _, _, hv⟩
    · exact ⟨_, _, _, hv⟩
  have HP : Hid (WrAt B b (l ++ s.data.toList) (w2.setCell ⟨b, 1, none⟩ (.slice ao n' cap))) := by
    refine .inr (Lib.BuilderAt.put hBb hr2 ?_ (by decide))
    rw [bc_app, List.length_append, bc_len, ← Lib.strCells_eq, Lib.strCells_length]
    exact hown'
  have HB : Hid (Below B w (w2.setCell ⟨b, 1, none⟩ (.slice ao n' cap))) := (hb1.grown hgrow (by omega) (fun k hk => (hown.lt k hk).1)).setCell (p := ⟨b, 1, none⟩) hBb _
  have HK : Hid (Keeps b w (w2.setCell ⟨b, 1, none⟩ (.slice ao n' cap))) := by
    intro k hk hkb hno
    rw [Below.heap_setCell w2 _ _ k hkb, hgrow.block k (by omega) (fun e => ?_), hko k hkb]
    rcases hown.2 with ⟨hv, _⟩ | ⟨g, cp, cur, hv, _, hg, _⟩
    · rw [hv] at e; simp [Value.ownBlock] at e
    · rw [hv] at e
      obtain rfl : k = g := by simpa [Value.ownBlock] using e
      rw [hko k hkb] at hg
      exact hno _ _ hg
  clear hown hown' hgrow hr1 hr2 hr hko
  go_wp2
  go_ret2
  exact ⟨⟨_, rfl⟩, HP.out, HB.out, HK.out⟩

set_option maxHeartbeats 2000000 in
/-- What was written is handed back. -/
theorem string_calls (B b : Nat) (l : List UInt8) (w : World) (h : WrAt B b l w) (h0 : l ≠ []) :
    Calls Try.prog 114 #[.pointer (some ⟨b, 0, none⟩)] w fun e w' => e = .returned (.string ⟨l.toArray⟩) ∧ Below B w w' := by
  obtain ⟨p, hBb, v, hr, hown, hne⟩ : ∃ p, Lib.BuilderAt 134 5 B b p (Lib.byteCells l) w := by
    rcases h with h | h
    · exact ⟨_, h⟩
    · exact ⟨_, h⟩
  have hl0 : l.length ≠ 0 := by simpa using h0
  rw [bc_len] at hown
  obtain ⟨g, cap, cur, rfl, hbg, hg, hnc, hcm, hcs, -⟩ : ∃ g cap cur, v = .slice (some ⟨g, 0, none⟩) l.length cap ∧ B ≤ g ∧ w.heap[g]? = some (.cells cur 5 (0, 0)) ∧ l.length ≤ cap ∧ cap ≤ maxLen ∧ cur.size = cap * 1 ∧ cur.toList.take (l.length * 1) = Lib.byteCells l := by
    rcases hown.2 with ⟨_, hz⟩ | ⟨g, cap, cur, hv, r⟩
    · exact absurd hz hl0
    · exact ⟨g, cap, cur, hv, r⟩
  have hr1 : Row w.drew b #[p, .slice (some ⟨g, 0, none⟩) l.length cap] 134 := hr
  have c1 := hr1.cell 1 (v := .slice (some ⟨g, 0, none⟩) l.length cap) rfl
  have hSD : (Builtin.unsafeSliceData_ #[52] 200 #[.slice (some ⟨g, 0, none⟩) l.length cap]).run Try.prog w.drew = .ok (.pointer (some ⟨g, 0, none⟩)) w.drew :=
    Lib.run_unsafeSliceData_row _ _ _ _ _ _ (by omega)
  have hUS : (Builtin.unsafeString_ #[200, 3] 9 #[.pointer (some ⟨g, 0, none⟩), .int .i64 l.length]).run Try.prog w.drew = .ok (.string ⟨l.toArray⟩) (w.drew.freeze ⟨g, 0, none⟩ l.length) := by
    refine Lib.run_unsafeString_row w.drew 200 3 9 5 Try.underlying200 (by kernel_rfl) g cur.size (by have hg' : w.drew.heap[g]? = some (.cells cur 5 (0, 0)) := hg; simp [World.shape?, hg']) l h0 (by omega) (by unfold maxLen at hcm; omega) ?_
    intro j x hx
    exact hown.cells (g := g) rfl j (.int .u8 x.toNat) (by simp [Lib.byteCells, hx])
  have HF : Hid (Below B w (w.drew.freeze ⟨g, 0, none⟩ l.length)) := Lib.below_freeze (Below.drew (Below.refl B w)) (p := ⟨g, 0, none⟩) hbg _
  go_enter Try.func114, Try.ntmps114
  go_wp2
  go_region
  all_goals go_wp2
  all_goals go_ret
  all_goals exact ⟨rfl, HF.out⟩


open Go.RowKit

theorem Keeps.refl (b : Nat) (w : World) : Keeps b w w := fun _ _ _ _ => rfl
theorem Keeps.trans {b : Nat} {w w1 w2 : World} (h : Keeps b w w1) (k : Keeps b w1 w2) (hs : w.heap.size ≤ w1.heap.size) : Keeps b w w2 := fun j hj hb hn => by
  have e := h j hj hb hn
  rw [k j (Nat.lt_of_lt_of_le hj hs) hb (by intro c f; rw [e]; exact hn c f), e]
theorem Keeps.below {b : Nat} {w w' : World} (h : Below w.heap.size w w') : Keeps b w w' := fun k hk _ _ => h.block k hk
theorem Row.keeps {b : Nat} {w w' : World} {g : Nat} {cs : Array Value} {T : TypeId} (h : Row w g cs T) (hk : Keeps b w w') (hg : g ≠ b) (hT : T ≠ 5) : Row w' g cs T :=
  (hk g h.lt hg (fun c f e => by rw [h] at e; cases e; exact hT rfl)).trans h

theorem WrAt.below {B b : Nat} {l : List UInt8} {w w' : World} (h : WrAt B b l w) (hb : Below w.heap.size w w') : WrAt B b l w' := by
  have go : ∀ p, Lib.BuilderAt 134 5 B b p (Lib.byteCells l) w → Lib.BuilderAt 134 5 B b p (Lib.byteCells l) w' := by
    rintro p ⟨h1, v, h2, h3, h4⟩
    exact ⟨h1, v, (hb.block b (Array.getElem?_eq_some_iff.1 h2).1).trans h2, own_below h3 hb, h4⟩
  rcases h with h | h
  · exact .inl (go _ h)
  · exact .inr (go _ h)
theorem WrAt.base {B b : Nat} {l : List UInt8} {w : World} (h : WrAt B b l w) : B ≤ b := by rcases h with h | h <;> exact h.1
theorem WrAt.lt {B b : Nat} {l : List UInt8} {w : World} (h : WrAt B b l w) : b < w.heap.size := by rcases h with h | h <;> exact Lib.BuilderAt.lt h
theorem wrAt_new (w : World) {b : Nat} (hb : b = w.heap.size) : WrAt b b [] (w.alloc (.cells #[.pointer none, .slice none 0 0] 134)) := by
  subst hb
  exact .inl ⟨Nat.le_refl _, .slice none 0 0, (MapKept.heap_alloc w _).1, ⟨rfl, .inl ⟨rfl, rfl⟩⟩, by simp [Value.ownBlock]⟩

theorem varB_len5 {n : Nat} (h : n ≤ 1000000000) : (varB n).length ≤ 5 := by
  by_cases h1 : n < 128
  · rw [varB_small h1]; simp
  rw [varB_big h1]
  by_cases h2 : n / 128 < 128
  · rw [varB_small h2]; simp
  rw [varB_big h2]
  by_cases h3 : n / 128 / 128 < 128
  · rw [varB_small h3]; simp
  rw [varB_big h3]
  by_cases h4 : n / 128 / 128 / 128 < 128
  · rw [varB_small h4]; simp
  rw [varB_big h4, varB_small (by omega)]
  simp

/-- The bytes of numbers. -/
def numsB (xs : List Int) : List UInt8 := xs.flatMap fun x => varB x.toNat
theorem numsB_len {xs : List Int} (h : ∀ x ∈ xs, 0 ≤ x ∧ x ≤ 1000000000) : (numsB xs).length ≤ 5 * xs.length := by
  induction xs with
  | nil => simp [numsB]
  | cons a r ih =>
    have h1 := ih (fun x hx => h x (by simp [hx]))
    have h2 := varB_len5 (n := a.toNat) (by have := h a (by simp); omega)
    unfold numsB at *
    simp only [List.flatMap_cons, List.length_append, List.length_cons]
    omega
theorem numsB_snoc (xs : List Int) (k : Nat) (h : k < xs.length) : numsB (xs.take (k + 1)) = numsB (xs.take k) ++ varB (xs[k]).toNat := by
  unfold numsB
  rw [List.take_succ_eq_append_getElem h, List.flatMap_append]
  simp only [List.flatMap_cons, List.flatMap_nil, List.append_nil]

set_option maxHeartbeats 2000000 in
theorem numbers_calls (B b : Nat) (l : List UInt8) (xs : List Int) (v : Value) (w : World) (h : WrAt B b l w) (hB : B ≤ w.heap.size) (hl : l.length ≤ 1000000) (hn : xs.length ≤ 1000) (hx : ∀ x ∈ xs, 0 ≤ x ∧ x ≤ 1000000000)
    (hs : ∀ wx, Below B w wx → Keeps b w wx → IntsAt wx v xs) :
    Calls Try.prog 112 #[.pointer (some ⟨b, 0, none⟩), v] w fun e w' => e = .returned (.tuple #[]) ∧ WrAt B b (l ++ numsB xs) w' ∧ Below B w w' ∧ Keeps b w w' := by
  have HS : Hid (∀ wx, Below B w wx → Keeps b w wx → IntsAt wx v xs) := hs
  obtain ⟨aa, ca, rfl, -⟩ := hs w (Below.refl _ _) (Keeps.refl _ _)
  obtain ⟨n, hln⟩ : ∃ n, n = xs.length := ⟨_, rfl⟩
  have HH : Hid (WrAt B b l w) := h
  have HX : Hid (∀ x ∈ xs, 0 ≤ x ∧ x ≤ 1000000000) := hx
  rw [← hln]
  rw [← hln] at hn HS
  have HL : Hid (n = xs.length) := hln
  clear hs h hx hln
  go_enter Try.func112, Try.ntmps112
  go_wp2
  go_loopw [10] (fun z wr => ∃ k : Nat, k ≤ n ∧ z = .int .i64 k ∧ WrAt B b (l ++ numsB (xs.take k)) wr ∧ Below B w wr ∧ Keeps b w wr) (fun z _ => n - (intOf z).toNat)
  case atStart => exact ⟨0, Nat.zero_le _, rfl, by simpa [numsB] using HH.out, Below.refl _ _, Keeps.refl _ _⟩
  case round =>
    obtain ⟨k, hk, rfl, hw, hbel, hkp⟩ := hrel
    have hlen : (l ++ numsB (xs.take k)).length ≤ 1005000 := by
      have := numsB_len (xs := xs.take k) (fun x hx => HX.out x (List.mem_of_mem_take hx))
      rw [List.length_append]
      rw [List.length_take] at this
      omega
    by_cases hlt : k < n
    · have hkl : k < xs.length := by rw [← HL.out]; exact hlt
      obtain ⟨aa', ca', he, hg⟩ := HS.out wr hbel hkp
      obtain ⟨rfl, -, rfl⟩ : aa = aa' ∧ n = xs.length ∧ ca = ca' := by simpa using he
      obtain ⟨g, rfl, hg1, hc⟩ := hg (by omega)
      have hc1 := hc k hkl
      have hx1 := HX.out (xs[k]) (List.getElem_mem hkl)
      have HSN : Hid (l ++ numsB (xs.take (k + 1)) = (l ++ numsB (xs.take k)) ++ varB (xs[k]).toNat) := by show _ = _; rw [numsB_snoc xs k hkl, List.append_assoc]
      have hv5 := varB_len5 (n := (xs[k]).toNat) (by omega)
      generalize xs[k] = x at *
      have hk1 : (k : Int) < n := by omega
      have hk0 : (0 : Int) ≤ k := by omega
      have HW : Hid (WrAt B b (l ++ numsB (xs.take k)) wr ∧ Below B w wr ∧ Keeps b w wr) := ⟨hw, hbel, hkp⟩
      clear hc hkl he hw hbel hkp hg
      go_wp2_with fail
      refine (implVar_int x hx1.1 hx1.2 _).mono ?_
      rintro e w1 ⟨rfl, hb1⟩
      obtain ⟨hw, hbel, hkp⟩ := HW.out
      have hs := hbel.size
      have hw1 := hw.below hb1
      have HB1 : Hid (Below B w w1) := hbel.trans (hb1.mono (by omega))
      have HK1 : Hid (Keeps b w w1) := hkp.trans (Keeps.below hb1) hs
      have hs1 := HB1.out.size
      clear hb1 hc1 hw hbel hkp
      go_wp2_with fail
      refine (write_calls B b _ _ _ hw1 (by have : (ByteArray.mk (varB x.toNat).toArray).size = (varB x.toNat).length := by simp [ByteArray.size]
                                            rw [this]; omega) (by omega)).mono ?_
      rintro e w2 ⟨⟨v, rfl⟩, hw2, hb2, hk2⟩
      have HR : Hid (WrAt B b (l ++ numsB (xs.take (k + 1))) w2 ∧ Below B w w2 ∧ Keeps b w w2) := ⟨by rw [HSN.out]; simpa using hw2, HB1.out.trans hb2, HK1.out.trans hk2 hs1⟩
      clear hw2 hb2 hk2
      go_wp2
      go_roundw
      case rel => exact ⟨k + 1, by omega, by go_num, HR.out.1, HR.out.2.1, HR.out.2.2⟩
      case measure => simp [intOf]; omega
    · have hk1 : ¬ ((k : Int) < n) := by omega
      have HF : Hid (WrAt B b (l ++ numsB xs) wr ∧ Below B w wr ∧ Keeps b w wr) := by
        have e : xs.take k = xs := List.take_of_length_le (by have := HL.out; omega)
        rw [e] at hw
        exact ⟨hw, hbel, hkp⟩
      clear hw hbel hkp
      go_wp2
      go_end0
      exact ⟨rfl, HF.out⟩

theorem shortB_list (s : ByteArray) : (shortB s).data.toList = varB s.size ++ s.data.toList := by simp [shortB]
theorem shortB_size {s : ByteArray} (h : s.size ≤ 20000) : (shortB s).size ≤ 20005 := by
  have h1 := varB_len5 (n := s.size) (by omega)
  have h2 := congrArg List.length (shortB_list s)
  have h3 : (shortB s).data.toList.length = (shortB s).size := by simp
  have h4 : s.data.toList.length = s.size := by simp
  rw [List.length_append] at h2
  omega

set_option maxHeartbeats 2000000 in
theorem names_calls (B b g : Nat) (l : List UInt8) (s t : ByteArray) (ca : Nat) (w : World) (h : WrAt B b l w) (hB : B ≤ w.heap.size) (hl : l.length ≤ 1000000) (h1 : s.size ≤ 20000) (h2 : t.size ≤ 20000)
    (hr : Row w g #[.string s, .string t] 9) (hgb : g ≠ b) :
    Calls Try.prog 113 #[.pointer (some ⟨b, 0, none⟩), .slice (some ⟨g, 0, none⟩) 2 ca] w fun e w' => e = .returned (.tuple #[]) ∧ WrAt B b (l ++ (shortB s).data.toList ++ (shortB t).data.toList) w' ∧ Below B w w' ∧ Keeps b w w' := by
  have HH : Hid (WrAt B b l w) := h
  have HR : Hid (Row w g #[.string s, .string t] 9) := hr
  have HS1 : Hid ((shortB s).size ≤ 20005) := shortB_size h1
  have HS2 : Hid ((shortB t).size ≤ 20005) := shortB_size h2
  clear h hr
  go_enter Try.func113, Try.ntmps113
  go_wp2
  go_loopw [10] (fun z wr => ((z = .int .i64 0 ∧ WrAt B b l wr) ∨ (z = .int .i64 1 ∧ WrAt B b (l ++ (shortB s).data.toList) wr) ∨ (z = .int .i64 2 ∧ WrAt B b (l ++ (shortB s).data.toList ++ (shortB t).data.toList) wr)) ∧ Below B w wr ∧ Keeps b w wr) (fun z _ => 2 - (intOf z).toNat)
  case atStart => exact ⟨.inl ⟨rfl, HH.out⟩, Below.refl _ _, Keeps.refl _ _⟩
  case round =>
    obtain ⟨hz, hbel, hkp⟩ := hrel
    have hs := hbel.size
    have hrw := HR.out.keeps hkp hgb (by decide)
    have c0 := hrw.cell 0 (v := .string s) rfl
    have c1 := hrw.cell 1 (v := .string t) rfl
    rcases hz with ⟨rfl, hw⟩ | ⟨rfl, hw⟩ | ⟨rfl, hw⟩
    · have HW : Hid (WrAt B b l wr ∧ Below B w wr ∧ Keeps b w wr) := ⟨hw, hbel, hkp⟩
      clear hw hbel hkp hrw
      go_wp2_with fail
      refine (implShort_yes s h1 _).mono ?_
      rintro e w1 ⟨rfl, hb1⟩
      obtain ⟨hw, hbel, hkp⟩ := HW.out
      have hw1 := hw.below hb1
      have HB1 : Hid (Below B w w1) := hbel.trans (hb1.mono (by omega))
      have HK1 : Hid (Keeps b w w1) := hkp.trans (Keeps.below hb1) hs
      have hs1 := HB1.out.size
      clear hb1 c0 c1 hw hbel hkp
      go_wp2_with fail
      refine (write_calls B b _ _ _ hw1 (by have := HS1.out; omega) (by omega)).mono ?_
      rintro e w2 ⟨⟨v, rfl⟩, hw2, hb2, hk2⟩
      have HF : Hid (WrAt B b (l ++ (shortB s).data.toList) w2 ∧ Below B w w2 ∧ Keeps b w w2) := ⟨hw2, HB1.out.trans hb2, HK1.out.trans hk2 hs1⟩
      clear hw2 hb2 hk2
      go_wp2
      go_roundw
      case rel => exact ⟨.inr (.inl ⟨rfl, HF.out.1⟩), HF.out.2⟩
      case measure => simp [intOf]
    · have HW : Hid (WrAt B b (l ++ (shortB s).data.toList) wr ∧ Below B w wr ∧ Keeps b w wr) := ⟨hw, hbel, hkp⟩
      clear hw hbel hkp hrw
      go_wp2_with fail
      refine (implShort_yes t h2 _).mono ?_
      rintro e w1 ⟨rfl, hb1⟩
      obtain ⟨hw, hbel, hkp⟩ := HW.out
      have hw1 := hw.below hb1
      have HB1 : Hid (Below B w w1) := hbel.trans (hb1.mono (by omega))
      have HK1 : Hid (Keeps b w w1) := hkp.trans (Keeps.below hb1) hs
      have hs1 := HB1.out.size
      clear hb1 c0 c1 hw hbel hkp
      go_wp2_with fail
      refine (write_calls B b _ _ _ hw1 (by have h3 := HS1.out; have h4 := HS2.out; rw [List.length_append]; have : (shortB s).data.toList.length = (shortB s).size := by simp
                                            omega) (by omega)).mono ?_
      rintro e w2 ⟨⟨v, rfl⟩, hw2, hb2, hk2⟩
      have HF : Hid (WrAt B b (l ++ (shortB s).data.toList ++ (shortB t).data.toList) w2 ∧ Below B w w2 ∧ Keeps b w w2) := ⟨hw2, HB1.out.trans hb2, HK1.out.trans hk2 hs1⟩
      clear hw2 hb2 hk2
      go_wp2
      go_roundw
      case rel => exact ⟨.inr (.inr ⟨rfl, HF.out.1⟩), HF.out.2⟩
      case measure => simp [intOf]
    · have HF : Hid (WrAt B b (l ++ (shortB s).data.toList ++ (shortB t).data.toList) wr ∧ Below B w wr ∧ Keeps b w wr) := ⟨hw, hbel, hkp⟩
      clear hw hbel hkp hrw c0 c1
      go_wp2
      go_end0
      exact ⟨rfl, HF.out⟩

open Go.RowKit

/-- A text of bytes. -/
def ba (l : List UInt8) : ByteArray := ⟨l.toArray⟩
theorem ba_size (l : List UInt8) : (ba l).size = l.length := by show l.toArray.size = _; simp
theorem ba_add (a b : List UInt8) : ba a ++ ba b = ba (a ++ b) := by
  apply ByteArray.ext
  apply Array.ext'
  simp [ba]
theorem ba_of (s : ByteArray) : ba s.data.toList = s := by
  apply ByteArray.ext
  apply Array.ext'
  simp [ba]
theorem add_ba (a b : List UInt8) (h : a.length + b.length ≤ 1073741824) (w : World) : (Op.stringOp .add (ba a) (ba b)).run Try.prog w = .ok (.string (ba (a ++ b))) w := by
  rw [run_string_add_sum (P := Try.prog) w (ba a) (ba b) (by rw [ba_size, ba_size]; omega), ba_add]
theorem var_ba (x : Int) (h0 : 0 ≤ x) (h1 : x ≤ 1000000000) (w : World) :
    Calls Try.prog 167 #[.int .i64 x] w fun e w' => e = .returned (.string (ba (varB x.toNat))) ∧ Below w.heap.size w w' := l01Var_int x h0 h1 w
theorem varLen {x : Int} (h0 : 0 ≤ x) (h1 : x ≤ 1000000000) : (varB x.toNat).length ≤ 5 := varB_len5 (by omega)

set_option maxHeartbeats 2000000 in
theorem dotT_calls (r s : Int) (hr : 0 ≤ r ∧ r ≤ 1000000000) (hs : 0 ≤ s ∧ s ≤ 1000000000) (w : World) :
    Calls Try.prog 166 #[.agg #[.int .i64 r, .int .i64 s]] w fun e w' => e = .returned (.string (ba (varB r.toNat ++ varB s.toNat))) ∧ Below w.heap.size w w' := by
  have l1 := varLen hr.1 hr.2
  have l2 := varLen hs.1 hs.2
  have HV1 : Hid (∀ wx, Calls Try.prog 167 #[.int .i64 r] wx fun e w' => e = .returned (.string (ba (varB r.toNat))) ∧ Below wx.heap.size wx w') := fun wx => var_ba r hr.1 hr.2 wx
  have HV2 : Hid (∀ wx, Calls Try.prog 167 #[.int .i64 s] wx fun e w' => e = .returned (.string (ba (varB s.toNat))) ∧ Below wx.heap.size wx w') := fun wx => var_ba s hs.1 hs.2 wx
  generalize varB r.toNat = R at *
  generalize varB s.toNat = Q at *
  have hadd := fun wx => add_ba R Q (by omega) wx
  obtain ⟨W, hW⟩ : ∃ W, W = w.alloc (.cells #[.int .i64 r, .int .i64 s] 47) := ⟨_, rfl⟩
  have hR : Row W w.heap.size #[.int .i64 r, .int .i64 s] 47 := by rw [hW]; exact row_new _ _ _ rfl
  have HBW : Hid (Below w.heap.size w W) := by rw [hW]; exact (Below.refl _ _).alloc (Nat.le_refl _) _
  have HW : Hid (w.alloc (.cells #[.int .i64 r, .int .i64 s] 47) = W) := hW.symm
  have HC : Hid (∀ wx, Below W.heap.size W wx → wx.cell? ⟨w.heap.size, 0, none⟩ = some (.int .i64 r) ∧ wx.cell? ⟨w.heap.size, 1, none⟩ = some (.int .i64 s)) := fun wx h => ⟨(hR.next h).cell 0 rfl, (hR.next h).cell 1 rfl⟩
  have hW0 : Below W.heap.size W W := Below.refl _ _
  have hWd : Below W.heap.size W W.drew := hW0.drew
  obtain ⟨c0, c1⟩ := HC.out _ hW0
  have SS := HC.out _ hWd
  have tok : True := trivial
  clear hW hR l1 l2
  go_enter Try.func166, Try.ntmps166
  go_wp2
  rw [HW.out]
  go_region_held3 (fun w' => w'.cell? ⟨w.heap.size, 0, none⟩ = some (.int .i64 r) ∧ w'.cell? ⟨w.heap.size, 1, none⟩ = some (.int .i64 s)) (first | exact SS | exact SS1 | exact SS2 | go_keep) (first
    | (go_at_call 167; have _t := tok; refine (HV1.out _).mono ?_; clear tok; rintro e w1 ⟨rfl, hb1⟩; have hV1 : Below W.heap.size W w1 := hWd.trans (hb1.mono hWd.size); have SS1 := HC.out _ hV1; clear hb1)
    | (go_at_call 167; refine (HV2.out _).mono ?_; rintro e w2 ⟨rfl, hb2⟩; have hV2 : Below W.heap.size W w2 := hV1.trans (hb2.mono hV1.size); have SS2 := HC.out _ hV2; clear hb2))
  go_wp2
  go_ret
  exact ⟨rfl, HBW.out.trans (hV2.mono HBW.out.size)⟩

theorem shortT_calls (s : ByteArray) (h : s.size ≤ 1000000) (w : World) :
    Calls Try.prog 169 #[.string s] w fun e w' => e = .returned (.string (ba (varB s.size ++ s.data.toList))) ∧ Below w.heap.size w w' := by
  have l1 := varB_len5 (n := s.size) (by omega)
  have HV1 : Hid (∀ wx, Calls Try.prog 167 #[.int .i64 (s.size : Int)] wx fun e w' => e = .returned (.string (ba (varB s.size))) ∧ Below wx.heap.size wx w') := fun wx => l01Var_calls s.size (by omega) wx
  have hz : s.data.toList.length = s.size := by simp
  have hadd : ∀ wx, (Op.stringOp .add (ba (varB s.size)) s).run Try.prog wx = .ok (.string (ba (varB s.size ++ s.data.toList))) wx := fun wx => by
    have := add_ba (varB s.size) s.data.toList (by omega) wx
    rwa [ba_of] at this
  clear hz l1
  generalize ba (varB s.size ++ s.data.toList) = R at *
  generalize ba (varB s.size) = Q at *
  go_enter Try.func169, Try.ntmps169
  go_wp2_with (go_at_call 167; refine (HV1.out _).mono ?_; rintro e w1 ⟨rfl, hb1⟩)
  go_ret
  exact ⟨rfl, hb1⟩

set_option maxHeartbeats 1000000 in
theorem knowT_calls (l : List Int) (v : Value) (w : World) (hn : l.length ≤ 1000) (hx : ∀ x ∈ l, 0 ≤ x ∧ x ≤ 1000000000) (hv : IntsAt w v l) :
    Calls Try.prog 168 #[v] w fun e w' => e = .returned (.string (ba (numsB l))) ∧ Below w.heap.size w w' := by
  have HX : Hid (∀ x ∈ l, 0 ≤ x ∧ x ≤ 1000000000) := hx
  obtain ⟨aa, ca, rfl, hg⟩ := hv
  obtain ⟨n, hln⟩ : ∃ n, n = l.length := ⟨_, rfl⟩
  have HL : Hid (n = l.length) := hln
  have HG : Hid (0 < l.length → ∃ g, aa = some ⟨g, 0, none⟩ ∧ g < w.heap.size ∧ ∀ j (h : j < l.length), w.cell? ⟨g, j, none⟩ = some (.int .i64 (l[j]))) := hg
  rw [← hln]
  rw [← hln] at hn
  clear hg hx hln
  go_enter Try.func168, Try.ntmps168
  go_wp2
  go_loopw [3, 4] (fun y z wr => ∃ k : Nat, k ≤ n ∧ z = .int .i64 k ∧ y = .string (ba (numsB (l.take k))) ∧ Below w.heap.size w wr) (fun _ z _ => n - (intOf z).toNat)
  case atStart => exact ⟨0, Nat.zero_le _, rfl, rfl, Below.refl _ _⟩
  case round =>
    obtain ⟨k, hk, rfl, rfl, hbel⟩ := hrel
    have hlen := numsB_len (xs := l.take k) (fun x hx => HX.out x (List.mem_of_mem_take hx))
    have ht : (l.take k).length ≤ 1000 := by rw [List.length_take]; omega
    by_cases hlt : k < n
    · have hkl : k < l.length := by rw [← HL.out]; exact hlt
      obtain ⟨g, rfl, hg1, hc⟩ := HG.out (by omega)
      have hc1 : wr.cell? ⟨g, k, none⟩ = some (.int .i64 (l[k])) := (hbel.cell (p := ⟨g, k, none⟩) hg1).trans (hc k hkl)
      have hx1 := HX.out (l[k]) (List.getElem_mem hkl)
      have HS : Hid (numsB (l.take (k + 1)) = numsB (l.take k) ++ varB (l[k]).toNat) := numsB_snoc l k hkl
      have hv5 := varLen hx1.1 hx1.2
      generalize l[k] = x at *
      have HV1 : Hid (∀ wx, Calls Try.prog 167 #[.int .i64 x] wx fun e w' => e = .returned (.string (ba (varB x.toNat))) ∧ Below wx.heap.size wx w') := fun wx => var_ba x hx1.1 hx1.2 wx
      generalize varB x.toNat = Q at *
      generalize numsB (l.take k) = P at *
      have hadd := fun wx => add_ba P Q (by omega) wx
      have hk1 : (k : Int) < n := by omega
      have hk0 : (0 : Int) ≤ k := by omega
      have HB : Hid (Below w.heap.size w wr) := hbel
      clear hc hkl hbel hv5 hlen hx1
      go_wp2_with (go_at_call 167; refine (HV1.out _).mono ?_; rintro e w1 ⟨rfl, hb1⟩)
      have HB1 : Hid (Below w.heap.size w w1) := HB.out.trans (hb1.mono HB.out.size)
      clear hb1
      go_roundw
      case rel => exact ⟨k + 1, by omega, by go_num, by rw [HS.out], HB1.out⟩
      case measure => simp [intOf]; omega
    · have hk1 : ¬ ((k : Int) < n) := by omega
      have HE : Hid (l.take k = l) := List.take_of_length_le (by have := HL.out; omega)
      clear hlen ht
      go_wp2
      go_ret
      exact ⟨by show Ending.returned (.string (ba (numsB (l.take k)))) = _; rw [HE.out], hbel⟩


end Go.Proofs.Ytahdgagipmpcgaa
