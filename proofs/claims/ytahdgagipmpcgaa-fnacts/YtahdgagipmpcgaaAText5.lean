/- The text of an act, as the program makes it. -/
import Derived.Test.YtahdgagipmpcgaaAText4
namespace Go.Proofs.Ytahdgagipmpcgaa
set_option maxRecDepth 100000
set_option linter.unusedVariables false
open Go.RowKit

theorem ints_row {w : World} {g c : Nat} {l : List Int} (h : Row w g (intV l).toArray 3) : IntsAt w (.slice (some ⟨g, 0, none⟩) l.length c) l :=
  ⟨_, _, rfl, fun _ => ⟨g, rfl, h.lt, fun j hj => h.cell j (by simp [intV, hj])⟩⟩
theorem actB_pieces (r s t k v x z : Int) (o y : ByteArray) (l : List Int) :
    [] ++ numsB [r, s, t] ++ numsB l ++ numsB [k] ++ (shortB o).data.toList ++ (shortB y).data.toList ++ numsB [v, x, z] = actB ⟨r, s, t, k, v, x, z, o, y, l⟩ := by
  rw [shortB_list, shortB_list]
  simp [numsB, actB, List.append_assoc]
theorem actB_ne (A : Ac) : actB A ≠ [] := by
  intro h
  have h1 := varB_len A.r.toNat
  have h2 := congrArg List.length h
  unfold actB at h2
  simp only [List.length_append, List.length_nil] at h2
  omega

set_option maxHeartbeats 4000000 in
theorem implText_yes (r s t k v x z : Int) (o y : ByteArray) (l : List Int) (u : Value) (w : World) (h : AOk ⟨r, s, t, k, v, x, z, o, y, l⟩) (hu : IntsAt w u l) :
    Calls Try.prog 47 #[.agg #[.int .i64 r, .int .i64 s, .int .i64 t, u, .int .i64 k, .string o, .string y, .int .i64 v, .int .i64 x, .int .i64 z]] w fun e w' => e = .returned (.tuple #[.string (ba (actB ⟨r, s, t, k, v, x, z, o, y, l⟩)), .bool true]) ∧ Below w.heap.size w w' := by
  obtain ⟨hr, hs, ht, hk, hv, hx, hz, ho, hy, hn, hl⟩ := h.lim
  simp only at hr hs ht hk hv hx hz ho hy hn hl
  have l10 := numsB_len (xs := l) (fun a ha => by have := hl a ha; omega)
  have hq1 : ∀ a ∈ [r, s, t], 0 ≤ a ∧ a ≤ 1000000000 := by intro a ha; simp at ha; rcases ha with rfl | rfl | rfl <;> omega
  have hq2 : ∀ a ∈ l, 0 ≤ a ∧ a ≤ 1000000000 := fun a ha => by have := hl a ha; omega
  have hq3 : ∀ a ∈ [k], 0 ≤ a ∧ a ≤ 1000000000 := by intro a ha; simp at ha; subst ha; omega
  have hq4 : ∀ a ∈ [v, x, z], 0 ≤ a ∧ a ≤ 1000000000 := by intro a ha; simp at ha; rcases ha with rfl | rfl | rfl <;> omega
  have e1 := numsB_len hq1
  have e3 := numsB_len hq3
  have e5 := shortB_size (s := o) (by omega)
  have e6 := shortB_size (s := y) (by omega)
  have e7 : (shortB o).data.toList.length = (shortB o).size := by simp
  have e8 : (shortB y).data.toList.length = (shortB y).size := by simp
  have HE : Hid ([] ++ numsB [r, s, t] ++ numsB l ++ numsB [k] ++ (shortB o).data.toList ++ (shortB y).data.toList ++ numsB [v, x, z] = actB ⟨r, s, t, k, v, x, z, o, y, l⟩) := actB_pieces r s t k v x z o y l
  have HNE : Hid (actB ⟨r, s, t, k, v, x, z, o, y, l⟩ ≠ []) := actB_ne _
  obtain ⟨aa, ca, rfl, -⟩ := id hu
  have HAO : Hid (∀ wx, IntsAt wx (.slice aa l.length ca) l → Calls Try.prog 55 #[.agg #[.int .i64 r, .int .i64 s, .int .i64 t, .slice aa l.length ca, .int .i64 k, .string o, .string y, .int .i64 v, .int .i64 x, .int .i64 z]] wx fun e w' => e = .returned (.bool true) ∧ Below wx.heap.size wx w') := fun wx hi => by
    have := actOk_calls ⟨r, s, t, k, v, x, z, o, y, l⟩ _ wx ⟨by show l.length ≤ _; omega, by show o.size ≤ _; omega, by show y.size ≤ _; omega⟩ hi
    rwa [decide_eq_true h] at this
  obtain ⟨W, hW⟩ : ∃ W, W = w.alloc (.cells #[.int .i64 r, .int .i64 s, .int .i64 t, .slice aa l.length ca, .int .i64 k, .string o, .string y, .int .i64 v, .int .i64 x, .int .i64 z] 75) := ⟨_, rfl⟩
  have hR : Row W w.heap.size #[.int .i64 r, .int .i64 s, .int .i64 t, .slice aa l.length ca, .int .i64 k, .string o, .string y, .int .i64 v, .int .i64 x, .int .i64 z] 75 := by rw [hW]; exact row_new _ _ _ rfl
  have hI : IntsAt W (.slice aa l.length ca) l := by rw [hW]; exact hu.alloc _
  have HBW : Hid (Below w.heap.size w W) := by rw [hW]; exact (Below.refl _ _).alloc (Nat.le_refl _) _
  have HW : Hid (w.alloc (.cells #[.int .i64 r, .int .i64 s, .int .i64 t, .slice aa l.length ca, .int .i64 k, .string o, .string y, .int .i64 v, .int .i64 x, .int .i64 z] 75) = W) := hW.symm
  have l11 : (numsB l).length ≤ 15 := by omega
  have hn1 : l.length ≤ 1000 := by omega
  clear hW hu hr hs ht hk hv hx hz hl h hn l10
  go_enter Try.func47, Try.ntmps47
  go_wp2_with fail
  rw [HW.out]
  refine (HAO.out _ hI).mono ?_
  rintro e V ⟨rfl, hb0⟩
  replace hR := hR.next hb0
  replace hI := hI.below hb0
  replace HBW : Hid (Below w.heap.size w V) := HBW.out.trans (hb0.mono HBW.out.size)
  have HC : Hid (∀ wx, Below V.heap.size V wx → wx.cell? ⟨w.heap.size, 0, none⟩ = some (.int .i64 r) ∧ wx.cell? ⟨w.heap.size, 1, none⟩ = some (.int .i64 s) ∧ wx.cell? ⟨w.heap.size, 2, none⟩ = some (.int .i64 t) ∧ wx.cell? ⟨w.heap.size, 3, none⟩ = some (.slice aa l.length ca) ∧ wx.cell? ⟨w.heap.size, 4, none⟩ = some (.int .i64 k) ∧ wx.cell? ⟨w.heap.size, 5, none⟩ = some (.string o) ∧ wx.cell? ⟨w.heap.size, 6, none⟩ = some (.string y) ∧ wx.cell? ⟨w.heap.size, 7, none⟩ = some (.int .i64 v) ∧ wx.cell? ⟨w.heap.size, 8, none⟩ = some (.int .i64 x) ∧ wx.cell? ⟨w.heap.size, 9, none⟩ = some (.int .i64 z)) := fun wx h => Row.ten (hR.next h)
  have HI : Hid (∀ wx, Below V.heap.size V wx → IntsAt wx (.slice aa l.length ca) l) := fun wx h => hI.below h
  have hgV := hR.lt
  clear hb0 HW HAO W hR hI
  obtain ⟨c0, c1, c2, -, -, -, -, -, -, -⟩ := HC.out _ (Below.refl _ _)
  obtain ⟨X1, hX⟩ : ∃ X, X = (V.alloc (.cells #[.pointer none, .slice none 0 0] 134)).alloc (.cells #[.int .i64 r, .int .i64 s, .int .i64 t] 3) := ⟨_, rfl⟩
  have hB1 : Below V.heap.size V X1 := by rw [hX]; exact ((Below.refl _ _).alloc (Nat.le_refl _) _).alloc (by simp) _
  have hw1 : WrAt V.heap.size V.heap.size [] X1 := by rw [hX]; exact (wrAt_new V rfl).below ((Below.refl _ _).alloc (Nat.le_refl _) _)
  have hr1 : Row X1 (V.heap.size + 1) (intV [r, s, t]).toArray 3 := by rw [hX]; exact row_new _ _ _ (by simp)
  have HX1 : Hid ((V.alloc (.cells #[.pointer none, .slice none 0 0] 134)).alloc (.cells #[.int .i64 r, .int .i64 s, .int .i64 t] 3) = X1) := hX.symm
  clear hX
  go_wp2_with fail
  rw [HX1.out]
  refine (numbers_calls V.heap.size V.heap.size [] [r, s, t] _ X1 hw1 hB1.size (by simp) (by simp) hq1 (fun wx h1 h2 => ints_row (hr1.keeps h2 (by omega) (by decide)))).mono ?_
  rintro e w1 ⟨rfl, hw, hb, -⟩
  have hV1 : Below V.heap.size V w1 := hB1.trans hb
  clear hw1 hr1 HX1 hB1 hb c0 c1 c2 X1
  obtain ⟨-, -, -, c3, -, -, -, -, -, -⟩ := HC.out _ hV1
  go_wp2_with fail
  refine (numbers_calls V.heap.size V.heap.size _ l _ w1 hw hV1.size (by simp only [List.length_append, List.length_nil, List.length_cons] at *; omega) (by omega) hq2 (fun wx h1 h2 => HI.out _ (hV1.trans h1))).mono ?_
  rintro e w2 ⟨rfl, hw', hb, -⟩
  have hV2 : Below V.heap.size V w2 := hV1.trans hb
  clear hw hb c3 hV1

  obtain ⟨-, -, -, -, c4, -, -, -, -, -⟩ := HC.out _ hV2
  obtain ⟨X3, hX⟩ : ∃ X, X = w2.alloc (.cells #[.int .i64 k] 3) := ⟨_, rfl⟩
  have hB3 : Below V.heap.size V X3 := by rw [hX]; exact hV2.alloc hV2.size _
  have hw3 := hw'.below (w' := X3) (by rw [hX]; exact (Below.refl _ _).alloc (Nat.le_refl _) _)
  have hr3 : Row X3 w2.heap.size (intV [k]).toArray 3 := by rw [hX]; exact row_new _ _ _ rfl
  have hne : w2.heap.size ≠ V.heap.size := Nat.ne_of_gt hw'.lt
  have HX3 : Hid (w2.alloc (.cells #[.int .i64 k] 3) = X3) := hX.symm
  clear hX hw'
  go_wp2_with fail
  rw [HX3.out]
  refine (numbers_calls V.heap.size V.heap.size _ [k] _ X3 hw3 hB3.size (by simp only [List.length_append, List.length_nil, List.length_cons] at *; omega) (by simp) hq3 (fun wx h1 h2 => ints_row (hr3.keeps h2 hne (by decide)))).mono ?_
  rintro e w3 ⟨rfl, hw, hb, -⟩
  have hV3 : Below V.heap.size V w3 := hB3.trans hb
  clear hw3 hr3 HX3 hB3 hb c4 hne hV2 X3
  obtain ⟨-, -, -, -, -, c5, c6, -, -, -⟩ := HC.out _ hV3
  obtain ⟨X4, hX⟩ : ∃ X, X = w3.alloc (.cells #[.string o, .string y] 9) := ⟨_, rfl⟩
  have hB4 : Below V.heap.size V X4 := by rw [hX]; exact hV3.alloc hV3.size _
  have hw4 := hw.below (w' := X4) (by rw [hX]; exact (Below.refl _ _).alloc (Nat.le_refl _) _)
  have hr4 : Row X4 w3.heap.size #[.string o, .string y] 9 := by rw [hX]; exact row_new _ _ _ rfl
  have hne : w3.heap.size ≠ V.heap.size := Nat.ne_of_gt hw.lt
  have HX4 : Hid (w3.alloc (.cells #[.string o, .string y] 9) = X4) := hX.symm
  clear hX hw
  go_wp2_with fail
  rw [HX4.out]
  refine (names_calls V.heap.size V.heap.size w3.heap.size _ o y _ X4 hw4 hB4.size (by simp only [List.length_append, List.length_nil, List.length_cons] at *; omega) (by omega) (by omega) hr4 hne).mono ?_
  rintro e w4 ⟨rfl, hw, hb, -⟩
  have hV4 : Below V.heap.size V w4 := hB4.trans hb
  clear hw4 hr4 HX4 hB4 hb c5 c6 hne hV3 X4
  obtain ⟨-, -, -, -, -, -, -, c7, c8, c9⟩ := HC.out _ hV4
  obtain ⟨X5, hX⟩ : ∃ X, X = w4.alloc (.cells #[.int .i64 v, .int .i64 x, .int .i64 z] 3) := ⟨_, rfl⟩
  have hB5 : Below V.heap.size V X5 := by rw [hX]; exact hV4.alloc hV4.size _
  have hw5 := hw.below (w' := X5) (by rw [hX]; exact (Below.refl _ _).alloc (Nat.le_refl _) _)
  have hr5 : Row X5 w4.heap.size (intV [v, x, z]).toArray 3 := by rw [hX]; exact row_new _ _ _ rfl
  have hne : w4.heap.size ≠ V.heap.size := Nat.ne_of_gt hw.lt
  have HX5 : Hid (w4.alloc (.cells #[.int .i64 v, .int .i64 x, .int .i64 z] 3) = X5) := hX.symm
  clear hX hw
  go_wp2_with fail
  rw [HX5.out]
  refine (numbers_calls V.heap.size V.heap.size _ [v, x, z] _ X5 hw5 hB5.size (by simp only [List.length_append, List.length_nil, List.length_cons] at *; omega) (by simp) hq4 (fun wx h1 h2 => ints_row (hr5.keeps h2 hne (by decide)))).mono ?_
  rintro e w5 ⟨rfl, hw, hb, -⟩
  have hV5 : Below V.heap.size V w5 := hB5.trans hb
  rw [HE.out] at hw
  clear hw5 hr5 HX5 hB5 hb c7 c8 c9 hne hV4 X5
  go_wp2_with fail
  refine (string_calls V.heap.size V.heap.size _ w5 hw HNE.out).mono ?_
  rintro e w6 ⟨rfl, hb⟩
  have HF : Hid (Below w.heap.size w w6) := HBW.out.trans ((hV5.trans hb).mono HBW.out.size)
  clear hw hb hV5
  go_wp2
  go_ret2
  exact ⟨rfl, HF.out⟩


set_option maxHeartbeats 1000000 in
theorem specText_no (A : Ac) (u : Value) (w : World) (h : ¬ AOk A) (hl : A.l.length ≤ 1048576 ∧ A.o.size ≤ 1048576 ∧ A.y.size ≤ 1048576) (hu : IntsAt w u A.l) :
    Calls Try.prog 119 #[A.val u] w fun e w' => e = .returned (.tuple #[.string ByteArray.empty, .bool false]) ∧ Below w.heap.size w w' := by
  obtain ⟨aa, ca, rfl, -⟩ := id hu
  obtain ⟨W, hW⟩ : ∃ W, W = w.alloc (.cells (A.cs (.slice aa A.l.length ca)) 75) := ⟨_, rfl⟩
  have hI : IntsAt W (.slice aa A.l.length ca) A.l := by rw [hW]; exact hu.alloc _
  have HBW : Hid (Below w.heap.size w W) := by rw [hW]; exact (Below.refl _ _).alloc (Nat.le_refl _) _
  have HW : Hid (w.alloc (.cells (A.cs (.slice aa A.l.length ca)) 75) = W) := hW.symm
  have HC : Hid (Calls Try.prog 54 #[A.val (.slice aa A.l.length ca)] W fun e w' => e = .returned (.bool false) ∧ Below W.heap.size W w') := by
    have := specActOk_calls A _ W hl hI
    rwa [decide_eq_false h] at this
  unfold Ac.cs at HW
  unfold Ac.val at HC
  unfold Ac.val
  clear hW hI hu h
  go_enter Try.func119, Try.ntmps119
  go_wp2_with fail
  rw [HW.out]
  refine HC.out.mono ?_
  rintro e w1 ⟨rfl, hb1⟩
  have HF : Hid (Below w.heap.size w w1) := HBW.out.trans (hb1.mono HBW.out.size)
  clear hb1
  go_wp2
  go_ret2
  exact ⟨rfl, HF.out⟩


set_option maxHeartbeats 1000000 in
theorem implText_no (A : Ac) (u : Value) (w : World) (h : ¬ AOk A) (hl : A.l.length ≤ 1048576 ∧ A.o.size ≤ 1048576 ∧ A.y.size ≤ 1048576) (hu : IntsAt w u A.l) :
    Calls Try.prog 47 #[A.val u] w fun e w' => e = .returned (.tuple #[.string ByteArray.empty, .bool false]) ∧ Below w.heap.size w w' := by
  obtain ⟨aa, ca, rfl, -⟩ := id hu
  obtain ⟨W, hW⟩ : ∃ W, W = w.alloc (.cells (A.cs (.slice aa A.l.length ca)) 75) := ⟨_, rfl⟩
  have hI : IntsAt W (.slice aa A.l.length ca) A.l := by rw [hW]; exact hu.alloc _
  have HBW : Hid (Below w.heap.size w W) := by rw [hW]; exact (Below.refl _ _).alloc (Nat.le_refl _) _
  have HW : Hid (w.alloc (.cells (A.cs (.slice aa A.l.length ca)) 75) = W) := hW.symm
  have HC : Hid (Calls Try.prog 55 #[A.val (.slice aa A.l.length ca)] W fun e w' => e = .returned (.bool false) ∧ Below W.heap.size W w') := by
    have := actOk_calls A _ W hl hI
    rwa [decide_eq_false h] at this
  unfold Ac.cs at HW
  unfold Ac.val at HC
  unfold Ac.val
  clear hW hI hu h
  go_enter Try.func47, Try.ntmps47
  go_wp2_with fail
  rw [HW.out]
  refine HC.out.mono ?_
  rintro e w1 ⟨rfl, hb1⟩
  have HF : Hid (Below w.heap.size w w1) := HBW.out.trans (hb1.mono HBW.out.size)
  clear hb1
  go_wp2
  go_ret2
  exact ⟨rfl, HF.out⟩

theorem specActText_calls (A : Ac) (u : Value) (w : World) (hl : A.l.length ≤ 1048576 ∧ A.o.size ≤ 1048576 ∧ A.y.size ≤ 1048576) (hu : IntsAt w u A.l) :
    Calls Try.prog 119 #[A.val u] w fun e w' => e = .returned (.tuple #[.string (actT A).1, .bool (actT A).2]) ∧ Below w.heap.size w w' := by
  by_cases h : AOk A
  · have e : actT A = (ba (actB A), true) := by unfold actT; rw [if_pos h]
    rw [e]
    cases A
    exact specText_yes _ _ _ _ _ _ _ _ _ _ u w h hu
  · have e : actT A = (ByteArray.empty, false) := by unfold actT; rw [if_neg h]
    rw [e]
    exact specText_no A u w h hl hu

theorem actText_calls (A : Ac) (u : Value) (w : World) (hl : A.l.length ≤ 1048576 ∧ A.o.size ≤ 1048576 ∧ A.y.size ≤ 1048576) (hu : IntsAt w u A.l) :
    Calls Try.prog 47 #[A.val u] w fun e w' => e = .returned (.tuple #[.string (actT A).1, .bool (actT A).2]) ∧ Below w.heap.size w w' := by
  by_cases h : AOk A
  · have e : actT A = (ba (actB A), true) := by unfold actT; rw [if_pos h]
    rw [e]
    cases A
    exact implText_yes _ _ _ _ _ _ _ _ _ _ u w h hu
  · have e : actT A = (ByteArray.empty, false) := by unfold actT; rw [if_neg h]
    rw [e]
    exact implText_no A u w h hl hu

end Go.Proofs.Ytahdgagipmpcgaa
