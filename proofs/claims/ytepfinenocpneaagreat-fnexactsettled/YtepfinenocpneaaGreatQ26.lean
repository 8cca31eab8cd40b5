/- An act whose dot is not right. -/
import Derived.Test.YtepfinenocpneaaGreatQ13
set_option maxHeartbeats 16000000
namespace Go.Proofs.YtepfinenocpneaaGreat
open Value (int)
open IntKind (i64)
set_option maxRecDepth 100000
set_option linter.unusedVariables false
open Go.RowKit
theorem Jfa (r s t k v x z : Int) (o y : ByteArray) (l : List Int) (u : Value) (w : World) (hl : l.length ≤ 1048576) (ho : o.size ≤ 1048576) (hy : y.size ≤ 1048576) (hu : IntsAt w u l) (hd : ¬ (DOk r s)) :
  Calls Tryz.prog 68 #[.agg #[int i64 r, int i64 s, int i64 t, u, int i64 k, .string o, .string y, int i64 v, int i64 x, int i64 z]] w fun e w' => e = .returned (.bool (decide (AOk ⟨r, s, t, k, v, x, z, o, y, l⟩))) ∧ Below w.heap.size w w' := by
 obtain ⟨q, hq⟩ : ∃ q, q = decide (AOk ⟨r, s, t, k, v, x, z, o, y, l⟩) := ⟨_, rfl⟩
 rw [← hq]
 have HNO : Hid (¬ (DOk r s ∧ KOk l ∧ l.getD r.toNat 0 = s - 1 ∧ (1 ≤ t ∧ t ≤ 10000) ∧ JL k o y v ∧ JP l k x z) → q = false) := fun h => by rw [hq]; exact decide_eq_false h
 have HQ : Hid (q = decide (DOk r s ∧ KOk l ∧ l.getD r.toNat 0 = s - 1 ∧ (1 ≤ t ∧ t ≤ 10000) ∧ JL k o y v ∧ JP l k x z)) := hq
 clear hq
 have mo : o.size ≤ maxLen := by unfold maxLen; omega
 have my : y.size ≤ maxLen := by unfold maxLen; omega
 have hlc : l.length ≤ 1048576 := hl
 obtain ⟨aa, ca, rfl, hug⟩ := id hu
 obtain ⟨W, hW⟩ : ∃ W, W = w.alloc (.cells #[int i64 r, int i64 s, int i64 t, .slice aa l.length ca, int i64 k, .string o, .string y, int i64 v, int i64 x, int i64 z] 44) := ⟨_, rfl⟩
 have hR : Row W w.heap.size #[int i64 r, int i64 s, int i64 t, .slice aa l.length ca, int i64 k, .string o, .string y, int i64 v, int i64 x, int i64 z] 44 := by rw [hW]; exact Jb _ _ _ rfl
 have hI : IntsAt W (.slice aa l.length ca) l := by rw [hW]; exact hu.alloc _
 have HBW : Hid (Below w.heap.size w W) := by rw [hW]; exact (Below.refl _ _).alloc (Nat.le_refl _) _
 have HW : Hid (w.alloc (.cells #[int i64 r, int i64 s, int i64 t, .slice aa l.length ca, int i64 k, .string o, .string y, int i64 v, int i64 x, int i64 z] 44) = W) := hW.symm
 have HC : Hid (∀ wx, Below W.heap.size W wx → wx.cell? ⟨w.heap.size, 0, none⟩ = some (int i64 r) ∧ wx.cell? ⟨w.heap.size, 1, none⟩ = some (int i64 s) ∧ wx.cell? ⟨w.heap.size, 2, none⟩ = some (int i64 t) ∧ wx.cell? ⟨w.heap.size, 3, none⟩ = some (.slice aa l.length ca) ∧ wx.cell? ⟨w.heap.size, 4, none⟩ = some (int i64 k) ∧ wx.cell? ⟨w.heap.size, 5, none⟩ = some (.string o) ∧ wx.cell? ⟨w.heap.size, 6, none⟩ = some (.string y) ∧ wx.cell? ⟨w.heap.size, 7, none⟩ = some (int i64 v) ∧ wx.cell? ⟨w.heap.size, 8, none⟩ = some (int i64 x) ∧ wx.cell? ⟨w.heap.size, 9, none⟩ = some (int i64 z)) := fun wx h => Row.ten (hR.next h)
 have HI : Hid (∀ wx, Below W.heap.size W wx → IntsAt wx (.slice aa l.length ca) l) := fun wx h => hI.below h
 have HF : Hid (∀ wx, Below W.heap.size W wx → Below w.heap.size w wx) := fun wx h => HBW.out.trans (h.mono HBW.out.size)
 have HDC : Hid (∀ wx, Calls Tryz.prog 111 #[.agg #[int i64 r, int i64 s]] wx fun e w' => e = .returned (.bool (decide (DOk r s))) ∧ Below wx.heap.size wx w') := fun wx => Zu r s wx
 have HKC : Hid (∀ wx, Below W.heap.size W wx → Calls Tryz.prog 96 #[.slice aa l.length ca] wx fun e w' => e = .returned (.bool (decide (KOk l))) ∧ Below wx.heap.size wx w') := fun wx h => (J8 l _ wx (HI.out wx h)).mono (by rintro e w' ⟨rfl, rfl⟩; exact ⟨rfl, Below.refl _ _⟩)
 have hBc : Below W.heap.size W W := Below.refl _ _
 obtain ⟨c0, c1, c2, c3, c4, c5, c6, c7, c8, c9⟩ := HC.out _ hBc
 clear hW hu hR hl ho hy
 obtain rfl : q = false := HNO.out (fun h => hd h.1)
 rw [decide_eq_false hd] at HDC
 have HS : Hid (∀ wx, Below W.heap.size W wx → wx.cell? ⟨w.heap.size, 0, none⟩ = some (int i64 r) ∧ wx.cell? ⟨w.heap.size, 1, none⟩ = some (int i64 s) ∧ wx.cell? ⟨w.heap.size, 2, none⟩ = some (int i64 t) ∧ wx.cell? ⟨w.heap.size, 3, none⟩ = some (.slice aa l.length ca) ∧ wx.cell? ⟨w.heap.size, 4, none⟩ = some (int i64 k) ∧ wx.cell? ⟨w.heap.size, 5, none⟩ = some (.string o) ∧ wx.cell? ⟨w.heap.size, 6, none⟩ = some (.string y) ∧ wx.cell? ⟨w.heap.size, 7, none⟩ = some (int i64 v) ∧ wx.cell? ⟨w.heap.size, 8, none⟩ = some (int i64 x) ∧ wx.cell? ⟨w.heap.size, 9, none⟩ = some (int i64 z)) := fun wx h => HC.out wx h
 clear HQ HNO hd c2 c4 c5 c6 c7 c8 c9
 go_enter Tryz.func68, Tryz.ntmps68
 go_wp2
 rw [HW.out]
 try simp only [List.append_eq, List.cons_append, List.nil_append]
 have hBd := hBc.drew
 replace hBc := hBd
 clear hBd
 refine wph HS hBc 24 ?_
 refine wpAnyH_take (i := 0) (oi := (oq 4 (.fieldAddr 44 (.tmp 1) 0) 0 "l05_act.go:100" #[] none)) (v := ?v0) rfl (by as_aux_lemma => kernel_rfl) (by as_aux_lemma => kernel_rfl) (by as_aux_lemma => kernel_rfl) (fun _ _ _ h => h) (Or.inl ⟨by rfl, ?hy0⟩) (HS.out _ hBc) ?_
 case hy0 =>
  intro w hSw
  try dsimp only at hSw
  go_simp <;> with_reducible rfl
 try simp only [sq]
 refine wpAnyH_take (i := 1) (oi := (oq 5 (.load 42 (.tmp 4)) 42 "l05_act.go:100" #[eD 0] none)) (v := ?v1) rfl (by as_aux_lemma => kernel_rfl) (by as_aux_lemma => kernel_rfl) (by as_aux_lemma => kernel_rfl) (fun _ _ _ h => h) (Or.inl ⟨by rfl, ?hy1⟩) (HS.out _ hBc) ?_
 case hy1 =>
  intro w hSw
  try dsimp only at hSw
  go_simp <;> with_reducible rfl
 try simp only [sq]
 refine wpAnyH_ready (rs := [2]) (by as_aux_lemma => kernel_rfl) (by simp) ?_
 refine AllReadyH.cons (o := (oq 6 (.call ⟨.value (.func 111), #[.tmp 5], #[42]⟩) 4 "l05_act.go:100" #[eD 1] none)) rfl (fun K hK => ?_) AllReadyH.nil
 go_simp
 refine (HDC.out _).mono ?_
 rintro e wn ⟨rfl, hbn⟩
 replace hBc := nx hBc hbn
 clear hbn
 try go_wp2_with fail
 refine hK.out _ _ (HS.out _ hBc) (fun _ => ?_)
 clear hK K
 try simp only [List.setIfInBounds_toArray, List.set_cons_zero, List.set_cons_succ]
 refine wpAnyH_take (i := 3) (oi := (oq 7 (.unOp .not 4 (.tmp 6)) 4 "l05_act.go:100" #[eD 2] none)) (v := ?v3) rfl (by as_aux_lemma => kernel_rfl) (by as_aux_lemma => kernel_rfl) (by as_aux_lemma => kernel_rfl) (fun _ _ _ h => h) (Or.inl ⟨by rfl, ?hy3⟩) (HS.out _ hBc) ?_
 case hy3 =>
  intro w hSw
  try dsimp only at hSw
  go_simp <;> with_reducible rfl
 try simp only [sq]
 refine wpAnyH_take (i := 4) (oi := (oq 8 (.move (.tmp 7)) 4 "l05_act.go:100" #[eD 3, eC 2] none)) (v := ?v4) rfl (by as_aux_lemma => kernel_rfl) (by as_aux_lemma => kernel_rfl) (by as_aux_lemma => kernel_rfl) (fun _ _ _ h => h) (Or.inl ⟨by rfl, ?hy4⟩) (HS.out _ hBc) ?_
 case hy4 =>
  intro w hSw
  try dsimp only at hSw
  go_simp <;> with_reducible rfl
 try simp only [sq]
 refine wpAnyH_take (i := 5) (oi := (oq 9 (.fieldAddr 44 (.tmp 1) 2) 0 "l05_act.go:100" #[eG 4] (some (4, false)))) (v := undef) rfl (by as_aux_lemma => kernel_rfl) (by as_aux_lemma => kernel_rfl) (by as_aux_lemma => kernel_rfl) (fun _ _ _ h => h) (Or.inr ⟨by rfl, rfl⟩) (HS.out _ hBc) ?_
 try simp only [sq]
 refine wpAnyH_take (i := 6) (oi := (oq 10 (.load 24 (.tmp 9)) 24 "l05_act.go:100" #[eD 5, eG 4] (some (4, false)))) (v := undef) rfl (by as_aux_lemma => kernel_rfl) (by as_aux_lemma => kernel_rfl) (by as_aux_lemma => kernel_rfl) (fun _ _ _ h => h) (Or.inr ⟨by rfl, rfl⟩) (HS.out _ hBc) ?_
 try simp only [sq]
 refine wpAnyH_ready (rs := [7]) (by as_aux_lemma => kernel_rfl) (by simp) ?_
 refine AllReadyH.cons (o := (oq 11 (.call ⟨.value (.func 96), #[.tmp 10], #[24]⟩) 4 "l05_act.go:100" #[eD 6, eC 4, eG 4] (some (4, false)))) rfl (fun K hK => ?_) AllReadyH.nil
 refine Eq.mpr (if_neg (fun h => Bool.noConfusion (show false = true from h))) ?_
 refine hK.out _ _ (HS.out _ hBc) (fun _ => ?_)
 clear hK K
 try simp only [sq]
 refine wpAnyH_take (i := 8) (oi := (oq 12 (.unOp .not 4 (.tmp 11)) 4 "l05_act.go:100" #[eD 7, eG 4] (some (4, false)))) (v := undef) rfl (by as_aux_lemma => kernel_rfl) (by as_aux_lemma => kernel_rfl) (by as_aux_lemma => kernel_rfl) (fun _ _ _ h => h) (Or.inr ⟨by rfl, rfl⟩) (HS.out _ hBc) ?_
 try simp only [sq]
 refine wpAnyH_take (i := 9) (oi := (oq 13 (.pick (.tmp 8) (.const (.bool true)) (.tmp 12)) 4 "l05_act.go:100" #[eD 4, eD 8] none)) (v := ?v9) rfl (by as_aux_lemma => kernel_rfl) (by as_aux_lemma => kernel_rfl) (by as_aux_lemma => kernel_rfl) (fun _ _ _ h => h) (Or.inl ⟨by rfl, ?hy9⟩) (HS.out _ hBc) ?_
 case hy9 =>
  intro w hSw
  try dsimp only at hSw
  go_simp <;> with_reducible rfl
 try simp only [sq]
 refine wpAnyH_take (i := 10) (oi := (oq 14 (.move (.tmp 13)) 4 "l05_act.go:100" #[eD 9, eC 7] none)) (v := ?v10) rfl (by as_aux_lemma => kernel_rfl) (by as_aux_lemma => kernel_rfl) (by as_aux_lemma => kernel_rfl) (fun _ _ _ h => h) (Or.inl ⟨by rfl, ?hy10⟩) (HS.out _ hBc) ?_
 case hy10 =>
  intro w hSw
  try dsimp only at hSw
  go_simp <;> with_reducible rfl
 try simp only [sq]
 refine wpAnyH_take (i := 11) (oi := (oq 15 (.fieldAddr 44 (.tmp 1) 2) 0 "l05_act.go:100" #[eG 10] (some (10, false)))) (v := undef) rfl (by as_aux_lemma => kernel_rfl) (by as_aux_lemma => kernel_rfl) (by as_aux_lemma => kernel_rfl) (fun _ _ _ h => h) (Or.inr ⟨by rfl, rfl⟩) (HS.out _ hBc) ?_
 try simp only [sq]
 refine wpAnyH_take (i := 12) (oi := (oq 16 (.load 24 (.tmp 15)) 24 "l05_act.go:100" #[eD 11, eG 10] (some (10, false)))) (v := undef) rfl (by as_aux_lemma => kernel_rfl) (by as_aux_lemma => kernel_rfl) (by as_aux_lemma => kernel_rfl) (fun _ _ _ h => h) (Or.inr ⟨by rfl, rfl⟩) (HS.out _ hBc) ?_
 try simp only [sq]
 refine wpAnyH_take (i := 13) (oi := (oq 17 (.fieldAddr 44 (.tmp 1) 0) 0 "l05_act.go:100" #[eG 10] (some (10, false)))) (v := undef) rfl (by as_aux_lemma => kernel_rfl) (by as_aux_lemma => kernel_rfl) (by as_aux_lemma => kernel_rfl) (fun _ _ _ h => h) (Or.inr ⟨by rfl, rfl⟩) (HS.out _ hBc) ?_
 try simp only [sq]
 refine wpAnyH_take (i := 14) (oi := (oq 18 (.fieldAddr 42 (.tmp 17) 0) 0 "l05_act.go:100" #[eD 13, eG 10] (some (10, false)))) (v := undef) rfl (by as_aux_lemma => kernel_rfl) (by as_aux_lemma => kernel_rfl) (by as_aux_lemma => kernel_rfl) (fun _ _ _ h => h) (Or.inr ⟨by rfl, rfl⟩) (HS.out _ hBc) ?_
 try simp only [sq]
 refine wpAnyH_take (i := 15) (oi := (oq 19 (.load 3 (.tmp 18)) 3 "l05_act.go:100" #[eD 14, eG 10] (some (10, false)))) (v := undef) rfl (by as_aux_lemma => kernel_rfl) (by as_aux_lemma => kernel_rfl) (by as_aux_lemma => kernel_rfl) (fun _ _ _ h => h) (Or.inr ⟨by rfl, rfl⟩) (HS.out _ hBc) ?_
 try simp only [sq]
 refine wpAnyH_take (i := 16) (oi := (oq 20 (.indexAddr 24 (.tmp 16) (.tmp 19)) 0 "l05_act.go:100" #[eD 12, eD 15, eG 10] (some (10, false)))) (v := undef) rfl (by as_aux_lemma => kernel_rfl) (by as_aux_lemma => kernel_rfl) (by as_aux_lemma => kernel_rfl) (fun _ _ _ h => h) (Or.inr ⟨by rfl, rfl⟩) (HS.out _ hBc) ?_
 try simp only [sq]
 refine wpAnyH_take (i := 17) (oi := (oq 21 (.load 3 (.tmp 20)) 3 "l05_act.go:100" #[eD 16, eG 10] (some (10, false)))) (v := undef) rfl (by as_aux_lemma => kernel_rfl) (by as_aux_lemma => kernel_rfl) (by as_aux_lemma => kernel_rfl) (fun _ _ _ h => h) (Or.inr ⟨by rfl, rfl⟩) (HS.out _ hBc) ?_
 try simp only [sq]
 refine wpAnyH_take (i := 18) (oi := (oq 22 (.fieldAddr 44 (.tmp 1) 0) 0 "l05_act.go:100" #[eG 10] (some (10, false)))) (v := undef) rfl (by as_aux_lemma => kernel_rfl) (by as_aux_lemma => kernel_rfl) (by as_aux_lemma => kernel_rfl) (fun _ _ _ h => h) (Or.inr ⟨by rfl, rfl⟩) (HS.out _ hBc) ?_
 try simp only [sq]
 refine wpAnyH_take (i := 19) (oi := (oq 23 (.fieldAddr 42 (.tmp 22) 1) 0 "l05_act.go:100" #[eD 18, eG 10] (some (10, false)))) (v := undef) rfl (by as_aux_lemma => kernel_rfl) (by as_aux_lemma => kernel_rfl) (by as_aux_lemma => kernel_rfl) (fun _ _ _ h => h) (Or.inr ⟨by rfl, rfl⟩) (HS.out _ hBc) ?_
 try simp only [sq]
 refine wpAnyH_take (i := 20) (oi := (oq 24 (.load 3 (.tmp 23)) 3 "l05_act.go:100" #[eD 19, eG 10] (some (10, false)))) (v := undef) rfl (by as_aux_lemma => kernel_rfl) (by as_aux_lemma => kernel_rfl) (by as_aux_lemma => kernel_rfl) (fun _ _ _ h => h) (Or.inr ⟨by rfl, rfl⟩) (HS.out _ hBc) ?_
 try simp only [sq]
 refine wpAnyH_take (i := 21) (oi := (oq 25 (.binOp .sub 3 (.tmp 24) (.const (int i64 1)) 3) 3 "l05_act.go:100" #[eD 20, eG 10] (some (10, false)))) (v := undef) rfl (by as_aux_lemma => kernel_rfl) (by as_aux_lemma => kernel_rfl) (by as_aux_lemma => kernel_rfl) (fun _ _ _ h => h) (Or.inr ⟨by rfl, rfl⟩) (HS.out _ hBc) ?_
 try simp only [sq]
 refine wpAnyH_take (i := 22) (oi := (oq 26 (.binOp .neq 3 (.tmp 21) (.tmp 25) 3) 4 "l05_act.go:100" #[eD 17, eD 21, eG 10] (some (10, false)))) (v := undef) rfl (by as_aux_lemma => kernel_rfl) (by as_aux_lemma => kernel_rfl) (by as_aux_lemma => kernel_rfl) (fun _ _ _ h => h) (Or.inr ⟨by rfl, rfl⟩) (HS.out _ hBc) ?_
 try simp only [sq]
 refine wpAnyH_take (i := 23) (oi := (oq 27 (.pick (.tmp 14) (.const (.bool true)) (.tmp 26)) 4 "l05_act.go:100" #[eD 10, eD 22] none)) (v := ?v23) rfl (by as_aux_lemma => kernel_rfl) (by as_aux_lemma => kernel_rfl) (by as_aux_lemma => kernel_rfl) (fun _ _ _ h => h) (Or.inl ⟨by rfl, ?hy23⟩) (HS.out _ hBc) ?_
 case hy23 =>
  intro w hSw
  try dsimp only at hSw
  go_simp <;> with_reducible rfl
 try simp only [sq]
 refine wpd ?_
 go_wp2
 go_ret
 exact ⟨rfl, HF.out _ hBc⟩
theorem JfA (r s t k v x z : Int) (o y : ByteArray) (l : List Int) (u : Value) (w : World) (hl : l.length ≤ 1048576) (ho : o.size ≤ 1048576) (hy : y.size ≤ 1048576) (hu : IntsAt w u l) (hd : DOk r s) (hk : ¬ (KOk l)) :
  Calls Tryz.prog 68 #[.agg #[int i64 r, int i64 s, int i64 t, u, int i64 k, .string o, .string y, int i64 v, int i64 x, int i64 z]] w fun e w' => e = .returned (.bool (decide (AOk ⟨r, s, t, k, v, x, z, o, y, l⟩))) ∧ Below w.heap.size w w' := by
 obtain ⟨q, hq⟩ : ∃ q, q = decide (AOk ⟨r, s, t, k, v, x, z, o, y, l⟩) := ⟨_, rfl⟩
 rw [← hq]
 have HNO : Hid (¬ (DOk r s ∧ KOk l ∧ l.getD r.toNat 0 = s - 1 ∧ (1 ≤ t ∧ t ≤ 10000) ∧ JL k o y v ∧ JP l k x z) → q = false) := fun h => by rw [hq]; exact decide_eq_false h
 have HQ : Hid (q = decide (DOk r s ∧ KOk l ∧ l.getD r.toNat 0 = s - 1 ∧ (1 ≤ t ∧ t ≤ 10000) ∧ JL k o y v ∧ JP l k x z)) := hq
 clear hq
 have mo : o.size ≤ maxLen := by unfold maxLen; omega
 have my : y.size ≤ maxLen := by unfold maxLen; omega
 have hlc : l.length ≤ 1048576 := hl
 obtain ⟨aa, ca, rfl, hug⟩ := id hu
 obtain ⟨W, hW⟩ : ∃ W, W = w.alloc (.cells #[int i64 r, int i64 s, int i64 t, .slice aa l.length ca, int i64 k, .string o, .string y, int i64 v, int i64 x, int i64 z] 44) := ⟨_, rfl⟩
 have hR : Row W w.heap.size #[int i64 r, int i64 s, int i64 t, .slice aa l.length ca, int i64 k, .string o, .string y, int i64 v, int i64 x, int i64 z] 44 := by rw [hW]; exact Jb _ _ _ rfl
 have hI : IntsAt W (.slice aa l.length ca) l := by rw [hW]; exact hu.alloc _
 have HBW : Hid (Below w.heap.size w W) := by rw [hW]; exact (Below.refl _ _).alloc (Nat.le_refl _) _
 have HW : Hid (w.alloc (.cells #[int i64 r, int i64 s, int i64 t, .slice aa l.length ca, int i64 k, .string o, .string y, int i64 v, int i64 x, int i64 z] 44) = W) := hW.symm
 have HC : Hid (∀ wx, Below W.heap.size W wx → wx.cell? ⟨w.heap.size, 0, none⟩ = some (int i64 r) ∧ wx.cell? ⟨w.heap.size, 1, none⟩ = some (int i64 s) ∧ wx.cell? ⟨w.heap.size, 2, none⟩ = some (int i64 t) ∧ wx.cell? ⟨w.heap.size, 3, none⟩ = some (.slice aa l.length ca) ∧ wx.cell? ⟨w.heap.size, 4, none⟩ = some (int i64 k) ∧ wx.cell? ⟨w.heap.size, 5, none⟩ = some (.string o) ∧ wx.cell? ⟨w.heap.size, 6, none⟩ = some (.string y) ∧ wx.cell? ⟨w.heap.size, 7, none⟩ = some (int i64 v) ∧ wx.cell? ⟨w.heap.size, 8, none⟩ = some (int i64 x) ∧ wx.cell? ⟨w.heap.size, 9, none⟩ = some (int i64 z)) := fun wx h => Row.ten (hR.next h)
 have HI : Hid (∀ wx, Below W.heap.size W wx → IntsAt wx (.slice aa l.length ca) l) := fun wx h => hI.below h
 have HF : Hid (∀ wx, Below W.heap.size W wx → Below w.heap.size w wx) := fun wx h => HBW.out.trans (h.mono HBW.out.size)
 have HDC : Hid (∀ wx, Calls Tryz.prog 111 #[.agg #[int i64 r, int i64 s]] wx fun e w' => e = .returned (.bool (decide (DOk r s))) ∧ Below wx.heap.size wx w') := fun wx => Zu r s wx
 have HKC : Hid (∀ wx, Below W.heap.size W wx → Calls Tryz.prog 96 #[.slice aa l.length ca] wx fun e w' => e = .returned (.bool (decide (KOk l))) ∧ Below wx.heap.size wx w') := fun wx h => (J8 l _ wx (HI.out wx h)).mono (by rintro e w' ⟨rfl, rfl⟩; exact ⟨rfl, Below.refl _ _⟩)
 have hBc : Below W.heap.size W W := Below.refl _ _
 obtain ⟨c0, c1, c2, c3, c4, c5, c6, c7, c8, c9⟩ := HC.out _ hBc
 clear hW hu hR hl ho hy
 rw [decide_eq_true hd] at HDC
 obtain rfl : q = false := HNO.out (fun h => hk h.2.1)
 rw [decide_eq_false hk] at HKC
 have HS : Hid (∀ wx, Below W.heap.size W wx → wx.cell? ⟨w.heap.size, 0, none⟩ = some (int i64 r) ∧ wx.cell? ⟨w.heap.size, 1, none⟩ = some (int i64 s) ∧ wx.cell? ⟨w.heap.size, 2, none⟩ = some (int i64 t) ∧ wx.cell? ⟨w.heap.size, 3, none⟩ = some (.slice aa l.length ca) ∧ wx.cell? ⟨w.heap.size, 4, none⟩ = some (int i64 k) ∧ wx.cell? ⟨w.heap.size, 5, none⟩ = some (.string o) ∧ wx.cell? ⟨w.heap.size, 6, none⟩ = some (.string y) ∧ wx.cell? ⟨w.heap.size, 7, none⟩ = some (int i64 v) ∧ wx.cell? ⟨w.heap.size, 8, none⟩ = some (int i64 x) ∧ wx.cell? ⟨w.heap.size, 9, none⟩ = some (int i64 z)) := fun wx h => HC.out wx h
 clear HQ HNO hd hk
 go_enter Tryz.func68, Tryz.ntmps68
 go_wp2
 rw [HW.out]
 try simp only [List.append_eq, List.cons_append, List.nil_append]
 have hBd := hBc.drew
 replace hBc := hBd
 clear hBd
 refine wph HS hBc 24 ?_
 refine wpAnyH_take (i := 0) (oi := (oq 4 (.fieldAddr 44 (.tmp 1) 0) 0 "l05_act.go:100" #[] none)) (v := ?v0) rfl (by as_aux_lemma => kernel_rfl) (by as_aux_lemma => kernel_rfl) (by as_aux_lemma => kernel_rfl) (fun _ _ _ h => h) (Or.inl ⟨by rfl, ?hy0⟩) (HS.out _ hBc) ?_
 case hy0 =>
  intro w hSw
  try dsimp only at hSw
  go_simp <;> with_reducible rfl
 try simp only [sq]
 refine wpAnyH_take (i := 1) (oi := (oq 5 (.load 42 (.tmp 4)) 42 "l05_act.go:100" #[eD 0] none)) (v := ?v1) rfl (by as_aux_lemma => kernel_rfl) (by as_aux_lemma => kernel_rfl) (by as_aux_lemma => kernel_rfl) (fun _ _ _ h => h) (Or.inl ⟨by rfl, ?hy1⟩) (HS.out _ hBc) ?_
 case hy1 =>
  intro w hSw
  try dsimp only at hSw
  go_simp <;> with_reducible rfl
 try simp only [sq]
 refine wpAnyH_ready (rs := [2]) (by as_aux_lemma => kernel_rfl) (by simp) ?_
 refine AllReadyH.cons (o := (oq 6 (.call ⟨.value (.func 111), #[.tmp 5], #[42]⟩) 4 "l05_act.go:100" #[eD 1] none)) rfl (fun K hK => ?_) AllReadyH.nil
 go_simp
 refine (HDC.out _).mono ?_
 rintro e wn ⟨rfl, hbn⟩
 replace hBc := nx hBc hbn
 clear hbn
 try go_wp2_with fail
 refine hK.out _ _ (HS.out _ hBc) (fun _ => ?_)
 clear hK K
 try simp only [List.setIfInBounds_toArray, List.set_cons_zero, List.set_cons_succ]
 refine wpAnyH_take (i := 3) (oi := (oq 7 (.unOp .not 4 (.tmp 6)) 4 "l05_act.go:100" #[eD 2] none)) (v := ?v3) rfl (by as_aux_lemma => kernel_rfl) (by as_aux_lemma => kernel_rfl) (by as_aux_lemma => kernel_rfl) (fun _ _ _ h => h) (Or.inl ⟨by rfl, ?hy3⟩) (HS.out _ hBc) ?_
 case hy3 =>
  intro w hSw
  try dsimp only at hSw
  go_simp <;> with_reducible rfl
 try simp only [sq]
 refine wpAnyH_take (i := 4) (oi := (oq 8 (.move (.tmp 7)) 4 "l05_act.go:100" #[eD 3, eC 2] none)) (v := ?v4) rfl (by as_aux_lemma => kernel_rfl) (by as_aux_lemma => kernel_rfl) (by as_aux_lemma => kernel_rfl) (fun _ _ _ h => h) (Or.inl ⟨by rfl, ?hy4⟩) (HS.out _ hBc) ?_
 case hy4 =>
  intro w hSw
  try dsimp only at hSw
  go_simp <;> with_reducible rfl
 try simp only [sq]
 refine wpAnyH_take (i := 5) (oi := (oq 9 (.fieldAddr 44 (.tmp 1) 2) 0 "l05_act.go:100" #[eG 4] (some (4, false)))) (v := ?v5) rfl (by as_aux_lemma => kernel_rfl) (by as_aux_lemma => kernel_rfl) (by as_aux_lemma => kernel_rfl) (fun _ _ _ h => h) (Or.inl ⟨by rfl, ?hy5⟩) (HS.out _ hBc) ?_
 case hy5 =>
  intro w hSw
  try dsimp only at hSw
  go_simp <;> with_reducible rfl
 try simp only [sq]
 refine wpAnyH_take (i := 6) (oi := (oq 10 (.load 24 (.tmp 9)) 24 "l05_act.go:100" #[eD 5, eG 4] (some (4, false)))) (v := ?v6) rfl (by as_aux_lemma => kernel_rfl) (by as_aux_lemma => kernel_rfl) (by as_aux_lemma => kernel_rfl) (fun _ _ _ h => h) (Or.inl ⟨by rfl, ?hy6⟩) (HS.out _ hBc) ?_
 case hy6 =>
  intro w hSw
  try dsimp only at hSw
  go_simp <;> with_reducible rfl
 try simp only [sq]
 refine wpAnyH_ready (rs := [7]) (by as_aux_lemma => kernel_rfl) (by simp) ?_
 refine AllReadyH.cons (o := (oq 11 (.call ⟨.value (.func 96), #[.tmp 10], #[24]⟩) 4 "l05_act.go:100" #[eD 6, eC 4, eG 4] (some (4, false)))) rfl (fun K hK => ?_) AllReadyH.nil
 go_simp
 refine (HKC.out _ hBc).mono ?_
 rintro e wn ⟨rfl, hbn⟩
 replace hBc := nx hBc hbn
 clear hbn
 try go_wp2_with fail
 refine hK.out _ _ (HS.out _ hBc) (fun _ => ?_)
 clear hK K
 try simp only [List.setIfInBounds_toArray, List.set_cons_zero, List.set_cons_succ]
 refine wpAnyH_take (i := 8) (oi := (oq 12 (.unOp .not 4 (.tmp 11)) 4 "l05_act.go:100" #[eD 7, eG 4] (some (4, false)))) (v := ?v8) rfl (by as_aux_lemma => kernel_rfl) (by as_aux_lemma => kernel_rfl) (by as_aux_lemma => kernel_rfl) (fun _ _ _ h => h) (Or.inl ⟨by rfl, ?hy8⟩) (HS.out _ hBc) ?_
 case hy8 =>
  intro w hSw
  try dsimp only at hSw
  go_simp <;> with_reducible rfl
 try simp only [sq]
 refine wpAnyH_take (i := 9) (oi := (oq 13 (.pick (.tmp 8) (.const (.bool true)) (.tmp 12)) 4 "l05_act.go:100" #[eD 4, eD 8] none)) (v := ?v9) rfl (by as_aux_lemma => kernel_rfl) (by as_aux_lemma => kernel_rfl) (by as_aux_lemma => kernel_rfl) (fun _ _ _ h => h) (Or.inl ⟨by rfl, ?hy9⟩) (HS.out _ hBc) ?_
 case hy9 =>
  intro w hSw
  try dsimp only at hSw
  go_simp <;> with_reducible rfl
 try simp only [sq]
 refine wpAnyH_take (i := 10) (oi := (oq 14 (.move (.tmp 13)) 4 "l05_act.go:100" #[eD 9, eC 7] none)) (v := ?v10) rfl (by as_aux_lemma => kernel_rfl) (by as_aux_lemma => kernel_rfl) (by as_aux_lemma => kernel_rfl) (fun _ _ _ h => h) (Or.inl ⟨by rfl, ?hy10⟩) (HS.out _ hBc) ?_
 case hy10 =>
  intro w hSw
  try dsimp only at hSw
  go_simp <;> with_reducible rfl
 try simp only [sq]
 refine wpAnyH_take (i := 11) (oi := (oq 15 (.fieldAddr 44 (.tmp 1) 2) 0 "l05_act.go:100" #[eG 10] (some (10, false)))) (v := undef) rfl (by as_aux_lemma => kernel_rfl) (by as_aux_lemma => kernel_rfl) (by as_aux_lemma => kernel_rfl) (fun _ _ _ h => h) (Or.inr ⟨by rfl, rfl⟩) (HS.out _ hBc) ?_
 try simp only [sq]
 refine wpAnyH_take (i := 12) (oi := (oq 16 (.load 24 (.tmp 15)) 24 "l05_act.go:100" #[eD 11, eG 10] (some (10, false)))) (v := undef) rfl (by as_aux_lemma => kernel_rfl) (by as_aux_lemma => kernel_rfl) (by as_aux_lemma => kernel_rfl) (fun _ _ _ h => h) (Or.inr ⟨by rfl, rfl⟩) (HS.out _ hBc) ?_
 try simp only [sq]
 refine wpAnyH_take (i := 13) (oi := (oq 17 (.fieldAddr 44 (.tmp 1) 0) 0 "l05_act.go:100" #[eG 10] (some (10, false)))) (v := undef) rfl (by as_aux_lemma => kernel_rfl) (by as_aux_lemma => kernel_rfl) (by as_aux_lemma => kernel_rfl) (fun _ _ _ h => h) (Or.inr ⟨by rfl, rfl⟩) (HS.out _ hBc) ?_
 try simp only [sq]
 refine wpAnyH_take (i := 14) (oi := (oq 18 (.fieldAddr 42 (.tmp 17) 0) 0 "l05_act.go:100" #[eD 13, eG 10] (some (10, false)))) (v := undef) rfl (by as_aux_lemma => kernel_rfl) (by as_aux_lemma => kernel_rfl) (by as_aux_lemma => kernel_rfl) (fun _ _ _ h => h) (Or.inr ⟨by rfl, rfl⟩) (HS.out _ hBc) ?_
 try simp only [sq]
 refine wpAnyH_take (i := 15) (oi := (oq 19 (.load 3 (.tmp 18)) 3 "l05_act.go:100" #[eD 14, eG 10] (some (10, false)))) (v := undef) rfl (by as_aux_lemma => kernel_rfl) (by as_aux_lemma => kernel_rfl) (by as_aux_lemma => kernel_rfl) (fun _ _ _ h => h) (Or.inr ⟨by rfl, rfl⟩) (HS.out _ hBc) ?_
 try simp only [sq]
 refine wpAnyH_take (i := 16) (oi := (oq 20 (.indexAddr 24 (.tmp 16) (.tmp 19)) 0 "l05_act.go:100" #[eD 12, eD 15, eG 10] (some (10, false)))) (v := undef) rfl (by as_aux_lemma => kernel_rfl) (by as_aux_lemma => kernel_rfl) (by as_aux_lemma => kernel_rfl) (fun _ _ _ h => h) (Or.inr ⟨by rfl, rfl⟩) (HS.out _ hBc) ?_
 try simp only [sq]
 refine wpAnyH_take (i := 17) (oi := (oq 21 (.load 3 (.tmp 20)) 3 "l05_act.go:100" #[eD 16, eG 10] (some (10, false)))) (v := undef) rfl (by as_aux_lemma => kernel_rfl) (by as_aux_lemma => kernel_rfl) (by as_aux_lemma => kernel_rfl) (fun _ _ _ h => h) (Or.inr ⟨by rfl, rfl⟩) (HS.out _ hBc) ?_
 try simp only [sq]
 refine wpAnyH_take (i := 18) (oi := (oq 22 (.fieldAddr 44 (.tmp 1) 0) 0 "l05_act.go:100" #[eG 10] (some (10, false)))) (v := undef) rfl (by as_aux_lemma => kernel_rfl) (by as_aux_lemma => kernel_rfl) (by as_aux_lemma => kernel_rfl) (fun _ _ _ h => h) (Or.inr ⟨by rfl, rfl⟩) (HS.out _ hBc) ?_
 try simp only [sq]
 refine wpAnyH_take (i := 19) (oi := (oq 23 (.fieldAddr 42 (.tmp 22) 1) 0 "l05_act.go:100" #[eD 18, eG 10] (some (10, false)))) (v := undef) rfl (by as_aux_lemma => kernel_rfl) (by as_aux_lemma => kernel_rfl) (by as_aux_lemma => kernel_rfl) (fun _ _ _ h => h) (Or.inr ⟨by rfl, rfl⟩) (HS.out _ hBc) ?_
 try simp only [sq]
 refine wpAnyH_take (i := 20) (oi := (oq 24 (.load 3 (.tmp 23)) 3 "l05_act.go:100" #[eD 19, eG 10] (some (10, false)))) (v := undef) rfl (by as_aux_lemma => kernel_rfl) (by as_aux_lemma => kernel_rfl) (by as_aux_lemma => kernel_rfl) (fun _ _ _ h => h) (Or.inr ⟨by rfl, rfl⟩) (HS.out _ hBc) ?_
 try simp only [sq]
 refine wpAnyH_take (i := 21) (oi := (oq 25 (.binOp .sub 3 (.tmp 24) (.const (int i64 1)) 3) 3 "l05_act.go:100" #[eD 20, eG 10] (some (10, false)))) (v := undef) rfl (by as_aux_lemma => kernel_rfl) (by as_aux_lemma => kernel_rfl) (by as_aux_lemma => kernel_rfl) (fun _ _ _ h => h) (Or.inr ⟨by rfl, rfl⟩) (HS.out _ hBc) ?_
 try simp only [sq]
 refine wpAnyH_take (i := 22) (oi := (oq 26 (.binOp .neq 3 (.tmp 21) (.tmp 25) 3) 4 "l05_act.go:100" #[eD 17, eD 21, eG 10] (some (10, false)))) (v := undef) rfl (by as_aux_lemma => kernel_rfl) (by as_aux_lemma => kernel_rfl) (by as_aux_lemma => kernel_rfl) (fun _ _ _ h => h) (Or.inr ⟨by rfl, rfl⟩) (HS.out _ hBc) ?_
 try simp only [sq]
 refine wpAnyH_take (i := 23) (oi := (oq 27 (.pick (.tmp 14) (.const (.bool true)) (.tmp 26)) 4 "l05_act.go:100" #[eD 10, eD 22] none)) (v := ?v23) rfl (by as_aux_lemma => kernel_rfl) (by as_aux_lemma => kernel_rfl) (by as_aux_lemma => kernel_rfl) (fun _ _ _ h => h) (Or.inl ⟨by rfl, ?hy23⟩) (HS.out _ hBc) ?_
 case hy23 =>
  intro w hSw
  try dsimp only at hSw
  go_simp <;> with_reducible rfl
 try simp only [sq]
 refine wpd ?_
 go_wp2
 go_ret
 exact ⟨rfl, HF.out _ hBc⟩
theorem JfC (r s t k v x z : Int) (o y : ByteArray) (l : List Int) (u : Value) (w : World) (hl : l.length ≤ 1048576) (ho : o.size ≤ 1048576) (hy : y.size ≤ 1048576) (hu : IntsAt w u l) (hd : DOk r s) (hk : KOk l) (hxe : ¬ (l.getD r.toNat 0 = s - 1)) :
  Calls Tryz.prog 68 #[.agg #[int i64 r, int i64 s, int i64 t, u, int i64 k, .string o, .string y, int i64 v, int i64 x, int i64 z]] w fun e w' => e = .returned (.bool (decide (AOk ⟨r, s, t, k, v, x, z, o, y, l⟩))) ∧ Below w.heap.size w w' := by
 obtain ⟨q, hq⟩ : ∃ q, q = decide (AOk ⟨r, s, t, k, v, x, z, o, y, l⟩) := ⟨_, rfl⟩
 rw [← hq]
 have HNO : Hid (¬ (DOk r s ∧ KOk l ∧ l.getD r.toNat 0 = s - 1 ∧ (1 ≤ t ∧ t ≤ 10000) ∧ JL k o y v ∧ JP l k x z) → q = false) := fun h => by rw [hq]; exact decide_eq_false h
 have HQ : Hid (q = decide (DOk r s ∧ KOk l ∧ l.getD r.toNat 0 = s - 1 ∧ (1 ≤ t ∧ t ≤ 10000) ∧ JL k o y v ∧ JP l k x z)) := hq
 clear hq
 have mo : o.size ≤ maxLen := by unfold maxLen; omega
 have my : y.size ≤ maxLen := by unfold maxLen; omega
 have hlc : l.length ≤ 1048576 := hl
 obtain ⟨aa, ca, rfl, hug⟩ := id hu
 obtain ⟨W, hW⟩ : ∃ W, W = w.alloc (.cells #[int i64 r, int i64 s, int i64 t, .slice aa l.length ca, int i64 k, .string o, .string y, int i64 v, int i64 x, int i64 z] 44) := ⟨_, rfl⟩
 have hR : Row W w.heap.size #[int i64 r, int i64 s, int i64 t, .slice aa l.length ca, int i64 k, .string o, .string y, int i64 v, int i64 x, int i64 z] 44 := by rw [hW]; exact Jb _ _ _ rfl
 have hI : IntsAt W (.slice aa l.length ca) l := by rw [hW]; exact hu.alloc _
 have HBW : Hid (Below w.heap.size w W) := by rw [hW]; exact (Below.refl _ _).alloc (Nat.le_refl _) _
 have HW : Hid (w.alloc (.cells #[int i64 r, int i64 s, int i64 t, .slice aa l.length ca, int i64 k, .string o, .string y, int i64 v, int i64 x, int i64 z] 44) = W) := hW.symm
 have HC : Hid (∀ wx, Below W.heap.size W wx → wx.cell? ⟨w.heap.size, 0, none⟩ = some (int i64 r) ∧ wx.cell? ⟨w.heap.size, 1, none⟩ = some (int i64 s) ∧ wx.cell? ⟨w.heap.size, 2, none⟩ = some (int i64 t) ∧ wx.cell? ⟨w.heap.size, 3, none⟩ = some (.slice aa l.length ca) ∧ wx.cell? ⟨w.heap.size, 4, none⟩ = some (int i64 k) ∧ wx.cell? ⟨w.heap.size, 5, none⟩ = some (.string o) ∧ wx.cell? ⟨w.heap.size, 6, none⟩ = some (.string y) ∧ wx.cell? ⟨w.heap.size, 7, none⟩ = some (int i64 v) ∧ wx.cell? ⟨w.heap.size, 8, none⟩ = some (int i64 x) ∧ wx.cell? ⟨w.heap.size, 9, none⟩ = some (int i64 z)) := fun wx h => Row.ten (hR.next h)
 have HI : Hid (∀ wx, Below W.heap.size W wx → IntsAt wx (.slice aa l.length ca) l) := fun wx h => hI.below h
 have HF : Hid (∀ wx, Below W.heap.size W wx → Below w.heap.size w wx) := fun wx h => HBW.out.trans (h.mono HBW.out.size)
 have HDC : Hid (∀ wx, Calls Tryz.prog 111 #[.agg #[int i64 r, int i64 s]] wx fun e w' => e = .returned (.bool (decide (DOk r s))) ∧ Below wx.heap.size wx w') := fun wx => Zu r s wx
 have HKC : Hid (∀ wx, Below W.heap.size W wx → Calls Tryz.prog 96 #[.slice aa l.length ca] wx fun e w' => e = .returned (.bool (decide (KOk l))) ∧ Below wx.heap.size wx w') := fun wx h => (J8 l _ wx (HI.out wx h)).mono (by rintro e w' ⟨rfl, rfl⟩; exact ⟨rfl, Below.refl _ _⟩)
 have hBc : Below W.heap.size W W := Below.refl _ _
 obtain ⟨c0, c1, c2, c3, c4, c5, c6, c7, c8, c9⟩ := HC.out _ hBc
 clear hW hu hR hl ho hy
 rw [decide_eq_true hd] at HDC
 rw [decide_eq_true hk] at HKC
 have hkl := hk.1
 obtain ⟨rn, hrn⟩ : ∃ rn : Nat, r = rn := Int.eq_ofNat_of_zero_le hd.1
 subst hrn
 have hr3 : rn < 3 := by have := hd.2.1; omega
 obtain ⟨aa', ca', he, hg⟩ := hI
 obtain ⟨rfl, -, rfl⟩ : aa = aa' ∧ True ∧ ca = ca' := by simpa using he
 obtain ⟨g, rfl, hg1, hgc⟩ := hg (by omega)
 obtain ⟨xr, hxr⟩ : ∃ xr, xr = l.getD rn 0 := ⟨_, rfl⟩
 have hrl : rn < l.length := by omega
 have hx1 : xr = l[rn] := by rw [hxr]; simp [List.getD, hrl]
 have HG : Hid (∀ wx, Below W.heap.size W wx → wx.cell? ⟨g, rn, none⟩ = some (int i64 xr)) := fun wx h => (h.cell (p := ⟨g, rn, none⟩) hg1).trans (by rw [hx1]; exact hgc rn hrl)
 have HX : Hid (xr = l.getD rn 0) := hxr
 have hs1 : 1 ≤ s := hd.2.2.1
 have hs2 : s ≤ 1000 := hd.2.2.2
 have hwr : IntKind.i64.wrap (s - 1) = s - 1 := by rw [IntKind.wrap_i64] <;> omega
 have hr0 : (0 : Int) ≤ rn := by omega
 have hr2 : (rn : Int) < l.length := by omega
 have HD : Hid (DOk (rn : Int) s) := hd
 have HK : Hid (KOk l) := hk
 clear hg hgc hxr hx1 hd hk hug he hkl hr3
 have hx : ¬ xr = s - 1 := fun h => hxe (by rw [← h, HX.out]; rfl)
 obtain rfl : q = false := HNO.out (fun h => hxe h.2.2.1)
 have hxb : (xr != s - 1) = true := by simp [hx]
 have HS : Hid (∀ wx, Below W.heap.size W wx → wx.cell? ⟨w.heap.size, 0, none⟩ = some (int i64 (rn : Int)) ∧ wx.cell? ⟨w.heap.size, 1, none⟩ = some (int i64 s) ∧ wx.cell? ⟨w.heap.size, 2, none⟩ = some (int i64 t) ∧ wx.cell? ⟨w.heap.size, 3, none⟩ = some (.slice (some ⟨g, 0, none⟩) l.length ca) ∧ wx.cell? ⟨w.heap.size, 4, none⟩ = some (int i64 k) ∧ wx.cell? ⟨w.heap.size, 5, none⟩ = some (.string o) ∧ wx.cell? ⟨w.heap.size, 6, none⟩ = some (.string y) ∧ wx.cell? ⟨w.heap.size, 7, none⟩ = some (int i64 v) ∧ wx.cell? ⟨w.heap.size, 8, none⟩ = some (int i64 x) ∧ wx.cell? ⟨w.heap.size, 9, none⟩ = some (int i64 z) ∧ wx.cell? ⟨g, rn, none⟩ = some (int i64 xr)) := fun wx h => by obtain ⟨a0, a1, a2, a3, a4, a5, a6, a7, a8, a9⟩ := HC.out wx h; exact ⟨a0, a1, a2, a3, a4, a5, a6, a7, a8, a9, HG.out wx h⟩
 clear HQ HNO hx hxe
 go_enter Tryz.func68, Tryz.ntmps68
 go_wp2
 rw [HW.out]
 try simp only [List.append_eq, List.cons_append, List.nil_append]
 have hBd := hBc.drew
 replace hBc := hBd
 clear hBd
 refine wph HS hBc 24 ?_
 refine wpAnyH_take (i := 0) (oi := (oq 4 (.fieldAddr 44 (.tmp 1) 0) 0 "l05_act.go:100" #[] none)) (v := ?v0) rfl (by as_aux_lemma => kernel_rfl) (by as_aux_lemma => kernel_rfl) (by as_aux_lemma => kernel_rfl) (fun _ _ _ h => h) (Or.inl ⟨by rfl, ?hy0⟩) (HS.out _ hBc) ?_
 case hy0 =>
  intro w hSw
  try dsimp only at hSw
  go_simp <;> with_reducible rfl
 try simp only [sq]
 refine wpAnyH_take (i := 1) (oi := (oq 5 (.load 42 (.tmp 4)) 42 "l05_act.go:100" #[eD 0] none)) (v := ?v1) rfl (by as_aux_lemma => kernel_rfl) (by as_aux_lemma => kernel_rfl) (by as_aux_lemma => kernel_rfl) (fun _ _ _ h => h) (Or.inl ⟨by rfl, ?hy1⟩) (HS.out _ hBc) ?_
 case hy1 =>
  intro w hSw
  try dsimp only at hSw
  go_simp <;> with_reducible rfl
 try simp only [sq]
 refine wpAnyH_ready (rs := [2]) (by as_aux_lemma => kernel_rfl) (by simp) ?_
 refine AllReadyH.cons (o := (oq 6 (.call ⟨.value (.func 111), #[.tmp 5], #[42]⟩) 4 "l05_act.go:100" #[eD 1] none)) rfl (fun K hK => ?_) AllReadyH.nil
 go_simp
 refine (HDC.out _).mono ?_
 rintro e wn ⟨rfl, hbn⟩
 replace hBc := nx hBc hbn
 clear hbn
 try go_wp2_with fail
 refine hK.out _ _ (HS.out _ hBc) (fun _ => ?_)
 clear hK K
 try simp only [List.setIfInBounds_toArray, List.set_cons_zero, List.set_cons_succ]
 refine wpAnyH_take (i := 3) (oi := (oq 7 (.unOp .not 4 (.tmp 6)) 4 "l05_act.go:100" #[eD 2] none)) (v := ?v3) rfl (by as_aux_lemma => kernel_rfl) (by as_aux_lemma => kernel_rfl) (by as_aux_lemma => kernel_rfl) (fun _ _ _ h => h) (Or.inl ⟨by rfl, ?hy3⟩) (HS.out _ hBc) ?_
 case hy3 =>
  intro w hSw
  try dsimp only at hSw
  go_simp <;> with_reducible rfl
 try simp only [sq]
 refine wpAnyH_take (i := 4) (oi := (oq 8 (.move (.tmp 7)) 4 "l05_act.go:100" #[eD 3, eC 2] none)) (v := ?v4) rfl (by as_aux_lemma => kernel_rfl) (by as_aux_lemma => kernel_rfl) (by as_aux_lemma => kernel_rfl) (fun _ _ _ h => h) (Or.inl ⟨by rfl, ?hy4⟩) (HS.out _ hBc) ?_
 case hy4 =>
  intro w hSw
  try dsimp only at hSw
  go_simp <;> with_reducible rfl
 try simp only [sq]
 refine wpAnyH_take (i := 5) (oi := (oq 9 (.fieldAddr 44 (.tmp 1) 2) 0 "l05_act.go:100" #[eG 4] (some (4, false)))) (v := ?v5) rfl (by as_aux_lemma => kernel_rfl) (by as_aux_lemma => kernel_rfl) (by as_aux_lemma => kernel_rfl) (fun _ _ _ h => h) (Or.inl ⟨by rfl, ?hy5⟩) (HS.out _ hBc) ?_
 case hy5 =>
  intro w hSw
  try dsimp only at hSw
  go_simp <;> with_reducible rfl
 try simp only [sq]
 refine wpAnyH_take (i := 6) (oi := (oq 10 (.load 24 (.tmp 9)) 24 "l05_act.go:100" #[eD 5, eG 4] (some (4, false)))) (v := ?v6) rfl (by as_aux_lemma => kernel_rfl) (by as_aux_lemma => kernel_rfl) (by as_aux_lemma => kernel_rfl) (fun _ _ _ h => h) (Or.inl ⟨by rfl, ?hy6⟩) (HS.out _ hBc) ?_
 case hy6 =>
  intro w hSw
  try dsimp only at hSw
  go_simp <;> with_reducible rfl
 try simp only [sq]
 refine wpAnyH_ready (rs := [7]) (by as_aux_lemma => kernel_rfl) (by simp) ?_
 refine AllReadyH.cons (o := (oq 11 (.call ⟨.value (.func 96), #[.tmp 10], #[24]⟩) 4 "l05_act.go:100" #[eD 6, eC 4, eG 4] (some (4, false)))) rfl (fun K hK => ?_) AllReadyH.nil
 go_simp
 refine (HKC.out _ hBc).mono ?_
 rintro e wn ⟨rfl, hbn⟩
 replace hBc := nx hBc hbn
 clear hbn
 try go_wp2_with fail
 refine hK.out _ _ (HS.out _ hBc) (fun _ => ?_)
 clear hK K
 try simp only [List.setIfInBounds_toArray, List.set_cons_zero, List.set_cons_succ]
 refine wpAnyH_take (i := 8) (oi := (oq 12 (.unOp .not 4 (.tmp 11)) 4 "l05_act.go:100" #[eD 7, eG 4] (some (4, false)))) (v := ?v8) rfl (by as_aux_lemma => kernel_rfl) (by as_aux_lemma => kernel_rfl) (by as_aux_lemma => kernel_rfl) (fun _ _ _ h => h) (Or.inl ⟨by rfl, ?hy8⟩) (HS.out _ hBc) ?_
 case hy8 =>
  intro w hSw
  try dsimp only at hSw
  go_simp <;> with_reducible rfl
 try simp only [sq]
 refine wpAnyH_take (i := 9) (oi := (oq 13 (.pick (.tmp 8) (.const (.bool true)) (.tmp 12)) 4 "l05_act.go:100" #[eD 4, eD 8] none)) (v := ?v9) rfl (by as_aux_lemma => kernel_rfl) (by as_aux_lemma => kernel_rfl) (by as_aux_lemma => kernel_rfl) (fun _ _ _ h => h) (Or.inl ⟨by rfl, ?hy9⟩) (HS.out _ hBc) ?_
 case hy9 =>
  intro w hSw
  try dsimp only at hSw
  go_simp <;> with_reducible rfl
 try simp only [sq]
 refine wpAnyH_take (i := 10) (oi := (oq 14 (.move (.tmp 13)) 4 "l05_act.go:100" #[eD 9, eC 7] none)) (v := ?v10) rfl (by as_aux_lemma => kernel_rfl) (by as_aux_lemma => kernel_rfl) (by as_aux_lemma => kernel_rfl) (fun _ _ _ h => h) (Or.inl ⟨by rfl, ?hy10⟩) (HS.out _ hBc) ?_
 case hy10 =>
  intro w hSw
  try dsimp only at hSw
  go_simp <;> with_reducible rfl
 try simp only [sq]
 refine wpAnyH_take (i := 11) (oi := (oq 15 (.fieldAddr 44 (.tmp 1) 2) 0 "l05_act.go:100" #[eG 10] (some (10, false)))) (v := ?v11) rfl (by as_aux_lemma => kernel_rfl) (by as_aux_lemma => kernel_rfl) (by as_aux_lemma => kernel_rfl) (fun _ _ _ h => h) (Or.inl ⟨by rfl, ?hy11⟩) (HS.out _ hBc) ?_
 case hy11 =>
  intro w hSw
  try dsimp only at hSw
  go_simp <;> with_reducible rfl
 try simp only [sq]
 refine wpAnyH_take (i := 12) (oi := (oq 16 (.load 24 (.tmp 15)) 24 "l05_act.go:100" #[eD 11, eG 10] (some (10, false)))) (v := ?v12) rfl (by as_aux_lemma => kernel_rfl) (by as_aux_lemma => kernel_rfl) (by as_aux_lemma => kernel_rfl) (fun _ _ _ h => h) (Or.inl ⟨by rfl, ?hy12⟩) (HS.out _ hBc) ?_
 case hy12 =>
  intro w hSw
  try dsimp only at hSw
  go_simp <;> with_reducible rfl
 try simp only [sq]
 refine wpAnyH_take (i := 13) (oi := (oq 17 (.fieldAddr 44 (.tmp 1) 0) 0 "l05_act.go:100" #[eG 10] (some (10, false)))) (v := ?v13) rfl (by as_aux_lemma => kernel_rfl) (by as_aux_lemma => kernel_rfl) (by as_aux_lemma => kernel_rfl) (fun _ _ _ h => h) (Or.inl ⟨by rfl, ?hy13⟩) (HS.out _ hBc) ?_
 case hy13 =>
  intro w hSw
  try dsimp only at hSw
  go_simp <;> with_reducible rfl
 try simp only [sq]
 refine wpAnyH_take (i := 14) (oi := (oq 18 (.fieldAddr 42 (.tmp 17) 0) 0 "l05_act.go:100" #[eD 13, eG 10] (some (10, false)))) (v := ?v14) rfl (by as_aux_lemma => kernel_rfl) (by as_aux_lemma => kernel_rfl) (by as_aux_lemma => kernel_rfl) (fun _ _ _ h => h) (Or.inl ⟨by rfl, ?hy14⟩) (HS.out _ hBc) ?_
 case hy14 =>
  intro w hSw
  try dsimp only at hSw
  go_simp <;> with_reducible rfl
 try simp only [sq]
 refine wpAnyH_take (i := 15) (oi := (oq 19 (.load 3 (.tmp 18)) 3 "l05_act.go:100" #[eD 14, eG 10] (some (10, false)))) (v := ?v15) rfl (by as_aux_lemma => kernel_rfl) (by as_aux_lemma => kernel_rfl) (by as_aux_lemma => kernel_rfl) (fun _ _ _ h => h) (Or.inl ⟨by rfl, ?hy15⟩) (HS.out _ hBc) ?_
 case hy15 =>
  intro w hSw
  try dsimp only at hSw
  go_simp <;> with_reducible rfl
 try simp only [sq]
 refine wpAnyH_take (i := 16) (oi := (oq 20 (.indexAddr 24 (.tmp 16) (.tmp 19)) 0 "l05_act.go:100" #[eD 12, eD 15, eG 10] (some (10, false)))) (v := ?v16) rfl (by as_aux_lemma => kernel_rfl) (by as_aux_lemma => kernel_rfl) (by as_aux_lemma => kernel_rfl) (fun _ _ _ h => h) (Or.inl ⟨by rfl, ?hy16⟩) (HS.out _ hBc) ?_
 case hy16 =>
  intro w hSw
  try dsimp only at hSw
  go_simp <;> with_reducible rfl
 try simp only [sq]
 refine wpAnyH_take (i := 17) (oi := (oq 21 (.load 3 (.tmp 20)) 3 "l05_act.go:100" #[eD 16, eG 10] (some (10, false)))) (v := ?v17) rfl (by as_aux_lemma => kernel_rfl) (by as_aux_lemma => kernel_rfl) (by as_aux_lemma => kernel_rfl) (fun _ _ _ h => h) (Or.inl ⟨by rfl, ?hy17⟩) (HS.out _ hBc) ?_
 case hy17 =>
  intro w hSw
  try dsimp only at hSw
  go_simp <;> with_reducible rfl
 try simp only [sq]
 refine wpAnyH_take (i := 18) (oi := (oq 22 (.fieldAddr 44 (.tmp 1) 0) 0 "l05_act.go:100" #[eG 10] (some (10, false)))) (v := ?v18) rfl (by as_aux_lemma => kernel_rfl) (by as_aux_lemma => kernel_rfl) (by as_aux_lemma => kernel_rfl) (fun _ _ _ h => h) (Or.inl ⟨by rfl, ?hy18⟩) (HS.out _ hBc) ?_
 case hy18 =>
  intro w hSw
  try dsimp only at hSw
  go_simp <;> with_reducible rfl
 try simp only [sq]
 refine wpAnyH_take (i := 19) (oi := (oq 23 (.fieldAddr 42 (.tmp 22) 1) 0 "l05_act.go:100" #[eD 18, eG 10] (some (10, false)))) (v := ?v19) rfl (by as_aux_lemma => kernel_rfl) (by as_aux_lemma => kernel_rfl) (by as_aux_lemma => kernel_rfl) (fun _ _ _ h => h) (Or.inl ⟨by rfl, ?hy19⟩) (HS.out _ hBc) ?_
 case hy19 =>
  intro w hSw
  try dsimp only at hSw
  go_simp <;> with_reducible rfl
 try simp only [sq]
 refine wpAnyH_take (i := 20) (oi := (oq 24 (.load 3 (.tmp 23)) 3 "l05_act.go:100" #[eD 19, eG 10] (some (10, false)))) (v := ?v20) rfl (by as_aux_lemma => kernel_rfl) (by as_aux_lemma => kernel_rfl) (by as_aux_lemma => kernel_rfl) (fun _ _ _ h => h) (Or.inl ⟨by rfl, ?hy20⟩) (HS.out _ hBc) ?_
 case hy20 =>
  intro w hSw
  try dsimp only at hSw
  go_simp <;> with_reducible rfl
 try simp only [sq]
 refine wpAnyH_take (i := 21) (oi := (oq 25 (.binOp .sub 3 (.tmp 24) (.const (int i64 1)) 3) 3 "l05_act.go:100" #[eD 20, eG 10] (some (10, false)))) (v := ?v21) rfl (by as_aux_lemma => kernel_rfl) (by as_aux_lemma => kernel_rfl) (by as_aux_lemma => kernel_rfl) (fun _ _ _ h => h) (Or.inl ⟨by rfl, ?hy21⟩) (HS.out _ hBc) ?_
 case hy21 =>
  intro w hSw
  try dsimp only at hSw
  go_simp <;> with_reducible rfl
 try simp only [sq]
 refine wpAnyH_take (i := 22) (oi := (oq 26 (.binOp .neq 3 (.tmp 21) (.tmp 25) 3) 4 "l05_act.go:100" #[eD 17, eD 21, eG 10] (some (10, false)))) (v := ?v22) rfl (by as_aux_lemma => kernel_rfl) (by as_aux_lemma => kernel_rfl) (by as_aux_lemma => kernel_rfl) (fun _ _ _ h => h) (Or.inl ⟨by rfl, ?hy22⟩) (HS.out _ hBc) ?_
 case hy22 =>
  intro w hSw
  try dsimp only at hSw
  go_simp <;> with_reducible rfl
 try simp only [sq]
 refine wpAnyH_take (i := 23) (oi := (oq 27 (.pick (.tmp 14) (.const (.bool true)) (.tmp 26)) 4 "l05_act.go:100" #[eD 10, eD 22] none)) (v := ?v23) rfl (by as_aux_lemma => kernel_rfl) (by as_aux_lemma => kernel_rfl) (by as_aux_lemma => kernel_rfl) (fun _ _ _ h => h) (Or.inl ⟨by rfl, ?hy23⟩) (HS.out _ hBc) ?_
 case hy23 =>
  intro w hSw
  try dsimp only at hSw
  go_simp <;> with_reducible rfl
 try simp only [sq]
 refine wpd ?_
 go_wp2
 go_ret
 exact ⟨rfl, HF.out _ hBc⟩
end Go.Proofs.YtepfinenocpneaaGreat
