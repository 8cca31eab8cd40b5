/- The text of an act, as both make it. -/
import Derived.Test.YtahdgagipmpcgaaAOk3
import Derived.Test.YtahdgagipmpcgaaATextA
namespace Go.Proofs.Ytahdgagipmpcgaa
set_option maxRecDepth 100000
set_option linter.unusedVariables false
open Go.RowKit

/-- The bytes of an act. -/
def actB (A : Ac) : List UInt8 :=
  (varB A.r.toNat ++ varB A.s.toNat) ++ varB A.t.toNat ++ numsB A.l ++ varB A.k.toNat ++ (varB A.o.size ++ A.o.data.toList) ++ (varB A.y.size ++ A.y.data.toList) ++ varB A.v.toNat ++ (varB A.x.toNat ++ varB A.z.toNat)
/-- Its text. -/
def actT (A : Ac) : ByteArray × Bool := if AOk A then (ba (actB A), true) else (ByteArray.empty, false)

/-- What is within its limits in a right act. -/
structure Lim (A : Ac) : Prop where
  r : 0 ≤ A.r ∧ A.r ≤ 1000
  s : 0 ≤ A.s ∧ A.s ≤ 1000
  t : 0 ≤ A.t ∧ A.t ≤ 10000
  k : 0 ≤ A.k ∧ A.k ≤ 7
  v : 0 ≤ A.v ∧ A.v ≤ 999999
  x : 0 ≤ A.x ∧ A.x ≤ 1000
  z : 0 ≤ A.z ∧ A.z ≤ 1000
  o : A.o.size ≤ 8
  y : A.y.size ≤ 8
  n : A.l.length = 3
  l : ∀ a ∈ A.l, 0 ≤ a ∧ a ≤ 1000
theorem knows_lim {l : List Int} {x z : Int} (h : knows l x z = true) : (0 ≤ x ∧ x ≤ 1000) ∧ (0 ≤ z ∧ z ≤ 1000) := by
  unfold knows at h
  simp only [Bool.and_eq_true, decide_eq_true_eq] at h
  have := h.1.2
  unfold DOk at this
  omega
theorem AOk.lim {A : Ac} (h : AOk A) : Lim A := by
  obtain ⟨⟨r1, r2, s1, s2⟩, ⟨n, hl⟩, -, ⟨t1, t2⟩, ⟨⟨k1, k2⟩, ⟨⟨-, o2⟩, -⟩, hy, hv⟩, hr⟩ := h
  refine ⟨⟨r1, by omega⟩, ⟨by omega, s2⟩, ⟨by omega, t2⟩, ⟨by omega, k2⟩, ?_, ?_, ?_, o2, ?_, n, hl⟩
  · unfold ValOk at hv
    split at hv <;> omega
  · unfold RefOk at hr
    split at hr
    · exact (knows_lim hr).1
    · split at hr
      · rcases hr with hr | hr
        · omega
        · exact (knows_lim hr).1
      · omega
  · unfold RefOk at hr
    split at hr
    · exact (knows_lim hr).2
    · split at hr
      · rcases hr with hr | hr
        · omega
        · exact (knows_lim hr).2
      · omega
  · unfold KeyOk at hy
    split at hy
    · exact hy.1.2
    · have := str_empty hy
      rw [this]; simp

set_option maxHeartbeats 4000000 in
theorem specText_yes (r s t k v x z : Int) (o y : ByteArray) (l : List Int) (u : Value) (w : World) (h : AOk ⟨r, s, t, k, v, x, z, o, y, l⟩) (hu : IntsAt w u l) :
    Calls Try.prog 119 #[.agg #[.int .i64 r, .int .i64 s, .int .i64 t, u, .int .i64 k, .string o, .string y, .int .i64 v, .int .i64 x, .int .i64 z]] w fun e w' => e = .returned (.tuple #[.string (ba (actB ⟨r, s, t, k, v, x, z, o, y, l⟩)), .bool true]) ∧ Below w.heap.size w w' := by
  obtain ⟨hr, hs, ht, hk, hv, hx, hz, ho, hy, hn, hl⟩ := h.lim
  simp only at hr hs ht hk hv hx hz ho hy hn hl
  have l1 := varLen (x := r) hr.1 (by omega)
  have l2 := varLen (x := s) hs.1 (by omega)
  have l3 := varLen (x := t) ht.1 (by omega)
  have l4 := varLen (x := k) hk.1 (by omega)
  have l5 := varLen (x := v) hv.1 (by omega)
  have l6 := varLen (x := x) hx.1 (by omega)
  have l7 := varLen (x := z) hz.1 (by omega)
  have l8 := varB_len5 (n := o.size) (by omega)
  have l9 := varB_len5 (n := y.size) (by omega)
  have l10 := numsB_len (xs := l) (fun a ha => by have := hl a ha; omega)
  have l11 : o.data.toList.length = o.size := by simp
  have l12 : y.data.toList.length = y.size := by simp
  obtain ⟨aa, ca, rfl, -⟩ := id hu
  have HAO : Hid (∀ wx, IntsAt wx (.slice aa l.length ca) l → Calls Try.prog 54 #[.agg #[.int .i64 r, .int .i64 s, .int .i64 t, .slice aa l.length ca, .int .i64 k, .string o, .string y, .int .i64 v, .int .i64 x, .int .i64 z]] wx fun e w' => e = .returned (.bool true) ∧ Below wx.heap.size wx w') := fun wx hi => by
    have := specActOk_calls ⟨r, s, t, k, v, x, z, o, y, l⟩ _ wx ⟨by show l.length ≤ _; omega, by show o.size ≤ _; omega, by show y.size ≤ _; omega⟩ hi
    rwa [decide_eq_true h] at this
  have C1 : Hid (∀ wx, Calls Try.prog 166 #[.agg #[.int .i64 r, .int .i64 s]] wx fun e w' => e = .returned (.string (ba (varB r.toNat ++ varB s.toNat))) ∧ Below wx.heap.size wx w') := fun wx => dotT_calls r s (by omega) (by omega) wx
  have C2 : Hid (∀ wx, Calls Try.prog 167 #[.int .i64 t] wx fun e w' => e = .returned (.string (ba (varB t.toNat))) ∧ Below wx.heap.size wx w') := fun wx => var_ba t ht.1 (by omega) wx
  have C3 : Hid (∀ wx, IntsAt wx (.slice aa l.length ca) l → Calls Try.prog 168 #[.slice aa l.length ca] wx fun e w' => e = .returned (.string (ba (numsB l))) ∧ Below wx.heap.size wx w') := fun wx hi => knowT_calls l _ wx (by omega) (fun a ha => by have := hl a ha; omega) hi
  have C4 : Hid (∀ wx, Calls Try.prog 167 #[.int .i64 k] wx fun e w' => e = .returned (.string (ba (varB k.toNat))) ∧ Below wx.heap.size wx w') := fun wx => var_ba k hk.1 (by omega) wx
  have C5 : Hid (∀ wx, Calls Try.prog 169 #[.string o] wx fun e w' => e = .returned (.string (ba (varB o.size ++ o.data.toList))) ∧ Below wx.heap.size wx w') := fun wx => shortT_calls o (by omega) wx
  have C6 : Hid (∀ wx, Calls Try.prog 169 #[.string y] wx fun e w' => e = .returned (.string (ba (varB y.size ++ y.data.toList))) ∧ Below wx.heap.size wx w') := fun wx => shortT_calls y (by omega) wx
  have C7 : Hid (∀ wx, Calls Try.prog 167 #[.int .i64 v] wx fun e w' => e = .returned (.string (ba (varB v.toNat))) ∧ Below wx.heap.size wx w') := fun wx => var_ba v hv.1 (by omega) wx
  have C8 : Hid (∀ wx, Calls Try.prog 166 #[.agg #[.int .i64 x, .int .i64 z]] wx fun e w' => e = .returned (.string (ba (varB x.toNat ++ varB z.toNat))) ∧ Below wx.heap.size wx w') := fun wx => dotT_calls x z (by omega) (by omega) wx
  have HE : Hid (actB ⟨r, s, t, k, v, x, z, o, y, l⟩ = (varB r.toNat ++ varB s.toNat) ++ varB t.toNat ++ numsB l ++ varB k.toNat ++ (varB o.size ++ o.data.toList) ++ (varB y.size ++ y.data.toList) ++ varB v.toNat ++ (varB x.toNat ++ varB z.toNat)) := rfl
  have m1 : (varB r.toNat ++ varB s.toNat).length ≤ 10 := by rw [List.length_append]; omega
  have m5 : (varB o.size ++ o.data.toList).length ≤ 13 := by rw [List.length_append]; omega
  have m6 : (varB y.size ++ y.data.toList).length ≤ 13 := by rw [List.length_append]; omega
  have m8 : (varB x.toNat ++ varB z.toNat).length ≤ 10 := by rw [List.length_append]; omega
  have m3 : (numsB l).length ≤ 15 := by omega
  clear l1 l2 l6 l7 l8 l9 l10 l11 l12 hr hs ht hk hv hx hz ho hy hn hl h
  generalize varB r.toNat ++ varB s.toNat = B1 at *
  generalize varB x.toNat ++ varB z.toNat = B8 at *
  generalize varB o.size ++ o.data.toList = B5 at *
  generalize varB y.size ++ y.data.toList = B6 at *
  generalize varB t.toNat = B2 at *
  generalize numsB l = B3 at *
  generalize varB k.toNat = B4 at *
  generalize varB v.toNat = B7 at *
  obtain ⟨D2, hD2⟩ : ∃ D, D = B1 ++ B2 := ⟨_, rfl⟩
  have n2 : D2.length ≤ 40 := by rw [hD2, List.length_append]; omega
  have a2 : ∀ wx, (Op.stringOp .add (ba B1) (ba B2)).run Try.prog wx = .ok (.string (ba D2)) wx := fun wx => by rw [hD2]; exact add_ba B1 B2 (by omega) wx
  obtain ⟨D3, hD3⟩ : ∃ D, D = D2 ++ B3 := ⟨_, rfl⟩
  have n3 : D3.length ≤ 60 := by rw [hD3, List.length_append]; omega
  have a3 : ∀ wx, (Op.stringOp .add (ba D2) (ba B3)).run Try.prog wx = .ok (.string (ba D3)) wx := fun wx => by rw [hD3]; exact add_ba D2 B3 (by omega) wx
  obtain ⟨D4, hD4⟩ : ∃ D, D = D3 ++ B4 := ⟨_, rfl⟩
  have n4 : D4.length ≤ 80 := by rw [hD4, List.length_append]; omega
  have a4 : ∀ wx, (Op.stringOp .add (ba D3) (ba B4)).run Try.prog wx = .ok (.string (ba D4)) wx := fun wx => by rw [hD4]; exact add_ba D3 B4 (by omega) wx
  obtain ⟨D5, hD5⟩ : ∃ D, D = D4 ++ B5 := ⟨_, rfl⟩
  have n5 : D5.length ≤ 100 := by rw [hD5, List.length_append]; omega
  have a5 : ∀ wx, (Op.stringOp .add (ba D4) (ba B5)).run Try.prog wx = .ok (.string (ba D5)) wx := fun wx => by rw [hD5]; exact add_ba D4 B5 (by omega) wx
  obtain ⟨D6, hD6⟩ : ∃ D, D = D5 ++ B6 := ⟨_, rfl⟩
  have n6 : D6.length ≤ 120 := by rw [hD6, List.length_append]; omega
  have a6 : ∀ wx, (Op.stringOp .add (ba D5) (ba B6)).run Try.prog wx = .ok (.string (ba D6)) wx := fun wx => by rw [hD6]; exact add_ba D5 B6 (by omega) wx
  obtain ⟨D7, hD7⟩ : ∃ D, D = D6 ++ B7 := ⟨_, rfl⟩
  have n7 : D7.length ≤ 140 := by rw [hD7, List.length_append]; omega
  have a7 : ∀ wx, (Op.stringOp .add (ba D6) (ba B7)).run Try.prog wx = .ok (.string (ba D7)) wx := fun wx => by rw [hD7]; exact add_ba D6 B7 (by omega) wx
  obtain ⟨D8, hD8⟩ : ∃ D, D = D7 ++ B8 := ⟨_, rfl⟩
  have n8 : D8.length ≤ 160 := by rw [hD8, List.length_append]; omega
  have a8 : ∀ wx, (Op.stringOp .add (ba D7) (ba B8)).run Try.prog wx = .ok (.string (ba D8)) wx := fun wx => by rw [hD8]; exact add_ba D7 B8 (by omega) wx
  replace HE : Hid (actB ⟨r, s, t, k, v, x, z, o, y, l⟩ = D8) := by show _ = _; rw [HE.out, hD8, hD7, hD6, hD5, hD4, hD3, hD2]
  clear hD2 hD3 hD4 hD5 hD6 hD7 hD8 n2 n3 n4 n5 n6 n7 n8
  obtain ⟨W, hW⟩ : ∃ W, W = w.alloc (.cells #[.int .i64 r, .int .i64 s, .int .i64 t, .slice aa l.length ca, .int .i64 k, .string o, .string y, .int .i64 v, .int .i64 x, .int .i64 z] 75) := ⟨_, rfl⟩
  have hR : Row W w.heap.size #[.int .i64 r, .int .i64 s, .int .i64 t, .slice aa l.length ca, .int .i64 k, .string o, .string y, .int .i64 v, .int .i64 x, .int .i64 z] 75 := by rw [hW]; exact row_new _ _ _ rfl
  have hI : IntsAt W (.slice aa l.length ca) l := by rw [hW]; exact hu.alloc _
  have HBW : Hid (Below w.heap.size w W) := by rw [hW]; exact (Below.refl _ _).alloc (Nat.le_refl _) _
  have HW : Hid (w.alloc (.cells #[.int .i64 r, .int .i64 s, .int .i64 t, .slice aa l.length ca, .int .i64 k, .string o, .string y, .int .i64 v, .int .i64 x, .int .i64 z] 75) = W) := hW.symm
  have HC : Hid (∀ wx, Below W.heap.size W wx → wx.cell? ⟨w.heap.size, 0, none⟩ = some (.int .i64 r) ∧ wx.cell? ⟨w.heap.size, 1, none⟩ = some (.int .i64 s) ∧ wx.cell? ⟨w.heap.size, 2, none⟩ = some (.int .i64 t) ∧ wx.cell? ⟨w.heap.size, 3, none⟩ = some (.slice aa l.length ca) ∧ wx.cell? ⟨w.heap.size, 4, none⟩ = some (.int .i64 k) ∧ wx.cell? ⟨w.heap.size, 5, none⟩ = some (.string o) ∧ wx.cell? ⟨w.heap.size, 6, none⟩ = some (.string y) ∧ wx.cell? ⟨w.heap.size, 7, none⟩ = some (.int .i64 v) ∧ wx.cell? ⟨w.heap.size, 8, none⟩ = some (.int .i64 x) ∧ wx.cell? ⟨w.heap.size, 9, none⟩ = some (.int .i64 z)) := fun wx h => Row.ten (hR.next h)
  have HI : Hid (∀ wx, Below W.heap.size W wx → IntsAt wx (.slice aa l.length ca) l) := fun wx h => hI.below h
  have hW0 : Below W.heap.size W W := Below.refl _ _
  clear hW hu hR hI m1 m3 m5 m6 m8 l3 l4 l5
  go_enter Try.func119, Try.ntmps119
  go_wp2_with fail
  rw [HW.out]
  refine (HAO.out _ (HI.out _ hW0)).mono ?_
  rintro e w0 ⟨rfl, hb0⟩
  have hV0 : Below W.heap.size W w0.drew := (hW0.trans (hb0.mono hW0.size)).drew
  obtain ⟨c0, c1, c2, c3, c4, c5, c6, c7, c8, c9⟩ := HC.out _ (hW0.trans (hb0.mono hW0.size))
  have SS := HC.out _ hV0
  clear hb0 HW HAO
  go_wp2
  go_region_held3 (fun w' => w'.cell? ⟨w.heap.size, 0, none⟩ = some (.int .i64 r) ∧ w'.cell? ⟨w.heap.size, 1, none⟩ = some (.int .i64 s) ∧ w'.cell? ⟨w.heap.size, 2, none⟩ = some (.int .i64 t) ∧ w'.cell? ⟨w.heap.size, 3, none⟩ = some (.slice aa l.length ca) ∧ w'.cell? ⟨w.heap.size, 4, none⟩ = some (.int .i64 k) ∧ w'.cell? ⟨w.heap.size, 5, none⟩ = some (.string o) ∧ w'.cell? ⟨w.heap.size, 6, none⟩ = some (.string y) ∧ w'.cell? ⟨w.heap.size, 7, none⟩ = some (.int .i64 v) ∧ w'.cell? ⟨w.heap.size, 8, none⟩ = some (.int .i64 x) ∧ w'.cell? ⟨w.heap.size, 9, none⟩ = some (.int .i64 z)) (first | exact SS | go_keep) (first
    | (go_at_call 166; refine (C1.out _).mono ?_; clear C1; rintro e w1 ⟨rfl, hb⟩; have hV1 : Below W.heap.size W w1 := hV0.trans (hb.mono hV0.size); replace SS := HC.out _ hV1; clear hb)
    | (go_at_call 167; refine (C2.out _).mono ?_; clear C2; rintro e w2 ⟨rfl, hb⟩; have hV2 : Below W.heap.size W w2 := hV1.trans (hb.mono hV1.size); replace SS := HC.out _ hV2; clear hb)
    | (go_at_call 168; refine (C3.out _ (HI.out _ hV2)).mono ?_; rintro e w3 ⟨rfl, hb⟩; have hV3 : Below W.heap.size W w3 := hV2.trans (hb.mono hV2.size); replace SS := HC.out _ hV3; clear hb)
    | (go_at_call 167; refine (C4.out _).mono ?_; clear C4; rintro e w4 ⟨rfl, hb⟩; have hV4 : Below W.heap.size W w4 := hV3.trans (hb.mono hV3.size); replace SS := HC.out _ hV4; clear hb)
    | (go_at_call 169; refine (C5.out _).mono ?_; clear C5; rintro e w5 ⟨rfl, hb⟩; have hV5 : Below W.heap.size W w5 := hV4.trans (hb.mono hV4.size); replace SS := HC.out _ hV5; clear hb)
    | (go_at_call 169; refine (C6.out _).mono ?_; clear C6; rintro e w6 ⟨rfl, hb⟩; have hV6 : Below W.heap.size W w6 := hV5.trans (hb.mono hV5.size); replace SS := HC.out _ hV6; clear hb)
    | (go_at_call 167; refine (C7.out _).mono ?_; clear C7; rintro e w7 ⟨rfl, hb⟩; have hV7 : Below W.heap.size W w7 := hV6.trans (hb.mono hV6.size); replace SS := HC.out _ hV7; clear hb)
    | (go_at_call 166; refine (C8.out _).mono ?_; rintro e w8 ⟨rfl, hb⟩; have hV8 : Below W.heap.size W w8 := hV7.trans (hb.mono hV7.size); replace SS := HC.out _ hV8; clear hb))
  go_wp2
  go_ret2
  exact ⟨by rw [HE.out]; rfl, HBW.out.trans (hV8.mono HBW.out.size)⟩

end Go.Proofs.Ytahdgagipmpcgaa
