/- slices.Clone at the four types of a state's rows. -/
import Derived.Great.BuildSlice
import Derived.Lib.SliceRun
import Derived.Test.YtepfinenocpneaaGreatQ21
set_option maxHeartbeats 16000000
namespace Go.Proofs.YtepfinenocpneaaGreat
open Value (int)
open IntKind (i64)
set_option maxRecDepth 100000
set_option linter.unusedVariables false
open Go.RowKit
theorem K0 {w : World} {ad : Addr} {m s : Nat} {xs : List Value} {T : TypeId} (h : VP w (some ad) m s xs) : ∀ j u, xs[j]? = some u → (w.alloc (.cells #[] T)).cell? (ad.add j) = some u := fun j u hu => by
 obtain ⟨h1, h2, h3⟩ := h
 have hj := (List.getElem?_eq_some_iff.1 hu).1
 have hm0 : 0 < m := by
  rcases Nat.eq_zero_or_pos m with e | e
  ·rw [h1, e] at hj; simp at hj
  ·exact e
 obtain ⟨g', off, h4, h5⟩ := h3 hm0
 injection h4 with h4
 subst h4
 have := h5 j u hu
 have e : (⟨g', off, none⟩ : Addr).add j = ⟨g', off + j, none⟩ := by unfold Addr.add; split <;> simp_all
 rw [e]
 have hlt : g' < w.heap.size := by
  unfold World.cell? at this
  cases hg : w.heap[g']? with
  | none => simp [hg] at this
  | some ob => exact (Array.getElem?_eq_some_iff.1 hg).1
 unfold World.cell? at this ⊢
 simp only [Below.heap_alloc w (.cells #[] T) g' hlt]
 exact this
theorem Jdk : (Tryz.prog.info? 3).map (fun i => (i.zero, i.size, i.bytes)) = some (some (int i64 0), 1, 8) := by kernel_rfl
theorem Vy (l : List Int) (v : Value) (w : World) (hn : l.length ≤ 1000) (h : IntsAt w v l) :
  Calls Tryz.prog 74 #[v] w fun e w' => ∃ q, e = .returned q ∧ w'.ownsRow w.heap.size 3 1 q l.length (Je l) ∧ Below w.heap.size w w' := by
 have hsh := h
 obtain ⟨aa, ca, rfl, hg⟩ := hsh
 have hsrc := IntsAt.src h
 have hq : ∀ (w : World) (a : Option Addr) (n c n' c' : Nat), (binOp .eql 24 (.slice a n c) (.slice none n' c')).run Tryz.prog w = .ok (.bool a.isNone) w := fun w a n c n' c' => Lib.run_eql_slice_nil w _ _ a n c n' c' Tryz.underlying24
 cases aa with
 | none =>
  have h0 : l = [] := by
   rcases Nat.eq_zero_or_pos l.length with e | e
   ·exact List.eq_nil_of_length_eq_zero e
   ·obtain ⟨g', off, h4, -⟩ := hsrc.2.2 e; cases h4
  subst h0
  clear hsrc hg h
  go_enter Tryz.func74, Tryz.ntmps74
  go_wp2
  go_ret
  exact ⟨_, rfl, ⟨by simp [Je], .inl ⟨rfl, rfl⟩⟩, Below.refl _ _⟩
 | some ad =>
  obtain ⟨n, hnl⟩ : ∃ n, n = l.length := ⟨_, rfl⟩
  have HSR := Ja hsrc
  have HNW := Ja (K0 (T := 3) hsrc)
  have HO : Hid ((w.alloc (.cells #[] 3)).ownsRow w.heap.size 3 1 (.slice (some ⟨w.heap.size, 0, none⟩) 0 0) 0 []) := J1 w _ _ rfl (Nat.le_refl _)
  have HB : Hid (Below w.heap.size w (w.alloc (.cells #[] 3))) := (Below.refl _ _).alloc (Nat.le_refl _) _
  have HWS : Hid (w.heap.size ≤ (w.alloc (.cells #[] 3)).heap.size) := HB.out.size
  rw [← hnl] at HSR hn ⊢
  obtain ⟨i0, hi, hz0, hz1, hz2⟩ := info_parts Jdk
  clear hsrc hg h hnl
  go_enter Tryz.func74, Tryz.ntmps74
  go_wp2_with (at_builtin; refine wpList_append_own_at _ rfl _ _ 24 rfl w.heap.size 3 i0 (int i64 0) 1 8 Tryz.underlying24 hi hz0 hz1 hz2 rfl (by decide) _ _ _ rfl HO.out ad n ca (Je l) rfl HSR.out.1 HNW.out HSR.out.2.1 (by unfold maxLen; omega) (by omega) HWS.out ?_)
  intro v2 w9 hown hgrow hne hat
  have HO9 : Hid (w9.ownsRow w.heap.size 3 1 v2 n (Je l)) := by show World.ownsRow _ _ _ _ _ _ _; simpa using hown
  have HB9 : Hid (Below w.heap.size w w9) := HB.out.grown hgrow HWS.out (fun k hk => (HO.out.lt k hk).1)
  clear hown hgrow hne hat
  go_wp2
  go_ret
  exact ⟨_, rfl, HO9.out, HB9.out⟩
theorem VE (l : List Ta) (v : Value) (w : World) (hn : l.length ≤ 1000) (h : TaAt w v l) :
  Calls Tryz.prog 91 #[v] w fun e w' => ∃ q, e = .returned q ∧ w'.ownsRow w.heap.size 86 3 q l.length (taV l) ∧ Below w.heap.size w w' := by
 have hsh := h
 obtain ⟨aa, ca, rfl, hg⟩ := hsh
 have hsrc := TaAt.src h
 have hq : ∀ (w : World) (a : Option Addr) (n c n' c' : Nat), (binOp .eql 25 (.slice a n c) (.slice none n' c')).run Tryz.prog w = .ok (.bool a.isNone) w := fun w a n c n' c' => Lib.run_eql_slice_nil w _ _ a n c n' c' Tryz.underlying25
 cases aa with
 | none =>
  have h0 : l = [] := by
   rcases Nat.eq_zero_or_pos l.length with e | e
   ·exact List.eq_nil_of_length_eq_zero e
   ·obtain ⟨g', off, h4, -⟩ := hsrc.2.2 e; cases h4
  subst h0
  clear hsrc hg h
  go_enter Tryz.func91, Tryz.ntmps91
  go_wp2
  go_ret
  exact ⟨_, rfl, ⟨by simp [taV], .inl ⟨rfl, rfl⟩⟩, Below.refl _ _⟩
 | some ad =>
  obtain ⟨n, hnl⟩ : ∃ n, n = l.length := ⟨_, rfl⟩
  have HSR := Ja hsrc
  have HNW := Ja (K0 (T := 86) hsrc)
  have HO : Hid ((w.alloc (.cells #[] 86)).ownsRow w.heap.size 86 3 (.slice (some ⟨w.heap.size, 0, none⟩) 0 0) 0 []) := J1 w _ _ rfl (Nat.le_refl _)
  have HB : Hid (Below w.heap.size w (w.alloc (.cells #[] 86))) := (Below.refl _ _).alloc (Nat.le_refl _) _
  have HWS : Hid (w.heap.size ≤ (w.alloc (.cells #[] 86)).heap.size) := HB.out.size
  rw [← hnl] at HSR hn ⊢
  obtain ⟨i0, hi, hz0, hz1, hz2⟩ := info_parts Zn
  clear hsrc hg h hnl
  go_enter Tryz.func91, Tryz.ntmps91
  go_wp2_with (at_builtin; refine wpList_append_own_at _ rfl _ _ 25 rfl w.heap.size 86 i0 (.agg #[.string ⟨#[]⟩, int i64 0, int i64 0]) 3 32 Tryz.underlying25 hi hz0 hz1 hz2 rfl (by decide) _ _ _ rfl HO.out ad n ca (taV l) rfl HSR.out.1 HNW.out HSR.out.2.1 (by unfold maxLen; omega) (by omega) HWS.out ?_)
  intro v2 w9 hown hgrow hne hat
  have HO9 : Hid (w9.ownsRow w.heap.size 86 3 v2 n (taV l)) := by show World.ownsRow _ _ _ _ _ _ _; simpa using hown
  have HB9 : Hid (Below w.heap.size w w9) := HB.out.grown hgrow HWS.out (fun k hk => (HO.out.lt k hk).1)
  clear hown hgrow hne hat
  go_wp2
  go_ret
  exact ⟨_, rfl, HO9.out, HB9.out⟩
theorem KF (l : List Li) (v : Value) (w : World) (hn : l.length ≤ 1000) (h : LiAt w v l) :
  Calls Tryz.prog 92 #[v] w fun e w' => ∃ q, e = .returned q ∧ w'.ownsRow w.heap.size 88 6 q l.length (liV l) ∧ Below w.heap.size w w' := by
 have hsh := h
 obtain ⟨aa, ca, rfl, hg⟩ := hsh
 have hsrc := LiAt.src h
 have hq : ∀ (w : World) (a : Option Addr) (n c n' c' : Nat), (binOp .eql 26 (.slice a n c) (.slice none n' c')).run Tryz.prog w = .ok (.bool a.isNone) w := fun w a n c n' c' => Lib.run_eql_slice_nil w _ _ a n c n' c' Tryz.underlying26
 cases aa with
 | none =>
  have h0 : l = [] := by
   rcases Nat.eq_zero_or_pos l.length with e | e
   ·exact List.eq_nil_of_length_eq_zero e
   ·obtain ⟨g', off, h4, -⟩ := hsrc.2.2 e; cases h4
  subst h0
  clear hsrc hg h
  go_enter Tryz.func92, Tryz.ntmps92
  go_wp2
  go_ret
  exact ⟨_, rfl, ⟨by simp [liV], .inl ⟨rfl, rfl⟩⟩, Below.refl _ _⟩
 | some ad =>
  obtain ⟨n, hnl⟩ : ∃ n, n = l.length := ⟨_, rfl⟩
  have HSR := Ja hsrc
  have HNW := Ja (K0 (T := 88) hsrc)
  have HO : Hid ((w.alloc (.cells #[] 88)).ownsRow w.heap.size 88 6 (.slice (some ⟨w.heap.size, 0, none⟩) 0 0) 0 []) := J1 w _ _ rfl (Nat.le_refl _)
  have HB : Hid (Below w.heap.size w (w.alloc (.cells #[] 88))) := (Below.refl _ _).alloc (Nat.le_refl _) _
  have HWS : Hid (w.heap.size ≤ (w.alloc (.cells #[] 88)).heap.size) := HB.out.size
  rw [← hnl] at HSR hn ⊢
  obtain ⟨i0, hi, hz0, hz1, hz2⟩ := info_parts ZF
  clear hsrc hg h hnl
  go_enter Tryz.func92, Tryz.ntmps92
  go_wp2_with (at_builtin; refine wpList_append_own_at _ rfl _ _ 26 rfl w.heap.size 88 i0 (.agg #[.bool false, .string ⟨#[]⟩, .string ⟨#[]⟩, int i64 0, int i64 0, int i64 0]) 6 64 Tryz.underlying26 hi hz0 hz1 hz2 rfl (by decide) _ _ _ rfl HO.out ad n ca (liV l) rfl HSR.out.1 HNW.out HSR.out.2.1 (by unfold maxLen; omega) (by omega) HWS.out ?_)
  intro v2 w9 hown hgrow hne hat
  have HO9 : Hid (w9.ownsRow w.heap.size 88 6 v2 n (liV l)) := by show World.ownsRow _ _ _ _ _ _ _; simpa using hown
  have HB9 : Hid (Below w.heap.size w w9) := HB.out.grown hgrow HWS.out (fun k hk => (HO.out.lt k hk).1)
  clear hown hgrow hne hat
  go_wp2
  go_ret
  exact ⟨_, rfl, HO9.out, HB9.out⟩
theorem KH (l : List Ce) (v : Value) (w : World) (hn : l.length ≤ 1000) (h : CeAt w v l) :
  Calls Tryz.prog 93 #[v] w fun e w' => ∃ q, e = .returned q ∧ w'.ownsRow w.heap.size 90 8 q l.length (ceV l) ∧ Below w.heap.size w w' := by
 have hsh := h
 obtain ⟨aa, ca, rfl, hg⟩ := hsh
 have hsrc := CeAt.src h
 have hq : ∀ (w : World) (a : Option Addr) (n c n' c' : Nat), (binOp .eql 27 (.slice a n c) (.slice none n' c')).run Tryz.prog w = .ok (.bool a.isNone) w := fun w a n c n' c' => Lib.run_eql_slice_nil w _ _ a n c n' c' Tryz.underlying27
 cases aa with
 | none =>
  have h0 : l = [] := by
   rcases Nat.eq_zero_or_pos l.length with e | e
   ·exact List.eq_nil_of_length_eq_zero e
   ·obtain ⟨g', off, h4, -⟩ := hsrc.2.2 e; cases h4
  subst h0
  clear hsrc hg h
  go_enter Tryz.func93, Tryz.ntmps93
  go_wp2
  go_ret
  exact ⟨_, rfl, ⟨by simp [ceV], .inl ⟨rfl, rfl⟩⟩, Below.refl _ _⟩
 | some ad =>
  obtain ⟨n, hnl⟩ : ∃ n, n = l.length := ⟨_, rfl⟩
  have HSR := Ja hsrc
  have HNW := Ja (K0 (T := 90) hsrc)
  have HO : Hid ((w.alloc (.cells #[] 90)).ownsRow w.heap.size 90 8 (.slice (some ⟨w.heap.size, 0, none⟩) 0 0) 0 []) := J1 w _ _ rfl (Nat.le_refl _)
  have HB : Hid (Below w.heap.size w (w.alloc (.cells #[] 90))) := (Below.refl _ _).alloc (Nat.le_refl _) _
  have HWS : Hid (w.heap.size ≤ (w.alloc (.cells #[] 90)).heap.size) := HB.out.size
  rw [← hnl] at HSR hn ⊢
  obtain ⟨i0, hi, hz0, hz1, hz2⟩ := info_parts KX
  clear hsrc hg h hnl
  go_enter Tryz.func93, Tryz.ntmps93
  go_wp2_with (at_builtin; refine wpList_append_own_at _ rfl _ _ 27 rfl w.heap.size 90 i0 (.agg #[.string ⟨#[]⟩, int i64 0, int i64 0, int i64 0, int i64 0, int i64 0, int i64 0, .bool false]) 8 72 Tryz.underlying27 hi hz0 hz1 hz2 rfl (by decide) _ _ _ rfl HO.out ad n ca (ceV l) rfl HSR.out.1 HNW.out HSR.out.2.1 (by unfold maxLen; omega) (by omega) HWS.out ?_)
  intro v2 w9 hown hgrow hne hat
  have HO9 : Hid (w9.ownsRow w.heap.size 90 8 v2 n (ceV l)) := by show World.ownsRow _ _ _ _ _ _ _; simpa using hown
  have HB9 : Hid (Below w.heap.size w w9) := HB.out.grown hgrow HWS.out (fun k hk => (HO.out.lt k hk).1)
  clear hown hgrow hne hat
  go_wp2
  go_ret
  exact ⟨_, rfl, HO9.out, HB9.out⟩
end Go.Proofs.YtepfinenocpneaaGreat
