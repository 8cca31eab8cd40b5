/- Reading numbers and names one behind another: the program's reader and the specification's. -/
import Derived.Test.YtahdgagipmpcgaaARow
import Derived.Test.YtahdgagipmpcgaaRShort
import Derived.Test.YtahdgagipmpcgaaKInts
namespace Go.Proofs.Ytahdgagipmpcgaa
set_option maxRecDepth 100000
set_option linter.unusedVariables false
open Go.RowKit

/-- A number at p, and where one goes on (nowhere, when there is none). -/
def numM (l : List UInt8) : Option Int → Int × Option Int
  | none => (0, none)
  | some a => match rv l a with
    | none => (0, none)
    | some (n, j) => ((n : Int), some (j : Int))
/-- A name at p. -/
def nameM (s : ByteArray) : Option Int → ByteArray × Option Int
  | none => (ByteArray.empty, none)
  | some a => match rv s.data.toList a with
    | none => (ByteArray.empty, none)
    | some (n, j) => if n ≤ 20000 ∧ j + n ≤ s.size then (s.extract j (j + n), some ((j + n : Nat) : Int)) else (ByteArray.empty, none)

/-- The program's reader in block b: at p, or past a failure. -/
def RdI (w : World) (b : Nat) (s : ByteArray) : Option Int → Prop
  | some a => Row w b #[.string s, .int .i64 a, .bool true] 139
  | none => ∃ a, Row w b #[.string s, .int .i64 a, .bool false] 139
/-- The specification's. -/
def RdS (w : World) (b : Nat) (s : ByteArray) : Option Int → Prop
  | some a => Row w b #[.string s, .int .i64 a, .bool false] 145
  | none => ∃ a, Row w b #[.string s, .int .i64 a, .bool true] 145

theorem grown_refl (w : World) (r : Option Nat) : w.grownBy w r := ⟨rfl, rfl, rfl, Nat.le_refl _, fun _ _ _ => rfl⟩
theorem grown_drew (w : World) (r : Option Nat) : w.grownBy w.drew r := ⟨rfl, rfl, rfl, Nat.le_refl _, fun _ _ _ => rfl⟩
theorem grown_set (w : World) (b i : Nat) (x : Value) : w.grownBy (w.setCell ⟨b, i, none⟩ x) (some b) := ⟨rfl, rfl, rfl, by simp [World.setCell], fun k _ hk => Below.heap_setCell w _ x k (fun e => hk (by rw [e]))⟩
theorem Row.t1 {w : World} {g : Nat} {T : TypeId} {c0 c1 c2 : Value} (h : Row w g #[c0, c1, c2] T) (x : Value) : Row (w.setCell ⟨g, 1, none⟩ x) g #[c0, x, c2] T := h.set 1 x
theorem Row.t2 {w : World} {g : Nat} {T : TypeId} {c0 c1 c2 : Value} (h : Row w g #[c0, c1, c2] T) (x : Value) : Row (w.setCell ⟨g, 2, none⟩ x) g #[c0, c1, x] T := h.set 2 x
theorem RdI.grown {w w' : World} {b : Nat} {s : ByteArray} {p : Option Int} {k : Option Nat} (h : RdI w b s p) (hg : w.grownBy w' k) (hk : k ≠ some b) : RdI w' b s p := by
  cases p with
  | none => obtain ⟨a, h⟩ := h; exact ⟨a, h.grown hg hk⟩
  | some a => exact Row.grown h hg hk
theorem RdS.grown {w w' : World} {b : Nat} {s : ByteArray} {p : Option Int} {k : Option Nat} (h : RdS w b s p) (hg : w.grownBy w' k) (hk : k ≠ some b) : RdS w' b s p := by
  cases p with
  | none => obtain ⟨a, h⟩ := h; exact ⟨a, h.grown hg hk⟩
  | some a => exact Row.grown h hg hk

set_option maxHeartbeats 2000000 in
theorem number_calls (s : ByteArray) (hs : s.size ≤ 1048576) (b : Nat) (p : Option Int) (w : World) (h : RdI w b s p) :
    Calls Try.prog 116 #[.pointer (some ⟨b, 0, none⟩)] w fun e w' => e = .returned (.int .i64 (numM s.data.toList p).1) ∧ RdI w' b s (numM s.data.toList p).2 ∧ w.grownBy w' (some b) := by
  cases p with
  | none =>
    obtain ⟨a, hr⟩ := id h
    obtain ⟨c0, c1, c2⟩ := Row.three hr
    have HR : Hid (RdI w b s none) := h
    show Calls _ _ _ _ fun e w' => e = .returned (.int .i64 0) ∧ RdI w' b s none ∧ w.grownBy w' (some b)
    clear h hr
    go_enter Try.func116, Try.ntmps116
    go_wp2
    go_ret
    exact ⟨rfl, HR.out, grown_refl _ _⟩
  | some a =>
    have hr : Row w b #[.string s, .int .i64 a, .bool true] 139 := h
    obtain ⟨c0, c1, c2⟩ := Row.three hr
    have f1 := hr.free 1
    have f2 := hr.free 2
    have HR : Hid (Row w.drew b #[.string s, .int .i64 a, .bool true] 139) := hr
    have hcr := fun wx => implRead_rv s a hs wx
    cases hrv : rv s.data.toList a with
    | none =>
      have e : numM s.data.toList (some a) = (0, none) := by simp only [numM, hrv]
      rw [e]
      rw [hrv] at hcr
      have HC : Hid (∀ wx, Calls Try.prog 164 #[.string s, .int .i64 a] wx fun e w' => e = .returned (.tuple #[.int .i64 0, .int .i64 0, .bool false]) ∧ w' = wx) := hcr
      have HF : Hid (∀ (x y : World), (x = (w.drew.setCell ⟨b, 1, none⟩ (.int .i64 0)).setCell ⟨b, 2, none⟩ (.bool false) ∨ x = (w.drew.setCell ⟨b, 2, none⟩ (.bool false)).setCell ⟨b, 1, none⟩ (.int .i64 0)) → RdI x b s none ∧ w.grownBy x (some b)) := by
        rintro x - (rfl | rfl)
        · exact ⟨⟨0, (HR.out.t1 _).t2 _⟩, grownBy_trans (grownBy_trans (grown_drew _ _) (grown_set _ _ _ _)) (grown_set _ _ _ _)⟩
        · exact ⟨⟨0, (HR.out.t2 _).t1 _⟩, grownBy_trans (grownBy_trans (grown_drew _ _) (grown_set _ _ _ _)) (grown_set _ _ _ _)⟩
      clear h hr hcr hrv e
      go_enter Try.func116, Try.ntmps116
      go_wp2
      first
        | go_region_with (first | (go_at_call 164; refine (HC.out _).mono ?_; rintro e w1 ⟨rfl, rfl⟩))
        | fail
      all_goals go_wp2
      all_goals go_ret
      all_goals first | exact ⟨rfl, HF.out _ w (.inl rfl)⟩ | exact ⟨rfl, HF.out _ w (.inr rfl)⟩
    | some q =>
      obtain ⟨n, j⟩ := q
      have e : numM s.data.toList (some a) = ((n : Int), some (j : Int)) := by simp only [numM, hrv]
      rw [e]
      rw [hrv] at hcr
      have HC : Hid (∀ wx, Calls Try.prog 164 #[.string s, .int .i64 a] wx fun e w' => e = .returned (.tuple #[.int .i64 (n : Int), .int .i64 (j : Int), .bool true]) ∧ w' = wx) := hcr
      have HF : Hid (∀ (x y : World), (x = (w.drew.setCell ⟨b, 1, none⟩ (.int .i64 (j : Int))).setCell ⟨b, 2, none⟩ (.bool true) ∨ x = (w.drew.setCell ⟨b, 2, none⟩ (.bool true)).setCell ⟨b, 1, none⟩ (.int .i64 (j : Int))) → RdI x b s (some (j : Int)) ∧ w.grownBy x (some b)) := by
        rintro x - (rfl | rfl)
        · exact ⟨(HR.out.t1 _).t2 _, grownBy_trans (grownBy_trans (grown_drew _ _) (grown_set _ _ _ _)) (grown_set _ _ _ _)⟩
        · exact ⟨(HR.out.t2 _).t1 _, grownBy_trans (grownBy_trans (grown_drew _ _) (grown_set _ _ _ _)) (grown_set _ _ _ _)⟩
      clear h hr hcr hrv e
      go_enter Try.func116, Try.ntmps116
      go_wp2
      first
        | go_region_with (first | (go_at_call 164; refine (HC.out _).mono ?_; rintro e w1 ⟨rfl, rfl⟩))
        | fail
      all_goals go_wp2
      all_goals go_ret
      all_goals first | exact ⟨rfl, HF.out _ w (.inl rfl)⟩ | exact ⟨rfl, HF.out _ w (.inr rfl)⟩

theorem rshort_cases (s : ByteArray) (a : Int) : (nameM s (some a) = (ByteArray.empty, none)) ∨ ∃ n j, rv s.data.toList a = some (n, j) ∧ n ≤ 20000 ∧ j + n ≤ s.size ∧ nameM s (some a) = (s.extract j (j + n), some ((j + n : Nat) : Int)) := by
  cases h : rv s.data.toList a with
  | none => left; simp only [nameM, h]
  | some q =>
    obtain ⟨n, j⟩ := q
    by_cases hc : n ≤ 20000 ∧ j + n ≤ s.size
    · right; exact ⟨n, j, rfl, hc.1, hc.2, by simp only [nameM, h]; rw [if_pos hc]⟩
    · left; simp only [nameM, h]; rw [if_neg hc]
theorem implShortR (s : ByteArray) (a : Int) (hs : s.size ≤ 1048576) (w : World) :
    Calls Try.prog 165 #[.string s, .int .i64 a] w fun e w' => e = .returned (.tuple #[.string (nameM s (some a)).1, .int .i64 ((nameM s (some a)).2.getD 0), .bool (nameM s (some a)).2.isSome]) ∧ Below w.heap.size w w' := by
  cases h : rv s.data.toList a with
  | none =>
    have e : nameM s (some a) = (ByteArray.empty, none) := by simp only [nameM, h]
    rw [e]
    exact (implRShort_no s a hs h w).mono (by rintro e w' ⟨rfl, hw⟩; exact ⟨rfl, by first | exact hw | (subst hw; exact Below.refl _ _)⟩)
  | some q =>
    obtain ⟨n, j⟩ := q
    have hb := rv_some h
    have hsz : s.data.toList.length = s.size := by simp
    by_cases hc : n ≤ 20000 ∧ j + n ≤ s.size
    · have e : nameM s (some a) = (s.extract j (j + n), some ((j + n : Nat) : Int)) := by simp only [nameM, h]; rw [if_pos hc]
      rw [e]
      exact (implRShort_yes s a n j hs h hc.1 hc.2 w).mono (by rintro e w' ⟨rfl, hw⟩; exact ⟨by simp, by first | exact hw | (subst hw; exact Below.refl _ _)⟩)
    · have e : nameM s (some a) = (ByteArray.empty, none) := by simp only [nameM, h]; rw [if_neg hc]
      rw [e]
      exact (implRShort_far s a n j hs h hb.1 (by omega) (by omega) w).mono (by rintro e w' ⟨rfl, hw⟩; exact ⟨rfl, by first | exact hw | (subst hw; exact Below.refl _ _)⟩)
theorem specShortR (s : ByteArray) (a : Int) (hs : s.size ≤ 1048576) (w : World) :
    Calls Try.prog 210 #[.string s, .int .i64 a] w fun e w' => e = .returned (.tuple #[.string (nameM s (some a)).1, .int .i64 ((nameM s (some a)).2.getD 0), .bool (nameM s (some a)).2.isSome]) ∧ Below w.heap.size w w' := by
  cases h : rv s.data.toList a with
  | none =>
    have e : nameM s (some a) = (ByteArray.empty, none) := by simp only [nameM, h]
    rw [e]
    exact (specRShort_no s a hs h w).mono (by rintro e w' ⟨rfl, hw⟩; exact ⟨rfl, by first | exact hw | (subst hw; exact Below.refl _ _)⟩)
  | some q =>
    obtain ⟨n, j⟩ := q
    have hb := rv_some h
    have hsz : s.data.toList.length = s.size := by simp
    by_cases hc : n ≤ 20000 ∧ j + n ≤ s.size
    · have e : nameM s (some a) = (s.extract j (j + n), some ((j + n : Nat) : Int)) := by simp only [nameM, h]; rw [if_pos hc]
      rw [e]
      exact (specRShort_yes s a n j hs h hc.1 hc.2 w).mono (by rintro e w' ⟨rfl, hw⟩; exact ⟨by simp, by first | exact hw | (subst hw; exact Below.refl _ _)⟩)
    · have e : nameM s (some a) = (ByteArray.empty, none) := by simp only [nameM, h]; rw [if_neg hc]
      rw [e]
      exact (specRShort_far s a n j hs h hb.1 (by omega) (by omega) w).mono (by rintro e w' ⟨rfl, hw⟩; exact ⟨rfl, by first | exact hw | (subst hw; exact Below.refl _ _)⟩)
theorem specNumR (s : ByteArray) (a : Int) (hs : s.size ≤ 1048576) (w : World) :
    Calls Try.prog 209 #[.string s, .int .i64 a] w fun e w' => e = .returned (.tuple #[.int .i64 (numM s.data.toList (some a)).1, .int .i64 ((numM s.data.toList (some a)).2.getD 0), .bool (numM s.data.toList (some a)).2.isSome]) ∧ Below w.heap.size w w' := by
  have h := specRead_rv s a hs w
  cases hr : rv s.data.toList a with
  | none =>
    have e : numM s.data.toList (some a) = (0, none) := by simp only [numM, hr]
    rw [hr] at h
    rw [e]
    exact h
  | some q =>
    obtain ⟨n, j⟩ := q
    have e : numM s.data.toList (some a) = ((n : Int), some (j : Int)) := by simp only [numM, hr]
    rw [hr] at h
    rw [e]
    exact h

set_option maxHeartbeats 2000000 in
theorem name_calls (s : ByteArray) (hs : s.size ≤ 1048576) (b : Nat) (p : Option Int) (w : World) (h : RdI w b s p) :
    Calls Try.prog 118 #[.pointer (some ⟨b, 0, none⟩)] w fun e w' => e = .returned (.string (nameM s p).1) ∧ RdI w' b s (nameM s p).2 ∧ w.grownBy w' (some b) := by
  cases p with
  | none =>
    obtain ⟨a, hr⟩ := id h
    obtain ⟨c0, c1, c2⟩ := Row.three hr
    have HR : Hid (RdI w b s none) := h
    show Calls _ _ _ _ fun e w' => e = .returned (.string ByteArray.empty) ∧ RdI w' b s none ∧ w.grownBy w' (some b)
    clear h hr
    go_enter Try.func118, Try.ntmps118
    go_wp2
    go_ret
    exact ⟨rfl, HR.out, grown_refl _ _⟩
  | some a =>
    have hr : Row w b #[.string s, .int .i64 a, .bool true] 139 := h
    obtain ⟨c0, c1, c2⟩ := Row.three hr
    have HR : Hid (Row w.drew b #[.string s, .int .i64 a, .bool true] 139) := hr
    have hcr := fun wx => implShortR s a hs wx
    have HN : Hid (RdI = RdI) := rfl
    obtain ⟨t, ht⟩ : ∃ t, t = (nameM s (some a)).1 := ⟨_, rfl⟩
    obtain ⟨j, hj⟩ : ∃ j, j = (nameM s (some a)).2.getD 0 := ⟨_, rfl⟩
    obtain ⟨k, hk⟩ : ∃ k, k = (nameM s (some a)).2.isSome := ⟨_, rfl⟩
    have HC : Hid (∀ wx, Calls Try.prog 165 #[.string s, .int .i64 a] wx fun e w' => e = .returned (.tuple #[.string t, .int .i64 j, .bool k]) ∧ Below wx.heap.size wx w') := fun wx => by rw [ht, hj, hk]; exact hcr wx
    have HF : Hid (∀ (w1 x : World), Below w.drew.heap.size w.drew w1 → (x = (w1.setCell ⟨b, 1, none⟩ (.int .i64 j)).setCell ⟨b, 2, none⟩ (.bool k) ∨ x = (w1.setCell ⟨b, 2, none⟩ (.bool k)).setCell ⟨b, 1, none⟩ (.int .i64 j)) → RdI x b s (nameM s (some a)).2 ∧ w.grownBy x (some b)) := by
      intro w1 x hb hx
      have hr1 := HR.out.next hb
      have hg1 : w.grownBy w1 (some b) := grownBy_trans (grown_drew _ _) (grownBy_below hb _)
      have hrow : Row x b #[.string s, .int .i64 j, .bool k] 139 ∧ w.grownBy x (some b) := by
        rcases hx with rfl | rfl
        · exact ⟨(hr1.t1 _).t2 _, grownBy_trans (grownBy_trans hg1 (grown_set _ _ _ _)) (grown_set _ _ _ _)⟩
        · exact ⟨(hr1.t2 _).t1 _, grownBy_trans (grownBy_trans hg1 (grown_set _ _ _ _)) (grown_set _ _ _ _)⟩
      refine ⟨?_, hrow.2⟩
      rw [hj, hk] at hrow
      cases hq : (nameM s (some a)).2 with
      | none => rw [hq] at hrow; exact ⟨_, hrow.1⟩
      | some q => rw [hq] at hrow; exact hrow.1
    have HT : Hid (t = (nameM s (some a)).1) := ht
    clear h hr hcr ht hj hk
    go_enter Try.func118, Try.ntmps118
    go_wp2
    first
      | go_region_with (first | (go_at_call 165; refine (HC.out _).mono ?_; rintro e w1 ⟨rfl, hb1⟩; obtain ⟨d0, d1, d2⟩ := Row.three (HR.out.next hb1); have f1 := (HR.out.next hb1).free 1; have f2 := (HR.out.next hb1).free 2))
      | fail
    all_goals go_wp2
    all_goals go_ret
    all_goals first | exact ⟨by rw [← HT.out]; rfl, HF.out w1 _ hb1 (.inl rfl)⟩ | exact ⟨by rw [← HT.out]; rfl, HF.out w1 _ hb1 (.inr rfl)⟩
end Go.Proofs.Ytahdgagipmpcgaa
