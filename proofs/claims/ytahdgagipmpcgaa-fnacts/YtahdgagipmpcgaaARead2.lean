/- The specification's reader. -/
import Derived.Test.YtahdgagipmpcgaaARead1
namespace Go.Proofs.Ytahdgagipmpcgaa
set_option maxRecDepth 100000
set_option linter.unusedVariables false
open Go.RowKit

set_option maxHeartbeats 2000000 in
theorem specNum_calls (s : ByteArray) (hs : s.size ≤ 1048576) (b : Nat) (p : Option Int) (w : World) (h : RdS w b s p) :
    Calls Try.prog 172 #[.pointer (some ⟨b, 0, none⟩)] w fun e w' => e = .returned (.int .i64 (numM s.data.toList p).1) ∧ RdS w' b s (numM s.data.toList p).2 ∧ w.grownBy w' (some b) := by
  cases p with
  | none =>
    obtain ⟨a, hr⟩ := id h
    obtain ⟨c0, c1, c2⟩ := Row.three hr
    have HR : Hid (RdS w b s none) := h
    show Calls _ _ _ _ fun e w' => e = .returned (.int .i64 0) ∧ RdS w' b s none ∧ w.grownBy w' (some b)
    clear h hr
    go_enter Try.func172, Try.ntmps172
    go_wp2
    go_ret
    exact ⟨rfl, HR.out, grown_refl _ _⟩
  | some a =>
    have hr : Row w b #[.string s, .int .i64 a, .bool false] 145 := h
    obtain ⟨c0, c1, c2⟩ := Row.three hr
    have HR : Hid (Row w.drew b #[.string s, .int .i64 a, .bool false] 145) := hr
    have SS := Row.three HR.out
    have hcr := fun wx => specNumR s a hs wx
    cases hq : (numM s.data.toList (some a)).2 with
    | none =>
      have hz : (numM s.data.toList (some a)).1 = 0 := by
        cases hrv : rv s.data.toList a with
        | none => simp only [numM, hrv]
        | some q => simp only [numM, hrv] at hq; cases hq
      rw [hz]
      rw [hq, hz] at hcr
      have HC : Hid (∀ wx, Calls Try.prog 209 #[.string s, .int .i64 a] wx fun e w' => e = .returned (.tuple #[.int .i64 0, .int .i64 0, .bool false]) ∧ Below wx.heap.size wx w') := hcr
      clear h hr hcr hz hq
      go_enter Try.func172, Try.ntmps172
      go_wp2
      go_region_held3 (fun w' => w'.cell? ⟨b, 0, none⟩ = some (.string s) ∧ w'.cell? ⟨b, 1, none⟩ = some (.int .i64 a) ∧ w'.cell? ⟨b, 2, none⟩ = some (.bool false)) (first | exact SS | exact SS1 | go_keep) (first
        | (go_at_call 209; refine (HC.out _).mono ?_; rintro e w1 ⟨rfl, hb1⟩; have hr1 := HR.out.next hb1; have SS1 := Row.three hr1))
      have f2 := hr1.free 2
      obtain ⟨d0, d1, d2⟩ := SS1
      have HF : Hid (RdS (w1.setCell ⟨b, 2, none⟩ (.bool true)) b s none ∧ w.grownBy (w1.setCell ⟨b, 2, none⟩ (.bool true)) (some b)) := ⟨⟨a, hr1.t2 _⟩, grownBy_trans (grownBy_trans (grown_drew _ _) (grownBy_below hb1 _)) (grown_set _ _ _ _)⟩
      clear hr1 hb1
      go_wp2
      go_ret
      exact ⟨rfl, HF.out⟩
    | some j =>
      obtain ⟨t, ht⟩ : ∃ t, t = (numM s.data.toList (some a)).1 := ⟨_, rfl⟩
      rw [← ht]
      rw [hq, ← ht] at hcr
      have HC : Hid (∀ wx, Calls Try.prog 209 #[.string s, .int .i64 a] wx fun e w' => e = .returned (.tuple #[.int .i64 t, .int .i64 j, .bool true]) ∧ Below wx.heap.size wx w') := hcr
      clear h hr hcr ht hq
      go_enter Try.func172, Try.ntmps172
      go_wp2
      go_region_held3 (fun w' => w'.cell? ⟨b, 0, none⟩ = some (.string s) ∧ w'.cell? ⟨b, 1, none⟩ = some (.int .i64 a) ∧ w'.cell? ⟨b, 2, none⟩ = some (.bool false)) (first | exact SS | exact SS1 | go_keep) (first
        | (go_at_call 209; refine (HC.out _).mono ?_; rintro e w1 ⟨rfl, hb1⟩; have hr1 := HR.out.next hb1; have SS1 := Row.three hr1))
      have f1 := hr1.free 1
      obtain ⟨d0, d1, d2⟩ := SS1
      have HF : Hid (RdS (w1.setCell ⟨b, 1, none⟩ (.int .i64 j)) b s (some j) ∧ w.grownBy (w1.setCell ⟨b, 1, none⟩ (.int .i64 j)) (some b)) := ⟨hr1.t1 _, grownBy_trans (grownBy_trans (grown_drew _ _) (grownBy_below hb1 _)) (grown_set _ _ _ _)⟩
      clear hr1 hb1
      go_wp2
      go_ret
      exact ⟨rfl, HF.out⟩

set_option maxHeartbeats 2000000 in
theorem specShort_calls (s : ByteArray) (hs : s.size ≤ 1048576) (b : Nat) (p : Option Int) (w : World) (h : RdS w b s p) :
    Calls Try.prog 174 #[.pointer (some ⟨b, 0, none⟩)] w fun e w' => e = .returned (.string (nameM s p).1) ∧ RdS w' b s (nameM s p).2 ∧ w.grownBy w' (some b) := by
  cases p with
  | none =>
    obtain ⟨a, hr⟩ := id h
    obtain ⟨c0, c1, c2⟩ := Row.three hr
    have HR : Hid (RdS w b s none) := h
    show Calls _ _ _ _ fun e w' => e = .returned (.string ByteArray.empty) ∧ RdS w' b s none ∧ w.grownBy w' (some b)
    clear h hr
    go_enter Try.func174, Try.ntmps174
    go_wp2
    go_ret
    exact ⟨rfl, HR.out, grown_refl _ _⟩
  | some a =>
    have hr : Row w b #[.string s, .int .i64 a, .bool false] 145 := h
    obtain ⟨c0, c1, c2⟩ := Row.three hr
    have HR : Hid (Row w.drew b #[.string s, .int .i64 a, .bool false] 145) := hr
    have SS := Row.three HR.out
    have hcr := fun wx => specShortR s a hs wx
    cases hq : (nameM s (some a)).2 with
    | none =>
      have hz : (nameM s (some a)).1 = ByteArray.empty := by
        rcases rshort_cases s a with h0 | ⟨n, j, -, -, -, h0⟩
        · rw [h0]
        · rw [h0] at hq; cases hq
      rw [hz]
      rw [hq, hz] at hcr
      have HC : Hid (∀ wx, Calls Try.prog 210 #[.string s, .int .i64 a] wx fun e w' => e = .returned (.tuple #[.string ByteArray.empty, .int .i64 0, .bool false]) ∧ Below wx.heap.size wx w') := hcr
      clear h hr hcr hz hq
      go_enter Try.func174, Try.ntmps174
      go_wp2
      go_region_held3 (fun w' => w'.cell? ⟨b, 0, none⟩ = some (.string s) ∧ w'.cell? ⟨b, 1, none⟩ = some (.int .i64 a) ∧ w'.cell? ⟨b, 2, none⟩ = some (.bool false)) (first | exact SS | exact SS1 | go_keep) (first
        | (go_at_call 210; refine (HC.out _).mono ?_; rintro e w1 ⟨rfl, hb1⟩; have hr1 := HR.out.next hb1; have SS1 := Row.three hr1))
      have f2 := hr1.free 2
      obtain ⟨d0, d1, d2⟩ := SS1
      have HF : Hid (RdS (w1.setCell ⟨b, 2, none⟩ (.bool true)) b s none ∧ w.grownBy (w1.setCell ⟨b, 2, none⟩ (.bool true)) (some b)) := ⟨⟨a, hr1.t2 _⟩, grownBy_trans (grownBy_trans (grown_drew _ _) (grownBy_below hb1 _)) (grown_set _ _ _ _)⟩
      clear hr1 hb1
      go_wp2
      go_ret
      exact ⟨rfl, HF.out⟩
    | some j =>
      obtain ⟨t, ht⟩ : ∃ t, t = (nameM s (some a)).1 := ⟨_, rfl⟩
      rw [← ht]
      rw [hq, ← ht] at hcr
      have HC : Hid (∀ wx, Calls Try.prog 210 #[.string s, .int .i64 a] wx fun e w' => e = .returned (.tuple #[.string t, .int .i64 j, .bool true]) ∧ Below wx.heap.size wx w') := hcr
      clear h hr hcr ht hq
      go_enter Try.func174, Try.ntmps174
      go_wp2
      go_region_held3 (fun w' => w'.cell? ⟨b, 0, none⟩ = some (.string s) ∧ w'.cell? ⟨b, 1, none⟩ = some (.int .i64 a) ∧ w'.cell? ⟨b, 2, none⟩ = some (.bool false)) (first | exact SS | exact SS1 | go_keep) (first
        | (go_at_call 210; refine (HC.out _).mono ?_; rintro e w1 ⟨rfl, hb1⟩; have hr1 := HR.out.next hb1; have SS1 := Row.three hr1))
      have f1 := hr1.free 1
      obtain ⟨d0, d1, d2⟩ := SS1
      have HF : Hid (RdS (w1.setCell ⟨b, 1, none⟩ (.int .i64 j)) b s (some j) ∧ w.grownBy (w1.setCell ⟨b, 1, none⟩ (.int .i64 j)) (some b)) := ⟨hr1.t1 _, grownBy_trans (grownBy_trans (grown_drew _ _) (grownBy_below hb1 _)) (grown_set _ _ _ _)⟩
      clear hr1 hb1
      go_wp2
      go_ret
      exact ⟨rfl, HF.out⟩

end Go.Proofs.Ytahdgagipmpcgaa
