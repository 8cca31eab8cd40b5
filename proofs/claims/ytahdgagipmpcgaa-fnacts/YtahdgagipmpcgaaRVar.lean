/- What the two readers of a number do. -/
import Derived.Test.YtahdgagipmpcgaaWVar
import Derived.Test.YtahdgagipmpcgaaRMath
import Derived.Deep.RegionWith
import Derived.Deep.QuietTactic
import Derived.BigQuiet
import Derived.Deep.RegionHeld3
import Derived.WalkSmall
namespace Go.Proofs.Ytahdgagipmpcgaa
set_option maxRecDepth 100000
set_option linter.unusedVariables false
open Go.RowKit

theorem implRead_no (s : ByteArray) (a : Int) (hs : s.size ≤ maxLen) (h : a < 0 ∨ s.size < a) (w : World) :
    Calls Try.prog 164 #[.string s, .int .i64 a] w fun e w' => e = .returned (rvRes none) ∧ w' = w := by
  unfold maxLen at hs
  rcases h with h | h
  · go_enter Try.func164, Try.ntmps164
    go_wp2
    go_ret3
    exact ⟨rfl, rfl⟩
  · have h0 : ¬ a < 0 := by omega
    go_enter Try.func164, Try.ntmps164
    go_wp2
    go_ret3
    exact ⟨rfl, rfl⟩

set_option maxHeartbeats 1000000 in
theorem implRead_yes (s : ByteArray) (a : Nat) (hs : s.size ≤ 1048576) (ha : a ≤ s.size) (w : World) :
    Calls Try.prog 164 #[.string s, .int .i64 a] w fun e w' => e = .returned (rvRes (rvAt s a a 0 1)) ∧ w' = w := by
  go_enter Try.func164, Try.ntmps164
  go_wp2
  go_loop [7, 8, 9] (fun x y z => ∃ n sc i : Nat, x = .int .i64 n ∧ y = .int .i64 sc ∧ z = .int .i64 i ∧ a ≤ i ∧ i ≤ s.size ∧ i ≤ a + 5 ∧ n < sc ∧ ScB a i sc ∧ rvAt s a i n sc = rvAt s a a 0 1) (fun _ _ z => s.size - (intOf z).toNat)
  case atStart => exact ⟨0, 1, a, rfl, rfl, rfl, by omega, ha, by omega, by omega, ScB.start a, rfl⟩
  case round =>
    obtain ⟨n, sc, i, rfl, rfl, rfl, h1, h2, h3, h4, h6, h7⟩ := hrel
    have H7 : Hid (rvAt s a i n sc = rvAt s a a 0 1) := h7
    clear h7
    by_cases hlt : i < s.size
    · by_cases h8 : i < a + 5
      · have hb : (s[i].toNat : Int) < 256 := by have := s[i].toNat_lt; omega
        have hsc := h6.le h8
        have hcp := cast_part s[i].toNat sc
        have HC : Hid (((s[i].toNat % 128 * sc : Nat) : Int) = (s[i].toNat : Int) % 128 * sc) := hcp
        clear hcp
        have hp0 : (0 : Int) ≤ (s[i].toNat : Int) % 128 * sc := Int.mul_nonneg (by omega) (by omega)
        have hp1 : (s[i].toNat : Int) % 128 * sc ≤ 127 * sc := Int.mul_le_mul_of_nonneg_right (by omega) (by omega)
        have h9 : (i : Int) - a < 5 := by omega
        have hpN : s[i].toNat % 128 * sc ≤ 127 * sc := Nat.mul_le_mul_right _ (by omega)
        by_cases hbig : (127 : Int) < s[i].toNat
        · have HM : Hid (rvAt s a (i + 1) (n + s[i].toNat % 128 * sc) (sc * 128) = rvAt s a a 0 1) := by show _ = _; rw [← rvAt_more hlt h8 h1 (by omega)]; exact H7.out
          go_wp2
          go_round
          case rel => exact ⟨n + s[i].toNat % 128 * sc, sc * 128, i + 1, by go_num, by go_num, by go_num, by omega, by omega, by omega, by omega, h6.step h1 h8, HM.out⟩
          case measure => simp [intOf]; omega
        · have HE : Hid (rvAt s a a 0 1 = if 1000000000 < n + s[i].toNat % 128 * sc ∨ (s[i].toNat = 0 ∧ i ≠ a) then none else some (n + s[i].toNat % 128 * sc, i + 1)) := by show _ = _; rw [← H7.out, rvAt_end hlt h8 (by omega)]
          by_cases hz : s[i].toNat = 0
          · have HZ : Hid (s[i].toNat = 0) := hz
            have hz' : ((s[i].toNat : Int) == 0) = true := by simp [hz]
            clear hz
            by_cases hia : (a : Int) < i
            · go_wp2
              go_ret3
              exact ⟨by rw [HE.out, if_pos (.inr ⟨HZ.out, by omega⟩)]; rfl, rfl⟩
            · by_cases hm : (1000000000 : Int) < n + (s[i].toNat : Int) % 128 * sc
              · go_wp2
                go_ret3
                exact ⟨by rw [HE.out, if_pos (.inl (by have := HC.out; omega))]; rfl, rfl⟩
              · go_wp2
                go_ret3
                exact ⟨by rw [HE.out, if_neg (by have := HC.out; omega)]; rfl, rfl⟩
          · have hz' : ((s[i].toNat : Int) == 0) = false := by simp; omega
            by_cases hm : (1000000000 : Int) < n + (s[i].toNat : Int) % 128 * sc
            · go_wp2
              go_ret3
              exact ⟨by rw [HE.out, if_pos (.inl (by have := HC.out; omega))]; rfl, rfl⟩
            · go_wp2
              go_ret3
              exact ⟨by rw [HE.out, if_neg (by have := HC.out; omega)]; rfl, rfl⟩
      · have h9 : ¬ ((i : Int) - a < 5) := by omega
        go_wp2
        go_ret3
        exact ⟨by rw [← H7.out, rvAt_out (.inr (by omega))]; rfl, rfl⟩
    · have h9 : ¬ ((i : Int) < s.size) := by omega
      go_wp2
      go_ret3
      exact ⟨by rw [← H7.out, rvAt_out (.inl (by omega))]; rfl, rfl⟩

theorem specRead_no (s : ByteArray) (a : Int) (h : a < 0 ∨ s.size < a) (w : World) :
    Calls Try.prog 209 #[.string s, .int .i64 a] w fun e w' => e = .returned (rvRes none) ∧ w' = w := by
  have hb : (decide ((0 : Int) ≤ a) && decide (a ≤ s.size)) = false := by simp; omega
  clear h
  go_enter Try.func209, Try.ntmps209
  go_wp2_with (go_at_call 125; refine (in_calls _ _ _ _).mono ?_; rintro e w' ⟨rfl, rfl⟩)
  go_ret3
  exact ⟨rfl, rfl⟩

set_option maxHeartbeats 1000000 in
set_option maxRecDepth 100000 in
theorem specRead_yes (s : ByteArray) (a : Nat) (hs : s.size ≤ 1048576) (ha : a ≤ s.size) (w : World) :
    Calls Try.prog 209 #[.string s, .int .i64 a] w fun e w' => e = .returned (rvRes (rvAt s a a 0 1)) ∧ Below w.heap.size w w' := by
  have hb1 : decide ((0 : Int) ≤ a) = true := by simp
  have hb2 : decide ((a : Int) ≤ s.size) = true := by simp; omega
  go_enter Try.func209, Try.ntmps209
  go_wp2_with (go_at_call 125; refine (in_calls _ _ _ _).mono ?_; rintro e w' ⟨rfl, rfl⟩)
  go_loop [7, 8, 9] (fun x y z => ∃ n sc i : Nat, x = .int .i64 n ∧ y = .int .i64 sc ∧ z = .int .i64 i ∧ a ≤ i ∧ i ≤ s.size ∧ i ≤ a + 5 ∧ n < sc ∧ ScB a i sc ∧ Pre (s.extract a i).data.toList n sc ∧ rvAt s a i n sc = rvAt s a a 0 1) (fun _ _ z => s.size - (intOf z).toNat)
  case atStart => exact ⟨0, 1, a, rfl, rfl, rfl, by omega, ha, by omega, by omega, ScB.start a, by simpa using pre_nil, rfl⟩
  case round =>
    obtain ⟨n, sc, i, rfl, rfl, rfl, h1, h2, h3, h4, h6, hpre, h7⟩ := hrel
    have H7 : Hid (rvAt s a i n sc = rvAt s a a 0 1) := h7
    have HP : Hid (Pre (s.extract a i).data.toList n sc) := hpre
    clear h7 hpre
    by_cases hlt : i < s.size
    · by_cases h8 : i < a + 5
      · have hb : (s[i].toNat : Int) < 256 := by have := s[i].toNat_lt; omega
        have hsc := h6.le h8
        have hcp := cast_part s[i].toNat sc
        have HC : Hid (((s[i].toNat % 128 * sc : Nat) : Int) = (s[i].toNat : Int) % 128 * sc) := hcp
        clear hcp
        have hp0 : (0 : Int) ≤ (s[i].toNat : Int) % 128 * sc := Int.mul_nonneg (by omega) (by omega)
        have hp1 : (s[i].toNat : Int) % 128 * sc ≤ 127 * sc := Int.mul_le_mul_of_nonneg_right (by omega) (by omega)
        have h9 : (i : Int) < a + 5 := by omega
        have hpN : s[i].toNat % 128 * sc ≤ 127 * sc := Nat.mul_le_mul_right _ (by omega)
        by_cases hbig : (127 : Int) < s[i].toNat
        · have HM : Hid (rvAt s a (i + 1) (n + s[i].toNat % 128 * sc) (sc * 128) = rvAt s a a 0 1) := by show _ = _; rw [← rvAt_more hlt h8 h1 (by omega)]; exact H7.out
          have hnl : ¬ ((s[i].toNat : Int) < 128) := by omega
          have HQ := pre_snoc HP.out s[i] (by omega)
          rw [← extract_snoc s a i h1 hlt] at HQ
          have HX : Hid (Pre (s.extract a (i + 1)).data.toList (n + s[i].toNat % 128 * sc) (sc * 128)) := HQ
          clear HQ
          go_wp2
          go_round
          case rel => exact ⟨n + s[i].toNat % 128 * sc, sc * 128, i + 1, by go_num, by go_num, by go_num, by omega, by omega, by omega, by omega, h6.step h1 h8, HX.out, HM.out⟩
          case measure => simp [intOf]; omega
        · have HE : Hid (rvAt s a a 0 1 = if 1000000000 < n + s[i].toNat % 128 * sc ∨ (s[i].toNat = 0 ∧ i ≠ a) then none else some (n + s[i].toNat % 128 * sc, i + 1)) := by show _ = _; rw [← H7.out, rvAt_end hlt h8 (by omega)]
          by_cases hm : (1000000000 : Int) < n + (s[i].toNat : Int) % 128 * sc
          · go_wp2_with fail
            go_quiet (fail)
            go_wp2
            go_ret3
            exact ⟨by rw [HE.out, if_pos (.inl (by have := HC.out; omega))]; rfl, below_drewN (Below.refl _ _) _⟩
          · have hm' : decide ((1000000000 : Int) < n + (s[i].toNat : Int) % 128 * sc) = false := by simp; omega
            go_wp2_with fail
            have hi1 : (i : Int) + 1 ≤ s.size := by omega
            have hi2 : (a : Int) ≤ (i : Int) + 1 := by omega
            have hX0 : (0 : Int) ≤ n + (s[i].toNat : Int) % 128 * sc := by omega
            have hwr : IntKind.i64.wrap ((i : Int) + 1) = (i : Int) + 1 := by rw [IntKind.wrap_i64]; omega
            generalize hX : (n : Int) + (s[i].toNat : Int) % 128 * sc = X at *
            have HX : Hid ((n : Int) + (s[i].toNat : Int) % 128 * sc = X) := hX
            clear hX hp1
            have hsl := fun wx => run_slice_string (P := Try.prog) wx 9 s .i64 .i64 (a : Int) ((i : Int) + 1) Try.underlying9 (by omega) hi2 hi1
            go_region_held3 (fun _ => True) (trivial) ((go_at_call 167; refine (l01Var_int _ (by omega) (by omega) _).mono ?_; rintro e w1 ⟨rfl, hb1⟩))
            have hXN : X.toNat = n + s[i].toNat % 128 * sc := by have := HX.out; have := HC.out; omega
            have HR := read_dec h1 hlt HP.out (show s[i].toNat < 128 by omega)
            rw [← hXN] at HR
            have HE' := HE.out
            rw [← hXN] at HE'
            have HXX : Hid (X.toNat ≤ 1000000000 ∧ (varB X.toNat = (s.extract a (i + 1)).data.toList ↔ ¬ (s[i].toNat = 0 ∧ i ≠ a)) ∧ rvAt s a a 0 1 = if 1000000000 < X.toNat ∨ (s[i].toNat = 0 ∧ i ≠ a) then none else some (X.toNat, i + 1)) := ⟨by omega, HR, HE'⟩
            clear HR HE' hXN
            go_wp2
            · have ht : (!varB X.toNat == (s.extract a (i + 1)).toList) = true := by assumption
              go_ret3
              have hx := HXX.out
              have hne : ¬ (varB X.toNat = (s.extract a (i + 1)).data.toList) := by simpa [ByteArray.toList_eq] using ht
              rw [hx.2.1] at hne
              exact ⟨by rw [hx.2.2, if_pos (.inr (by simpa using hne))]; rfl, (Below.refl _ _).drew.trans hb1⟩
            · have ht : (!varB X.toNat == (s.extract a (i + 1)).toList) = false := by assumption
              go_ret3
              have hx := HXX.out
              have hne : varB X.toNat = (s.extract a (i + 1)).data.toList := by simpa [ByteArray.toList_eq] using ht
              rw [hx.2.1] at hne
              exact ⟨by rw [hx.2.2, if_neg (by omega)]; simp [rvRes]; omega, (Below.refl _ _).drew.trans hb1⟩
      · have h9 : ¬ ((i : Int) < a + 5) := by omega
        go_wp2
        go_ret3
        exact ⟨by rw [← H7.out, rvAt_out (.inr (by omega))]; rfl, Below.refl _ _⟩
    · have h9 : ¬ ((i : Int) < s.size) := by omega
      go_wp2
      go_ret3
      exact ⟨by rw [← H7.out, rvAt_out (.inl (by omega))]; rfl, Below.refl _ _⟩

theorem specRead_rv (s : ByteArray) (a : Int) (hs : s.size ≤ 1048576) (w : World) :
    Calls Try.prog 209 #[.string s, .int .i64 a] w fun e w' => e = .returned (rvRes (rv s.data.toList a)) ∧ Below w.heap.size w w' := by
  by_cases h : 0 ≤ a ∧ a ≤ s.size
  · obtain ⟨N, rfl⟩ := Int.eq_ofNat_of_zero_le h.1
    rw [rv_at s N (by omega)]
    exact specRead_yes s N hs (by omega) w
  · rw [rv_no (by simp; omega)]
    refine (specRead_no s a (by omega) w).mono ?_
    rintro e w' ⟨he, rfl⟩
    exact ⟨he, Below.refl _ _⟩

theorem implRead_rv (s : ByteArray) (a : Int) (hs : s.size ≤ 1048576) (w : World) :
    Calls Try.prog 164 #[.string s, .int .i64 a] w fun e w' => e = .returned (rvRes (rv s.data.toList a)) ∧ w' = w := by
  by_cases h : 0 ≤ a ∧ a ≤ s.size
  · obtain ⟨N, rfl⟩ := Int.eq_ofNat_of_zero_le h.1
    rw [rv_at s N (by omega)]
    exact implRead_yes s N hs (by omega) w
  · rw [rv_no (by simp; omega)]
    exact implRead_no s a (by unfold maxLen; omega) (by omega) w

theorem specRead_none {s : ByteArray} {a : Int} (hs : s.size ≤ 1048576) (h : rv s.data.toList a = none) (w : World) :
    Calls Try.prog 209 #[.string s, .int .i64 a] w fun e w' => e = .returned (.tuple #[.int .i64 0, .int .i64 0, .bool false]) ∧ Below w.heap.size w w' := by
  have := specRead_rv s a hs w; rw [h] at this; exact this
theorem specRead_some {s : ByteArray} {a : Int} {n j : Nat} (hs : s.size ≤ 1048576) (h : rv s.data.toList a = some (n, j)) (w : World) :
    Calls Try.prog 209 #[.string s, .int .i64 a] w fun e w' => e = .returned (.tuple #[.int .i64 (n : Int), .int .i64 (j : Int), .bool true]) ∧ Below w.heap.size w w' := by
  have := specRead_rv s a hs w; rw [h] at this; exact this
theorem implRead_none {s : ByteArray} {a : Int} (hs : s.size ≤ 1048576) (h : rv s.data.toList a = none) (w : World) :
    Calls Try.prog 164 #[.string s, .int .i64 a] w fun e w' => e = .returned (.tuple #[.int .i64 0, .int .i64 0, .bool false]) ∧ w' = w := by
  have := implRead_rv s a hs w; rw [h] at this; exact this
theorem implRead_some {s : ByteArray} {a : Int} {n j : Nat} (hs : s.size ≤ 1048576) (h : rv s.data.toList a = some (n, j)) (w : World) :
    Calls Try.prog 164 #[.string s, .int .i64 a] w fun e w' => e = .returned (.tuple #[.int .i64 (n : Int), .int .i64 (j : Int), .bool true]) ∧ w' = w := by
  have := implRead_rv s a hs w; rw [h] at this; exact this
end Go.Proofs.Ytahdgagipmpcgaa
