/- What the function that tells the values of figures does. -/
import Derived.Test.YtjgakehacioagaaWVar
import Derived.Test.YtjgakehacioagaaUMath
import Derived.Deep.RegionHeld3
import Derived.Deep.QuietTactic
import Derived.BigQuiet
import Derived.WalkSmall
import Derived.WalkMore
import Derived.Deep.LoopGhost
namespace Go.Proofs.Ytjgakehacioagaa
open Go.RowKit

theorem infoInt : (Try.prog.info? 3).map (fun i => (i.zero, i.size, i.bytes)) = some (some (.int .i64 0), 1, 8) := by kernel_rfl

theorem figs_run64 (x : Int) (h0 : 0 ≤ x) (h1 : x < 16) (w : World) :
    (Instr.index 9 (.string { data := #[48, 49, 50, 51, 52, 53, 54, 55, 56, 57, 97, 98, 99, 100, 101, 102] }) (.int .i64 x)).run Try.prog w = .ok (.int .u8 (figN x.toNat : Int)) w := by
  have hs : figs.size = 16 := rfl
  have h := run_index_string (P := Try.prog) w 9 figs .i64 x Try.underlying9
  rw [dif_pos ⟨h0, by rw [hs]; omega⟩, figs_at x.toNat (by omega) (by rw [hs]; omega)] at h
  exact h

set_option maxHeartbeats 1000000 in
theorem values_calls (s : ByteArray) (base : Nat) (hb : base ≤ 16) (hs : s.size ≤ 40000) (w : World) :
    Calls Try.prog 29 #[.string s, .int .i64 base] w fun e w' =>
      (∃ d v, Vals base s.data.toList d ∧ e = .returned (.tuple #[v, .bool true]) ∧ v ≠ .slice none 0 0 ∧ w'.ownsRow w.heap.size 3 1 v d.length (intCells d) ∧ Below w.heap.size w w') ∨
      ((∃ b ∈ s.data.toList, figVal base b.toNat = none) ∧ e = .returned (.tuple #[.slice none 0 0, .bool false]) ∧ Below w.heap.size w w') := by
  obtain ⟨i0, hi, hz0, hz1, hz2⟩ := info_parts infoInt
  go_enter Try.func29, Try.ntmps29
  go_wp2
  go_step3
  go_wp2_with (at_make; refine wpList_make_own _ rfl _ _ 40 rfl w.heap.size 3 i0 (.int .i64 0) 1 Try.underlying40 hi hz0 hz1 _ _ _ s.size rfl rfl rfl (by rw [hz2]; omega) (by unfold maxLen; omega) (Nat.le_refl _) ?_)
  intro w1 hown1 hgrow1
  have hbel1 : Below w.heap.size w w1 := (Below.refl _ _).grown hgrow1 (Nat.le_refl _) (fun k hk => by cases hk)
  clear hgrow1
  go_wp2
  go_step3
  go_wp2
  go_loopg [6, 7] s.size (fun gg v z wr => ∃ (k : Nat) (d : List Nat), k + gg = s.size ∧ z = .int .i64 k ∧ Vals base (s.data.toList.take k) d ∧ v ≠ .slice none 0 0 ∧ wr.ownsRow w.heap.size 3 1 v k (intCells d) ∧ Below w.heap.size w wr)
  case atStart => exact ⟨0, [], by omega, rfl, Vals.nil _, by simp, hown1, hbel1⟩
  case round =>
    obtain ⟨k, d, hk, rfl, hd, hnn, hown, hbel⟩ := hrel
    have HD : Hid (Vals base (s.data.toList.take k) d) := hd
    have HN : Hid (u6 ≠ .slice none 0 0) := hnn
    have HK : Hid (k + gk = s.size) := hk
    clear hd hnn
    by_cases hlt : k < s.size
    · have hk0 : (0 : Int) ≤ (k : Int) := by omega
      have hk1 : (k : Int) < (s.size : Int) := by omega
      clear hk
      go_wp2
      go_loopg [6, 19] base (fun g2 v z wx => ∃ c : Nat, c + g2 = base ∧ z = .int .i64 c ∧ v = u6 ∧ (∀ x, x < c → s[k].toNat ≠ figN x) ∧ wx.ownsRow w.heap.size 3 1 u6 k (intCells d) ∧ Below w.heap.size w wx)
      case atStart => exact ⟨0, by omega, rfl, rfl, fun x hx => absurd hx (by omega), hown, hbel⟩
      case round =>
        clear hown hbel
        obtain ⟨c, hc, rfl, rfl, hno, hown, hbel⟩ := hrel
        have HC : Hid (c + gk = base) := hc
        have HNo : Hid (∀ x, x < c → s[k].toNat ≠ figN x) := hno
        clear hno
        have hsz := hbel.size
        by_cases hcb : c < base
        · have hcb' : (c : Int) < base := by omega
          clear hc
          have hc0 : (0 : Int) ≤ (c : Int) := by omega
          have hfx := fun wx => figs_run64 (c : Int) (by omega) (by omega) wx
          have hb8 : (s[k].toNat : Int) < 256 := by have := s[k].toNat_lt; omega
          by_cases heq : s[k].toNat = figN c
          · have heq' : ((s[k].toNat : Int) == (figN (c : Int).toNat : Int)) = true := by simp [heq]
            go_wp2
            go_quiet (fail)
            have hownq : (wr.drewN nq).ownsRow w.heap.size 3 1 u6 k (intCells d) := hown
            have hbelq := below_drewN hbel nq
            have hszq : w.heap.size ≤ (wr.drewN nq).heap.size := hsz
            clear hown hbel hsz
            generalize wr.drewN nq = wq at *
            go_wp2_with (at_builtin; refine wpList_append_own _ rfl _ _ 40 rfl w.heap.size 3 i0 (.int .i64 0) 1 8 Try.underlying40 hi hz0 hz1 hz2 rfl (by decide) _ _ _ rfl (hownq.alloc _) ⟨wq.heap.size, 0, none⟩ 1 1 [Value.int .i64 (c : Int)] rfl rfl (one_new _ _ _) (by intro u' hu'; simp at hu'; subst hu'; rfl) (by unfold maxLen; omega) (by omega) (by simp; omega) ?_)
            intro v2 w2 hown2 hgrow hnil
            have hnx2 : Below w.heap.size w w2 := (hbelq.alloc hszq _).grown hgrow (by simp; omega) (fun k hk => (hownq.lt k hk).1)
            have hv2 : v2 ≠ .slice none 0 0 := hnil
            have HV : Hid (v2 ≠ .slice none 0 0) := hv2
            have HX : Hid (Vals base (s.data.toList.take (k + 1)) (d ++ [c])) := HD.out.snoc hlt (figVal_some hcb HNo.out heq)
            have ho : w2.ownsRow w.heap.size 3 1 v2 (k + 1) (intCells (d ++ [c])) := by simpa [intCells] using hown2
            clear hgrow hnil hownq hown2 hv2
            go_wp2
            go_roundg (s.size - (k + 1))
            case measure => have := HK.out; omega
            case rel => exact ⟨k + 1, d ++ [c], by omega, by go_num, HX.out, HV.out, ho, hnx2⟩
          · have heq' : ((s[k].toNat : Int) == (figN c : Int)) = false := by simp; omega
            have HEq : Hid (¬ s[k].toNat = figN c) := heq
            clear heq
            generalize hgk : gk = gk2 at *
            clear hgk
            go_wp2
            go_quiet (fail)
            have hownq : (wr.drewN nq).ownsRow w.heap.size 3 1 u6 k (intCells d) := hown
            have hbelq := below_drewN hbel nq
            clear hown hbel hsz
            generalize wr.drewN nq = wq at *
            have HQ : Hid (wq.ownsRow w.heap.size 3 1 u6 k (intCells d)) := hownq
            clear hownq
            go_wp2
            go_roundg (base - (c + 1))
            case measure => have := HC.out; omega
            case rel =>
              refine ⟨c + 1, by omega, by go_num, rfl, fun x hx => ?_, HQ.out, hbelq⟩
              by_cases hxc : x = c
              · subst hxc; exact HEq.out
              · exact HNo.out x (by omega)
        · have hcb' : ¬ ((c : Int) < base) := by omega
          have hcc : c = base := by omega
          have HF : Hid (figVal base s[k].toNat = none) := figVal_none (by intro x hx; exact HNo.out x (by omega))
          clear hc hcc
          go_wp2
          go_ret2
          exact .inr ⟨⟨s[k], mem_at s k hlt, HF.out⟩, rfl, hbel⟩
    · have hlt' : ¬ ((k : Int) < s.size) := by omega
      have hks : k = s.size := by omega
      have HV : Hid (Vals base s.data.toList d) := by
        have := HD.out
        rw [hks, List.take_of_length_le (by simp)] at this
        exact this
      have HL : Hid (d.length = k) := by show _ = _; rw [HV.out.len, hks]; simp
      clear hks hk
      go_wp2
      go_ret2
      exact .inl ⟨d, u6, HV.out, rfl, HN.out, by rw [HL.out]; exact hown, hbel⟩

theorem values_yes {s : ByteArray} {base : Nat} (hb : base ≤ 16) (hs : s.size ≤ 40000) {d : List Nat} (hd : Vals base s.data.toList d) (w : World) :
    Calls Try.prog 29 #[.string s, .int .i64 base] w fun e w' =>
      ∃ v, e = .returned (.tuple #[v, .bool true]) ∧ v ≠ .slice none 0 0 ∧ w'.ownsRow w.heap.size 3 1 v d.length (intCells d) ∧ Below w.heap.size w w' := by
  refine (values_calls s base hb hs w).mono ?_
  rintro e w' (⟨d', v, hd', he, hn, ho, hbel⟩ | ⟨⟨b, hb, hn⟩, -, -⟩)
  · obtain rfl := hd.inj hd'
    exact ⟨v, he, hn, ho, hbel⟩
  · exact absurd hn (hd.no hb)
theorem values_no {s : ByteArray} {base : Nat} (hb : base ≤ 16) (hs : s.size ≤ 40000) (hd : ∃ b ∈ s.data.toList, figVal base b.toNat = none) (w : World) :
    Calls Try.prog 29 #[.string s, .int .i64 base] w fun e w' => e = .returned (.tuple #[.slice none 0 0, .bool false]) ∧ Below w.heap.size w w' := by
  refine (values_calls s base hb hs w).mono ?_
  rintro e w' (⟨d', v, hd', he, hn, ho, hbel⟩ | ⟨-, he, hbel⟩)
  · obtain ⟨b, hb, hn⟩ := hd
    exact absurd hn (hd'.no hb)
  · exact ⟨he, hbel⟩
end Go.Proofs.Ytjgakehacioagaa
