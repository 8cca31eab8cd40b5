/- What the two readers of figures to the base 10 do. -/
import Derived.Test.YtjgakehacioagaaDDec
import Derived.Test.YtjgakehacioagaaUVals
namespace Go.Proofs.Ytjgakehacioagaa
open Go.RowKit

theorem vals_all' {base : Nat} : ∀ (l : List UInt8), (∀ b ∈ l, figVal base b.toNat ≠ none) → ∃ d, Vals base l d
  | [], _ => ⟨[], rfl⟩
  | b :: r, h => by
    obtain ⟨d, hd⟩ := vals_all' r (fun x hx => h x (List.mem_cons_of_mem _ hx))
    rcases hf : figVal base b.toNat with _ | x
    · exact absurd hf (h b List.mem_cons_self)
    · refine ⟨x :: d, ?_⟩
      unfold Vals at *
      simp [hf, hd]
theorem bc_intCells' (d : List Nat) (j : Nat) (h : j < d.length) : (intCells d)[j]? = some (Value.int .i64 (d[j] : Int)) := by simp [intCells, h]

theorem specRd_long (s : ByteArray) (hs : s.size ≤ maxLen) (h : 10 < s.size) (w : World) :
    Calls Try.prog 22 #[.string s] w fun e w' => e = .returned (.tuple #[.int .i64 0, .bool false]) ∧ w' = w := by
  unfold maxLen at hs
  go_enter Try.func22, Try.ntmps22
  go_wp2
  go_ret2
  exact ⟨rfl, rfl⟩

/-- What ReadDecimal answers, over the values of the figures. -/
def RdPost (s : ByteArray) (w : World) (e : Ending) (w' : World) : Prop :=
  (∃ d, Vals 10 s.data.toList d ∧ RdOk s.data.toList d ∧ e = .returned (.tuple #[.int .i64 (valN d : Int), .bool true]) ∧ Below w.heap.size w w') ∨
  ((∀ d, Vals 10 s.data.toList d → ¬ RdOk s.data.toList d) ∧ e = .returned (.tuple #[.int .i64 0, .bool false]) ∧ Below w.heap.size w w')

set_option maxHeartbeats 1000000 in
set_option maxRecDepth 100000 in
theorem specRd (s : ByteArray) (hs : s.size ≤ 10) (w : World) : Calls Try.prog 22 #[.string s] w (RdPost s w) := by
  go_enter Try.func22, Try.ntmps22
  go_wp2
  go_loopg [4, 5] s.size (fun gg x z wr => ∃ (k : Nat) (d : List Nat), k + gg = s.size ∧ z = .int .i64 k ∧ Vals 10 (s.data.toList.take k) d ∧ x = .int .i64 (valN d : Int) ∧ wr = w)
  case atStart => exact ⟨0, [], by omega, rfl, Vals.nil _, rfl, rfl⟩
  case round =>
    obtain ⟨k, d, hk, rfl, hd, rfl, rfl⟩ := hrel
    have HD : Hid (Vals 10 (s.data.toList.take k) d) := hd
    have hdl : d.length = k := by rw [hd.len, List.length_take]; simp; omega
    have hv := valN_le d hd.lt (by omega)
    obtain ⟨V, hV⟩ : ∃ V, V = valN d := ⟨_, rfl⟩
    rw [← hV] at hv ⊢
    have HV : Hid (V = valN d) := hV
    have HK : Hid (k + gk = s.size) := hk
    clear hd hV
    by_cases hlt : k < s.size
    · have hk1 : (k : Int) < s.size := by omega
      have hb8 : (s[k].toNat : Int) < 256 := by have := s[k].toNat_lt; omega
      have hf := figVal10_at s[k]
      clear hdl hk
      by_cases h1 : (s[k].toNat : Int) < 48
      · rw [if_neg (by omega)] at hf
        have HF : Hid (figVal 10 s[k].toNat = none) := hf
        clear hf
        go_wp2
        go_ret2
        exact .inr ⟨fun d hd _ => hd.no (mem_at s k hlt) HF.out, rfl, Below.refl _ _⟩
      · by_cases h2 : (57 : Int) < s[k].toNat
        · rw [if_neg (by omega)] at hf
          have HF : Hid (figVal 10 s[k].toNat = none) := hf
          clear hf
          go_wp2
          go_ret2
          exact .inr ⟨fun d hd _ => hd.no (mem_at s k hlt) HF.out, rfl, Below.refl _ _⟩
        · rw [if_pos (by omega)] at hf
          have HF : Hid (Vals 10 (s.data.toList.take (k + 1)) (d ++ [s[k].toNat - 48])) := HD.out.snoc hlt hf
          have HW : Hid (valN (d ++ [s[k].toNat - 48]) = 10 * V + (s[k].toNat - 48)) := by show _ = _; rw [valN_snoc, HV.out]
          clear hf
          go_wp2
          go_roundg (s.size - (k + 1))
          case measure => have := HK.out; omega
          case rel => exact ⟨k + 1, d ++ [s[k].toNat - 48], by omega, by go_num, HF.out, by rw [HW.out]; congr 1; omega, rfl⟩
    · have hk1 : ¬ ((k : Int) < s.size) := by omega
      have hks : k = s.size := by omega
      have HVv : Hid (Vals 10 s.data.toList d) := by
        have := HD.out
        rw [hks, List.take_of_length_le (by simp)] at this
        exact this
      clear hks hk hdl
      by_cases hbig : (1000000000 : Int) < V
      · go_wp2
        go_ret2
        refine .inr ⟨fun d' hd' hr => ?_, rfl, Below.refl _ _⟩
        obtain rfl := HVv.out.inj hd'
        have h1 := hr.1
        rw [← HV.out] at h1
        omega
      · go_wp2_with (go_at_call 30; refine (dec_calls _ (by omega) (by omega) _).mono ?_; rintro e w1 ⟨rfl, hb1⟩)
        · have ht : (!decB V == s.toList) = true := by assumption
          go_ret2
          refine .inr ⟨fun d' hd' hr => ?_, rfl, hb1⟩
          obtain rfl := HVv.out.inj hd'
          have h1 := hr.2
          rw [← HV.out] at h1
          have hne : ¬ (decB V = s.data.toList) := by simpa [ByteArray.toList_eq] using ht
          exact hne h1
        · have ht : (!decB V == s.toList) = false := by assumption
          go_ret2
          have he : decB V = s.data.toList := by simpa [ByteArray.toList_eq] using ht
          exact .inl ⟨d, HVv.out, ⟨by rw [← HV.out]; omega, by rw [← HV.out]; exact he⟩, by rw [← HV.out]; rfl, hb1⟩

theorem isEmpty_no (s : ByteArray) (h : 0 < s.size) : s.toList.isEmpty = false := by
  have h' : 0 < s.data.toList.length := by simpa using h
  rw [ByteArray.toList_eq]
  cases hl : s.data.toList with
  | nil => rw [hl] at h'; simp at h'
  | cons a r => rfl

theorem implRd_long (s : ByteArray) (hs : s.size ≤ maxLen) (h : 10 < s.size) (w : World) :
    Calls Try.prog 23 #[.string s] w fun e w' => e = .returned (.tuple #[.int .i64 0, .bool false]) ∧ w' = w := by
  unfold maxLen at hs
  have hz : s.toList.isEmpty = false := isEmpty_no s (by omega)
  go_enter Try.func23, Try.ntmps23
  go_wp2
  go_ret2
  exact ⟨rfl, rfl⟩

theorem implRd_nil (w : World) : Calls Try.prog 23 #[.string ⟨#[]⟩] w fun e w' => e = .returned (.tuple #[.int .i64 0, .bool false]) ∧ w' = w := by
  go_enter Try.func23, Try.ntmps23
  go_wp2
  go_ret2
  exact ⟨rfl, rfl⟩

set_option maxHeartbeats 1000000 in
set_option maxRecDepth 100000 in
theorem implRd_some (s : ByteArray) (hs : s.size ≤ 10) (h0 : 0 < s.size) (w : World) : Calls Try.prog 23 #[.string s] w (RdPost s w) := by
  have hz : s.toList.isEmpty = false := isEmpty_no s (by omega)
  have hb8 : (s[0].toNat : Int) < 256 := by have := s[0].toNat_lt; omega
  have hcons : s.data.toList = s[0] :: s.data.toList.drop 1 := by
    have := List.drop_eq_getElem_cons (l := s.data.toList) (i := 0) (by simpa using h0)
    rw [List.drop_zero] at this
    exact this
  by_cases hno : s[0].toNat = 48 ∧ 1 < s.size
  · have h1 : ((s[0].toNat : Int) == 48) = true := by simp; omega
    have h2 : (1 : Int) < s.size := by omega
    have HR : Hid (∀ d, Vals 10 s.data.toList d → ¬ RdOk s.data.toList d) := by
      show ∀ d, _
      rw [hcons]
      exact rd_nought hno.1 (fun e => by have := congrArg List.length e; simp at this; omega)
    clear hcons hno
    go_enter Try.func23, Try.ntmps23
    go_wp2
    go_ret2
    exact .inr ⟨HR.out, rfl, Below.refl _ _⟩
  · have HP : Hid (∀ d, Vals 10 s.data.toList d → decB (valN d) = s.data.toList) := fun d hd => rd_plain hd (by rw [hcons]; simp) (by
      intro b hb h48
      rw [hcons] at hb
      simp at hb
      subst hb
      simp
      omega)
    have hguard : (((s[0].toNat : Int) == 48) = false) ∨ (((s[0].toNat : Int) == 48) = true ∧ ¬ ((1 : Int) < s.size)) := by
      by_cases h48 : s[0].toNat = 48
      · exact .inr ⟨by simp; omega, by omega⟩
      · exact .inl (by simp; omega)
    clear hcons hno
    by_cases hf : ∃ b ∈ s.data.toList, figVal 10 b.toNat = none
    · have HF : Hid (∃ b ∈ s.data.toList, figVal 10 b.toNat = none) := hf
      clear hf
      rcases hguard with hg | ⟨hg, hg2⟩
      all_goals
        go_enter Try.func23, Try.ntmps23
        go_wp2_with (go_at_call 29; refine (values_no (base := 10) (by omega) (by omega) HF.out _).mono ?_; rintro e w1 ⟨rfl, hb1⟩)
        go_ret2
        exact .inr ⟨fun d hd _ => by obtain ⟨b, hb, hn⟩ := HF.out; exact hd.no hb hn, rfl, hb1⟩
    · obtain ⟨d, hd⟩ : ∃ d, Vals 10 s.data.toList d := vals_all' _ (fun b hb hx => hf ⟨b, hb, hx⟩)
      clear hf
      have HD : Hid (Vals 10 s.data.toList d) := hd
      have hdl : d.length = s.size := by rw [hd.len]; simp
      have hdb : d.length ≤ 10 := by omega
      have hlt := hd.lt
      have hv := valN_le d hlt (by omega)
      have HDec : Hid (decB (valN d) = s.data.toList) := HP.out d hd
      have HLt : Hid (∀ x ∈ d, x < 10) := hlt
      clear hd hlt hdl HP
      rcases hguard with hg | ⟨hg, hg2⟩
      all_goals
        go_enter Try.func23, Try.ntmps23
        go_wp2_with (go_at_call 29; refine (values_yes (base := 10) (by omega) (by omega) HD.out _).mono ?_; rintro e w1 ⟨v, rfl, hvn, hown1, hb1⟩; refine Hid.out ?_)
        refine hidI ?_
        rcases hown1.2 with ⟨h0, -⟩ | ⟨g, cap, cur, rfl, hgb, hgh, -, -, -, -⟩
        · exact absurd h0 hvn
        have hcell : ∀ j (hj : j < d.length), w1.cell? ⟨g, j, none⟩ = some (.int .i64 (d[j] : Int)) := fun j hj => by
          have := hown1.cells (g := g) rfl j _ (bc_intCells' d j hj)
          rwa [addr_add] at this
        have HC : Hid (∀ j (hj : j < d.length), w1.cell? ⟨g, j, none⟩ = some (.int .i64 (d[j] : Int))) := hcell
        clear hcell hown1 hvn hgh hgb
        go_wp2
        go_loopg [6, 33] d.length (fun gg x z wr => ∃ k : Nat, k + gg = d.length ∧ z = .int .i64 k ∧ x = .int .i64 (valN (d.take k) : Int) ∧ wr = w1)
        case atStart => exact ⟨0, by omega, rfl, rfl, rfl⟩
        case round =>
          obtain ⟨k, hk, rfl, rfl, rfl⟩ := hrel
          by_cases hkl : k < d.length
          · have hk1 : (k : Int) < d.length := by omega
            have HK : Hid (k + gk = d.length) := hk
            have hc1 := HC.out k hkl
            have hx := HLt.out _ (List.getElem_mem hkl)
            have hV := valN_le (d.take k) (fun x hx => HLt.out x (List.mem_of_mem_take hx)) (by rw [List.length_take]; omega)
            have HT : Hid (valN (d.take (k + 1)) = 10 * valN (d.take k) + d[k]) := by show _ = _; rw [List.take_succ_eq_append_getElem hkl, valN_snoc]
            obtain ⟨V, hV2⟩ : ∃ V, V = valN (d.take k) := ⟨_, rfl⟩
            obtain ⟨x, hx2⟩ : ∃ x, x = d[k] := ⟨_, rfl⟩
            rw [← hV2] at hV HT ⊢
            rw [← hx2] at hc1 hx HT
            clear hV2 hx2 hk
            go_wp2
            go_roundg (d.length - (k + 1))
            case measure => have := HK.out; omega
            case rel => exact ⟨k + 1, by omega, by go_num, by rw [HT.out]; congr 1; omega, rfl⟩
          · have hk1 : ¬ ((k : Int) < d.length) := by omega
            rw [List.take_of_length_le (by omega)]
            obtain ⟨V, hV2⟩ : ∃ V, V = valN d := ⟨_, rfl⟩
            rw [← hV2] at hv ⊢
            have HV : Hid (V = valN d) := hV2
            clear hV2 hk
            by_cases hbig : (1000000000 : Int) < V
            · go_wp2
              go_ret2
              refine .inr ⟨fun d' hd' hr => ?_, rfl, hb1⟩
              obtain rfl := HD.out.inj hd'
              have h1 := hr.1
              rw [← HV.out] at h1
              omega
            · go_wp2
              go_ret2
              exact .inl ⟨d, HD.out, ⟨by rw [← HV.out]; omega, HDec.out⟩, by rw [← HV.out]; rfl, hb1⟩
end Go.Proofs.Ytjgakehacioagaa
