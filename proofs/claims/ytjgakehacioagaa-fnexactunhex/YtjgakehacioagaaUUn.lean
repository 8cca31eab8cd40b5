/- What the two readers of figures to the base 16 do. -/
import Derived.Test.YtjgakehacioagaaUVals
import Derived.Deep.AppendLies
namespace Go.Proofs.Ytjgakehacioagaa
open Go.RowKit

theorem vals_all {base : Nat} : ∀ (l : List UInt8), (∀ b ∈ l, figVal base b.toNat ≠ none) → ∃ d, Vals base l d
  | [], _ => ⟨[], rfl⟩
  | b :: r, h => by
    obtain ⟨d, hd⟩ := vals_all r (fun x hx => h x (List.mem_cons_of_mem _ hx))
    rcases hf : figVal base b.toNat with _ | x
    · exact absurd hf (h b List.mem_cons_self)
    · refine ⟨x :: d, ?_⟩
      unfold Vals at *
      simp [hf, hd]

set_option maxRecDepth 100000 in
theorem value_yes (b : UInt8) (x : Nat) (h : figVal 16 b.toNat = some x) (w : World) :
    Calls Try.prog 28 #[.int .u8 (b.toNat : Int)] w fun e w' => e = .returned (.int .i64 (x : Int)) ∧ w' = w := by
  have hb : (b.toNat : Int) < 256 := by have := b.toNat_lt; omega
  rw [figVal16_at] at h
  by_cases h1 : 48 ≤ b.toNat ∧ b.toNat ≤ 57
  · rw [if_pos h1] at h
    have HX : Hid (b.toNat - 48 = x) := Option.some.inj h
    clear h
    have h2 : (48 : Int) ≤ b.toNat := by omega
    have h3 : (b.toNat : Int) ≤ 57 := by omega
    clear h1
    go_enter Try.func28, Try.ntmps28
    go_wp2
    go_ret
    exact ⟨by rw [← HX.out]; simp; omega, rfl⟩
  · rw [if_neg h1] at h
    by_cases h2 : 97 ≤ b.toNat ∧ b.toNat ≤ 102
    · rw [if_pos h2] at h
      have HX : Hid (b.toNat - 87 = x) := Option.some.inj h
      clear h
      have h4 : (97 : Int) ≤ b.toNat := by omega
      have h3 : (b.toNat : Int) ≤ 102 := by omega
      have h5 : (57 : Int) < b.toNat := by omega
      clear h1 h2
      go_enter Try.func28, Try.ntmps28
      go_wp2
      go_ret
      exact ⟨by rw [← HX.out]; simp; omega, rfl⟩
    · rw [if_neg h2] at h; cases h

set_option maxRecDepth 100000 in
theorem value_no (b : UInt8) (h : figVal 16 b.toNat = none) (w : World) :
    Calls Try.prog 28 #[.int .u8 (b.toNat : Int)] w fun e w' => e = .returned (.int .i64 (-1)) ∧ w' = w := by
  have hb : (b.toNat : Int) < 256 := by have := b.toNat_lt; omega
  rw [figVal16_at] at h
  by_cases h1 : 48 ≤ b.toNat ∧ b.toNat ≤ 57
  · rw [if_pos h1] at h; cases h
  · rw [if_neg h1] at h
    by_cases h2 : 97 ≤ b.toNat ∧ b.toNat ≤ 102
    · rw [if_pos h2] at h; cases h
    · clear h
      rcases (show (b.toNat : Int) < 48 ∨ (57 < (b.toNat : Int) ∧ (b.toNat : Int) < 97) ∨ 102 < (b.toNat : Int) by omega) with h3 | ⟨h3, h4⟩ | h3
      · clear h1 h2
        go_enter Try.func28, Try.ntmps28
        go_wp2
        go_ret
        exact ⟨rfl, rfl⟩
      · clear h1 h2
        go_enter Try.func28, Try.ntmps28
        go_wp2
        go_ret
        exact ⟨rfl, rfl⟩
      · clear h1 h2
        go_enter Try.func28, Try.ntmps28
        go_wp2
        go_ret
        exact ⟨rfl, rfl⟩

/-- Figures to the base 16 are refused whole: too many, or an odd number of them. -/
theorem specUnhex_no (s : ByteArray) (hs : s.size ≤ maxLen) (h : 40000 < s.size ∨ s.size % 2 = 1) (w : World) :
    Calls Try.prog 20 #[.string s] w fun e w' => e = .returned (.tuple #[.string ByteArray.empty, .bool false]) ∧ w' = w := by
  unfold maxLen at hs
  by_cases h1 : (40000 : Int) < s.size
  · clear h
    go_enter Try.func20, Try.ntmps20
    go_wp2
    go_ret2
    exact ⟨rfl, rfl⟩
  · have h2 : ((s.size : Int) % 2 != 0) = true := by simp; omega
    clear h
    go_enter Try.func20, Try.ntmps20
    go_wp2
    go_ret2
    exact ⟨rfl, rfl⟩
theorem implUnhex_no (s : ByteArray) (hs : s.size ≤ maxLen) (h : 40000 < s.size ∨ s.size % 2 = 1) (w : World) :
    Calls Try.prog 21 #[.string s] w fun e w' => e = .returned (.tuple #[.string ByteArray.empty, .bool false]) ∧ w' = w := by
  unfold maxLen at hs
  by_cases h1 : (40000 : Int) < s.size
  · clear h
    go_enter Try.func21, Try.ntmps21
    go_wp2
    go_ret2
    exact ⟨rfl, rfl⟩
  · have h2 : ((s.size : Int) % 2 != 0) = true := by simp; omega
    clear h
    go_enter Try.func21, Try.ntmps21
    go_wp2
    go_ret2
    exact ⟨rfl, rfl⟩

set_option maxHeartbeats 1000000 in
theorem specUnhex_even (s : ByteArray) (n : Nat) (hn : s.size = 2 * n) (hs : s.size ≤ 40000) (w : World) :
    Calls Try.prog 20 #[.string s] w fun e w' =>
      (∃ d, Vals 16 s.data.toList d ∧ e = .returned (.tuple #[.string ⟨(unhexB d).toArray⟩, .bool true]) ∧ Below w.heap.size w w') ∨
      ((∃ b ∈ s.data.toList, figVal 16 b.toNat = none) ∧ e = .returned (.tuple #[.string ByteArray.empty, .bool false]) ∧ Below w.heap.size w w') := by
  obtain ⟨i0, hi, hz0, hz1, hz2⟩ := info_parts infoByte
  have h2 : ((s.size : Int) % 2 != 0) = false := by simp; omega
  have HNn : Hid (s.size = 2 * n) := hn
  clear hn
  go_enter Try.func20, Try.ntmps20
  go_wp2
  go_loopg [4, 5] n (fun gg v z wr => ∃ (j k : Nat) (d : List Nat), j + gg = n ∧ k = 2 * j ∧ z = .int .i64 k ∧ Vals 16 (s.data.toList.take k) d ∧ v ≠ .slice none 0 0 ∧ wr.ownsRow w.heap.size 5 1 v j (Lib.byteCells (unhexB d)) ∧ Below w.heap.size w wr)
  case atStart => exact ⟨0, 0, [], by omega, rfl, rfl, Vals.nil _, by simp, own_empty w, (Below.refl _ _).alloc (Nat.le_refl _) _⟩
  case round =>
    obtain ⟨j, k, d, hj, hk, rfl, hd, hnn, hown, hbel⟩ := hrel
    have HJ : Hid (j + gk = n ∧ k = 2 * j ∧ s.size = 2 * n) := ⟨hj, hk, HNn.out⟩
    have HD : Hid (Vals 16 (s.data.toList.take k) d) := hd
    have HN : Hid (u4 ≠ .slice none 0 0) := hnn
    have hsz := hbel.size
    clear hd hnn hj hk
    by_cases hlt : k + 1 < s.size
    · have hk1 : (k : Int) < s.size := by omega
      have hk2 : (k : Int) + 1 < s.size := by omega
      have hkk : k < s.size := by omega
      rcases hf1 : figVal 16 s[k].toNat with _ | x
      · have HF : Hid (figVal 16 s[k].toNat = none) := hf1
        clear hf1
        rcases hf2 : figVal 16 s[k + 1].toNat with _ | y
        · have HG : Hid (figVal 16 s[k + 1].toNat = none) := hf2
          clear hf2
          go_wp2_with fail
          refine (value_no s[k] HF.out _).mono ?_
          rintro e w1 ⟨rfl, rfl⟩
          go_wp2_with fail
          refine (value_no s[k + 1] HG.out _).mono ?_
          rintro e w1 ⟨rfl, rfl⟩
          go_wp2_with fail
          go_ret2
          exact .inr ⟨⟨s[k], mem_at s k hkk, HF.out⟩, rfl, hbel⟩
        · have HG : Hid (figVal 16 s[k + 1].toNat = some y) := hf2
          have hy := figVal_lt hf2
          clear hf2
          go_wp2_with fail
          refine (value_no s[k] HF.out _).mono ?_
          rintro e w1 ⟨rfl, rfl⟩
          go_wp2_with fail
          refine (value_yes s[k + 1] y HG.out _).mono ?_
          rintro e w1 ⟨rfl, rfl⟩
          go_wp2_with fail
          go_ret2
          exact .inr ⟨⟨s[k], mem_at s k hkk, HF.out⟩, rfl, hbel⟩
      · have HF : Hid (figVal 16 s[k].toNat = some x) := hf1
        have hx := figVal_lt hf1
        clear hf1
        rcases hf2 : figVal 16 s[k + 1].toNat with _ | y
        · have HG : Hid (figVal 16 s[k + 1].toNat = none) := hf2
          clear hf2
          go_wp2_with fail
          refine (value_yes s[k] x HF.out _).mono ?_
          rintro e w1 ⟨rfl, rfl⟩
          go_wp2_with fail
          refine (value_no s[k + 1] HG.out _).mono ?_
          rintro e w1 ⟨rfl, rfl⟩
          go_wp2_with fail
          go_ret2
          exact .inr ⟨⟨s[k + 1], mem_at s (k + 1) hlt, HG.out⟩, rfl, hbel⟩
        · have HG : Hid (figVal 16 s[k + 1].toNat = some y) := hf2
          have hy := figVal_lt hf2
          clear hf2
          have HX : Hid (Vals 16 (s.data.toList.take (k + 2)) (d ++ [x, y])) := by
            have := (HD.out.snoc hkk HF.out).snoc hlt HG.out
            rwa [List.append_assoc] at this
          have hjb : j ≤ 40000 := by have := HJ.out; omega
          have HU : Hid (unhexB (d ++ [x, y]) = unhexB d ++ [UInt8.ofNat (16 * x + y)]) := unhexB_snoc d j (by have := HJ.out; rw [HD.out.len, List.length_take]; simp; omega) x y
          go_wp2_with fail
          refine (value_yes s[k] x HF.out _).mono ?_
          rintro e w1 ⟨rfl, rfl⟩
          go_wp2_with fail
          refine (value_yes s[k + 1] y HG.out _).mono ?_
          rintro e w2 ⟨rfl, rfl⟩
          go_wp2_with (at_builtin; refine wpList_append_own _ rfl _ _ 36 rfl w.heap.size 5 i0 (.int .u8 0) 1 1 Try.underlying36 hi hz0 hz1 hz2 rfl (by decide) _ _ _ rfl (hown.alloc _) ⟨w2.heap.size, 0, none⟩ 1 1 [Value.int .u8 (16 * (x : Int) + y)] rfl rfl (one_new _ _ _) (by intro u' hu'; simp at hu'; subst hu'; rfl) (by unfold maxLen; omega) (by omega) (by simp; omega) ?_)
          intro v3 w3 hown3 hgrow hnil
          have hnx : Below w.heap.size w w3 := (hbel.alloc hsz _).grown hgrow (by simp; omega) (fun k hk => (hown.lt k hk).1)
          have HV : Hid (v3 ≠ .slice none 0 0) := hnil
          have ho : w3.ownsRow w.heap.size 5 1 v3 (j + 1) (Lib.byteCells (unhexB (d ++ [x, y]))) := by
            rw [HU.out, bc_app, bc_one _ (by omega)]
            simpa using hown3
          clear hgrow hnil hown hown3
          go_wp2
          go_roundg (n - (j + 1))
          case measure => have := HJ.out; omega
          case rel => exact ⟨j + 1, k + 2, d ++ [x, y], by have := HJ.out; omega, by have := HJ.out; omega, by go_num, HX.out, HV.out, ho, hnx⟩
    · have hks : k = s.size := by have := HJ.out; omega
      have hnl : ¬ ((k : Int) < s.size) := by omega
      have HVv : Hid (Vals 16 s.data.toList d) := by
        have := HD.out
        rw [hks, List.take_of_length_le (by simp)] at this
        exact this
      have hjl : (unhexB d).length = j := unhexB_len d j (by rw [HVv.out.len]; have := HJ.out; simp; omega)
      have hnn := HN.out
      clear hks hlt HN
      rw [← hjl] at hown
      have HJL := hjl
      clear hjl
      obtain ⟨L, hL⟩ : ∃ L, L = unhexB d := ⟨_, rfl⟩
      rw [← hL] at hown
      have HL : Hid (L = unhexB d) := hL
      clear hL HJL
      rcases hown.2 with ⟨h0, -⟩ | ⟨g, cap, cur, rfl, -, -, -, -, -, -⟩
      · exact absurd h0 hnn
      · have hcv := run_convert_bytes_back (P := Try.prog) wr 36 9 5 ⟨g, 0, none⟩ cap L Try.underlying36 Try.underlying5 Try.underlying9 (fun j hj => hown.cells (g := g) rfl j _ (by simp [Lib.byteCells, hj]))
        clear hown hnn
        go_wp2
        go_ret2
        have hL := HL.out
        subst hL
        exact .inl ⟨d, HVv.out, rfl, hbel⟩

theorem bc_intCells (d : List Nat) (j : Nat) (h : j < d.length) : (intCells d)[j]? = some (Value.int .i64 (d[j] : Int)) := by simp [intCells, h]

set_option maxHeartbeats 1000000 in
theorem implUnhex_bad (s : ByteArray) (n : Nat) (hn : s.size = 2 * n) (hs : s.size ≤ 40000) (hf : ∃ b ∈ s.data.toList, figVal 16 b.toNat = none) (w : World) :
    Calls Try.prog 21 #[.string s] w fun e w' => e = .returned (.tuple #[.string ByteArray.empty, .bool false]) ∧ Below w.heap.size w w' := by
  have h2 : ((s.size : Int) % 2 != 0) = false := by simp; omega
  have HF : Hid (∃ b ∈ s.data.toList, figVal 16 b.toNat = none) := hf
  clear hn hf
  go_enter Try.func21, Try.ntmps21
  go_wp2_with (go_at_call 29; refine (values_no (base := 16) (by omega) hs HF.out _).mono ?_; rintro e w1 ⟨rfl, hb1⟩)
  go_ret2
  exact ⟨rfl, hb1⟩

theorem keepS {wr w2 : World} {o : Obj} {row : Option Nat} {g k : Nat} {x y : Value} (hgrow : ((wr.alloc o).drew).grownBy w2 row) (hgw : g < wr.heap.size) (hne : some g ≠ row)
    (hc1 : wr.cell? ⟨g, k, none⟩ = some x) (hc2 : wr.cell? ⟨g, k + 1, none⟩ = some y) : w2.cell? ⟨g, k, none⟩ = some x ∧ w2.cell? ⟨g, k + 1, none⟩ = some y := by
  have h0 : g < ((wr.alloc o).drew).heap.size := by show g < (wr.heap.push o).size; simp; omega
  refine ⟨?_, ?_⟩
  · rw [hgrow.cell_far ⟨g, k, none⟩ h0 hne]
    exact (World.cell?_of_block (w := wr) (Below.heap_alloc wr o g hgw)).trans hc1
  · rw [hgrow.cell_far ⟨g, k + 1, none⟩ h0 hne]
    exact (World.cell?_of_block (w := wr) (Below.heap_alloc wr o g hgw)).trans hc2

set_option maxHeartbeats 1000000 in
theorem implUnhex_good (s : ByteArray) (n : Nat) (hn : s.size = 2 * n) (hs : s.size ≤ 40000) (d : List Nat) (hd : Vals 16 s.data.toList d) (w : World) :
    Calls Try.prog 21 #[.string s] w fun e w' => e = .returned (.tuple #[.string ⟨(unhexB d).toArray⟩, .bool true]) ∧ Below w.heap.size w w' := by
  obtain ⟨i0, hi, hz0, hz1, hz2⟩ := info_parts infoByte
  have h2 : ((s.size : Int) % 2 != 0) = false := by simp; omega
  have hdl : d.length = 2 * n := by rw [hd.len]; simpa using hn
  have HD : Hid (Vals 16 s.data.toList d) := hd
  have HNn : Hid (s.size = 2 * n ∧ d.length = 2 * n) := ⟨hn, hdl⟩
  have hdb : d.length ≤ 40000 := by omega
  clear hn hd hdl
  go_enter Try.func21, Try.ntmps21
  go_wp2_with (go_at_call 29; refine (values_yes (base := 16) (by omega) hs HD.out _).mono ?_; rintro e w1 ⟨v, rfl, hvn, hown1, hb1⟩; refine Hid.out ?_)
  refine hidI ?_
  have hlt16 := HD.out.lt
  rcases hown1.2 with ⟨h0, -⟩ | ⟨g, cap, cur, rfl, hgb, hgh, -, -, -, -⟩
  · exact absurd h0 hvn
  have hcell : ∀ j (hj : j < d.length), w1.cell? ⟨g, j, none⟩ = some (.int .i64 (d[j] : Int)) := fun j hj => by
    have := hown1.cells (g := g) rfl j _ (bc_intCells d j hj)
    rwa [addr_add] at this
  have hgs : g < w1.heap.size := by
    rcases Nat.lt_or_ge g w1.heap.size with h | h
    · exact h
    · rw [Array.getElem?_eq_none h] at hgh; cases hgh
  have HC : Hid (∀ j (hj : j < d.length), w1.cell? ⟨g, j, none⟩ = some (.int .i64 (d[j] : Int))) := hcell
  have HB : Hid (Below w.heap.size w w1) := hb1
  have H16 : Hid (∀ x ∈ d, x < 16) := hlt16
  clear hcell hown1 hb1 hvn hgh hlt16
  go_wp2_with (at_make; refine wpList_make_own _ rfl _ _ 36 rfl w1.heap.size 5 i0 (.int .u8 0) 1 Try.underlying36 hi hz0 hz1 _ _ _ n rfl rfl (by have := HNn.out; omega) (by have := HNn.out; rw [hz2]; omega) (by have := HNn.out; unfold maxLen; omega) (Nat.le_refl _) ?_)
  intro w2 hown2 hgrow2
  have hbel2 : Below w1.heap.size w1 w2 := (Below.refl _ _).grown hgrow2 (Nat.le_refl _) (fun k hk => by cases hk)
  clear hgrow2
  go_wp2
  go_loopg [6, 7] n (fun gg v z wr => ∃ (j k : Nat), j + gg = n ∧ k = 2 * j ∧ z = .int .i64 k ∧ v ≠ .slice none 0 0 ∧ wr.ownsRow w1.heap.size 5 1 v j (Lib.byteCells (unhexB (d.take k))) ∧ Below w1.heap.size w1 wr)
  case atStart => exact ⟨0, 0, by omega, rfl, rfl, by simp, hown2, hbel2⟩
  case round =>
    clear hown2 hbel2
    obtain ⟨j, k, hj, hk, rfl, hnn, hown, hbel⟩ := hrel
    have HJ : Hid (j + gk = n ∧ k = 2 * j ∧ s.size = 2 * n ∧ d.length = 2 * n) := ⟨hj, hk, HNn.out⟩
    have HN : Hid (u6 ≠ .slice none 0 0) := hnn
    have hsz := hbel.size
    by_cases hlt : k + 1 < d.length
    · have hkk : k < d.length := by omega
      have hk1 : (k : Int) < d.length := by omega
      have hk2 : (k : Int) + 1 < d.length := by omega
      have hk0 : (0 : Int) ≤ (k : Int) := by omega
      have hwr : IntKind.i64.wrap ((k : Int) + 1) = (k : Int) + 1 := by rw [IntKind.wrap_i64]; omega
      have hx := H16.out _ (List.getElem_mem hkk)
      have hy := H16.out _ (List.getElem_mem hlt)
      have HU := unhexB_two d j k hk hlt
      have hc1 : wr.cell? ⟨g, k, none⟩ = some (.int .i64 (d[k] : Int)) := (hbel.cell (p := ⟨g, k, none⟩) hgs).trans (HC.out k hkk)
      have hc2 : wr.cell? ⟨g, k + 1, none⟩ = some (.int .i64 (d[k + 1] : Int)) := (hbel.cell (p := ⟨g, k + 1, none⟩) hgs).trans (HC.out (k + 1) hlt)
      obtain ⟨x, hX⟩ : ∃ x, x = d[k] := ⟨_, rfl⟩
      obtain ⟨y, hY⟩ : ∃ y, y = d[k + 1] := ⟨_, rfl⟩
      rw [← hX] at hc1 hx HU
      rw [← hY] at hc2 hy HU
      have HUU : Hid (unhexB (d.take (k + 2)) = unhexB (d.take k) ++ [UInt8.ofNat (16 * x + y)]) := HU
      have hjb : j ≤ 40000 := by omega
      obtain ⟨D, hD⟩ : ∃ D, D = unhexB (d.take k) := ⟨_, rfl⟩
      rw [← hD] at hown
      have HDD : Hid (D = unhexB (d.take k)) := hD
      clear hj hk hnn HU hX hY hD
      have hw1 : IntKind.i64.wrap ((x : Int) * 16) = (x : Int) * 16 := by rw [IntKind.wrap_i64]; omega
      have hw2 : IntKind.i64.wrap ((x : Int) * 16 + y) = (x : Int) * 16 + y := by rw [IntKind.wrap_i64]; omega
      have hw3 : IntKind.u8.wrap ((x : Int) * 16 + y) = (x : Int) * 16 + y := by rw [IntKind.wrap_u8']; omega
      have hgw : g < wr.heap.size := by omega
      have hk3 : (0 : Int) ≤ (k : Int) + 1 := by omega
      have hne : some g ≠ u6.ownBlock := fun h => by have := (hown.lt g h.symm).1; omega
      go_wp2_with fail
      go_region_held3 (fun w' => w'.cell? ⟨g, k, none⟩ = some (.int .i64 (x : Int)) ∧ w'.cell? ⟨g, k + 1, none⟩ = some (.int .i64 (y : Int))) (first | exact keepS hgrow hgw hne hc1 hc2 | go_keep) (first | (refine step_append_lies _ ?_ (.tmp 34) (.tmp 47) 36 ?_ w1.heap.size 5 i0 (.int .u8 0) 1 1 Try.underlying36 hi hz0 hz1 hz2 ?_ ?_ u6 j (Lib.byteCells D) ?_ ?_ ⟨wr.heap.size, 0, none⟩ 1 1 [Value.int .u8 ((x : Int) * 16 + y)] ?_ ?_ ?_ ?_ ?_ ?_ ?_ ?_ (wr.heap.size + 1) ?_ ?_; rfl; rfl; rfl; omega; rfl; (first | exact (hown.alloc _).drew | exact hown.drew.alloc _); rfl; rfl; exact one_new wr _ _; (intro u' hu'; simp at hu'; subst hu'; rfl); omega; (unfold maxLen; omega); omega; (simp; omega); (simp); intro g2 cap2 w3 hown3 hgrow hat hglt))
      have hnx : Below w1.heap.size w1 w3 := ((hbel.alloc hsz _).drew).grown hgrow (by simp; omega) (fun k hk => (hown.lt k hk).1)
      have ho : w3.ownsRow w1.heap.size 5 1 (.slice (some ⟨g2, 0, none⟩) (j + 1) cap2) (j + 1) (Lib.byteCells (unhexB (d.take (k + 2)))) := by
        rw [HUU.out, ← HDD.out, bc_app, bc_one _ (by omega)]
        have e : ((16 * x + y : Nat) : Int) = (x : Int) * 16 + y := by omega
        rw [e]; exact hown3
      clear hgrow hown hown3 hat hglt hbel hc1 hc2 hne hw1 hw2 hw3
      go_wp2
      go_roundg (n - (j + 1))
      case measure => have := HJ.out; omega
      case rel => exact ⟨j + 1, k + 2, by have := HJ.out; omega, by have := HJ.out; omega, by go_num, by simp, ho, hnx⟩
    · have hks : k = d.length := by have := HNn.out; omega
      have hnl : ¬ ((k : Int) < d.length) := by omega
      have hjl : (unhexB d).length = j := unhexB_len d j (by have := HNn.out; omega)
      rw [hks, List.take_of_length_le (Nat.le_refl _)] at hown
      clear hks hlt HN hj hk
      rw [← hjl] at hown
      clear hjl
      obtain ⟨L, hL⟩ : ∃ L, L = unhexB d := ⟨_, rfl⟩
      rw [← hL] at hown
      have HL : Hid (L = unhexB d) := hL
      clear hL
      rcases hown.2 with ⟨h0, -⟩ | ⟨g2, cap2, cur2, rfl, -, -, -, -, -, -⟩
      · exact absurd h0 hnn
      · have hcv := run_convert_bytes_back (P := Try.prog) wr 36 9 5 ⟨g2, 0, none⟩ cap2 L Try.underlying36 Try.underlying5 Try.underlying9 (fun j hj => hown.cells (g := g2) rfl j _ (by simp [Lib.byteCells, hj]))
        clear hown hnn
        go_wp2
        go_ret2
        have hL := HL.out
        subst hL
        exact ⟨rfl, HB.out.trans (hbel.mono HB.out.size)⟩
end Go.Proofs.Ytjgakehacioagaa
