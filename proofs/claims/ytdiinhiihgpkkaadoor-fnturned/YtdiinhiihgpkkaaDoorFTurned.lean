/- What the law on turned texts does. -/
import Derived.Test.YtdiinhiihgpkkaaDoorSTurn
import Derived.Test.YtdiinhiihgpkkaaDoorCText
import Derived.Lib.ConvBytes
import Derived.BigRegion
namespace Go.Proofs.YtdiinhiihgpkkaaDoor
open Go.RowKit

/-- How many bytes a slice has. -/
theorem CodeIs.form {w : World} {B : Nat} {v : Value} {n : Nat} (h : CodeIs w B v n) : ∃ a cap, v = .slice a n cap := by
  rcases h with ⟨rfl, a, cap, rfl⟩ | ⟨b, off, cap, rfl, -⟩
  · exact ⟨a, cap, rfl⟩
  · exact ⟨_, cap, rfl⟩
theorem CodeIs.below {w w' : World} {B : Nat} {v : Value} {n : Nat} (h : CodeIs w B v n) (hb : Below B w w') : CodeIs w' B v n := by
  rcases h with h | ⟨b, off, cap, rfl, hbb, hx⟩
  · exact .inl h
  · refine .inr ⟨b, off, cap, rfl, hbb, fun j hj => ?_⟩
    obtain ⟨y, hy1, hy2⟩ := hx j hj
    exact ⟨y, hy1, (hb.cell (p := ⟨b, off + j, none⟩) hbb).trans hy2⟩

/-- A text's own bytes, in memory of their own. -/
theorem bytes_of (w : World) (s : ByteArray) : ∃ (w' : World) (cap : Nat), (convert 9 22 (.string s)).run Tryd.prog w = .ok (.slice (some ⟨w.heap.size, 0, none⟩) s.size cap) w' ∧ Below w.heap.size w w' ∧ w.heap.size < w'.heap.size ∧
    (∀ j (hj : j < s.size), w'.cell? ⟨w.heap.size, j, none⟩ = some (.int .u8 (s[j].toNat : Int))) ∧ (∀ j, j < s.size → w'.frozen? ⟨w.heap.size, j, none⟩ = false) := by
  refine ⟨Lib.bytesWorld w 5 s, grownCap w s.size 0 5, Lib.run_convert_string_bytes w 9 22 5 s Tryd.underlying9 Tryd.underlying22 Tryd.underlying5, ?_, ?_, ?_, ?_⟩
  · exact ⟨rfl, rfl, rfl, by rw [Lib.bytesWorld_size]; omega, fun k hk => Lib.bytesWorld_at_old w 5 s k hk⟩
  · rw [Lib.bytesWorld_size]; omega
  · intro j hj
    rw [Lib.bytesWorld_cell w 5 s j hj]
    congr 3
    simp [List.getD, hj, ByteArray.getElem_eq_getElem_data]
  · intro j hj
    simp only [World.frozen?, Lib.bytesWorld_at_new]
    have : s.size ≤ (Lib.bytesCells w 5 s).size := by unfold Lib.bytesCells; simp
    simp
    omega

theorem cell_set {w : World} {g i : Nat} {v x : Value} (h : w.cell? ⟨g, i, none⟩ = some v) : (w.setCell ⟨g, i, none⟩ x).cell? ⟨g, i, none⟩ = some x := by
  unfold World.cell? at h ⊢
  simp only [World.setCell, Array.getElem?_modify, if_true] at h ⊢
  split at h
  · rename_i c t f hb
    simp only [Option.isSome_none, Bool.false_eq_true, if_false] at h
    have hlt := (Array.getElem?_eq_some_iff.1 h).1
    simp [hb, hlt]
  · cases h
theorem cell_set_ne {w : World} {g i j : Nat} {x : Value} (h : i ≠ j) : (w.setCell ⟨g, i, none⟩ x).cell? ⟨g, j, none⟩ = w.cell? ⟨g, j, none⟩ := by
  unfold World.cell?
  simp only [World.setCell, Array.getElem?_modify, if_true]
  cases hb : w.heap[g]? with
  | none => rfl
  | some o =>
    cases o with
    | cells c t f => simp [h]
    | _ => simp

theorem big_calls (a : Option Addr) (n cap : Nat) (w : World) :
    Calls Tryd.prog 8 #[.slice a n cap] w fun e w' => e = .returned (.bool (decide ((1048576 : Int) < n))) ∧ w' = w := by
  by_cases h : (1048576 : Int) < n
  · go_enter Tryd.func8, Tryd.ntmps8
    go_wp2
    go_ret
    exact ⟨by simp; omega, rfl⟩
  · go_enter Tryd.func8, Tryd.ntmps8
    go_wp2
    go_ret
    exact ⟨by simp; omega, rfl⟩

set_option maxHeartbeats 1000000 in
set_option maxRecDepth 100000 in
theorem fnTurned_walk (v : Value) (n : Nat) (hm : n ≤ maxLen) (w : World) (hc : CodeIs w w.heap.size v n) (ht : HalfTab w) :
    Calls Tryd.prog 3 #[v] w fun e w' => e = .returned (.bool true) ∧ Below w.heap.size w w' := by
  unfold maxLen at hm
  obtain ⟨a, cap, hv⟩ := hc.form
  by_cases hbig : (1048576 : Int) < n
  · subst hv
    have hd : decide ((1048576 : Int) < n) = true := by simp; omega
    go_enter Tryd.func3, Tryd.ntmps3
    go_wp2_with (go_at_call 8; refine (big_calls _ _ _ _).mono ?_; rintro e w1 ⟨rfl, rfl⟩)
    go_ret
    exact ⟨rfl, Below.refl _ _⟩
  · have hd : decide ((1048576 : Int) < n) = false := by simp; omega
    have hn : n ≤ 1048576 := by omega
    have HB : Hid (∀ wx, Calls Tryd.prog 8 #[v] wx fun e w' => e = .returned (.bool false) ∧ w' = wx) := by
      intro wx
      rw [hv, ← hd]; exact big_calls a n cap wx
    have H1 : Hid (Calls Tryd.prog 9 #[v] w fun e w' => ∃ L : List UInt8, L.length < 40 ∧ e = .returned (.string ⟨L.toArray⟩) ∧ Below w.heap.size w w') := sumTextD w.heap.size v n hn w (Nat.le_refl _) hc
    have H2 : Hid (∀ wx, Below w.heap.size w wx → Calls Tryd.prog 10 #[v] wx fun e w' => ∃ (u : Value) (d : List Nat), d.length = 12 ∧ (∀ x ∈ d, x < 10000) ∧ e = .returned u ∧ w'.ownsRow wx.heap.size 3 1 u 12 (intC d) ∧ Below wx.heap.size wx w') := fun wx hb => placesD w.heap.size v n hn wx hb.size (hc.below hb)
    have HT : Hid (∀ wx, Below w.heap.size w wx → HalfTab wx) := fun wx hb => ht.below hb
    clear hd hc hv hbig ht hm
    go_enter Tryd.func3, Tryd.ntmps3
    go_wp2_with (go_at_call 8; refine (HB.out _).mono ?_; rintro e w1 ⟨rfl, rfl⟩)
    refine H1.out.mono ?_
    rintro e w2 ⟨L, hL, rfl, hb2⟩
    obtain ⟨s, hs⟩ : ∃ s : ByteArray, s = ⟨L.toArray⟩ := ⟨_, rfl⟩
    have hss : s.size < 40 := by rw [hs]; simpa [ByteArray.size] using hL
    rw [← hs]
    clear hs hL H1 HB
    go_wp2_with fail
    refine (H2.out _ hb2).mono ?_
    rintro e w3 ⟨u, d, hd, hdx, rfl, hown, hb3⟩
    have hB3 := hb2.trans (hb3.mono hb2.size)
    have hown3 := own_base hown hb2.size
    clear hb2 hb3 H2 hown
    go_wp2_with fail
    refine (implSealed s (by omega) _ (HT.out _ hB3)).mono ?_
    rintro e w4 ⟨rfl, hb4⟩
    have hB4 := hB3.trans (hb4.mono hB3.size)
    have hown4 := hown3.kept (row := none) ⟨hb4.os, hb4.tape, hb4.output, hb4.size, fun k hk _ => hb4.block k hk⟩ (by
      cases u.ownBlock with
      | none => exact .inl rfl
      | some g => exact .inr (by simp))
    clear hB3 hown3 hb4
    have HUN : Hid (∀ wx, Below w1.heap.size w1 wx → Calls Tryd.prog 12 #[.string (sealB s)] wx fun e w' => e = .returned (.tuple #[.string s, .bool true]) ∧ Below wx.heap.size wx w') := by
      intro wx hb
      have h := implUnAll (sealB s) (by rw [seal_size]; unfold maxLen; omega) wx (HT.out _ hb)
      rw [un_seal s (by omega)] at h
      exact h
    have hTs := seal_size s
    have HTU : Hid (∀ (i : Nat) (y : UInt8) (t : ByteArray), i < s.size + 4 → (sealB s).data.toList[i]? ≠ some y → t.data.toList = (sealB s).data.toList.set i y → (unAll t).2 = false) := un_turned s
    obtain ⟨T, hT⟩ : ∃ T, T = sealB s := ⟨_, rfl⟩
    rw [← hT] at HUN hTs HTU ⊢
    clear hT
    go_wp2_with fail
    refine (HUN.out _ hB4).mono ?_
    rintro e w5 ⟨rfl, hb5⟩
    have hB5 := hB4.trans (hb5.mono hB4.size)
    have hown5 := hown4.kept (row := none) ⟨hb5.os, hb5.tape, hb5.output, hb5.size, fun k hk _ => hb5.block k hk⟩ (by
      cases u.ownBlock with
      | none => exact .inl rfl
      | some g => exact .inr (by simp))
    clear hB4 hown4 hb5
    have hne1 : ((T.size : Int) != (s.size : Int) + 4) = false := by simp; omega
    obtain ⟨w6, cap6, hcv, hb6, hs6, hc6, hf6⟩ := bytes_of w5 T
    have hB6 := hB5.trans (hb6.mono hB5.size)
    have hown6 := hown5.kept (row := none) ⟨hb6.os, hb6.tape, hb6.output, hb6.size, fun k hk _ => hb6.block k hk⟩ (by
      cases u.ownBlock with
      | none => exact .inl rfl
      | some g => exact .inr (by simp))
    obtain ⟨g6, hg6⟩ : ∃ g6, g6 = w5.heap.size := ⟨_, rfl⟩
    have hlt6 : u.ownBlock ≠ some g6 := fun h => by have := (hown5.lt g6 h).2; omega
    have hge6 : w1.heap.size ≤ g6 := by have := hB5.size; omega
    rw [← hg6] at hcv hs6 hc6 hf6
    clear hb6 hg6 hown5 hB5
    rcases hown6.2 with ⟨-, h0⟩ | ⟨gp, capp, cur, rfl, -, -, -, -, -, -⟩
    · omega
    obtain ⟨p0, p1, rest, rfl⟩ : ∃ p0 p1 rest, d = p0 :: p1 :: rest := by
      match d, hd with
      | a :: b :: r, _ => exact ⟨a, b, r, rfl⟩
    have hp0 : p0 < 10000 := hdx p0 (by simp)
    have hp1 : p1 < 10000 := hdx p1 (by simp)
    have hq0 : w6.cell? ⟨gp, 0, none⟩ = some (.int .i64 (p0 : Int)) := by have := hown6.cells (g := gp) rfl 0 _ rfl; simpa [Addr.add] using this
    have hq1 : w6.cell? ⟨gp, 1, none⟩ = some (.int .i64 (p1 : Int)) := by have := hown6.cells (g := gp) rfl 1 _ rfl; simpa [Addr.add] using this
    clear hdx hd hown6
    have hi6 : p0 % T.size < T.size := Nat.mod_lt _ (by omega)
    obtain ⟨i, hi⟩ : ∃ i, i = p0 % T.size := ⟨_, rfl⟩
    rw [← hi] at hi6
    have hmod : (p0 : Int) % ((s.size : Int) + 4) = (i : Int) := by rw [hi, hTs]; simp
    have HI : Hid (i = p0 % T.size) := hi
    clear hi
    have hci := hc6 i hi6
    have hfi := hf6 i hi6
    have HC6 : Hid (∀ j (hj : j < T.size), w6.cell? ⟨g6, j, none⟩ = some (.int .u8 (T[j].toNat : Int))) := hc6
    clear hc6 hf6
    go_wp2_with fail
    rw [hmod]
    have hb8 := T[i].toNat_lt
    obtain ⟨X, hX⟩ : ∃ X, X = T[i].toNat := ⟨_, rfl⟩
    have HX : Hid (X = T[i].toNat) := hX
    rw [← hX] at hb8 hci
    clear hX
    have hk : 1 + p1 % 255 < 256 := by omega
    have hxor := u8_xor_nat X (1 + p1 % 255) (by omega) hk
    have hYlt : X ^^^ (1 + p1 % 255) < 256 := Nat.xor_lt_two_pow (n := 8) (by omega) (by omega)
    have hYne : X ^^^ (1 + p1 % 255) ≠ X := fun h => by
      have h2 : (X ^^^ (1 + p1 % 255)) ^^^ X = X ^^^ X := by rw [h]
      rw [Nat.xor_comm X (1 + p1 % 255), Nat.xor_assoc, Nat.xor_self, Nat.xor_zero] at h2
      omega
    obtain ⟨Y, hY⟩ : ∃ Y, Y = X ^^^ (1 + p1 % 255) := ⟨_, rfl⟩
    rw [← hY] at hxor hYlt hYne
    clear hY
    have hxor' : bits .xor .u8 (X : Int) (1 + (p1 : Int) % 255) = (Y : Int) := by simpa using hxor
    clear hxor
    have hr : (p1 : Int).tmod 255 = (p1 : Int) % 255 := by rw [Int.tmod_eq_emod_of_nonneg (by omega)]
    have hw1 : IntKind.i64.wrap (1 + (p1 : Int) % 255) = 1 + (p1 : Int) % 255 := by rw [IntKind.wrap_i64]; omega
    have hw2 : IntKind.u8.wrap (1 + (p1 : Int) % 255) = 1 + (p1 : Int) % 255 := by rw [IntKind.wrap_u8']; omega
    have hi0 : (0 : Int) ≤ (i : Int) := by omega
    have hi1 : (i : Int) < (s.size : Int) + 4 := by omega
    clear HI HUN hmod
    go_region
    have hB7 : Below w1.heap.size w1 (w6.setCell ⟨g6, i, none⟩ (.int .u8 (Y : Int))).drew := (hB6.grown (set_grown w6 g6 i _).1 hB6.size (fun k hk => by cases hk; exact hge6)).drew
    obtain ⟨M, hM⟩ : ∃ M : List UInt8, M = T.data.toList.set i (UInt8.ofNat Y) := ⟨_, rfl⟩
    have hMl : M.length = s.size + 4 := by rw [hM, List.length_set]; simpa using hTs
    have hcM : ∀ j (hj : j < M.length), (w6.setCell ⟨g6, i, none⟩ (.int .u8 (Y : Int))).drew.cell? ((⟨g6, 0, none⟩ : Addr).add j) = some (.int .u8 (M[j].toNat : Int)) := by
      intro j hj
      rw [addr_add]
      show (w6.setCell ⟨g6, i, none⟩ (.int .u8 (Y : Int))).cell? ⟨g6, j, none⟩ = _
      by_cases hij : i = j
      · subst hij
        rw [cell_set hci]
        subst hM
        simp [Nat.mod_eq_of_lt hYlt]
      · rw [cell_set_ne hij, HC6.out j (by omega)]
        subst hM
        simp [hij, ByteArray.getElem_eq_getElem_data]
    have hcb := run_convert_bytes_back (P := Tryd.prog) (w6.setCell ⟨g6, i, none⟩ (.int .u8 (Y : Int))).drew 22 9 5 ⟨g6, 0, none⟩ cap6 M Tryd.underlying22 Tryd.underlying5 Tryd.underlying9 hcM
    rw [hMl] at hcb
    have hun : (unAll ⟨M.toArray⟩).2 = false := by
      refine HTU.out i (UInt8.ofNat Y) ⟨M.toArray⟩ (by omega) ?_ (by simpa using hM)
      have hT : T.data.toList[i]? = some T[i] := by simp [ByteArray.getElem_eq_getElem_data]
      rw [hT]
      intro h
      have h2 := congrArg UInt8.toNat (Option.some.inj h)
      rw [← HX.out] at h2
      simp [Nat.mod_eq_of_lt hYlt] at h2
      exact hYne h2.symm
    generalize (w6.setCell ⟨g6, i, none⟩ (.int .u8 (Y : Int))).drew = w7 at *
    have HU7 : Hid (Calls Tryd.prog 12 #[.string ⟨M.toArray⟩] w7 fun e w' => ∃ r : ByteArray, e = .returned (.tuple #[.string r, .bool false]) ∧ Below w7.heap.size w7 w') := by
      refine (implUnAll ⟨M.toArray⟩ (by show M.toArray.size ≤ maxLen; unfold maxLen; simp; omega) w7 (HT.out _ hB7)).mono ?_
      rintro e w' ⟨rfl, hb⟩
      exact ⟨_, by rw [hun], hb⟩
    obtain ⟨N, hN⟩ : ∃ N : ByteArray, N = ⟨M.toArray⟩ := ⟨_, rfl⟩
    rw [← hN] at hcb HU7
    clear hN hun hcM hM hMl hB6 hci hfi hq0 hq1 hxor' hw1 hw2 hr HC6 HTU HX hcv hs6 hge6 hlt6 hk hYlt hYne hb8
    go_wp2_with fail
    refine HU7.out.mono ?_
    rintro e w8 ⟨r, rfl, hb8⟩
    have hB8 := hB7.trans (hb8.mono hB7.size)
    clear hB7 hb8 HU7 hcb
    have ht8 := HT.out _ hB8
    have hlt := sumOf_lt s.data.toList
    have h1 : Calls Tryd.prog 14 #[.string s] w8 fun e w' => e = .returned (.int .u32 (sumOf s.data.toList : Nat)) ∧ w' = w8 := implOf s (by unfold maxLen; omega) w8 ht8
    have h2 : Calls Tryd.prog 13 #[.int .u32 (sumOf s.data.toList : Nat), .string ⟨#[120]⟩] w8 fun e w' => e = .returned (.int .u32 (sumMore (sumOf s.data.toList) [120] : Nat)) ∧ w' = w8 := implSumMore (sumOf s.data.toList) hlt ⟨#[120]⟩ (by show 1 ≤ maxLen; unfold maxLen; omega) w8 ht8
    have hadd := fun wx => run_string_add_sum (P := Tryd.prog) wx s ⟨#[120]⟩ (by show s.size + 1 ≤ _; omega)
    have h3 : Calls Tryd.prog 14 #[.string (s ++ ⟨#[120]⟩)] w8 fun e w' => e = .returned (.int .u32 (sumMore (sumOf s.data.toList) [120] : Nat)) ∧ w' = w8 := by
      have h := implOf (s ++ ⟨#[120]⟩) (by rw [ByteArray.size_append]; show s.size + 1 ≤ maxLen; unfold maxLen; omega) w8 ht8
      have e : (s ++ (⟨#[120]⟩ : ByteArray)).data.toList = s.data.toList ++ [120] := by simp
      rw [e, sumMore_app] at h
      exact h
    obtain ⟨A, hA⟩ : ∃ A : Nat, A = sumOf s.data.toList := ⟨_, rfl⟩
    rw [← hA] at h1 h2 h3
    obtain ⟨C, hC⟩ : ∃ C : Nat, C = sumMore A [120] := ⟨_, rfl⟩
    rw [← hC] at h2 h3
    obtain ⟨D, hD⟩ : ∃ D : ByteArray, D = s ++ ⟨#[120]⟩ := ⟨_, rfl⟩
    rw [← hD] at h3
    clear hA hC hlt ht8 HT
    rw [← hD] at hadd
    clear hD
    go_wp2_with fail
    refine h1.mono ?_
    rintro e w9 ⟨rfl, rfl⟩
    go_wp2_with fail
    refine h2.mono ?_
    rintro e w9 ⟨rfl, rfl⟩
    go_wp2_with fail
    refine h3.mono ?_
    rintro e w9 ⟨rfl, rfl⟩
    go_wp2
    go_ret
    exact ⟨rfl, hB8⟩
end Go.Proofs.YtdiinhiihgpkkaaDoor
