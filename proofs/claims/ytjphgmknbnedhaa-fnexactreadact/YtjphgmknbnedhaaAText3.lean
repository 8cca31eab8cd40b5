/- The text of an act, as the specification makes it: its pieces. -/
import Derived.Test.YtjphgmknbnedhaaAText2
namespace Go.Proofs.Ytjphgmknbnedhaa
set_option maxRecDepth 100000
set_option linter.unusedVariables false
open Go.RowKit

/-- A text of bytes. -/
def ba (l : List UInt8) : ByteArray := ⟨l.toArray⟩
theorem ba_size (l : List UInt8) : (ba l).size = l.length := by show l.toArray.size = _; simp
theorem ba_add (a b : List UInt8) : ba a ++ ba b = ba (a ++ b) := by
  apply ByteArray.ext
  apply Array.ext'
  simp [ba]
theorem ba_of (s : ByteArray) : ba s.data.toList = s := by
  apply ByteArray.ext
  apply Array.ext'
  simp [ba]
theorem add_ba (a b : List UInt8) (h : a.length + b.length ≤ 1073741824) (w : World) : (Op.stringOp .add (ba a) (ba b)).run Try.prog w = .ok (.string (ba (a ++ b))) w := by
  rw [run_string_add_sum (P := Try.prog) w (ba a) (ba b) (by rw [ba_size, ba_size]; omega), ba_add]
theorem var_ba (x : Int) (h0 : 0 ≤ x) (h1 : x ≤ 1000000000) (w : World) :
    Calls Try.prog 135 #[.int .i64 x] w fun e w' => e = .returned (.string (ba (varB x.toNat))) ∧ Below w.heap.size w w' := l01Var_int x h0 h1 w
theorem varLen {x : Int} (h0 : 0 ≤ x) (h1 : x ≤ 1000000000) : (varB x.toNat).length ≤ 5 := varB_len5 (by omega)

set_option maxHeartbeats 2000000 in
theorem dotT_calls (r s : Int) (hr : 0 ≤ r ∧ r ≤ 1000000000) (hs : 0 ≤ s ∧ s ≤ 1000000000) (w : World) :
    Calls Try.prog 134 #[.agg #[.int .i64 r, .int .i64 s]] w fun e w' => e = .returned (.string (ba (varB r.toNat ++ varB s.toNat))) ∧ Below w.heap.size w w' := by
  have l1 := varLen hr.1 hr.2
  have l2 := varLen hs.1 hs.2
  have HV1 : Hid (∀ wx, Calls Try.prog 135 #[.int .i64 r] wx fun e w' => e = .returned (.string (ba (varB r.toNat))) ∧ Below wx.heap.size wx w') := fun wx => var_ba r hr.1 hr.2 wx
  have HV2 : Hid (∀ wx, Calls Try.prog 135 #[.int .i64 s] wx fun e w' => e = .returned (.string (ba (varB s.toNat))) ∧ Below wx.heap.size wx w') := fun wx => var_ba s hs.1 hs.2 wx
  generalize varB r.toNat = R at *
  generalize varB s.toNat = Q at *
  have hadd := fun wx => add_ba R Q (by omega) wx
  obtain ⟨W, hW⟩ : ∃ W, W = w.alloc (.cells #[.int .i64 r, .int .i64 s] 33) := ⟨_, rfl⟩
  have hR : Row W w.heap.size #[.int .i64 r, .int .i64 s] 33 := by rw [hW]; exact row_new _ _ _ rfl
  have HBW : Hid (Below w.heap.size w W) := by rw [hW]; exact (Below.refl _ _).alloc (Nat.le_refl _) _
  have HW : Hid (w.alloc (.cells #[.int .i64 r, .int .i64 s] 33) = W) := hW.symm
  have HC : Hid (∀ wx, Below W.heap.size W wx → wx.cell? ⟨w.heap.size, 0, none⟩ = some (.int .i64 r) ∧ wx.cell? ⟨w.heap.size, 1, none⟩ = some (.int .i64 s)) := fun wx h => ⟨(hR.next h).cell 0 rfl, (hR.next h).cell 1 rfl⟩
  have hW0 : Below W.heap.size W W := Below.refl _ _
  have hWd : Below W.heap.size W W.drew := hW0.drew
  obtain ⟨c0, c1⟩ := HC.out _ hW0
  have SS := HC.out _ hWd
  have tok : True := trivial
  clear hW hR l1 l2
  go_enter Try.func134, Try.ntmps134
  go_wp2
  rw [HW.out]
  go_region_held3 (fun w' => w'.cell? ⟨w.heap.size, 0, none⟩ = some (.int .i64 r) ∧ w'.cell? ⟨w.heap.size, 1, none⟩ = some (.int .i64 s)) (first | exact SS | exact SS1 | exact SS2 | go_keep) (first
    | (go_at_call 135; have _t := tok; refine (HV1.out _).mono ?_; clear tok; rintro e w1 ⟨rfl, hb1⟩; have hV1 : Below W.heap.size W w1 := hWd.trans (hb1.mono hWd.size); have SS1 := HC.out _ hV1; clear hb1)
    | (go_at_call 135; refine (HV2.out _).mono ?_; rintro e w2 ⟨rfl, hb2⟩; have hV2 : Below W.heap.size W w2 := hV1.trans (hb2.mono hV1.size); have SS2 := HC.out _ hV2; clear hb2))
  go_wp2
  go_ret
  exact ⟨rfl, HBW.out.trans (hV2.mono HBW.out.size)⟩

theorem shortT_calls (s : ByteArray) (h : s.size ≤ 1000000) (w : World) :
    Calls Try.prog 137 #[.string s] w fun e w' => e = .returned (.string (ba (varB s.size ++ s.data.toList))) ∧ Below w.heap.size w w' := by
  have l1 := varB_len5 (n := s.size) (by omega)
  have HV1 : Hid (∀ wx, Calls Try.prog 135 #[.int .i64 (s.size : Int)] wx fun e w' => e = .returned (.string (ba (varB s.size))) ∧ Below wx.heap.size wx w') := fun wx => l01Var_calls s.size (by omega) wx
  have hz : s.data.toList.length = s.size := by simp
  have hadd : ∀ wx, (Op.stringOp .add (ba (varB s.size)) s).run Try.prog wx = .ok (.string (ba (varB s.size ++ s.data.toList))) wx := fun wx => by
    have := add_ba (varB s.size) s.data.toList (by omega) wx
    rwa [ba_of] at this
  clear hz l1
  generalize ba (varB s.size ++ s.data.toList) = R at *
  generalize ba (varB s.size) = Q at *
  go_enter Try.func137, Try.ntmps137
  go_wp2_with (go_at_call 135; refine (HV1.out _).mono ?_; rintro e w1 ⟨rfl, hb1⟩)
  go_ret
  exact ⟨rfl, hb1⟩

set_option maxHeartbeats 1000000 in
theorem knowT_calls (l : List Int) (v : Value) (w : World) (hn : l.length ≤ 1000) (hx : ∀ x ∈ l, 0 ≤ x ∧ x ≤ 1000000000) (hv : IntsAt w v l) :
    Calls Try.prog 136 #[v] w fun e w' => e = .returned (.string (ba (numsB l))) ∧ Below w.heap.size w w' := by
  have HX : Hid (∀ x ∈ l, 0 ≤ x ∧ x ≤ 1000000000) := hx
  obtain ⟨aa, ca, rfl, hg⟩ := hv
  obtain ⟨n, hln⟩ : ∃ n, n = l.length := ⟨_, rfl⟩
  have HL : Hid (n = l.length) := hln
  have HG : Hid (0 < l.length → ∃ g, aa = some ⟨g, 0, none⟩ ∧ g < w.heap.size ∧ ∀ j (h : j < l.length), w.cell? ⟨g, j, none⟩ = some (.int .i64 (l[j]))) := hg
  rw [← hln]
  rw [← hln] at hn
  clear hg hx hln
  go_enter Try.func136, Try.ntmps136
  go_wp2
  go_loopw [3, 4] (fun y z wr => ∃ k : Nat, k ≤ n ∧ z = .int .i64 k ∧ y = .string (ba (numsB (l.take k))) ∧ Below w.heap.size w wr) (fun _ z _ => n - (intOf z).toNat)
  case atStart => exact ⟨0, Nat.zero_le _, rfl, rfl, Below.refl _ _⟩
  case round =>
    obtain ⟨k, hk, rfl, rfl, hbel⟩ := hrel
    have hlen := numsB_len (xs := l.take k) (fun x hx => HX.out x (List.mem_of_mem_take hx))
    have ht : (l.take k).length ≤ 1000 := by rw [List.length_take]; omega
    by_cases hlt : k < n
    · have hkl : k < l.length := by rw [← HL.out]; exact hlt
      obtain ⟨g, rfl, hg1, hc⟩ := HG.out (by omega)
      have hc1 : wr.cell? ⟨g, k, none⟩ = some (.int .i64 (l[k])) := (hbel.cell (p := ⟨g, k, none⟩) hg1).trans (hc k hkl)
      have hx1 := HX.out (l[k]) (List.getElem_mem hkl)
      have HS : Hid (numsB (l.take (k + 1)) = numsB (l.take k) ++ varB (l[k]).toNat) := numsB_snoc l k hkl
      have hv5 := varLen hx1.1 hx1.2
      generalize l[k] = x at *
      have HV1 : Hid (∀ wx, Calls Try.prog 135 #[.int .i64 x] wx fun e w' => e = .returned (.string (ba (varB x.toNat))) ∧ Below wx.heap.size wx w') := fun wx => var_ba x hx1.1 hx1.2 wx
      generalize varB x.toNat = Q at *
      generalize numsB (l.take k) = P at *
      have hadd := fun wx => add_ba P Q (by omega) wx
      have hk1 : (k : Int) < n := by omega
      have hk0 : (0 : Int) ≤ k := by omega
      have HB : Hid (Below w.heap.size w wr) := hbel
      clear hc hkl hbel hv5 hlen hx1
      go_wp2_with (go_at_call 135; refine (HV1.out _).mono ?_; rintro e w1 ⟨rfl, hb1⟩)
      have HB1 : Hid (Below w.heap.size w w1) := HB.out.trans (hb1.mono HB.out.size)
      clear hb1
      go_roundw
      case rel => exact ⟨k + 1, by omega, by go_num, by rw [HS.out], HB1.out⟩
      case measure => simp [intOf]; omega
    · have hk1 : ¬ ((k : Int) < n) := by omega
      have HE : Hid (l.take k = l) := List.take_of_length_le (by have := HL.out; omega)
      clear hlen ht
      go_wp2
      go_ret
      exact ⟨by show Ending.returned (.string (ba (numsB (l.take k)))) = _; rw [HE.out], hbel⟩

end Go.Proofs.Ytjphgmknbnedhaa
