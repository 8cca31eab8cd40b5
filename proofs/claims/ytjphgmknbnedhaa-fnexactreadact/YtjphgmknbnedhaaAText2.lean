/- The writer of an act writes numbers and names; the act's text as the program makes it. -/
import Derived.Test.YtjphgmknbnedhaaAText1
import Derived.Test.YtjphgmknbnedhaaKInts
namespace Go.Proofs.Ytjphgmknbnedhaa
set_option maxRecDepth 100000
set_option linter.unusedVariables false
open Go.RowKit

theorem Keeps.refl (b : Nat) (w : World) : Keeps b w w := fun _ _ _ _ => rfl
theorem Keeps.trans {b : Nat} {w w1 w2 : World} (h : Keeps b w w1) (k : Keeps b w1 w2) (hs : w.heap.size ≤ w1.heap.size) : Keeps b w w2 := fun j hj hb hn => by
  have e := h j hj hb hn
  rw [k j (Nat.lt_of_lt_of_le hj hs) hb (by intro c f; rw [e]; exact hn c f), e]
theorem Keeps.below {b : Nat} {w w' : World} (h : Below w.heap.size w w') : Keeps b w w' := fun k hk _ _ => h.block k hk
theorem Row.keeps {b : Nat} {w w' : World} {g : Nat} {cs : Array Value} {T : TypeId} (h : Row w g cs T) (hk : Keeps b w w') (hg : g ≠ b) (hT : T ≠ 5) : Row w' g cs T :=
  (hk g h.lt hg (fun c f e => by rw [h] at e; cases e; exact hT rfl)).trans h

theorem WrAt.below {B b : Nat} {l : List UInt8} {w w' : World} (h : WrAt B b l w) (hb : Below w.heap.size w w') : WrAt B b l w' := by
  have go : ∀ p, Lib.BuilderAt 143 5 B b p (Lib.byteCells l) w → Lib.BuilderAt 143 5 B b p (Lib.byteCells l) w' := by
    rintro p ⟨h1, v, h2, h3, h4⟩
    exact ⟨h1, v, (hb.block b (Array.getElem?_eq_some_iff.1 h2).1).trans h2, own_below h3 hb, h4⟩
  rcases h with h | h
  · exact .inl (go _ h)
  · exact .inr (go _ h)
theorem WrAt.base {B b : Nat} {l : List UInt8} {w : World} (h : WrAt B b l w) : B ≤ b := by rcases h with h | h <;> exact h.1
theorem WrAt.lt {B b : Nat} {l : List UInt8} {w : World} (h : WrAt B b l w) : b < w.heap.size := by rcases h with h | h <;> exact Lib.BuilderAt.lt h
theorem wrAt_new (w : World) {b : Nat} (hb : b = w.heap.size) : WrAt b b [] (w.alloc (.cells #[.pointer none, .slice none 0 0] 143)) := by
  subst hb
  exact .inl ⟨Nat.le_refl _, .slice none 0 0, (MapKept.heap_alloc w _).1, ⟨rfl, .inl ⟨rfl, rfl⟩⟩, by simp [Value.ownBlock]⟩

theorem varB_len5 {n : Nat} (h : n ≤ 1000000000) : (varB n).length ≤ 5 := by
  by_cases h1 : n < 128
  · rw [varB_small h1]; simp
  rw [varB_big h1]
  by_cases h2 : n / 128 < 128
  · rw [varB_small h2]; simp
  rw [varB_big h2]
  by_cases h3 : n / 128 / 128 < 128
  · rw [varB_small h3]; simp
  rw [varB_big h3]
  by_cases h4 : n / 128 / 128 / 128 < 128
  · rw [varB_small h4]; simp
  rw [varB_big h4, varB_small (by omega)]
  simp

/-- The bytes of numbers. -/
def numsB (xs : List Int) : List UInt8 := xs.flatMap fun x => varB x.toNat
theorem numsB_len {xs : List Int} (h : ∀ x ∈ xs, 0 ≤ x ∧ x ≤ 1000000000) : (numsB xs).length ≤ 5 * xs.length := by
  induction xs with
  | nil => simp [numsB]
  | cons a r ih =>
    have h1 := ih (fun x hx => h x (by simp [hx]))
    have h2 := varB_len5 (n := a.toNat) (by have := h a (by simp); omega)
    unfold numsB at *
    simp only [List.flatMap_cons, List.length_append, List.length_cons]
    omega
theorem numsB_snoc (xs : List Int) (k : Nat) (h : k < xs.length) : numsB (xs.take (k + 1)) = numsB (xs.take k) ++ varB (xs[k]).toNat := by
  unfold numsB
  rw [List.take_succ_eq_append_getElem h, List.flatMap_append]
  simp only [List.flatMap_cons, List.flatMap_nil, List.append_nil]

set_option maxHeartbeats 2000000 in
theorem numbers_calls (B b : Nat) (l : List UInt8) (xs : List Int) (v : Value) (w : World) (h : WrAt B b l w) (hB : B ≤ w.heap.size) (hl : l.length ≤ 1000000) (hn : xs.length ≤ 1000) (hx : ∀ x ∈ xs, 0 ≤ x ∧ x ≤ 1000000000)
    (hs : ∀ wx, Below B w wx → Keeps b w wx → IntsAt wx v xs) :
    Calls Try.prog 119 #[.pointer (some ⟨b, 0, none⟩), v] w fun e w' => e = .returned (.tuple #[]) ∧ WrAt B b (l ++ numsB xs) w' ∧ Below B w w' ∧ Keeps b w w' := by
  have HS : Hid (∀ wx, Below B w wx → Keeps b w wx → IntsAt wx v xs) := hs
  obtain ⟨aa, ca, rfl, -⟩ := hs w (Below.refl _ _) (Keeps.refl _ _)
  obtain ⟨n, hln⟩ : ∃ n, n = xs.length := ⟨_, rfl⟩
  have HH : Hid (WrAt B b l w) := h
  have HX : Hid (∀ x ∈ xs, 0 ≤ x ∧ x ≤ 1000000000) := hx
  rw [← hln]
  rw [← hln] at hn HS
  have HL : Hid (n = xs.length) := hln
  clear hs h hx hln
  go_enter Try.func119, Try.ntmps119
  go_wp2
  go_loopw [10] (fun z wr => ∃ k : Nat, k ≤ n ∧ z = .int .i64 k ∧ WrAt B b (l ++ numsB (xs.take k)) wr ∧ Below B w wr ∧ Keeps b w wr) (fun z _ => n - (intOf z).toNat)
  case atStart => exact ⟨0, Nat.zero_le _, rfl, by simpa [numsB] using HH.out, Below.refl _ _, Keeps.refl _ _⟩
  case round =>
    obtain ⟨k, hk, rfl, hw, hbel, hkp⟩ := hrel
    have hlen : (l ++ numsB (xs.take k)).length ≤ 1005000 := by
      have := numsB_len (xs := xs.take k) (fun x hx => HX.out x (List.mem_of_mem_take hx))
      rw [List.length_append]
      rw [List.length_take] at this
      omega
    by_cases hlt : k < n
    · have hkl : k < xs.length := by rw [← HL.out]; exact hlt
      obtain ⟨aa', ca', he, hg⟩ := HS.out wr hbel hkp
      obtain ⟨rfl, -, rfl⟩ : aa = aa' ∧ n = xs.length ∧ ca = ca' := by simpa using he
      obtain ⟨g, rfl, hg1, hc⟩ := hg (by omega)
      have hc1 := hc k hkl
      have hx1 := HX.out (xs[k]) (List.getElem_mem hkl)
      have HSN : Hid (l ++ numsB (xs.take (k + 1)) = (l ++ numsB (xs.take k)) ++ varB (xs[k]).toNat) := by show _ = _; rw [numsB_snoc xs k hkl, List.append_assoc]
      have hv5 := varB_len5 (n := (xs[k]).toNat) (by omega)
      generalize xs[k] = x at *
      have hk1 : (k : Int) < n := by omega
      have hk0 : (0 : Int) ≤ k := by omega
      have HW : Hid (WrAt B b (l ++ numsB (xs.take k)) wr ∧ Below B w wr ∧ Keeps b w wr) := ⟨hw, hbel, hkp⟩
      clear hc hkl he hw hbel hkp hg
      go_wp2_with fail
      refine (implVar_int x hx1.1 hx1.2 _).mono ?_
      rintro e w1 ⟨rfl, hb1⟩
      obtain ⟨hw, hbel, hkp⟩ := HW.out
      have hs := hbel.size
      have hw1 := hw.below hb1
      have HB1 : Hid (Below B w w1) := hbel.trans (hb1.mono (by omega))
      have HK1 : Hid (Keeps b w w1) := hkp.trans (Keeps.below hb1) hs
      have hs1 := HB1.out.size
      clear hb1 hc1 hw hbel hkp
      go_wp2_with fail
      refine (write_calls B b _ _ _ hw1 (by have : (ByteArray.mk (varB x.toNat).toArray).size = (varB x.toNat).length := by simp [ByteArray.size]
                                            rw [this]; omega) (by omega)).mono ?_
      rintro e w2 ⟨⟨v, rfl⟩, hw2, hb2, hk2⟩
      have HR : Hid (WrAt B b (l ++ numsB (xs.take (k + 1))) w2 ∧ Below B w w2 ∧ Keeps b w w2) := ⟨by rw [HSN.out]; simpa using hw2, HB1.out.trans hb2, HK1.out.trans hk2 hs1⟩
      clear hw2 hb2 hk2
      go_wp2
      go_roundw
      case rel => exact ⟨k + 1, by omega, by go_num, HR.out.1, HR.out.2.1, HR.out.2.2⟩
      case measure => simp [intOf]; omega
    · have hk1 : ¬ ((k : Int) < n) := by omega
      have HF : Hid (WrAt B b (l ++ numsB xs) wr ∧ Below B w wr ∧ Keeps b w wr) := by
        have e : xs.take k = xs := List.take_of_length_le (by have := HL.out; omega)
        rw [e] at hw
        exact ⟨hw, hbel, hkp⟩
      clear hw hbel hkp
      go_wp2
      go_end0
      exact ⟨rfl, HF.out⟩

theorem shortB_list (s : ByteArray) : (shortB s).data.toList = varB s.size ++ s.data.toList := by simp [shortB]
theorem shortB_size {s : ByteArray} (h : s.size ≤ 20000) : (shortB s).size ≤ 20005 := by
  have h1 := varB_len5 (n := s.size) (by omega)
  have h2 := congrArg List.length (shortB_list s)
  have h3 : (shortB s).data.toList.length = (shortB s).size := by simp
  have h4 : s.data.toList.length = s.size := by simp
  rw [List.length_append] at h2
  omega

set_option maxHeartbeats 2000000 in
theorem names_calls (B b g : Nat) (l : List UInt8) (s t : ByteArray) (ca : Nat) (w : World) (h : WrAt B b l w) (hB : B ≤ w.heap.size) (hl : l.length ≤ 1000000) (h1 : s.size ≤ 20000) (h2 : t.size ≤ 20000)
    (hr : Row w g #[.string s, .string t] 9) (hgb : g ≠ b) :
    Calls Try.prog 120 #[.pointer (some ⟨b, 0, none⟩), .slice (some ⟨g, 0, none⟩) 2 ca] w fun e w' => e = .returned (.tuple #[]) ∧ WrAt B b (l ++ (shortB s).data.toList ++ (shortB t).data.toList) w' ∧ Below B w w' ∧ Keeps b w w' := by
  have HH : Hid (WrAt B b l w) := h
  have HR : Hid (Row w g #[.string s, .string t] 9) := hr
  have HS1 : Hid ((shortB s).size ≤ 20005) := shortB_size h1
  have HS2 : Hid ((shortB t).size ≤ 20005) := shortB_size h2
  clear h hr
  go_enter Try.func120, Try.ntmps120
  go_wp2
  go_loopw [10] (fun z wr => ((z = .int .i64 0 ∧ WrAt B b l wr) ∨ (z = .int .i64 1 ∧ WrAt B b (l ++ (shortB s).data.toList) wr) ∨ (z = .int .i64 2 ∧ WrAt B b (l ++ (shortB s).data.toList ++ (shortB t).data.toList) wr)) ∧ Below B w wr ∧ Keeps b w wr) (fun z _ => 2 - (intOf z).toNat)
  case atStart => exact ⟨.inl ⟨rfl, HH.out⟩, Below.refl _ _, Keeps.refl _ _⟩
  case round =>
    obtain ⟨hz, hbel, hkp⟩ := hrel
    have hs := hbel.size
    have hrw := HR.out.keeps hkp hgb (by decide)
    have c0 := hrw.cell 0 (v := .string s) rfl
    have c1 := hrw.cell 1 (v := .string t) rfl
    rcases hz with ⟨rfl, hw⟩ | ⟨rfl, hw⟩ | ⟨rfl, hw⟩
    · have HW : Hid (WrAt B b l wr ∧ Below B w wr ∧ Keeps b w wr) := ⟨hw, hbel, hkp⟩
      clear hw hbel hkp hrw
      go_wp2_with fail
      refine (implShort_yes s h1 _).mono ?_
      rintro e w1 ⟨rfl, hb1⟩
      obtain ⟨hw, hbel, hkp⟩ := HW.out
      have hw1 := hw.below hb1
      have HB1 : Hid (Below B w w1) := hbel.trans (hb1.mono (by omega))
      have HK1 : Hid (Keeps b w w1) := hkp.trans (Keeps.below hb1) hs
      have hs1 := HB1.out.size
      clear hb1 c0 c1 hw hbel hkp
      go_wp2_with fail
      refine (write_calls B b _ _ _ hw1 (by have := HS1.out; omega) (by omega)).mono ?_
      rintro e w2 ⟨⟨v, rfl⟩, hw2, hb2, hk2⟩
      have HF : Hid (WrAt B b (l ++ (shortB s).data.toList) w2 ∧ Below B w w2 ∧ Keeps b w w2) := ⟨hw2, HB1.out.trans hb2, HK1.out.trans hk2 hs1⟩
      clear hw2 hb2 hk2
      go_wp2
      go_roundw
      case rel => exact ⟨.inr (.inl ⟨rfl, HF.out.1⟩), HF.out.2⟩
      case measure => simp [intOf]
    · have HW : Hid (WrAt B b (l ++ (shortB s).data.toList) wr ∧ Below B w wr ∧ Keeps b w wr) := ⟨hw, hbel, hkp⟩
      clear hw hbel hkp hrw
      go_wp2_with fail
      refine (implShort_yes t h2 _).mono ?_
      rintro e w1 ⟨rfl, hb1⟩
      obtain ⟨hw, hbel, hkp⟩ := HW.out
      have hw1 := hw.below hb1
      have HB1 : Hid (Below B w w1) := hbel.trans (hb1.mono (by omega))
      have HK1 : Hid (Keeps b w w1) := hkp.trans (Keeps.below hb1) hs
      have hs1 := HB1.out.size
      clear hb1 c0 c1 hw hbel hkp
      go_wp2_with fail
      refine (write_calls B b _ _ _ hw1 (by have h3 := HS1.out; have h4 := HS2.out; rw [List.length_append]; have : (shortB s).data.toList.length = (shortB s).size := by simp
                                            omega) (by omega)).mono ?_
      rintro e w2 ⟨⟨v, rfl⟩, hw2, hb2, hk2⟩
      have HF : Hid (WrAt B b (l ++ (shortB s).data.toList ++ (shortB t).data.toList) w2 ∧ Below B w w2 ∧ Keeps b w w2) := ⟨hw2, HB1.out.trans hb2, HK1.out.trans hk2 hs1⟩
      clear hw2 hb2 hk2
      go_wp2
      go_roundw
      case rel => exact ⟨.inr (.inr ⟨rfl, HF.out.1⟩), HF.out.2⟩
      case measure => simp [intOf]
    · have HF : Hid (WrAt B b (l ++ (shortB s).data.toList ++ (shortB t).data.toList) wr ∧ Below B w wr ∧ Keeps b w wr) := ⟨hw, hbel, hkp⟩
      clear hw hbel hkp hrw c0 c1
      go_wp2
      go_end0
      exact ⟨rfl, HF.out⟩
end Go.Proofs.Ytjphgmknbnedhaa
