/- What is drawn for a knowledge: a right one, any one, a dot. Of what is drawn only the bounds are told. -/
import Derived.Test.YtahdgagipmpcgaaCBelow
import Derived.Test.YtahdgagipmpcgaaCBig
import Derived.Test.YtahdgagipmpcgaaKInts
namespace Go.Proofs.Ytahdgagipmpcgaa
set_option maxRecDepth 100000
set_option linter.unusedVariables false
open Go.RowKit

theorem own_emptyK (w : World) (e : TypeId) : (w.alloc (.cells #[] e)).ownsRow w.heap.size e 1 (.slice (some ⟨w.heap.size, 0, none⟩) 0 0) 0 [] := own_none w e 1 rfl (Nat.le_refl _)
theorem own_drew {w w1 w2 : World} {e : TypeId} {sz k : Nat} {u : Value} {xs : List Value} {B p : Nat} {v : Value} {n : Nat} (h : w1.ownsRow w.heap.size e sz u k xs) (hd : Drew w1 w2 B p v n) (hp : p < w.heap.size) : w2.ownsRow w.heap.size e sz u k xs :=
  h.kept hd.2 (by
    cases hv : u.ownBlock with
    | none => exact .inl rfl
    | some g => exact .inr fun e => by have := (h.lt g hv).1; cases e; omega)

set_option maxHeartbeats 1000000 in
theorem knowD (B p : Nat) (v : Value) (n : Nat) (hn : n ≤ 1048576) (w : World) (hB : B ≤ w.heap.size) (hc : Cur w B p v n) :
    Calls Try.prog 206 #[.pointer (some ⟨p, 0, none⟩)] w fun e w' => ∃ (u : Value) (l : List Int), KOk l ∧ e = .returned u ∧ w'.ownsRow w.heap.size 3 1 u 3 (intV l) ∧ Drew w w' B p v n := by
  have hp := hc.lt
  obtain ⟨i0, hi, hz0, hz1, hz2⟩ := info_parts infoInt
  have HB : Hid (∀ wx, Cur wx B p v n → Calls Try.prog 91 #[.pointer (some ⟨p, 0, none⟩), .int .i64 5] wx fun e w' => ∃ x : Nat, e = .returned (.int .i64 x) ∧ x < 5 ∧ Drew wx w' B p v n) := fun wx h => belowD 5 (by omega) (by omega) B p v n hn wx h
  go_enter Try.func206, Try.ntmps206
  go_wp2
  go_loopw [3, 4] (fun u z wr => ∃ (j : Nat) (d : List Int), j ≤ 3 ∧ d.length = j ∧ (∀ x ∈ d, 0 ≤ x ∧ x ≤ 1000) ∧ z = .int .i64 j ∧ wr.ownsRow w.heap.size 3 1 u j (intV d) ∧ Drew w wr B p v n) (fun _ z _ => 3 - (intOf z).toNat)
  case atStart => exact ⟨0, [], Nat.zero_le _, rfl, by simp, rfl, own_emptyK w 3, (Drew.refl hc).alloc hp hB _⟩
  case round =>
    obtain ⟨j, d, hj, hd, hdx, rfl, hown, hdr⟩ := hrel
    by_cases hlt : j < 3
    · have hlt1 : (j : Int) < 3 := by omega
      go_wp2_with fail
      refine (HB.out _ hdr.1).mono ?_
      rintro e w1 ⟨x, rfl, hx, hd1⟩
      have hown1 := own_drew hown hd1 hp
      have hdr1 := hdr.trans hd1
      have hsz : w.heap.size ≤ w1.heap.size := hdr1.2.size
      have HX : Hid (∀ y ∈ d ++ [(x : Int)], 0 ≤ y ∧ y ≤ 1000) := by
        intro y hy
        rcases List.mem_append.1 hy with h | h
        · exact hdx y h
        · simp at h; omega
      clear hown hdr hd1 hdx
      go_wp2_with (at_builtin; refine wpList_append_own _ rfl _ _ 22 rfl w.heap.size 3 i0 (.int .i64 0) 1 8 Try.underlying22 hi hz0 hz1 hz2 rfl (by decide) _ _ _ rfl (hown1.alloc _) ⟨w1.heap.size, 0, none⟩ 1 1 [Value.int .i64 (x : Int)] rfl rfl (one_new _ _ _) (by intro u' hu'; simp at hu'; subst hu'; rfl) (by unfold maxLen; omega) (by omega) (by simp; omega) ?_)
      intro v2 w2 hown2 hgrow hne2
      have hdr2 : Drew w w2 B p v n := (hdr1.alloc hp hB _).kept hp hB hgrow (fun k hk => (hown1.lt k hk).1)
      have ho : w2.ownsRow w.heap.size 3 1 v2 (j + 1) (intV (d ++ [(x : Int)])) := by
        unfold intV at hown2 ⊢; rw [List.map_append]; exact hown2
      clear hown1 hdr1 hgrow hown2
      go_wp2
      go_roundw
      case rel => exact ⟨j + 1, d ++ [(x : Int)], by omega, by simp [hd], HX.out, by go_num, ho, hdr2⟩
      case measure => simp [intOf]; omega
    · have hlt1 : ¬ ((j : Int) < 3) := by omega
      obtain rfl : j = 3 := by omega
      go_wp2
      go_ret
      exact ⟨u3, d, ⟨hd, hdx⟩, rfl, hown, hdr⟩

theorem three_new (w : World) (a b c : Int) (e : TypeId) : ∀ i, i < 3 → ∃ z : Int, (w.alloc (.cells #[.int .i64 a, .int .i64 b, .int .i64 c] e)).cell? ⟨w.heap.size, i, none⟩ = some (.int .i64 z) := by
  intro i hi
  match i, hi with
  | 0, _ => exact ⟨a, by simp⟩
  | 1, _ => exact ⟨b, by simp⟩
  | 2, _ => exact ⟨c, by simp⟩
theorem duo_new (w : World) (a b : Int) (e : TypeId) : ∀ i, i < 2 → ∃ z : Int, (w.alloc (.cells #[.int .i64 a, .int .i64 b] e)).cell? ⟨w.heap.size, i, none⟩ = some (.int .i64 z) := by
  intro i hi
  match i, hi with
  | 0, _ => exact ⟨a, by simp⟩
  | 1, _ => exact ⟨b, by simp⟩

set_option maxHeartbeats 1000000 in
theorem dotD (B p : Nat) (v : Value) (n : Nat) (hn : n ≤ 1048576) (w : World) (hB : B ≤ w.heap.size) (hc : Cur w B p v n) :
    Calls Try.prog 94 #[.pointer (some ⟨p, 0, none⟩)] w fun e w' => ∃ r s : Int, e = .returned (dot r s) ∧ Drew w w' B p v n := by
  have hp := hc.lt
  have hpne : (some p : Option Nat) ≠ some w.heap.size := by intro e; cases e; omega
  have hc0 : Drew w (w.alloc (.cells #[.int .i64 0, .int .i64 0] 47)) B p v n := (Drew.refl hc).alloc hp hB _
  have hF0 : DotAt (w.alloc (.cells #[.int .i64 0, .int .i64 0] 47)) w.heap.size 0 0 := dotAt_new w _ _ rfl
  go_enter Try.func94, Try.ntmps94
  go_wp2_with fail
  refine (belowD 3 (by omega) (by omega) B p v n hn _ hc0.1).mono ?_
  rintro e w1 ⟨x, rfl, hx, hd1⟩
  have hF1 : DotAt w1 w.heap.size 0 0 := (hd1.2.block _ hF0.lt (fun e => hpne e.symm)).trans hF0
  have hd01 := hc0.trans hd1
  go_wp2_with fail
  refine (belowD 5 (by omega) (by omega) B p v n hn _ hd01.1).mono ?_
  rintro e w2 ⟨y, rfl, hy, hd2⟩
  have hF2 : DotAt w2 w.heap.size 0 0 := (hd2.2.block _ hF1.lt (fun e => hpne e.symm)).trans hF1
  have hd02 := hd01.trans hd2
  have c0 := hF2.c0
  have c1 := hF2.c1
  have f0 := hF2.free 0
  have f1 := hF2.free 1
  clear hF0 hF1 hc0 hd1 hd2 hd01
  go_wp2
  exact bodyPost_ret (ret_dot rfl rfl ((hF2.set0 _).set1 _)) rfl ⟨_, _, rfl, (hd02.set hp hB (Nat.le_refl _) 0 _).set hp hB (Nat.le_refl _) 1 _⟩

end Go.Proofs.Ytahdgagipmpcgaa
