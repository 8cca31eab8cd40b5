/- Marks that stand in lives are told to stand; marks in a whole state. -/
import Derived.Test.YtjfkjeaefgknlaaTMark2
import Derived.Test.YtjfkjeaefgknlaaTMark4
import Derived.Test.YtjfkjeaefgknlaaTMark5
namespace Go.Proofs.Ytjfkjeaefgknlaa
set_option maxRecDepth 100000
set_option linter.unusedVariables false
open Go.RowKit

set_option maxHeartbeats 8000000 in
theorem heldLives_calls {v : Value} {k n : Nat} (hn : n ≤ 1048576) (hk1 : 1 ≤ k) (hk2 : k ≤ 1073741824) (w : World) (ho : LiAt w v (mkLi k n)) :
    Calls Try.prog 46 #[v, .int .i64 (k : Int)] w fun e w' => e = .returned (.int .i64 ((k : Int) + 6 * (n : Int))) ∧ Below w.heap.size w w' := by
  obtain ⟨aa, ca, rfl, ga⟩ := ho
  have HGA : Hid (LiG w aa (mkLi k n)) := ga
  rw [mkLi_len]
  clear ga
  go_enter Try.func46, Try.ntmps46
  go_wp2
  go_loopw [1, 5] (fun x z wr => ∃ (j : Nat) (y : Int), j ≤ n ∧ z = .int .i64 j ∧ x = .int .i64 y ∧ y = (k : Int) + 6 * (j : Int) ∧ Below w.heap.size w wr) (fun _ z _ => n - (intOf z).toNat)
  case atStart => exact ⟨0, _, Nat.zero_le _, rfl, rfl, by simp, Below.refl _ _⟩
  case round =>
    obtain ⟨j, y, hj, rfl, rfl, hy, hbel⟩ := hrel
    have HY : Hid (y = (k : Int) + 6 * (j : Int)) := hy
    have HBE := hidI hbel
    by_cases hlt : j < n
    · have hjl : j < (mkLi k n).length := by rw [mkLi_len]; exact hlt
      obtain ⟨g, f, rfl, hg, hcc⟩ := HGA.out (by omega)
      have q := hcc j hjl
      rw [mkLi_at, ← hy] at q
      have HQ : Hid (∀ wx, Below w.heap.size w wx → wx.cell? ⟨g, f + j * 6, none⟩ = some (.bool (((y) % 3 == 0))) ∧ wx.cell? ⟨g, f + j * 6 + 1, none⟩ = some (.string (mkS (y + 1))) ∧ wx.cell? ⟨g, f + j * 6 + 2, none⟩ = some (.string (mkS (y + 1 + 1))) ∧ wx.cell? ⟨g, f + j * 6 + 3, none⟩ = some (.int .i64 (y + 1 + 1 + 1)) ∧ wx.cell? ⟨g, f + j * 6 + 4, none⟩ = some (.int .i64 (y + 1 + 1 + 1 + 1)) ∧ wx.cell? ⟨g, f + j * 6 + 5, none⟩ = some (.int .i64 (y + 1 + 1 + 1 + 1 + 1))) := fun wx h => q.below h hg
      have hj1 : (j : Int) < n := by omega
      have hj0 : (0 : Int) ≤ j := by omega
      have hy0 : 1 ≤ y := by omega
      have hy1 : y ≤ 1099511627000 := by omega
      clear hcc q hjl hy
      have wy1 : IntKind.i64.wrap (y + 1) = y + 1 := by rw [IntKind.wrap_i64] <;> omega
      have wy2 : IntKind.i64.wrap (y + 1 + 1) = y + 1 + 1 := by rw [IntKind.wrap_i64] <;> omega
      have wy3 : IntKind.i64.wrap (y + 1 + 1 + 1) = y + 1 + 1 + 1 := by rw [IntKind.wrap_i64] <;> omega
      have wy4 : IntKind.i64.wrap (y + 1 + 1 + 1 + 1) = y + 1 + 1 + 1 + 1 := by rw [IntKind.wrap_i64] <;> omega
      have wy5 : IntKind.i64.wrap (y + 1 + 1 + 1 + 1 + 1) = y + 1 + 1 + 1 + 1 + 1 := by rw [IntKind.wrap_i64] <;> omega
      have wy6 : IntKind.i64.wrap (y + 1 + 1 + 1 + 1 + 1 + 1) = y + 1 + 1 + 1 + 1 + 1 + 1 := by rw [IntKind.wrap_i64] <;> omega
      have ne3 : ((y + 1 + 1 + 1) != (y + 1 + 1 + 1)) = false := by simp
      have ne4 : ((y + 1 + 1 + 1 + 1) != (y + 1 + 1 + 1 + 1)) = false := by simp
      have ne5 : ((y + 1 + 1 + 1 + 1 + 1) != (y + 1 + 1 + 1 + 1 + 1)) = false := by simp
      have neb : ((y % 3 == 0) != (y % 3 == 0)) = false := by simp
      have nes1 := beq_str (mkS (y + 1)) (mkS (y + 1)) rfl
      have nes2 := beq_str (mkS (y + 1 + 1)) (mkS (y + 1 + 1)) rfl
      have HM1 : Hid (∀ wx, Calls Try.prog 112 #[.int .i64 (y + 1)] wx fun e w' => e = .returned (.string (mkS (y + 1))) ∧ Below wx.heap.size wx w') := fun wx => markS _ (by omega) (by omega) wx
      have HM2 : Hid (∀ wx, Calls Try.prog 112 #[.int .i64 (y + 1 + 1)] wx fun e w' => e = .returned (.string (mkS (y + 1 + 1))) ∧ Below wx.heap.size wx w') := fun wx => markS _ (by omega) (by omega) wx
      obtain ⟨r0, r1, r2, r3, r4, r5⟩ := HQ.out _ hbel
      have hbd : Below w.heap.size w wr.drew := hbel.drew
      have SS := HQ.out _ hbd
      clear hbel
      go_wp2
      go_region_held3 (fun w' => w'.cell? ⟨g, f + j * 6, none⟩ = some (.bool (((y) % 3 == 0))) ∧ w'.cell? ⟨g, f + j * 6 + 1, none⟩ = some (.string (mkS (y + 1))) ∧ w'.cell? ⟨g, f + j * 6 + 2, none⟩ = some (.string (mkS (y + 1 + 1))) ∧ w'.cell? ⟨g, f + j * 6 + 3, none⟩ = some (.int .i64 (y + 1 + 1 + 1)) ∧ w'.cell? ⟨g, f + j * 6 + 4, none⟩ = some (.int .i64 (y + 1 + 1 + 1 + 1)) ∧ w'.cell? ⟨g, f + j * 6 + 5, none⟩ = some (.int .i64 (y + 1 + 1 + 1 + 1 + 1))) (first | exact SS | exact SS1 | go_keep) (first | (go_at_call 112; refine (HM1.out _).mono ?_; rintro e w1 ⟨rfl, hb⟩; have hb1 : Below w.heap.size w w1 := hbd.trans (hb.mono hbd.size); have SS1 := HQ.out _ hb1))
      clear r0 r1 r2 r3 r4 r5 SS SS1 hb hbd HM1 HBE
      obtain ⟨r0, r1, r2, r3, r4, r5⟩ := HQ.out _ hb1
      have hbd : Below w.heap.size w w1.drew := hb1.drew
      have SS := HQ.out _ hbd
      clear hb1
      go_wp2
      go_region_held3 (fun w' => w'.cell? ⟨g, f + j * 6, none⟩ = some (.bool (((y) % 3 == 0))) ∧ w'.cell? ⟨g, f + j * 6 + 1, none⟩ = some (.string (mkS (y + 1))) ∧ w'.cell? ⟨g, f + j * 6 + 2, none⟩ = some (.string (mkS (y + 1 + 1))) ∧ w'.cell? ⟨g, f + j * 6 + 3, none⟩ = some (.int .i64 (y + 1 + 1 + 1)) ∧ w'.cell? ⟨g, f + j * 6 + 4, none⟩ = some (.int .i64 (y + 1 + 1 + 1 + 1)) ∧ w'.cell? ⟨g, f + j * 6 + 5, none⟩ = some (.int .i64 (y + 1 + 1 + 1 + 1 + 1))) (first | exact SS | exact SS1 | go_keep) (first | (go_at_call 112; refine (HM2.out _).mono ?_; rintro e w2 ⟨rfl, hb⟩; have hb2 : Below w.heap.size w w2 := hbd.trans (hb.mono hbd.size); have SS1 := HQ.out _ hb2))
      clear r0 r1 r2 r3 r4 r5 SS SS1 hb hbd HM2
      obtain ⟨r0, r1, r2, r3, r4, r5⟩ := HQ.out _ hb2
      have HB2 := hidI hb2
      clear hb2
      go_wp2
      go_roundw
      case rel => exact ⟨j + 1, y + 1 + 1 + 1 + 1 + 1 + 1, by omega, by go_num, rfl, by have := HY.out; omega, HB2.out⟩
      case measure => simp [intOf]; omega
    · have hj1 : ¬ ((j : Int) < n) := by omega
      have HR : Hid (y = (k : Int) + 6 * (n : Int)) := by
        have hjn : j = n := by omega
        show _ = _; rw [HY.out, hjn]
      clear hy hbel
      go_wp2
      go_ret
      exact ⟨by rw [← HR.out]; rfl, HBE.out⟩


end Go.Proofs.Ytjfkjeaefgknlaa
