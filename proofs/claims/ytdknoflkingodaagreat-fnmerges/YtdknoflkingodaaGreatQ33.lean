/- What is drawn off a slice of bytes: the cursor, one byte mor. -/
import Derived.BigCall
import Derived.BigQuiet
import Derived.Deep.QuietTactic
import Derived.Deep.RegionHeld3
import Derived.Deep.RegionWith
import Derived.Laws.BitsAllLaws
import Derived.Laws.IdiomStrings
import Derived.OwnWalk
import Derived.Test.YtdknoflkingodaaGreatRows
import Derived.WalkSmall
import Derived.WalkSpells
import Derived.Test.YtdknoflkingodaaGreatQ5
set_option maxHeartbeats 16000000
namespace Go.Proofs.YtdknoflkingodaaGreat
open Value (int)
open IntKind (i64)
set_option maxRecDepth 100000
set_option linter.unusedVariables false
open Go.RowKit
def CodeIs (w : World) (B : Nat) (v : Value) (n : Nat) : Prop :=
 (n = 0 ∧ ∃ a cap, v = .slice a 0 cap) ∨ (∃ b off cap, v = .slice (some ⟨b, off, none⟩) n cap ∧ b < B ∧ ∀ i, i < n → ∃ x : Nat, x < 256 ∧ w.cell? ⟨b, off + i, none⟩ = some (.int .u8 x))
def Cur (w : World) (B p : Nat) (v : Value) (n : Nat) : Prop :=
 B ≤ p ∧ CodeIs w B v n ∧ ∃ (i : Nat) (h : Int), i ≤ n ∧ -9223372036854775808 ≤ h ∧ h ≤ 9223372036854775807 ∧ w.heap[p]? = some (.cells #[v, int i64 i, int i64 h] 143)
theorem Jax (a : Int) (m : Nat) (hm : m < 9223372036854775808) : ∃ z : Nat, z ≤ m ∧ bits .and .i64 a (m : Int) = (z : Int) := by
 have hx : (BitVec.ofInt 64 (m : Int)).toNat = m := by
  rw [BitVec.ofInt_natCast, BitVec.toNat_ofNat]; exact Nat.mod_eq_of_lt (by omega)
 have hy : (BitVec.ofInt 64 a &&& BitVec.ofInt 64 (m : Int)).toNat ≤ m := by
  rw [BitVec.toNat_and, hx]; exact Nat.and_le_right
 refine ⟨_, hy, ?_⟩
 show IntKind.i64.wrap ((BitVec.ofInt 64 a &&& BitVec.ofInt 64 (m : Int)).toNat : Int) = _
 rw [IntKind.wrap_i64]
 omega
theorem JeJ (w : World) (B : Nat) (v : Value) (n : Nat) (hB : B ≤ w.heap.size) (hc : CodeIs w B v n) (h : Nat) (hh : h ≤ 1073741823) :
  Cur (w.alloc (.cells #[v, int i64 0, int i64 (h : Int)] 143)) B w.heap.size v n := by
 refine ⟨hB, ?_, 0, h, Nat.zero_le _, by omega, by omega, ?_⟩
 ·rcases hc with ⟨rfl, a, cap, rfl⟩ | ⟨b, off, cap, rfl, hb, hx⟩
  ·exact .inl ⟨rfl, a, cap, rfl⟩
  ·refine .inr ⟨b, off, cap, rfl, hb, fun i hi => ?_⟩
   obtain ⟨x, hx1, hx2⟩ := hx i hi
   exact ⟨x, hx1, (((Below.refl w.heap.size w).alloc (Nat.le_refl _) _).cell (p := ⟨b, off + i, none⟩) (by show b < _; omega)).trans hx2⟩
 ·exact MapKept.heap_alloc w _ |>.1
theorem Jdp (B : Nat) (v : Value) (n : Nat) (hn : n ≤ 1048576) (w : World) (hB : B ≤ w.heap.size) (hc : CodeIs w B v n) :
  Calls Tryz.prog 56 #[v] w fun e w' => e = .returned (.pointer (some ⟨w.heap.size, 0, none⟩)) ∧ Cur w' B w.heap.size v n ∧ Below w.heap.size w w' := by
 have HC : Hid (∀ h : Nat, h ≤ 1073741823 → Cur (w.alloc (.cells #[v, int i64 0, int i64 (h : Int)] 143)) B w.heap.size v n) := fun h hh => JeJ w B v n hB hc h hh
 rcases hc with ⟨rfl, a, cap, rfl⟩ | ⟨b, off, cap, rfl, hb, hx⟩
 ·go_enter Tryz.func56, Tryz.ntmps56
  go_wp2
  go_loop [3, 4] (fun y z => y = int i64 93901 ∧ z = int i64 0) (fun _ z => 0)
  case atStart => exact ⟨rfl, rfl⟩
  case round =>
   obtain ⟨rfl, rfl⟩ := hrel
   go_wp2
   go_ret
   exact ⟨rfl, HC.out 93901 (by omega), (Below.refl _ _).alloc (Nat.le_refl _) _⟩
 ·have HX : Hid (∀ i, i < n → ∃ x : Nat, x < 256 ∧ w.cell? ⟨b, off + i, none⟩ = some (.int .u8 x)) := hx
  clear hx
  go_enter Tryz.func56, Tryz.ntmps56
  go_wp2
  go_loop [3, 4] (fun y z => ∃ (k h : Nat), k ≤ n ∧ z = int i64 k ∧ h ≤ 1073741823 ∧ y = int i64 h) (fun _ z => n - (intOf z).toNat)
  case atStart => exact ⟨0, 93901 + n, by omega, rfl, by omega, by go_num⟩
  case round =>
   obtain ⟨k, h, hk, rfl, hh, rfl⟩ := hrel
   by_cases hlt : k < n
   ·by_cases h4 : k < 4000
    ·have hk1 : (k : Int) < n := by omega
     have hk2 : (k : Int) < 4000 := by omega
     obtain ⟨x, hx1, hx2⟩ := HX.out k hlt
     obtain ⟨z, hz1, hz2⟩ := Jax ((h : Int) * 131 + x + 7) 1073741823 (by omega)
     go_wp2
     go_round
     case rel => exact ⟨k + 1, z, by omega, by go_num, hz1, congrArg (Value.int .i64) hz2⟩
     case measure => simp [intOf]; omega
    ·have hk1 : (k : Int) < n := by omega
     have hk2 : ¬ ((k : Int) < 4000) := by omega
     go_wp2
     go_ret
     exact ⟨rfl, HC.out h hh, (Below.refl _ _).alloc (Nat.le_refl _) _⟩
   ·have hk1 : ¬ ((k : Int) < n) := by omega
    go_wp2
    go_ret
    exact ⟨rfl, HC.out h hh, (Below.refl _ _).alloc (Nat.le_refl _) _⟩
theorem JbH {w : World} {p t : Nat} {a b c : Value} (hp : w.heap[p]? = some (.cells #[a, b, c] t)) (x : Value) :
  (w.setCell ⟨p, 2, none⟩ x).heap[p]? = some (.cells #[a, b, x] t) ∧ (w.setCell ⟨p, 1, none⟩ x).heap[p]? = some (.cells #[a, x, c] t) := by
 simp [World.setCell, Array.getElem?_modify, hp]
theorem Kb {w : World} {p t : Nat} {a b c : Value} (hp : w.heap[p]? = some (.cells #[a, b, c] t)) :
  w.cell? ⟨p, 0, none⟩ = some a ∧ w.cell? ⟨p, 1, none⟩ = some b ∧ w.cell? ⟨p, 2, none⟩ = some c := by
 simp [World.cell?, hp]
theorem U8 {w : World} {p t : Nat} {a b c : Value} (hp : w.heap[p]? = some (.cells #[a, b, c] t)) (j : Nat) : w.frozen? ⟨p, j, none⟩ = false := by
 simp [World.frozen?, hp]
theorem UH (w : World) (p j : Nat) (x : Value) : w.grownBy (w.setCell ⟨p, j, none⟩ x) (some p) ∧ (w.setCell ⟨p, j, none⟩ x).heap.size = w.heap.size := by
 refine ⟨⟨rfl, rfl, rfl, by simp [World.setCell], fun k hk hne => ?_⟩, by simp [World.setCell]⟩
 simp only [World.setCell, Array.getElem?_modify]
 rw [if_neg]
 intro h; apply hne; rw [h]
theorem JbF (x : Int) : -9223372036854775808 ≤ wrap64 x ∧ wrap64 x ≤ 9223372036854775807 := by
 unfold wrap64; omega
theorem CodeIs.grown {w w' : World} {B p : Nat} {v : Value} {n : Nat} (h : CodeIs w B v n) (hB : B ≤ p) (hg : w.grownBy w' (some p)) : CodeIs w' B v n := by
 rcases h with h | ⟨b, off, cap, rfl, hb, hx⟩
 ·exact .inl h
 ·refine .inr ⟨b, off, cap, rfl, hb, fun i hi => ?_⟩
  obtain ⟨x, hx1, hx2⟩ := hx i hi
  exact ⟨x, hx1, hg.cell hx2 (by show some b ≠ some p; intro h; cases h; omega)⟩
theorem Jb2 (B p : Nat) (v : Value) (n : Nat) (hn : n ≤ 1048576) (w : World) (hc : Cur w B p v n) :
  Calls Tryz.prog 86 #[.pointer (some ⟨p, 0, none⟩)] w fun e w' => ∃ x : Nat, e = .returned (int i64 x) ∧ x < 256 ∧ Cur w' B p v n ∧ w.grownBy w' (some p) ∧ w'.heap.size = w.heap.size := by
 obtain ⟨hB, hcode, i, h, hi, h1, h2, hp⟩ := hc
 obtain ⟨c0, c1, c2⟩ := Kb hp
 have f2 := U8 hp 2
 go_enter Tryz.func86, Tryz.ntmps86
 go_wp2_with fail
 obtain ⟨H, hH⟩ : ∃ H, H = wrap64 (wrap64 (h * 6364136223846793005) + 1442695040888963407) := ⟨_, rfl⟩
 have hHb := JbF (wrap64 (h * 6364136223846793005) + 1442695040888963407)
 rw [← hH] at hHb ⊢
 have hg1 := UH w p 2 (int i64 H)
 have hp1 := (JbH hp (int i64 H)).1
 have hcode1 := hcode.grown hB hg1.1
 generalize w.setCell ⟨p, 2, none⟩ (int i64 H) = w1 at *
 clear c0 c1 c2 f2 hp hcode
 have HP1 : Hid (w1.heap[p]? = some (.cells #[v, int i64 i, int i64 H] 143)) := hp1
 obtain ⟨c0, c1, c2⟩ := Kb hp1
 clear hp1
 clear hH h1 h2
 go_quiet (fail)
 obtain ⟨x, hx, hxe⟩ := Jax (bits .xor .i64 (H / 8589934592) (H / 35184372088832)) 255 (by omega)
 change bits .and .i64 (bits .xor .i64 (H / 8589934592) (H / 35184372088832)) 255 = (x : Int) at hxe
 rw [hxe]
 generalize bits .xor .i64 (H / 8589934592) (H / 35184372088832) = Y at *
 clear hxe
 have hg2 : w.grownBy (w1.drewN nq) (some p) ∧ (w1.drewN nq).heap.size = w.heap.size := ⟨⟨hg1.1.os, hg1.1.tape, hg1.1.output, hg1.1.size, hg1.1.block⟩, hg1.2⟩
 have hcode2 : CodeIs (w1.drewN nq) B v n := hcode1
 have HP2 : Hid ((w1.drewN nq).heap[p]? = some (.cells #[v, int i64 i, int i64 H] 143)) := HP1.out
 generalize w1.drewN nq = w2 at *
 clear c0 c1 c2 hg1 hcode1 HP1
 obtain ⟨c0, c1, c2⟩ := Kb HP2.out
 have HG2 : Hid (w.grownBy w2 (some p) ∧ w2.heap.size = w.heap.size) := hg2
 have HCO : Hid (CodeIs w2 B v n) := hcode2
 clear hg2
 have done : ∀ k : Nat, Hid (w.grownBy (w2.drewN k) (some p) ∧ (w2.drewN k).heap.size = w.heap.size ∧ Cur (w2.drewN k) B p v n) := fun k =>
  ⟨⟨HG2.out.1.os, HG2.out.1.tape, HG2.out.1.output, HG2.out.1.size, HG2.out.1.block⟩, HG2.out.2, hB, HCO.out, i, H, hi, hHb.1, hHb.2, HP2.out⟩
 rcases hcode2 with ⟨rfl, a, cap, rfl⟩ | ⟨b, off, cap, rfl, hb, hcx⟩
 ·obtain rfl : i = 0 := by omega
  go_wp2_with fail
  go_quiet (fail)
  go_wp2
  go_ret
  exact ⟨x, rfl, by omega, (done _).out.2.2, (done _).out.1, (done _).out.2.1⟩
 ·by_cases hin : i < n
  ·have hin1 : (i : Int) < n := by omega
   obtain ⟨y, hy1, hy2⟩ := hcx i hin
   clear hcx
   go_wp2_with fail
   go_quiet (fail)
   go_wp2_with fail
   have hg3 : w.grownBy (w2.drewN nq) (some p) ∧ (w2.drewN nq).heap.size = w.heap.size := ⟨⟨HG2.out.1.os, HG2.out.1.tape, HG2.out.1.output, HG2.out.1.size, HG2.out.1.block⟩, HG2.out.2⟩
   have hp3 : (w2.drewN nq).heap[p]? = some (.cells #[.slice (some ⟨b, off, none⟩) n cap, int i64 i, int i64 H] 143) := HP2.out
   have hco3 : CodeIs (w2.drewN nq) B (.slice (some ⟨b, off, none⟩) n cap) n := HCO.out
   have hy3 : (w2.drewN nq).cell? ⟨b, off + i, none⟩ = some (Value.int .u8 y) := hy2
   generalize w2.drewN nq = w3 at *
   clear c0 c1 c2 HG2 HP2 HCO done hy2
   have HG3 : Hid (w.grownBy w3 (some p) ∧ w3.heap.size = w.heap.size) := hg3
   have HP3 : Hid (w3.heap[p]? = some (.cells #[.slice (some ⟨b, off, none⟩) n cap, int i64 i, int i64 H] 143)) := hp3
   have HCO : Hid (CodeIs w3 B (.slice (some ⟨b, off, none⟩) n cap) n) := hco3
   obtain ⟨c0, c1, c2⟩ := Kb hp3
   clear hg3 hp3 hco3
   obtain ⟨z, hz1, hz2⟩ := Jax ((x : Int) + y) 255 (by omega)
   change bits .and .i64 ((x : Int) + y) 255 = (z : Int) at hz2
   have hw0 : IntKind.i64.wrap (y : Int) = y := by rw [IntKind.wrap_i64]; omega
   have hw1 : IntKind.i64.wrap ((x : Int) + y) = (x : Int) + y := by rw [IntKind.wrap_i64]; omega
   go_quiet (fail)
   have hg4 : w.grownBy (w3.drewN nq) (some p) ∧ (w3.drewN nq).heap.size = w.heap.size := ⟨⟨HG3.out.1.os, HG3.out.1.tape, HG3.out.1.output, HG3.out.1.size, HG3.out.1.block⟩, HG3.out.2⟩
   have hp4 : (w3.drewN nq).heap[p]? = some (.cells #[.slice (some ⟨b, off, none⟩) n cap, int i64 i, int i64 H] 143) := HP3.out
   have hco4 : CodeIs (w3.drewN nq) B (.slice (some ⟨b, off, none⟩) n cap) n := HCO.out
   generalize w3.drewN nq = w4 at *
   clear c0 c1 c2 HG3 HP3 HCO hy3
   have fin : Hid (Cur (w4.setCell ⟨p, 1, none⟩ (int i64 ((i : Int) + 1))) B p (.slice (some ⟨b, off, none⟩) n cap) n ∧ w.grownBy (w4.setCell ⟨p, 1, none⟩ (int i64 ((i : Int) + 1))) (some p) ∧ (w4.setCell ⟨p, 1, none⟩ (int i64 ((i : Int) + 1))).heap.size = w.heap.size) := by
    have hs := UH w4 p 1 (int i64 ((i : Int) + 1))
    refine ⟨⟨hB, hco4.grown hB hs.1, i + 1, H, by omega, hHb.1, hHb.2, ?_⟩, hg4.1.trans hs.1, hs.2.trans hg4.2⟩
    exact (JbH hp4 _).2
   have f1 := U8 hp4 1
   obtain ⟨c0, c1, c2⟩ := Kb hp4
   clear hp4 hco4 hg4
   go_wp2
   go_ret
   exact ⟨z, rfl, by omega, fin.out.1, fin.out.2.1, fin.out.2.2⟩
  ·have hin1 : ¬ ((i : Int) < n) := by omega
   clear hcx
   go_wp2_with fail
   go_quiet (fail)
   go_wp2
   go_ret
   exact ⟨x, rfl, by omega, (done _).out.2.2, (done _).out.1, (done _).out.2.1⟩
theorem CodeIs.form {w : World} {B : Nat} {v : Value} {n : Nat} (h : CodeIs w B v n) : ∃ a cap, v = .slice a n cap := by
 rcases h with ⟨rfl, a, cap, rfl⟩ | ⟨b, off, cap, rfl, -⟩
 ·exact ⟨a, cap, rfl⟩
 ·exact ⟨_, cap, rfl⟩
theorem CodeIs.below {w w' : World} {B : Nat} {v : Value} {n : Nat} (h : CodeIs w B v n) (hb : Below B w w') : CodeIs w' B v n := by
 rcases h with h | ⟨b, off, cap, rfl, hbb, hx⟩
 ·exact .inl h
 ·refine .inr ⟨b, off, cap, rfl, hbb, fun j hj => ?_⟩
  obtain ⟨y, hy1, hy2⟩ := hx j hj
  exact ⟨y, hy1, (hb.cell (p := ⟨b, off + j, none⟩) hbb).trans hy2⟩
theorem Jc4 (a : Option Addr) (n cap : Nat) (w : World) :
  Calls Tryz.prog 8 #[.slice a n cap] w fun e w' => e = .returned (.bool (decide ((1048576 : Int) < n))) ∧ w' = w := by
 by_cases h : (1048576 : Int) < n
 ·go_enter Tryz.func8, Tryz.ntmps8
  go_wp2
  go_ret
  exact ⟨by simp; omega, rfl⟩
 ·go_enter Tryz.func8, Tryz.ntmps8
  go_wp2
  go_ret
  exact ⟨by simp; omega, rfl⟩
end Go.Proofs.YtdknoflkingodaaGreat
