/- What the laws' own helpers on lists of numbers do; a list th. -/
import Derived.Below
import Derived.Carry
import Derived.ChangeSlices
import Derived.ChangeVars
import Derived.OpenShut
import Derived.ProofKit
import Derived.Test.YtdknoflkingodaaGreatQ8
set_option maxHeartbeats 16000000
namespace Go.Proofs.YtdknoflkingodaaGreat
open Value (int)
open IntKind (i64)
set_option maxRecDepth 100000
set_option linter.unusedVariables false
open Go.ChangeShapes Go.WideShapes Go.RowKit
theorem Ym {w w' : World} (h : Below w.heap.size w w') (row : Option Nat) : w.grownBy w' row := ⟨h.os, h.tape, h.output, h.size, fun k hk _ => h.block k hk⟩
theorem Jf {w w' : World} {B : Nat} {e : TypeId} {size n : Nat} {v : Value} {xs : List Value} (h : w.ownsRow B e size v n xs) (hb : Below w.heap.size w w') : w'.ownsRow B e size v n xs :=
 h.kept (Ym hb none) (by cases v.ownBlock with
  | none => exact .inl rfl
  | some g => exact .inr (by simp))
theorem VJ {va vb : Value} {l : List Int} (hn : l.length ≤ 1048576) (w : World) (ha : IntsAt w va l) (hb : IntsAt w vb l) :
  Calls Tryz.prog 29 #[va, vb] w fun e w' => e = .returned (.bool true) ∧ Below w.heap.size w w' := by
 obtain ⟨aa, ca, rfl, ga⟩ := ha
 obtain ⟨ab, cb, rfl, gb⟩ := hb
 have HGA : Hid (0 < l.length → ∃ g, aa = some ⟨g, 0, none⟩ ∧ g < w.heap.size ∧ ∀ j (h : j < l.length), w.cell? ⟨g, j, none⟩ = some (int i64 (l[j]))) := ga
 have HGB : Hid (0 < l.length → ∃ g, ab = some ⟨g, 0, none⟩ ∧ g < w.heap.size ∧ ∀ j (h : j < l.length), w.cell? ⟨g, j, none⟩ = some (int i64 (l[j]))) := gb
 obtain ⟨n, hl⟩ : ∃ n, n = l.length := ⟨_, rfl⟩
 rw [← hl]
 rw [← hl] at hn
 have HL : Hid (n = l.length) := hl
 have hnn : ((n : Int) != n) = false := by simp
 clear ga gb hl
 go_enter Tryz.func29, Tryz.ntmps29
 go_wp2
 go_loopw [5] (fun z wr => ∃ k : Nat, k ≤ n ∧ z = int i64 k ∧ Below w.heap.size w wr) (fun z _ => n - (intOf z).toNat)
 case atStart => exact ⟨0, Nat.zero_le _, rfl, Below.refl _ _⟩
 case round =>
  obtain ⟨k, hk, rfl, hbel⟩ := hrel
  by_cases hlt : k < n
  ·have hkl : k < l.length := by rw [← HL.out]; exact hlt
   obtain ⟨g1, rfl, hg1, ho1⟩ := HGA.out (by omega)
   obtain ⟨g2, rfl, hg2, ho2⟩ := HGB.out (by omega)
   have hc1 : wr.cell? ⟨g1, k, none⟩ = some (int i64 (l[k])) := (hbel.cell (p := ⟨g1, k, none⟩) hg1).trans (ho1 k hkl)
   have hc2 : wr.cell? ⟨g2, k, none⟩ = some (int i64 (l[k])) := (hbel.cell (p := ⟨g2, k, none⟩) hg2).trans (ho2 k hkl)
   generalize l[k] = x at *
   have hk1 : (k : Int) < n := by omega
   have hk0 : (0 : Int) ≤ k := by omega
   clear ho1 ho2 hkl
   go_wp2
   go_quiet (fail)
   have hbq := Jh hbel nq
   clear hc1 hc2 hbel
   generalize wr.drewN nq = wq at *
   go_wp2
   go_roundw
   case rel => exact ⟨k + 1, by omega, by go_num, hbq⟩
   case measure => simp [intOf]; omega
  ·have hk1 : ¬ ((k : Int) < n) := by omega
   go_wp2
   go_ret
   exact ⟨rfl, hbel⟩
end Go.Proofs.YtdknoflkingodaaGreat
