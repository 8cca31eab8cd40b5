/- An act as plain data; the act in a block of its own; names; . -/
import Derived.Below
import Derived.BigCall
import Derived.BigQuiet
import Derived.Deep.QuietTactic
import Derived.Deep.RegionHeld3
import Derived.Laws.ResultCell
import Derived.Laws.Rows
import Derived.WalkMore
import Derived.Test.YtepfinenocpneaaGreatQ3
set_option maxHeartbeats 16000000
namespace Go.Proofs.YtepfinenocpneaaGreat
open Value (int)
open IntKind (i64)
set_option maxRecDepth 100000
set_option linter.unusedVariables false
open Go.RowKit
structure Ac where
 (r s t k v x z : Int)
 (o y : ByteArray)
 (l : List Int)
 deriving DecidableEq
def Ac.cs (A : Ac) (u : Value) : Array Value := #[int i64 A.r, int i64 A.s, int i64 A.t, u, int i64 A.k, .string A.o, .string A.y, int i64 A.v, int i64 A.x, int i64 A.z]
def Ac.val (A : Ac) (u : Value) : Value := .agg #[int i64 A.r, int i64 A.s, int i64 A.t, u, int i64 A.k, .string A.o, .string A.y, int i64 A.v, int i64 A.x, int i64 A.z]
def NOk (s : ByteArray) : Prop := (1 ≤ s.size ∧ s.size ≤ 8) ∧ ∀ i (h : i < s.size), 97 ≤ s[i].toNat ∧ s[i].toNat ≤ 122
instance (s : ByteArray) : Decidable (NOk s) := by unfold NOk; infer_instance
theorem Ja1 (s : ByteArray) (h : 0 < s.size) : s.toList.isEmpty = false := by
 have h' : 0 < s.data.toList.length := by simpa using h
 rw [ByteArray.toList_eq]
 cases hl : s.data.toList with
 | nil => rw [hl] at h'; simp at h'
 | cons a r => rfl
theorem ZT (s : ByteArray) (hs : s.size ≤ maxLen) (w : World) :
  Calls Tryz.prog 113 #[.string s] w fun e w' => e = .returned (.bool (decide (NOk s))) ∧ w' = w := by
 unfold maxLen at hs
 obtain ⟨q, hq⟩ : ∃ q, q = decide (NOk s) := ⟨_, rfl⟩
 rw [← hq]
 have HNO : Hid (¬ NOk s → q = false) := fun h => by rw [hq]; exact decide_eq_false h
 have HYES : Hid (NOk s → q = true) := fun h => by rw [hq]; exact decide_eq_true h
 clear hq
 by_cases h0 : s.size = 0
 ·obtain rfl : s = ByteArray.empty := by
   cases s with | mk d => cases d with | mk l => cases l with
    | nil => rfl
    | cons a b => simp [ByteArray.size] at h0
  obtain rfl : q = false := HNO.out (fun h => by have := h.1.1; simp at this)
  go_enter Tryz.func113, Tryz.ntmps113
  go_wp2
  go_ret
  exact ⟨rfl, rfl⟩
 ·have hse : s.toList.isEmpty = false := Ja1 s (by omega)
  by_cases h8 : (8 : Int) < s.size
  ·obtain rfl : q = false := HNO.out (fun h => by have := h.1.2; omega)
   go_enter Tryz.func113, Tryz.ntmps113
   go_wp2
   go_ret
   exact ⟨rfl, rfl⟩
  ·go_enter Tryz.func113, Tryz.ntmps113
   go_wp2
   go_loopw [3] (fun z wr => ∃ k : Nat, k ≤ s.size ∧ z = int i64 k ∧ (∀ i (h : i < s.size), i < k → 97 ≤ s[i].toNat ∧ s[i].toNat ≤ 122) ∧ wr = w) (fun z _ => s.size - (intOf z).toNat)
   case atStart => exact ⟨0, Nat.zero_le _, rfl, fun i h h' => by omega, rfl⟩
   case round =>
    obtain ⟨k, hk, rfl, hin, rfl⟩ := hrel
    have HIN : Hid (∀ i (h : i < s.size), i < k → 97 ≤ s[i].toNat ∧ s[i].toNat ≤ 122) := hin
    clear hin
    by_cases hlt : k < s.size
    ·have hk1 : (k : Int) < s.size := by omega
     have hk0 : (0 : Int) ≤ k := by omega
     have hb : (s[k].toNat : Int) < 256 := by have := s[k].toNat_lt; omega
     by_cases h97 : (s[k].toNat : Int) < 97
     ·obtain rfl : q = false := HNO.out (fun h => by have := (h.2 k hlt).1; omega)
      go_wp2
      go_ret
      exact ⟨rfl, rfl⟩
     ·by_cases h122 : (122 : Int) < s[k].toNat
      ·obtain rfl : q = false := HNO.out (fun h => by have := (h.2 k hlt).2; omega)
       go_wp2
       go_ret
       exact ⟨rfl, rfl⟩
      ·have HN : Hid (∀ i (h : i < s.size), i < k + 1 → 97 ≤ s[i].toNat ∧ s[i].toNat ≤ 122) := by
        intro i h hi
        rcases Nat.lt_or_ge i k with h' | h'
        ·exact HIN.out i h h'
        ·obtain rfl : i = k := by omega
         omega
       go_wp2
       go_roundw
       case rel => exact ⟨k + 1, by omega, by go_num, HN.out, trivial⟩
       case measure => simp [intOf]; omega
    ·have hk1 : ¬ ((k : Int) < s.size) := by omega
     obtain rfl : q = true := HYES.out ⟨⟨by omega, by omega⟩, fun i h => HIN.out i h (by omega)⟩
     go_wp2
     go_ret
     exact ⟨rfl, rfl⟩
theorem JO (s : ByteArray) (hs : s.size ≤ maxLen) (w : World) :
  Calls Tryz.prog 108 #[.string s] w fun e w' => e = .returned (.bool (decide (NOk s))) ∧ w' = w := by
 unfold maxLen at hs
 obtain ⟨q, hq⟩ : ∃ q, q = decide (NOk s) := ⟨_, rfl⟩
 rw [← hq]
 have HNO : Hid (¬ NOk s → q = false) := fun h => by rw [hq]; exact decide_eq_false h
 have HYES : Hid (NOk s → q = true) := fun h => by rw [hq]; exact decide_eq_true h
 clear hq
 go_enter Tryz.func108, Tryz.ntmps108
 go_wp2
 go_loopw [3] (fun z wr => ∃ k : Nat, k ≤ s.size ∧ z = int i64 k ∧ (∀ i (h : i < s.size), i < k → 97 ≤ s[i].toNat ∧ s[i].toNat ≤ 122) ∧ wr = w) (fun z _ => s.size - (intOf z).toNat)
 case atStart => exact ⟨0, Nat.zero_le _, rfl, fun i h h' => by omega, rfl⟩
 case round =>
  obtain ⟨k, hk, rfl, hin, rfl⟩ := hrel
  have HIN : Hid (∀ i (h : i < s.size), i < k → 97 ≤ s[i].toNat ∧ s[i].toNat ≤ 122) := hin
  clear hin
  by_cases hlt : k < s.size
  ·have hk1 : (k : Int) < s.size := by omega
   have hk0 : (0 : Int) ≤ k := by omega
   have hb : (s[k].toNat : Int) < 256 := by have := s[k].toNat_lt; omega
   by_cases h97 : (s[k].toNat : Int) < 97
   ·obtain rfl : q = false := HNO.out (fun h => by have := (h.2 k hlt).1; omega)
    go_wp2
    go_ret
    exact ⟨rfl, rfl⟩
   ·by_cases h122 : (122 : Int) < s[k].toNat
    ·obtain rfl : q = false := HNO.out (fun h => by have := (h.2 k hlt).2; omega)
     go_wp2
     go_ret
     exact ⟨rfl, rfl⟩
    ·have HN : Hid (∀ i (h : i < s.size), i < k + 1 → 97 ≤ s[i].toNat ∧ s[i].toNat ≤ 122) := by
      intro i h hi
      rcases Nat.lt_or_ge i k with h' | h'
      ·exact HIN.out i h h'
      ·obtain rfl : i = k := by omega
       omega
     go_wp2
     go_roundw
     case rel => exact ⟨k + 1, by omega, by go_num, HN.out, trivial⟩
     case measure => simp [intOf]; omega
  ·have hk1 : ¬ ((k : Int) < s.size) := by omega
   have HQ : Hid ((decide ((1 : Int) ≤ s.size) && decide ((s.size : Int) ≤ 8)) = q) := by
    show _ = _
    by_cases h : 1 ≤ s.size ∧ s.size ≤ 8
    ·rw [HYES.out ⟨h, fun i h => HIN.out i h (by omega)⟩]
     simp; omega
    ·rw [HNO.out (fun hn => h hn.1)]
     simp; omega
   go_wp2_with (go_at_call 84; refine (JK _ _ _ _).mono ?_; rw [HQ.out]; rintro e w1 ⟨rfl, rfl⟩)
   go_ret
   exact ⟨rfl, rfl⟩
def ActAt (w : World) (g : Nat) (A : Ac) (u : Value) : Prop := w.heap[g]? = some (.cells (A.cs u) 44 (0, 0))
theorem ActAt.lt {w : World} {g : Nat} {A : Ac} {u : Value} (h : ActAt w g A u) : g < w.heap.size := (Array.getElem?_eq_some_iff.1 h).1
theorem ActAt.alloc {w : World} {g : Nat} {A : Ac} {u : Value} (h : ActAt w g A u) (o : Obj) : ActAt (w.alloc o) g A u := (Below.heap_alloc w o g h.lt).trans h
theorem ActAt.below {w w' : World} {g B : Nat} {A : Ac} {u : Value} (h : ActAt w g A u) (hb : Below B w w') (hB : g < B) : ActAt w' g A u := (hb.block g hB).trans h
theorem ActAt.cell {w : World} {g : Nat} {A : Ac} {u : Value} (h : ActAt w g A u) (i : Nat) {v : Value} (hv : (A.cs u)[i]? = some v) : w.cell? ⟨g, i, none⟩ = some v := by unfold ActAt at h; simp [World.cell?, h, hv]
def Jjb (w : World) (g : Nat) (A : Ac) (u : Value) : Prop :=
 w.cell? ⟨g, 0, none⟩ = some (int i64 A.r) ∧ w.cell? ⟨g, 1, none⟩ = some (int i64 A.s) ∧ w.cell? ⟨g, 2, none⟩ = some (int i64 A.t) ∧ w.cell? ⟨g, 3, none⟩ = some u ∧ w.cell? ⟨g, 4, none⟩ = some (int i64 A.k) ∧
 w.cell? ⟨g, 5, none⟩ = some (.string A.o) ∧ w.cell? ⟨g, 6, none⟩ = some (.string A.y) ∧ w.cell? ⟨g, 7, none⟩ = some (int i64 A.v) ∧ w.cell? ⟨g, 8, none⟩ = some (int i64 A.x) ∧ w.cell? ⟨g, 9, none⟩ = some (int i64 A.z)
theorem ActAt.all {w : World} {g : Nat} {A : Ac} {u : Value} (h : ActAt w g A u) : Jjb w g A u :=
 ⟨h.cell 0 rfl, h.cell 1 rfl, h.cell 2 rfl, h.cell 3 rfl, h.cell 4 rfl, h.cell 5 rfl, h.cell 6 rfl, h.cell 7 rfl, h.cell 8 rfl, h.cell 9 rfl⟩
theorem VR (w : World) (A : Ac) (u : Value) {g : Nat} (hg : g = w.heap.size) : ActAt (w.alloc (.cells (A.cs u) 44)) g A u := by subst hg; exact (MapKept.heap_alloc w _).1
theorem Jea {fn : Func} {p : Tmp} (h : fn.results = #[.cell p 44]) {tmps : Array Value} {w : World} {g : Nat} {A : Ac} {u : Value} (hp : tmps.getD p undef = .pointer (some ⟨g, 0, none⟩)) (hg : ActAt w g A u) :
  (results fn tmps).run Tryz.prog w = .ok (A.val u) w := results_cell_row h tmps w g 44 _ (0, 0) _ hp hg Tryz.underlying44 rfl (by kernel_rfl)
end Go.Proofs.YtepfinenocpneaaGreat
