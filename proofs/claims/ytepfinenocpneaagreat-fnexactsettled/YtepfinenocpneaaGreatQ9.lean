/- What the laws' own helpers on lists of numbers do; a list th. -/
import Derived.Below
import Derived.Carry
import Derived.ChangeSlices
import Derived.ChangeVars
import Derived.OpenShut
import Derived.ProofKit
import Derived.Test.YtepfinenocpneaaGreatQ8
set_option maxHeartbeats 16000000
namespace Go.Proofs.YtepfinenocpneaaGreat
open Value (int)
open IntKind (i64)
set_option maxRecDepth 100000
set_option linter.unusedVariables false
open Go.ChangeShapes Go.WideShapes Go.RowKit
theorem Jg {a b c : World} {row : Option Nat} (h : a.grownBy b row) (k : b.grownBy c row) : a.grownBy c row :=
 ⟨k.os.trans h.os, k.tape.trans h.tape, k.output.trans h.output, Nat.le_trans h.size k.size, fun j hj hne => (k.block j (Nat.lt_of_lt_of_le hj h.size) hne).trans (h.block j hj hne)⟩
theorem Zb {w w' : World} (h : Below w.heap.size w w') (row : Option Nat) : w.grownBy w' row := ⟨h.os, h.tape, h.output, h.size, fun k hk _ => h.block k hk⟩
theorem Jh {w w' : World} {B : Nat} {e : TypeId} {size n : Nat} {v : Value} {xs : List Value} (h : w.ownsRow B e size v n xs) (hb : Below w.heap.size w w') : w'.ownsRow B e size v n xs :=
 h.kept (Zb hb none) (by cases v.ownBlock with
  | none => exact .inl rfl
  | some g => exact .inr (by simp))
def ArgInts (w : World) (v : Value) (l : List Int) : Prop :=
 l.length ≤ maxLen ∧ ∃ (aa : Option Addr) (ca : Nat), v = .slice aa l.length ca ∧ (0 < l.length → ∃ g off, aa = some ⟨g, off, none⟩ ∧ g < w.heap.size ∧ ∀ j (h : j < l.length), w.cell? ⟨g, off + j, none⟩ = some (int i64 (l[j])))
theorem ArgInts.below {w w' : World} {v : Value} {l : List Int} (h : ArgInts w v l) (hb : Below w.heap.size w w') : ArgInts w' v l := by
 obtain ⟨hm, aa, ca, rfl, hg⟩ := h
 refine ⟨hm, aa, ca, rfl, fun h0 => ?_⟩
 obtain ⟨g, off, rfl, h1, h2⟩ := hg h0
 exact ⟨g, off, rfl, Nat.lt_of_lt_of_le h1 hb.size, fun j hj => (hb.cell (p := ⟨g, off + j, none⟩) h1).trans (h2 j hj)⟩
theorem UO : Tryz.prog.cellsOf 3 = 1 := by kernel_rfl
theorem Jc8 (l : List Int) (j : Nat) (h : j < l.length) : (Je (l.take j ++ List.replicate (l.length - j) 0)).set j (Value.int .i64 l[j]) = Je (l.take (j + 1) ++ List.replicate (l.length - (j + 1)) 0) := by
 have e : l.length - j = (l.length - (j + 1)) + 1 := by omega
 rw [e, List.replicate_succ]
 unfold Je
 have hlen : (List.map (Value.int .i64) (l.take j)).length = j := by simp; omega
 rw [List.map_append, List.map_cons, List.set_append_right _ _ (by rw [hlen]; exact Nat.le_refl _), hlen, Nat.sub_self, List.set_cons_zero, List.take_succ_eq_append_getElem h, List.map_append, List.map_append, List.append_assoc]
 rfl
theorem Yz {v : Value} {l : List Int} (hn : l.length ≤ 1048576) (w : World) (ha : ArgInts w v l) :
  Calls Tryz.prog 66 #[v] w fun e w' => ∃ u, e = .returned u ∧ w'.ownsRow w.heap.size 3 1 u l.length (Je l) ∧ Below w.heap.size w w' := by
 obtain ⟨-, aa, ca, rfl, ga⟩ := ha
 have HGA : Hid (0 < l.length → ∃ g off, aa = some ⟨g, off, none⟩ ∧ g < w.heap.size ∧ ∀ j (h : j < l.length), w.cell? ⟨g, off + j, none⟩ = some (int i64 (l[j]))) := ga
 obtain ⟨n, hl⟩ : ∃ n, n = l.length := ⟨_, rfl⟩
 rw [← hl]
 rw [← hl] at hn
 have HL : Hid (n = l.length) := hl
 have hmk := GZ w n hn
 have HO : Hid ((w.alloc (.cells (Je (List.replicate n 0)).toArray 3)).ownsRow w.heap.size 3 1 (.slice (some ⟨w.heap.size, 0, none⟩) n n) n (Je (l.take 0 ++ List.replicate (l.length - 0) 0))) := by
  have e : l.take 0 ++ List.replicate (l.length - 0) 0 = List.replicate n 0 := by simp [hl]
  show World.ownsRow _ _ _ _ _ _ _
  rw [e]
  exact GP (MapKept.heap_alloc w _).1 (Nat.le_refl _) (by simp [Je]) (by unfold maxLen; omega)
 have HB : Hid (Below w.heap.size w (w.alloc (.cells (Je (List.replicate n 0)).toArray 3))) := (Below.refl _ _).alloc (Nat.le_refl _) _
 generalize w.alloc (.cells (Je (List.replicate n 0)).toArray 3) = w1 at *
 clear ga hl
 go_enter Tryz.func66, Tryz.ntmps66
 go_wp2
 go_loopw [4] (fun z wr => ∃ j : Nat, j ≤ n ∧ z = int i64 j ∧ wr.ownsRow w.heap.size 3 1 (.slice (some ⟨w.heap.size, 0, none⟩) n n) n (Je (l.take j ++ List.replicate (l.length - j) 0)) ∧ Below w.heap.size w wr) (fun z _ => n - (intOf z).toNat)
 case atStart => exact ⟨0, Nat.zero_le _, rfl, HO.out, HB.out⟩
 case round =>
  clear HO HB hmk
  obtain ⟨j, hj, rfl, hown, hbel⟩ := hrel
  by_cases hlt : j < n
  ·have hjl : j < l.length := by rw [← HL.out]; exact hlt
   obtain ⟨g, off, rfl, hg, hcc⟩ := HGA.out (by omega)
   have hj1 : (j : Int) < n := by omega
   have hj0 : (0 : Int) ≤ j := by omega
   have hc : wr.cell? ⟨g, off + j, none⟩ = some (int i64 (l[j])) := (hbel.cell (p := ⟨g, off + j, none⟩) hg).trans (hcc j hjl)
   have hd : wr.cell? ⟨w.heap.size, j, none⟩ = some (int i64 0) := by
    rw [hown.cellAt j (by omega)]
    have hlen : (l.take j).length = j := by rw [List.length_take]; omega
    have e : l.length - j = (l.length - (j + 1)) + 1 := by omega
    rw [Je, List.map_append, List.getElem?_append_right (by rw [List.length_map, hlen]; exact Nat.le_refl _), List.length_map, hlen, Nat.sub_self, e, List.replicate_succ]
    rfl
   have hf := hown.frozenAt j
   have hst := hown.stored j (Value.int .i64 l[j])
   rw [Jc8 l j hjl] at hst
   have HST : Hid ((wr.setCell ⟨w.heap.size, j, none⟩ (Value.int .i64 l[j])).ownsRow w.heap.size 3 1 (.slice (some ⟨w.heap.size, 0, none⟩) n n) n (Je (l.take (j + 1) ++ List.replicate (l.length - (j + 1)) 0))) := hst.1
   have HB : Hid (Below w.heap.size w (wr.setCell ⟨w.heap.size, j, none⟩ (Value.int .i64 l[j]))) := hbel.setCell (p := ⟨w.heap.size, j, none⟩) (Nat.le_refl _) _
   generalize l[j] = x at *
   clear hst hown hbel hcc hjl
   go_wp2
   go_roundw
   case rel => exact ⟨j + 1, by omega, by go_num, HST.out, HB.out⟩
   case measure => simp [intOf]; omega
  ·have hj1 : ¬ ((j : Int) < n) := by omega
   have HO : Hid (wr.ownsRow w.heap.size 3 1 (.slice (some ⟨w.heap.size, 0, none⟩) n n) n (Je l)) := by
    have hjn : j = l.length := by have := HL.out; omega
    rw [hjn, List.take_of_length_le (Nat.le_refl _), Nat.sub_self] at hown
    show World.ownsRow _ _ _ _ _ _ _
    simpa using hown
   clear hown
   go_wp2
   go_ret
   exact ⟨_, rfl, HO.out, hbel⟩
theorem Gc {va vb : Value} {l : List Int} (hn : l.length ≤ 1048576) (w : World) (ha : IntsAt w va l) (hb : IntsAt w vb l) :
  Calls Tryz.prog 27 #[va, vb] w fun e w' => e = .returned (.bool true) ∧ Below w.heap.size w w' := by
 obtain ⟨aa, ca, rfl, ga⟩ := ha
 obtain ⟨ab, cb, rfl, gb⟩ := hb
 have HGA : Hid (0 < l.length → ∃ g, aa = some ⟨g, 0, none⟩ ∧ g < w.heap.size ∧ ∀ j (h : j < l.length), w.cell? ⟨g, j, none⟩ = some (int i64 (l[j]))) := ga
 have HGB : Hid (0 < l.length → ∃ g, ab = some ⟨g, 0, none⟩ ∧ g < w.heap.size ∧ ∀ j (h : j < l.length), w.cell? ⟨g, j, none⟩ = some (int i64 (l[j]))) := gb
 obtain ⟨n, hl⟩ : ∃ n, n = l.length := ⟨_, rfl⟩
 rw [← hl]
 rw [← hl] at hn
 have HL : Hid (n = l.length) := hl
 have hnn : ((n : Int) != n) = false := by simp
 clear ga gb hl
 go_enter Tryz.func27, Tryz.ntmps27
 go_wp2
 go_loopw [5] (fun z wr => ∃ k : Nat, k ≤ n ∧ z = int i64 k ∧ Below w.heap.size w wr) (fun z _ => n - (intOf z).toNat)
 case atStart => exact ⟨0, Nat.zero_le _, rfl, Below.refl _ _⟩
 case round =>
  obtain ⟨k, hk, rfl, hbel⟩ := hrel
  by_cases hlt : k < n
  ·have hkl : k < l.length := by rw [← HL.out]; exact hlt
   obtain ⟨g1, rfl, hg1, ho1⟩ := HGA.out (by omega)
   obtain ⟨g2, rfl, hg2, ho2⟩ := HGB.out (by omega)
   have hc1 : wr.cell? ⟨g1, k, none⟩ = some (int i64 (l[k])) := (hbel.cell (p := ⟨g1, k, none⟩) hg1).trans (ho1 k hkl)
   have hc2 : wr.cell? ⟨g2, k, none⟩ = some (int i64 (l[k])) := (hbel.cell (p := ⟨g2, k, none⟩) hg2).trans (ho2 k hkl)
   generalize l[k] = x at *
   have hk1 : (k : Int) < n := by omega
   have hk0 : (0 : Int) ≤ k := by omega
   clear ho1 ho2 hkl
   go_wp2
   go_quiet (fail)
   have hbq := Ji hbel nq
   clear hc1 hc2 hbel
   generalize wr.drewN nq = wq at *
   go_wp2
   go_roundw
   case rel => exact ⟨k + 1, by omega, by go_num, hbq⟩
   case measure => simp [intOf]; omega
  ·have hk1 : ¬ ((k : Int) < n) := by omega
   go_wp2
   go_ret
   exact ⟨rfl, hbel⟩
def mkI (k n : Nat) : List Int := (List.range n).map fun (i : Nat) => (k : Int) + (i : Int)
theorem KW (k n : Nat) : (mkI k n).length = n := by simp [mkI]
theorem JfB (k n j : Nat) (h : j < (mkI k n).length) : (mkI k n)[j] = (k : Int) + (j : Int) := by simp [mkI]
theorem Jdm (k n : Nat) : mkI k (n + 1) = mkI k n ++ [(k : Int) + (n : Int)] := by simp [mkI, List.range_succ]
theorem Jep (k j : Nat) (l : List Int) (h : j < l.length) : (Je (mkI k j ++ l.drop j)).set j (Value.int .i64 ((k : Int) + (j : Int))) = Je (mkI k (j + 1) ++ l.drop (j + 1)) := by
 have e : mkI k j ++ l.drop j = mkI k j ++ l[j] :: l.drop (j + 1) := by rw [List.drop_eq_getElem_cons h]
 rw [e, Jdm]
 unfold Je
 have hlen : (List.map (Value.int .i64) (mkI k j)).length = j := by simp [KW]
 rw [List.map_append, List.map_cons, List.set_append_right _ _ (by rw [hlen]; exact Nat.le_refl _), hlen, Nat.sub_self, List.set_cons_zero, List.map_append, List.map_append, List.append_assoc]
 rfl
theorem Kt {v : Value} {B k : Nat} {l : List Int} (hn : l.length ≤ 1048576) (hk2 : k ≤ 1073741824) (w : World) (ho : w.ownsRow B 3 1 v l.length (Je l)) :
  Calls Tryz.prog 32 #[v, int i64 (k : Int)] w fun e w' => e = .returned (int i64 ((k : Int) + l.length)) ∧ w'.ownsRow B 3 1 v l.length (Je (mkI k l.length)) ∧ w.grownBy w' v.ownBlock := by
 obtain ⟨n, hl⟩ : ∃ n, n = l.length := ⟨_, rfl⟩
 rw [← hl]
 rw [← hl] at hn ho
 have HL : Hid (n = l.length) := hl
 have hsh : ∃ aa ca, v = .slice aa n ca ∧ (0 < n → ∃ g, aa = some ⟨g, 0, none⟩) := by
  rcases ho.2 with ⟨rfl, h0⟩ | ⟨g, cap, cur, rfl, -⟩
  ·exact ⟨none, 0, by rw [h0], fun h => by omega⟩
  ·exact ⟨_, _, rfl, fun _ => ⟨g, rfl⟩⟩
 obtain ⟨aa, ca, rfl, ga⟩ := hsh
 have HGA : Hid (0 < n → ∃ g, aa = some ⟨g, 0, none⟩) := ga
 clear ga hl
 go_enter Tryz.func32, Tryz.ntmps32
 go_wp2
 go_loopw [1, 5] (fun x z wr => ∃ j : Nat, j ≤ n ∧ z = int i64 j ∧ x = int i64 ((k : Int) + j) ∧ wr.ownsRow B 3 1 (.slice aa n ca) n (Je (mkI k j ++ l.drop j)) ∧ w.grownBy wr (Value.slice aa n ca).ownBlock) (fun _ z _ => n - (intOf z).toNat)
 case atStart => exact ⟨0, Nat.zero_le _, rfl, by simp, by simpa [mkI] using ho, ⟨rfl, rfl, rfl, Nat.le_refl _, fun _ _ _ => rfl⟩⟩
 case round =>
  clear ho
  obtain ⟨j, hj, rfl, rfl, hown, hgr⟩ := hrel
  by_cases hlt : j < n
  ·obtain ⟨g, rfl⟩ := HGA.out (by omega)
   have hjl : j < l.length := by rw [← HL.out]; exact hlt
   have hj1 : (j : Int) < n := by omega
   have hj0 : (0 : Int) ≤ j := by omega
   have hc1 : wr.cell? ⟨g, j, none⟩ = some (Value.int .i64 (l[j])) := by
    rw [hown.cellAt j (by omega)]
    unfold Je
    rw [List.map_append, List.getElem?_append_right (by simp [KW])]
    simp [KW, hjl]
   have hf1 := hown.frozenAt j
   have hst := hown.stored j (Value.int .i64 ((k : Int) + j))
   rw [Jep k j l hjl] at hst
   have HST : Hid ((wr.setCell ⟨g, j, none⟩ (Value.int .i64 ((k : Int) + j))).ownsRow B 3 1 (.slice (some ⟨g, 0, none⟩) n ca) n (Je (mkI k (j + 1) ++ l.drop (j + 1))) ∧ wr.grownBy (wr.setCell ⟨g, j, none⟩ (Value.int .i64 ((k : Int) + j))) (some g)) := hst
   generalize l[j] = x at *
   clear hst hown hjl
   go_wp2
   go_roundw
   case rel => exact ⟨j + 1, by omega, by go_num, by go_num, HST.out.1, Jg hgr HST.out.2⟩
   case measure => simp [intOf]; omega
  ·have hj1 : ¬ ((j : Int) < n) := by omega
   have hjn : j = n := by omega
   have HO : Hid (wr.ownsRow B 3 1 (.slice aa n ca) n (Je (mkI k n)) ∧ w.grownBy wr (Value.slice aa n ca).ownBlock) := by
    refine ⟨?_, hgr⟩
    rw [hjn, List.drop_of_length_le (by rw [← HL.out]; exact Nat.le_refl _), List.append_nil] at hown
    exact hown
   have HJ : Hid (j = n) := hjn
   clear hown hgr hjn
   go_wp2
   go_ret
   exact ⟨by rw [← HJ.out]; rfl, HO.out.1, HO.out.2⟩
theorem UL {v : Value} {k n : Nat} (hn : n ≤ 1048576) (hk2 : k ≤ 1073741824) (w : World) (ho : IntsAt w v (mkI k n)) :
  Calls Tryz.prog 37 #[v, int i64 (k : Int)] w fun e w' => e = .returned (int i64 ((k : Int) + n)) ∧ Below w.heap.size w w' := by
 obtain ⟨aa, ca, rfl, ga⟩ := ho
 have HGA : Hid (0 < (mkI k n).length → ∃ g, aa = some ⟨g, 0, none⟩ ∧ g < w.heap.size ∧ ∀ j (h : j < (mkI k n).length), w.cell? ⟨g, j, none⟩ = some (int i64 ((mkI k n)[j]))) := ga
 rw [KW]
 clear ga
 go_enter Tryz.func37, Tryz.ntmps37
 go_wp2
 go_loopw [1, 5] (fun x z wr => ∃ j : Nat, j ≤ n ∧ z = int i64 j ∧ x = int i64 ((k : Int) + j) ∧ Below w.heap.size w wr) (fun _ z _ => n - (intOf z).toNat)
 case atStart => exact ⟨0, Nat.zero_le _, rfl, by simp, Below.refl _ _⟩
 case round =>
  obtain ⟨j, hj, rfl, rfl, hbel⟩ := hrel
  by_cases hlt : j < n
  ·have hjl : j < (mkI k n).length := by rw [KW]; exact hlt
   obtain ⟨g, rfl, hg, hcc⟩ := HGA.out (by omega)
   have hc : wr.cell? ⟨g, j, none⟩ = some (Value.int .i64 ((k : Int) + j)) := by
    have := hcc j hjl
    rw [JfB] at this
    exact (hbel.cell (p := ⟨g, j, none⟩) hg).trans this
   have hj1 : (j : Int) < n := by omega
   have hj0 : (0 : Int) ≤ j := by omega
   clear hcc hjl
   go_wp2
   go_roundw
   case rel => exact ⟨j + 1, by omega, by go_num, by go_num, hbel⟩
   case measure => simp [intOf]; omega
  ·have hj1 : ¬ ((j : Int) < n) := by omega
   have HJ : Hid (j = n) := by show _ = _; omega
   go_wp2
   go_ret
   exact ⟨by rw [← HJ.out]; rfl, hbel⟩
open Go.RowKit
def Rw (wr : World) (lo hi : Nat) (e : TypeId) (sz : Nat) (u : Value) (n : Nat) (xs : List Value) : Prop := wr.ownsRow lo e sz u n xs ∧ ∀ k, u.ownBlock = some k → k < hi
theorem Rw.new {w : World} {lo : Nat} {e : TypeId} {sz n : Nat} {u : Value} {xs : List Value} (h : w.ownsRow lo e sz u n xs) : Rw w lo w.heap.size e sz u n xs := ⟨h, fun k hk => (h.lt k hk).2⟩
theorem G4 (r s : Int) (w : World) : Calls Tryz.prog 65 #[.agg #[int i64 r, int i64 s]] w fun e w' => e = .returned (dot r s) ∧ Below w.heap.size w w' := by
 go_enter Tryz.func65, Tryz.ntmps65
 go_wp2
 exact bodyPost_ret (Jen rfl rfl ((GG _ _ _ (by simp)).alloc _)) rfl ⟨rfl, (((Below.refl _ _).alloc (Nat.le_refl _) _).alloc (by simp) _).alloc (by simp; omega) _⟩
end Go.Proofs.YtepfinenocpneaaGreat
