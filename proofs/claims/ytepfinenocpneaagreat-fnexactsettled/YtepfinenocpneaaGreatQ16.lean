/- The lives of a key: both. -/
import Derived.Test.YtepfinenocpneaaGreatQ12
import Derived.Test.YtepfinenocpneaaGreatQ13
import Derived.Test.YtepfinenocpneaaGreatQ15
set_option maxHeartbeats 16000000
namespace Go.Proofs.YtepfinenocpneaaGreat
open Value (int)
open IntKind (i64)
set_option maxRecDepth 100000
set_option linter.unusedVariables false
open Go.RowKit
theorem Zj (l : List Li) (x : Li) : liV (l ++ [x]) = liV l ++ x.cs := by simp [liV]
theorem Jr (w : World) (cs : List Value) (e : TypeId) {g : Nat} (hg : g = w.heap.size) : ∀ j u, cs[j]? = some u → (w.alloc (.cells cs.toArray e)).cell? (Addr.add ⟨g, 0, none⟩ j) = some u := by
 intro j u hj
 subst hg
 rw [Jw]
 have h : Row (w.alloc (.cells cs.toArray e)) w.heap.size cs.toArray e := Jb _ _ _ rfl
 exact h.cell j (by simpa using hj)
theorem Js (w : World) (b i : Nat) (x : Value) : w.grownBy (w.setCell ⟨b, i, none⟩ x) (some b) := ⟨rfl, rfl, rfl, by simp [World.setCell], fun k _ hk => Below.heap_setCell w _ x k (fun e => hk (by rw [e]))⟩
def mkS (x : Int) : ByteArray := ⟨(mkT x.toNat).toArray⟩
theorem KE (x : Int) (h0 : 1 ≤ x) (h1 : x ≤ 1099511627776) (w : World) : Calls Tryz.prog 33 #[int i64 x] w fun e w' => e = .returned (.string (mkS x)) ∧ Below w.heap.size w w' := JdK x h0 (by omega) w
def J9 (k n : Nat) : List Ta := (List.range n).map fun (i : Nat) => ⟨mkS ((k : Int) + 3 * (i : Int)), (k : Int) + 3 * (i : Int) + 1, (k : Int) + 3 * (i : Int) + 1 + 1⟩
theorem Z4 (k n : Nat) : (J9 k n).length = n := by simp [J9]
theorem Jcw (k n : Nat) : J9 k (n + 1) = J9 k n ++ [⟨mkS ((k : Int) + 3 * (n : Int)), (k : Int) + 3 * (n : Int) + 1, (k : Int) + 3 * (n : Int) + 1 + 1⟩] := by simp [J9, List.range_succ]
theorem Jdz (k j : Nat) (l : List Ta) (h : j < l.length) : (J9 k j ++ l.drop j).set j ⟨mkS ((k : Int) + 3 * (j : Int)), (k : Int) + 3 * (j : Int) + 1, (k : Int) + 3 * (j : Int) + 1 + 1⟩ = J9 k (j + 1) ++ l.drop (j + 1) := by
 rw [List.drop_eq_getElem_cons h, List.set_append_right _ _ (by rw [Z4]; exact Nat.le_refl _), Z4, Nat.sub_self, List.set_cons_zero, Jcw, List.append_assoc]
 rfl
theorem Jeq (k n j : Nat) (h : j < (J9 k n).length) : (J9 k n)[j] = ⟨mkS ((k : Int) + 3 * (j : Int)), (k : Int) + 3 * (j : Int) + 1, (k : Int) + 3 * (j : Int) + 1 + 1⟩ := by simp [J9]
theorem G1 {v : Value} {B k : Nat} {l : List Ta} (hn : l.length ≤ 1048576) (hk1 : 1 ≤ k) (hk2 : k ≤ 1073741824) (w : World) (ho : w.ownsRow B 86 3 v l.length (taV l)) :
  Calls Tryz.prog 34 #[v, int i64 (k : Int)] w fun e w' => e = .returned (int i64 ((k : Int) + 3 * (l.length : Int))) ∧ w'.ownsRow B 86 3 v l.length (taV (J9 k l.length)) ∧ w.grownBy w' v.ownBlock := by
 obtain ⟨n, hl⟩ : ∃ n, n = l.length := ⟨_, rfl⟩
 rw [← hl]
 rw [← hl] at hn ho
 have HL : Hid (n = l.length) := hl
 have hsh : ∃ aa ca, v = .slice aa n ca ∧ (0 < n → ∃ g, aa = some ⟨g, 0, none⟩) := by
  rcases ho.2 with ⟨rfl, h0⟩ | ⟨g, cap, cur, rfl, -⟩
  ·exact ⟨none, 0, by rw [h0], fun h => by omega⟩
  ·exact ⟨_, _, rfl, fun _ => ⟨g, rfl⟩⟩
 obtain ⟨aa, ca, rfl, ga⟩ := hsh
 have HGA : Hid (0 < n → ∃ g, aa = some ⟨g, 0, none⟩) := ga
 clear ga hl
 go_enter Tryz.func34, Tryz.ntmps34
 go_wp2
 go_loopw [1, 5] (fun x z wr => ∃ (j : Nat) (y : Int), j ≤ n ∧ z = int i64 j ∧ x = int i64 y ∧ y = (k : Int) + 3 * (j : Int) ∧ wr.ownsRow B 86 3 (.slice aa n ca) n (taV (J9 k j ++ l.drop j)) ∧ w.grownBy wr (Value.slice aa n ca).ownBlock) (fun _ z _ => n - (intOf z).toNat)
 case atStart => exact ⟨0, _, Nat.zero_le _, rfl, rfl, by simp, by simpa [J9] using ho, ⟨rfl, rfl, rfl, Nat.le_refl _, fun _ _ _ => rfl⟩⟩
 case round =>
  clear ho
  obtain ⟨j, y, hj, rfl, rfl, hy, hown, hgr⟩ := hrel
  have HY : Hid (y = (k : Int) + 3 * (j : Int)) := hy
  have HO0 := Ja hown
  have HG0 := Ja hgr
  by_cases hlt : j < n
  ·obtain ⟨g, rfl⟩ := HGA.out (by omega)
   have hjl : j < l.length := by rw [← HL.out]; exact hlt
   have hj1 : (j : Int) < n := by omega
   have hj0 : (0 : Int) ≤ j := by omega
   have hy0 : 1 ≤ y := by omega
   have hy1 : y ≤ 1099511627000 := by omega
   have hlj : j < (J9 k j ++ l.drop j).length := by rw [List.length_append, Z4, List.length_drop]; omega
   have HSETS := Ja (Jd4 (J9 k j ++ l.drop j) j hlj ⟨mkS (y), y + 1, y + 1 + 1⟩)
   have hms := Jdz k j l hjl
   rw [← hy] at hms
   rw [hms] at HSETS
   have hat := Jff (J9 k j ++ l.drop j) j hlj
   obtain ⟨h0, h1, h2⟩ := hat
   clear hown hgr hy hms hjl
   have wy1 : IntKind.i64.wrap (y + 1) = y + 1 := by rw [IntKind.wrap_i64] <;> omega
   have wy2 : IntKind.i64.wrap (y + 1 + 1) = y + 1 + 1 := by rw [IntKind.wrap_i64] <;> omega
   have ka0 : wr.cell? ⟨g, j * 3, none⟩ = some (.string (J9 k j ++ l.drop j)[j].o) := by rw [HO0.out.cellAt (j * 3) (by omega)]; (repeat rw [List.getElem?_set_ne (by omega)]); exact h0
   have fa0 := HO0.out.frozenAt (j * 3)
   have ka1 : wr.cell? ⟨g, j * 3 + 1, none⟩ = some (int i64 (J9 k j ++ l.drop j)[j].r) := by rw [HO0.out.cellAt (j * 3 + 1) (by omega)]; (repeat rw [List.getElem?_set_ne (by omega)]); exact h1
   have fa1 := HO0.out.frozenAt (j * 3 + 1)
   have ka2 : wr.cell? ⟨g, j * 3 + 2, none⟩ = some (int i64 (J9 k j ++ l.drop j)[j].n) := by rw [HO0.out.cellAt (j * 3 + 2) (by omega)]; (repeat rw [List.getElem?_set_ne (by omega)]); exact h2
   have fa2 := HO0.out.frozenAt (j * 3 + 2)
   go_wp2_with fail
   clear ka0 fa0 ka1 fa1 ka2 fa2
   refine (KE (y) (by omega) (by omega) _).mono ?_
   rintro e x1 ⟨rfl, hb⟩
   have HO1 : Hid (x1.ownsRow B 86 3 (.slice (some ⟨g, 0, none⟩) n ca) n (taV (J9 k j ++ l.drop j))) := Jh HO0.out hb
   have HG1 : Hid (w.grownBy x1 (some g)) := Jg HG0.out (Zb hb _)
   clear hb
   have kc0 : x1.cell? ⟨g, j * 3, none⟩ = some (.string (J9 k j ++ l.drop j)[j].o) := by rw [HO1.out.cellAt (j * 3) (by omega)]; (repeat rw [List.getElem?_set_ne (by omega)]); exact h0
   have fc0 := HO1.out.frozenAt (j * 3)
   have kc1 : x1.cell? ⟨g, j * 3 + 1, none⟩ = some (int i64 (J9 k j ++ l.drop j)[j].r) := by rw [HO1.out.cellAt (j * 3 + 1) (by omega)]; (repeat rw [List.getElem?_set_ne (by omega)]); exact h1
   have fc1 := HO1.out.frozenAt (j * 3 + 1)
   have kc2 : x1.cell? ⟨g, j * 3 + 2, none⟩ = some (int i64 (J9 k j ++ l.drop j)[j].n) := by rw [HO1.out.cellAt (j * 3 + 2) (by omega)]; (repeat rw [List.getElem?_set_ne (by omega)]); exact h2
   have fc2 := HO1.out.frozenAt (j * 3 + 2)
   have HOZ : Hid ((((x1.setCell ⟨g, j * 3, none⟩ (.string (mkS (y)))).setCell ⟨g, j * 3 + 1, none⟩ (int i64 (y + 1))).setCell ⟨g, j * 3 + 2, none⟩ (int i64 (y + 1 + 1))).ownsRow B 86 3 (.slice (some ⟨g, 0, none⟩) n ca) n (taV (J9 k (j + 1) ++ l.drop (j + 1)))) := by
    have := (((HO1.out.stored (j * 3) (.string (mkS (y)))).1.stored (j * 3 + 1) (int i64 (y + 1))).1.stored (j * 3 + 2) (int i64 (y + 1 + 1))).1
    rw [HSETS.out] at this
    exact this
   have HGZ : Hid (w.grownBy (((x1.setCell ⟨g, j * 3, none⟩ (.string (mkS (y)))).setCell ⟨g, j * 3 + 1, none⟩ (int i64 (y + 1))).setCell ⟨g, j * 3 + 2, none⟩ (int i64 (y + 1 + 1))) (some g)) := (Jg (Jg (Jg HG1.out (Js _ _ _ _)) (Js _ _ _ _)) (Js _ _ _ _))
   have wyl : IntKind.i64.wrap (y + 1 + 1 + 1) = y + 1 + 1 + 1 := by rw [IntKind.wrap_i64] <;> omega
   clear HSETS
   go_wp2
   go_roundw
   case rel => exact ⟨j + 1, y + 1 + 1 + 1, by omega, by go_num, rfl, by have := HY.out; omega, HOZ.out, HGZ.out⟩
   case measure => simp [intOf]; omega
  ·have hj1 : ¬ ((j : Int) < n) := by omega
   have hjn : j = n := by omega
   have HO : Hid (wr.ownsRow B 86 3 (.slice aa n ca) n (taV (J9 k n)) ∧ w.grownBy wr (Value.slice aa n ca).ownBlock) := by
    refine ⟨?_, hgr⟩
    rw [hjn, List.drop_of_length_le (by rw [← HL.out]; exact Nat.le_refl _), List.append_nil] at hown
    exact hown
   have HR : Hid (y = (k : Int) + 3 * (n : Int)) := by show _ = _; rw [HY.out, hjn]
   clear hown hgr hjn hy HO0 HG0
   go_wp2
   go_ret
   exact ⟨by rw [← HR.out]; rfl, HO.out.1, HO.out.2⟩
def JR (k n : Nat) : List Li := (List.range n).map fun (i : Nat) => ⟨(((k : Int) + 6 * (i : Int)) % 3 == 0), mkS ((k : Int) + 6 * (i : Int) + 1), mkS ((k : Int) + 6 * (i : Int) + 1 + 1), (k : Int) + 6 * (i : Int) + 1 + 1 + 1, (k : Int) + 6 * (i : Int) + 1 + 1 + 1 + 1, (k : Int) + 6 * (i : Int) + 1 + 1 + 1 + 1 + 1⟩
theorem ZV (k n : Nat) : (JR k n).length = n := by simp [JR]
theorem Jcj (k n : Nat) : JR k (n + 1) = JR k n ++ [⟨(((k : Int) + 6 * (n : Int)) % 3 == 0), mkS ((k : Int) + 6 * (n : Int) + 1), mkS ((k : Int) + 6 * (n : Int) + 1 + 1), (k : Int) + 6 * (n : Int) + 1 + 1 + 1, (k : Int) + 6 * (n : Int) + 1 + 1 + 1 + 1, (k : Int) + 6 * (n : Int) + 1 + 1 + 1 + 1 + 1⟩] := by simp [JR, List.range_succ]
theorem JcB (k j : Nat) (l : List Li) (h : j < l.length) : (JR k j ++ l.drop j).set j ⟨(((k : Int) + 6 * (j : Int)) % 3 == 0), mkS ((k : Int) + 6 * (j : Int) + 1), mkS ((k : Int) + 6 * (j : Int) + 1 + 1), (k : Int) + 6 * (j : Int) + 1 + 1 + 1, (k : Int) + 6 * (j : Int) + 1 + 1 + 1 + 1, (k : Int) + 6 * (j : Int) + 1 + 1 + 1 + 1 + 1⟩ = JR k (j + 1) ++ l.drop (j + 1) := by
 rw [List.drop_eq_getElem_cons h, List.set_append_right _ _ (by rw [ZV]; exact Nat.le_refl _), ZV, Nat.sub_self, List.set_cons_zero, Jcj, List.append_assoc]
 rfl
theorem Jeo (k n j : Nat) (h : j < (JR k n).length) : (JR k n)[j] = ⟨(((k : Int) + 6 * (j : Int)) % 3 == 0), mkS ((k : Int) + 6 * (j : Int) + 1), mkS ((k : Int) + 6 * (j : Int) + 1 + 1), (k : Int) + 6 * (j : Int) + 1 + 1 + 1, (k : Int) + 6 * (j : Int) + 1 + 1 + 1 + 1, (k : Int) + 6 * (j : Int) + 1 + 1 + 1 + 1 + 1⟩ := by simp [JR]
theorem G9 {v : Value} {B k : Nat} {l : List Li} (hn : l.length ≤ 1048576) (hk1 : 1 ≤ k) (hk2 : k ≤ 1073741824) (w : World) (ho : w.ownsRow B 88 6 v l.length (liV l)) :
  Calls Tryz.prog 35 #[v, int i64 (k : Int)] w fun e w' => e = .returned (int i64 ((k : Int) + 6 * (l.length : Int))) ∧ w'.ownsRow B 88 6 v l.length (liV (JR k l.length)) ∧ w.grownBy w' v.ownBlock := by
 obtain ⟨n, hl⟩ : ∃ n, n = l.length := ⟨_, rfl⟩
 rw [← hl]
 rw [← hl] at hn ho
 have HL : Hid (n = l.length) := hl
 have hsh : ∃ aa ca, v = .slice aa n ca ∧ (0 < n → ∃ g, aa = some ⟨g, 0, none⟩) := by
  rcases ho.2 with ⟨rfl, h0⟩ | ⟨g, cap, cur, rfl, -⟩
  ·exact ⟨none, 0, by rw [h0], fun h => by omega⟩
  ·exact ⟨_, _, rfl, fun _ => ⟨g, rfl⟩⟩
 obtain ⟨aa, ca, rfl, ga⟩ := hsh
 have HGA : Hid (0 < n → ∃ g, aa = some ⟨g, 0, none⟩) := ga
 clear ga hl
 go_enter Tryz.func35, Tryz.ntmps35
 go_wp2
 go_loopw [1, 5] (fun x z wr => ∃ (j : Nat) (y : Int), j ≤ n ∧ z = int i64 j ∧ x = int i64 y ∧ y = (k : Int) + 6 * (j : Int) ∧ wr.ownsRow B 88 6 (.slice aa n ca) n (liV (JR k j ++ l.drop j)) ∧ w.grownBy wr (Value.slice aa n ca).ownBlock) (fun _ z _ => n - (intOf z).toNat)
 case atStart => exact ⟨0, _, Nat.zero_le _, rfl, rfl, by simp, by simpa [JR] using ho, ⟨rfl, rfl, rfl, Nat.le_refl _, fun _ _ _ => rfl⟩⟩
 case round =>
  clear ho
  obtain ⟨j, y, hj, rfl, rfl, hy, hown, hgr⟩ := hrel
  have HY : Hid (y = (k : Int) + 6 * (j : Int)) := hy
  have HO0 := Ja hown
  have HG0 := Ja hgr
  by_cases hlt : j < n
  ·obtain ⟨g, rfl⟩ := HGA.out (by omega)
   have hjl : j < l.length := by rw [← HL.out]; exact hlt
   have hj1 : (j : Int) < n := by omega
   have hj0 : (0 : Int) ≤ j := by omega
   have hy0 : 1 ≤ y := by omega
   have hy1 : y ≤ 1099511627000 := by omega
   have hlj : j < (JR k j ++ l.drop j).length := by rw [List.length_append, ZV, List.length_drop]; omega
   have HSETS := Ja (Jeb (JR k j ++ l.drop j) j hlj ⟨((y) % 3 == 0), mkS (y + 1), mkS (y + 1 + 1), y + 1 + 1 + 1, y + 1 + 1 + 1 + 1, y + 1 + 1 + 1 + 1 + 1⟩)
   have hms := JcB k j l hjl
   rw [← hy] at hms
   rw [hms] at HSETS
   have hat := Jfd (JR k j ++ l.drop j) j hlj
   obtain ⟨h0, h1, h2, h3, h4, h5⟩ := hat
   clear hown hgr hy hms hjl
   have wy1 : IntKind.i64.wrap (y + 1) = y + 1 := by rw [IntKind.wrap_i64] <;> omega
   have wy2 : IntKind.i64.wrap (y + 1 + 1) = y + 1 + 1 := by rw [IntKind.wrap_i64] <;> omega
   have wy3 : IntKind.i64.wrap (y + 1 + 1 + 1) = y + 1 + 1 + 1 := by rw [IntKind.wrap_i64] <;> omega
   have wy4 : IntKind.i64.wrap (y + 1 + 1 + 1 + 1) = y + 1 + 1 + 1 + 1 := by rw [IntKind.wrap_i64] <;> omega
   have wy5 : IntKind.i64.wrap (y + 1 + 1 + 1 + 1 + 1) = y + 1 + 1 + 1 + 1 + 1 := by rw [IntKind.wrap_i64] <;> omega
   have ka0 : wr.cell? ⟨g, j * 6, none⟩ = some (.bool (JR k j ++ l.drop j)[j].m) := by rw [HO0.out.cellAt (j * 6) (by omega)]; (repeat rw [List.getElem?_set_ne (by omega)]); exact h0
   have fa0 := HO0.out.frozenAt (j * 6)
   have ka1 : wr.cell? ⟨g, j * 6 + 1, none⟩ = some (.string (JR k j ++ l.drop j)[j].o) := by rw [HO0.out.cellAt (j * 6 + 1) (by omega)]; (repeat rw [List.getElem?_set_ne (by omega)]); exact h1
   have fa1 := HO0.out.frozenAt (j * 6 + 1)
   have ka2 : wr.cell? ⟨g, j * 6 + 2, none⟩ = some (.string (JR k j ++ l.drop j)[j].y) := by rw [HO0.out.cellAt (j * 6 + 2) (by omega)]; (repeat rw [List.getElem?_set_ne (by omega)]); exact h2
   have fa2 := HO0.out.frozenAt (j * 6 + 2)
   have ka3 : wr.cell? ⟨g, j * 6 + 3, none⟩ = some (int i64 (JR k j ++ l.drop j)[j].v) := by rw [HO0.out.cellAt (j * 6 + 3) (by omega)]; (repeat rw [List.getElem?_set_ne (by omega)]); exact h3
   have fa3 := HO0.out.frozenAt (j * 6 + 3)
   have ka4 : wr.cell? ⟨g, j * 6 + 4, none⟩ = some (int i64 (JR k j ++ l.drop j)[j].r) := by rw [HO0.out.cellAt (j * 6 + 4) (by omega)]; (repeat rw [List.getElem?_set_ne (by omega)]); exact h4
   have fa4 := HO0.out.frozenAt (j * 6 + 4)
   have ka5 : wr.cell? ⟨g, j * 6 + 5, none⟩ = some (int i64 (JR k j ++ l.drop j)[j].s) := by rw [HO0.out.cellAt (j * 6 + 5) (by omega)]; (repeat rw [List.getElem?_set_ne (by omega)]); exact h5
   have fa5 := HO0.out.frozenAt (j * 6 + 5)
   obtain ⟨X1, hX1⟩ : ∃ X, X = wr.setCell ⟨g, j * 6, none⟩ (.bool (((y) % 3 == 0))) := ⟨_, rfl⟩
   have HO1 : Hid (X1.ownsRow B 88 6 (.slice (some ⟨g, 0, none⟩) n ca) n ((liV (JR k j ++ l.drop j)).set (j * 6) (.bool (((y) % 3 == 0))))) := by rw [hX1]; exact (HO0.out.stored (j * 6) (.bool (((y) % 3 == 0)))).1
   have HG1 : Hid (w.grownBy X1 (some g)) := by rw [hX1]; exact (Jg HG0.out (Js _ _ _ _))
   have HX1 : Hid (wr.setCell ⟨g, j * 6, none⟩ (.bool (((y) % 3 == 0))) = X1) := hX1.symm
   clear hX1
   go_wp2_with fail
   rw [HX1.out]
   clear ka0 fa0 ka1 fa1 ka2 fa2 ka3 fa3 ka4 fa4 ka5 fa5 HX1
   refine (KE (y + 1) (by omega) (by omega) _).mono ?_
   rintro e x2 ⟨rfl, hb⟩
   have HO2 : Hid (x2.ownsRow B 88 6 (.slice (some ⟨g, 0, none⟩) n ca) n ((liV (JR k j ++ l.drop j)).set (j * 6) (.bool (((y) % 3 == 0))))) := Jh HO1.out hb
   have HG2 : Hid (w.grownBy x2 (some g)) := Jg HG1.out (Zb hb _)
   clear hb
   have kd1 : x2.cell? ⟨g, j * 6 + 1, none⟩ = some (.string (JR k j ++ l.drop j)[j].o) := by rw [HO2.out.cellAt (j * 6 + 1) (by omega)]; (repeat rw [List.getElem?_set_ne (by omega)]); exact h1
   have fd1 := HO2.out.frozenAt (j * 6 + 1)
   have kd2 : x2.cell? ⟨g, j * 6 + 2, none⟩ = some (.string (JR k j ++ l.drop j)[j].y) := by rw [HO2.out.cellAt (j * 6 + 2) (by omega)]; (repeat rw [List.getElem?_set_ne (by omega)]); exact h2
   have fd2 := HO2.out.frozenAt (j * 6 + 2)
   have kd3 : x2.cell? ⟨g, j * 6 + 3, none⟩ = some (int i64 (JR k j ++ l.drop j)[j].v) := by rw [HO2.out.cellAt (j * 6 + 3) (by omega)]; (repeat rw [List.getElem?_set_ne (by omega)]); exact h3
   have fd3 := HO2.out.frozenAt (j * 6 + 3)
   have kd4 : x2.cell? ⟨g, j * 6 + 4, none⟩ = some (int i64 (JR k j ++ l.drop j)[j].r) := by rw [HO2.out.cellAt (j * 6 + 4) (by omega)]; (repeat rw [List.getElem?_set_ne (by omega)]); exact h4
   have fd4 := HO2.out.frozenAt (j * 6 + 4)
   have kd5 : x2.cell? ⟨g, j * 6 + 5, none⟩ = some (int i64 (JR k j ++ l.drop j)[j].s) := by rw [HO2.out.cellAt (j * 6 + 5) (by omega)]; (repeat rw [List.getElem?_set_ne (by omega)]); exact h5
   have fd5 := HO2.out.frozenAt (j * 6 + 5)
   obtain ⟨X3, hX3⟩ : ∃ X, X = x2.setCell ⟨g, j * 6 + 1, none⟩ (.string (mkS (y + 1))) := ⟨_, rfl⟩
   have HO3 : Hid (X3.ownsRow B 88 6 (.slice (some ⟨g, 0, none⟩) n ca) n (((liV (JR k j ++ l.drop j)).set (j * 6) (.bool (((y) % 3 == 0)))).set (j * 6 + 1) (.string (mkS (y + 1))))) := by rw [hX3]; exact (HO2.out.stored (j * 6 + 1) (.string (mkS (y + 1)))).1
   have HG3 : Hid (w.grownBy X3 (some g)) := by rw [hX3]; exact (Jg HG2.out (Js _ _ _ _))
   have HX3 : Hid (x2.setCell ⟨g, j * 6 + 1, none⟩ (.string (mkS (y + 1))) = X3) := hX3.symm
   clear hX3
   go_wp2_with fail
   rw [HX3.out]
   clear kd1 fd1 kd2 fd2 kd3 fd3 kd4 fd4 kd5 fd5 HX3
   refine (KE (y + 1 + 1) (by omega) (by omega) _).mono ?_
   rintro e x4 ⟨rfl, hb⟩
   have HO4 : Hid (x4.ownsRow B 88 6 (.slice (some ⟨g, 0, none⟩) n ca) n (((liV (JR k j ++ l.drop j)).set (j * 6) (.bool (((y) % 3 == 0)))).set (j * 6 + 1) (.string (mkS (y + 1))))) := Jh HO3.out hb
   have HG4 : Hid (w.grownBy x4 (some g)) := Jg HG3.out (Zb hb _)
   clear hb
   have kf2 : x4.cell? ⟨g, j * 6 + 2, none⟩ = some (.string (JR k j ++ l.drop j)[j].y) := by rw [HO4.out.cellAt (j * 6 + 2) (by omega)]; (repeat rw [List.getElem?_set_ne (by omega)]); exact h2
   have ff2 := HO4.out.frozenAt (j * 6 + 2)
   have kf3 : x4.cell? ⟨g, j * 6 + 3, none⟩ = some (int i64 (JR k j ++ l.drop j)[j].v) := by rw [HO4.out.cellAt (j * 6 + 3) (by omega)]; (repeat rw [List.getElem?_set_ne (by omega)]); exact h3
   have ff3 := HO4.out.frozenAt (j * 6 + 3)
   have kf4 : x4.cell? ⟨g, j * 6 + 4, none⟩ = some (int i64 (JR k j ++ l.drop j)[j].r) := by rw [HO4.out.cellAt (j * 6 + 4) (by omega)]; (repeat rw [List.getElem?_set_ne (by omega)]); exact h4
   have ff4 := HO4.out.frozenAt (j * 6 + 4)
   have kf5 : x4.cell? ⟨g, j * 6 + 5, none⟩ = some (int i64 (JR k j ++ l.drop j)[j].s) := by rw [HO4.out.cellAt (j * 6 + 5) (by omega)]; (repeat rw [List.getElem?_set_ne (by omega)]); exact h5
   have ff5 := HO4.out.frozenAt (j * 6 + 5)
   have HOZ : Hid (((((x4.setCell ⟨g, j * 6 + 2, none⟩ (.string (mkS (y + 1 + 1)))).setCell ⟨g, j * 6 + 3, none⟩ (int i64 (y + 1 + 1 + 1))).setCell ⟨g, j * 6 + 4, none⟩ (int i64 (y + 1 + 1 + 1 + 1))).setCell ⟨g, j * 6 + 5, none⟩ (int i64 (y + 1 + 1 + 1 + 1 + 1))).ownsRow B 88 6 (.slice (some ⟨g, 0, none⟩) n ca) n (liV (JR k (j + 1) ++ l.drop (j + 1)))) := by
    have := ((((HO4.out.stored (j * 6 + 2) (.string (mkS (y + 1 + 1)))).1.stored (j * 6 + 3) (int i64 (y + 1 + 1 + 1))).1.stored (j * 6 + 4) (int i64 (y + 1 + 1 + 1 + 1))).1.stored (j * 6 + 5) (int i64 (y + 1 + 1 + 1 + 1 + 1))).1
    rw [HSETS.out] at this
    exact this
   have HGZ : Hid (w.grownBy ((((x4.setCell ⟨g, j * 6 + 2, none⟩ (.string (mkS (y + 1 + 1)))).setCell ⟨g, j * 6 + 3, none⟩ (int i64 (y + 1 + 1 + 1))).setCell ⟨g, j * 6 + 4, none⟩ (int i64 (y + 1 + 1 + 1 + 1))).setCell ⟨g, j * 6 + 5, none⟩ (int i64 (y + 1 + 1 + 1 + 1 + 1))) (some g)) := (Jg (Jg (Jg (Jg HG4.out (Js _ _ _ _)) (Js _ _ _ _)) (Js _ _ _ _)) (Js _ _ _ _))
   have wyl : IntKind.i64.wrap (y + 1 + 1 + 1 + 1 + 1 + 1) = y + 1 + 1 + 1 + 1 + 1 + 1 := by rw [IntKind.wrap_i64] <;> omega
   clear HSETS
   go_wp2
   go_roundw
   case rel => exact ⟨j + 1, y + 1 + 1 + 1 + 1 + 1 + 1, by omega, by go_num, rfl, by have := HY.out; omega, HOZ.out, HGZ.out⟩
   case measure => simp [intOf]; omega
  ·have hj1 : ¬ ((j : Int) < n) := by omega
   have hjn : j = n := by omega
   have HO : Hid (wr.ownsRow B 88 6 (.slice aa n ca) n (liV (JR k n)) ∧ w.grownBy wr (Value.slice aa n ca).ownBlock) := by
    refine ⟨?_, hgr⟩
    rw [hjn, List.drop_of_length_le (by rw [← HL.out]; exact Nat.le_refl _), List.append_nil] at hown
    exact hown
   have HR : Hid (y = (k : Int) + 6 * (n : Int)) := by show _ = _; rw [HY.out, hjn]
   clear hown hgr hjn hy HO0 HG0
   go_wp2
   go_ret
   exact ⟨by rw [← HR.out]; rfl, HO.out.1, HO.out.2⟩
def JW (k n : Nat) : List Ce := (List.range n).map fun (i : Nat) => ⟨mkS ((k : Int) + 8 * (i : Int)), (k : Int) + 8 * (i : Int) + 1, (k : Int) + 8 * (i : Int) + 1 + 1, (k : Int) + 8 * (i : Int) + 1 + 1 + 1, (k : Int) + 8 * (i : Int) + 1 + 1 + 1 + 1, (k : Int) + 8 * (i : Int) + 1 + 1 + 1 + 1 + 1, (k : Int) + 8 * (i : Int) + 1 + 1 + 1 + 1 + 1 + 1, (((k : Int) + 8 * (i : Int) + 1 + 1 + 1 + 1 + 1 + 1 + 1) % 3 == 0)⟩
theorem ZY (k n : Nat) : (JW k n).length = n := by simp [JW]
theorem JbS (k n : Nat) : JW k (n + 1) = JW k n ++ [⟨mkS ((k : Int) + 8 * (n : Int)), (k : Int) + 8 * (n : Int) + 1, (k : Int) + 8 * (n : Int) + 1 + 1, (k : Int) + 8 * (n : Int) + 1 + 1 + 1, (k : Int) + 8 * (n : Int) + 1 + 1 + 1 + 1, (k : Int) + 8 * (n : Int) + 1 + 1 + 1 + 1 + 1, (k : Int) + 8 * (n : Int) + 1 + 1 + 1 + 1 + 1 + 1, (((k : Int) + 8 * (n : Int) + 1 + 1 + 1 + 1 + 1 + 1 + 1) % 3 == 0)⟩] := by simp [JW, List.range_succ]
theorem Jc5 (k j : Nat) (l : List Ce) (h : j < l.length) : (JW k j ++ l.drop j).set j ⟨mkS ((k : Int) + 8 * (j : Int)), (k : Int) + 8 * (j : Int) + 1, (k : Int) + 8 * (j : Int) + 1 + 1, (k : Int) + 8 * (j : Int) + 1 + 1 + 1, (k : Int) + 8 * (j : Int) + 1 + 1 + 1 + 1, (k : Int) + 8 * (j : Int) + 1 + 1 + 1 + 1 + 1, (k : Int) + 8 * (j : Int) + 1 + 1 + 1 + 1 + 1 + 1, (((k : Int) + 8 * (j : Int) + 1 + 1 + 1 + 1 + 1 + 1 + 1) % 3 == 0)⟩ = JW k (j + 1) ++ l.drop (j + 1) := by
 rw [List.drop_eq_getElem_cons h, List.set_append_right _ _ (by rw [ZY]; exact Nat.le_refl _), ZY, Nat.sub_self, List.set_cons_zero, JbS, List.append_assoc]
 rfl
theorem Jec (k n j : Nat) (h : j < (JW k n).length) : (JW k n)[j] = ⟨mkS ((k : Int) + 8 * (j : Int)), (k : Int) + 8 * (j : Int) + 1, (k : Int) + 8 * (j : Int) + 1 + 1, (k : Int) + 8 * (j : Int) + 1 + 1 + 1, (k : Int) + 8 * (j : Int) + 1 + 1 + 1 + 1, (k : Int) + 8 * (j : Int) + 1 + 1 + 1 + 1 + 1, (k : Int) + 8 * (j : Int) + 1 + 1 + 1 + 1 + 1 + 1, (((k : Int) + 8 * (j : Int) + 1 + 1 + 1 + 1 + 1 + 1 + 1) % 3 == 0)⟩ := by simp [JW]
theorem Ua {v : Value} {B k : Nat} {l : List Ce} (hn : l.length ≤ 1048576) (hk1 : 1 ≤ k) (hk2 : k ≤ 1073741824) (w : World) (ho : w.ownsRow B 90 8 v l.length (ceV l)) :
  Calls Tryz.prog 36 #[v, int i64 (k : Int)] w fun e w' => e = .returned (int i64 ((k : Int) + 8 * (l.length : Int))) ∧ w'.ownsRow B 90 8 v l.length (ceV (JW k l.length)) ∧ w.grownBy w' v.ownBlock := by
 obtain ⟨n, hl⟩ : ∃ n, n = l.length := ⟨_, rfl⟩
 rw [← hl]
 rw [← hl] at hn ho
 have HL : Hid (n = l.length) := hl
 have hsh : ∃ aa ca, v = .slice aa n ca ∧ (0 < n → ∃ g, aa = some ⟨g, 0, none⟩) := by
  rcases ho.2 with ⟨rfl, h0⟩ | ⟨g, cap, cur, rfl, -⟩
  ·exact ⟨none, 0, by rw [h0], fun h => by omega⟩
  ·exact ⟨_, _, rfl, fun _ => ⟨g, rfl⟩⟩
 obtain ⟨aa, ca, rfl, ga⟩ := hsh
 have HGA : Hid (0 < n → ∃ g, aa = some ⟨g, 0, none⟩) := ga
 clear ga hl
 go_enter Tryz.func36, Tryz.ntmps36
 go_wp2
 go_loopw [1, 5] (fun x z wr => ∃ (j : Nat) (y : Int), j ≤ n ∧ z = int i64 j ∧ x = int i64 y ∧ y = (k : Int) + 8 * (j : Int) ∧ wr.ownsRow B 90 8 (.slice aa n ca) n (ceV (JW k j ++ l.drop j)) ∧ w.grownBy wr (Value.slice aa n ca).ownBlock) (fun _ z _ => n - (intOf z).toNat)
 case atStart => exact ⟨0, _, Nat.zero_le _, rfl, rfl, by simp, by simpa [JW] using ho, ⟨rfl, rfl, rfl, Nat.le_refl _, fun _ _ _ => rfl⟩⟩
 case round =>
  clear ho
  obtain ⟨j, y, hj, rfl, rfl, hy, hown, hgr⟩ := hrel
  have HY : Hid (y = (k : Int) + 8 * (j : Int)) := hy
  have HO0 := Ja hown
  have HG0 := Ja hgr
  by_cases hlt : j < n
  ·obtain ⟨g, rfl⟩ := HGA.out (by omega)
   have hjl : j < l.length := by rw [← HL.out]; exact hlt
   have hj1 : (j : Int) < n := by omega
   have hj0 : (0 : Int) ≤ j := by omega
   have hy0 : 1 ≤ y := by omega
   have hy1 : y ≤ 1099511627000 := by omega
   have hlj : j < (JW k j ++ l.drop j).length := by rw [List.length_append, ZY, List.length_drop]; omega
   have HSETS := Ja (Jd5 (JW k j ++ l.drop j) j hlj ⟨mkS (y), y + 1, y + 1 + 1, y + 1 + 1 + 1, y + 1 + 1 + 1 + 1, y + 1 + 1 + 1 + 1 + 1, y + 1 + 1 + 1 + 1 + 1 + 1, ((y + 1 + 1 + 1 + 1 + 1 + 1 + 1) % 3 == 0)⟩)
   have hms := Jc5 k j l hjl
   rw [← hy] at hms
   rw [hms] at HSETS
   have hat := Jfh (JW k j ++ l.drop j) j hlj
   obtain ⟨h0, h1, h2, h3, h4, h5, h6, h7⟩ := hat
   clear hown hgr hy hms hjl
   have wy1 : IntKind.i64.wrap (y + 1) = y + 1 := by rw [IntKind.wrap_i64] <;> omega
   have wy2 : IntKind.i64.wrap (y + 1 + 1) = y + 1 + 1 := by rw [IntKind.wrap_i64] <;> omega
   have wy3 : IntKind.i64.wrap (y + 1 + 1 + 1) = y + 1 + 1 + 1 := by rw [IntKind.wrap_i64] <;> omega
   have wy4 : IntKind.i64.wrap (y + 1 + 1 + 1 + 1) = y + 1 + 1 + 1 + 1 := by rw [IntKind.wrap_i64] <;> omega
   have wy5 : IntKind.i64.wrap (y + 1 + 1 + 1 + 1 + 1) = y + 1 + 1 + 1 + 1 + 1 := by rw [IntKind.wrap_i64] <;> omega
   have wy6 : IntKind.i64.wrap (y + 1 + 1 + 1 + 1 + 1 + 1) = y + 1 + 1 + 1 + 1 + 1 + 1 := by rw [IntKind.wrap_i64] <;> omega
   have wy7 : IntKind.i64.wrap (y + 1 + 1 + 1 + 1 + 1 + 1 + 1) = y + 1 + 1 + 1 + 1 + 1 + 1 + 1 := by rw [IntKind.wrap_i64] <;> omega
   have ka0 : wr.cell? ⟨g, j * 8, none⟩ = some (.string (JW k j ++ l.drop j)[j].o) := by rw [HO0.out.cellAt (j * 8) (by omega)]; (repeat rw [List.getElem?_set_ne (by omega)]); exact h0
   have fa0 := HO0.out.frozenAt (j * 8)
   have ka1 : wr.cell? ⟨g, j * 8 + 1, none⟩ = some (int i64 (JW k j ++ l.drop j)[j].r) := by rw [HO0.out.cellAt (j * 8 + 1) (by omega)]; (repeat rw [List.getElem?_set_ne (by omega)]); exact h1
   have fa1 := HO0.out.frozenAt (j * 8 + 1)
   have ka2 : wr.cell? ⟨g, j * 8 + 2, none⟩ = some (int i64 (JW k j ++ l.drop j)[j].s) := by rw [HO0.out.cellAt (j * 8 + 2) (by omega)]; (repeat rw [List.getElem?_set_ne (by omega)]); exact h2
   have fa2 := HO0.out.frozenAt (j * 8 + 2)
   have ka3 : wr.cell? ⟨g, j * 8 + 3, none⟩ = some (int i64 (JW k j ++ l.drop j)[j].t) := by rw [HO0.out.cellAt (j * 8 + 3) (by omega)]; (repeat rw [List.getElem?_set_ne (by omega)]); exact h3
   have fa3 := HO0.out.frozenAt (j * 8 + 3)
   have ka4 : wr.cell? ⟨g, j * 8 + 4, none⟩ = some (int i64 (JW k j ++ l.drop j)[j].x) := by rw [HO0.out.cellAt (j * 8 + 4) (by omega)]; (repeat rw [List.getElem?_set_ne (by omega)]); exact h4
   have fa4 := HO0.out.frozenAt (j * 8 + 4)
   have ka5 : wr.cell? ⟨g, j * 8 + 5, none⟩ = some (int i64 (JW k j ++ l.drop j)[j].z) := by rw [HO0.out.cellAt (j * 8 + 5) (by omega)]; (repeat rw [List.getElem?_set_ne (by omega)]); exact h5
   have fa5 := HO0.out.frozenAt (j * 8 + 5)
   have ka6 : wr.cell? ⟨g, j * 8 + 6, none⟩ = some (int i64 (JW k j ++ l.drop j)[j].v) := by rw [HO0.out.cellAt (j * 8 + 6) (by omega)]; (repeat rw [List.getElem?_set_ne (by omega)]); exact h6
   have fa6 := HO0.out.frozenAt (j * 8 + 6)
   have ka7 : wr.cell? ⟨g, j * 8 + 7, none⟩ = some (.bool (JW k j ++ l.drop j)[j].g) := by rw [HO0.out.cellAt (j * 8 + 7) (by omega)]; (repeat rw [List.getElem?_set_ne (by omega)]); exact h7
   have fa7 := HO0.out.frozenAt (j * 8 + 7)
   go_wp2_with fail
   clear ka0 fa0 ka1 fa1 ka2 fa2 ka3 fa3 ka4 fa4 ka5 fa5 ka6 fa6 ka7 fa7
   refine (KE (y) (by omega) (by omega) _).mono ?_
   rintro e x1 ⟨rfl, hb⟩
   have HO1 : Hid (x1.ownsRow B 90 8 (.slice (some ⟨g, 0, none⟩) n ca) n (ceV (JW k j ++ l.drop j))) := Jh HO0.out hb
   have HG1 : Hid (w.grownBy x1 (some g)) := Jg HG0.out (Zb hb _)
   clear hb
   have kc0 : x1.cell? ⟨g, j * 8, none⟩ = some (.string (JW k j ++ l.drop j)[j].o) := by rw [HO1.out.cellAt (j * 8) (by omega)]; (repeat rw [List.getElem?_set_ne (by omega)]); exact h0
   have fc0 := HO1.out.frozenAt (j * 8)
   have kc1 : x1.cell? ⟨g, j * 8 + 1, none⟩ = some (int i64 (JW k j ++ l.drop j)[j].r) := by rw [HO1.out.cellAt (j * 8 + 1) (by omega)]; (repeat rw [List.getElem?_set_ne (by omega)]); exact h1
   have fc1 := HO1.out.frozenAt (j * 8 + 1)
   have kc2 : x1.cell? ⟨g, j * 8 + 2, none⟩ = some (int i64 (JW k j ++ l.drop j)[j].s) := by rw [HO1.out.cellAt (j * 8 + 2) (by omega)]; (repeat rw [List.getElem?_set_ne (by omega)]); exact h2
   have fc2 := HO1.out.frozenAt (j * 8 + 2)
   have kc3 : x1.cell? ⟨g, j * 8 + 3, none⟩ = some (int i64 (JW k j ++ l.drop j)[j].t) := by rw [HO1.out.cellAt (j * 8 + 3) (by omega)]; (repeat rw [List.getElem?_set_ne (by omega)]); exact h3
   have fc3 := HO1.out.frozenAt (j * 8 + 3)
   have kc4 : x1.cell? ⟨g, j * 8 + 4, none⟩ = some (int i64 (JW k j ++ l.drop j)[j].x) := by rw [HO1.out.cellAt (j * 8 + 4) (by omega)]; (repeat rw [List.getElem?_set_ne (by omega)]); exact h4
   have fc4 := HO1.out.frozenAt (j * 8 + 4)
   have kc5 : x1.cell? ⟨g, j * 8 + 5, none⟩ = some (int i64 (JW k j ++ l.drop j)[j].z) := by rw [HO1.out.cellAt (j * 8 + 5) (by omega)]; (repeat rw [List.getElem?_set_ne (by omega)]); exact h5
   have fc5 := HO1.out.frozenAt (j * 8 + 5)
   have kc6 : x1.cell? ⟨g, j * 8 + 6, none⟩ = some (int i64 (JW k j ++ l.drop j)[j].v) := by rw [HO1.out.cellAt (j * 8 + 6) (by omega)]; (repeat rw [List.getElem?_set_ne (by omega)]); exact h6
   have fc6 := HO1.out.frozenAt (j * 8 + 6)
   have kc7 : x1.cell? ⟨g, j * 8 + 7, none⟩ = some (.bool (JW k j ++ l.drop j)[j].g) := by rw [HO1.out.cellAt (j * 8 + 7) (by omega)]; (repeat rw [List.getElem?_set_ne (by omega)]); exact h7
   have fc7 := HO1.out.frozenAt (j * 8 + 7)
   have HOZ : Hid (((((((((x1.setCell ⟨g, j * 8, none⟩ (.string (mkS (y)))).setCell ⟨g, j * 8 + 1, none⟩ (int i64 (y + 1))).setCell ⟨g, j * 8 + 2, none⟩ (int i64 (y + 1 + 1))).setCell ⟨g, j * 8 + 3, none⟩ (int i64 (y + 1 + 1 + 1))).setCell ⟨g, j * 8 + 4, none⟩ (int i64 (y + 1 + 1 + 1 + 1))).setCell ⟨g, j * 8 + 5, none⟩ (int i64 (y + 1 + 1 + 1 + 1 + 1))).setCell ⟨g, j * 8 + 6, none⟩ (int i64 (y + 1 + 1 + 1 + 1 + 1 + 1))).setCell ⟨g, j * 8 + 7, none⟩ (.bool (((y + 1 + 1 + 1 + 1 + 1 + 1 + 1) % 3 == 0)))).ownsRow B 90 8 (.slice (some ⟨g, 0, none⟩) n ca) n (ceV (JW k (j + 1) ++ l.drop (j + 1)))) := by
    have := ((((((((HO1.out.stored (j * 8) (.string (mkS (y)))).1.stored (j * 8 + 1) (int i64 (y + 1))).1.stored (j * 8 + 2) (int i64 (y + 1 + 1))).1.stored (j * 8 + 3) (int i64 (y + 1 + 1 + 1))).1.stored (j * 8 + 4) (int i64 (y + 1 + 1 + 1 + 1))).1.stored (j * 8 + 5) (int i64 (y + 1 + 1 + 1 + 1 + 1))).1.stored (j * 8 + 6) (int i64 (y + 1 + 1 + 1 + 1 + 1 + 1))).1.stored (j * 8 + 7) (.bool (((y + 1 + 1 + 1 + 1 + 1 + 1 + 1) % 3 == 0)))).1
    rw [HSETS.out] at this
    exact this
   have HGZ : Hid (w.grownBy ((((((((x1.setCell ⟨g, j * 8, none⟩ (.string (mkS (y)))).setCell ⟨g, j * 8 + 1, none⟩ (int i64 (y + 1))).setCell ⟨g, j * 8 + 2, none⟩ (int i64 (y + 1 + 1))).setCell ⟨g, j * 8 + 3, none⟩ (int i64 (y + 1 + 1 + 1))).setCell ⟨g, j * 8 + 4, none⟩ (int i64 (y + 1 + 1 + 1 + 1))).setCell ⟨g, j * 8 + 5, none⟩ (int i64 (y + 1 + 1 + 1 + 1 + 1))).setCell ⟨g, j * 8 + 6, none⟩ (int i64 (y + 1 + 1 + 1 + 1 + 1 + 1))).setCell ⟨g, j * 8 + 7, none⟩ (.bool (((y + 1 + 1 + 1 + 1 + 1 + 1 + 1) % 3 == 0)))) (some g)) := (Jg (Jg (Jg (Jg (Jg (Jg (Jg (Jg HG1.out (Js _ _ _ _)) (Js _ _ _ _)) (Js _ _ _ _)) (Js _ _ _ _)) (Js _ _ _ _)) (Js _ _ _ _)) (Js _ _ _ _)) (Js _ _ _ _))
   have wyl : IntKind.i64.wrap (y + 1 + 1 + 1 + 1 + 1 + 1 + 1 + 1) = y + 1 + 1 + 1 + 1 + 1 + 1 + 1 + 1 := by rw [IntKind.wrap_i64] <;> omega
   clear HSETS
   go_wp2
   go_roundw
   case rel => exact ⟨j + 1, y + 1 + 1 + 1 + 1 + 1 + 1 + 1 + 1, by omega, by go_num, rfl, by have := HY.out; omega, HOZ.out, HGZ.out⟩
   case measure => simp [intOf]; omega
  ·have hj1 : ¬ ((j : Int) < n) := by omega
   have hjn : j = n := by omega
   have HO : Hid (wr.ownsRow B 90 8 (.slice aa n ca) n (ceV (JW k n)) ∧ w.grownBy wr (Value.slice aa n ca).ownBlock) := by
    refine ⟨?_, hgr⟩
    rw [hjn, List.drop_of_length_le (by rw [← HL.out]; exact Nat.le_refl _), List.append_nil] at hown
    exact hown
   have HR : Hid (y = (k : Int) + 8 * (n : Int)) := by show _ = _; rw [HY.out, hjn]
   clear hown hgr hjn hy HO0 HG0
   go_wp2
   go_ret
   exact ⟨by rw [← HR.out]; rfl, HO.out.1, HO.out.2⟩
theorem Ul {v : Value} {k n : Nat} (hn : n ≤ 1048576) (hk1 : 1 ≤ k) (hk2 : k ≤ 1073741824) (w : World) (ho : LiAt w v (JR k n)) :
  Calls Tryz.prog 39 #[v, int i64 (k : Int)] w fun e w' => e = .returned (int i64 ((k : Int) + 6 * (n : Int))) ∧ Below w.heap.size w w' := by
 obtain ⟨aa, ca, rfl, ga⟩ := ho
 have HGA : Hid (LiG w aa (JR k n)) := ga
 rw [ZV]
 clear ga
 go_enter Tryz.func39, Tryz.ntmps39
 go_wp2
 go_loopw [1, 5] (fun x z wr => ∃ (j : Nat) (y : Int), j ≤ n ∧ z = int i64 j ∧ x = int i64 y ∧ y = (k : Int) + 6 * (j : Int) ∧ Below w.heap.size w wr) (fun _ z _ => n - (intOf z).toNat)
 case atStart => exact ⟨0, _, Nat.zero_le _, rfl, rfl, by simp, Below.refl _ _⟩
 case round =>
  obtain ⟨j, y, hj, rfl, rfl, hy, hbel⟩ := hrel
  have HY : Hid (y = (k : Int) + 6 * (j : Int)) := hy
  have HBE := Ja hbel
  by_cases hlt : j < n
  ·have hjl : j < (JR k n).length := by rw [ZV]; exact hlt
   obtain ⟨g, f, rfl, hg, hcc⟩ := HGA.out (by omega)
   have q := hcc j hjl
   rw [Jeo, ← hy] at q
   have HQ : Hid (∀ wx, Below w.heap.size w wx → wx.cell? ⟨g, f + j * 6, none⟩ = some (.bool (((y) % 3 == 0))) ∧ wx.cell? ⟨g, f + j * 6 + 1, none⟩ = some (.string (mkS (y + 1))) ∧ wx.cell? ⟨g, f + j * 6 + 2, none⟩ = some (.string (mkS (y + 1 + 1))) ∧ wx.cell? ⟨g, f + j * 6 + 3, none⟩ = some (int i64 (y + 1 + 1 + 1)) ∧ wx.cell? ⟨g, f + j * 6 + 4, none⟩ = some (int i64 (y + 1 + 1 + 1 + 1)) ∧ wx.cell? ⟨g, f + j * 6 + 5, none⟩ = some (int i64 (y + 1 + 1 + 1 + 1 + 1))) := fun wx h => q.below h hg
   have hj1 : (j : Int) < n := by omega
   have hj0 : (0 : Int) ≤ j := by omega
   have hy0 : 1 ≤ y := by omega
   have hy1 : y ≤ 1099511627000 := by omega
   clear hcc q hjl hy
   have wy1 : IntKind.i64.wrap (y + 1) = y + 1 := by rw [IntKind.wrap_i64] <;> omega
   have wy2 : IntKind.i64.wrap (y + 1 + 1) = y + 1 + 1 := by rw [IntKind.wrap_i64] <;> omega
   have wy3 : IntKind.i64.wrap (y + 1 + 1 + 1) = y + 1 + 1 + 1 := by rw [IntKind.wrap_i64] <;> omega
   have wy4 : IntKind.i64.wrap (y + 1 + 1 + 1 + 1) = y + 1 + 1 + 1 + 1 := by rw [IntKind.wrap_i64] <;> omega
   have wy5 : IntKind.i64.wrap (y + 1 + 1 + 1 + 1 + 1) = y + 1 + 1 + 1 + 1 + 1 := by rw [IntKind.wrap_i64] <;> omega
   have wy6 : IntKind.i64.wrap (y + 1 + 1 + 1 + 1 + 1 + 1) = y + 1 + 1 + 1 + 1 + 1 + 1 := by rw [IntKind.wrap_i64] <;> omega
   have ne3 : ((y + 1 + 1 + 1) != (y + 1 + 1 + 1)) = false := by simp
   have ne4 : ((y + 1 + 1 + 1 + 1) != (y + 1 + 1 + 1 + 1)) = false := by simp
   have ne5 : ((y + 1 + 1 + 1 + 1 + 1) != (y + 1 + 1 + 1 + 1 + 1)) = false := by simp
   have neb : ((y % 3 == 0) != (y % 3 == 0)) = false := by simp
   have nes1 := JM (mkS (y + 1)) (mkS (y + 1)) rfl
   have nes2 := JM (mkS (y + 1 + 1)) (mkS (y + 1 + 1)) rfl
   have HM1 : Hid (∀ wx, Calls Tryz.prog 33 #[int i64 (y + 1)] wx fun e w' => e = .returned (.string (mkS (y + 1))) ∧ Below wx.heap.size wx w') := fun wx => KE _ (by omega) (by omega) wx
   have HM2 : Hid (∀ wx, Calls Tryz.prog 33 #[int i64 (y + 1 + 1)] wx fun e w' => e = .returned (.string (mkS (y + 1 + 1))) ∧ Below wx.heap.size wx w') := fun wx => KE _ (by omega) (by omega) wx
   obtain ⟨r0, r1, r2, r3, r4, r5⟩ := HQ.out _ hbel
   have hbd : Below w.heap.size w wr.drew := hbel.drew
   have SS := HQ.out _ hbd
   clear hbel
   go_wp2
   go_region_held3 (fun w' => w'.cell? ⟨g, f + j * 6, none⟩ = some (.bool (((y) % 3 == 0))) ∧ w'.cell? ⟨g, f + j * 6 + 1, none⟩ = some (.string (mkS (y + 1))) ∧ w'.cell? ⟨g, f + j * 6 + 2, none⟩ = some (.string (mkS (y + 1 + 1))) ∧ w'.cell? ⟨g, f + j * 6 + 3, none⟩ = some (int i64 (y + 1 + 1 + 1)) ∧ w'.cell? ⟨g, f + j * 6 + 4, none⟩ = some (int i64 (y + 1 + 1 + 1 + 1)) ∧ w'.cell? ⟨g, f + j * 6 + 5, none⟩ = some (int i64 (y + 1 + 1 + 1 + 1 + 1))) (first | exact SS | exact SS1 | go_keep) (first | (go_at_call 33; refine (HM1.out _).mono ?_; rintro e w1 ⟨rfl, hb⟩; have hb1 : Below w.heap.size w w1 := hbd.trans (hb.mono hbd.size); have SS1 := HQ.out _ hb1))
   clear r0 r1 r2 r3 r4 r5 SS SS1 hb hbd HM1 HBE
   obtain ⟨r0, r1, r2, r3, r4, r5⟩ := HQ.out _ hb1
   have hbd : Below w.heap.size w w1.drew := hb1.drew
   have SS := HQ.out _ hbd
   clear hb1
   go_wp2
   go_region_held3 (fun w' => w'.cell? ⟨g, f + j * 6, none⟩ = some (.bool (((y) % 3 == 0))) ∧ w'.cell? ⟨g, f + j * 6 + 1, none⟩ = some (.string (mkS (y + 1))) ∧ w'.cell? ⟨g, f + j * 6 + 2, none⟩ = some (.string (mkS (y + 1 + 1))) ∧ w'.cell? ⟨g, f + j * 6 + 3, none⟩ = some (int i64 (y + 1 + 1 + 1)) ∧ w'.cell? ⟨g, f + j * 6 + 4, none⟩ = some (int i64 (y + 1 + 1 + 1 + 1)) ∧ w'.cell? ⟨g, f + j * 6 + 5, none⟩ = some (int i64 (y + 1 + 1 + 1 + 1 + 1))) (first | exact SS | exact SS1 | go_keep) (first | (go_at_call 33; refine (HM2.out _).mono ?_; rintro e w2 ⟨rfl, hb⟩; have hb2 : Below w.heap.size w w2 := hbd.trans (hb.mono hbd.size); have SS1 := HQ.out _ hb2))
   clear r0 r1 r2 r3 r4 r5 SS SS1 hb hbd HM2
   obtain ⟨r0, r1, r2, r3, r4, r5⟩ := HQ.out _ hb2
   have HB2 := Ja hb2
   clear hb2
   go_wp2
   go_roundw
   case rel => exact ⟨j + 1, y + 1 + 1 + 1 + 1 + 1 + 1, by omega, by go_num, rfl, by have := HY.out; omega, HB2.out⟩
   case measure => simp [intOf]; omega
  ·have hj1 : ¬ ((j : Int) < n) := by omega
   have HR : Hid (y = (k : Int) + 6 * (n : Int)) := by
    have hjn : j = n := by omega
    show _ = _; rw [HY.out, hjn]
   clear hy hbel
   go_wp2
   go_ret
   exact ⟨by rw [← HR.out]; rfl, HBE.out⟩
structure Within (lo hi : Nat) (w w' : World) : Prop where
 os : w'.os = w.os
 tape : w'.tape = w.tape
 output : w'.output = w.output
 size : w.heap.size ≤ w'.heap.size
 block : ∀ k, k < w.heap.size → (k < lo ∨ hi ≤ k) → w'.heap[k]? = w.heap[k]?
theorem Within.trans {lo hi : Nat} {a b c : World} (h : Within lo hi a b) (k : Within lo hi b c) : Within lo hi a c :=
 ⟨k.os.trans h.os, k.tape.trans h.tape, k.output.trans h.output, Nat.le_trans h.size k.size, fun j hj hne => (k.block j (Nat.lt_of_lt_of_le hj h.size) hne).trans (h.block j hj hne)⟩
theorem Within.below {lo hi : Nat} {w w' : World} (h : Below w.heap.size w w') : Within lo hi w w' := ⟨h.os, h.tape, h.output, h.size, fun k hk _ => h.block k hk⟩
theorem Within.grown {lo hi : Nat} {w w' : World} {r : Option Nat} (h : w.grownBy w' r) (hr : ∀ k, r = some k → lo ≤ k ∧ k < hi) : Within lo hi w w' :=
 ⟨h.os, h.tape, h.output, h.size, fun k hk hne => h.block k hk (fun e => by have := hr k e.symm; omega)⟩
theorem Row.within {w w' : World} {g lo hi : Nat} {cs : Array Value} {T : TypeId} (h : Row w g cs T) (k : Within lo hi w w') (hd : g < lo ∨ hi ≤ g) : Row w' g cs T := (k.block g h.lt hd).trans h
def nSt : Sta := ⟨[0, 0, 0], [], [], []⟩
theorem UX {w : World} {B : Nat} {e : TypeId} {s : Nat} : w.ownsRow B e s (.slice none 0 0) 0 [] := ⟨by simp, .inl ⟨rfl, rfl⟩⟩
theorem UH (w : World) : Calls Tryz.prog 25 #[] w fun e w' => ∃ aa ca, e = .returned (.agg #[.slice aa 3 ca, .slice none 0 0, .slice none 0 0, .slice none 0 0]) ∧ Rw w' w.heap.size w'.heap.size 3 1 (.slice aa 3 ca) 3 (Je [0, 0, 0]) ∧ Below w.heap.size w w' := by
 obtain ⟨W, hW⟩ : ∃ W, W = w.alloc (.cells Zi 29) := ⟨_, rfl⟩
 have HP : Hid (Row W w.heap.size Zi 29) := by rw [hW]; exact Jb w _ _ rfl
 have HB : Hid (Below w.heap.size w W) := by rw [hW]; exact (Below.refl _ _).alloc (Nat.le_refl _) _
 have hWs : W.heap.size = w.heap.size + 1 := by rw [hW]; simp
 have HW : Hid (w.alloc (.cells Zi 29) = W) := hW.symm
 unfold Zi at HW
 clear hW
 go_enter Tryz.func25, Tryz.ntmps25
 go_wp2_with fail
 rw [HW.out]
 clear HW
 refine (Vu W).mono ?_
 rintro e w1 ⟨u, rfl, ho, hb⟩
 obtain ⟨aa, ca, hu, -⟩ := IntsAt.own (l := [0, 0, 0]) ho rfl
 replace hu : u = .slice aa 3 ca := hu
 subst hu
 have HR : Hid (Rw w1 W.heap.size w1.heap.size 3 1 (.slice aa 3 ca) 3 (Je [0, 0, 0])) := Rw.new ho
 replace HP : Hid (Row w1 w.heap.size Zi 29) := HP.out.next hb
 replace HB : Hid (Below w.heap.size w w1) := HB.out.trans (hb.mono HB.out.size)
 have hsz := hb.size
 clear hb ho
 obtain ⟨o0, o1, o2, o3⟩ := Row.four HP.out
 have g0 := HP.out.free 0
 have g1 := HP.out.free 1
 have g2 := HP.out.free 2
 have g3 := HP.out.free 3
 go_wp2
 have HZ := (((HP.out.st0 (.slice aa 3 ca)).st1 (.slice none 0 0)).st2 (.slice none 0 0)).st3 (.slice none 0 0)
 have HBB := (((HB.out.setCell (p := ⟨w.heap.size, 0, none⟩) (Nat.le_refl _) (.slice aa 3 ca)).setCell (p := ⟨w.heap.size, 1, none⟩) (Nat.le_refl _) (.slice none 0 0)).setCell (p := ⟨w.heap.size, 2, none⟩) (Nat.le_refl _) (.slice none 0 0)).setCell (p := ⟨w.heap.size, 3, none⟩) (Nat.le_refl _) (.slice none 0 0)
 have HRR := (((HR.out.set (g := w.heap.size) (i := 0) (x := .slice aa 3 ca) (by omega)).set (g := w.heap.size) (i := 1) (x := .slice none 0 0) (by omega)).set (g := w.heap.size) (i := 2) (x := .slice none 0 0) (by omega)).set (g := w.heap.size) (i := 3) (x := .slice none 0 0) (by omega)
 exact bodyPost_ret (Vd rfl rfl rfl HZ) rfl ⟨aa, ca, rfl, (HRR.lo (by omega)).wide (by simp [World.setCell]), HBB⟩
theorem KO (w : World) : Calls Tryz.prog 23 #[] w fun e w' => ∃ aa ca, e = .returned (.agg #[.slice aa 3 ca, .slice none 0 0, .slice none 0 0, .slice none 0 0]) ∧ Rw w' w.heap.size w'.heap.size 3 1 (.slice aa 3 ca) 3 (Je [0, 0, 0]) ∧ Below w.heap.size w w' := by
 obtain ⟨W, hW⟩ : ∃ W, W = w.alloc (.cells Zi 29) := ⟨_, rfl⟩
 have HP : Hid (Row W w.heap.size Zi 29) := by rw [hW]; exact Jb w _ _ rfl
 have HB : Hid (Below w.heap.size w W) := by rw [hW]; exact (Below.refl _ _).alloc (Nat.le_refl _) _
 have hWs : W.heap.size = w.heap.size + 1 := by rw [hW]; simp
 have HW : Hid (w.alloc (.cells Zi 29) = W) := hW.symm
 unfold Zi at HW
 clear hW
 go_enter Tryz.func23, Tryz.ntmps23
 go_wp2_with fail
 rw [HW.out]
 clear HW
 refine (Gn W).mono ?_
 rintro e w1 ⟨u, rfl, ho, hb⟩
 obtain ⟨aa, ca, hu, -⟩ := IntsAt.own (l := [0, 0, 0]) ho rfl
 replace hu : u = .slice aa 3 ca := hu
 subst hu
 have HR : Hid (Rw w1 W.heap.size w1.heap.size 3 1 (.slice aa 3 ca) 3 (Je [0, 0, 0])) := Rw.new ho
 replace HP : Hid (Row w1 w.heap.size Zi 29) := HP.out.next hb
 replace HB : Hid (Below w.heap.size w w1) := HB.out.trans (hb.mono HB.out.size)
 have hsz := hb.size
 clear hb ho
 obtain ⟨o0, o1, o2, o3⟩ := Row.four HP.out
 have g0 := HP.out.free 0
 have g1 := HP.out.free 1
 have g2 := HP.out.free 2
 have g3 := HP.out.free 3
 go_wp2
 have HZ := (((HP.out.st0 (.slice aa 3 ca)).st1 (.slice none 0 0)).st2 (.slice none 0 0)).st3 (.slice none 0 0)
 have HBB := (((HB.out.setCell (p := ⟨w.heap.size, 0, none⟩) (Nat.le_refl _) (.slice aa 3 ca)).setCell (p := ⟨w.heap.size, 1, none⟩) (Nat.le_refl _) (.slice none 0 0)).setCell (p := ⟨w.heap.size, 2, none⟩) (Nat.le_refl _) (.slice none 0 0)).setCell (p := ⟨w.heap.size, 3, none⟩) (Nat.le_refl _) (.slice none 0 0)
 have HRR := (((HR.out.set (g := w.heap.size) (i := 0) (x := .slice aa 3 ca) (by omega)).set (g := w.heap.size) (i := 1) (x := .slice none 0 0) (by omega)).set (g := w.heap.size) (i := 2) (x := .slice none 0 0) (by omega)).set (g := w.heap.size) (i := 3) (x := .slice none 0 0) (by omega)
 exact bodyPost_ret (Vd rfl rfl rfl HZ) rfl ⟨aa, ca, rfl, (HRR.lo (by omega)).wide (by simp [World.setCell]), HBB⟩
end Go.Proofs.YtepfinenocpneaaGreat
