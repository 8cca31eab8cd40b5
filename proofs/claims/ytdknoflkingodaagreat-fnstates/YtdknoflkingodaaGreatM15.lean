/- The lives of a key: both. -/
import Derived.BigRegion
import Derived.Test.YtdknoflkingodaaGreatM3
import Derived.Test.YtdknoflkingodaaGreatM4
import Derived.Test.YtdknoflkingodaaGreatM5
import Derived.Test.YtdknoflkingodaaGreatM6
import Derived.Test.YtdknoflkingodaaGreatM7
import Derived.Test.YtdknoflkingodaaGreatM8
import Derived.Test.YtdknoflkingodaaGreatM9
import Derived.Test.YtdknoflkingodaaGreatM10
import Derived.Test.YtdknoflkingodaaGreatM11
import Derived.Test.YtdknoflkingodaaGreatM12
import Derived.Test.YtdknoflkingodaaGreatM13
import Derived.Test.YtdknoflkingodaaGreatM14
namespace Go.Proofs.YtdknoflkingodaaGreat
set_option maxRecDepth 100000
set_option linter.unusedVariables false
open Go.RowKit
/-- The lives of a key of a map, or of a set. -/
def isLive (m : Bool) (o y : ByteArray) (x : Li) : Bool := decide (x.m = m ∧ x.o = o ∧ x.y = y)
def livesOf (l : List Li) (m : Bool) (o y : ByteArray) : List Li := l.filter (isLive m o y)
theorem lives_yes (l : List Li) (m : Bool) (o y : ByteArray) (k : Nat) (h : k < l.length) (hx : l[k].m = m ∧ l[k].o = o ∧ l[k].y = y) : livesOf (l.take (k + 1)) m o y = livesOf (l.take k) m o y ++ [l[k]] := by
 unfold livesOf
 rw [List.take_succ_eq_append_getElem h, List.filter_append]
 congr 1
 simp [isLive, hx]
theorem lives_no (l : List Li) (m : Bool) (o y : ByteArray) (k : Nat) (h : k < l.length) (hx : ¬ (l[k].m = m ∧ l[k].o = o ∧ l[k].y = y)) : livesOf (l.take (k + 1)) m o y = livesOf (l.take k) m o y := by
 unfold livesOf
 rw [List.take_succ_eq_append_getElem h, List.filter_append]
 have : isLive m o y l[k] = false := by unfold isLive; exact decide_eq_false hx
 simp [this]
theorem lives_len (l : List Li) (m : Bool) (o y : ByteArray) (k : Nat) : (livesOf (l.take k) m o y).length ≤ k := by
 have h1 : (livesOf (l.take k) m o y).length ≤ (l.take k).length := List.length_filter_le _ _
 have h2 : (l.take k).length ≤ k := by rw [List.length_take]; omega
 omega
theorem liV_snoc (l : List Li) (x : Li) : liV (l ++ [x]) = liV l ++ x.cs := by simp [liV]
theorem cells_new (w : World) (cs : List Value) (e : TypeId) {g : Nat} (hg : g = w.heap.size) : ∀ j u, cs[j]? = some u → (w.alloc (.cells cs.toArray e)).cell? (Addr.add ⟨g, 0, none⟩ j) = some u := by
 intro j u hj
 subst hg
 rw [addr_add]
 have h : Row (w.alloc (.cells cs.toArray e)) w.heap.size cs.toArray e := row_new _ _ _ rfl
 exact h.cell j (by simpa using hj)
set_option maxHeartbeats 8000000 in
theorem specLivesOf_calls (S : Sta) (u0 u1 u2 u3 : Value) (m : Bool) (o y : ByteArray) (w : World) (hn : S.L.length ≤ 1048576) (h : StAt w S u0 u1 u2 u3) :
  Calls Tryz.prog 23 #[.agg #[u0, u1, u2, u3], .bool m, .string o, .string y] w fun e w' => ∃ u, e = .returned u ∧ w'.ownsRow w.heap.size 40 6 u (livesOf S.L m o y).length (liV (livesOf S.L m o y)) ∧ Below w.heap.size w w' := by
 obtain ⟨a0, c0, a1, c1, a2, c2, a3, c3, rfl, rfl, rfl, rfl⟩ := h.shape
 obtain ⟨W, hW⟩ : ∃ W, W = w.alloc (.cells #[.slice a0 S.l.length c0, .slice a1 S.T.length c1, .slice a2 S.L.length c2, .slice a3 S.C.length c3] 29) := ⟨_, rfl⟩
 have HP : Hid (∀ wx, Below W.heap.size W wx → Row wx w.heap.size #[.slice a0 S.l.length c0, .slice a1 S.T.length c1, .slice a2 S.L.length c2, .slice a3 S.C.length c3] 29) := fun wx h => by
  have h0 : Row W w.heap.size #[.slice a0 S.l.length c0, .slice a1 S.T.length c1, .slice a2 S.L.length c2, .slice a3 S.C.length c3] 29 := by rw [hW]; exact row_new w _ _ rfl
  exact h0.next h
 have HB : Hid (Below w.heap.size w W) := by rw [hW]; exact (Below.refl _ _).alloc (Nat.le_refl _) _
 have HS : Hid (StAt W S (.slice a0 S.l.length c0) (.slice a1 S.T.length c1) (.slice a2 S.L.length c2) (.slice a3 S.C.length c3)) := by rw [hW]; exact h.alloc _
 have hWs : W.heap.size = w.heap.size + 1 := by rw [hW]; simp
 have HW : Hid (w.alloc (.cells #[.slice a0 S.l.length c0, .slice a1 S.T.length c1, .slice a2 S.L.length c2, .slice a3 S.C.length c3] 29) = W) := hW.symm
 clear hW h
 obtain ⟨l, hl⟩ : ∃ l, l = S.L := ⟨_, rfl⟩
 have HGA : Hid (LiG W a2 l) := by
  obtain ⟨x, y, hq, hg⟩ := HS.out.2.2.1
  simp only [Value.slice.injEq] at hq
  rw [hl, hq.1]; exact hg
 obtain ⟨n, hnl⟩ : ∃ n, n = l.length := ⟨_, rfl⟩
 have HL : Hid (n = l.length) := hnl
 rw [← hl] at hn ⊢
 rw [← hnl] at hn ⊢
 rw [← hl, ← hnl] at HP HW
 have HALL : Hid (livesOf (l.take n) m o y = livesOf l m o y) := by show _ = _; rw [hnl, List.take_length]
 obtain ⟨i0, hi, hz0, hz1, hz2⟩ := info_parts infoLive
 obtain ⟨X, hX⟩ : ∃ X, X = W.alloc (.cells #[] 40) := ⟨_, rfl⟩
 have HO : Hid (X.ownsRow W.heap.size 40 6 (.slice (some ⟨W.heap.size, 0, none⟩) 0 0) (livesOf (l.take 0) m o y).length (liV (livesOf (l.take 0) m o y))) := by rw [hX]; exact own_none W 40 6 rfl (Nat.le_refl _)
 have HBX : Hid (Below W.heap.size W X) := by rw [hX]; exact (Below.refl _ _).alloc (Nat.le_refl _) _
 have HX : Hid (W.alloc (.cells #[] 40) = X) := hX.symm
 rw [← HW.out] at HX
 clear HS hnl hl hX
 have d2 := (HP.out X HBX.out).cell 2 rfl
 rw [← HX.out] at d2
 go_enter Tryz.func23, Tryz.ntmps23
 go_wp2
 rw [HX.out]
 have hws : (w.alloc (.cells #[.slice a0 S.l.length c0, .slice a1 S.T.length c1, .slice a2 n c2, .slice a3 S.C.length c3] 29)).heap.size = W.heap.size := by rw [HW.out]
 try rw [show w.heap.size + 1 = W.heap.size from hWs.symm]
 have HWS : Hid (W.heap.size = w.heap.size + 1) := hWs
 clear d2 HX hws HW hWs
 go_loopw [9, 10] (fun x z wr => ∃ k : Nat, k ≤ n ∧ z = .int .i64 k ∧ wr.ownsRow W.heap.size 40 6 x (livesOf (l.take k) m o y).length (liV (livesOf (l.take k) m o y)) ∧ Below W.heap.size W wr) (fun _ z _ => n - (intOf z).toNat)
 case atStart => exact ⟨0, Nat.zero_le _, rfl, HO.out, HBX.out⟩
 case round =>
  clear HO HBX
  obtain ⟨k, hk, rfl, hown, hbel⟩ := hrel
  have HOW : Hid (wr.ownsRow W.heap.size 40 6 u9 (livesOf (l.take k) m o y).length (liV (livesOf (l.take k) m o y))) := hown
  have HBE : Hid (Below W.heap.size W wr) := hbel
  have d2 := (HP.out wr hbel).cell 2 rfl
  have hsz := hbel.size
  have hcl := lives_len l m o y k
  have hwx : w.heap.size ≤ wr.heap.size := by have := HWS.out; omega
  by_cases hlt : k < n
  ·have hkl : k < l.length := by rw [← HL.out]; exact hlt
   obtain ⟨g, f, rfl, hg, hcc⟩ := HGA.out (by omega)
   have hk1 : (k : Int) < n := by omega
   have hk0 : (0 : Int) ≤ k := by omega
   have q := (hcc k hkl).below hbel hg
   have HY : Hid (l[k].m = m ∧ l[k].o = o ∧ l[k].y = y → livesOf (l.take (k + 1)) m o y = livesOf (l.take k) m o y ++ [l[k]]) := lives_yes l m o y k hkl
   have HN : Hid (¬ (l[k].m = m ∧ l[k].o = o ∧ l[k].y = y) → livesOf (l.take (k + 1)) m o y = livesOf (l.take k) m o y) := lives_no l m o y k hkl
   generalize l[k] = x at *
   unfold liC at q
   obtain ⟨q0, q1, q2, q3, q4, q5⟩ := q
   clear hcc hbel hkl hown
   have HBA : Hid (Below W.heap.size W (wr.alloc (.cells #[.bool x.m, .string x.o, .string x.y, .int .i64 x.v, .int .i64 x.r, .int .i64 x.s] 40))) := HBE.out.alloc hsz _
   have HNX : Hid (¬ (x.m = m ∧ x.o = o ∧ x.y = y) → (wr.alloc (.cells #[.bool x.m, .string x.o, .string x.y, .int .i64 x.v, .int .i64 x.r, .int .i64 x.s] 40)).ownsRow W.heap.size 40 6 u9 (livesOf (l.take (k + 1)) m o y).length (liV (livesOf (l.take (k + 1)) m o y))) := fun h => by rw [HN.out h]; exact HOW.out.alloc _
   by_cases h1 : x.m = m
   case neg =>
    have b1 : (x.m == m) = false := by simp [h1]
    have HE := hidI (HNX.out (fun h => h1 h.1))
    clear h1 HNX HY HN HOW
    go_wp2
    go_roundw
    case rel => exact ⟨k + 1, by omega, by go_num, HE.out, HBA.out⟩
    case measure => simp [intOf]; omega
   have b1 : (x.m == m) = true := by simp [h1]
   by_cases h2 : x.o = o
   case neg =>
    have b2 := beq_str_no x.o o h2
    have HE := hidI (HNX.out (fun h => h2 h.2.1))
    clear h1 h2 HNX HY HN HOW
    go_wp2
    go_roundw
    case rel => exact ⟨k + 1, by omega, by go_num, HE.out, HBA.out⟩
    case measure => simp [intOf]; omega
   have b2 := beq_str x.o o h2
   by_cases h3 : x.y = y
   case neg =>
    have b3 := beq_str_no x.y y h3
    have HE := hidI (HNX.out (fun h => h3 h.2.2))
    clear h1 h2 h3 HNX HY HN HOW
    go_wp2
    go_roundw
    case rel => exact ⟨k + 1, by omega, by go_num, HE.out, HBA.out⟩
    case measure => simp [intOf]; omega
   have b3 := beq_str x.y y h3
   have HYY : Hid (livesOf (l.take (k + 1)) m o y = livesOf (l.take k) m o y ++ [x]) := HY.out ⟨h1, h2, h3⟩
   clear h1 h2 h3 HNX HY HN
   have HOWN : Hid (((wr.alloc (.cells #[.bool x.m, .string x.o, .string x.y, .int .i64 x.v, .int .i64 x.r, .int .i64 x.s] 40)).alloc (.cells #[.bool x.m, .string x.o, .string x.y, .int .i64 x.v, .int .i64 x.r, .int .i64 x.s] 40)).ownsRow W.heap.size 40 6 u9 (livesOf (l.take k) m o y).length (liV (livesOf (l.take k) m o y))) := (HOW.out.alloc _).alloc _
   have HNN : Hid (∀ j u, [.bool x.m, .string x.o, .string x.y, .int .i64 x.v, .int .i64 x.r, .int .i64 x.s][j]? = some u → ((wr.alloc (.cells #[.bool x.m, .string x.o, .string x.y, .int .i64 x.v, .int .i64 x.r, .int .i64 x.s] 40)).alloc (.cells #[.bool x.m, .string x.o, .string x.y, .int .i64 x.v, .int .i64 x.r, .int .i64 x.s] 40)).cell? (Addr.add ⟨wr.heap.size + 1, 0, none⟩ j) = some u) := cells_new (wr.alloc (.cells #[.bool x.m, .string x.o, .string x.y, .int .i64 x.v, .int .i64 x.r, .int .i64 x.s] 40)) [.bool x.m, .string x.o, .string x.y, .int .i64 x.v, .int .i64 x.r, .int .i64 x.s] 40 (by simp)
   have HSZ : Hid (W.heap.size ≤ ((wr.alloc (.cells #[.bool x.m, .string x.o, .string x.y, .int .i64 x.v, .int .i64 x.r, .int .i64 x.s] 40)).alloc (.cells #[.bool x.m, .string x.o, .string x.y, .int .i64 x.v, .int .i64 x.r, .int .i64 x.s] 40)).heap.size) := by show _ ≤ _; simp; omega
   have HB2 : Hid (Below W.heap.size W ((wr.alloc (.cells #[.bool x.m, .string x.o, .string x.y, .int .i64 x.v, .int .i64 x.r, .int .i64 x.s] 40)).alloc (.cells #[.bool x.m, .string x.o, .string x.y, .int .i64 x.v, .int .i64 x.r, .int .i64 x.s] 40))) := HBA.out.alloc (by simp; omega) _
   have HOB : Hid (∀ k', u9.ownBlock = some k' → W.heap.size ≤ k') := fun k' hk' => (HOW.out.lt k' hk').1
   clear HOW
   go_wp2_with (at_builtin; refine wpList_append_own _ rfl _ _ 26 rfl W.heap.size 40 i0 (.agg #[.bool false, .string { data := #[] }, .string { data := #[] }, .int .i64 0, .int .i64 0, .int .i64 0]) 6 64 Tryz.underlying26 hi hz0 hz1 hz2 rfl (by decide) _ _ _ rfl HOWN.out ⟨wr.heap.size + 1, 0, none⟩ 1 1 [.bool x.m, .string x.o, .string x.y, .int .i64 x.v, .int .i64 x.r, .int .i64 x.s] rfl rfl HNN.out (by intro u' hu'; simp at hu'; rcases hu' with rfl | rfl | rfl | rfl | rfl | rfl <;> rfl) (by unfold maxLen; omega) (by omega) HSZ.out ?_)
   intro v2 w4 hown4 hgrow hne2
   have hb4 : Below W.heap.size W w4 := HB2.out.grown hgrow (by simp; omega) HOB.out
   have HO4 : Hid (w4.ownsRow W.heap.size 40 6 v2 (livesOf (l.take (k + 1)) m o y).length (liV (livesOf (l.take (k + 1)) m o y))) := by
    show World.ownsRow _ _ _ _ _ _ _
    rw [HYY.out, liV_snoc, List.length_append]; exact hown4
   clear hown4 hgrow hne2 HYY HOWN HNN HSZ HB2 HOB
   go_wp2
   go_roundw
   case rel => exact ⟨k + 1, by omega, by go_num, HO4.out, hb4⟩
   case measure => simp [intOf]; omega
  ·have hk1 : ¬ ((k : Int) < n) := by omega
   have HE : Hid (wr.ownsRow w.heap.size 40 6 u9 (livesOf l m o y).length (liV (livesOf l m o y))) := by
    have hkn : k = n := by omega
    have := own_base HOW.out (show w.heap.size ≤ W.heap.size by have := HWS.out; omega)
    rwa [hkn, HALL.out] at this
   clear HOW hown hbel
   go_wp2
   go_ret
   exact ⟨_, rfl, HE.out, HB.out.trans (HBE.out.mono HB.out.size)⟩
theorem ret_live {fn : Func} {p : Tmp} (h : fn.results = #[.cell p 40]) {tmps : Array Value} {w : World} {g : Nat} {x : Li} (hp : tmps.getD p undef = .pointer (some ⟨g, 0, none⟩)) (hg : Row w g #[.bool x.m, .string x.o, .string x.y, .int .i64 x.v, .int .i64 x.r, .int .i64 x.s] 40) :
  (results fn tmps).run Tryz.prog w = .ok (.agg #[.bool x.m, .string x.o, .string x.y, .int .i64 x.v, .int .i64 x.r, .int .i64 x.s]) w := results_cell_row h tmps w g 40 _ (0, 0) _ hp hg Tryz.underlying40 rfl (by kernel_rfl)
set_option maxHeartbeats 4000000 in
theorem clonedLive_calls (x : Li) (w : World) (h1 : x.o.size ≤ 1048576) (h2 : x.y.size ≤ 1048576) :
  Calls Tryz.prog 59 #[.agg #[.bool x.m, .string x.o, .string x.y, .int .i64 x.v, .int .i64 x.r, .int .i64 x.s]] w fun e w' => e = .returned (.agg #[.bool x.m, .string x.o, .string x.y, .int .i64 x.v, .int .i64 x.r, .int .i64 x.s]) ∧ Below w.heap.size w w' := by
 obtain ⟨W, hW⟩ : ∃ W, W = (w.alloc (.cells #[.bool x.m, .string x.o, .string x.y, .int .i64 x.v, .int .i64 x.r, .int .i64 x.s] 40)).alloc (.cells #[.bool false, .string { data := #[] }, .string { data := #[] }, .int .i64 0, .int .i64 0, .int .i64 0] 40) := ⟨_, rfl⟩
 have HL0 : Hid (Row W w.heap.size #[.bool x.m, .string x.o, .string x.y, .int .i64 x.v, .int .i64 x.r, .int .i64 x.s] 40) := by rw [hW]; exact (row_new w _ _ rfl).alloc _
 have HZ0 : Hid (Row W (w.heap.size + 1) #[.bool false, .string { data := #[] }, .string { data := #[] }, .int .i64 0, .int .i64 0, .int .i64 0] 40) := by rw [hW]; exact row_new _ _ _ (by simp)
 have HB : Hid (Below w.heap.size w W) := by rw [hW]; exact ((Below.refl _ _).alloc (Nat.le_refl _) _).alloc (by simp) _
 have hWs : w.heap.size + 1 + 1 ≤ W.heap.size := by rw [hW]; simp
 have HW : Hid ((w.alloc (.cells #[.bool x.m, .string x.o, .string x.y, .int .i64 x.v, .int .i64 x.r, .int .i64 x.s] 40)).alloc (.cells #[.bool false, .string { data := #[] }, .string { data := #[] }, .int .i64 0, .int .i64 0, .int .i64 0] 40) = W) := hW.symm
 have HC1 : Hid (∀ wx, Calls Tryz.prog 121 #[.string x.o] wx fun e w' => e = .returned (.string x.o) ∧ Below wx.heap.size wx w') := fun wx => clone_calls x.o wx (by omega)
 have HC2 : Hid (∀ wx, Calls Tryz.prog 121 #[.string x.y] wx fun e w' => e = .returned (.string x.y) ∧ Below wx.heap.size wx w') := fun wx => clone_calls x.y wx (by omega)
 clear hW h1 h2
 go_enter Tryz.func59, Tryz.ntmps59
 go_wp2
 rw [HW.out]
 have r01 := HL0.out.cell 1 rfl
 have r02 := HL0.out.cell 2 rfl
 go_region_with (first
   | (go_at_call 121; refine (HC1.out _).mono ?_; clear HC1; rintro e w1 ⟨rfl, hb1⟩; have R1 : Hid (Row w1 w.heap.size #[.bool x.m, .string x.o, .string x.y, .int .i64 x.v, .int .i64 x.r, .int .i64 x.s] 40) := Row.next (w := W.drew) HL0.out.drew hb1; have Z1 : Hid (Row w1 (w.heap.size + 1) #[.bool false, .string { data := #[] }, .string { data := #[] }, .int .i64 0, .int .i64 0, .int .i64 0] 40) := Row.next (w := W.drew) HZ0.out.drew hb1; have r11 := R1.out.cell 1 rfl; have r12 := R1.out.cell 2 rfl)
   | (go_at_call 121; refine (HC2.out _).mono ?_; rintro e w2 ⟨rfl, hb2⟩; have R2 : Hid (Row w2 w.heap.size #[.bool x.m, .string x.o, .string x.y, .int .i64 x.v, .int .i64 x.r, .int .i64 x.s] 40) := R1.out.next hb2; have Z2 : Hid (Row w2 (w.heap.size + 1) #[.bool false, .string { data := #[] }, .string { data := #[] }, .int .i64 0, .int .i64 0, .int .i64 0] 40) := Z1.out.next hb2; have r21 := R2.out.cell 1 rfl; have r22 := R2.out.cell 2 rfl; have g21 := R2.out.free 1; have g22 := R2.out.free 2))
 all_goals
  have hRY : Row ((w2.setCell ⟨w.heap.size, 1, none⟩ (.string x.o)).setCell ⟨w.heap.size, 2, none⟩ (.string x.y)) w.heap.size #[.bool x.m, .string x.o, .string x.y, .int .i64 x.v, .int .i64 x.r, .int .i64 x.s] 40 := (R2.out.li1 _).li2 _
  have hZY : Row ((w2.setCell ⟨w.heap.size, 1, none⟩ (.string x.o)).setCell ⟨w.heap.size, 2, none⟩ (.string x.y)) (w.heap.size + 1) #[.bool false, .string { data := #[] }, .string { data := #[] }, .int .i64 0, .int .i64 0, .int .i64 0] 40 := (Z2.out.other (by simp) _).other (by simp) _
  have hBY : Below w.heap.size w ((w2.setCell ⟨w.heap.size, 1, none⟩ (.string x.o)).setCell ⟨w.heap.size, 2, none⟩ (.string x.y)) := (((HB.out.drew.trans (hb1.mono HB.out.drew.size)).trans (hb2.mono (Nat.le_trans HB.out.drew.size hb1.size))).setCell (by simp) _).setCell (by simp) _
  generalize ((w2.setCell ⟨w.heap.size, 1, none⟩ (.string x.o)).setCell ⟨w.heap.size, 2, none⟩ (.string x.y)) = YY at *
  clear R1 R2 Z1 Z2 r11 r12 r21 r22 g21 g22 hb1 hb2 HL0 HZ0 HW HB r01 r02 HC2
  have s0 := hRY.cell 0 rfl
  have s1 := hRY.cell 1 rfl
  have s2 := hRY.cell 2 rfl
  have s3 := hRY.cell 3 rfl
  have s4 := hRY.cell 4 rfl
  have s5 := hRY.cell 5 rfl
  have z0 := hZY.cell 0 rfl
  have z1 := hZY.cell 1 rfl
  have z2 := hZY.cell 2 rfl
  have z3 := hZY.cell 3 rfl
  have z4 := hZY.cell 4 rfl
  have z5 := hZY.cell 5 rfl
  have f0 := hZY.free 0
  have f1 := hZY.free 1
  have f2 := hZY.free 2
  have f3 := hZY.free 3
  have f4 := hZY.free 4
  have f5 := hZY.free 5
  have HZY := hidI hZY
  have HBY := hidI hBY
  clear hRY hZY hBY
  go_wp2
  exact bodyPost_ret (ret_live rfl rfl ((((((HZY.out.li0 _).li1 _).li2 _).li3 _).li4 _).li5 _)) rfl ⟨rfl, (((((HBY.out.setCell (by simp) _).setCell (by simp) _).setCell (by simp) _).setCell (by simp) _).setCell (by simp) _).setCell (by simp) _⟩
set_option maxHeartbeats 8000000 in
theorem livesOf_calls (S : Sta) (u0 u1 u2 u3 : Value) (m : Bool) (o y : ByteArray) (w : World) (hn : S.L.length ≤ 1048576) (hst : ∀ a ∈ S.L, a.o.size ≤ 1048576 ∧ a.y.size ≤ 1048576) (h : StAt w S u0 u1 u2 u3) :
  Calls Tryz.prog 12 #[.agg #[u0, u1, u2, u3], .bool m, .string o, .string y] w fun e w' => ∃ u, e = .returned u ∧ w'.ownsRow w.heap.size 40 6 u (livesOf S.L m o y).length (liV (livesOf S.L m o y)) ∧ Below w.heap.size w w' := by
 obtain ⟨a0, c0, a1, c1, a2, c2, a3, c3, rfl, rfl, rfl, rfl⟩ := h.shape
 obtain ⟨W, hW⟩ : ∃ W, W = w.alloc (.cells #[.slice a0 S.l.length c0, .slice a1 S.T.length c1, .slice a2 S.L.length c2, .slice a3 S.C.length c3] 29) := ⟨_, rfl⟩
 have HP : Hid (∀ wx, Below W.heap.size W wx → Row wx w.heap.size #[.slice a0 S.l.length c0, .slice a1 S.T.length c1, .slice a2 S.L.length c2, .slice a3 S.C.length c3] 29) := fun wx h => by
  have h0 : Row W w.heap.size #[.slice a0 S.l.length c0, .slice a1 S.T.length c1, .slice a2 S.L.length c2, .slice a3 S.C.length c3] 29 := by rw [hW]; exact row_new w _ _ rfl
  exact h0.next h
 have HB : Hid (Below w.heap.size w W) := by rw [hW]; exact (Below.refl _ _).alloc (Nat.le_refl _) _
 have HS : Hid (StAt W S (.slice a0 S.l.length c0) (.slice a1 S.T.length c1) (.slice a2 S.L.length c2) (.slice a3 S.C.length c3)) := by rw [hW]; exact h.alloc _
 have hWs : W.heap.size = w.heap.size + 1 := by rw [hW]; simp
 have HW : Hid (w.alloc (.cells #[.slice a0 S.l.length c0, .slice a1 S.T.length c1, .slice a2 S.L.length c2, .slice a3 S.C.length c3] 29) = W) := hW.symm
 clear hW h
 obtain ⟨l, hl⟩ : ∃ l, l = S.L := ⟨_, rfl⟩
 have HGA : Hid (LiG W a2 l) := by
  obtain ⟨x, y, hq, hg⟩ := HS.out.2.2.1
  simp only [Value.slice.injEq] at hq
  rw [hl, hq.1]; exact hg
 have HST : Hid (∀ a ∈ l, a.o.size ≤ 1048576 ∧ a.y.size ≤ 1048576) := by rw [hl]; exact hst
 obtain ⟨n, hnl⟩ : ∃ n, n = l.length := ⟨_, rfl⟩
 have HL : Hid (n = l.length) := hnl
 rw [← hl] at hn ⊢
 rw [← hnl] at hn ⊢
 rw [← hl, ← hnl] at HP HW
 have HALL : Hid (livesOf (l.take n) m o y = livesOf l m o y) := by show _ = _; rw [hnl, List.take_length]
 obtain ⟨i0, hi, hz0, hz1, hz2⟩ := info_parts infoLive
 obtain ⟨X, hX⟩ : ∃ X, X = W.alloc (.cells #[] 40) := ⟨_, rfl⟩
 have HO : Hid (X.ownsRow W.heap.size 40 6 (.slice (some ⟨W.heap.size, 0, none⟩) 0 0) (livesOf (l.take 0) m o y).length (liV (livesOf (l.take 0) m o y))) := by rw [hX]; exact own_none W 40 6 rfl (Nat.le_refl _)
 have HBX : Hid (Below W.heap.size W X) := by rw [hX]; exact (Below.refl _ _).alloc (Nat.le_refl _) _
 have HX : Hid (W.alloc (.cells #[] 40) = X) := hX.symm
 rw [← HW.out] at HX
 clear HS hnl hl hX hst
 have d2 := (HP.out X HBX.out).cell 2 rfl
 rw [← HX.out] at d2
 go_enter Tryz.func12, Tryz.ntmps12
 go_wp2
 rw [HX.out]
 have hws : (w.alloc (.cells #[.slice a0 S.l.length c0, .slice a1 S.T.length c1, .slice a2 n c2, .slice a3 S.C.length c3] 29)).heap.size = W.heap.size := by rw [HW.out]
 try rw [show w.heap.size + 1 = W.heap.size from hWs.symm]
 have HWS : Hid (W.heap.size = w.heap.size + 1) := hWs
 clear d2 HX hws HW hWs
 go_loopw [9, 16] (fun x z wr => ∃ k : Nat, k ≤ n ∧ z = .int .i64 k ∧ wr.ownsRow W.heap.size 40 6 x (livesOf (l.take k) m o y).length (liV (livesOf (l.take k) m o y)) ∧ Below W.heap.size W wr) (fun _ z _ => n - (intOf z).toNat)
 case atStart => exact ⟨0, Nat.zero_le _, rfl, HO.out, HBX.out⟩
 case round =>
  clear HO HBX
  obtain ⟨k, hk, rfl, hown, hbel⟩ := hrel
  have HOW : Hid (wr.ownsRow W.heap.size 40 6 u9 (livesOf (l.take k) m o y).length (liV (livesOf (l.take k) m o y))) := hown
  have HBE : Hid (Below W.heap.size W wr) := hbel
  have d2 := (HP.out wr hbel).cell 2 rfl
  have hsz := hbel.size
  have hcl := lives_len l m o y k
  have hwx : w.heap.size ≤ wr.heap.size := by have := HWS.out; omega
  by_cases hlt : k < n
  ·have hkl : k < l.length := by rw [← HL.out]; exact hlt
   obtain ⟨g, f, rfl, hg, hcc⟩ := HGA.out (by omega)
   have hk1 : (k : Int) < n := by omega
   have hk0 : (0 : Int) ≤ k := by omega
   have q := (hcc k hkl).below hbel hg
   have HY : Hid (l[k].m = m ∧ l[k].o = o ∧ l[k].y = y → livesOf (l.take (k + 1)) m o y = livesOf (l.take k) m o y ++ [l[k]]) := lives_yes l m o y k hkl
   have HN : Hid (¬ (l[k].m = m ∧ l[k].o = o ∧ l[k].y = y) → livesOf (l.take (k + 1)) m o y = livesOf (l.take k) m o y) := lives_no l m o y k hkl
   have hsx := HST.out l[k] (List.getElem_mem hkl)
   generalize l[k] = x at *
   unfold liC at q
   obtain ⟨q0, q1, q2, q3, q4, q5⟩ := q
   clear hcc hbel hkl hown
   have HBA : Hid (Below W.heap.size W (wr.alloc (.cells #[.bool x.m, .string x.o, .string x.y, .int .i64 x.v, .int .i64 x.r, .int .i64 x.s] 40))) := HBE.out.alloc hsz _
   have HNX : Hid (¬ (x.m = m ∧ x.o = o ∧ x.y = y) → (wr.alloc (.cells #[.bool x.m, .string x.o, .string x.y, .int .i64 x.v, .int .i64 x.r, .int .i64 x.s] 40)).ownsRow W.heap.size 40 6 u9 (livesOf (l.take (k + 1)) m o y).length (liV (livesOf (l.take (k + 1)) m o y))) := fun h => by rw [HN.out h]; exact HOW.out.alloc _
   by_cases h1 : x.m = m
   case neg =>
    have b1 : (x.m == m) = false := by simp [h1]
    have HE := hidI (HNX.out (fun h => h1 h.1))
    clear h1 HNX HY HN HOW
    go_wp2
    go_roundw
    case rel => exact ⟨k + 1, by omega, by go_num, HE.out, HBA.out⟩
    case measure => simp [intOf]; omega
   have b1 : (x.m == m) = true := by simp [h1]
   by_cases h2 : x.o = o
   case neg =>
    have b2 := beq_str_no x.o o h2
    have HE := hidI (HNX.out (fun h => h2 h.2.1))
    clear h1 h2 HNX HY HN HOW
    go_wp2
    go_roundw
    case rel => exact ⟨k + 1, by omega, by go_num, HE.out, HBA.out⟩
    case measure => simp [intOf]; omega
   have b2 := beq_str x.o o h2
   by_cases h3 : x.y = y
   case neg =>
    have b3 := beq_str_no x.y y h3
    have HE := hidI (HNX.out (fun h => h3 h.2.2))
    clear h1 h2 h3 HNX HY HN HOW
    go_wp2
    go_roundw
    case rel => exact ⟨k + 1, by omega, by go_num, HE.out, HBA.out⟩
    case measure => simp [intOf]; omega
   have b3 := beq_str x.y y h3
   have HYY : Hid (livesOf (l.take (k + 1)) m o y = livesOf (l.take k) m o y ++ [x]) := HY.out ⟨h1, h2, h3⟩
   clear h1 h2 h3 HNX HY HN
   have HOA : Hid ((wr.alloc (.cells #[.bool x.m, .string x.o, .string x.y, .int .i64 x.v, .int .i64 x.r, .int .i64 x.s] 40)).ownsRow W.heap.size 40 6 u9 (livesOf (l.take k) m o y).length (liV (livesOf (l.take k) m o y))) := HOW.out.alloc _
   have HOF : Hid (∀ k', u9.ownBlock = some k' → W.heap.size ≤ k' ∧ k' < wr.heap.size) := fun k' hk' => HOW.out.lt k' hk'
   clear HOW
   have HCL : Hid (∀ wx, Calls Tryz.prog 59 #[.agg #[.bool x.m, .string x.o, .string x.y, .int .i64 x.v, .int .i64 x.r, .int .i64 x.s]] wx fun e w' => e = .returned (.agg #[.bool x.m, .string x.o, .string x.y, .int .i64 x.v, .int .i64 x.r, .int .i64 x.s]) ∧ Below wx.heap.size wx w') := fun wx => clonedLive_calls x wx (by omega) (by omega)
   clear hsx
   go_wp2_with fail
   refine (HCL.out _).mono ?_
   rintro e YY ⟨rfl, hb1⟩
   have hOY := own_below HOA.out hb1
   have hBY := HBA.out.trans (hb1.mono HBA.out.size)
   clear hb1 HOA HBA HCL q0 q1 q2 q3 q4 q5
   have hysz := hBY.size
   have HOWN : Hid ((YY.alloc (.cells #[.bool x.m, .string x.o, .string x.y, .int .i64 x.v, .int .i64 x.r, .int .i64 x.s] 40)).ownsRow W.heap.size 40 6 u9 (livesOf (l.take k) m o y).length (liV (livesOf (l.take k) m o y))) := hOY.alloc _
   have HNN : Hid (∀ j u, [.bool x.m, .string x.o, .string x.y, .int .i64 x.v, .int .i64 x.r, .int .i64 x.s][j]? = some u → (YY.alloc (.cells #[.bool x.m, .string x.o, .string x.y, .int .i64 x.v, .int .i64 x.r, .int .i64 x.s] 40)).cell? (Addr.add ⟨YY.heap.size, 0, none⟩ j) = some u) := cells_new YY [.bool x.m, .string x.o, .string x.y, .int .i64 x.v, .int .i64 x.r, .int .i64 x.s] 40 rfl
   have HSZ : Hid (W.heap.size ≤ (YY.alloc (.cells #[.bool x.m, .string x.o, .string x.y, .int .i64 x.v, .int .i64 x.r, .int .i64 x.s] 40)).heap.size) := by show _ ≤ _; simp; omega
   have HB2 : Hid (Below W.heap.size W (YY.alloc (.cells #[.bool x.m, .string x.o, .string x.y, .int .i64 x.v, .int .i64 x.r, .int .i64 x.s] 40))) := hBY.alloc hysz _
   clear hOY hBY
   go_wp2_with (at_builtin; refine wpList_append_own _ rfl _ _ 26 rfl W.heap.size 40 i0 (.agg #[.bool false, .string { data := #[] }, .string { data := #[] }, .int .i64 0, .int .i64 0, .int .i64 0]) 6 64 Tryz.underlying26 hi hz0 hz1 hz2 rfl (by decide) _ _ _ rfl HOWN.out ⟨YY.heap.size, 0, none⟩ 1 1 [.bool x.m, .string x.o, .string x.y, .int .i64 x.v, .int .i64 x.r, .int .i64 x.s] rfl rfl HNN.out (by intro u' hu'; simp at hu'; rcases hu' with rfl | rfl | rfl | rfl | rfl | rfl <;> rfl) (by unfold maxLen; omega) (by omega) HSZ.out ?_)
   intro v2 w4 hown4 hgrow hne2
   have hb4 : Below W.heap.size W w4 := HB2.out.grown hgrow (by simp; omega) (fun k' hk' => (HOF.out k' hk').1)
   have HO4 : Hid (w4.ownsRow W.heap.size 40 6 v2 (livesOf (l.take (k + 1)) m o y).length (liV (livesOf (l.take (k + 1)) m o y))) := by
    show World.ownsRow _ _ _ _ _ _ _
    rw [HYY.out, liV_snoc, List.length_append]; exact hown4
   clear hown4 hgrow hne2 HYY HOWN HNN HSZ HB2 HOF hysz
   go_wp2
   go_roundw
   case rel => exact ⟨k + 1, by omega, by go_num, HO4.out, hb4⟩
   case measure => simp [intOf]; omega
  ·have hk1 : ¬ ((k : Int) < n) := by omega
   have HE : Hid (wr.ownsRow w.heap.size 40 6 u9 (livesOf l m o y).length (liV (livesOf l m o y))) := by
    have hkn : k = n := by omega
    have := own_base HOW.out (show w.heap.size ≤ W.heap.size by have := HWS.out; omega)
    rwa [hkn, HALL.out] at this
   clear HOW hown hbel
   go_wp2
   go_ret
   exact ⟨_, rfl, HE.out, HB.out.trans (HBE.out.mono HB.out.size)⟩
end Go.Proofs.YtdknoflkingodaaGreat
