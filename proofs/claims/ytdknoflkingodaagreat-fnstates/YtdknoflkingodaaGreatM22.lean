/- What is known of a key is taken out, as the specification does it. Whether what an act is about is there, as the specification tells it. -/
import Derived.Test.YtdknoflkingodaaGreatM1
import Derived.Test.YtdknoflkingodaaGreatM2
import Derived.Test.YtdknoflkingodaaGreatM3
import Derived.Test.YtdknoflkingodaaGreatM4
import Derived.Test.YtdknoflkingodaaGreatM5
import Derived.Test.YtdknoflkingodaaGreatM6
import Derived.Test.YtdknoflkingodaaGreatM7
import Derived.Test.YtdknoflkingodaaGreatM8
import Derived.Test.YtdknoflkingodaaGreatM9
import Derived.Test.YtdknoflkingodaaGreatM10
import Derived.Test.YtdknoflkingodaaGreatM11
import Derived.Test.YtdknoflkingodaaGreatM12
import Derived.Test.YtdknoflkingodaaGreatM13
import Derived.Test.YtdknoflkingodaaGreatM14
import Derived.Test.YtdknoflkingodaaGreatM15
import Derived.Test.YtdknoflkingodaaGreatM16
import Derived.Test.YtdknoflkingodaaGreatM17
import Derived.Test.YtdknoflkingodaaGreatM18
import Derived.Test.YtdknoflkingodaaGreatM19
import Derived.Test.YtdknoflkingodaaGreatM20
import Derived.Test.YtdknoflkingodaaGreatM21
namespace Go.Proofs.YtdknoflkingodaaGreat
set_option maxRecDepth 100000
set_option linter.unusedVariables false
open Go.RowKit
def isGone (m : Bool) (o y : ByteArray) (kl : List Int) (x : Li) : Bool := decide (x.m = m ∧ x.o = o ∧ x.y = y) && knows kl x.r x.s
def cleared (l : List Li) (m : Bool) (o y : ByteArray) (kl : List Int) : List Li := l.filter fun x => !isGone m o y kl x
theorem cleared_yes (l : List Li) (m : Bool) (o y : ByteArray) (kl : List Int) (k : Nat) (h : k < l.length) (hx : isGone m o y kl l[k] = false) : cleared (l.take (k + 1)) m o y kl = cleared (l.take k) m o y kl ++ [l[k]] := by
 unfold cleared
 rw [List.take_succ_eq_append_getElem h, List.filter_append]
 congr 1
 simp [hx]
theorem cleared_no (l : List Li) (m : Bool) (o y : ByteArray) (kl : List Int) (k : Nat) (h : k < l.length) (hx : isGone m o y kl l[k] = true) : cleared (l.take (k + 1)) m o y kl = cleared (l.take k) m o y kl := by
 unfold cleared
 rw [List.take_succ_eq_append_getElem h, List.filter_append]
 simp [hx]
theorem cleared_len (l : List Li) (m : Bool) (o y : ByteArray) (kl : List Int) (k : Nat) : (cleared (l.take k) m o y kl).length ≤ k := by
 have h1 : (cleared (l.take k) m o y kl).length ≤ (l.take k).length := List.length_filter_le _ _
 have h2 : (l.take k).length ≤ k := by rw [List.length_take]; omega
 omega
set_option maxHeartbeats 8000000 in
theorem specClear_calls (L : List Li) (p : Nat) (u0 u1 u2 u3 : Value) (m : Bool) (o y : ByteArray) (kl : List Int) (v : Value) (w : World) (hn : L.length ≤ 1048576) (hk : kl.length ≤ 1048576) (hp : Row w p #[u0, u1, u2, u3] 29) (hL : LiAt w u2 L) (hv : IntsAt w v kl) :
  Calls Tryz.prog 193 #[.pointer (some ⟨p, 0, none⟩), .bool m, .string o, .string y, v] w fun e w' => e = .returned (.tuple #[]) ∧ ∃ a2 d2, Row w' p #[u0, u1, .slice a2 (cleared L m o y kl).length d2, u3] 29 ∧ w'.ownsRow w.heap.size 40 6 (.slice a2 (cleared L m o y kl).length d2) (cleared L m o y kl).length (liV (cleared L m o y kl)) ∧ w.grownBy w' (some p) := by
 obtain ⟨aa, ca, rfl, hga⟩ := hL
 have hpl : p < w.heap.size := hp.lt
 have HP : Hid (∀ wx, Below w.heap.size w wx → Row wx p #[u0, u1, .slice aa L.length ca, u3] 29) := fun wx h => hp.next h
 have HGA : Hid (LiG w aa L) := hga
 have HK : Hid (∀ wx r s, Below w.heap.size w wx → Calls Tryz.prog 34 #[v, .agg #[.int .i64 r, .int .i64 s]] wx fun e w' => e = .returned (.bool (knows kl r s)) ∧ Below wx.heap.size wx w') := fun wx r s h => specKnows_calls kl v r s wx hk (hv.below h)
 obtain ⟨va, vc, rfl, -⟩ := hv
 obtain ⟨n, hnl⟩ : ∃ n, n = L.length := ⟨_, rfl⟩
 have HL : Hid (n = L.length) := hnl
 have HALL : Hid (cleared (L.take n) m o y kl = cleared L m o y kl) := by show _ = _; rw [hnl, List.take_length]
 rw [← hnl] at hn HP
 obtain ⟨i0, hi, hz0, hz1, hz2⟩ := info_parts infoLive
 obtain ⟨X, hX⟩ : ∃ X, X = w.alloc (.cells #[] 40) := ⟨_, rfl⟩
 have HO : Hid (X.ownsRow w.heap.size 40 6 (.slice (some ⟨w.heap.size, 0, none⟩) 0 0) (cleared (L.take 0) m o y kl).length (liV (cleared (L.take 0) m o y kl))) := by rw [hX]; exact own_none w 40 6 rfl (Nat.le_refl _)
 have HBX : Hid (Below w.heap.size w X) := by rw [hX]; exact (Below.refl _ _).alloc (Nat.le_refl _) _
 have HX : Hid (w.alloc (.cells #[] 40) = X) := hX.symm
 clear hnl hX hga hp hk
 go_enter Tryz.func193, Tryz.ntmps193
 go_wp2
 rw [HX.out]
 clear HX
 go_loopw [10, 11] (fun x z wr => ∃ k : Nat, k ≤ n ∧ z = .int .i64 k ∧ wr.ownsRow w.heap.size 40 6 x (cleared (L.take k) m o y kl).length (liV (cleared (L.take k) m o y kl)) ∧ Below w.heap.size w wr) (fun _ z _ => n - (intOf z).toNat)
 case atStart => exact ⟨0, Nat.zero_le _, rfl, HO.out, HBX.out⟩
 case round =>
  clear HO HBX
  obtain ⟨k, hk, rfl, hown, hbel⟩ := hrel
  have HOW := hidI hown
  have HBE := hidI hbel
  obtain ⟨d0, d1, d2, d3⟩ := Row.four (HP.out wr hbel)
  have hsz := hbel.size
  have hcl := cleared_len L m o y kl k
  clear hown
  by_cases hlt : k < n
  ·have hkl : k < L.length := by rw [← HL.out]; exact hlt
   obtain ⟨g, f, rfl, hg, hcc⟩ := HGA.out (by omega)
   have hk1 : (k : Int) < n := by omega
   have hk0 : (0 : Int) ≤ k := by omega
   have q := (hcc k hkl).below hbel hg
   have HY : Hid (isGone m o y kl L[k] = false → cleared (L.take (k + 1)) m o y kl = cleared (L.take k) m o y kl ++ [L[k]]) := cleared_yes L m o y kl k hkl
   have HN : Hid (isGone m o y kl L[k] = true → cleared (L.take (k + 1)) m o y kl = cleared (L.take k) m o y kl) := cleared_no L m o y kl k hkl
   generalize L[k] = x at *
   unfold liC at q
   obtain ⟨q0, q1, q2, q3, q4, q5⟩ := q
   obtain ⟨WW, hWW⟩ : ∃ WW, WW = wr.alloc (.cells #[.bool x.m, .string x.o, .string x.y, .int .i64 x.v, .int .i64 x.r, .int .i64 x.s] 40) := ⟨_, rfl⟩
   have hBW : Below w.heap.size w WW := by rw [hWW]; exact hbel.alloc hsz _
   have hOW : WW.ownsRow w.heap.size 40 6 u10 (cleared (L.take k) m o y kl).length (liV (cleared (L.take k) m o y kl)) := by rw [hWW]; exact HOW.out.alloc _
   have hRW : Row WW wr.heap.size #[.bool x.m, .string x.o, .string x.y, .int .i64 x.v, .int .i64 x.r, .int .i64 x.s] 40 := by rw [hWW]; exact row_new wr _ _ rfl
   have HRX : Hid (∀ wx, Below WW.heap.size WW wx → wx.cell? ⟨wr.heap.size, 0, none⟩ = some (.bool x.m) ∧ wx.cell? ⟨wr.heap.size, 1, none⟩ = some (.string x.o) ∧ wx.cell? ⟨wr.heap.size, 2, none⟩ = some (.string x.y) ∧ wx.cell? ⟨wr.heap.size, 3, none⟩ = some (.int .i64 x.v) ∧ wx.cell? ⟨wr.heap.size, 4, none⟩ = some (.int .i64 x.r) ∧ wx.cell? ⟨wr.heap.size, 5, none⟩ = some (.int .i64 x.s)) := fun wx h => ⟨(hRW.next h).cell 0 rfl, (hRW.next h).cell 1 rfl, (hRW.next h).cell 2 rfl, (hRW.next h).cell 3 rfl, (hRW.next h).cell 4 rfl, (hRW.next h).cell 5 rfl⟩
   have HWW : Hid (wr.alloc (.cells #[.bool x.m, .string x.o, .string x.y, .int .i64 x.v, .int .i64 x.r, .int .i64 x.s] 40) = WW) := hWW.symm
   have HAPP : Hid (isGone m o y kl x = false → ∀ wv, Below WW.heap.size WW wv → Below w.heap.size w wv ∧ (wv.alloc (.cells #[.bool x.m, .string x.o, .string x.y, .int .i64 x.v, .int .i64 x.r, .int .i64 x.s] 40)).ownsRow w.heap.size 40 6 u10 (cleared (L.take k) m o y kl).length (liV (cleared (L.take k) m o y kl))) := fun _ wv h => ⟨hBW.trans (h.mono hBW.size), (own_below hOW h).alloc _⟩
   have HSK : Hid (isGone m o y kl x = true → ∀ wv, Below WW.heap.size WW wv → Below w.heap.size w wv ∧ wv.ownsRow w.heap.size 40 6 u10 (cleared (L.take (k + 1)) m o y kl).length (liV (cleared (L.take (k + 1)) m o y kl))) := fun h1 wv h => ⟨hBW.trans (h.mono hBW.size), by rw [HN.out h1]; exact own_below hOW h⟩
   have HOB : Hid (∀ k', u10.ownBlock = some k' → w.heap.size ≤ k') := fun k' hk' => (HOW.out.lt k' hk').1
   have HBW := hidI hBW
   have hwz := hBW.size
   clear hcc hbel hkl hWW hOW hRW HOW HN
   by_cases h1 : x.m = m
   case neg =>
    have HG : Hid (isGone m o y kl x = false) := by show _ = _; unfold isGone; rw [decide_eq_false (fun h => h1 h.1)]; rfl
    have b1 : (x.m != m) = true := by simp [h1]
    have b1' : (x.m == m) = false := by simp [h1]
    have hap := HAPP.out HG.out WW (Below.refl _ _)
    have HOWN := hidI hap.2
    have HNN : Hid (∀ j u, [.bool x.m, .string x.o, .string x.y, .int .i64 x.v, .int .i64 x.r, .int .i64 x.s][j]? = some u → (WW.alloc (.cells #[.bool x.m, .string x.o, .string x.y, .int .i64 x.v, .int .i64 x.r, .int .i64 x.s] 40)).cell? (Addr.add ⟨WW.heap.size, 0, none⟩ j) = some u) := cells_new WW [.bool x.m, .string x.o, .string x.y, .int .i64 x.v, .int .i64 x.r, .int .i64 x.s] 40 rfl
    clear h1
    clear HSK hap
    have HOWN2 : Hid (((wr.alloc (.cells #[.bool x.m, .string x.o, .string x.y, .int .i64 x.v, .int .i64 x.r, .int .i64 x.s] 40)).alloc (.cells #[.bool x.m, .string x.o, .string x.y, .int .i64 x.v, .int .i64 x.r, .int .i64 x.s] 40)).ownsRow w.heap.size 40 6 u10 (cleared (L.take k) m o y kl).length (liV (cleared (L.take k) m o y kl))) := by rw [HWW.out]; exact HOWN.out
    have HNN2 : Hid (∀ j u, [.bool x.m, .string x.o, .string x.y, .int .i64 x.v, .int .i64 x.r, .int .i64 x.s][j]? = some u → ((wr.alloc (.cells #[.bool x.m, .string x.o, .string x.y, .int .i64 x.v, .int .i64 x.r, .int .i64 x.s] 40)).alloc (.cells #[.bool x.m, .string x.o, .string x.y, .int .i64 x.v, .int .i64 x.r, .int .i64 x.s] 40)).cell? (Addr.add ⟨wr.heap.size + 1, 0, none⟩ j) = some u) := cells_new (wr.alloc (.cells #[.bool x.m, .string x.o, .string x.y, .int .i64 x.v, .int .i64 x.r, .int .i64 x.s] 40)) [.bool x.m, .string x.o, .string x.y, .int .i64 x.v, .int .i64 x.r, .int .i64 x.s] 40 (by simp)
    have HB1 : Hid (Below w.heap.size w ((wr.alloc (.cells #[.bool x.m, .string x.o, .string x.y, .int .i64 x.v, .int .i64 x.r, .int .i64 x.s] 40)).alloc (.cells #[.bool x.m, .string x.o, .string x.y, .int .i64 x.v, .int .i64 x.r, .int .i64 x.s] 40))) := by rw [HWW.out]; exact HBW.out.alloc HBW.out.size _
    have HSZ : Hid (w.heap.size ≤ ((wr.alloc (.cells #[.bool x.m, .string x.o, .string x.y, .int .i64 x.v, .int .i64 x.r, .int .i64 x.s] 40)).alloc (.cells #[.bool x.m, .string x.o, .string x.y, .int .i64 x.v, .int .i64 x.r, .int .i64 x.s] 40)).heap.size) := HB1.out.size
    clear HOWN HNN HAPP HRX
    go_wp2_with (at_builtin; refine wpList_append_own _ rfl _ _ 26 rfl w.heap.size 40 i0 (.agg #[.bool false, .string { data := #[] }, .string { data := #[] }, .int .i64 0, .int .i64 0, .int .i64 0]) 6 64 Tryz.underlying26 hi hz0 hz1 hz2 rfl (by decide) _ _ _ rfl HOWN2.out ⟨wr.heap.size + 1, 0, none⟩ 1 1 [.bool x.m, .string x.o, .string x.y, .int .i64 x.v, .int .i64 x.r, .int .i64 x.s] rfl rfl HNN2.out (by intro u' hu'; simp at hu'; rcases hu' with rfl | rfl | rfl | rfl | rfl | rfl <;> rfl) (by unfold maxLen; omega) (by omega) HSZ.out ?_)
    intro v2 w4 hown4 hgrow hne2
    have hb4 : Below w.heap.size w w4 := HB1.out.grown hgrow (by simp; omega) HOB.out
    have HO4 : Hid (w4.ownsRow w.heap.size 40 6 v2 (cleared (L.take (k + 1)) m o y kl).length (liV (cleared (L.take (k + 1)) m o y kl))) := by
     show World.ownsRow _ _ _ _ _ _ _
     rw [HY.out HG.out, liV_snoc, len_snoc]; exact hown4
    clear hown4 hgrow hne2 HOWN2 HNN2 HB1 HSZ HY HG
    go_wp2
    go_roundw
    case rel => exact ⟨k + 1, by omega, by go_num, HO4.out, hb4⟩
    case measure => simp [intOf]; omega
   have b1 : (x.m != m) = false := by simp [h1]
   have b1' : (x.m == m) = true := by simp [h1]
   by_cases h2 : x.o = o
   case neg =>
    have HG : Hid (isGone m o y kl x = false) := by show _ = _; unfold isGone; rw [decide_eq_false (fun h => h2 h.2.1)]; rfl
    have b2 := beq_str_no x.o o h2
    have hap := HAPP.out HG.out WW (Below.refl _ _)
    have HOWN := hidI hap.2
    have HNN : Hid (∀ j u, [.bool x.m, .string x.o, .string x.y, .int .i64 x.v, .int .i64 x.r, .int .i64 x.s][j]? = some u → (WW.alloc (.cells #[.bool x.m, .string x.o, .string x.y, .int .i64 x.v, .int .i64 x.r, .int .i64 x.s] 40)).cell? (Addr.add ⟨WW.heap.size, 0, none⟩ j) = some u) := cells_new WW [.bool x.m, .string x.o, .string x.y, .int .i64 x.v, .int .i64 x.r, .int .i64 x.s] 40 rfl
    clear h1 h2
    clear HSK hap
    have HOWN2 : Hid (((wr.alloc (.cells #[.bool x.m, .string x.o, .string x.y, .int .i64 x.v, .int .i64 x.r, .int .i64 x.s] 40)).alloc (.cells #[.bool x.m, .string x.o, .string x.y, .int .i64 x.v, .int .i64 x.r, .int .i64 x.s] 40)).ownsRow w.heap.size 40 6 u10 (cleared (L.take k) m o y kl).length (liV (cleared (L.take k) m o y kl))) := by rw [HWW.out]; exact HOWN.out
    have HNN2 : Hid (∀ j u, [.bool x.m, .string x.o, .string x.y, .int .i64 x.v, .int .i64 x.r, .int .i64 x.s][j]? = some u → ((wr.alloc (.cells #[.bool x.m, .string x.o, .string x.y, .int .i64 x.v, .int .i64 x.r, .int .i64 x.s] 40)).alloc (.cells #[.bool x.m, .string x.o, .string x.y, .int .i64 x.v, .int .i64 x.r, .int .i64 x.s] 40)).cell? (Addr.add ⟨wr.heap.size + 1, 0, none⟩ j) = some u) := cells_new (wr.alloc (.cells #[.bool x.m, .string x.o, .string x.y, .int .i64 x.v, .int .i64 x.r, .int .i64 x.s] 40)) [.bool x.m, .string x.o, .string x.y, .int .i64 x.v, .int .i64 x.r, .int .i64 x.s] 40 (by simp)
    have HB1 : Hid (Below w.heap.size w ((wr.alloc (.cells #[.bool x.m, .string x.o, .string x.y, .int .i64 x.v, .int .i64 x.r, .int .i64 x.s] 40)).alloc (.cells #[.bool x.m, .string x.o, .string x.y, .int .i64 x.v, .int .i64 x.r, .int .i64 x.s] 40))) := by rw [HWW.out]; exact HBW.out.alloc HBW.out.size _
    have HSZ : Hid (w.heap.size ≤ ((wr.alloc (.cells #[.bool x.m, .string x.o, .string x.y, .int .i64 x.v, .int .i64 x.r, .int .i64 x.s] 40)).alloc (.cells #[.bool x.m, .string x.o, .string x.y, .int .i64 x.v, .int .i64 x.r, .int .i64 x.s] 40)).heap.size) := HB1.out.size
    clear HOWN HNN HAPP HRX
    go_wp2_with (at_builtin; refine wpList_append_own _ rfl _ _ 26 rfl w.heap.size 40 i0 (.agg #[.bool false, .string { data := #[] }, .string { data := #[] }, .int .i64 0, .int .i64 0, .int .i64 0]) 6 64 Tryz.underlying26 hi hz0 hz1 hz2 rfl (by decide) _ _ _ rfl HOWN2.out ⟨wr.heap.size + 1, 0, none⟩ 1 1 [.bool x.m, .string x.o, .string x.y, .int .i64 x.v, .int .i64 x.r, .int .i64 x.s] rfl rfl HNN2.out (by intro u' hu'; simp at hu'; rcases hu' with rfl | rfl | rfl | rfl | rfl | rfl <;> rfl) (by unfold maxLen; omega) (by omega) HSZ.out ?_)
    intro v2 w4 hown4 hgrow hne2
    have hb4 : Below w.heap.size w w4 := HB1.out.grown hgrow (by simp; omega) HOB.out
    have HO4 : Hid (w4.ownsRow w.heap.size 40 6 v2 (cleared (L.take (k + 1)) m o y kl).length (liV (cleared (L.take (k + 1)) m o y kl))) := by
     show World.ownsRow _ _ _ _ _ _ _
     rw [HY.out HG.out, liV_snoc, len_snoc]; exact hown4
    clear hown4 hgrow hne2 HOWN2 HNN2 HB1 HSZ HY HG
    go_wp2
    go_roundw
    case rel => exact ⟨k + 1, by omega, by go_num, HO4.out, hb4⟩
    case measure => simp [intOf]; omega
   have b2 := beq_str x.o o h2
   by_cases h3 : x.y = y
   case neg =>
    have HG : Hid (isGone m o y kl x = false) := by show _ = _; unfold isGone; rw [decide_eq_false (fun h => h3 h.2.2)]; rfl
    have b3 := beq_str_no x.y y h3
    have hap := HAPP.out HG.out WW (Below.refl _ _)
    have HOWN := hidI hap.2
    have HNN : Hid (∀ j u, [.bool x.m, .string x.o, .string x.y, .int .i64 x.v, .int .i64 x.r, .int .i64 x.s][j]? = some u → (WW.alloc (.cells #[.bool x.m, .string x.o, .string x.y, .int .i64 x.v, .int .i64 x.r, .int .i64 x.s] 40)).cell? (Addr.add ⟨WW.heap.size, 0, none⟩ j) = some u) := cells_new WW [.bool x.m, .string x.o, .string x.y, .int .i64 x.v, .int .i64 x.r, .int .i64 x.s] 40 rfl
    clear h1 h2 h3
    clear HSK hap
    have HOWN2 : Hid (((wr.alloc (.cells #[.bool x.m, .string x.o, .string x.y, .int .i64 x.v, .int .i64 x.r, .int .i64 x.s] 40)).alloc (.cells #[.bool x.m, .string x.o, .string x.y, .int .i64 x.v, .int .i64 x.r, .int .i64 x.s] 40)).ownsRow w.heap.size 40 6 u10 (cleared (L.take k) m o y kl).length (liV (cleared (L.take k) m o y kl))) := by rw [HWW.out]; exact HOWN.out
    have HNN2 : Hid (∀ j u, [.bool x.m, .string x.o, .string x.y, .int .i64 x.v, .int .i64 x.r, .int .i64 x.s][j]? = some u → ((wr.alloc (.cells #[.bool x.m, .string x.o, .string x.y, .int .i64 x.v, .int .i64 x.r, .int .i64 x.s] 40)).alloc (.cells #[.bool x.m, .string x.o, .string x.y, .int .i64 x.v, .int .i64 x.r, .int .i64 x.s] 40)).cell? (Addr.add ⟨wr.heap.size + 1, 0, none⟩ j) = some u) := cells_new (wr.alloc (.cells #[.bool x.m, .string x.o, .string x.y, .int .i64 x.v, .int .i64 x.r, .int .i64 x.s] 40)) [.bool x.m, .string x.o, .string x.y, .int .i64 x.v, .int .i64 x.r, .int .i64 x.s] 40 (by simp)
    have HB1 : Hid (Below w.heap.size w ((wr.alloc (.cells #[.bool x.m, .string x.o, .string x.y, .int .i64 x.v, .int .i64 x.r, .int .i64 x.s] 40)).alloc (.cells #[.bool x.m, .string x.o, .string x.y, .int .i64 x.v, .int .i64 x.r, .int .i64 x.s] 40))) := by rw [HWW.out]; exact HBW.out.alloc HBW.out.size _
    have HSZ : Hid (w.heap.size ≤ ((wr.alloc (.cells #[.bool x.m, .string x.o, .string x.y, .int .i64 x.v, .int .i64 x.r, .int .i64 x.s] 40)).alloc (.cells #[.bool x.m, .string x.o, .string x.y, .int .i64 x.v, .int .i64 x.r, .int .i64 x.s] 40)).heap.size) := HB1.out.size
    clear HOWN HNN HAPP HRX
    go_wp2_with (at_builtin; refine wpList_append_own _ rfl _ _ 26 rfl w.heap.size 40 i0 (.agg #[.bool false, .string { data := #[] }, .string { data := #[] }, .int .i64 0, .int .i64 0, .int .i64 0]) 6 64 Tryz.underlying26 hi hz0 hz1 hz2 rfl (by decide) _ _ _ rfl HOWN2.out ⟨wr.heap.size + 1, 0, none⟩ 1 1 [.bool x.m, .string x.o, .string x.y, .int .i64 x.v, .int .i64 x.r, .int .i64 x.s] rfl rfl HNN2.out (by intro u' hu'; simp at hu'; rcases hu' with rfl | rfl | rfl | rfl | rfl | rfl <;> rfl) (by unfold maxLen; omega) (by omega) HSZ.out ?_)
    intro v2 w4 hown4 hgrow hne2
    have hb4 : Below w.heap.size w w4 := HB1.out.grown hgrow (by simp; omega) HOB.out
    have HO4 : Hid (w4.ownsRow w.heap.size 40 6 v2 (cleared (L.take (k + 1)) m o y kl).length (liV (cleared (L.take (k + 1)) m o y kl))) := by
     show World.ownsRow _ _ _ _ _ _ _
     rw [HY.out HG.out, liV_snoc, len_snoc]; exact hown4
    clear hown4 hgrow hne2 HOWN2 HNN2 HB1 HSZ HY HG
    go_wp2
    go_roundw
    case rel => exact ⟨k + 1, by omega, by go_num, HO4.out, hb4⟩
    case measure => simp [intOf]; omega
   have b3 := beq_str x.y y h3
   have HKG : Hid (isGone m o y kl x = knows kl x.r x.s) := by show _ = _; unfold isGone; rw [decide_eq_true ⟨h1, h2, h3⟩]; rfl
   have HKX := hidI (HK.out WW x.r x.s hBW)
   generalize knows kl x.r x.s = kb at *
   obtain ⟨m0, m1, m2, m3, m4, m5⟩ := HRX.out WW (Below.refl _ _)
   rw [← HWW.out] at m0 m1 m2 m3 m4 m5
   clear h1 h2 h3
   go_wp2_with fail
   rw [HWW.out]
   refine HKX.out.mono ?_
   rintro e wv ⟨rfl, hbv⟩
   clear HKX m0 m1 m2 m3 m4 m5 q0 q1 q2 q3 q4 q5 d0 d1 d2 d3
   cases kb with
   | false =>
    have HG : Hid (isGone m o y kl x = false) := HKG.out
    have HBV := hidI hbv
    clear hbv HKG
    have hap := HAPP.out HG.out wv HBV.out
    have HOWN := hidI hap.2
    have HB1 := hidI hap.1
    have hs1 := hap.1.size
    have HNN : Hid (∀ j u, [.bool x.m, .string x.o, .string x.y, .int .i64 x.v, .int .i64 x.r, .int .i64 x.s][j]? = some u → (wv.alloc (.cells #[.bool x.m, .string x.o, .string x.y, .int .i64 x.v, .int .i64 x.r, .int .i64 x.s] 40)).cell? (Addr.add ⟨wv.heap.size, 0, none⟩ j) = some u) := cells_new wv [.bool x.m, .string x.o, .string x.y, .int .i64 x.v, .int .i64 x.r, .int .i64 x.s] 40 rfl
    obtain ⟨m0, m1, m2, m3, m4, m5⟩ := HRX.out wv HBV.out
    clear hap HAPP HSK
    go_wp2_with (at_builtin; refine wpList_append_own _ rfl _ _ 26 rfl w.heap.size 40 i0 (.agg #[.bool false, .string { data := #[] }, .string { data := #[] }, .int .i64 0, .int .i64 0, .int .i64 0]) 6 64 Tryz.underlying26 hi hz0 hz1 hz2 rfl (by decide) _ _ _ rfl HOWN.out ⟨wv.heap.size, 0, none⟩ 1 1 [.bool x.m, .string x.o, .string x.y, .int .i64 x.v, .int .i64 x.r, .int .i64 x.s] rfl rfl HNN.out (by intro u' hu'; simp at hu'; rcases hu' with rfl | rfl | rfl | rfl | rfl | rfl <;> rfl) (by unfold maxLen; omega) (by omega) (by simp; omega) ?_)
    intro v2 w4 hown4 hgrow hne2
    have hb4 : Below w.heap.size w w4 := (HB1.out.alloc hs1 _).grown hgrow (by simp; omega) HOB.out
    have HO4 : Hid (w4.ownsRow w.heap.size 40 6 v2 (cleared (L.take (k + 1)) m o y kl).length (liV (cleared (L.take (k + 1)) m o y kl))) := by
     show World.ownsRow _ _ _ _ _ _ _
     rw [HY.out HG.out, liV_snoc, len_snoc]; exact hown4
    clear hown4 hgrow hne2 HOWN HNN m0 m1 m2 m3 m4 m5 HY HG
    go_wp2
    go_roundw
    case rel => exact ⟨k + 1, by omega, by go_num, HO4.out, hb4⟩
    case measure => simp [intOf]; omega
   | true =>
    have HG : Hid (isGone m o y kl x = true) := HKG.out
    have hap := HSK.out HG.out wv hbv
    have HO4 := hidI hap.2
    have hb4 := hap.1
    clear hap HSK HAPP hbv HKG
    go_wp2
    go_roundw
    case rel => exact ⟨k + 1, by omega, by go_num, HO4.out, hb4⟩
    case measure => simp [intOf]; omega
  ·have hk1 : ¬ ((k : Int) < n) := by omega
   have hkn : k = n := by omega
   have hE := HOW.out
   rw [hkn, HALL.out] at hE
   obtain ⟨a2, e2, rfl, -⟩ := LiAt.own hE rfl
   have f2 := (HP.out wr hbel).free 2
   have HR : Hid (Row (wr.setCell ⟨p, 2, none⟩ (.slice a2 (cleared L m o y kl).length e2)) p #[u0, u1, .slice a2 (cleared L m o y kl).length e2, u3] 29) := (HP.out wr hbel).st2 _
   have HO5 : Hid ((wr.setCell ⟨p, 2, none⟩ (.slice a2 (cleared L m o y kl).length e2)).ownsRow w.heap.size 40 6 (.slice a2 (cleared L m o y kl).length e2) (cleared L m o y kl).length (liV (cleared L m o y kl))) := own_set hE hpl
   have HG5 : Hid (w.grownBy (wr.setCell ⟨p, 2, none⟩ (.slice a2 (cleared L m o y kl).length e2)) (some p)) := by
    refine ⟨hbel.os, hbel.tape, hbel.output, by simpa [World.setCell] using hbel.size, fun j hj hne => ?_⟩
    rw [Below.heap_setCell wr _ _ j (fun e => hne (by rw [e]))]
    exact hbel.block j hj
   clear HOW hE hkn hbel
   go_wp2
   go_end0
   exact ⟨rfl, a2, e2, HR.out, HO5.out, HG5.out⟩
end Go.Proofs.YtdknoflkingodaaGreat
namespace Go.Proofs.YtdknoflkingodaaGreat
set_option maxRecDepth 100000
set_option linter.unusedVariables false
open Go.RowKit
/-- What an act hangs on is there. -/
def HasRef (S : Sta) (A : Ac) : Prop := (A.k ≠ 7 ∧ (A.k ≠ 6 ∨ (A.x = 0 ∧ A.z = 0))) ∨ ∃ k, ∃ h : k < S.C.length, cellAt S.C A.x A.z 0 = (k : Int) ∧ S.C[k].o = A.o ∧ (A.k = 7 ∨ S.C[k].t < A.t)
abbrev dro0 : Oper := oq 24 (.move (.tmp 5)) 3 "l07_done.go:82" #[] none
abbrev dro1 : Oper := oq 25 (.binOp .geq 3 (.tmp 24) (.const (.int .i64 0)) 3) 4 "l07_done.go:82" #[eD 0] none
abbrev dro2 : Oper := oq 26 (.move (.tmp 25)) 4 "l07_done.go:82" #[eD 1] none
abbrev dro3 : Oper := oq 27 (.fieldAddr 29 (.tmp 2) 3) 0 "l07_done.go:82" #[eG 2] (some (2, true))
abbrev dro4 : Oper := oq 28 (.load 27 (.tmp 27)) 27 "l07_done.go:82" #[eD 3, eG 2] (some (2, true))
abbrev dro5 : Oper := oq 29 (.move (.tmp 5)) 3 "l07_done.go:82" #[eG 2] (some (2, true))
abbrev dro6 : Oper := oq 30 (.indexAddr 27 (.tmp 28) (.tmp 29)) 0 "l07_done.go:82" #[eD 4, eD 5, eG 2] (some (2, true))
abbrev dro7 : Oper := oq 31 (.fieldAddr 35 (.tmp 30) 0) 0 "l07_done.go:82" #[eD 6, eG 2] (some (2, true))
abbrev dro8 : Oper := oq 32 (.load 9 (.tmp 31)) 9 "l07_done.go:82" #[eD 7, eG 2] (some (2, true))
abbrev dro9 : Oper := oq 33 (.fieldAddr 62 (.tmp 3) 4) 0 "l07_done.go:82" #[eG 2] (some (2, true))
abbrev dro10 : Oper := oq 34 (.load 9 (.tmp 33)) 9 "l07_done.go:82" #[eD 9, eG 2] (some (2, true))
abbrev dro11 : Oper := oq 35 (.binOp .eql 9 (.tmp 32) (.tmp 34) 9) 4 "l07_done.go:82" #[eD 8, eD 10, eG 2] (some (2, true))
abbrev dro12 : Oper := oq 36 (.pick (.tmp 26) (.tmp 35) (.const (.bool false))) 4 "l07_done.go:82" #[eD 2, eD 11] none
abbrev dro13 : Oper := oq 37 (.move (.tmp 36)) 4 "l07_done.go:82" #[eD 12, eC 2] none
abbrev dro14 : Oper := oq 38 (.fieldAddr 62 (.tmp 3) 3) 0 "l07_done.go:82" #[eG 13] (some (13, true))
abbrev dro15 : Oper := oq 39 (.load 3 (.tmp 38)) 3 "l07_done.go:82" #[eD 14, eG 13] (some (13, true))
abbrev dro16 : Oper := oq 40 (.binOp .eql 3 (.tmp 39) (.const (.int .i64 7)) 3) 4 "l07_done.go:82" #[eD 15, eG 13] (some (13, true))
abbrev dro17 : Oper := oq 41 (.move (.tmp 40)) 4 "l07_done.go:82" #[eD 16, eC 13, eG 13] (some (13, true))
abbrev dro18 : Oper := oq 42 (.fieldAddr 29 (.tmp 2) 3) 0 "l07_done.go:82" #[eG 17] (some (17, false))
abbrev dro19 : Oper := oq 43 (.load 27 (.tmp 42)) 27 "l07_done.go:82" #[eD 18, eG 17] (some (17, false))
abbrev dro20 : Oper := oq 44 (.move (.tmp 5)) 3 "l07_done.go:82" #[eG 17] (some (17, false))
abbrev dro21 : Oper := oq 45 (.indexAddr 27 (.tmp 43) (.tmp 44)) 0 "l07_done.go:82" #[eD 19, eD 20, eG 17] (some (17, false))
abbrev dro22 : Oper := oq 46 (.fieldAddr 35 (.tmp 45) 2) 0 "l07_done.go:82" #[eD 21, eG 17] (some (17, false))
abbrev dro23 : Oper := oq 47 (.load 3 (.tmp 46)) 3 "l07_done.go:82" #[eD 22, eG 17] (some (17, false))
abbrev dro24 : Oper := oq 48 (.fieldAddr 62 (.tmp 3) 1) 0 "l07_done.go:82" #[eG 17] (some (17, false))
abbrev dro25 : Oper := oq 49 (.load 3 (.tmp 48)) 3 "l07_done.go:82" #[eD 24, eG 17] (some (17, false))
abbrev dro26 : Oper := oq 50 (.binOp .lss 3 (.tmp 47) (.tmp 49) 3) 4 "l07_done.go:82" #[eD 23, eD 25, eG 17] (some (17, false))
abbrev dro27 : Oper := oq 51 (.pick (.tmp 41) (.const (.bool true)) (.tmp 50)) 4 "l07_done.go:82" #[eD 17, eD 26, eG 13] (some (13, true))
abbrev dro28 : Oper := oq 52 (.pick (.tmp 37) (.tmp 51) (.const (.bool false))) 4 "l07_done.go:82" #[eD 13, eD 27] none
abbrev dro29 : Oper := oq 4 (.assign (.tmp 52)) 4 "l07_done.go:82" #[eD 28, eC 17, eP 0, eP 1, eP 2, eP 3, eP 4, eP 5, eP 6, eP 7, eP 8, eP 9, eP 10, eP 11, eP 12, eP 13, eP 14, eP 15, eP 16, eP 17, eP 18, eP 19, eP 20, eP 21, eP 22, eP 23, eP 24, eP 25, eP 26, eP 27, eP 28] none
set_option maxHeartbeats 16000000 in
theorem specRef_calls (S : Sta) (u0 u1 u2 u3 : Value) (A : Ac) (u : Value) (w : World) (hn : Small S) (h : StAt w S u0 u1 u2 u3) :
  Calls Tryz.prog 141 #[.agg #[u0, u1, u2, u3], .agg #[.int .i64 A.r, .int .i64 A.s, .int .i64 A.t, u, .int .i64 A.k, .string A.o, .string A.y, .int .i64 A.v, .int .i64 A.x, .int .i64 A.z]] w fun e w' => Tells e (HasRef S A) ∧ Below w.heap.size w w' := by
 obtain ⟨a0, c0, a1, c1, a2, c2, a3, c3, rfl, rfl, rfl, rfl⟩ := h.shape
 obtain ⟨W, hW⟩ : ∃ W, W = (w.alloc (.cells #[.slice a0 S.l.length c0, .slice a1 S.T.length c1, .slice a2 S.L.length c2, .slice a3 S.C.length c3] 29)).alloc (.cells #[.int .i64 A.r, .int .i64 A.s, .int .i64 A.t, u, .int .i64 A.k, .string A.o, .string A.y, .int .i64 A.v, .int .i64 A.x, .int .i64 A.z] 62) := ⟨_, rfl⟩
 have hR : Row W w.heap.size #[.slice a0 S.l.length c0, .slice a1 S.T.length c1, .slice a2 S.L.length c2, .slice a3 S.C.length c3] 29 := by rw [hW]; exact (row_new w _ _ rfl).alloc _
 have hA : Row W (w.heap.size + 1) #[.int .i64 A.r, .int .i64 A.s, .int .i64 A.t, u, .int .i64 A.k, .string A.o, .string A.y, .int .i64 A.v, .int .i64 A.x, .int .i64 A.z] 62 := by rw [hW]; exact row_new _ _ _ (by simp)
 have HB : Hid (Below w.heap.size w W) := by rw [hW]; exact ((Below.refl _ _).alloc (Nat.le_refl _) _).alloc (by simp) _
 have hS : StAt W S (.slice a0 S.l.length c0) (.slice a1 S.T.length c1) (.slice a2 S.L.length c2) (.slice a3 S.C.length c3) := by rw [hW]; exact (h.alloc _).alloc _
 have HF : Hid (∀ wx, Below W.heap.size W wx → Below w.heap.size w wx) := fun wx h => HB.out.trans (h.mono HB.out.size)
 have HR4 : Hid (∀ wx, Below W.heap.size W wx → wx.cell? ⟨w.heap.size, 0, none⟩ = some (.slice a0 S.l.length c0) ∧ wx.cell? ⟨w.heap.size, 1, none⟩ = some (.slice a1 S.T.length c1) ∧ wx.cell? ⟨w.heap.size, 2, none⟩ = some (.slice a2 S.L.length c2) ∧ wx.cell? ⟨w.heap.size, 3, none⟩ = some (.slice a3 S.C.length c3)) := fun wx h => Row.four (hR.next h)
 have HRA : Hid (∀ wx, Below W.heap.size W wx → wx.cell? ⟨w.heap.size + 1, 2, none⟩ = some (.int .i64 A.t) ∧ wx.cell? ⟨w.heap.size + 1, 4, none⟩ = some (.int .i64 A.k) ∧ wx.cell? ⟨w.heap.size + 1, 5, none⟩ = some (.string A.o) ∧ wx.cell? ⟨w.heap.size + 1, 8, none⟩ = some (.int .i64 A.x) ∧ wx.cell? ⟨w.heap.size + 1, 9, none⟩ = some (.int .i64 A.z)) := fun wx h => ⟨(hA.next h).cell 2 rfl, (hA.next h).cell 4 rfl, (hA.next h).cell 5 rfl, (hA.next h).cell 8 rfl, (hA.next h).cell 9 rfl⟩
 have HCA := hidI (specCellAt_calls S _ _ _ _ A.x A.z W hn.2.2.2 hS)
 have HCG : Hid (CeG W a3 S.C) := by
  obtain ⟨x, y, hq, hg⟩ := hS.2.2.2
  simp only [Value.slice.injEq] at hq
  rw [hq.1]; exact hg
 have HW : Hid ((w.alloc (.cells #[.slice a0 S.l.length c0, .slice a1 S.T.length c1, .slice a2 S.L.length c2, .slice a3 S.C.length c3] 29)).alloc (.cells #[.int .i64 A.r, .int .i64 A.s, .int .i64 A.t, u, .int .i64 A.k, .string A.o, .string A.y, .int .i64 A.v, .int .i64 A.x, .int .i64 A.z] 62) = W) := hW.symm
 have hrg := cellAt_range S.C A.x A.z 0 (by omega)
 have HRI : Hid (¬ (A.k ≠ 7 ∧ (A.k ≠ 6 ∨ (A.x = 0 ∧ A.z = 0))) → ∀ j (h : j < S.C.length), cellAt S.C A.x A.z 0 = (j : Int) → (HasRef S A ↔ S.C[j].o = A.o ∧ (A.k = 7 ∨ S.C[j].t < A.t))) := fun hz j h e => by
  constructor
  ·rintro (h1 | ⟨i, hi, h1, h2⟩)
   ·exact absurd h1 hz
   ·have : i = j := by omega
    subst this; exact h2
  ·intro h1; exact .inr ⟨j, h, e, h1⟩
 have HRN : Hid (¬ (A.k ≠ 7 ∧ (A.k ≠ 6 ∨ (A.x = 0 ∧ A.z = 0))) → cellAt S.C A.x A.z 0 = -1 → ¬ HasRef S A) := fun hz e h => by
  rcases h with h | ⟨i, hi, h1, -⟩
  ·exact hz h
  ·omega
 have HYE : Hid ((A.k ≠ 7 ∧ (A.k ≠ 6 ∨ (A.x = 0 ∧ A.z = 0))) → HasRef S A) := fun h => .inl h
 obtain ⟨nc, hnc⟩ : ∃ n, n = S.C.length := ⟨_, rfl⟩
 have HNC := hidI hnc
 have hW0 : Below W.heap.size W W := Below.refl _ _
 obtain ⟨d0, d1, d2, d3⟩ := HR4.out W hW0
 obtain ⟨e2, e4, e5, e8, e9⟩ := HRA.out W hW0
 rw [hW] at d0 d1 d2 d3 e2 e4 e5 e8 e9
 have hgd := dot_guard
 have HEQ : Hid (∀ wx, (Op.equalIn 10000 33 (.agg #[.int .i64 A.x, .int .i64 A.z]) (.agg #[.int .i64 0, .int .i64 0])).run Tryz.prog wx = .ok (decide (A.x = 0 ∧ A.z = 0)) wx) := fun wx => eqDot_zero A.x A.z wx
 have HB0 := hidI (HF.out W hW0)
 clear hW h hR hA hS hn hnc
 by_cases hz : A.k ≠ 7 ∧ (A.k ≠ 6 ∨ (A.x = 0 ∧ A.z = 0))
 ·have HE := hidI (HYE.out hz)
  have b7 : (A.k != 7) = true := by simp [hz.1]
  by_cases h6 : A.k = 6
  ·have b6 : (A.k != 6) = false := by simp [h6]
   have hz2 := hz.2.resolve_left (fun h => h h6)
   have heq : ∀ wx, (Op.equalIn 10000 33 (.agg #[.int .i64 A.x, .int .i64 A.z]) (.agg #[.int .i64 0, .int .i64 0])).run Tryz.prog wx = .ok true wx := fun wx => by rw [HEQ.out, decide_eq_true hz2]
   clear hz h6 hz2
   go_enter Tryz.func141, Tryz.ntmps141
   go_wp2
   rw [HW.out]
   go_ret
   exact ⟨Tells.yes HE.out, HB0.out⟩
  ·have b6 : (A.k != 6) = true := by simp [h6]
   clear hz h6
   go_enter Tryz.func141, Tryz.ntmps141
   go_wp2
   rw [HW.out]
   go_ret
   exact ⟨Tells.yes HE.out, HB0.out⟩
 replace HRI := hidI (HRI.out hz)
 replace HRN := hidI (HRN.out hz)
 have HEND : Hid (∀ (Z : World) (tm : Unit), True) := fun _ _ => trivial
 generalize cellAt S.C A.x A.z 0 = KK at *
 have hcase : A.k = 7 ∨ (A.k = 6 ∧ ¬ (A.x = 0 ∧ A.z = 0)) := by
  by_cases h7 : A.k = 7
  ·exact .inl h7
  ·right
   by_cases h6 : A.k = 6
   ·exact ⟨h6, fun h => hz ⟨h7, .inr h⟩⟩
   ·exact absurd ⟨h7, .inl h6⟩ hz
 clear hz
 rcases hcase with h7 | h6
 ·have b7 : (A.k != 7) = false := by simp [h7]
  have HK7 : Hid (A.k = 7 ∨ False) := .inl h7
  clear h7 HEQ
  go_enter Tryz.func141, Tryz.ntmps141
  go_wp2_with fail
  rw [HW.out]
  refine HCA.out.mono ?_
  rintro e w3 ⟨rfl, hb3⟩
  have HW3 := hidI hb3
  clear d0 d1 d2 d3 e2 e4 e5 e8 e9 HCA HW hW0
  rcases hrg with hk | ⟨hr1, hr2⟩
  ·subst hk
   have HE := hidI (HRN.out rfl)
   have HS1 : Hid (∀ wx, Below w3.heap.size w3 wx → wx.cell? ⟨w.heap.size + 1, 2, none⟩ = some (.int .i64 A.t)) := fun wx h => (HRA.out wx (HW3.out.trans (h.mono HW3.out.size))).1
   have hBc : Below w3.heap.size w3 w3.drew := (Below.refl _ _).drew
   go_wp2
   try simp only [List.append_eq, List.cons_append, List.nil_append]
   refine wp_region_held_drew (S := (fun w' => w'.cell? ⟨w.heap.size + 1, 2, none⟩ = some (.int .i64 A.t))) (by kernel_rfl) (HS1.out _ hBc) (fun _ => ?_)
   refine wpAnyH_list (l' := #[false, false, false, false, false, false, false, false, false, false, false, false, false, false, false, false, false, false, false, false, false, false, false, false, false, false, false, false, false, false]) (by as_aux_lemma => kernel_rfl) ?_
   refine tk 0 dro0 (HS1.out _ hBc) ?_; simp only [sq]; refine tk 1 dro1 (HS1.out _ hBc) ?_; simp only [sq]; refine tk 2 dro2 (HS1.out _ hBc) ?_; simp only [sq]; refine sk 3 dro3 (HS1.out _ hBc) ?_; simp only [sq]; refine sk 4 dro4 (HS1.out _ hBc) ?_; simp only [sq]; refine sk 5 dro5 (HS1.out _ hBc) ?_; simp only [sq]; refine sk 6 dro6 (HS1.out _ hBc) ?_; simp only [sq]; refine sk 7 dro7 (HS1.out _ hBc) ?_; simp only [sq]; refine sk 8 dro8 (HS1.out _ hBc) ?_; simp only [sq]; refine sk 9 dro9 (HS1.out _ hBc) ?_; simp only [sq]; refine sk 10 dro10 (HS1.out _ hBc) ?_; simp only [sq]; refine sk 11 dro11 (HS1.out _ hBc) ?_; simp only [sq]; refine tk 12 dro12 (HS1.out _ hBc) ?_; simp only [sq]; refine tk 13 dro13 (HS1.out _ hBc) ?_; simp only [sq]; refine sk 14 dro14 (HS1.out _ hBc) ?_; simp only [sq]; refine sk 15 dro15 (HS1.out _ hBc) ?_; simp only [sq]; refine sk 16 dro16 (HS1.out _ hBc) ?_; simp only [sq]; refine sk 17 dro17 (HS1.out _ hBc) ?_; simp only [sq]; refine sk 18 dro18 (HS1.out _ hBc) ?_; simp only [sq]; refine sk 19 dro19 (HS1.out _ hBc) ?_; simp only [sq]; refine sk 20 dro20 (HS1.out _ hBc) ?_; simp only [sq]; refine sk 21 dro21 (HS1.out _ hBc) ?_; simp only [sq]; refine sk 22 dro22 (HS1.out _ hBc) ?_; simp only [sq]; refine sk 23 dro23 (HS1.out _ hBc) ?_; simp only [sq]; refine sk 24 dro24 (HS1.out _ hBc) ?_; simp only [sq]; refine sk 25 dro25 (HS1.out _ hBc) ?_; simp only [sq]; refine sk 26 dro26 (HS1.out _ hBc) ?_; simp only [sq]; refine sk 27 dro27 (HS1.out _ hBc) ?_; simp only [sq]; refine tk 28 dro28 (HS1.out _ hBc) ?_; simp only [sq]; refine tk 29 dro29 (HS1.out _ hBc) ?_; simp only [sq]
   refine wpAnyH_done (by as_aux_lemma => kernel_rfl) ?_ _
   have HB2 := hidI (HF.out _ (HW3.out.trans (hBc.mono HW3.out.size)))
   clear HS1 hBc
   go_wp2
   go_ret
   exact ⟨Tells.no HE.out, HB2.out⟩
  obtain ⟨j, hj⟩ : ∃ j : Nat, KK = j := Int.eq_ofNat_of_zero_le hr1
  subst hj
  have hjl : j < S.C.length := by omega
  have hj1 : (j : Int) < nc := by have := HNC.out; omega
  have hj0 : (0 : Int) ≤ j := by omega
  have HRJ := hidI (HRI.out j hjl rfl)
  obtain ⟨g, f, rfl, hg, hcc⟩ := HCG.out (by omega)
  have HCC : Hid (∀ wx, Below W.heap.size W wx → ceC wx g (f + j * 8) S.C[j]) := fun wx h => (hcc j hjl).below h hg
  generalize S.C[j] = y at *
  have HS5 : Hid (∀ wx, Below w3.heap.size w3 wx → wx.cell? ⟨w.heap.size, 3, none⟩ = some (.slice (some ⟨g, f, none⟩) nc c3) ∧ wx.cell? ⟨w.heap.size + 1, 2, none⟩ = some (.int .i64 A.t) ∧ wx.cell? ⟨w.heap.size + 1, 4, none⟩ = some (.int .i64 A.k) ∧ wx.cell? ⟨w.heap.size + 1, 5, none⟩ = some (.string A.o) ∧ wx.cell? ⟨g, f + j * 8, none⟩ = some (.string y.o) ∧ wx.cell? ⟨g, f + j * 8 + 3, none⟩ = some (.int .i64 y.t)) := fun wx h => by
   have hh := HW3.out.trans (h.mono HW3.out.size)
   obtain ⟨z0, z1, z2, z3⟩ := HR4.out wx hh
   obtain ⟨x2, x4, x5, x8, x9⟩ := HRA.out wx hh
   have hq := HCC.out wx hh
   rw [← HNC.out] at z3
   exact ⟨z3, x2, x4, x5, hq.1, hq.2.2.2.1⟩
  have hBc : Below w3.heap.size w3 w3.drew := (Below.refl _ _).drew
  clear hcc hjl hr1 hr2 HRI HRN
  by_cases ho : y.o = A.o
  case neg =>
   have b1 := beq_str_no y.o A.o ho
   have HE := hidI (show ¬ HasRef S A from fun h => ho (HRJ.out.1 h).1)
   clear ho
   go_wp2
   try simp only [List.append_eq, List.cons_append, List.nil_append]
   refine wp_region_held_drew (S := (fun w' => w'.cell? ⟨w.heap.size, 3, none⟩ = some (.slice (some ⟨g, f, none⟩) nc c3) ∧ w'.cell? ⟨w.heap.size + 1, 2, none⟩ = some (.int .i64 A.t) ∧ w'.cell? ⟨w.heap.size + 1, 4, none⟩ = some (.int .i64 A.k) ∧ w'.cell? ⟨w.heap.size + 1, 5, none⟩ = some (.string A.o) ∧ w'.cell? ⟨g, f + j * 8, none⟩ = some (.string y.o) ∧ w'.cell? ⟨g, f + j * 8 + 3, none⟩ = some (.int .i64 y.t))) (by kernel_rfl) (HS5.out _ hBc) (fun _ => ?_)
   refine wpAnyH_list (l' := #[false, false, false, false, false, false, false, false, false, false, false, false, false, false, false, false, false, false, false, false, false, false, false, false, false, false, false, false, false, false]) (by as_aux_lemma => kernel_rfl) ?_
   refine tk 0 dro0 (HS5.out _ hBc) ?_; simp only [sq]; refine tk 1 dro1 (HS5.out _ hBc) ?_; simp only [sq]; refine tk 2 dro2 (HS5.out _ hBc) ?_; simp only [sq]; refine tk 3 dro3 (HS5.out _ hBc) ?_; simp only [sq]; refine tk 4 dro4 (HS5.out _ hBc) ?_; simp only [sq]; refine tk 5 dro5 (HS5.out _ hBc) ?_; simp only [sq]; refine tk 6 dro6 (HS5.out _ hBc) ?_; simp only [sq]; refine tk 7 dro7 (HS5.out _ hBc) ?_; simp only [sq]; refine tk 8 dro8 (HS5.out _ hBc) ?_; simp only [sq]; refine tk 9 dro9 (HS5.out _ hBc) ?_; simp only [sq]; refine tk 10 dro10 (HS5.out _ hBc) ?_; simp only [sq]; refine tk 11 dro11 (HS5.out _ hBc) ?_; simp only [sq]; refine tk 12 dro12 (HS5.out _ hBc) ?_; simp only [sq]; refine tk 13 dro13 (HS5.out _ hBc) ?_; simp only [sq]; refine sk 14 dro14 (HS5.out _ hBc) ?_; simp only [sq]; refine sk 15 dro15 (HS5.out _ hBc) ?_; simp only [sq]; refine sk 16 dro16 (HS5.out _ hBc) ?_; simp only [sq]; refine sk 17 dro17 (HS5.out _ hBc) ?_; simp only [sq]; refine sk 18 dro18 (HS5.out _ hBc) ?_; simp only [sq]; refine sk 19 dro19 (HS5.out _ hBc) ?_; simp only [sq]; refine sk 20 dro20 (HS5.out _ hBc) ?_; simp only [sq]; refine sk 21 dro21 (HS5.out _ hBc) ?_; simp only [sq]; refine sk 22 dro22 (HS5.out _ hBc) ?_; simp only [sq]; refine sk 23 dro23 (HS5.out _ hBc) ?_; simp only [sq]; refine sk 24 dro24 (HS5.out _ hBc) ?_; simp only [sq]; refine sk 25 dro25 (HS5.out _ hBc) ?_; simp only [sq]; refine sk 26 dro26 (HS5.out _ hBc) ?_; simp only [sq]; refine sk 27 dro27 (HS5.out _ hBc) ?_; simp only [sq]; refine tk 28 dro28 (HS5.out _ hBc) ?_; simp only [sq]; refine tk 29 dro29 (HS5.out _ hBc) ?_; simp only [sq]
   refine wpAnyH_done (by as_aux_lemma => kernel_rfl) ?_ _
   have HB2 := hidI (HF.out _ (HW3.out.trans (hBc.mono HW3.out.size)))
   clear HS5 hBc
   go_wp2
   go_ret
   exact ⟨Tells.no HE.out, HB2.out⟩
  have b1 := beq_str y.o A.o ho
  have bk : (A.k == 7) = true := by simp; exact HK7.out.resolve_right id
  have HE : Hid (HasRef S A) := HRJ.out.2 ⟨ho, .inl (HK7.out.resolve_right id)⟩
  clear ho
  go_wp2
  try simp only [List.append_eq, List.cons_append, List.nil_append]
  refine wp_region_held_drew (S := (fun w' => w'.cell? ⟨w.heap.size, 3, none⟩ = some (.slice (some ⟨g, f, none⟩) nc c3) ∧ w'.cell? ⟨w.heap.size + 1, 2, none⟩ = some (.int .i64 A.t) ∧ w'.cell? ⟨w.heap.size + 1, 4, none⟩ = some (.int .i64 A.k) ∧ w'.cell? ⟨w.heap.size + 1, 5, none⟩ = some (.string A.o) ∧ w'.cell? ⟨g, f + j * 8, none⟩ = some (.string y.o) ∧ w'.cell? ⟨g, f + j * 8 + 3, none⟩ = some (.int .i64 y.t))) (by kernel_rfl) (HS5.out _ hBc) (fun _ => ?_)
  refine wpAnyH_list (l' := #[false, false, false, false, false, false, false, false, false, false, false, false, false, false, false, false, false, false, false, false, false, false, false, false, false, false, false, false, false, false]) (by as_aux_lemma => kernel_rfl) ?_
  refine tk 0 dro0 (HS5.out _ hBc) ?_; simp only [sq]; refine tk 1 dro1 (HS5.out _ hBc) ?_; simp only [sq]; refine tk 2 dro2 (HS5.out _ hBc) ?_; simp only [sq]; refine tk 3 dro3 (HS5.out _ hBc) ?_; simp only [sq]; refine tk 4 dro4 (HS5.out _ hBc) ?_; simp only [sq]; refine tk 5 dro5 (HS5.out _ hBc) ?_; simp only [sq]; refine tk 6 dro6 (HS5.out _ hBc) ?_; simp only [sq]; refine tk 7 dro7 (HS5.out _ hBc) ?_; simp only [sq]; refine tk 8 dro8 (HS5.out _ hBc) ?_; simp only [sq]; refine tk 9 dro9 (HS5.out _ hBc) ?_; simp only [sq]; refine tk 10 dro10 (HS5.out _ hBc) ?_; simp only [sq]; refine tk 11 dro11 (HS5.out _ hBc) ?_; simp only [sq]; refine tk 12 dro12 (HS5.out _ hBc) ?_; simp only [sq]; refine tk 13 dro13 (HS5.out _ hBc) ?_; simp only [sq]; refine tk 14 dro14 (HS5.out _ hBc) ?_; simp only [sq]; refine tk 15 dro15 (HS5.out _ hBc) ?_; simp only [sq]; refine tk 16 dro16 (HS5.out _ hBc) ?_; simp only [sq]; refine tk 17 dro17 (HS5.out _ hBc) ?_; simp only [sq]; refine sk 18 dro18 (HS5.out _ hBc) ?_; simp only [sq]; refine sk 19 dro19 (HS5.out _ hBc) ?_; simp only [sq]; refine sk 20 dro20 (HS5.out _ hBc) ?_; simp only [sq]; refine sk 21 dro21 (HS5.out _ hBc) ?_; simp only [sq]; refine sk 22 dro22 (HS5.out _ hBc) ?_; simp only [sq]; refine sk 23 dro23 (HS5.out _ hBc) ?_; simp only [sq]; refine sk 24 dro24 (HS5.out _ hBc) ?_; simp only [sq]; refine sk 25 dro25 (HS5.out _ hBc) ?_; simp only [sq]; refine sk 26 dro26 (HS5.out _ hBc) ?_; simp only [sq]; refine tk 27 dro27 (HS5.out _ hBc) ?_; simp only [sq]; refine tk 28 dro28 (HS5.out _ hBc) ?_; simp only [sq]; refine tk 29 dro29 (HS5.out _ hBc) ?_; simp only [sq]
  refine wpAnyH_done (by as_aux_lemma => kernel_rfl) ?_ _
  have HB2 := hidI (HF.out _ (HW3.out.trans (hBc.mono HW3.out.size)))
  clear HS5 hBc
  go_wp2
  go_ret
  exact ⟨Tells.yes HE.out, HB2.out⟩
 ·have b7 : (A.k != 7) = true := by simp [h6.1]
  have b6 : (A.k != 6) = false := by simp [h6.1]
  have heq : ∀ wx, (Op.equalIn 10000 33 (.agg #[.int .i64 A.x, .int .i64 A.z]) (.agg #[.int .i64 0, .int .i64 0])).run Tryz.prog wx = .ok false wx := fun wx => by rw [HEQ.out, decide_eq_false h6.2]
  have HK7 : Hid (A.k = 7 → False) := fun e => by have := h6.1; omega
  clear h6 HEQ
  go_enter Tryz.func141, Tryz.ntmps141
  go_wp2_with fail
  rw [HW.out]
  refine HCA.out.mono ?_
  rintro e w3 ⟨rfl, hb3⟩
  have HW3 := hidI hb3
  clear d0 d1 d2 d3 e2 e4 e5 e8 e9 HCA HW hW0 heq
  rcases hrg with hk | ⟨hr1, hr2⟩
  ·subst hk
   have HE := hidI (HRN.out rfl)
   have HS1 : Hid (∀ wx, Below w3.heap.size w3 wx → wx.cell? ⟨w.heap.size + 1, 2, none⟩ = some (.int .i64 A.t)) := fun wx h => (HRA.out wx (HW3.out.trans (h.mono HW3.out.size))).1
   have hBc : Below w3.heap.size w3 w3.drew := (Below.refl _ _).drew
   go_wp2
   try simp only [List.append_eq, List.cons_append, List.nil_append]
   refine wp_region_held_drew (S := (fun w' => w'.cell? ⟨w.heap.size + 1, 2, none⟩ = some (.int .i64 A.t))) (by kernel_rfl) (HS1.out _ hBc) (fun _ => ?_)
   refine wpAnyH_list (l' := #[false, false, false, false, false, false, false, false, false, false, false, false, false, false, false, false, false, false, false, false, false, false, false, false, false, false, false, false, false, false]) (by as_aux_lemma => kernel_rfl) ?_
   refine tk 0 dro0 (HS1.out _ hBc) ?_; simp only [sq]; refine tk 1 dro1 (HS1.out _ hBc) ?_; simp only [sq]; refine tk 2 dro2 (HS1.out _ hBc) ?_; simp only [sq]; refine sk 3 dro3 (HS1.out _ hBc) ?_; simp only [sq]; refine sk 4 dro4 (HS1.out _ hBc) ?_; simp only [sq]; refine sk 5 dro5 (HS1.out _ hBc) ?_; simp only [sq]; refine sk 6 dro6 (HS1.out _ hBc) ?_; simp only [sq]; refine sk 7 dro7 (HS1.out _ hBc) ?_; simp only [sq]; refine sk 8 dro8 (HS1.out _ hBc) ?_; simp only [sq]; refine sk 9 dro9 (HS1.out _ hBc) ?_; simp only [sq]; refine sk 10 dro10 (HS1.out _ hBc) ?_; simp only [sq]; refine sk 11 dro11 (HS1.out _ hBc) ?_; simp only [sq]; refine tk 12 dro12 (HS1.out _ hBc) ?_; simp only [sq]; refine tk 13 dro13 (HS1.out _ hBc) ?_; simp only [sq]; refine sk 14 dro14 (HS1.out _ hBc) ?_; simp only [sq]; refine sk 15 dro15 (HS1.out _ hBc) ?_; simp only [sq]; refine sk 16 dro16 (HS1.out _ hBc) ?_; simp only [sq]; refine sk 17 dro17 (HS1.out _ hBc) ?_; simp only [sq]; refine sk 18 dro18 (HS1.out _ hBc) ?_; simp only [sq]; refine sk 19 dro19 (HS1.out _ hBc) ?_; simp only [sq]; refine sk 20 dro20 (HS1.out _ hBc) ?_; simp only [sq]; refine sk 21 dro21 (HS1.out _ hBc) ?_; simp only [sq]; refine sk 22 dro22 (HS1.out _ hBc) ?_; simp only [sq]; refine sk 23 dro23 (HS1.out _ hBc) ?_; simp only [sq]; refine sk 24 dro24 (HS1.out _ hBc) ?_; simp only [sq]; refine sk 25 dro25 (HS1.out _ hBc) ?_; simp only [sq]; refine sk 26 dro26 (HS1.out _ hBc) ?_; simp only [sq]; refine sk 27 dro27 (HS1.out _ hBc) ?_; simp only [sq]; refine tk 28 dro28 (HS1.out _ hBc) ?_; simp only [sq]; refine tk 29 dro29 (HS1.out _ hBc) ?_; simp only [sq]
   refine wpAnyH_done (by as_aux_lemma => kernel_rfl) ?_ _
   have HB2 := hidI (HF.out _ (HW3.out.trans (hBc.mono HW3.out.size)))
   clear HS1 hBc
   go_wp2
   go_ret
   exact ⟨Tells.no HE.out, HB2.out⟩
  obtain ⟨j, hj⟩ : ∃ j : Nat, KK = j := Int.eq_ofNat_of_zero_le hr1
  subst hj
  have hjl : j < S.C.length := by omega
  have hj1 : (j : Int) < nc := by have := HNC.out; omega
  have hj0 : (0 : Int) ≤ j := by omega
  have HRJ := hidI (HRI.out j hjl rfl)
  obtain ⟨g, f, rfl, hg, hcc⟩ := HCG.out (by omega)
  have HCC : Hid (∀ wx, Below W.heap.size W wx → ceC wx g (f + j * 8) S.C[j]) := fun wx h => (hcc j hjl).below h hg
  generalize S.C[j] = y at *
  have HS5 : Hid (∀ wx, Below w3.heap.size w3 wx → wx.cell? ⟨w.heap.size, 3, none⟩ = some (.slice (some ⟨g, f, none⟩) nc c3) ∧ wx.cell? ⟨w.heap.size + 1, 2, none⟩ = some (.int .i64 A.t) ∧ wx.cell? ⟨w.heap.size + 1, 4, none⟩ = some (.int .i64 A.k) ∧ wx.cell? ⟨w.heap.size + 1, 5, none⟩ = some (.string A.o) ∧ wx.cell? ⟨g, f + j * 8, none⟩ = some (.string y.o) ∧ wx.cell? ⟨g, f + j * 8 + 3, none⟩ = some (.int .i64 y.t)) := fun wx h => by
   have hh := HW3.out.trans (h.mono HW3.out.size)
   obtain ⟨z0, z1, z2, z3⟩ := HR4.out wx hh
   obtain ⟨x2, x4, x5, x8, x9⟩ := HRA.out wx hh
   have hq := HCC.out wx hh
   rw [← HNC.out] at z3
   exact ⟨z3, x2, x4, x5, hq.1, hq.2.2.2.1⟩
  have hBc : Below w3.heap.size w3 w3.drew := (Below.refl _ _).drew
  clear hcc hjl hr1 hr2 HRI HRN
  by_cases ho : y.o = A.o
  case neg =>
   have b1 := beq_str_no y.o A.o ho
   have HE := hidI (show ¬ HasRef S A from fun h => ho (HRJ.out.1 h).1)
   clear ho
   go_wp2
   try simp only [List.append_eq, List.cons_append, List.nil_append]
   refine wp_region_held_drew (S := (fun w' => w'.cell? ⟨w.heap.size, 3, none⟩ = some (.slice (some ⟨g, f, none⟩) nc c3) ∧ w'.cell? ⟨w.heap.size + 1, 2, none⟩ = some (.int .i64 A.t) ∧ w'.cell? ⟨w.heap.size + 1, 4, none⟩ = some (.int .i64 A.k) ∧ w'.cell? ⟨w.heap.size + 1, 5, none⟩ = some (.string A.o) ∧ w'.cell? ⟨g, f + j * 8, none⟩ = some (.string y.o) ∧ w'.cell? ⟨g, f + j * 8 + 3, none⟩ = some (.int .i64 y.t))) (by kernel_rfl) (HS5.out _ hBc) (fun _ => ?_)
   refine wpAnyH_list (l' := #[false, false, false, false, false, false, false, false, false, false, false, false, false, false, false, false, false, false, false, false, false, false, false, false, false, false, false, false, false, false]) (by as_aux_lemma => kernel_rfl) ?_
   refine tk 0 dro0 (HS5.out _ hBc) ?_; simp only [sq]; refine tk 1 dro1 (HS5.out _ hBc) ?_; simp only [sq]; refine tk 2 dro2 (HS5.out _ hBc) ?_; simp only [sq]; refine tk 3 dro3 (HS5.out _ hBc) ?_; simp only [sq]; refine tk 4 dro4 (HS5.out _ hBc) ?_; simp only [sq]; refine tk 5 dro5 (HS5.out _ hBc) ?_; simp only [sq]; refine tk 6 dro6 (HS5.out _ hBc) ?_; simp only [sq]; refine tk 7 dro7 (HS5.out _ hBc) ?_; simp only [sq]; refine tk 8 dro8 (HS5.out _ hBc) ?_; simp only [sq]; refine tk 9 dro9 (HS5.out _ hBc) ?_; simp only [sq]; refine tk 10 dro10 (HS5.out _ hBc) ?_; simp only [sq]; refine tk 11 dro11 (HS5.out _ hBc) ?_; simp only [sq]; refine tk 12 dro12 (HS5.out _ hBc) ?_; simp only [sq]; refine tk 13 dro13 (HS5.out _ hBc) ?_; simp only [sq]; refine sk 14 dro14 (HS5.out _ hBc) ?_; simp only [sq]; refine sk 15 dro15 (HS5.out _ hBc) ?_; simp only [sq]; refine sk 16 dro16 (HS5.out _ hBc) ?_; simp only [sq]; refine sk 17 dro17 (HS5.out _ hBc) ?_; simp only [sq]; refine sk 18 dro18 (HS5.out _ hBc) ?_; simp only [sq]; refine sk 19 dro19 (HS5.out _ hBc) ?_; simp only [sq]; refine sk 20 dro20 (HS5.out _ hBc) ?_; simp only [sq]; refine sk 21 dro21 (HS5.out _ hBc) ?_; simp only [sq]; refine sk 22 dro22 (HS5.out _ hBc) ?_; simp only [sq]; refine sk 23 dro23 (HS5.out _ hBc) ?_; simp only [sq]; refine sk 24 dro24 (HS5.out _ hBc) ?_; simp only [sq]; refine sk 25 dro25 (HS5.out _ hBc) ?_; simp only [sq]; refine sk 26 dro26 (HS5.out _ hBc) ?_; simp only [sq]; refine sk 27 dro27 (HS5.out _ hBc) ?_; simp only [sq]; refine tk 28 dro28 (HS5.out _ hBc) ?_; simp only [sq]; refine tk 29 dro29 (HS5.out _ hBc) ?_; simp only [sq]
   refine wpAnyH_done (by as_aux_lemma => kernel_rfl) ?_ _
   have HB2 := hidI (HF.out _ (HW3.out.trans (hBc.mono HW3.out.size)))
   clear HS5 hBc
   go_wp2
   go_ret
   exact ⟨Tells.no HE.out, HB2.out⟩
  have b1 := beq_str y.o A.o ho
  have bk : (A.k == 7) = false := by simp; exact fun e => HK7.out e
  have HE : Hid (decide (y.t < A.t) = true ↔ HasRef S A) := ⟨fun e => HRJ.out.2 ⟨ho, .inr (of_decide_eq_true e)⟩, fun h => decide_eq_true ((HRJ.out.1 h).2.resolve_left (fun e => HK7.out e))⟩
  clear ho
  go_wp2
  try simp only [List.append_eq, List.cons_append, List.nil_append]
  refine wp_region_held_drew (S := (fun w' => w'.cell? ⟨w.heap.size, 3, none⟩ = some (.slice (some ⟨g, f, none⟩) nc c3) ∧ w'.cell? ⟨w.heap.size + 1, 2, none⟩ = some (.int .i64 A.t) ∧ w'.cell? ⟨w.heap.size + 1, 4, none⟩ = some (.int .i64 A.k) ∧ w'.cell? ⟨w.heap.size + 1, 5, none⟩ = some (.string A.o) ∧ w'.cell? ⟨g, f + j * 8, none⟩ = some (.string y.o) ∧ w'.cell? ⟨g, f + j * 8 + 3, none⟩ = some (.int .i64 y.t))) (by kernel_rfl) (HS5.out _ hBc) (fun _ => ?_)
  refine wpAnyH_list (l' := #[false, false, false, false, false, false, false, false, false, false, false, false, false, false, false, false, false, false, false, false, false, false, false, false, false, false, false, false, false, false]) (by as_aux_lemma => kernel_rfl) ?_
  refine tk 0 dro0 (HS5.out _ hBc) ?_; simp only [sq]; refine tk 1 dro1 (HS5.out _ hBc) ?_; simp only [sq]; refine tk 2 dro2 (HS5.out _ hBc) ?_; simp only [sq]; refine tk 3 dro3 (HS5.out _ hBc) ?_; simp only [sq]; refine tk 4 dro4 (HS5.out _ hBc) ?_; simp only [sq]; refine tk 5 dro5 (HS5.out _ hBc) ?_; simp only [sq]; refine tk 6 dro6 (HS5.out _ hBc) ?_; simp only [sq]; refine tk 7 dro7 (HS5.out _ hBc) ?_; simp only [sq]; refine tk 8 dro8 (HS5.out _ hBc) ?_; simp only [sq]; refine tk 9 dro9 (HS5.out _ hBc) ?_; simp only [sq]; refine tk 10 dro10 (HS5.out _ hBc) ?_; simp only [sq]; refine tk 11 dro11 (HS5.out _ hBc) ?_; simp only [sq]; refine tk 12 dro12 (HS5.out _ hBc) ?_; simp only [sq]; refine tk 13 dro13 (HS5.out _ hBc) ?_; simp only [sq]; refine tk 14 dro14 (HS5.out _ hBc) ?_; simp only [sq]; refine tk 15 dro15 (HS5.out _ hBc) ?_; simp only [sq]; refine tk 16 dro16 (HS5.out _ hBc) ?_; simp only [sq]; refine tk 17 dro17 (HS5.out _ hBc) ?_; simp only [sq]; refine tk 18 dro18 (HS5.out _ hBc) ?_; simp only [sq]; refine tk 19 dro19 (HS5.out _ hBc) ?_; simp only [sq]; refine tk 20 dro20 (HS5.out _ hBc) ?_; simp only [sq]; refine tk 21 dro21 (HS5.out _ hBc) ?_; simp only [sq]; refine tk 22 dro22 (HS5.out _ hBc) ?_; simp only [sq]; refine tk 23 dro23 (HS5.out _ hBc) ?_; simp only [sq]; refine tk 24 dro24 (HS5.out _ hBc) ?_; simp only [sq]; refine tk 25 dro25 (HS5.out _ hBc) ?_; simp only [sq]; refine tk 26 dro26 (HS5.out _ hBc) ?_; simp only [sq]; refine tk 27 dro27 (HS5.out _ hBc) ?_; simp only [sq]; refine tk 28 dro28 (HS5.out _ hBc) ?_; simp only [sq]; refine tk 29 dro29 (HS5.out _ hBc) ?_; simp only [sq]
  refine wpAnyH_done (by as_aux_lemma => kernel_rfl) ?_ _
  have HB2 := hidI (HF.out _ (HW3.out.trans (hBc.mono HW3.out.size)))
  clear HS5 hBc
  go_wp2
  go_ret
  exact ⟨⟨_, rfl, HE.out⟩, HB2.out⟩
end Go.Proofs.YtdknoflkingodaaGreat
