/- What is drawn for the laws on states. A state and a dot are drawn. Two states are drawn. -/
import Derived.Test.YtdknoflkingodaaGreatM1
import Derived.Test.YtdknoflkingodaaGreatM2
import Derived.Test.YtdknoflkingodaaGreatM3
import Derived.Test.YtdknoflkingodaaGreatM4
import Derived.Test.YtdknoflkingodaaGreatM5
import Derived.Test.YtdknoflkingodaaGreatM6
import Derived.Test.YtdknoflkingodaaGreatM7
import Derived.Test.YtdknoflkingodaaGreatM8
import Derived.Test.YtdknoflkingodaaGreatM9
import Derived.Test.YtdknoflkingodaaGreatM10
import Derived.Test.YtdknoflkingodaaGreatM11
import Derived.Test.YtdknoflkingodaaGreatM12
import Derived.Test.YtdknoflkingodaaGreatM13
import Derived.Test.YtdknoflkingodaaGreatM14
import Derived.Test.YtdknoflkingodaaGreatM15
import Derived.Test.YtdknoflkingodaaGreatM16
import Derived.Test.YtdknoflkingodaaGreatM17
import Derived.Test.YtdknoflkingodaaGreatM18
import Derived.Test.YtdknoflkingodaaGreatM19
import Derived.Test.YtdknoflkingodaaGreatM20
import Derived.Test.YtdknoflkingodaaGreatM21
import Derived.Test.YtdknoflkingodaaGreatM22
import Derived.Test.YtdknoflkingodaaGreatM23
import Derived.Test.YtdknoflkingodaaGreatM24
import Derived.Test.YtdknoflkingodaaGreatM27
import Derived.Test.YtdknoflkingodaaGreatM28
import Derived.Test.YtdknoflkingodaaGreatM29
import Derived.Test.YtdknoflkingodaaGreatM30
import Derived.Test.YtdknoflkingodaaGreatM31
import Derived.Test.YtdknoflkingodaaGreatM32
import Derived.Test.YtdknoflkingodaaGreatM33
import Derived.Test.YtdknoflkingodaaGreatM34
import Derived.Test.YtdknoflkingodaaGreatM35
import Derived.Test.YtdknoflkingodaaGreatM36
import Derived.Test.YtdknoflkingodaaGreatM37
import Derived.Test.YtdknoflkingodaaGreatM38
import Derived.Test.YtdknoflkingodaaGreatM39
import Derived.Test.YtdknoflkingodaaGreatM40
import Derived.Test.YtdknoflkingodaaGreatM41
namespace Go.Proofs.YtdknoflkingodaaGreat
set_option maxRecDepth 100000
set_option linter.unusedVariables false
open Go.RowKit
theorem load_st {w : World} {g : Nat} {c0 c1 c2 c3 : Value} (hg : Row w g #[c0, c1, c2, c3] 29) : (loadVar 29 ⟨g, 0, none⟩).run Tryz.prog w = .ok (.agg #[c0, c1, c2, c3]) w :=
 run_loadVar_row w g 29 29 _ (0, 0) _ hg Tryz.underlying29 rfl (by kernel_rfl)
theorem ret_st3 {fn : Func} {p q u : Tmp} (h : fn.results = #[.cell p 29, .tmp q, .tmp u]) {tmps : Array Value} {w : World} {g : Nat} {c0 c1 c2 c3 v1 v2 : Value} (hp : tmps.getD p undef = .pointer (some ⟨g, 0, none⟩)) (h1 : tmps.getD q undef = v1) (h2 : tmps.getD u undef = v2) (hg : Row w g #[c0, c1, c2, c3] 29) :
  (results fn tmps).run Tryz.prog w = .ok (.tuple #[.agg #[c0, c1, c2, c3], v1, v2]) w := by
 rw [Array.getD_eq_getD_getElem?] at hp h1 h2
 simp only [results, h]
 simp [hp, h1, h2, asAddr, Result.andThen, load_st hg]
theorem ret_st4 {fn : Func} {p q u t : Tmp} (h : fn.results = #[.cell p 29, .tmp q, .tmp u, .tmp t]) {tmps : Array Value} {w : World} {g : Nat} {c0 c1 c2 c3 v1 v2 v3 : Value} (hp : tmps.getD p undef = .pointer (some ⟨g, 0, none⟩)) (h1 : tmps.getD q undef = v1) (h2 : tmps.getD u undef = v2) (h3 : tmps.getD t undef = v3) (hg : Row w g #[c0, c1, c2, c3] 29) :
  (results fn tmps).run Tryz.prog w = .ok (.tuple #[.agg #[c0, c1, c2, c3], v1, v2, v3]) w := by
 rw [Array.getD_eq_getD_getElem?] at hp h1 h2 h3
 simp only [results, h]
 simp [hp, h1, h2, h3, asAddr, Result.andThen, load_st hg]
theorem onceS (m : Nat) (h0 : 0 < m) (hm : m ≤ 1000) (B p : Nat) (v : Value) (n : Nat) (hn : n ≤ 1048576) (w : World) (hc : Cur w B p v n) :
  Calls Tryz.prog 61 #[.pointer (some ⟨p, 0, none⟩), .int .i64 m] w fun e w' => ∃ b : Bool, e = .returned (.bool b) ∧ Drew w w' B p v n := by
 go_enter Tryz.func61, Tryz.ntmps61
 go_wp2_with fail
 refine (belowD m h0 (by omega) B p v n hn _ hc).mono ?_
 rintro e w1 ⟨x, rfl, hx, hd⟩
 go_wp2
 go_ret
 exact ⟨_, rfl, hd⟩
set_option maxHeartbeats 4000000 in
theorem drawStateOk_calls (B : Nat) (v : Value) (n : Nat) (hn : n ≤ 1048576) (w : World) (hB : B ≤ w.heap.size) (hc : CodeIs w B v n) :
  Calls Tryz.prog 14 #[v] w fun e w' => ∃ S' : Sta, Wil S' ∧ ∃ v0 v1 v2 v3 : Value, e = .returned (.agg #[v0, v1, v2, v3]) ∧ OwnS w' w.heap.size S' v0 v1 v2 v3 ∧ Below w.heap.size w w' := by
 obtain ⟨W, hW⟩ : ∃ W, W = w.alloc (.cells #[.slice none 0 0, .slice none 0 0, .slice none 0 0, .slice none 0 0] 29) := ⟨_, rfl⟩
 have HP : Hid (Row W w.heap.size #[.slice none 0 0, .slice none 0 0, .slice none 0 0, .slice none 0 0] 29) := by rw [hW]; exact row_new w _ _ rfl
 have HB : Hid (Below w.heap.size w W) := by rw [hW]; exact (Below.refl _ _).alloc (Nat.le_refl _) _
 have hWs : W.heap.size = w.heap.size + 1 := by rw [hW]; simp
 have HW : Hid (w.alloc (.cells #[.slice none 0 0, .slice none 0 0, .slice none 0 0, .slice none 0 0] 29) = W) := hW.symm
 have HC : Hid (CodeIs W B v n) := hc.grown (p := w.heap.size) hB ⟨HB.out.os, HB.out.tape, HB.out.output, HB.out.size, fun k hk _ => HB.out.block k hk⟩
 clear hW
 go_enter Tryz.func14, Tryz.ntmps14
 go_wp2_with fail
 rw [HW.out]
 clear HW
 refine (new_calls B v n hn W (by omega) HC.out).mono ?_
 rintro e w1 ⟨rfl, hc1, hb⟩
 rw [hWs] at hc1
 have hs1 := hc1.lt
 replace HP := hidI (HP.out.next hb)
 replace HB := hidI (HB.out.trans (hb.mono HB.out.size))
 have hb1 := hb.size
 have HCU := hidI hc1
 clear hb hc1
 go_wp2_with fail
 refine (anyStD B (w.heap.size + 1) v n hn w1 (by omega) HCU.out).mono ?_
 rintro e w3 ⟨S', hS, v0, v1, v2, v3, rfl, ho, hd⟩
 obtain ⟨a0, c0, a1, c1, a2, c2, a3, c3, rfl, rfl, rfl, rfl⟩ := ho.at.shape
 replace HP := hidI (HP.out.grown hd.2 (by intro e; injection e with e; omega))
 replace HB := hidI (Drew.below HB.out hd (by omega))
 have HSO := hidI hS
 obtain ⟨o0, o1, o2, o3⟩ := Row.four HP.out
 have g0 := HP.out.free 0
 have g1 := HP.out.free 1
 have g2 := HP.out.free 2
 have g3 := HP.out.free 3
 have HZ := hidI ((((HP.out.st0 (.slice a0 S'.l.length c0)).st1 (.slice a1 S'.T.length c1)).st2 (.slice a2 S'.L.length c2)).st3 (.slice a3 S'.C.length c3))
 have HBB := hidI ((((HB.out.setCell (p := ⟨w.heap.size, 0, none⟩) (Nat.le_refl _) (.slice a0 S'.l.length c0)).setCell (p := ⟨w.heap.size, 1, none⟩) (Nat.le_refl _) (.slice a1 S'.T.length c1)).setCell (p := ⟨w.heap.size, 2, none⟩) (Nat.le_refl _) (.slice a2 S'.L.length c2)).setCell (p := ⟨w.heap.size, 3, none⟩) (Nat.le_refl _) (.slice a3 S'.C.length c3))
 have HOO := hidI (Own4.base ((((Own4.put (g := w.heap.size) (i := 0) (x := (.slice a0 S'.l.length c0)) ho (by omega)).put (g := w.heap.size) (i := 1) (x := (.slice a1 S'.T.length c1)) (by omega)).put (g := w.heap.size) (i := 2) (x := (.slice a2 S'.L.length c2)) (by omega)).put (g := w.heap.size) (i := 3) (x := (.slice a3 S'.C.length c3)) (by omega)) (show w.heap.size ≤ w1.heap.size by omega))
 clear hS ho hd
 go_wp2
 exact bodyPost_ret (retState rfl rfl rfl HZ.out) rfl ⟨S', HSO.out, _, _, _, _, rfl, HOO.out, HBB.out⟩
set_option maxHeartbeats 4000000 in
theorem drawTallyAt_calls (B : Nat) (v : Value) (n : Nat) (hn : n ≤ 1048576) (w : World) (hB : B ≤ w.heap.size) (hc : CodeIs w B v n) :
  Calls Tryz.prog 15 #[v] w fun e w' => ∃ S' : Sta, Wil S' ∧ ∃ (o : ByteArray) (r : Int), NOk o ∧ ∃ v0 v1 v2 v3 : Value, e = .returned (.tuple #[.agg #[v0, v1, v2, v3], .string o, .int .i64 r]) ∧ OwnS w' w.heap.size S' v0 v1 v2 v3 ∧ Below w.heap.size w w' := by
 obtain ⟨W, hW⟩ : ∃ W, W = w.alloc (.cells #[.slice none 0 0, .slice none 0 0, .slice none 0 0, .slice none 0 0] 29) := ⟨_, rfl⟩
 have HP : Hid (Row W w.heap.size #[.slice none 0 0, .slice none 0 0, .slice none 0 0, .slice none 0 0] 29) := by rw [hW]; exact row_new w _ _ rfl
 have HB : Hid (Below w.heap.size w W) := by rw [hW]; exact (Below.refl _ _).alloc (Nat.le_refl _) _
 have hWs : W.heap.size = w.heap.size + 1 := by rw [hW]; simp
 have HW : Hid (w.alloc (.cells #[.slice none 0 0, .slice none 0 0, .slice none 0 0, .slice none 0 0] 29) = W) := hW.symm
 have HC : Hid (CodeIs W B v n) := hc.grown (p := w.heap.size) hB ⟨HB.out.os, HB.out.tape, HB.out.output, HB.out.size, fun k hk _ => HB.out.block k hk⟩
 clear hW
 go_enter Tryz.func15, Tryz.ntmps15
 go_wp2_with fail
 rw [HW.out]
 clear HW
 refine (new_calls B v n hn W (by omega) HC.out).mono ?_
 rintro e w1 ⟨rfl, hc1, hb⟩
 rw [hWs] at hc1
 have hs1 := hc1.lt
 replace HP := hidI (HP.out.next hb)
 replace HB := hidI (HB.out.trans (hb.mono HB.out.size))
 have hb1 := hb.size
 have HCU := hidI hc1
 clear hb hc1
 go_wp2_with fail
 refine (belowD 5 (by omega) (by omega) B (w.heap.size + 1) v n hn w1 HCU.out).mono ?_
 rintro e y0 ⟨x, rfl, hx, hd⟩
 have hwx : IntKind.i64.wrap ((x : Int) - 1) = (x : Int) - 1 := by rw [IntKind.wrap_i64] <;> omega
 replace HP := hidI (HP.out.grown hd.2 (by intro e; injection e with e; omega))
 replace HB := hidI (Drew.below HB.out hd (by omega))
 have hs_y0 := hd.2.size
 replace HCU := hidI hd.1
 clear hd
 go_wp2_with fail
 refine (objN B (w.heap.size + 1) v n hn y0 (by omega) HCU.out).mono ?_
 rintro e y1 ⟨o, hno, rfl, hd⟩
 have HNO := hidI hno
 clear hno
 replace HP := hidI (HP.out.grown hd.2 (by intro e; injection e with e; omega))
 replace HB := hidI (Drew.below HB.out hd (by omega))
 have hs_y1 := hd.2.size
 replace HCU := hidI hd.1
 clear hd
 go_wp2_with fail
 refine (anyStD B (w.heap.size + 1) v n hn y1 (by omega) HCU.out).mono ?_
 rintro e w3 ⟨S', hS, v0, v1, v2, v3, rfl, ho, hd⟩
 obtain ⟨a0, c0, a1, c1, a2, c2, a3, c3, rfl, rfl, rfl, rfl⟩ := ho.at.shape
 replace HP := hidI (HP.out.grown hd.2 (by intro e; injection e with e; omega))
 replace HB := hidI (Drew.below HB.out hd (by omega))
 have HSO := hidI hS
 obtain ⟨o0, o1, o2, o3⟩ := Row.four HP.out
 have g0 := HP.out.free 0
 have g1 := HP.out.free 1
 have g2 := HP.out.free 2
 have g3 := HP.out.free 3
 have HZ := hidI ((((HP.out.st0 (.slice a0 S'.l.length c0)).st1 (.slice a1 S'.T.length c1)).st2 (.slice a2 S'.L.length c2)).st3 (.slice a3 S'.C.length c3))
 have HBB := hidI ((((HB.out.setCell (p := ⟨w.heap.size, 0, none⟩) (Nat.le_refl _) (.slice a0 S'.l.length c0)).setCell (p := ⟨w.heap.size, 1, none⟩) (Nat.le_refl _) (.slice a1 S'.T.length c1)).setCell (p := ⟨w.heap.size, 2, none⟩) (Nat.le_refl _) (.slice a2 S'.L.length c2)).setCell (p := ⟨w.heap.size, 3, none⟩) (Nat.le_refl _) (.slice a3 S'.C.length c3))
 have HOO := hidI (Own4.base ((((Own4.put (g := w.heap.size) (i := 0) (x := (.slice a0 S'.l.length c0)) ho (by omega)).put (g := w.heap.size) (i := 1) (x := (.slice a1 S'.T.length c1)) (by omega)).put (g := w.heap.size) (i := 2) (x := (.slice a2 S'.L.length c2)) (by omega)).put (g := w.heap.size) (i := 3) (x := (.slice a3 S'.C.length c3)) (by omega)) (show w.heap.size ≤ y1.heap.size by omega))
 clear hS ho hd
 go_wp2
 exact bodyPost_ret (ret_st3 rfl rfl rfl rfl HZ.out) rfl ⟨S', HSO.out, o, _, HNO.out, _, _, _, _, rfl, HOO.out, HBB.out⟩
set_option maxHeartbeats 4000000 in
theorem drawLivesOf_calls (B : Nat) (v : Value) (n : Nat) (hn : n ≤ 1048576) (w : World) (hB : B ≤ w.heap.size) (hc : CodeIs w B v n) :
  Calls Tryz.prog 16 #[v] w fun e w' => ∃ S' : Sta, Wil S' ∧ ∃ (m : Bool) (o y : ByteArray), NOk o ∧ NOk y ∧ ∃ v0 v1 v2 v3 : Value, e = .returned (.tuple #[.agg #[v0, v1, v2, v3], .bool m, .string o, .string y]) ∧ OwnS w' w.heap.size S' v0 v1 v2 v3 ∧ Below w.heap.size w w' := by
 obtain ⟨W, hW⟩ : ∃ W, W = w.alloc (.cells #[.slice none 0 0, .slice none 0 0, .slice none 0 0, .slice none 0 0] 29) := ⟨_, rfl⟩
 have HP : Hid (Row W w.heap.size #[.slice none 0 0, .slice none 0 0, .slice none 0 0, .slice none 0 0] 29) := by rw [hW]; exact row_new w _ _ rfl
 have HB : Hid (Below w.heap.size w W) := by rw [hW]; exact (Below.refl _ _).alloc (Nat.le_refl _) _
 have hWs : W.heap.size = w.heap.size + 1 := by rw [hW]; simp
 have HW : Hid (w.alloc (.cells #[.slice none 0 0, .slice none 0 0, .slice none 0 0, .slice none 0 0] 29) = W) := hW.symm
 have HC : Hid (CodeIs W B v n) := hc.grown (p := w.heap.size) hB ⟨HB.out.os, HB.out.tape, HB.out.output, HB.out.size, fun k hk _ => HB.out.block k hk⟩
 clear hW
 go_enter Tryz.func16, Tryz.ntmps16
 go_wp2_with fail
 rw [HW.out]
 clear HW
 refine (new_calls B v n hn W (by omega) HC.out).mono ?_
 rintro e w1 ⟨rfl, hc1, hb⟩
 rw [hWs] at hc1
 have hs1 := hc1.lt
 replace HP := hidI (HP.out.next hb)
 replace HB := hidI (HB.out.trans (hb.mono HB.out.size))
 have hb1 := hb.size
 have HCU := hidI hc1
 clear hb hc1
 go_wp2_with fail
 refine (onceS 2 (by omega) (by omega) B (w.heap.size + 1) v n hn w1 HCU.out).mono ?_
 rintro e y0 ⟨m, rfl, hd⟩
 replace HP := hidI (HP.out.grown hd.2 (by intro e; injection e with e; omega))
 replace HB := hidI (Drew.below HB.out hd (by omega))
 have hs_y0 := hd.2.size
 replace HCU := hidI hd.1
 clear hd
 go_wp2_with fail
 refine (objN B (w.heap.size + 1) v n hn y0 (by omega) HCU.out).mono ?_
 rintro e y1 ⟨o, hno, rfl, hd⟩
 have HNO := hidI hno
 clear hno
 replace HP := hidI (HP.out.grown hd.2 (by intro e; injection e with e; omega))
 replace HB := hidI (Drew.below HB.out hd (by omega))
 have hs_y1 := hd.2.size
 replace HCU := hidI hd.1
 clear hd
 go_wp2_with fail
 refine (keyN B (w.heap.size + 1) v n hn y1 (by omega) HCU.out).mono ?_
 rintro e y2 ⟨y, hny, rfl, hd⟩
 have HNY := hidI hny
 clear hny
 replace HP := hidI (HP.out.grown hd.2 (by intro e; injection e with e; omega))
 replace HB := hidI (Drew.below HB.out hd (by omega))
 have hs_y2 := hd.2.size
 replace HCU := hidI hd.1
 clear hd
 go_wp2_with fail
 refine (anyStD B (w.heap.size + 1) v n hn y2 (by omega) HCU.out).mono ?_
 rintro e w3 ⟨S', hS, v0, v1, v2, v3, rfl, ho, hd⟩
 obtain ⟨a0, c0, a1, c1, a2, c2, a3, c3, rfl, rfl, rfl, rfl⟩ := ho.at.shape
 replace HP := hidI (HP.out.grown hd.2 (by intro e; injection e with e; omega))
 replace HB := hidI (Drew.below HB.out hd (by omega))
 have HSO := hidI hS
 obtain ⟨o0, o1, o2, o3⟩ := Row.four HP.out
 have g0 := HP.out.free 0
 have g1 := HP.out.free 1
 have g2 := HP.out.free 2
 have g3 := HP.out.free 3
 have HZ := hidI ((((HP.out.st0 (.slice a0 S'.l.length c0)).st1 (.slice a1 S'.T.length c1)).st2 (.slice a2 S'.L.length c2)).st3 (.slice a3 S'.C.length c3))
 have HBB := hidI ((((HB.out.setCell (p := ⟨w.heap.size, 0, none⟩) (Nat.le_refl _) (.slice a0 S'.l.length c0)).setCell (p := ⟨w.heap.size, 1, none⟩) (Nat.le_refl _) (.slice a1 S'.T.length c1)).setCell (p := ⟨w.heap.size, 2, none⟩) (Nat.le_refl _) (.slice a2 S'.L.length c2)).setCell (p := ⟨w.heap.size, 3, none⟩) (Nat.le_refl _) (.slice a3 S'.C.length c3))
 have HOO := hidI (Own4.base ((((Own4.put (g := w.heap.size) (i := 0) (x := (.slice a0 S'.l.length c0)) ho (by omega)).put (g := w.heap.size) (i := 1) (x := (.slice a1 S'.T.length c1)) (by omega)).put (g := w.heap.size) (i := 2) (x := (.slice a2 S'.L.length c2)) (by omega)).put (g := w.heap.size) (i := 3) (x := (.slice a3 S'.C.length c3)) (by omega)) (show w.heap.size ≤ y2.heap.size by omega))
 clear hS ho hd
 go_wp2
 exact bodyPost_ret (ret_st4 rfl rfl rfl rfl rfl HZ.out) rfl ⟨S', HSO.out, m, o, y, HNO.out, HNY.out, _, _, _, _, rfl, HOO.out, HBB.out⟩
end Go.Proofs.YtdknoflkingodaaGreat
namespace Go.Proofs.YtdknoflkingodaaGreat
set_option maxRecDepth 100000
set_option linter.unusedVariables false
open Go.RowKit
theorem load_dt {w : World} {g : Nat} {c0 c1 : Value} (hg : Row w g #[c0, c1] 33) : (loadVar 33 ⟨g, 0, none⟩).run Tryz.prog w = .ok (.agg #[c0, c1]) w :=
 run_loadVar_row w g 33 33 _ (0, 0) _ hg Tryz.underlying33 rfl (by kernel_rfl)
theorem ret_stdot {fn : Func} {p q : Tmp} (h : fn.results = #[.cell p 29, .cell q 33]) {tmps : Array Value} {w : World} {g k : Nat} {c0 c1 c2 c3 d0 d1 : Value} (hp : tmps.getD p undef = .pointer (some ⟨g, 0, none⟩)) (hq : tmps.getD q undef = .pointer (some ⟨k, 0, none⟩)) (hg : Row w g #[c0, c1, c2, c3] 29) (hk : Row w k #[d0, d1] 33) :
  (results fn tmps).run Tryz.prog w = .ok (.tuple #[.agg #[c0, c1, c2, c3], .agg #[d0, d1]]) w := by
 rw [Array.getD_eq_getD_getElem?] at hp hq
 simp only [results, h]
 simp [hp, hq, asAddr, Result.andThen, load_st hg, load_dt hk]
set_option maxHeartbeats 8000000 in
theorem drawCellAt_calls (B : Nat) (v : Value) (n : Nat) (hn : n ≤ 1048576) (w : World) (hB : B ≤ w.heap.size) (hc : CodeIs w B v n) :
  Calls Tryz.prog 17 #[v] w fun e w' => ∃ S' : Sta, Wil S' ∧ ∃ (r s : Int) (v0 v1 v2 v3 : Value), e = .returned (.tuple #[.agg #[v0, v1, v2, v3], .agg #[.int .i64 r, .int .i64 s]]) ∧ OwnS w' w.heap.size S' v0 v1 v2 v3 ∧ Below w.heap.size w w' := by
 obtain ⟨W, hW⟩ : ∃ W, W = (w.alloc (.cells #[.slice none 0 0, .slice none 0 0, .slice none 0 0, .slice none 0 0] 29)).alloc (.cells #[.int .i64 0, .int .i64 0] 33) := ⟨_, rfl⟩
 have HP : Hid (Row W w.heap.size #[.slice none 0 0, .slice none 0 0, .slice none 0 0, .slice none 0 0] 29) := by rw [hW]; exact (row_new w _ _ rfl).alloc _
 have HQ : Hid (Row W (w.heap.size + 1) #[.int .i64 0, .int .i64 0] 33) := by rw [hW]; exact row_new _ _ _ (by simp)
 have HB : Hid (Below w.heap.size w W) := by rw [hW]; exact ((Below.refl _ _).alloc (Nat.le_refl _) _).alloc (by simp) _
 have hWs : W.heap.size = w.heap.size + 1 + 1 := by rw [hW]; simp
 have HW : Hid ((w.alloc (.cells #[.slice none 0 0, .slice none 0 0, .slice none 0 0, .slice none 0 0] 29)).alloc (.cells #[.int .i64 0, .int .i64 0] 33) = W) := hW.symm
 have HC : Hid (CodeIs W B v n) := hc.grown (p := w.heap.size) hB ⟨HB.out.os, HB.out.tape, HB.out.output, HB.out.size, fun k hk _ => HB.out.block k hk⟩
 clear hW
 go_enter Tryz.func17, Tryz.ntmps17
 go_wp2_with fail
 rw [HW.out]
 clear HW
 refine (new_calls B v n hn W (by omega) HC.out).mono ?_
 rintro e w1 ⟨rfl, hc1, hb⟩
 rw [hWs] at hc1
 have hs1 := hc1.lt
 replace HP := hidI (HP.out.next hb)
 replace HQ := hidI (HQ.out.next hb)
 replace HB := hidI (HB.out.trans (hb.mono HB.out.size))
 have hb1 := hb.size
 have HCU := hidI hc1
 clear hb hc1
 go_wp2_with fail
 refine (dotD B (w.heap.size + 1 + 1) v n hn w1 (by omega) HCU.out).mono ?_
 rintro e w2 ⟨r, s, rfl, hd⟩
 unfold dot
 replace HP := hidI (HP.out.grown hd.2 (by intro e; injection e with e; omega))
 replace HQ := hidI (HQ.out.grown hd.2 (by intro e; injection e with e; omega))
 replace HB := hidI (Drew.below HB.out hd (by omega))
 have hs2 := hd.2.size
 replace HCU := hidI hd.1
 clear hd
 obtain ⟨X, hX⟩ : ∃ X, X = w2.alloc (.cells #[.int .i64 r, .int .i64 s] 33) := ⟨_, rfl⟩
 have hXs : X.heap.size = w2.heap.size + 1 := by rw [hX]; simp
 have HT : Hid (Row X w2.heap.size #[.int .i64 r, .int .i64 s] 33) := by rw [hX]; exact row_new _ _ _ rfl
 replace HP : Hid (Row X w.heap.size #[.slice none 0 0, .slice none 0 0, .slice none 0 0, .slice none 0 0] 29) := by rw [hX]; exact HP.out.alloc _
 replace HQ : Hid (Row X (w.heap.size + 1) #[.int .i64 0, .int .i64 0] 33) := by rw [hX]; exact HQ.out.alloc _
 replace HB : Hid (Below w.heap.size w X) := by rw [hX]; exact HB.out.alloc (by omega) _
 have hcX : Cur X B (w.heap.size + 1 + 1) v n := by rw [hX]; exact ((Drew.refl HCU.out).alloc HCU.out.lt (by omega) _).1
 have HX : Hid (w2.alloc (.cells #[.int .i64 r, .int .i64 s] 33) = X) := hX.symm
 clear hX HCU
 have HANY := hidI (fun wx (h : Cur wx B (w.heap.size + 1 + 1) v n) (hB' : B ≤ wx.heap.size) => anyStD B (w.heap.size + 1 + 1) v n hn wx hB' h)
 obtain ⟨t0, t1⟩ : X.cell? ⟨w2.heap.size, 0, none⟩ = some (.int .i64 r) ∧ X.cell? ⟨w2.heap.size, 1, none⟩ = some (.int .i64 s) := ⟨HT.out.cell 0 rfl, HT.out.cell 1 rfl⟩
 rw [← HX.out] at t0 t1
 go_wp2
 rw [HX.out]
 rw [HX.out] at t0 t1
 have hcd : Cur X.drew B (w.heap.size + 1 + 1) v n := hcX
 first
  | go_region_with (first | (go_at_call 60; refine (HANY.out _ hcd (by show B ≤ X.heap.size; omega)).mono ?_; rintro e w3 ⟨S', hS, v0, v1, v2, v3, rfl, ho, hd⟩; obtain ⟨a0, c0, a1, c1, a2, c2, a3, c3, rfl, rfl, rfl, rfl⟩ := ho.at.shape; have hs3 : X.heap.size ≤ w3.heap.size := hd.2.size; have HT3 := hidI (Row.grown (w := X.drew) HT.out.drew hd.2 (by intro e; injection e with e; omega)); have HP3 := hidI (Row.grown (w := X.drew) HP.out.drew hd.2 (by intro e; injection e with e; omega)); have HQ3 := hidI (Row.grown (w := X.drew) HQ.out.drew hd.2 (by intro e; injection e with e; omega)); have HB3 := hidI (HB.out.drew.grown hd.2 (by show w.heap.size ≤ X.heap.size; omega) (fun q hq => by cases hq; omega)); have HS3 := hidI hS; have HO3 := hidI ho; have u0 := HT3.out.cell 0 rfl; have u1 := HT3.out.cell 1 rfl; obtain ⟨o0, o1, o2, o3⟩ := Row.four HP3.out; have g0 := HP3.out.free 0; have g1 := HP3.out.free 1; have g2 := HP3.out.free 2; have g3 := HP3.out.free 3; have p0 := HQ3.out.cell 0 rfl; have p1 := HQ3.out.cell 1 rfl; have k0 := HQ3.out.free 0; have k1 := HQ3.out.free 1; clear hS ho hd))
  | fail
 all_goals
  have HZ := hidI ((((((HP3.out.st0 (.slice a0 S'.l.length c0)).st1 (.slice a1 S'.T.length c1)).st2 (.slice a2 S'.L.length c2)).st3 (.slice a3 S'.C.length c3)).other (p := ⟨w.heap.size + 1, 0, none⟩) (by simp) (.int .i64 r)).other (p := ⟨w.heap.size + 1, 1, none⟩) (by simp) (.int .i64 s))
  have HY := hidI ((((((HQ3.out.other (p := ⟨w.heap.size, 0, none⟩) (by simp) (.slice a0 S'.l.length c0)).other (p := ⟨w.heap.size, 1, none⟩) (by simp) (.slice a1 S'.T.length c1)).other (p := ⟨w.heap.size, 2, none⟩) (by simp) (.slice a2 S'.L.length c2)).other (p := ⟨w.heap.size, 3, none⟩) (by simp) (.slice a3 S'.C.length c3)).d0 (.int .i64 r)).d1 (.int .i64 s))
  have HBB := hidI ((((((HB3.out.setCell (p := ⟨w.heap.size, 0, none⟩) (Nat.le_refl _) (.slice a0 S'.l.length c0)).setCell (p := ⟨w.heap.size, 1, none⟩) (Nat.le_refl _) (.slice a1 S'.T.length c1)).setCell (p := ⟨w.heap.size, 2, none⟩) (Nat.le_refl _) (.slice a2 S'.L.length c2)).setCell (p := ⟨w.heap.size, 3, none⟩) (Nat.le_refl _) (.slice a3 S'.C.length c3)).setCell (p := ⟨w.heap.size + 1, 0, none⟩) (by simp) (.int .i64 r)).setCell (p := ⟨w.heap.size + 1, 1, none⟩) (by simp) (.int .i64 s))
  have hxx : w.heap.size + 1 + 1 ≤ X.drew.heap.size := by show _ ≤ X.heap.size; omega
  have HOO := hidI (Own4.base ((((((Own4.put (g := w.heap.size) (i := 0) (x := (.slice a0 S'.l.length c0)) HO3.out (by omega)).put (g := w.heap.size) (i := 1) (x := (.slice a1 S'.T.length c1)) (by omega)).put (g := w.heap.size) (i := 2) (x := (.slice a2 S'.L.length c2)) (by omega)).put (g := w.heap.size) (i := 3) (x := (.slice a3 S'.C.length c3)) (by omega)).put (g := w.heap.size + 1) (i := 0) (x := .int .i64 r) (by omega)).put (g := w.heap.size + 1) (i := 1) (x := .int .i64 s) (by omega)) (show w.heap.size ≤ X.drew.heap.size by omega))
  go_wp2
  exact bodyPost_ret (ret_stdot rfl rfl rfl HZ.out HY.out) rfl ⟨S', HS3.out, r, s, _, _, _, _, rfl, HOO.out, HBB.out⟩
end Go.Proofs.YtdknoflkingodaaGreat
namespace Go.Proofs.YtdknoflkingodaaGreat
set_option maxRecDepth 100000
set_option linter.unusedVariables false
open Go.RowKit
theorem ret_st2 {fn : Func} {p q : Tmp} (h : fn.results = #[.cell p 29, .cell q 29]) {tmps : Array Value} {w : World} {g k : Nat} {c0 c1 c2 c3 d0 d1 d2 d3 : Value} (hp : tmps.getD p undef = .pointer (some ⟨g, 0, none⟩)) (hq : tmps.getD q undef = .pointer (some ⟨k, 0, none⟩)) (hg : Row w g #[c0, c1, c2, c3] 29) (hk : Row w k #[d0, d1, d2, d3] 29) :
  (results fn tmps).run Tryz.prog w = .ok (.tuple #[.agg #[c0, c1, c2, c3], .agg #[d0, d1, d2, d3]]) w := by
 rw [Array.getD_eq_getD_getElem?] at hp hq
 simp only [results, h]
 simp [hp, hq, asAddr, Result.andThen, load_st hg, load_st hk]
set_option maxHeartbeats 16000000 in
theorem drawSameState_calls (B : Nat) (v : Value) (n : Nat) (hn : n ≤ 1048576) (w : World) (hB : B ≤ w.heap.size) (hc : CodeIs w B v n) :
  Calls Tryz.prog 13 #[v] w fun e w' => ∃ S1 : Sta, Wil S1 ∧ ∃ S2 : Sta, Wil S2 ∧ ∃ (u0 u1 u2 u3 v0 v1 v2 v3 : Value), e = .returned (.tuple #[.agg #[u0, u1, u2, u3], .agg #[v0, v1, v2, v3]]) ∧ OwnS w' w.heap.size S1 u0 u1 u2 u3 ∧ OwnS w' w.heap.size S2 v0 v1 v2 v3 ∧ Below w.heap.size w w' := by
 obtain ⟨W, hW⟩ : ∃ W, W = (w.alloc (.cells #[.slice none 0 0, .slice none 0 0, .slice none 0 0, .slice none 0 0] 29)).alloc (.cells #[.slice none 0 0, .slice none 0 0, .slice none 0 0, .slice none 0 0] 29) := ⟨_, rfl⟩
 have HP : Hid (Row W w.heap.size #[.slice none 0 0, .slice none 0 0, .slice none 0 0, .slice none 0 0] 29) := by rw [hW]; exact (row_new w _ _ rfl).alloc _
 have HQ : Hid (Row W (w.heap.size + 1) #[.slice none 0 0, .slice none 0 0, .slice none 0 0, .slice none 0 0] 29) := by rw [hW]; exact row_new _ _ _ (by simp)
 have HB : Hid (Below w.heap.size w W) := by rw [hW]; exact ((Below.refl _ _).alloc (Nat.le_refl _) _).alloc (by simp) _
 have hWs : W.heap.size = w.heap.size + 1 + 1 := by rw [hW]; simp
 have HW : Hid ((w.alloc (.cells #[.slice none 0 0, .slice none 0 0, .slice none 0 0, .slice none 0 0] 29)).alloc (.cells #[.slice none 0 0, .slice none 0 0, .slice none 0 0, .slice none 0 0] 29) = W) := hW.symm
 have HC : Hid (CodeIs W B v n) := hc.grown (p := w.heap.size) hB ⟨HB.out.os, HB.out.tape, HB.out.output, HB.out.size, fun k hk _ => HB.out.block k hk⟩
 clear hW
 go_enter Tryz.func13, Tryz.ntmps13
 go_wp2_with fail
 rw [HW.out]
 clear HW
 refine (new_calls B v n hn W (by omega) HC.out).mono ?_
 rintro e w1 ⟨rfl, hc1, hb⟩
 rw [hWs] at hc1
 have hs1 := hc1.lt
 replace HP := hidI (HP.out.next hb)
 replace HQ := hidI (HQ.out.next hb)
 replace HB := hidI (HB.out.trans (hb.mono HB.out.size))
 have hb1 := hb.size
 have HCU := hidI hc1
 clear hb hc1
 go_wp2_with fail
 refine (anyStD B (w.heap.size + 1 + 1) v n hn w1 (by omega) HCU.out).mono ?_
 rintro e w2 ⟨S1, hS1, v0, v1, v2, v3, rfl, ho1, hd⟩
 obtain ⟨b0, d0, b1, d1, b2, d2, b3, d3, rfl, rfl, rfl, rfl⟩ := ho1.at.shape
 replace HP := hidI (HP.out.grown hd.2 (by intro e; injection e with e; omega))
 replace HQ := hidI (HQ.out.grown hd.2 (by intro e; injection e with e; omega))
 replace HB := hidI (Drew.below HB.out hd (by omega))
 have hs2 := hd.2.size
 replace HCU := hidI hd.1
 have HS1 := hidI hS1
 clear hd hS1
 obtain ⟨X, hX⟩ : ∃ X, X = w2.alloc (.cells #[.slice b0 S1.l.length d0, .slice b1 S1.T.length d1, .slice b2 S1.L.length d2, .slice b3 S1.C.length d3] 29) := ⟨_, rfl⟩
 have hXs : X.heap.size = w2.heap.size + 1 := by rw [hX]; simp
 have HT : Hid (Row X w2.heap.size #[.slice b0 S1.l.length d0, .slice b1 S1.T.length d1, .slice b2 S1.L.length d2, .slice b3 S1.C.length d3] 29) := by rw [hX]; exact row_new _ _ _ rfl
 replace HP : Hid (Row X w.heap.size #[.slice none 0 0, .slice none 0 0, .slice none 0 0, .slice none 0 0] 29) := by rw [hX]; exact HP.out.alloc _
 replace HQ : Hid (Row X (w.heap.size + 1) #[.slice none 0 0, .slice none 0 0, .slice none 0 0, .slice none 0 0] 29) := by rw [hX]; exact HQ.out.alloc _
 replace HB : Hid (Below w.heap.size w X) := by rw [hX]; exact HB.out.alloc (by omega) _
 have HO1 : Hid (OwnS X w1.heap.size S1 (.slice b0 S1.l.length d0) (.slice b1 S1.T.length d1) (.slice b2 S1.L.length d2) (.slice b3 S1.C.length d3)) := by rw [hX]; exact OwnS.next ho1 ((Below.refl _ _).alloc (Nat.le_refl _) _)
 have hcX : Cur X B (w.heap.size + 1 + 1) v n := by rw [hX]; exact ((Drew.refl HCU.out).alloc HCU.out.lt (by omega) _).1
 have HX : Hid (w2.alloc (.cells #[.slice b0 S1.l.length d0, .slice b1 S1.T.length d1, .slice b2 S1.L.length d2, .slice b3 S1.C.length d3] 29) = X) := hX.symm
 clear hX HCU ho1
 go_wp2_with fail
 rw [HX.out]
 refine (onceS 2 (by omega) (by omega) B (w.heap.size + 1 + 1) v n hn X hcX).mono ?_
 rintro e Y ⟨b, rfl, hd⟩
 replace HP := hidI (HP.out.grown hd.2 (by intro e; injection e with e; omega))
 replace HQ := hidI (HQ.out.grown hd.2 (by intro e; injection e with e; omega))
 replace HT := hidI (HT.out.grown hd.2 (by intro e; injection e with e; omega))
 replace HB := hidI (Drew.below HB.out hd (by omega))
 replace HO1 := hidI (HO1.out.drewC hd (by omega))
 have hsY := hd.2.size
 have hcY := hd.1
 clear hd hcX HX
 obtain ⟨t0, t1, t2, t3⟩ := Row.four HT.out
 cases b with
 | false =>
  have HANY := hidI (fun wx (h : Cur wx B (w.heap.size + 1 + 1) v n) (hB' : B ≤ wx.heap.size) => anyStD B (w.heap.size + 1 + 1) v n hn wx hB' h)
  have hcd : Cur Y.drew B (w.heap.size + 1 + 1) v n := hcY
  go_wp2
  first
   | go_region_with (first | (go_at_call 60; refine (HANY.out _ hcd (by show B ≤ Y.heap.size; omega)).mono ?_; rintro e w3 ⟨S2, hS2, v0, v1, v2, v3, rfl, ho, hd⟩; obtain ⟨a0, c0, a1, c1, a2, c2, a3, c3, rfl, rfl, rfl, rfl⟩ := ho.at.shape; have hs3 : Y.heap.size ≤ w3.heap.size := hd.2.size; have HT3 := hidI (Row.grown (w := Y.drew) HT.out.drew hd.2 (by intro e; injection e with e; omega)); have HP3 := hidI (Row.grown (w := Y.drew) HP.out.drew hd.2 (by intro e; injection e with e; omega)); have HQ3 := hidI (Row.grown (w := Y.drew) HQ.out.drew hd.2 (by intro e; injection e with e; omega)); have HB3 := hidI (HB.out.drew.grown hd.2 (by show w.heap.size ≤ Y.heap.size; omega) (fun q hq => by cases hq; omega)); have HO3 := hidI ho; have HO4 : Hid (OwnS w3 w1.heap.size S1 (.slice b0 S1.l.length d0) (.slice b1 S1.T.length d1) (.slice b2 S1.L.length d2) (.slice b3 S1.C.length d3)) := OwnS.drewC (w := Y.drew) HO1.out hd (by omega); obtain ⟨u0, u1, u2, u3⟩ := Row.four HT3.out; obtain ⟨o0, o1, o2, o3⟩ := Row.four HP3.out; have g0 := HP3.out.free 0; have g1 := HP3.out.free 1; have g2 := HP3.out.free 2; have g3 := HP3.out.free 3; obtain ⟨p0, p1, p2, p3⟩ := Row.four HQ3.out; have k0 := HQ3.out.free 0; have k1 := HQ3.out.free 1; have k2 := HQ3.out.free 2; have k3 := HQ3.out.free 3; have HS2 := hidI hS2; clear hS2 ho hd))
   | fail
  all_goals
   have HZ := hidI (((((((((HP3.out.st0 (.slice b0 S1.l.length d0)).st1 (.slice b1 S1.T.length d1)).st2 (.slice b2 S1.L.length d2)).st3 (.slice b3 S1.C.length d3)).other (p := ⟨w.heap.size + 1, 0, none⟩) (by simp) (.slice a0 S2.l.length c0)).other (p := ⟨w.heap.size + 1, 1, none⟩) (by simp) (.slice a1 S2.T.length c1)).other (p := ⟨w.heap.size + 1, 2, none⟩) (by simp) (.slice a2 S2.L.length c2)).other (p := ⟨w.heap.size + 1, 3, none⟩) (by simp) (.slice a3 S2.C.length c3)))
   have HY := hidI (((((((((HQ3.out.other (p := ⟨w.heap.size, 0, none⟩) (by simp) (.slice b0 S1.l.length d0)).other (p := ⟨w.heap.size, 1, none⟩) (by simp) (.slice b1 S1.T.length d1)).other (p := ⟨w.heap.size, 2, none⟩) (by simp) (.slice b2 S1.L.length d2)).other (p := ⟨w.heap.size, 3, none⟩) (by simp) (.slice b3 S1.C.length d3)).st0 (.slice a0 S2.l.length c0)).st1 (.slice a1 S2.T.length c1)).st2 (.slice a2 S2.L.length c2)).st3 (.slice a3 S2.C.length c3)))
   have HBB := hidI (((((((((HB3.out.setCell (p := ⟨w.heap.size, 0, none⟩) (by simp) (.slice b0 S1.l.length d0)).setCell (p := ⟨w.heap.size, 1, none⟩) (by simp) (.slice b1 S1.T.length d1)).setCell (p := ⟨w.heap.size, 2, none⟩) (by simp) (.slice b2 S1.L.length d2)).setCell (p := ⟨w.heap.size, 3, none⟩) (by simp) (.slice b3 S1.C.length d3)).setCell (p := ⟨w.heap.size + 1, 0, none⟩) (by simp) (.slice a0 S2.l.length c0)).setCell (p := ⟨w.heap.size + 1, 1, none⟩) (by simp) (.slice a1 S2.T.length c1)).setCell (p := ⟨w.heap.size + 1, 2, none⟩) (by simp) (.slice a2 S2.L.length c2)).setCell (p := ⟨w.heap.size + 1, 3, none⟩) (by simp) (.slice a3 S2.C.length c3)))
   have hxx : w.heap.size + 1 + 1 ≤ Y.drew.heap.size := by show _ ≤ Y.heap.size; omega
   have HOO := hidI (Own4.base ((Own4.put (g := w.heap.size + 1) (i := 3) (x := (.slice a3 S2.C.length c3)) (Own4.put (g := w.heap.size + 1) (i := 2) (x := (.slice a2 S2.L.length c2)) (Own4.put (g := w.heap.size + 1) (i := 1) (x := (.slice a1 S2.T.length c1)) (Own4.put (g := w.heap.size + 1) (i := 0) (x := (.slice a0 S2.l.length c0)) (Own4.put (g := w.heap.size) (i := 3) (x := (.slice b3 S1.C.length d3)) (Own4.put (g := w.heap.size) (i := 2) (x := (.slice b2 S1.L.length d2)) (Own4.put (g := w.heap.size) (i := 1) (x := (.slice b1 S1.T.length d1)) (Own4.put (g := w.heap.size) (i := 0) (x := (.slice b0 S1.l.length d0)) HO3.out (by omega)) (by omega)) (by omega)) (by omega)) (by omega)) (by omega)) (by omega)) (by omega))) (show w.heap.size ≤ Y.drew.heap.size by omega))
   have HON := hidI (Own4.base ((Own4.put (g := w.heap.size + 1) (i := 3) (x := (.slice a3 S2.C.length c3)) (Own4.put (g := w.heap.size + 1) (i := 2) (x := (.slice a2 S2.L.length c2)) (Own4.put (g := w.heap.size + 1) (i := 1) (x := (.slice a1 S2.T.length c1)) (Own4.put (g := w.heap.size + 1) (i := 0) (x := (.slice a0 S2.l.length c0)) (Own4.put (g := w.heap.size) (i := 3) (x := (.slice b3 S1.C.length d3)) (Own4.put (g := w.heap.size) (i := 2) (x := (.slice b2 S1.L.length d2)) (Own4.put (g := w.heap.size) (i := 1) (x := (.slice b1 S1.T.length d1)) (Own4.put (g := w.heap.size) (i := 0) (x := (.slice b0 S1.l.length d0)) HO4.out (by omega)) (by omega)) (by omega)) (by omega)) (by omega)) (by omega)) (by omega)) (by omega))) (show w.heap.size ≤ w1.heap.size by omega))
   go_wp2
   exact bodyPost_ret (ret_st2 rfl rfl rfl HZ.out HY.out) rfl ⟨S1, HS1.out, S2, HS2.out, _, _, _, _, _, _, _, _, rfl, HON.out, HOO.out, HBB.out⟩
 | true =>
  have HCP : Hid (Calls Tryz.prog 62 #[.agg #[.slice b0 S1.l.length d0, .slice b1 S1.T.length d1, .slice b2 S1.L.length d2, .slice b3 S1.C.length d3]] Y.drew fun e w' => ∃ v0 v1 v2 v3, e = .returned (.agg #[v0, v1, v2, v3]) ∧ OwnS w' Y.drew.heap.size S1 v0 v1 v2 v3 ∧ Below Y.drew.heap.size Y.drew w') := specCopy_calls S1 _ _ _ _ Y.drew HS1.out.small (OwnS.next (w := Y) HO1.out ((Below.refl _ _).drew)).at
  go_wp2
  first
   | go_region_with (first | (go_at_call 62; refine (HCP.out).mono ?_; rintro e w3 ⟨v0, v1, v2, v3, rfl, ho, hd⟩; obtain ⟨a0, c0, a1, c1, a2, c2, a3, c3, rfl, rfl, rfl, rfl⟩ := ho.at.shape; have hs3 : Y.heap.size ≤ w3.heap.size := hd.size; have HT3 := hidI (Row.next (w := Y.drew) HT.out.drew hd); have HP3 := hidI (Row.next (w := Y.drew) HP.out.drew hd); have HQ3 := hidI (Row.next (w := Y.drew) HQ.out.drew hd); have HB3 := hidI ((HB.out.drew).trans (hd.mono (by show w.heap.size ≤ Y.heap.size; omega))); have HO3 := hidI ho; have HO4 : Hid (OwnS w3 w1.heap.size S1 (.slice b0 S1.l.length d0) (.slice b1 S1.T.length d1) (.slice b2 S1.L.length d2) (.slice b3 S1.C.length d3)) := OwnS.next (w := Y.drew) HO1.out hd; obtain ⟨u0, u1, u2, u3⟩ := Row.four HT3.out; obtain ⟨o0, o1, o2, o3⟩ := Row.four HP3.out; have g0 := HP3.out.free 0; have g1 := HP3.out.free 1; have g2 := HP3.out.free 2; have g3 := HP3.out.free 3; obtain ⟨p0, p1, p2, p3⟩ := Row.four HQ3.out; have k0 := HQ3.out.free 0; have k1 := HQ3.out.free 1; have k2 := HQ3.out.free 2; have k3 := HQ3.out.free 3; clear ho hd))
   | fail
  all_goals
   have HZ := hidI (((((((((HP3.out.st0 (.slice b0 S1.l.length d0)).st1 (.slice b1 S1.T.length d1)).st2 (.slice b2 S1.L.length d2)).st3 (.slice b3 S1.C.length d3)).other (p := ⟨w.heap.size + 1, 0, none⟩) (by simp) (.slice a0 S1.l.length c0)).other (p := ⟨w.heap.size + 1, 1, none⟩) (by simp) (.slice a1 S1.T.length c1)).other (p := ⟨w.heap.size + 1, 2, none⟩) (by simp) (.slice a2 S1.L.length c2)).other (p := ⟨w.heap.size + 1, 3, none⟩) (by simp) (.slice a3 S1.C.length c3)))
   have HY := hidI (((((((((HQ3.out.other (p := ⟨w.heap.size, 0, none⟩) (by simp) (.slice b0 S1.l.length d0)).other (p := ⟨w.heap.size, 1, none⟩) (by simp) (.slice b1 S1.T.length d1)).other (p := ⟨w.heap.size, 2, none⟩) (by simp) (.slice b2 S1.L.length d2)).other (p := ⟨w.heap.size, 3, none⟩) (by simp) (.slice b3 S1.C.length d3)).st0 (.slice a0 S1.l.length c0)).st1 (.slice a1 S1.T.length c1)).st2 (.slice a2 S1.L.length c2)).st3 (.slice a3 S1.C.length c3)))
   have HBB := hidI (((((((((HB3.out.setCell (p := ⟨w.heap.size, 0, none⟩) (by simp) (.slice b0 S1.l.length d0)).setCell (p := ⟨w.heap.size, 1, none⟩) (by simp) (.slice b1 S1.T.length d1)).setCell (p := ⟨w.heap.size, 2, none⟩) (by simp) (.slice b2 S1.L.length d2)).setCell (p := ⟨w.heap.size, 3, none⟩) (by simp) (.slice b3 S1.C.length d3)).setCell (p := ⟨w.heap.size + 1, 0, none⟩) (by simp) (.slice a0 S1.l.length c0)).setCell (p := ⟨w.heap.size + 1, 1, none⟩) (by simp) (.slice a1 S1.T.length c1)).setCell (p := ⟨w.heap.size + 1, 2, none⟩) (by simp) (.slice a2 S1.L.length c2)).setCell (p := ⟨w.heap.size + 1, 3, none⟩) (by simp) (.slice a3 S1.C.length c3)))
   have hxx : w.heap.size + 1 + 1 ≤ Y.drew.heap.size := by show _ ≤ Y.heap.size; omega
   have HOO := hidI (Own4.base ((Own4.put (g := w.heap.size + 1) (i := 3) (x := (.slice a3 S1.C.length c3)) (Own4.put (g := w.heap.size + 1) (i := 2) (x := (.slice a2 S1.L.length c2)) (Own4.put (g := w.heap.size + 1) (i := 1) (x := (.slice a1 S1.T.length c1)) (Own4.put (g := w.heap.size + 1) (i := 0) (x := (.slice a0 S1.l.length c0)) (Own4.put (g := w.heap.size) (i := 3) (x := (.slice b3 S1.C.length d3)) (Own4.put (g := w.heap.size) (i := 2) (x := (.slice b2 S1.L.length d2)) (Own4.put (g := w.heap.size) (i := 1) (x := (.slice b1 S1.T.length d1)) (Own4.put (g := w.heap.size) (i := 0) (x := (.slice b0 S1.l.length d0)) HO3.out (by omega)) (by omega)) (by omega)) (by omega)) (by omega)) (by omega)) (by omega)) (by omega))) (show w.heap.size ≤ Y.drew.heap.size by omega))
   have HON := hidI (Own4.base ((Own4.put (g := w.heap.size + 1) (i := 3) (x := (.slice a3 S1.C.length c3)) (Own4.put (g := w.heap.size + 1) (i := 2) (x := (.slice a2 S1.L.length c2)) (Own4.put (g := w.heap.size + 1) (i := 1) (x := (.slice a1 S1.T.length c1)) (Own4.put (g := w.heap.size + 1) (i := 0) (x := (.slice a0 S1.l.length c0)) (Own4.put (g := w.heap.size) (i := 3) (x := (.slice b3 S1.C.length d3)) (Own4.put (g := w.heap.size) (i := 2) (x := (.slice b2 S1.L.length d2)) (Own4.put (g := w.heap.size) (i := 1) (x := (.slice b1 S1.T.length d1)) (Own4.put (g := w.heap.size) (i := 0) (x := (.slice b0 S1.l.length d0)) HO4.out (by omega)) (by omega)) (by omega)) (by omega)) (by omega)) (by omega)) (by omega)) (by omega))) (show w.heap.size ≤ w1.heap.size by omega))
   go_wp2
   exact bodyPost_ret (ret_st2 rfl rfl rfl HZ.out HY.out) rfl ⟨S1, HS1.out, S1, HS1.out, _, _, _, _, _, _, _, _, rfl, HON.out, HOO.out, HBB.out⟩
end Go.Proofs.YtdknoflkingodaaGreat
