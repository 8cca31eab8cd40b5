/- What is drawn for a knowledge: a right one, any one, a dot. Of what is drawn only the bounds are told. -/
import Derived.Test.YtdknoflkingodaaGreatM3
import Derived.Test.YtdknoflkingodaaGreatM5
import Derived.Test.YtdknoflkingodaaGreatM6
import Derived.Test.YtdknoflkingodaaGreatM7
import Derived.Test.YtdknoflkingodaaGreatM8
import Derived.Test.YtdknoflkingodaaGreatM9
import Derived.Test.YtdknoflkingodaaGreatM36
import Derived.Test.YtdknoflkingodaaGreatM37
namespace Go.Proofs.YtdknoflkingodaaGreat
set_option maxRecDepth 100000
set_option linter.unusedVariables false
open Go.RowKit
set_option maxHeartbeats 1000000 in
theorem dotD (B p : Nat) (v : Value) (n : Nat) (hn : n ≤ 1048576) (w : World) (hB : B ≤ w.heap.size) (hc : Cur w B p v n) :
  Calls Tryz.prog 66 #[.pointer (some ⟨p, 0, none⟩)] w fun e w' => ∃ r s : Int, e = .returned (dot r s) ∧ Drew w w' B p v n := by
 have hp := hc.lt
 have hpne : (some p : Option Nat) ≠ some w.heap.size := by intro e; cases e; omega
 have hc0 : Drew w (w.alloc (.cells #[.int .i64 0, .int .i64 0] 33)) B p v n := (Drew.refl hc).alloc hp hB _
 have hF0 : DotAt (w.alloc (.cells #[.int .i64 0, .int .i64 0] 33)) w.heap.size 0 0 := dotAt_new w _ _ rfl
 go_enter Tryz.func66, Tryz.ntmps66
 go_wp2_with fail
 refine (belowD 3 (by omega) (by omega) B p v n hn _ hc0.1).mono ?_
 rintro e w1 ⟨x, rfl, hx, hd1⟩
 have hF1 : DotAt w1 w.heap.size 0 0 := (hd1.2.block _ hF0.lt (fun e => hpne e.symm)).trans hF0
 have hd01 := hc0.trans hd1
 go_wp2_with fail
 refine (belowD 5 (by omega) (by omega) B p v n hn _ hd01.1).mono ?_
 rintro e w2 ⟨y, rfl, hy, hd2⟩
 have hF2 : DotAt w2 w.heap.size 0 0 := (hd2.2.block _ hF1.lt (fun e => hpne e.symm)).trans hF1
 have hd02 := hd01.trans hd2
 have c0 := hF2.c0
 have c1 := hF2.c1
 have f0 := hF2.free 0
 have f1 := hF2.free 1
 clear hF0 hF1 hc0 hd1 hd2 hd01
 go_wp2
 exact bodyPost_ret (ret_dot rfl rfl ((hF2.set0 _).set1 _)) rfl ⟨_, _, rfl, (hd02.set hp hB (Nat.le_refl _) 0 _).set hp hB (Nat.le_refl _) 1 _⟩
end Go.Proofs.YtdknoflkingodaaGreat
