/- An act is like itself, as the laws' helper tells it; the laws on names, on acts that are the same, and on the later of two. -/
import Derived.Test.YtjphgmknbnedhaaALaw
import Derived.Test.YtjphgmknbnedhaaASam2
namespace Go.Proofs.Ytjphgmknbnedhaa
set_option maxRecDepth 100000
set_option linter.unusedVariables false
open Go.RowKit

set_option maxHeartbeats 1000000 in
theorem eqDot_calls (r s : Int) (w : World) :
    Calls Try.prog 117 #[.agg #[.int .i64 r, .int .i64 s], .agg #[.int .i64 r, .int .i64 s]] w fun e w' => e = .returned (.bool true) ∧ Below w.heap.size w w' := by
  have h1 : (r != r) = false := by simp
  have h2 : (s != s) = false := by simp
  have hb : ∀ o1 o2, Below w.heap.size w ((w.alloc o1).alloc o2) := fun o1 o2 => ((Below.refl _ _).alloc (Nat.le_refl _) _).alloc (by simp) _
  go_enter Try.func117, Try.ntmps117
  go_wp2
  go_ret
  exact ⟨rfl, hb _ _⟩

set_option maxHeartbeats 2000000 in
theorem eqAct_calls (A : Ac) (u v : Value) (w : World) (hA : A.l.length ≤ 1048576) (ha : IntsAt w u A.l) (hb : IntsAt w v A.l) :
    Calls Try.prog 44 #[A.val u, A.val v] w fun e w' => e = .returned (.bool true) ∧ Below w.heap.size w w' := by
  obtain ⟨W, hW⟩ : ∃ W, W = (w.alloc (.cells (A.cs u) 72)).alloc (.cells (A.cs v) 72) := ⟨_, rfl⟩
  have HA : Hid (IntsAt W u A.l) := by rw [hW]; exact (ha.alloc _).alloc _
  have HB : Hid (IntsAt W v A.l) := by rw [hW]; exact (hb.alloc _).alloc _
  have HPA : Hid (ActAt W w.heap.size A u) := by rw [hW]; exact (actAt_new w A u rfl).alloc _
  have HPB : Hid (ActAt W (w.heap.size + 1) A v) := by rw [hW]; exact actAt_new _ A v (by simp)
  have HBW : Hid (Below w.heap.size w W) := by rw [hW]; exact ((Below.refl _ _).alloc (Nat.le_refl _) _).alloc (by simp) _
  have HW : Hid ((w.alloc (.cells (A.cs u) 72)).alloc (.cells (A.cs v) 72) = W) := hW.symm
  unfold Ac.cs at HW
  unfold Ac.val
  clear ha hb hW
  have f1 : (A.t != A.t) = false := by simp
  have f2 : (A.k != A.k) = false := by simp
  have f3 : (A.v != A.v) = false := by simp
  have f4 := beq_str A.o A.o rfl
  have f5 := beq_str A.y A.y rfl
  go_enter Try.func44, Try.ntmps44
  go_wp2_with fail
  rw [HW.out]
  refine (eqDot_calls _ _ _).mono ?_
  rintro e w1 ⟨rfl, hb1⟩
  replace HPA : Hid (ActAt w1 w.heap.size A u) := HPA.out.below hb1 HPA.out.lt
  replace HPB : Hid (ActAt w1 (w.heap.size + 1) A v) := HPB.out.below hb1 HPB.out.lt
  replace HA : Hid (IntsAt w1 u A.l) := HA.out.below hb1
  replace HB : Hid (IntsAt w1 v A.l) := HB.out.below hb1
  replace HBW : Hid (Below w.heap.size w w1) := HBW.out.trans (hb1.mono HBW.out.size)
  obtain ⟨-, -, a2, a3, -, -, -, -, -, -⟩ := HPA.out.all
  obtain ⟨-, -, b2, b3, -, -, -, -, -, -⟩ := HPB.out.all
  clear hb1 HW
  go_wp2_with fail
  refine (eqInts_calls hA _ HA.out HB.out).mono ?_
  rintro e w2 ⟨rfl, hb2⟩
  replace HPA : Hid (ActAt w2 w.heap.size A u) := HPA.out.below hb2 HPA.out.lt
  replace HPB : Hid (ActAt w2 (w.heap.size + 1) A v) := HPB.out.below hb2 HPB.out.lt
  replace HBW : Hid (Below w.heap.size w w2) := HBW.out.trans (hb2.mono HBW.out.size)
  clear hb2 HA HB a2 a3 b2 b3
  obtain ⟨-, -, -, -, a4, a5, a6, a7, a8, a9⟩ := HPA.out.all
  obtain ⟨-, -, -, -, b4, b5, b6, b7, b8, b9⟩ := HPB.out.all
  go_wp2_with fail
  refine (eqDot_calls _ _ _).mono ?_
  rintro e w3 ⟨rfl, hb3⟩
  replace HBW : Hid (Below w.heap.size w w3) := HBW.out.trans (hb3.mono HBW.out.size)
  clear hb3
  go_wp2
  go_ret
  exact ⟨rfl, HBW.out⟩

/-- An act that was handed in. -/
def ArgAct (w : World) (A : Ac) (v : Value) : Prop := ArgInts w v A.l ∧ A.o.size ≤ maxLen ∧ A.y.size ≤ maxLen
theorem ArgAct.split {w : World} {A : Ac} {v : Value} (h : ArgAct w A v) : ∃ aa ca, v = .slice aa A.l.length ca := by
  obtain ⟨⟨-, aa, ca, rfl, -⟩, -, -⟩ := h; exact ⟨aa, ca, rfl⟩
theorem szAct_at (A : Ac) (v : Value) (L : Int) (w w0 : World) (hA : ArgAct w0 A v) (h0 : 0 ≤ L) (h1 : L ≤ 1048576) :
    Calls Try.prog 61 #[A.val v, .int .i64 L] w fun e w' => e = .returned (.int .i64 (leftOf L A.sz)) ∧ Below w.heap.size w w' := by
  obtain ⟨aa, ca, rfl⟩ := hA.split
  exact szAct_calls A aa ca L w h0 h1 hA.1.1 hA.2.1 hA.2.2
end Go.Proofs.Ytjphgmknbnedhaa
