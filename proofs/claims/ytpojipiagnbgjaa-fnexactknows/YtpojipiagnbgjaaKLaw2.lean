/- The law on what is known: for every argument it comes out true and writes into no memory that was there. -/
import Derived.Test.YtpojipiagnbgjaaKRow
import Derived.Test.YtpojipiagnbgjaaKSpec2
namespace Go.Proofs.Ytpojipiagnbgjaa
open Go.RowKit

set_option maxHeartbeats 3000000 in
set_option maxRecDepth 100000 in
theorem fnExactKnows_walk (va : Value) (la : List Int) (r s : Int) (w : World) (ha : ArgInts w va la) :
    Calls Try.prog 7 #[va, .agg #[.int .i64 r, .int .i64 s]] w fun e w' => e = .returned (.bool true) ∧ Below w.heap.size w w' := by
  have HA : Hid (ArgInts w va la) := ha
  have ma := ha.1
  unfold maxLen at ma
  obtain ⟨-, aa, ca, rfl, -⟩ := ha
  obtain ⟨W, hW⟩ : ∃ W, W = w.alloc (.cells #[.int .i64 r, .int .i64 s] 44) := ⟨_, rfl⟩
  have hB : Below w.heap.size w W := by rw [hW]; exact (Below.refl _ _).alloc (Nat.le_refl _) _
  by_cases h1 : (1048576 : Int) < la.length
  · subst hW
    go_enter Try.func7, Try.ntmps7
    go_wp2
    go_ret
    exact ⟨rfl, hB⟩
  have na : la.length ≤ 1048576 := by omega
  have HTA : Hid (∀ wx, Below w.heap.size w wx → Calls Try.prog 34 #[.slice aa la.length ca] wx fun e w' => ∃ u, e = .returned u ∧ w'.ownsRow wx.heap.size 3 1 u la.length (intV la) ∧ Below wx.heap.size wx w') := fun wx h => toInts_calls na wx (HA.out.below h)
  obtain ⟨q, hq⟩ : ∃ q, q = knows la r s := ⟨_, rfl⟩
  have HS : Hid (∀ wx u, IntsAt wx u la → Calls Try.prog 25 #[u, .agg #[.int .i64 r, .int .i64 s]] wx fun e w' => e = .returned (.bool q) ∧ Below wx.heap.size wx w') := fun wx u h => by rw [hq]; exact specKnows_calls la u r s wx na h
  have HI : Hid (∀ wx u, IntsAt wx u la → Calls Try.prog 17 #[u, .agg #[.int .i64 r, .int .i64 s]] wx fun e w' => e = .returned (.bool q) ∧ Below wx.heap.size wx w') := fun wx u h => by rw [hq]; exact knows_calls la u r s wx h
  have HT : Hid (∀ wx, Calls Try.prog 39 #[.agg #[.int .i64 r, .int .i64 s]] wx fun e w' => e = .returned (.agg #[.int .i64 r, .int .i64 s]) ∧ Below wx.heap.size wx w') := fun wx => toDot_calls r s wx
  clear hq
  have hD : w.heap.size < W.heap.size ∧ W.cell? ⟨w.heap.size, 0, none⟩ = some (.int .i64 r) ∧ W.cell? ⟨w.heap.size, 1, none⟩ = some (.int .i64 s) := by rw [hW]; simp
  have HW : Hid (w.alloc (.cells #[.int .i64 r, .int .i64 s] 44) = W) := hW.symm
  obtain ⟨hlt, c0, c1⟩ := hD
  have HD : Hid (∀ wx, Below W.heap.size W wx → wx.cell? ⟨w.heap.size, 0, none⟩ = some (.int .i64 r) ∧ wx.cell? ⟨w.heap.size, 1, none⟩ = some (.int .i64 s)) := fun wx h => ⟨(h.cell (p := ⟨w.heap.size, 0, none⟩) hlt).trans c0, (h.cell (p := ⟨w.heap.size, 1, none⟩) hlt).trans c1⟩
  have hBd : Below w.heap.size w W.drew := hB.drew
  have hWd : Below W.heap.size W W.drew := (Below.refl _ _).drew
  clear hW
  go_enter Try.func7, Try.ntmps7
  go_wp2
  rw [HW.out]
  go_region_held3 (fun w' => w'.cell? ⟨w.heap.size, 0, none⟩ = some (.int .i64 r) ∧ w'.cell? ⟨w.heap.size, 1, none⟩ = some (.int .i64 s)) (first | exact ⟨c0, c1⟩ | exact HD.out _ hW3 | exact HD.out _ hW2 | exact HD.out _ hW1 | go_keep) (first
    | (go_at_call 34; refine (HTA.out _ hBd).mono ?_; rintro e w1 ⟨u1, rfl, ho1, hb1⟩; have hW1 : Below W.heap.size W w1 := hWd.trans (hb1.mono hWd.size); have k1 : IntsAt w1 u1 la := IntsAt.own ho1 rfl; clear ho1)
    | (go_at_call 39; refine (HT.out _).mono ?_; rintro e w2 ⟨rfl, hb2⟩; have hW2 : Below W.heap.size W w2 := hW1.trans (hb2.mono hW1.size); have k2 : IntsAt w2 u1 la := k1.below hb2)
    | (go_at_call 25; refine (HS.out _ _ k2).mono ?_; rintro e w3 ⟨rfl, hb3⟩; have hW3 : Below W.heap.size W w3 := hW2.trans (hb3.mono hW2.size)))
  clear c0 c1 hb1 hb2 hb3 k1 k2 hW1 hW2 hBd hWd
  have hB3 : Below w.heap.size w w3 := hB.trans (hW3.mono hB.size)
  go_wp2_with fail
  refine (HTA.out _ hB3).mono ?_
  rintro e w4 ⟨x0, rfl, ho4, hb4⟩
  have k4 : IntsAt w4 x0 la := IntsAt.own ho4 rfl
  have hW4 : Below W.heap.size W w4 := hW3.trans (hb4.mono hW3.size)
  obtain ⟨c0, c1⟩ := HD.out w4 hW4
  clear ho4 hb4 hB3 hW3
  go_wp2_with fail
  refine (HT.out _).mono ?_
  rintro e w5 ⟨rfl, hb5⟩
  have k5 : IntsAt w5 x0 la := k4.below hb5
  have hW5 : Below W.heap.size W w5 := hW4.trans (hb5.mono hW4.size)
  clear c0 c1 k4 hb5 hW4
  go_wp2_with fail
  refine (HI.out _ _ k5).mono ?_
  rintro e w6 ⟨rfl, hb6⟩
  have k6 : IntsAt w6 x0 la := k5.below hb6
  have hW6 : Below W.heap.size W w6 := hW5.trans (hb6.mono hW5.size)
  have hB6 : Below w.heap.size w w6 := hB.trans (hW6.mono hB.size)
  clear k5 hb6 hW5
  go_wp2_with fail
  refine (HTA.out _ hB6).mono ?_
  rintro e w7 ⟨x1, rfl, ho7, hb7⟩
  have k7 : IntsAt w7 x1 la := IntsAt.own ho7 rfl
  have k6' : IntsAt w7 x0 la := k6.below hb7
  have hB7 : Below w.heap.size w w7 := hB6.trans (hb7.mono hB6.size)
  clear ho7 hb7 hB6 k6 hW6
  go_wp2_with fail
  refine (eqInts_calls na _ k6' k7).mono ?_
  rintro e w8 ⟨rfl, hb8⟩
  have hB8 : Below w.heap.size w w8 := hB7.trans (hb8.mono hB7.size)
  clear hb8 hB7 k6' k7
  go_wp2_with fail
  go_ret
  exact ⟨rfl, hB8⟩

end Go.Proofs.Ytpojipiagnbgjaa
