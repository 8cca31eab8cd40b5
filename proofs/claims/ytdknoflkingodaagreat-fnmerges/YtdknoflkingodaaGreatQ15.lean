/- The lives of a key: both. -/
import Derived.Test.YtdknoflkingodaaGreatQ1
import Derived.Test.YtdknoflkingodaaGreatQ12
import Derived.Test.YtdknoflkingodaaGreatQ14
set_option maxHeartbeats 16000000
namespace Go.Proofs.YtdknoflkingodaaGreat
open Value (int)
open IntKind (i64)
set_option maxRecDepth 100000
set_option linter.unusedVariables false
open Go.RowKit
theorem Zx (l : List Li) (x : Li) : liV (l ++ [x]) = liV l ++ x.cs := by simp [liV]
theorem Ji (w : World) (cs : List Value) (e : TypeId) {g : Nat} (hg : g = w.heap.size) : ∀ j u, cs[j]? = some u → (w.alloc (.cells cs.toArray e)).cell? (Addr.add ⟨g, 0, none⟩ j) = some u := by
 intro j u hj
 subst hg
 rw [KF]
 have h : Row (w.alloc (.cells cs.toArray e)) w.heap.size cs.toArray e := Jb _ _ _ rfl
 exact h.cell j (by simpa using hj)
theorem Jex {fn : Func} {p : Tmp} (h : fn.results = #[.cell p 40]) {tmps : Array Value} {w : World} {g : Nat} {x : Li} (hp : tmps.getD p undef = .pointer (some ⟨g, 0, none⟩)) (hg : Row w g #[.bool x.m, .string x.o, .string x.y, int i64 x.v, int i64 x.r, int i64 x.s] 40) :
  (results fn tmps).run Tryz.prog w = .ok (.agg #[.bool x.m, .string x.o, .string x.y, int i64 x.v, int i64 x.r, int i64 x.s]) w := results_cell_row h tmps w g 40 _ (0, 0) _ hp hg Tryz.underlying40 rfl (by kernel_rfl)
theorem UE (x : Li) (w : World) (h1 : x.o.size ≤ 1048576) (h2 : x.y.size ≤ 1048576) :
  Calls Tryz.prog 59 #[.agg #[.bool x.m, .string x.o, .string x.y, int i64 x.v, int i64 x.r, int i64 x.s]] w fun e w' => e = .returned (.agg #[.bool x.m, .string x.o, .string x.y, int i64 x.v, int i64 x.r, int i64 x.s]) ∧ Below w.heap.size w w' := by
 obtain ⟨W, hW⟩ : ∃ W, W = (w.alloc (.cells #[.bool x.m, .string x.o, .string x.y, int i64 x.v, int i64 x.r, int i64 x.s] 40)).alloc (.cells #[.bool false, .string ⟨#[]⟩, .string ⟨#[]⟩, int i64 0, int i64 0, int i64 0] 40) := ⟨_, rfl⟩
 have HL0 : Hid (Row W w.heap.size #[.bool x.m, .string x.o, .string x.y, int i64 x.v, int i64 x.r, int i64 x.s] 40) := by rw [hW]; exact (Jb w _ _ rfl).alloc _
 have HZ0 : Hid (Row W (w.heap.size + 1) #[.bool false, .string ⟨#[]⟩, .string ⟨#[]⟩, int i64 0, int i64 0, int i64 0] 40) := by rw [hW]; exact Jb _ _ _ (by simp)
 have HB : Hid (Below w.heap.size w W) := by rw [hW]; exact ((Below.refl _ _).alloc (Nat.le_refl _) _).alloc (by simp) _
 have hWs : w.heap.size + 1 + 1 ≤ W.heap.size := by rw [hW]; simp
 have HW : Hid ((w.alloc (.cells #[.bool x.m, .string x.o, .string x.y, int i64 x.v, int i64 x.r, int i64 x.s] 40)).alloc (.cells #[.bool false, .string ⟨#[]⟩, .string ⟨#[]⟩, int i64 0, int i64 0, int i64 0] 40) = W) := hW.symm
 have HC1 : Hid (∀ wx, Calls Tryz.prog 121 #[.string x.o] wx fun e w' => e = .returned (.string x.o) ∧ Below wx.heap.size wx w') := fun wx => Kw x.o wx (by omega)
 have HC2 : Hid (∀ wx, Calls Tryz.prog 121 #[.string x.y] wx fun e w' => e = .returned (.string x.y) ∧ Below wx.heap.size wx w') := fun wx => Kw x.y wx (by omega)
 clear hW h1 h2
 go_enter Tryz.func59, Tryz.ntmps59
 go_wp2
 rw [HW.out]
 have r01 := HL0.out.cell 1 rfl
 have r02 := HL0.out.cell 2 rfl
 go_region_with (first
   | (go_at_call 121; refine (HC1.out _).mono ?_; clear HC1; rintro e w1 ⟨rfl, hb1⟩; have R1 : Hid (Row w1 w.heap.size #[.bool x.m, .string x.o, .string x.y, int i64 x.v, int i64 x.r, int i64 x.s] 40) := Row.next (w := W.drew) HL0.out.drew hb1; have Z1 : Hid (Row w1 (w.heap.size + 1) #[.bool false, .string ⟨#[]⟩, .string ⟨#[]⟩, int i64 0, int i64 0, int i64 0] 40) := Row.next (w := W.drew) HZ0.out.drew hb1; have r11 := R1.out.cell 1 rfl; have r12 := R1.out.cell 2 rfl)
   | (go_at_call 121; refine (HC2.out _).mono ?_; rintro e w2 ⟨rfl, hb2⟩; have R2 : Hid (Row w2 w.heap.size #[.bool x.m, .string x.o, .string x.y, int i64 x.v, int i64 x.r, int i64 x.s] 40) := R1.out.next hb2; have Z2 : Hid (Row w2 (w.heap.size + 1) #[.bool false, .string ⟨#[]⟩, .string ⟨#[]⟩, int i64 0, int i64 0, int i64 0] 40) := Z1.out.next hb2; have r21 := R2.out.cell 1 rfl; have r22 := R2.out.cell 2 rfl; have g21 := R2.out.free 1; have g22 := R2.out.free 2))
 all_goals
  have hRY : Row ((w2.setCell ⟨w.heap.size, 1, none⟩ (.string x.o)).setCell ⟨w.heap.size, 2, none⟩ (.string x.y)) w.heap.size #[.bool x.m, .string x.o, .string x.y, int i64 x.v, int i64 x.r, int i64 x.s] 40 := (R2.out.li1 _).li2 _
  have hZY : Row ((w2.setCell ⟨w.heap.size, 1, none⟩ (.string x.o)).setCell ⟨w.heap.size, 2, none⟩ (.string x.y)) (w.heap.size + 1) #[.bool false, .string ⟨#[]⟩, .string ⟨#[]⟩, int i64 0, int i64 0, int i64 0] 40 := (Z2.out.other (by simp) _).other (by simp) _
  have hBY : Below w.heap.size w ((w2.setCell ⟨w.heap.size, 1, none⟩ (.string x.o)).setCell ⟨w.heap.size, 2, none⟩ (.string x.y)) := (((HB.out.drew.trans (hb1.mono HB.out.drew.size)).trans (hb2.mono (Nat.le_trans HB.out.drew.size hb1.size))).setCell (by simp) _).setCell (by simp) _
  generalize ((w2.setCell ⟨w.heap.size, 1, none⟩ (.string x.o)).setCell ⟨w.heap.size, 2, none⟩ (.string x.y)) = YY at *
  clear R1 R2 Z1 Z2 r11 r12 r21 r22 g21 g22 hb1 hb2 HL0 HZ0 HW HB r01 r02 HC2
  obtain ⟨s0, s1, s2, s3, s4, s5⟩ := ZT hRY
  obtain ⟨z0, z1, z2, z3, z4, z5⟩ := ZT hZY
  have f0 := hZY.free 0
  have f1 := hZY.free 1
  have f2 := hZY.free 2
  have f3 := hZY.free 3
  have f4 := hZY.free 4
  have f5 := hZY.free 5
  have HZY := Ja hZY
  have HBY := Ja hBY
  clear hRY hZY hBY
  go_wp2
  exact bodyPost_ret (Jex rfl rfl ((((((HZY.out.li0 _).li1 _).li2 _).li3 _).li4 _).li5 _)) rfl ⟨rfl, (((((HBY.out.setCell (by simp) _).setCell (by simp) _).setCell (by simp) _).setCell (by simp) _).setCell (by simp) _).setCell (by simp) _⟩
end Go.Proofs.YtdknoflkingodaaGreat
