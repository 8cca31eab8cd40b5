/- What the law on files does. -/
import Derived.Test.YtbnnmlfammeobaaFBegin
import Derived.Deep.RegionHeld3
import Derived.Deep.DrawnRows
namespace Go.Proofs.Ytbnnmlfammeobaa
open Go.RowKit
attribute [local go_sem ↓] Go.wp_at_zero Go.wp_at_succ

set_option maxHeartbeats 4000000 in
set_option maxRecDepth 100000 in
theorem fnFiles_walk (v : Value) (n : Nat) (hm : n ≤ maxLen) (w : World) (hc : CodeIs w w.heap.size v n) :
    Calls Try.prog 3 #[v] w fun e w' => e = .returned (.bool true) ∧ Below w.heap.size w w' := by
  unfold maxLen at hm
  obtain ⟨a, cap, hv⟩ := hc.form
  by_cases hbig : (1048576 : Int) < n
  · subst hv
    have hd : decide ((1048576 : Int) < n) = true := by simp; omega
    go_enter Try.func3, Try.ntmps3
    go_wp2_with (go_at_call 8; refine (big_calls _ _ _ _).mono ?_; rintro e w1 ⟨rfl, rfl⟩)
    go_ret
    exact ⟨rfl, Below.refl _ _⟩
  · have hd : decide ((1048576 : Int) < n) = false := by simp; omega
    have hn : n ≤ 1048576 := by omega
    have HB : Hid (∀ wx, Calls Try.prog 8 #[v] wx fun e w' => e = .returned (.bool false) ∧ w' = wx) := by
      intro wx
      rw [hv, ← hd]; exact big_calls a n cap wx
    have HF : Hid (∀ wx, Below w.heap.size w wx → Calls Try.prog 9 #[v] wx fun e w' => ∃ (s : ByteArray) (k : Nat), s.size < 20 ∧ k ≤ s.size ∧ e = .returned (.agg #[.string s, .int .i64 (k : Int)]) ∧ Below wx.heap.size wx w') := fun wx hb => drawFile_calls w.heap.size v n hn wx hb.size (hc.below hb)
    have HP : Hid (∀ wx, Below w.heap.size w wx → Calls Try.prog 10 #[v] wx fun e w' => ∃ (u : Value) (d : List Nat), d.length = 12 ∧ (∀ x ∈ d, x < 10000) ∧ e = .returned u ∧ w'.ownsRow wx.heap.size 3 1 u 12 (intC d) ∧ Below wx.heap.size wx w') := fun wx hb => placesD w.heap.size v n hn wx hb.size (hc.below hb)
    have HC : Hid (∀ wx, Below w.heap.size w wx → Calls Try.prog 14 #[v] wx fun e w' => ∃ (s : ByteArray) (k z : Int), s.size ≤ 20000 ∧ e = .returned (.tuple #[.agg #[.string s, .int .i64 k], .int .i64 z]) ∧ Below wx.heap.size wx w') := fun wx hb => drawCrashed_calls w.heap.size v n hn wx hb.size (hc.below hb)
    have HA : Hid (∀ wx, Below w.heap.size w wx → Calls Try.prog 15 #[v] wx fun e w' => ∃ (s : ByteArray) (k : Int) (t : ByteArray), s.size ≤ 20000 ∧ t.size < 5 ∧ e = .returned (.tuple #[.agg #[.string s, .int .i64 k], .string t]) ∧ Below wx.heap.size wx w') := fun wx hb => drawAppended_calls w.heap.size v n hn wx hb.size (hc.below hb)
    have HS : Hid (∀ wx, Below w.heap.size w wx → Calls Try.prog 17 #[v] wx fun e w' => ∃ (s : ByteArray) (k : Int), s.size ≤ 20000 ∧ e = .returned (.agg #[.string s, .int .i64 k]) ∧ Below wx.heap.size wx w') := fun wx hb => drawSynced_calls w.heap.size v n hn wx hb.size (hc.below hb)
    have hgd := file_guard
    have heq := eq_file_run
    have hfd := field_run
    clear hd hc hv hbig hm
    go_enter Try.func3, Try.ntmps3
    go_wp2_with (go_at_call 8; refine (HB.out _).mono ?_; rintro e wz ⟨rfl, rfl⟩)
    have B := Below.refl wz.heap.size wz
    refine (HF.out _ B).mono ?_
    rintro e w1 ⟨s, k, hs, hk, rfl, hb⟩
    replace B := B.trans (hb.mono B.size)
    clear hb
    obtain ⟨T0, hT0⟩ : ∃ T0, T0 = s.extract 0 k := ⟨_, rfl⟩
    have hTs : T0.size = k := by rw [hT0]; simp; omega
    have hsl : ∀ wx, (Instr.slice 9 (.string s) none (some (.int .i64 (k : Int))) none).run Try.prog wx = .ok (.string T0) wx := by
      intro wx
      rw [run_slice_string_h wx 9 s Try.underlying9 .i64 (k : Int) (by omega) (by omega), Int.toNat_natCast, hT0]
    have HT0 : Hid (s.extract 0 k = T0) := hT0.symm
    clear hT0
    have F_f := fileAt_new w1 s (k : Int) rfl
    replace B := B.alloc B.size (Obj.cells #[Value.string s, Value.int IntKind.i64 (k : Int)] 25)
    go_wp2_with fail
    refine (HP.out _ B).mono ?_
    rintro e w2 ⟨u, d, hd, hdx, rfl, hown, hb⟩
    replace F_f := F_f.below hb F_f.lt
    replace B := B.trans (hb.mono B.size)
    clear hb
    have t_f := F_f.text
    have n_f := F_f.synced
    have l_f := F_f.lt
    obtain ⟨d0, ds, rfl⟩ : ∃ x y, d = x :: y := by cases d with | nil => simp at hd | cons x y => exact ⟨x, y, rfl⟩
    rcases hown.2 with ⟨-, h0⟩ | ⟨g, cap2, cur2, rfl, -, -, -, -, -, -⟩
    · omega
    have p0 : w2.cell? ⟨g, 0, none⟩ = some (.int .i64 (d0 : Int)) := by
      have := hown.cells (g := g) rfl 0 (.int .i64 (d0 : Int)) (by simp [intC])
      rwa [addr_add] at this
    clear hown hdx hd
    go_wp2_with fail
    refine (crashed_some s k _ _ (by omega) hk).mono ?_
    rintro e w3 ⟨A, hA1, hA2, hA3, hA4, rfl, hb⟩
    replace F_f := F_f.below hb F_f.lt
    replace B := B.trans (hb.mono B.size)
    clear hb t_f n_f l_f p0
    have t_f := F_f.text
    have n_f := F_f.synced
    have l_f := F_f.lt
    have HA3 : Hid (A.extract 0 k = s.extract 0 k) := hA3
    have HA4 : Hid (s.extract 0 A.size = A) := hA4
    clear hA3 hA4
    replace F_f := F_f.alloc (Obj.cells #[Value.string A, Value.int IntKind.i64 (A.size : Int)] 25)
    have F_a := fileAt_new w3 A (A.size : Int) rfl
    replace B := B.alloc B.size (Obj.cells #[Value.string A, Value.int IntKind.i64 (A.size : Int)] 25)
    go_wp2_with fail
    refine (appended_more s k _ hs hk).mono ?_
    rintro e w4 ⟨M, hM1, hM2, hM3, rfl, hb⟩
    replace F_f := F_f.below hb F_f.lt
    replace F_a := F_a.below hb F_a.lt
    replace B := B.trans (hb.mono B.size)
    clear hb t_f n_f l_f
    have HM3 : Hid (M.extract 0 k = s.extract 0 k) := hM3
    clear hM3
    replace F_f := F_f.alloc (Obj.cells #[Value.string M, Value.int IntKind.i64 (k : Int)] 25)
    replace F_a := F_a.alloc (Obj.cells #[Value.string M, Value.int IntKind.i64 (k : Int)] 25)
    have F_b := fileAt_new w4 M (k : Int) rfl
    replace B := B.alloc B.size (Obj.cells #[Value.string M, Value.int IntKind.i64 (k : Int)] 25)
    go_wp2_with fail
    refine (implSynced_ok M k _ (by omega) hM2).mono ?_
    rintro e w5 ⟨rfl, hb⟩
    replace F_f := F_f.below hb F_f.lt
    replace F_a := F_a.below hb F_a.lt
    replace F_b := F_b.below hb F_b.lt
    replace B := B.trans (hb.mono B.size)
    clear hb
    replace F_f := F_f.alloc (Obj.cells #[Value.string M, Value.int IntKind.i64 (M.size : Int)] 25)
    replace F_a := F_a.alloc (Obj.cells #[Value.string M, Value.int IntKind.i64 (M.size : Int)] 25)
    replace F_b := F_b.alloc (Obj.cells #[Value.string M, Value.int IntKind.i64 (M.size : Int)] 25)
    have F_c := fileAt_new w5 M (M.size : Int) rfl
    replace B := B.alloc B.size (Obj.cells #[Value.string M, Value.int IntKind.i64 (M.size : Int)] 25)
    go_wp2_with fail
    refine (HC.out _ B).mono ?_
    rintro e w6 ⟨x, xn, z0, hx, rfl, hb⟩
    replace F_f := F_f.below hb F_f.lt
    replace F_a := F_a.below hb F_a.lt
    replace F_b := F_b.below hb F_b.lt
    replace F_c := F_c.below hb F_c.lt
    replace B := B.trans (hb.mono B.size)
    clear hb
    replace F_f := F_f.alloc (Obj.cells #[Value.string x, Value.int IntKind.i64 xn] 25)
    replace F_a := F_a.alloc (Obj.cells #[Value.string x, Value.int IntKind.i64 xn] 25)
    replace F_b := F_b.alloc (Obj.cells #[Value.string x, Value.int IntKind.i64 xn] 25)
    replace F_c := F_c.alloc (Obj.cells #[Value.string x, Value.int IntKind.i64 xn] 25)
    have F_x := fileAt_new w6 x xn rfl
    replace B := B.alloc B.size (Obj.cells #[Value.string x, Value.int IntKind.i64 xn] 25)
    go_wp2_with fail
    refine (HA.out _ B).mono ?_
    rintro e w7 ⟨y, yn, t, hy, ht, rfl, hb⟩
    replace F_f := F_f.below hb F_f.lt
    replace F_a := F_a.below hb F_a.lt
    replace F_b := F_b.below hb F_b.lt
    replace F_c := F_c.below hb F_c.lt
    replace F_x := F_x.below hb F_x.lt
    replace B := B.trans (hb.mono B.size)
    clear hb
    obtain ⟨D, q, h1, h2⟩ := appended_both y t yn (by omega)
    have HA1 : Hid (∀ w, Calls Try.prog 16 #[.agg #[.string y, .int .i64 yn], .string t] w fun e w' => e = .returned (.tuple #[.agg #[.string D, .int .i64 yn], .bool q]) ∧ Below w.heap.size w w') := h1
    have HA2 : Hid (∀ w, Calls Try.prog 12 #[.agg #[.string y, .int .i64 yn], .string t] w fun e w' => e = .returned (.tuple #[.agg #[.string D, .int .i64 yn], .bool q]) ∧ Below w.heap.size w w') := h2
    clear h1 h2
    replace F_f := F_f.alloc (Obj.cells #[Value.string y, Value.int IntKind.i64 yn] 25)
    replace F_a := F_a.alloc (Obj.cells #[Value.string y, Value.int IntKind.i64 yn] 25)
    replace F_b := F_b.alloc (Obj.cells #[Value.string y, Value.int IntKind.i64 yn] 25)
    replace F_c := F_c.alloc (Obj.cells #[Value.string y, Value.int IntKind.i64 yn] 25)
    replace F_x := F_x.alloc (Obj.cells #[Value.string y, Value.int IntKind.i64 yn] 25)
    have F_y := fileAt_new w7 y yn rfl
    replace B := B.alloc B.size (Obj.cells #[Value.string y, Value.int IntKind.i64 yn] 25)
    go_wp2_with fail
    refine (HA2.out _).mono ?_
    rintro e w8 ⟨rfl, hb⟩
    replace F_f := F_f.below hb F_f.lt
    replace F_a := F_a.below hb F_a.lt
    replace F_b := F_b.below hb F_b.lt
    replace F_c := F_c.below hb F_c.lt
    replace F_x := F_x.below hb F_x.lt
    replace F_y := F_y.below hb F_y.lt
    replace B := B.trans (hb.mono B.size)
    clear hb
    have t_y := F_y.text
    have n_y := F_y.synced
    have l_y := F_y.lt
    replace F_f := F_f.alloc (Obj.cells #[Value.string D, Value.int IntKind.i64 yn] 25)
    replace F_a := F_a.alloc (Obj.cells #[Value.string D, Value.int IntKind.i64 yn] 25)
    replace F_b := F_b.alloc (Obj.cells #[Value.string D, Value.int IntKind.i64 yn] 25)
    replace F_c := F_c.alloc (Obj.cells #[Value.string D, Value.int IntKind.i64 yn] 25)
    replace F_x := F_x.alloc (Obj.cells #[Value.string D, Value.int IntKind.i64 yn] 25)
    replace F_y := F_y.alloc (Obj.cells #[Value.string D, Value.int IntKind.i64 yn] 25)
    have F_d := fileAt_new w8 D yn rfl
    replace B := B.alloc B.size (Obj.cells #[Value.string D, Value.int IntKind.i64 yn] 25)
    go_wp2_with fail
    refine (HA1.out _).mono ?_
    rintro e w9 ⟨rfl, hb⟩
    replace F_f := F_f.below hb F_f.lt
    replace F_a := F_a.below hb F_a.lt
    replace F_b := F_b.below hb F_b.lt
    replace F_c := F_c.below hb F_c.lt
    replace F_x := F_x.below hb F_x.lt
    replace F_y := F_y.below hb F_y.lt
    replace F_d := F_d.below hb F_d.lt
    replace B := B.trans (hb.mono B.size)
    clear hb t_y n_y l_y
    replace F_f := F_f.alloc (Obj.cells #[Value.string D, Value.int IntKind.i64 yn] 25)
    replace F_a := F_a.alloc (Obj.cells #[Value.string D, Value.int IntKind.i64 yn] 25)
    replace F_b := F_b.alloc (Obj.cells #[Value.string D, Value.int IntKind.i64 yn] 25)
    replace F_c := F_c.alloc (Obj.cells #[Value.string D, Value.int IntKind.i64 yn] 25)
    replace F_x := F_x.alloc (Obj.cells #[Value.string D, Value.int IntKind.i64 yn] 25)
    replace F_y := F_y.alloc (Obj.cells #[Value.string D, Value.int IntKind.i64 yn] 25)
    replace F_d := F_d.alloc (Obj.cells #[Value.string D, Value.int IntKind.i64 yn] 25)
    have F_e := fileAt_new w9 D yn rfl
    replace B := B.alloc B.size (Obj.cells #[Value.string D, Value.int IntKind.i64 yn] 25)
    go_wp2_with fail
    refine (HS.out _ B).mono ?_
    rintro e w10 ⟨z, zn, hz, rfl, hb⟩
    replace F_f := F_f.below hb F_f.lt
    replace F_a := F_a.below hb F_a.lt
    replace F_b := F_b.below hb F_b.lt
    replace F_c := F_c.below hb F_c.lt
    replace F_x := F_x.below hb F_x.lt
    replace F_y := F_y.below hb F_y.lt
    replace F_d := F_d.below hb F_d.lt
    replace F_e := F_e.below hb F_e.lt
    replace B := B.trans (hb.mono B.size)
    clear hb
    have t_f := F_f.text
    have n_f := F_f.synced
    have l_f := F_f.lt
    have t_a := F_a.text
    have n_a := F_a.synced
    have l_a := F_a.lt
    replace F_f := F_f.alloc (Obj.cells #[Value.string z, Value.int IntKind.i64 zn] 25)
    replace F_a := F_a.alloc (Obj.cells #[Value.string z, Value.int IntKind.i64 zn] 25)
    replace F_b := F_b.alloc (Obj.cells #[Value.string z, Value.int IntKind.i64 zn] 25)
    replace F_c := F_c.alloc (Obj.cells #[Value.string z, Value.int IntKind.i64 zn] 25)
    replace F_x := F_x.alloc (Obj.cells #[Value.string z, Value.int IntKind.i64 zn] 25)
    replace F_y := F_y.alloc (Obj.cells #[Value.string z, Value.int IntKind.i64 zn] 25)
    replace F_d := F_d.alloc (Obj.cells #[Value.string z, Value.int IntKind.i64 zn] 25)
    replace F_e := F_e.alloc (Obj.cells #[Value.string z, Value.int IntKind.i64 zn] 25)
    have F_z := fileAt_new w10 z zn rfl
    replace B := B.alloc B.size (Obj.cells #[Value.string z, Value.int IntKind.i64 zn] 25)
    clear F_y
    replace F_f := F_f.drew
    replace F_a := F_a.drew
    replace F_b := F_b.drew
    replace F_c := F_c.drew
    replace F_x := F_x.drew
    replace F_d := F_d.drew
    replace F_e := F_e.drew
    replace F_z := F_z.drew
    replace B := B.drew
    have ok1 : decide (FOk s k) = true := decide_eq_true ⟨by omega, by omega, by omega⟩
    have ok2 : decide (FOk A A.size) = true := decide_eq_true ⟨by omega, by omega, by omega⟩
    have K0 : Hid (∀ w, Calls Try.prog 18 #[.string T0, .string A] w fun e w' => e = .returned (.bool true) ∧ w' = w) := fun w => begins_calls T0 A w (by omega) (by rw [hTs, HA3.out, HT0.out])
    have K1 : Hid (∀ w, Calls Try.prog 18 #[.string A, .string s] w fun e w' => e = .returned (.bool true) ∧ w' = w) := fun w => begins_calls A s w hA1 HA4.out
    have K2 : Hid (∀ w, Calls Try.prog 19 #[.agg #[.string s, .int .i64 (k : Int)]] w fun e w' => e = .returned (.bool true) ∧ Below w.heap.size w w') := fun w => ok1 ▸ implOk s k w (by omega)
    have K3 : Hid (∀ w, Calls Try.prog 19 #[.agg #[.string A, .int .i64 (A.size : Int)]] w fun e w' => e = .returned (.bool true) ∧ Below w.heap.size w w') := fun w => ok2 ▸ implOk A A.size w (by omega)
    have K4 : Hid (∀ w, Calls Try.prog 11 #[.agg #[.string M, .int .i64 (M.size : Int)], .int .i64 0] w fun e w' => e = .returned (.agg #[.string M, .int .i64 (M.size : Int)]) ∧ Below w.heap.size w w') := fun w => crashed_all M w (by omega)
    obtain ⟨E, en, h1, h2⟩ := crashed_both x xn z0 (by omega)
    have K5 : Hid (∀ w, Calls Try.prog 11 #[.agg #[.string x, .int .i64 xn], .int .i64 z0] w fun e w' => e = .returned (.agg #[.string E, .int .i64 en]) ∧ Below w.heap.size w w') := h2
    have K6 : Hid (∀ w, Calls Try.prog 20 #[.agg #[.string x, .int .i64 xn], .int .i64 z0] w fun e w' => e = .returned (.agg #[.string E, .int .i64 en]) ∧ Below w.heap.size w w') := h1
    clear h1 h2
    obtain ⟨zb, h1, h2⟩ := synced_both z zn (by omega)
    have K7 : Hid (∀ w, Calls Try.prog 13 #[.agg #[.string z, .int .i64 zn]] w fun e w' => e = .returned (.agg #[.string z, .int .i64 zb]) ∧ Below w.heap.size w w') := h2
    have K8 : Hid (∀ w, Calls Try.prog 21 #[.agg #[.string z, .int .i64 zn]] w fun e w' => e = .returned (.agg #[.string z, .int .i64 zb]) ∧ Below w.heap.size w w') := h1
    clear h1 h2
    obtain ⟨okx, hokx⟩ : ∃ b, b = decide (FOk x xn) := ⟨_, rfl⟩
    have K9 : Hid (∀ w, Calls Try.prog 19 #[.agg #[.string x, .int .i64 xn]] w fun e w' => e = .returned (.bool okx) ∧ Below w.heap.size w w') := fun w => hokx ▸ implOk x xn w (by omega)
    have K10 : Hid (∀ w, Calls Try.prog 22 #[.agg #[.string x, .int .i64 xn]] w fun e w' => e = .returned (.bool okx) ∧ Below w.heap.size w w') := fun w => hokx ▸ specOk x xn w (by omega)
    have K11 : Hid (∀ w, Calls Try.prog 11 #[.agg #[.string M, .int .i64 (k : Int)], .int .i64 0] w fun e w' => e = .returned (.agg #[.string T0, .int .i64 (k : Int)]) ∧ Below w.heap.size w w') := fun w => by have h := crashed_none M k w (by omega) hM2; rw [HM3.out, HT0.out] at h; exact h
    clear hokx ok1 ok2 HA3 HA4 HT0 HM3 HA1 HA2 HF HP HC HA HS HB hA1 hA2 hM1 hM2 hs hk hx hy ht hz hTs hn t_f n_f l_f t_a n_a l_a
    go_wp2_with fail
    simp only [List.append_eq, List.cons_append, List.nil_append]
    have k0 : True := trivial
    have k1 : True := trivial
    have k2 : True := trivial
    have k3 : True := trivial
    have k4 : True := trivial
    have k5 : True := trivial
    have k6 : True := trivial
    have k7 : True := trivial
    have k8 : True := trivial
    have k9 : True := trivial
    have k10 : True := trivial
    have k11 : True := trivial
    go_region_held3 (fun w' => w'.cell? ⟨w1.heap.size, 0, none⟩ = some (.string s) ∧ w'.cell? ⟨w1.heap.size, 1, none⟩ = some (.int .i64 (k : Int)) ∧ w'.cell? ⟨w3.heap.size, 0, none⟩ = some (.string A) ∧ w'.cell? ⟨w3.heap.size, 1, none⟩ = some (.int .i64 (A.size : Int)) ∧ w'.cell? ⟨w4.heap.size, 0, none⟩ = some (.string M) ∧ w'.cell? ⟨w4.heap.size, 1, none⟩ = some (.int .i64 (k : Int)) ∧ w'.cell? ⟨w5.heap.size, 0, none⟩ = some (.string M) ∧ w'.cell? ⟨w5.heap.size, 1, none⟩ = some (.int .i64 (M.size : Int)) ∧ w'.cell? ⟨w6.heap.size, 0, none⟩ = some (.string x) ∧ w'.cell? ⟨w6.heap.size, 1, none⟩ = some (.int .i64 xn) ∧ w'.cell? ⟨w8.heap.size, 0, none⟩ = some (.string D) ∧ w'.cell? ⟨w8.heap.size, 1, none⟩ = some (.int .i64 yn) ∧ w'.cell? ⟨w9.heap.size, 0, none⟩ = some (.string D) ∧ w'.cell? ⟨w9.heap.size, 1, none⟩ = some (.int .i64 yn) ∧ w'.cell? ⟨w10.heap.size, 0, none⟩ = some (.string z) ∧ w'.cell? ⟨w10.heap.size, 1, none⟩ = some (.int .i64 zn)) (exact ⟨F_f.text, F_f.synced, F_a.text, F_a.synced, F_b.text, F_b.synced, F_c.text, F_c.synced, F_x.text, F_x.synced, F_d.text, F_d.synced, F_e.text, F_e.synced, F_z.text, F_z.synced⟩) (first
      | (go_at_call 18; have _t := k0; refine (K0.out _).mono ?_; clear _t k0; rintro e _ ⟨rfl, rfl⟩)
      | (go_at_call 18; have _t := k1; refine (K1.out _).mono ?_; clear _t k1; rintro e _ ⟨rfl, rfl⟩)
      | (go_at_call 19; have _t := k2; refine (K2.out _).mono ?_; clear _t k2; rintro e v2 ⟨rfl, hb⟩; replace F_f := F_f.below hb F_f.lt; replace F_a := F_a.below hb F_a.lt; replace F_b := F_b.below hb F_b.lt; replace F_c := F_c.below hb F_c.lt; replace F_x := F_x.below hb F_x.lt; replace F_d := F_d.below hb F_d.lt; replace F_e := F_e.below hb F_e.lt; replace F_z := F_z.below hb F_z.lt; replace B := B.trans (hb.mono B.size); clear hb)
      | (go_at_call 19; have _t := k3; refine (K3.out _).mono ?_; clear _t k3; rintro e v3 ⟨rfl, hb⟩; replace F_f := F_f.below hb F_f.lt; replace F_a := F_a.below hb F_a.lt; replace F_b := F_b.below hb F_b.lt; replace F_c := F_c.below hb F_c.lt; replace F_x := F_x.below hb F_x.lt; replace F_d := F_d.below hb F_d.lt; replace F_e := F_e.below hb F_e.lt; replace F_z := F_z.below hb F_z.lt; replace B := B.trans (hb.mono B.size); clear hb)
      | (go_at_call 11; have _t := k4; refine (K4.out _).mono ?_; clear _t k4; rintro e v4 ⟨rfl, hb⟩; replace F_f := F_f.below hb F_f.lt; replace F_a := F_a.below hb F_a.lt; replace F_b := F_b.below hb F_b.lt; replace F_c := F_c.below hb F_c.lt; replace F_x := F_x.below hb F_x.lt; replace F_d := F_d.below hb F_d.lt; replace F_e := F_e.below hb F_e.lt; replace F_z := F_z.below hb F_z.lt; replace B := B.trans (hb.mono B.size); clear hb)
      | (go_at_call 11; have _t := k5; refine (K5.out _).mono ?_; clear _t k5; rintro e v5 ⟨rfl, hb⟩; replace F_f := F_f.below hb F_f.lt; replace F_a := F_a.below hb F_a.lt; replace F_b := F_b.below hb F_b.lt; replace F_c := F_c.below hb F_c.lt; replace F_x := F_x.below hb F_x.lt; replace F_d := F_d.below hb F_d.lt; replace F_e := F_e.below hb F_e.lt; replace F_z := F_z.below hb F_z.lt; replace B := B.trans (hb.mono B.size); clear hb)
      | (go_at_call 20; have _t := k6; refine (K6.out _).mono ?_; clear _t k6; rintro e v6 ⟨rfl, hb⟩; replace F_f := F_f.below hb F_f.lt; replace F_a := F_a.below hb F_a.lt; replace F_b := F_b.below hb F_b.lt; replace F_c := F_c.below hb F_c.lt; replace F_x := F_x.below hb F_x.lt; replace F_d := F_d.below hb F_d.lt; replace F_e := F_e.below hb F_e.lt; replace F_z := F_z.below hb F_z.lt; replace B := B.trans (hb.mono B.size); clear hb)
      | (go_at_call 13; have _t := k7; refine (K7.out _).mono ?_; clear _t k7; rintro e v7 ⟨rfl, hb⟩; replace F_f := F_f.below hb F_f.lt; replace F_a := F_a.below hb F_a.lt; replace F_b := F_b.below hb F_b.lt; replace F_c := F_c.below hb F_c.lt; replace F_x := F_x.below hb F_x.lt; replace F_d := F_d.below hb F_d.lt; replace F_e := F_e.below hb F_e.lt; replace F_z := F_z.below hb F_z.lt; replace B := B.trans (hb.mono B.size); clear hb)
      | (go_at_call 21; have _t := k8; refine (K8.out _).mono ?_; clear _t k8; rintro e v8 ⟨rfl, hb⟩; replace F_f := F_f.below hb F_f.lt; replace F_a := F_a.below hb F_a.lt; replace F_b := F_b.below hb F_b.lt; replace F_c := F_c.below hb F_c.lt; replace F_x := F_x.below hb F_x.lt; replace F_d := F_d.below hb F_d.lt; replace F_e := F_e.below hb F_e.lt; replace F_z := F_z.below hb F_z.lt; replace B := B.trans (hb.mono B.size); clear hb)
      | (go_at_call 19; have _t := k9; refine (K9.out _).mono ?_; clear _t k9; rintro e v9 ⟨rfl, hb⟩; replace F_f := F_f.below hb F_f.lt; replace F_a := F_a.below hb F_a.lt; replace F_b := F_b.below hb F_b.lt; replace F_c := F_c.below hb F_c.lt; replace F_x := F_x.below hb F_x.lt; replace F_d := F_d.below hb F_d.lt; replace F_e := F_e.below hb F_e.lt; replace F_z := F_z.below hb F_z.lt; replace B := B.trans (hb.mono B.size); clear hb)
      | (go_at_call 22; have _t := k10; refine (K10.out _).mono ?_; clear _t k10; rintro e v10 ⟨rfl, hb⟩; replace F_f := F_f.below hb F_f.lt; replace F_a := F_a.below hb F_a.lt; replace F_b := F_b.below hb F_b.lt; replace F_c := F_c.below hb F_c.lt; replace F_x := F_x.below hb F_x.lt; replace F_d := F_d.below hb F_d.lt; replace F_e := F_e.below hb F_e.lt; replace F_z := F_z.below hb F_z.lt; replace B := B.trans (hb.mono B.size); clear hb)
      | (go_at_call 11; have _t := k11; refine (K11.out _).mono ?_; clear _t k11; rintro e v11 ⟨rfl, hb⟩; replace F_f := F_f.below hb F_f.lt; replace F_a := F_a.below hb F_a.lt; replace F_b := F_b.below hb F_b.lt; replace F_c := F_c.below hb F_c.lt; replace F_x := F_x.below hb F_x.lt; replace F_d := F_d.below hb F_d.lt; replace F_e := F_e.below hb F_e.lt; replace F_z := F_z.below hb F_z.lt; replace B := B.trans (hb.mono B.size); clear hb))
    all_goals go_wp2
    all_goals go_ret
    all_goals exact ⟨rfl, B⟩

end Go.Proofs.Ytbnnmlfammeobaa
