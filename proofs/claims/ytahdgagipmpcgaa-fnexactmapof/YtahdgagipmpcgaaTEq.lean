/- Two states that are the same are held alike by the laws. -/
import Derived.Test.YtahdgagipmpcgaaTBase
import Derived.Test.YtahdgagipmpcgaaALaw2
namespace Go.Proofs.Ytahdgagipmpcgaa
set_option maxRecDepth 100000
set_option linter.unusedVariables false
open Go.RowKit


set_option maxHeartbeats 2000000 in
theorem eqTally_calls (a : Ta) (w : World) :
    Calls Try.prog 143 #[.agg #[.string a.o, .int .i64 a.r, .int .i64 a.n], .agg #[.string a.o, .int .i64 a.r, .int .i64 a.n]] w fun e w' => e = .returned (.bool true) ∧ Below w.heap.size w w' := by
  obtain ⟨W, hW⟩ : ∃ W, W = (w.alloc (.cells #[.string a.o, .int .i64 a.r, .int .i64 a.n] 60)).alloc (.cells #[.string a.o, .int .i64 a.r, .int .i64 a.n] 60) := ⟨_, rfl⟩
  have HPA : Hid (Row W w.heap.size #[.string a.o, .int .i64 a.r, .int .i64 a.n] 60) := by rw [hW]; exact (row_new w _ _ rfl).alloc _
  have HPB : Hid (Row W (w.heap.size + 1) #[.string a.o, .int .i64 a.r, .int .i64 a.n] 60) := by rw [hW]; exact row_new _ _ _ (by simp)
  have HBW : Hid (Below w.heap.size w W) := by rw [hW]; exact ((Below.refl _ _).alloc (Nat.le_refl _) _).alloc (by simp) _
  have HW : Hid ((w.alloc (.cells #[.string a.o, .int .i64 a.r, .int .i64 a.n] 60)).alloc (.cells #[.string a.o, .int .i64 a.r, .int .i64 a.n] 60) = W) := hW.symm
  clear hW
  have e0 := beq_str a.o a.o rfl
  have e1 : (a.r != a.r) = false := by simp
  have e2 : (a.n != a.n) = false := by simp
  go_enter Try.func143, Try.ntmps143
  go_wp2
  go_ret
  exact ⟨rfl, by rw [HW.out]; exact HBW.out⟩

set_option maxHeartbeats 2000000 in
theorem eqTallyS_calls {va vb : Value} {l : List Ta} (hn : l.length ≤ 1048576) (w : World) (ha : TaAt w va l) (hb : TaAt w vb l) :
    Calls Try.prog 72 #[va, vb] w fun e w' => e = .returned (.bool true) ∧ Below w.heap.size w w' := by
  obtain ⟨aa, ca, rfl, ga⟩ := ha
  obtain ⟨ab, cb, rfl, gb⟩ := hb
  have HGA : Hid (TaG w aa l) := ga
  have HGB : Hid (TaG w ab l) := gb
  obtain ⟨n, hl⟩ : ∃ n, n = l.length := ⟨_, rfl⟩
  rw [← hl]
  rw [← hl] at hn
  have HL : Hid (n = l.length) := hl
  have hnn : ((n : Int) != n) = false := by simp
  clear ga gb hl
  go_enter Try.func72, Try.ntmps72
  go_wp2
  go_loopw [5] (fun z wr => ∃ k : Nat, k ≤ n ∧ z = .int .i64 k ∧ Below w.heap.size w wr) (fun z _ => n - (intOf z).toNat)
  case atStart => exact ⟨0, Nat.zero_le _, rfl, Below.refl _ _⟩
  case round =>
    obtain ⟨k, hk, rfl, hbel⟩ := hrel
    by_cases hlt : k < n
    · have hkl : k < l.length := by rw [← HL.out]; exact hlt
      obtain ⟨g1, f1, rfl, hg1, ho1⟩ := HGA.out (by omega)
      obtain ⟨g2, f2, rfl, hg2, ho2⟩ := HGB.out (by omega)
      have c1 := (ho1 k hkl).below hbel hg1
      have c2 := (ho2 k hkl).below hbel hg2
      generalize l[k] = x at *
      have hk1 : (k : Int) < n := by omega
      have hk0 : (0 : Int) ≤ k := by omega
      have hsz := hbel.size
      clear ho1 ho2 hkl
      unfold taC at c1 c2
      have HEQ : Hid (∀ wx, Calls Try.prog 143 #[.agg #[.string x.o, .int .i64 x.r, .int .i64 x.n], .agg #[.string x.o, .int .i64 x.r, .int .i64 x.n]] wx fun e w' => e = .returned (.bool true) ∧ Below wx.heap.size wx w') := fun wx => eqTally_calls x wx
      have cc : (wr.cell? ⟨g1, f1 + k * 3, none⟩ = some (.string x.o) ∧ wr.cell? ⟨g1, f1 + k * 3 + 1, none⟩ = some (.int .i64 x.r) ∧ wr.cell? ⟨g1, f1 + k * 3 + 2, none⟩ = some (.int .i64 x.n)) ∧ (wr.cell? ⟨g2, f2 + k * 3, none⟩ = some (.string x.o) ∧ wr.cell? ⟨g2, f2 + k * 3 + 1, none⟩ = some (.int .i64 x.r) ∧ wr.cell? ⟨g2, f2 + k * 3 + 2, none⟩ = some (.int .i64 x.n)) := ⟨c1, c2⟩
      have HKC : Hid (∀ wx, Below wr.heap.size wr wx → (wx.cell? ⟨g1, f1 + k * 3, none⟩ = some (.string x.o) ∧ wx.cell? ⟨g1, f1 + k * 3 + 1, none⟩ = some (.int .i64 x.r) ∧ wx.cell? ⟨g1, f1 + k * 3 + 2, none⟩ = some (.int .i64 x.n)) ∧ (wx.cell? ⟨g2, f2 + k * 3, none⟩ = some (.string x.o) ∧ wx.cell? ⟨g2, f2 + k * 3 + 1, none⟩ = some (.int .i64 x.r) ∧ wx.cell? ⟨g2, f2 + k * 3 + 2, none⟩ = some (.int .i64 x.n))) :=
        fun wx h => ⟨taC.below (a := x) c1 h (Nat.lt_of_lt_of_le hg1 hsz), taC.below (a := x) c2 h (Nat.lt_of_lt_of_le hg2 hsz)⟩
      have hWd : Below wr.heap.size wr wr.drew := (Below.refl _ _).drew
      obtain ⟨p0, p1, p2⟩ := c1
      obtain ⟨q0, q1, q2⟩ := c2
      go_wp2
      go_region_held3 (fun w' => (w'.cell? ⟨g1, f1 + k * 3, none⟩ = some (.string x.o) ∧ w'.cell? ⟨g1, f1 + k * 3 + 1, none⟩ = some (.int .i64 x.r) ∧ w'.cell? ⟨g1, f1 + k * 3 + 2, none⟩ = some (.int .i64 x.n)) ∧ (w'.cell? ⟨g2, f2 + k * 3, none⟩ = some (.string x.o) ∧ w'.cell? ⟨g2, f2 + k * 3 + 1, none⟩ = some (.int .i64 x.r) ∧ w'.cell? ⟨g2, f2 + k * 3 + 2, none⟩ = some (.int .i64 x.n))) (first | exact cc | exact HKC.out _ hW1 | go_keep) (first | (go_at_call 143; refine (HEQ.out _).mono ?_; rintro e w1 ⟨rfl, hb1⟩; have hW1 : Below wr.heap.size wr w1 := hWd.trans (hb1.mono hWd.size)))
      have hbq : Below w.heap.size w w1 := hbel.trans (hW1.mono hsz)
      clear p0 q0 p1 q1 p2 q2 cc hbel hb1 hW1 hWd
      go_wp2
      go_roundw
      case rel => exact ⟨k + 1, by omega, by go_num, hbq⟩
      case measure => simp [intOf]; omega
    · have hk1 : ¬ ((k : Int) < n) := by omega
      go_wp2
      go_ret
      exact ⟨rfl, hbel⟩

set_option maxHeartbeats 2000000 in
theorem eqLive_calls (a : Li) (w : World) :
    Calls Try.prog 144 #[.agg #[.bool a.m, .string a.o, .string a.y, .int .i64 a.v, .int .i64 a.r, .int .i64 a.s], .agg #[.bool a.m, .string a.o, .string a.y, .int .i64 a.v, .int .i64 a.r, .int .i64 a.s]] w fun e w' => e = .returned (.bool true) ∧ Below w.heap.size w w' := by
  obtain ⟨W, hW⟩ : ∃ W, W = (w.alloc (.cells #[.bool a.m, .string a.o, .string a.y, .int .i64 a.v, .int .i64 a.r, .int .i64 a.s] 62)).alloc (.cells #[.bool a.m, .string a.o, .string a.y, .int .i64 a.v, .int .i64 a.r, .int .i64 a.s] 62) := ⟨_, rfl⟩
  have HPA : Hid (Row W w.heap.size #[.bool a.m, .string a.o, .string a.y, .int .i64 a.v, .int .i64 a.r, .int .i64 a.s] 62) := by rw [hW]; exact (row_new w _ _ rfl).alloc _
  have HPB : Hid (Row W (w.heap.size + 1) #[.bool a.m, .string a.o, .string a.y, .int .i64 a.v, .int .i64 a.r, .int .i64 a.s] 62) := by rw [hW]; exact row_new _ _ _ (by simp)
  have HBW : Hid (Below w.heap.size w W) := by rw [hW]; exact ((Below.refl _ _).alloc (Nat.le_refl _) _).alloc (by simp) _
  have HW : Hid ((w.alloc (.cells #[.bool a.m, .string a.o, .string a.y, .int .i64 a.v, .int .i64 a.r, .int .i64 a.s] 62)).alloc (.cells #[.bool a.m, .string a.o, .string a.y, .int .i64 a.v, .int .i64 a.r, .int .i64 a.s] 62) = W) := hW.symm
  clear hW
  have e0 : (a.m != a.m) = false := by simp
  have e1 := beq_str a.o a.o rfl
  have e2 := beq_str a.y a.y rfl
  have e3 : (a.v != a.v) = false := by simp
  have e4 : (a.r != a.r) = false := by simp
  have e5 : (a.s != a.s) = false := by simp
  go_enter Try.func144, Try.ntmps144
  go_wp2_with fail
  rw [HW.out]
  refine (eqDot_calls _ _ _).mono ?_
  rintro e w1 ⟨rfl, hb⟩
  replace HPA : Hid (Row w1 w.heap.size #[.bool a.m, .string a.o, .string a.y, .int .i64 a.v, .int .i64 a.r, .int .i64 a.s] 62) := HPA.out.next hb
  replace HPB : Hid (Row w1 (w.heap.size + 1) #[.bool a.m, .string a.o, .string a.y, .int .i64 a.v, .int .i64 a.r, .int .i64 a.s] 62) := HPB.out.next hb
  replace HBW : Hid (Below w.heap.size w w1) := HBW.out.trans (hb.mono HBW.out.size)
  clear hb HW
  have a00 := HPA.out.cell 0 rfl
  have b00 := HPB.out.cell 0 rfl
  have a01 := HPA.out.cell 1 rfl
  have b01 := HPB.out.cell 1 rfl
  have a02 := HPA.out.cell 2 rfl
  have b02 := HPB.out.cell 2 rfl
  have a03 := HPA.out.cell 3 rfl
  have b03 := HPB.out.cell 3 rfl
  have a04 := HPA.out.cell 4 rfl
  have b04 := HPB.out.cell 4 rfl
  have a05 := HPA.out.cell 5 rfl
  have b05 := HPB.out.cell 5 rfl
  go_wp2
  go_ret
  exact ⟨rfl, HBW.out⟩

set_option maxHeartbeats 2000000 in
theorem eqLiveS_calls {va vb : Value} {l : List Li} (hn : l.length ≤ 1048576) (w : World) (ha : LiAt w va l) (hb : LiAt w vb l) :
    Calls Try.prog 73 #[va, vb] w fun e w' => e = .returned (.bool true) ∧ Below w.heap.size w w' := by
  obtain ⟨aa, ca, rfl, ga⟩ := ha
  obtain ⟨ab, cb, rfl, gb⟩ := hb
  have HGA : Hid (LiG w aa l) := ga
  have HGB : Hid (LiG w ab l) := gb
  obtain ⟨n, hl⟩ : ∃ n, n = l.length := ⟨_, rfl⟩
  rw [← hl]
  rw [← hl] at hn
  have HL : Hid (n = l.length) := hl
  have hnn : ((n : Int) != n) = false := by simp
  clear ga gb hl
  go_enter Try.func73, Try.ntmps73
  go_wp2
  go_loopw [5] (fun z wr => ∃ k : Nat, k ≤ n ∧ z = .int .i64 k ∧ Below w.heap.size w wr) (fun z _ => n - (intOf z).toNat)
  case atStart => exact ⟨0, Nat.zero_le _, rfl, Below.refl _ _⟩
  case round =>
    obtain ⟨k, hk, rfl, hbel⟩ := hrel
    by_cases hlt : k < n
    · have hkl : k < l.length := by rw [← HL.out]; exact hlt
      obtain ⟨g1, f1, rfl, hg1, ho1⟩ := HGA.out (by omega)
      obtain ⟨g2, f2, rfl, hg2, ho2⟩ := HGB.out (by omega)
      have c1 := (ho1 k hkl).below hbel hg1
      have c2 := (ho2 k hkl).below hbel hg2
      generalize l[k] = x at *
      have hk1 : (k : Int) < n := by omega
      have hk0 : (0 : Int) ≤ k := by omega
      have hsz := hbel.size
      clear ho1 ho2 hkl
      unfold liC at c1 c2
      have HEQ : Hid (∀ wx, Calls Try.prog 144 #[.agg #[.bool x.m, .string x.o, .string x.y, .int .i64 x.v, .int .i64 x.r, .int .i64 x.s], .agg #[.bool x.m, .string x.o, .string x.y, .int .i64 x.v, .int .i64 x.r, .int .i64 x.s]] wx fun e w' => e = .returned (.bool true) ∧ Below wx.heap.size wx w') := fun wx => eqLive_calls x wx
      have cc : (wr.cell? ⟨g1, f1 + k * 6, none⟩ = some (.bool x.m) ∧ wr.cell? ⟨g1, f1 + k * 6 + 1, none⟩ = some (.string x.o) ∧ wr.cell? ⟨g1, f1 + k * 6 + 2, none⟩ = some (.string x.y) ∧ wr.cell? ⟨g1, f1 + k * 6 + 3, none⟩ = some (.int .i64 x.v) ∧ wr.cell? ⟨g1, f1 + k * 6 + 4, none⟩ = some (.int .i64 x.r) ∧ wr.cell? ⟨g1, f1 + k * 6 + 5, none⟩ = some (.int .i64 x.s)) ∧ (wr.cell? ⟨g2, f2 + k * 6, none⟩ = some (.bool x.m) ∧ wr.cell? ⟨g2, f2 + k * 6 + 1, none⟩ = some (.string x.o) ∧ wr.cell? ⟨g2, f2 + k * 6 + 2, none⟩ = some (.string x.y) ∧ wr.cell? ⟨g2, f2 + k * 6 + 3, none⟩ = some (.int .i64 x.v) ∧ wr.cell? ⟨g2, f2 + k * 6 + 4, none⟩ = some (.int .i64 x.r) ∧ wr.cell? ⟨g2, f2 + k * 6 + 5, none⟩ = some (.int .i64 x.s)) := ⟨c1, c2⟩
      have HKC : Hid (∀ wx, Below wr.heap.size wr wx → (wx.cell? ⟨g1, f1 + k * 6, none⟩ = some (.bool x.m) ∧ wx.cell? ⟨g1, f1 + k * 6 + 1, none⟩ = some (.string x.o) ∧ wx.cell? ⟨g1, f1 + k * 6 + 2, none⟩ = some (.string x.y) ∧ wx.cell? ⟨g1, f1 + k * 6 + 3, none⟩ = some (.int .i64 x.v) ∧ wx.cell? ⟨g1, f1 + k * 6 + 4, none⟩ = some (.int .i64 x.r) ∧ wx.cell? ⟨g1, f1 + k * 6 + 5, none⟩ = some (.int .i64 x.s)) ∧ (wx.cell? ⟨g2, f2 + k * 6, none⟩ = some (.bool x.m) ∧ wx.cell? ⟨g2, f2 + k * 6 + 1, none⟩ = some (.string x.o) ∧ wx.cell? ⟨g2, f2 + k * 6 + 2, none⟩ = some (.string x.y) ∧ wx.cell? ⟨g2, f2 + k * 6 + 3, none⟩ = some (.int .i64 x.v) ∧ wx.cell? ⟨g2, f2 + k * 6 + 4, none⟩ = some (.int .i64 x.r) ∧ wx.cell? ⟨g2, f2 + k * 6 + 5, none⟩ = some (.int .i64 x.s))) :=
        fun wx h => ⟨liC.below (a := x) c1 h (Nat.lt_of_lt_of_le hg1 hsz), liC.below (a := x) c2 h (Nat.lt_of_lt_of_le hg2 hsz)⟩
      have hWd : Below wr.heap.size wr wr.drew := (Below.refl _ _).drew
      obtain ⟨p0, p1, p2, p3, p4, p5⟩ := c1
      obtain ⟨q0, q1, q2, q3, q4, q5⟩ := c2
      go_wp2
      go_region_held3 (fun w' => (w'.cell? ⟨g1, f1 + k * 6, none⟩ = some (.bool x.m) ∧ w'.cell? ⟨g1, f1 + k * 6 + 1, none⟩ = some (.string x.o) ∧ w'.cell? ⟨g1, f1 + k * 6 + 2, none⟩ = some (.string x.y) ∧ w'.cell? ⟨g1, f1 + k * 6 + 3, none⟩ = some (.int .i64 x.v) ∧ w'.cell? ⟨g1, f1 + k * 6 + 4, none⟩ = some (.int .i64 x.r) ∧ w'.cell? ⟨g1, f1 + k * 6 + 5, none⟩ = some (.int .i64 x.s)) ∧ (w'.cell? ⟨g2, f2 + k * 6, none⟩ = some (.bool x.m) ∧ w'.cell? ⟨g2, f2 + k * 6 + 1, none⟩ = some (.string x.o) ∧ w'.cell? ⟨g2, f2 + k * 6 + 2, none⟩ = some (.string x.y) ∧ w'.cell? ⟨g2, f2 + k * 6 + 3, none⟩ = some (.int .i64 x.v) ∧ w'.cell? ⟨g2, f2 + k * 6 + 4, none⟩ = some (.int .i64 x.r) ∧ w'.cell? ⟨g2, f2 + k * 6 + 5, none⟩ = some (.int .i64 x.s))) (first | exact cc | exact HKC.out _ hW1 | go_keep) (first | (go_at_call 144; refine (HEQ.out _).mono ?_; rintro e w1 ⟨rfl, hb1⟩; have hW1 : Below wr.heap.size wr w1 := hWd.trans (hb1.mono hWd.size)))
      have hbq : Below w.heap.size w w1 := hbel.trans (hW1.mono hsz)
      clear p0 q0 p1 q1 p2 q2 p3 q3 p4 q4 p5 q5 cc hbel hb1 hW1 hWd
      go_wp2
      go_roundw
      case rel => exact ⟨k + 1, by omega, by go_num, hbq⟩
      case measure => simp [intOf]; omega
    · have hk1 : ¬ ((k : Int) < n) := by omega
      go_wp2
      go_ret
      exact ⟨rfl, hbel⟩

set_option maxHeartbeats 2000000 in
theorem eqCell_calls (a : Ce) (w : World) :
    Calls Try.prog 145 #[.agg #[.string a.o, .int .i64 a.r, .int .i64 a.s, .int .i64 a.t, .int .i64 a.x, .int .i64 a.z, .int .i64 a.v, .bool a.g], .agg #[.string a.o, .int .i64 a.r, .int .i64 a.s, .int .i64 a.t, .int .i64 a.x, .int .i64 a.z, .int .i64 a.v, .bool a.g]] w fun e w' => e = .returned (.bool true) ∧ Below w.heap.size w w' := by
  obtain ⟨W, hW⟩ : ∃ W, W = (w.alloc (.cells #[.string a.o, .int .i64 a.r, .int .i64 a.s, .int .i64 a.t, .int .i64 a.x, .int .i64 a.z, .int .i64 a.v, .bool a.g] 57)).alloc (.cells #[.string a.o, .int .i64 a.r, .int .i64 a.s, .int .i64 a.t, .int .i64 a.x, .int .i64 a.z, .int .i64 a.v, .bool a.g] 57) := ⟨_, rfl⟩
  have HPA : Hid (Row W w.heap.size #[.string a.o, .int .i64 a.r, .int .i64 a.s, .int .i64 a.t, .int .i64 a.x, .int .i64 a.z, .int .i64 a.v, .bool a.g] 57) := by rw [hW]; exact (row_new w _ _ rfl).alloc _
  have HPB : Hid (Row W (w.heap.size + 1) #[.string a.o, .int .i64 a.r, .int .i64 a.s, .int .i64 a.t, .int .i64 a.x, .int .i64 a.z, .int .i64 a.v, .bool a.g] 57) := by rw [hW]; exact row_new _ _ _ (by simp)
  have HBW : Hid (Below w.heap.size w W) := by rw [hW]; exact ((Below.refl _ _).alloc (Nat.le_refl _) _).alloc (by simp) _
  have HW : Hid ((w.alloc (.cells #[.string a.o, .int .i64 a.r, .int .i64 a.s, .int .i64 a.t, .int .i64 a.x, .int .i64 a.z, .int .i64 a.v, .bool a.g] 57)).alloc (.cells #[.string a.o, .int .i64 a.r, .int .i64 a.s, .int .i64 a.t, .int .i64 a.x, .int .i64 a.z, .int .i64 a.v, .bool a.g] 57) = W) := hW.symm
  clear hW
  have e0 := beq_str a.o a.o rfl
  have e1 : (a.r != a.r) = false := by simp
  have e2 : (a.s != a.s) = false := by simp
  have e3 : (a.t != a.t) = false := by simp
  have e4 : (a.x != a.x) = false := by simp
  have e5 : (a.z != a.z) = false := by simp
  have e6 : (a.v != a.v) = false := by simp
  have e7 : (a.g != a.g) = false := by simp
  go_enter Try.func145, Try.ntmps145
  go_wp2_with fail
  rw [HW.out]
  refine (eqDot_calls _ _ _).mono ?_
  rintro e w1 ⟨rfl, hb⟩
  replace HPA : Hid (Row w1 w.heap.size #[.string a.o, .int .i64 a.r, .int .i64 a.s, .int .i64 a.t, .int .i64 a.x, .int .i64 a.z, .int .i64 a.v, .bool a.g] 57) := HPA.out.next hb
  replace HPB : Hid (Row w1 (w.heap.size + 1) #[.string a.o, .int .i64 a.r, .int .i64 a.s, .int .i64 a.t, .int .i64 a.x, .int .i64 a.z, .int .i64 a.v, .bool a.g] 57) := HPB.out.next hb
  replace HBW : Hid (Below w.heap.size w w1) := HBW.out.trans (hb.mono HBW.out.size)
  clear hb HW
  have a00 := HPA.out.cell 0 rfl
  have b00 := HPB.out.cell 0 rfl
  have a01 := HPA.out.cell 1 rfl
  have b01 := HPB.out.cell 1 rfl
  have a02 := HPA.out.cell 2 rfl
  have b02 := HPB.out.cell 2 rfl
  have a03 := HPA.out.cell 3 rfl
  have b03 := HPB.out.cell 3 rfl
  have a04 := HPA.out.cell 4 rfl
  have b04 := HPB.out.cell 4 rfl
  have a05 := HPA.out.cell 5 rfl
  have b05 := HPB.out.cell 5 rfl
  have a06 := HPA.out.cell 6 rfl
  have b06 := HPB.out.cell 6 rfl
  have a07 := HPA.out.cell 7 rfl
  have b07 := HPB.out.cell 7 rfl
  go_wp2_with fail
  refine (eqDot_calls _ _ _).mono ?_
  rintro e w2 ⟨rfl, hb⟩
  replace HPA : Hid (Row w2 w.heap.size #[.string a.o, .int .i64 a.r, .int .i64 a.s, .int .i64 a.t, .int .i64 a.x, .int .i64 a.z, .int .i64 a.v, .bool a.g] 57) := HPA.out.next hb
  replace HPB : Hid (Row w2 (w.heap.size + 1) #[.string a.o, .int .i64 a.r, .int .i64 a.s, .int .i64 a.t, .int .i64 a.x, .int .i64 a.z, .int .i64 a.v, .bool a.g] 57) := HPB.out.next hb
  replace HBW : Hid (Below w.heap.size w w2) := HBW.out.trans (hb.mono HBW.out.size)
  clear hb
  have a10 := HPA.out.cell 0 rfl
  have b10 := HPB.out.cell 0 rfl
  have a11 := HPA.out.cell 1 rfl
  have b11 := HPB.out.cell 1 rfl
  have a12 := HPA.out.cell 2 rfl
  have b12 := HPB.out.cell 2 rfl
  have a13 := HPA.out.cell 3 rfl
  have b13 := HPB.out.cell 3 rfl
  have a14 := HPA.out.cell 4 rfl
  have b14 := HPB.out.cell 4 rfl
  have a15 := HPA.out.cell 5 rfl
  have b15 := HPB.out.cell 5 rfl
  have a16 := HPA.out.cell 6 rfl
  have b16 := HPB.out.cell 6 rfl
  have a17 := HPA.out.cell 7 rfl
  have b17 := HPB.out.cell 7 rfl
  go_wp2
  go_ret
  exact ⟨rfl, HBW.out⟩

set_option maxHeartbeats 2000000 in
theorem eqCellS_calls {va vb : Value} {l : List Ce} (hn : l.length ≤ 1048576) (w : World) (ha : CeAt w va l) (hb : CeAt w vb l) :
    Calls Try.prog 74 #[va, vb] w fun e w' => e = .returned (.bool true) ∧ Below w.heap.size w w' := by
  obtain ⟨aa, ca, rfl, ga⟩ := ha
  obtain ⟨ab, cb, rfl, gb⟩ := hb
  have HGA : Hid (CeG w aa l) := ga
  have HGB : Hid (CeG w ab l) := gb
  obtain ⟨n, hl⟩ : ∃ n, n = l.length := ⟨_, rfl⟩
  rw [← hl]
  rw [← hl] at hn
  have HL : Hid (n = l.length) := hl
  have hnn : ((n : Int) != n) = false := by simp
  clear ga gb hl
  go_enter Try.func74, Try.ntmps74
  go_wp2
  go_loopw [5] (fun z wr => ∃ k : Nat, k ≤ n ∧ z = .int .i64 k ∧ Below w.heap.size w wr) (fun z _ => n - (intOf z).toNat)
  case atStart => exact ⟨0, Nat.zero_le _, rfl, Below.refl _ _⟩
  case round =>
    obtain ⟨k, hk, rfl, hbel⟩ := hrel
    by_cases hlt : k < n
    · have hkl : k < l.length := by rw [← HL.out]; exact hlt
      obtain ⟨g1, f1, rfl, hg1, ho1⟩ := HGA.out (by omega)
      obtain ⟨g2, f2, rfl, hg2, ho2⟩ := HGB.out (by omega)
      have c1 := (ho1 k hkl).below hbel hg1
      have c2 := (ho2 k hkl).below hbel hg2
      generalize l[k] = x at *
      have hk1 : (k : Int) < n := by omega
      have hk0 : (0 : Int) ≤ k := by omega
      have hsz := hbel.size
      clear ho1 ho2 hkl
      unfold ceC at c1 c2
      have HEQ : Hid (∀ wx, Calls Try.prog 145 #[.agg #[.string x.o, .int .i64 x.r, .int .i64 x.s, .int .i64 x.t, .int .i64 x.x, .int .i64 x.z, .int .i64 x.v, .bool x.g], .agg #[.string x.o, .int .i64 x.r, .int .i64 x.s, .int .i64 x.t, .int .i64 x.x, .int .i64 x.z, .int .i64 x.v, .bool x.g]] wx fun e w' => e = .returned (.bool true) ∧ Below wx.heap.size wx w') := fun wx => eqCell_calls x wx
      have cc : (wr.cell? ⟨g1, f1 + k * 8, none⟩ = some (.string x.o) ∧ wr.cell? ⟨g1, f1 + k * 8 + 1, none⟩ = some (.int .i64 x.r) ∧ wr.cell? ⟨g1, f1 + k * 8 + 2, none⟩ = some (.int .i64 x.s) ∧ wr.cell? ⟨g1, f1 + k * 8 + 3, none⟩ = some (.int .i64 x.t) ∧ wr.cell? ⟨g1, f1 + k * 8 + 4, none⟩ = some (.int .i64 x.x) ∧ wr.cell? ⟨g1, f1 + k * 8 + 5, none⟩ = some (.int .i64 x.z) ∧ wr.cell? ⟨g1, f1 + k * 8 + 6, none⟩ = some (.int .i64 x.v) ∧ wr.cell? ⟨g1, f1 + k * 8 + 7, none⟩ = some (.bool x.g)) ∧ (wr.cell? ⟨g2, f2 + k * 8, none⟩ = some (.string x.o) ∧ wr.cell? ⟨g2, f2 + k * 8 + 1, none⟩ = some (.int .i64 x.r) ∧ wr.cell? ⟨g2, f2 + k * 8 + 2, none⟩ = some (.int .i64 x.s) ∧ wr.cell? ⟨g2, f2 + k * 8 + 3, none⟩ = some (.int .i64 x.t) ∧ wr.cell? ⟨g2, f2 + k * 8 + 4, none⟩ = some (.int .i64 x.x) ∧ wr.cell? ⟨g2, f2 + k * 8 + 5, none⟩ = some (.int .i64 x.z) ∧ wr.cell? ⟨g2, f2 + k * 8 + 6, none⟩ = some (.int .i64 x.v) ∧ wr.cell? ⟨g2, f2 + k * 8 + 7, none⟩ = some (.bool x.g)) := ⟨c1, c2⟩
      have HKC : Hid (∀ wx, Below wr.heap.size wr wx → (wx.cell? ⟨g1, f1 + k * 8, none⟩ = some (.string x.o) ∧ wx.cell? ⟨g1, f1 + k * 8 + 1, none⟩ = some (.int .i64 x.r) ∧ wx.cell? ⟨g1, f1 + k * 8 + 2, none⟩ = some (.int .i64 x.s) ∧ wx.cell? ⟨g1, f1 + k * 8 + 3, none⟩ = some (.int .i64 x.t) ∧ wx.cell? ⟨g1, f1 + k * 8 + 4, none⟩ = some (.int .i64 x.x) ∧ wx.cell? ⟨g1, f1 + k * 8 + 5, none⟩ = some (.int .i64 x.z) ∧ wx.cell? ⟨g1, f1 + k * 8 + 6, none⟩ = some (.int .i64 x.v) ∧ wx.cell? ⟨g1, f1 + k * 8 + 7, none⟩ = some (.bool x.g)) ∧ (wx.cell? ⟨g2, f2 + k * 8, none⟩ = some (.string x.o) ∧ wx.cell? ⟨g2, f2 + k * 8 + 1, none⟩ = some (.int .i64 x.r) ∧ wx.cell? ⟨g2, f2 + k * 8 + 2, none⟩ = some (.int .i64 x.s) ∧ wx.cell? ⟨g2, f2 + k * 8 + 3, none⟩ = some (.int .i64 x.t) ∧ wx.cell? ⟨g2, f2 + k * 8 + 4, none⟩ = some (.int .i64 x.x) ∧ wx.cell? ⟨g2, f2 + k * 8 + 5, none⟩ = some (.int .i64 x.z) ∧ wx.cell? ⟨g2, f2 + k * 8 + 6, none⟩ = some (.int .i64 x.v) ∧ wx.cell? ⟨g2, f2 + k * 8 + 7, none⟩ = some (.bool x.g))) :=
        fun wx h => ⟨ceC.below (a := x) c1 h (Nat.lt_of_lt_of_le hg1 hsz), ceC.below (a := x) c2 h (Nat.lt_of_lt_of_le hg2 hsz)⟩
      have hWd : Below wr.heap.size wr wr.drew := (Below.refl _ _).drew
      obtain ⟨p0, p1, p2, p3, p4, p5, p6, p7⟩ := c1
      obtain ⟨q0, q1, q2, q3, q4, q5, q6, q7⟩ := c2
      go_wp2
      go_region_held3 (fun w' => (w'.cell? ⟨g1, f1 + k * 8, none⟩ = some (.string x.o) ∧ w'.cell? ⟨g1, f1 + k * 8 + 1, none⟩ = some (.int .i64 x.r) ∧ w'.cell? ⟨g1, f1 + k * 8 + 2, none⟩ = some (.int .i64 x.s) ∧ w'.cell? ⟨g1, f1 + k * 8 + 3, none⟩ = some (.int .i64 x.t) ∧ w'.cell? ⟨g1, f1 + k * 8 + 4, none⟩ = some (.int .i64 x.x) ∧ w'.cell? ⟨g1, f1 + k * 8 + 5, none⟩ = some (.int .i64 x.z) ∧ w'.cell? ⟨g1, f1 + k * 8 + 6, none⟩ = some (.int .i64 x.v) ∧ w'.cell? ⟨g1, f1 + k * 8 + 7, none⟩ = some (.bool x.g)) ∧ (w'.cell? ⟨g2, f2 + k * 8, none⟩ = some (.string x.o) ∧ w'.cell? ⟨g2, f2 + k * 8 + 1, none⟩ = some (.int .i64 x.r) ∧ w'.cell? ⟨g2, f2 + k * 8 + 2, none⟩ = some (.int .i64 x.s) ∧ w'.cell? ⟨g2, f2 + k * 8 + 3, none⟩ = some (.int .i64 x.t) ∧ w'.cell? ⟨g2, f2 + k * 8 + 4, none⟩ = some (.int .i64 x.x) ∧ w'.cell? ⟨g2, f2 + k * 8 + 5, none⟩ = some (.int .i64 x.z) ∧ w'.cell? ⟨g2, f2 + k * 8 + 6, none⟩ = some (.int .i64 x.v) ∧ w'.cell? ⟨g2, f2 + k * 8 + 7, none⟩ = some (.bool x.g))) (first | exact cc | exact HKC.out _ hW1 | go_keep) (first | (go_at_call 145; refine (HEQ.out _).mono ?_; rintro e w1 ⟨rfl, hb1⟩; have hW1 : Below wr.heap.size wr w1 := hWd.trans (hb1.mono hWd.size)))
      have hbq : Below w.heap.size w w1 := hbel.trans (hW1.mono hsz)
      clear p0 q0 p1 q1 p2 q2 p3 q3 p4 q4 p5 q5 p6 q6 p7 q7 cc hbel hb1 hW1 hWd
      go_wp2
      go_roundw
      case rel => exact ⟨k + 1, by omega, by go_num, hbq⟩
      case measure => simp [intOf]; omega
    · have hk1 : ¬ ((k : Int) < n) := by omega
      go_wp2
      go_ret
      exact ⟨rfl, hbel⟩

end Go.Proofs.Ytahdgagipmpcgaa
