/- What is chosen of what two lists have in one place. -/
import Derived.Deep.RegionWith
import Derived.Test.YtdknoflkingodaaGreatQ37
set_option maxHeartbeats 16000000
namespace Go.Proofs.YtdknoflkingodaaGreat
open Value (int)
open IntKind (i64)
set_option maxRecDepth 100000
set_option linter.unusedVariables false
open Go.RowKit
attribute [-simp] Tryz.isAgg212 Tryz.sizeOf212 Tryz.isAgg217 Tryz.sizeOf217 Tryz.isAgg222 Tryz.sizeOf222 Tryz.isAgg35 Tryz.sizeOf35
def Uw {α : Type} (cs : α → Array Value) (e : Ending) (c : Option α) : Prop := ∃ (z : α) (b : Bool), e = .returned (.tuple #[.agg (cs z), .bool b]) ∧ c = if b then some z else none
def Zj (k m : List Int) (q : Bo Ta) : Option Ta := if k.getD (JI q).r.toNat 0 < m.getD (JI q).r.toNat 0 then (if q.ib then some q.b else none) else (if q.ia then some q.a else none)
def KT (c : List Int) (q : Bo Li) : Option Li := if decide (q.a = q.b) || !Jd c (JI q).r (JI q).s then some (JI q) else none
def Ke (q : Bo Ce) : Option Ce := some { JI q with g := q.a.g || q.b.g }
def Je2 (x : Ta) : Array Value := #[.string x.o, int i64 x.r, int i64 x.n]
def JeQ (x : Li) : Array Value := #[.bool x.m, .string x.o, .string x.y, int i64 x.v, int i64 x.r, int i64 x.s]
def JeL (x : Ce) : Array Value := #[.string x.o, int i64 x.r, int i64 x.s, int i64 x.t, int i64 x.x, int i64 x.z, int i64 x.v, .bool x.g]
theorem Jbp (x y : Ta) (ia ib : Bool) (ka kb : List Int) (ua ub : Value) (pa pb : Nat) (w : World) (ha : IntsAt w ua ka) (hb : IntsAt w ub kb) (la : ka.length = 3) (lb : kb.length = 3)
  (qa : pa < w.heap.size ∧ w.cell? ⟨pa, 0, none⟩ = some ua) (qb : pb < w.heap.size ∧ w.cell? ⟨pb, 0, none⟩ = some ub) (hr : 0 ≤ (JI ⟨x, y, ia, ib⟩).r ∧ (JI ⟨x, y, ia, ib⟩).r < 3) :
  Calls Tryz.prog 180 #[.agg #[.string x.o, int i64 x.r, int i64 x.n, .string y.o, int i64 y.r, int i64 y.n, .bool ia, .bool ib], .pointer (some ⟨pb, 0, none⟩), .pointer (some ⟨pa, 0, none⟩)] w fun e w' => Uw Je2 e (Zj ka kb ⟨x, y, ia, ib⟩) ∧ Below w.heap.size w w' := by
 obtain ⟨aa, ca, rfl, hga⟩ := ha
 obtain ⟨ab, cb, rfl, hgb⟩ := hb
 obtain ⟨ga, rfl, hga0, hga1⟩ := hga (by omega)
 obtain ⟨gb, rfl, hgb0, hgb1⟩ := hgb (by omega)
 obtain ⟨zz, hzz⟩ : ∃ z, z = JI ⟨x, y, ia, ib⟩ := ⟨_, rfl⟩
 have hz2 : zz = if ia then x else y := hzz
 rw [← hzz] at hr
 obtain ⟨zo, zr, zn⟩ := zz
 obtain ⟨j, hj⟩ : ∃ j : Nat, zr = j := ⟨zr.toNat, by have := hr.1; simp only at this; omega⟩
 subst hj
 have hj3 : j < 3 := by have := hr.2; simp only at this; omega
 have hna : j < ka.length := by omega
 have hnb : j < kb.length := by omega
 obtain ⟨A, hA⟩ : ∃ A, A = ka[j] := ⟨_, rfl⟩
 obtain ⟨B, hB⟩ : ∃ B, B = kb[j] := ⟨_, rfl⟩
 have HP : Hid (Zj ka kb ⟨x, y, ia, ib⟩ = if A < B then (if ib then some y else none) else (if ia then some x else none)) := by
  show Zj ka kb ⟨x, y, ia, ib⟩ = _
  unfold Zj
  rw [← hzz]
  simp only [Int.toNat_natCast, List.getD_eq_getElem?_getD, List.getElem?_eq_getElem hna, List.getElem?_eq_getElem hnb, Option.getD_some, ← hA, ← hB]
 obtain ⟨W, hW⟩ : ∃ W, W = (w.alloc (.cells #[.string x.o, int i64 x.r, int i64 x.n, .string y.o, int i64 y.r, int i64 y.n, .bool ia, .bool ib] 212)).alloc (.cells #[.string ⟨#[]⟩, int i64 0, int i64 0] 38) := ⟨_, rfl⟩
 have HL0 : Hid (Row W w.heap.size #[.string x.o, int i64 x.r, int i64 x.n, .string y.o, int i64 y.r, int i64 y.n, .bool ia, .bool ib] 212) := by rw [hW]; exact (Jb w _ _ rfl).alloc _
 have HZ0 : Hid (Row W (w.heap.size + 1) #[.string ⟨#[]⟩, int i64 0, int i64 0] 38) := by rw [hW]; exact Jb _ _ _ (by simp)
 have HB0 : Hid (Below w.heap.size w W) := by rw [hW]; exact ((Below.refl _ _).alloc (Nat.le_refl _) _).alloc (by simp) _
 have HG : Hid (∀ wx, Below w.heap.size w wx → (wx.cell? ⟨pa, 0, none⟩ = some (.slice (some ⟨ga, 0, none⟩) 3 ca) ∧ wx.cell? ⟨ga, j, none⟩ = some (int i64 A)) ∧ (wx.cell? ⟨pb, 0, none⟩ = some (.slice (some ⟨gb, 0, none⟩) 3 cb) ∧ wx.cell? ⟨gb, j, none⟩ = some (int i64 B))) := fun wx h =>
  ⟨⟨by rw [h.cell (p := ⟨pa, 0, none⟩) qa.1, ← la]; exact qa.2, by rw [h.cell (p := ⟨ga, j, none⟩) hga0, hA]; exact hga1 j hna⟩, by rw [h.cell (p := ⟨pb, 0, none⟩) qb.1, ← lb]; exact qb.2, by rw [h.cell (p := ⟨gb, j, none⟩) hgb0, hB]; exact hgb1 j hnb⟩
 have HF : Hid (Calls Tryz.prog 181 #[.agg #[.string x.o, int i64 x.r, int i64 x.n, .string y.o, int i64 y.r, int i64 y.n, .bool ia, .bool ib]] W fun e w' => e = .returned (.agg #[.string zo, int i64 j, int i64 zn]) ∧ Below W.heap.size W w') := by
  refine (Jbl x y ia ib W).mono ?_
  rintro e w' ⟨rfl, h⟩
  rw [← hz2]
  exact ⟨rfl, h⟩
 have HW : Hid ((w.alloc (.cells #[.string x.o, int i64 x.r, int i64 x.n, .string y.o, int i64 y.r, int i64 y.n, .bool ia, .bool ib] 212)).alloc (.cells #[.string ⟨#[]⟩, int i64 0, int i64 0] 38) = W) := hW.symm
 obtain ⟨c, hc⟩ : ∃ c, c = Zj ka kb ⟨x, y, ia, ib⟩ := ⟨_, rfl⟩
 rw [← hc] at HP ⊢
 clear hc hW hA hB hzz hz2 hr hga1 hgb1 hga0 hgb0 hga hgb qa qb hna hnb la lb
 have HLD : Hid ((loadCellsFrom ⟨w.heap.size, 0, none⟩ 0 8 #[]).run Tryz.prog W = .ok #[.string x.o, int i64 x.r, int i64 x.n, .string y.o, int i64 y.r, int i64 y.n, .bool ia, .bool ib] W) := Jq HL0.out rfl
 go_enter Tryz.func180, Tryz.ntmps180
 go_wp2_with fail
 rw [HW.out]
 simp only [Tryz.isAgg212, Tryz.sizeOf212, Result.andThen_ok, if_true, HLD.out]
 clear HLD
 go_wp2_with fail
 refine HF.out.mono ?_
 rintro e w1 ⟨rfl, hb1⟩
 have HL1 := Ja (HL0.out.next hb1)
 have HZ1 := Ja (HZ0.out.next hb1)
 have HB1 : Hid (Below w.heap.size w w1) := HB0.out.trans (hb1.mono HB0.out.size)
 have hg1 := HG.out w1 HB1.out
 clear hb1 HL0 HZ0 HB0 HF HW
 obtain ⟨⟨a1, a2⟩, b1, b2⟩ := hg1
 have hfd : ∀ wx, (Instr.field 38 (.agg #[.string zo, int i64 j, int i64 zn]) 1).run Tryz.prog wx = .ok (int i64 j) wx := fun _ => by kernel_rfl
 go_wp2
 clear hfd
 go_region
 clear a1 a2 b1 b2 HG
 have HZ2 : Hid (Row w1.drew (w.heap.size + 1) #[.string ⟨#[]⟩, int i64 0, int i64 0] 38) := HZ1.out.drew
 have HL2 : Hid (Row w1.drew w.heap.size #[.string x.o, int i64 x.r, int i64 x.n, .string y.o, int i64 y.r, int i64 y.n, .bool ia, .bool ib] 212) := HL1.out.drew
 have HB2 : Hid (Below w.heap.size w w1.drew) := HB1.out.drew
 clear HZ1 HL1 HB1
 generalize w1.drew = w2 at *
 obtain ⟨r0, r1, r2, r3, r4, r5, r6, r7⟩ := ZF HL2.out
 have z0 : w2.cell? ⟨w.heap.size + 1, 0, none⟩ = some (.string ⟨#[]⟩) := HZ2.out.cell 0 rfl
 have f0 := HZ2.out.free 0
 have z1 : w2.cell? ⟨w.heap.size + 1, 1, none⟩ = some (int i64 0) := HZ2.out.cell 1 rfl
 have f1 := HZ2.out.free 1
 have z2 : w2.cell? ⟨w.heap.size + 1, 2, none⟩ = some (int i64 0) := HZ2.out.cell 2 rfl
 have f2 := HZ2.out.free 2
 have n1 : w.heap.size ≠ w.heap.size + 1 := by omega
 by_cases hAB : A < B
 ·have HE : Hid (c = if ib then some y else none) := by show c = _; rw [HP.out, if_pos hAB]
  clear HP
  go_wp2
  go_region
  go_wp2
  exact bodyPost_ret (JdN rfl rfl rfl rfl (Row.drew (((HZ2.out.set 0 _).set 1 _).set 2 _))) rfl ⟨⟨y, ib, rfl, HE.out⟩, Below.drew (((HB2.out.setCell (by simp) _).setCell (by simp) _).setCell (by simp) _)⟩
 ·have HE : Hid (c = if ia then some x else none) := by show c = _; rw [HP.out, if_neg hAB]
  clear HP
  go_wp2
  go_region
  go_wp2
  exact bodyPost_ret (JdN rfl rfl rfl rfl (Row.drew (((HZ2.out.set 0 _).set 1 _).set 2 _))) rfl ⟨⟨x, ia, rfl, HE.out⟩, Below.drew (((HB2.out.setCell (by simp) _).setCell (by simp) _).setCell (by simp) _)⟩
theorem JbQ (x y : Ce) (ia ib : Bool) (w : World) :
  Calls Tryz.prog 187 #[.agg #[.string x.o, int i64 x.r, int i64 x.s, int i64 x.t, int i64 x.x, int i64 x.z, int i64 x.v, .bool x.g, .string y.o, int i64 y.r, int i64 y.s, int i64 y.t, int i64 y.x, int i64 y.z, int i64 y.v, .bool y.g, .bool ia, .bool ib]] w fun e w' => Uw JeL e (Ke ⟨x, y, ia, ib⟩) ∧ Below w.heap.size w w' := by
 obtain ⟨W, hW⟩ : ∃ W, W = (w.alloc (.cells #[.string x.o, int i64 x.r, int i64 x.s, int i64 x.t, int i64 x.x, int i64 x.z, int i64 x.v, .bool x.g, .string y.o, int i64 y.r, int i64 y.s, int i64 y.t, int i64 y.x, int i64 y.z, int i64 y.v, .bool y.g, .bool ia, .bool ib] 222)).alloc (.cells #[.string ⟨#[]⟩, int i64 0, int i64 0, int i64 0, int i64 0, int i64 0, int i64 0, .bool false] 35) := ⟨_, rfl⟩
 have HL0 : Hid (Row W w.heap.size #[.string x.o, int i64 x.r, int i64 x.s, int i64 x.t, int i64 x.x, int i64 x.z, int i64 x.v, .bool x.g, .string y.o, int i64 y.r, int i64 y.s, int i64 y.t, int i64 y.x, int i64 y.z, int i64 y.v, .bool y.g, .bool ia, .bool ib] 222) := by rw [hW]; exact (Jb w _ _ rfl).alloc _
 have HZ0 : Hid (Row W (w.heap.size + 1) #[.string ⟨#[]⟩, int i64 0, int i64 0, int i64 0, int i64 0, int i64 0, int i64 0, .bool false] 35) := by rw [hW]; exact Jb _ _ _ (by simp)
 have HB0 : Hid (Below w.heap.size w W) := by rw [hW]; exact ((Below.refl _ _).alloc (Nat.le_refl _) _).alloc (by simp) _
 have HWS : Hid (w.heap.size + 2 ≤ W.heap.size) := by show _ ≤ _; rw [hW]; simp
 have HF : Hid (Calls Tryz.prog 188 #[.agg #[.string x.o, int i64 x.r, int i64 x.s, int i64 x.t, int i64 x.x, int i64 x.z, int i64 x.v, .bool x.g, .string y.o, int i64 y.r, int i64 y.s, int i64 y.t, int i64 y.x, int i64 y.z, int i64 y.v, .bool y.g, .bool ia, .bool ib]] W fun e w' => e = .returned (.agg #[.string (JI (⟨x, y, ia, ib⟩ : Bo Ce)).o, int i64 (JI (⟨x, y, ia, ib⟩ : Bo Ce)).r, int i64 (JI (⟨x, y, ia, ib⟩ : Bo Ce)).s, int i64 (JI (⟨x, y, ia, ib⟩ : Bo Ce)).t, int i64 (JI (⟨x, y, ia, ib⟩ : Bo Ce)).x, int i64 (JI (⟨x, y, ia, ib⟩ : Bo Ce)).z, int i64 (JI (⟨x, y, ia, ib⟩ : Bo Ce)).v, .bool (JI (⟨x, y, ia, ib⟩ : Bo Ce)).g]) ∧ Below W.heap.size W w') := JbN x y ia ib W
 have HW : Hid ((w.alloc (.cells #[.string x.o, int i64 x.r, int i64 x.s, int i64 x.t, int i64 x.x, int i64 x.z, int i64 x.v, .bool x.g, .string y.o, int i64 y.r, int i64 y.s, int i64 y.t, int i64 y.x, int i64 y.z, int i64 y.v, .bool y.g, .bool ia, .bool ib] 222)).alloc (.cells #[.string ⟨#[]⟩, int i64 0, int i64 0, int i64 0, int i64 0, int i64 0, int i64 0, .bool false] 35) = W) := hW.symm
 obtain ⟨c, hc⟩ : ∃ c, c = Ke ⟨x, y, ia, ib⟩ := ⟨_, rfl⟩
 have HC : Hid (c = some { JI (⟨x, y, ia, ib⟩ : Bo Ce) with g := x.g || y.g }) := hc
 rw [← hc]
 generalize JI (⟨x, y, ia, ib⟩ : Bo Ce) = zz at *
 obtain ⟨zo, zr, zs, zt, zx, zz, zv, zg⟩ := zz
 clear hW hc
 have HLD : Hid ((loadCellsFrom ⟨w.heap.size, 0, none⟩ 0 18 #[]).run Tryz.prog W = .ok #[.string x.o, int i64 x.r, int i64 x.s, int i64 x.t, int i64 x.x, int i64 x.z, int i64 x.v, .bool x.g, .string y.o, int i64 y.r, int i64 y.s, int i64 y.t, int i64 y.x, int i64 y.z, int i64 y.v, .bool y.g, .bool ia, .bool ib] W) := Jq HL0.out rfl
 go_enter Tryz.func187, Tryz.ntmps187
 go_wp2_with fail
 rw [HW.out]
 simp only [Tryz.isAgg222, Tryz.sizeOf222, Result.andThen_ok, if_true, HLD.out]
 clear HLD
 go_wp2_with fail
 refine HF.out.mono ?_
 rintro e w1 ⟨rfl, hb1⟩
 have HL1 := Ja (HL0.out.next hb1)
 have HZ1 := Ja (HZ0.out.next hb1)
 have HB1 : Hid (Below w.heap.size w w1) := HB0.out.trans (hb1.mono HB0.out.size)
 have HS1 : Hid (w.heap.size + 2 ≤ w1.heap.size) := Nat.le_trans HWS.out hb1.size
 clear hb1 HL0 HZ0 HB0 HF HW HWS
 obtain ⟨W2, hW2⟩ : ∃ W, W = w1.alloc (.cells #[.string ⟨#[]⟩, int i64 0, int i64 0, int i64 0, int i64 0, int i64 0, int i64 0, .bool false] 35) := ⟨_, rfl⟩
 have HW2 : Hid (w1.alloc (.cells #[.string ⟨#[]⟩, int i64 0, int i64 0, int i64 0, int i64 0, int i64 0, int i64 0, .bool false] 35) = W2) := hW2.symm
 have HL2 : Hid (Row W2 w.heap.size #[.string x.o, int i64 x.r, int i64 x.s, int i64 x.t, int i64 x.x, int i64 x.z, int i64 x.v, .bool x.g, .string y.o, int i64 y.r, int i64 y.s, int i64 y.t, int i64 y.x, int i64 y.z, int i64 y.v, .bool y.g, .bool ia, .bool ib] 222) := by show Row _ _ _ _; rw [hW2]; exact HL1.out.alloc _
 have HZ2 : Hid (Row W2 (w.heap.size + 1) #[.string ⟨#[]⟩, int i64 0, int i64 0, int i64 0, int i64 0, int i64 0, int i64 0, .bool false] 35) := by show Row _ _ _ _; rw [hW2]; exact HZ1.out.alloc _
 have HN2 : Hid (Row W2 w1.heap.size #[.string ⟨#[]⟩, int i64 0, int i64 0, int i64 0, int i64 0, int i64 0, int i64 0, .bool false] 35) := by show Row _ _ _ _; rw [hW2]; exact Jb _ _ _ rfl
 have HB2 : Hid (Below w.heap.size w W2) := by show Below _ _ _; rw [hW2]; exact HB1.out.alloc HB1.out.size _
 obtain ⟨g1, hg1⟩ : ∃ g, g = w1.heap.size := ⟨_, rfl⟩
 have HS2 : Hid (w.heap.size + 2 ≤ g1) := by show _ ≤ _; rw [hg1]; exact HS1.out
 rw [← hg1] at HN2
 clear HS1 HL1 HZ1 HB1 hW2
 go_wp2_with fail
 rw [HW2.out, ← hg1]
 clear HW2 hg1
 have n0 : (w.heap.size = g1) = False := by have := HS2.out; simp; omega
 have n1 : (w.heap.size + 1 = g1) = False := by have := HS2.out; simp; omega
 have n2 : (g1 = w.heap.size) = False := by have := HS2.out; simp; omega
 have n3 : (g1 = w.heap.size + 1) = False := by have := HS2.out; simp; omega
 have hso := Tryz.sizeOf35
 have r7 : W2.cell? ⟨w.heap.size, 7, none⟩ = some (.bool x.g) := HL2.out.cell 7 rfl
 have r15 : W2.cell? ⟨w.heap.size, 15, none⟩ = some (.bool y.g) := HL2.out.cell 15 rfl
 obtain ⟨z0, z1, z2, z3, z4, z5, z6, z7⟩ := ZF HN2.out
 obtain ⟨f0, f1, f2, f3, f4, f5, f6, f7⟩ := Uk HN2.out
 simp only [hso]
 go_simp
 obtain ⟨W3, hW3⟩ : ∃ W, W = (((((((W2.setCell ⟨g1, 0, none⟩ (.string zo)).setCell ⟨g1, 1, none⟩ (int i64 zr)).setCell ⟨g1, 2, none⟩ (int i64 zs)).setCell ⟨g1, 3, none⟩ (int i64 zt)).setCell ⟨g1, 4, none⟩ (int i64 zx)).setCell ⟨g1, 5, none⟩ (int i64 zz)).setCell ⟨g1, 6, none⟩ (int i64 zv)).setCell ⟨g1, 7, none⟩ (.bool zg) := ⟨_, rfl⟩
 rw [← hW3]
 have HN3 : Hid (Row W3 g1 #[.string zo, int i64 zr, int i64 zs, int i64 zt, int i64 zx, int i64 zz, int i64 zv, .bool zg] 35) := by show Row _ _ _ _; rw [hW3]; exact ((((((((HN2.out.setL 0 _).setL 1 _).setL 2 _).setL 3 _).setL 4 _).setL 5 _).setL 6 _).setL 7 _)
 have HZ3 : Hid (Row W3 (w.heap.size + 1) #[.string ⟨#[]⟩, int i64 0, int i64 0, int i64 0, int i64 0, int i64 0, int i64 0, .bool false] 35) := by show Row _ _ _ _; rw [hW3]; exact ((((((((HZ2.out.other (by have := HS2.out; simp; omega) _).other (by have := HS2.out; simp; omega) _).other (by have := HS2.out; simp; omega) _).other (by have := HS2.out; simp; omega) _).other (by have := HS2.out; simp; omega) _).other (by have := HS2.out; simp; omega) _).other (by have := HS2.out; simp; omega) _).other (by have := HS2.out; simp; omega) _)
 have HL3 : Hid (Row W3 w.heap.size #[.string x.o, int i64 x.r, int i64 x.s, int i64 x.t, int i64 x.x, int i64 x.z, int i64 x.v, .bool x.g, .string y.o, int i64 y.r, int i64 y.s, int i64 y.t, int i64 y.x, int i64 y.z, int i64 y.v, .bool y.g, .bool ia, .bool ib] 222) := by show Row _ _ _ _; rw [hW3]; exact ((((((((HL2.out.other (by have := HS2.out; simp; omega) _).other (by have := HS2.out; simp; omega) _).other (by have := HS2.out; simp; omega) _).other (by have := HS2.out; simp; omega) _).other (by have := HS2.out; simp; omega) _).other (by have := HS2.out; simp; omega) _).other (by have := HS2.out; simp; omega) _).other (by have := HS2.out; simp; omega) _)
 have HB3 : Hid (Below w.heap.size w W3) := by show Below _ _ _; rw [hW3]; exact ((((((((HB2.out.setCell (by have := HS2.out; simp; omega) _).setCell (by have := HS2.out; simp; omega) _).setCell (by have := HS2.out; simp; omega) _).setCell (by have := HS2.out; simp; omega) _).setCell (by have := HS2.out; simp; omega) _).setCell (by have := HS2.out; simp; omega) _).setCell (by have := HS2.out; simp; omega) _).setCell (by have := HS2.out; simp; omega) _)
 clear hW3 HN2 HZ2 HB2 HL2 r7 r15 z0 f0 z1 f1 z2 f2 z3 f3 z4 f4 z5 f5 z6 f6 z7 f7
 have r7 : W3.cell? ⟨w.heap.size, 7, none⟩ = some (.bool x.g) := HL3.out.cell 7 rfl
 have r15 : W3.cell? ⟨w.heap.size, 15, none⟩ = some (.bool y.g) := HL3.out.cell 15 rfl
 have z7 : W3.cell? ⟨g1, 7, none⟩ = some (.bool zg) := HN3.out.cell 7 rfl
 have f7 := HN3.out.free 7
 cases hxg : x.g
 ·rw [hxg] at r7 HC
  go_wp2_with fail
  obtain ⟨W4, hW4⟩ : ∃ W, W = W3.setCell ⟨g1, 7, none⟩ (.bool y.g) := ⟨_, rfl⟩
  rw [← hW4]
  have HN4 : Hid (Row W4 g1 #[.string zo, int i64 zr, int i64 zs, int i64 zt, int i64 zx, int i64 zz, int i64 zv, .bool y.g] 35) := by show Row _ _ _ _; rw [hW4]; exact HN3.out.setL 7 _
  have HZ4 : Hid (Row W4 (w.heap.size + 1) #[.string ⟨#[]⟩, int i64 0, int i64 0, int i64 0, int i64 0, int i64 0, int i64 0, .bool false] 35) := by show Row _ _ _ _; rw [hW4]; exact HZ3.out.other (by have := HS2.out; simp; omega) _
  have HB4 : Hid (Below w.heap.size w W4) := by show Below _ _ _; rw [hW4]; exact HB3.out.setCell (by have := HS2.out; simp; omega) _
  clear hW4 HN3 HZ3 HB3 HL3 r7 r15 z7 f7
  obtain ⟨y0, y1, y2, y3, y4, y5, y6, y7⟩ := ZF HN4.out
  clear HN4
  simp only [Tryz.isAgg35, Result.andThen_ok, if_true]
  go_simp
  clear y0 y1 y2 y3 y4 y5 y6 y7
  obtain ⟨z0, z1, z2, z3, z4, z5, z6, z7⟩ := ZF HZ4.out
  obtain ⟨f0, f1, f2, f3, f4, f5, f6, f7⟩ := Uk HZ4.out
  go_wp2
  exact bodyPost_ret (Jd6 rfl rfl rfl rfl ((((((((HZ4.out.setL 0 _).setL 1 _).setL 2 _).setL 3 _).setL 4 _).setL 5 _).setL 6 _).setL 7 _)) rfl ⟨⟨⟨zo, zr, zs, zt, zx, zz, zv, y.g⟩, true, rfl, by rw [HC.out]; simp⟩, (((((((HB4.out.setCell (by simp) _).setCell (by simp) _).setCell (by simp) _).setCell (by simp) _).setCell (by simp) _).setCell (by simp) _).setCell (by simp) _).setCell (by simp) _⟩
 ·rw [hxg] at r7 HC
  go_wp2_with fail
  obtain ⟨W4, hW4⟩ : ∃ W, W = W3.setCell ⟨g1, 7, none⟩ (.bool true) := ⟨_, rfl⟩
  rw [← hW4]
  have HN4 : Hid (Row W4 g1 #[.string zo, int i64 zr, int i64 zs, int i64 zt, int i64 zx, int i64 zz, int i64 zv, .bool true] 35) := by show Row _ _ _ _; rw [hW4]; exact HN3.out.setL 7 _
  have HZ4 : Hid (Row W4 (w.heap.size + 1) #[.string ⟨#[]⟩, int i64 0, int i64 0, int i64 0, int i64 0, int i64 0, int i64 0, .bool false] 35) := by show Row _ _ _ _; rw [hW4]; exact HZ3.out.other (by have := HS2.out; simp; omega) _
  have HB4 : Hid (Below w.heap.size w W4) := by show Below _ _ _; rw [hW4]; exact HB3.out.setCell (by have := HS2.out; simp; omega) _
  clear hW4 HN3 HZ3 HB3 HL3 r7 r15 z7 f7
  obtain ⟨y0, y1, y2, y3, y4, y5, y6, y7⟩ := ZF HN4.out
  clear HN4
  simp only [Tryz.isAgg35, Result.andThen_ok, if_true]
  go_simp
  clear y0 y1 y2 y3 y4 y5 y6 y7
  obtain ⟨z0, z1, z2, z3, z4, z5, z6, z7⟩ := ZF HZ4.out
  obtain ⟨f0, f1, f2, f3, f4, f5, f6, f7⟩ := Uk HZ4.out
  go_wp2
  exact bodyPost_ret (Jd6 rfl rfl rfl rfl ((((((((HZ4.out.setL 0 _).setL 1 _).setL 2 _).setL 3 _).setL 4 _).setL 5 _).setL 6 _).setL 7 _)) rfl ⟨⟨⟨zo, zr, zs, zt, zx, zz, zv, true⟩, true, rfl, by rw [HC.out]; simp⟩, (((((((HB4.out.setCell (by simp) _).setCell (by simp) _).setCell (by simp) _).setCell (by simp) _).setCell (by simp) _).setCell (by simp) _).setCell (by simp) _).setCell (by simp) _⟩
end Go.Proofs.YtdknoflkingodaaGreat
namespace Go.Proofs.YtdknoflkingodaaGreat
open Value (int)
open IntKind (i64)
set_option maxRecDepth 100000
set_option linter.unusedVariables false
theorem Uu (a b : Ta) : (JQ a b ∧ rkT a.o b.o a.r b.r < 0) ∨ ((a.o = b.o ∧ a.r = b.r) ∧ rkT a.o b.o a.r b.r = 0) ∨ (JQ b a ∧ 0 < rkT a.o b.o a.r b.r) := by
 have h0 : rkT a.o b.o a.r b.r = if Lib.compareBytes a.o.data.toList b.o.data.toList = 0 then (if KI a.r b.r = 0 then 0 else KI a.r b.r) else Lib.compareBytes a.o.data.toList b.o.data.toList := rfl
 rw [h0]
 unfold JQ
 rcases GQ a.o.data.toList b.o.data.toList with ⟨h1, h2⟩ | ⟨h1, h2⟩ | ⟨h1, h2⟩
 ·left; rw [h1]; exact ⟨.inl h2, by simp⟩
 ·have e : a.o = b.o := ByteArray.ext (Array.ext' h2)
  rw [h1, e]
  unfold KI
  by_cases h3 : a.r < b.r
  ·left; simp [h3]
  ·by_cases h4 : b.r < a.r
   ·right; right; simp [h3, h4]
   ·right; left; simp [h3, h4]; omega
 ·right; right; rw [h1]; exact ⟨.inl h2, by simp⟩
theorem Jem (a : Ta) : ¬ JQ a a := fun h => by
 rcases h with h | h
 ·exact List.lt_irrefl _ h
 ·omega
theorem rkTa_R : Rk JQ JY := by
 have asym : ∀ a b : Ta, JQ a b → ¬ JQ b a := fun a b h k => Jem a (KR _ _ _ h k)
 have same : ∀ a b : Ta, JY a b = 0 → a.o = b.o ∧ a.r = b.r := fun a b h => by
  unfold JY at h
  rcases Uu a b with h1 | h1 | h1
  ·omega
  ·exact h1.1
  ·omega
 refine ⟨fun a b => ?_, fun a b => ?_, KR, fun a b c h => ?_, fun a b c h => ?_⟩
 ·unfold JY
  rcases Uu a b with h1 | h1 | h1
  ·exact ⟨fun _ => h1.1, fun _ => h1.2⟩
  ·refine ⟨fun h => by omega, fun h => ?_⟩
   unfold JQ at h; rw [h1.1.1, h1.1.2] at h
   rcases h with h | h
   ·exact absurd h (List.lt_irrefl _)
   ·omega
  ·exact ⟨fun h => by omega, fun h => absurd h1.1 (asym _ _ h)⟩
 ·unfold JY
  rcases Uu a b with h1 | h1 | h1
  ·exact ⟨fun h => by omega, fun h => absurd h1.1 (asym _ _ h)⟩
  ·refine ⟨fun h => by omega, fun h => ?_⟩
   unfold JQ at h; rw [h1.1.1, h1.1.2] at h
   rcases h with h | h
   ·exact absurd h (List.lt_irrefl _)
   ·omega
  ·exact ⟨fun _ => h1.1, fun _ => h1.2⟩
 ·obtain ⟨e1, e2⟩ := same a b h
  unfold JQ; rw [e1, e2]
 ·obtain ⟨e1, e2⟩ := same a b h
  unfold JQ; rw [e1, e2]
theorem Z6 {a b : Ta} : JY a b = 0 ↔ a.o = b.o ∧ a.r = b.r := by
 unfold JY
 rcases Uu a b with h1 | h1 | h1
 ·refine ⟨fun h => by omega, fun h => ?_⟩
  have := h1.1; unfold JQ at this; rw [h.1, h.2] at this
  rcases this with h | h
  ·exact absurd h (List.lt_irrefl _)
  ·omega
 ·exact ⟨fun _ => h1.1, fun _ => h1.2⟩
 ·refine ⟨fun h => by omega, fun h => ?_⟩
  have := h1.1; unfold JQ at this; rw [h.1, h.2] at this
  rcases this with h | h
  ·exact absurd h (List.lt_irrefl _)
  ·omega
theorem KL {r s r' s' : Int} : rkD r s r' s' = 0 ↔ r = r' ∧ s = s' := by
 rcases ZN r s r' s' with h | h | h
 ·refine ⟨fun h => by omega, fun e => ?_⟩
  have := h.1; unfold Jn at this; omega
 ·exact ⟨fun _ => h.1, fun _ => h.2⟩
 ·refine ⟨fun h => by omega, fun e => ?_⟩
  have := h.1; unfold Jn at this; omega
theorem Jco {r s r' s' : Int} : rkD r s r' s' < 0 ↔ Jn r s r' s' := by
 rcases ZN r s r' s' with h | h | h
 ·exact ⟨fun _ => h.1, fun _ => h.2⟩
 ·exact ⟨fun k => by omega, fun k => by unfold Jn at k; omega⟩
 ·exact ⟨fun k => by omega, fun k => by have := h.1; unfold Jn at this k; omega⟩
theorem Jct {r s r' s' : Int} : 0 < rkD r s r' s' ↔ Jn r' s' r s := by
 rcases ZN r s r' s' with h | h | h
 ·exact ⟨fun k => by omega, fun k => by have := h.1; unfold Jn at this k; omega⟩
 ·exact ⟨fun k => by omega, fun k => by unfold Jn at k; omega⟩
 ·exact ⟨fun _ => h.1, fun _ => h.2⟩
theorem rkLi_R : Rk J4 Zi :=
 ⟨fun _ _ => Jco, fun _ _ => Jct, K0, fun a b c h => by obtain ⟨e1, e2⟩ := KL.1 h; unfold J4; rw [e1, e2], fun a b c h => by obtain ⟨e1, e2⟩ := KL.1 h; unfold J4; rw [e1, e2]⟩
theorem rkCe_R : Rk JF Zf :=
 ⟨fun _ _ => Jco, fun _ _ => Jct, Zt, fun a b c h => by obtain ⟨e1, e2⟩ := KL.1 h; unfold JF; rw [e1, e2], fun a b c h => by obtain ⟨e1, e2⟩ := KL.1 h; unfold JF; rw [e1, e2]⟩
theorem Zu {a b : Li} : Zi a b = 0 ↔ a.r = b.r ∧ a.s = b.s := KL
theorem ZQ {a b : Ce} : Zf a b = 0 ↔ a.r = b.r ∧ a.s = b.s := KL
def JX (k m : List Int) (A B : List Ta) : List Ta := (Jg zTa JY A B).filterMap (Zj k m)
def J3 (c : List Int) (A B : List Li) : List Li := (Jg zLi Zi A B).filterMap (KT c)
def JR (A B : List Ce) : List Ce := (Jg zCe Zf A B).filterMap Ke
def Jm (S R : Sta) : Sta := ⟨Za S.l R.l, JX S.l R.l S.T R.T, J3 (J1 S.l R.l) S.L R.L, JR S.C R.C⟩
theorem Ki {k m : List Int} {A B : List Ta} (hA : A.Pairwise JQ) (hB : B.Pairwise JQ) (x : Ta) : x ∈ JX k m A B ↔ (x ∈ A ∧ ¬ k.getD x.r.toNat 0 < m.getD x.r.toNat 0) ∨ (x ∈ B ∧ k.getD x.r.toNat 0 < m.getD x.r.toNat 0) := by
 unfold JX
 rw [GO rkTa_R zTa (Zj k m) A B hA hB]
 constructor
 ·rintro ⟨q, ⟨a, ha, -, rfl⟩ | ⟨b, hb, -, rfl⟩ | ⟨a, ha, b, hb, h0, rfl⟩, hp⟩
  ·unfold Zj JI at hp
   simp only [if_true] at hp
   by_cases h : k.getD a.r.toNat 0 < m.getD a.r.toNat 0
   ·rw [if_pos h] at hp; simp at hp
   ·rw [if_neg h] at hp; simp only [Option.some.injEq] at hp; subst hp; exact .inl ⟨ha, h⟩
  ·unfold Zj JI at hp
   simp only [if_true, Bool.false_eq_true, if_false] at hp
   by_cases h : k.getD b.r.toNat 0 < m.getD b.r.toNat 0
   ·rw [if_pos h] at hp; simp only [Option.some.injEq] at hp; subst hp; exact .inr ⟨hb, h⟩
   ·rw [if_neg h] at hp; cases hp
  ·unfold Zj JI at hp
   simp only [if_true] at hp
   by_cases h : k.getD a.r.toNat 0 < m.getD a.r.toNat 0
   ·rw [if_pos h] at hp; simp only [Option.some.injEq] at hp; subst hp
    rw [(Z6.1 h0).2] at h
    exact .inr ⟨hb, h⟩
   ·rw [if_neg h] at hp; simp only [Option.some.injEq] at hp; subst hp; exact .inl ⟨ha, h⟩
 ·rintro (⟨hx, h⟩ | ⟨hx, h⟩)
  ·by_cases hb : ∃ b ∈ B, JY x b = 0
   ·obtain ⟨b, hb, h0⟩ := hb
    exact ⟨⟨x, b, true, true⟩, .inr (.inr ⟨x, hx, b, hb, h0, rfl⟩), by unfold Zj JI; simp only [if_true]; rw [if_neg h]⟩
   ·exact ⟨⟨x, zTa, true, false⟩, .inl ⟨x, hx, fun b hb' e => hb ⟨b, hb', e⟩, rfl⟩, by unfold Zj JI; simp only [if_true]; rw [if_neg h]⟩
  ·by_cases ha : ∃ a ∈ A, JY a x = 0
   ·obtain ⟨a, ha, h0⟩ := ha
    refine ⟨⟨a, x, true, true⟩, .inr (.inr ⟨a, ha, x, hx, h0, rfl⟩), ?_⟩
    unfold Zj JI; simp only [if_true]
    rw [(Z6.1 h0).2, if_pos h]
   ·exact ⟨⟨zTa, x, false, true⟩, .inr (.inl ⟨x, hx, fun a ha' e => ha ⟨a, ha', e⟩, rfl⟩), by unfold Zj JI; simp only [if_true, Bool.false_eq_true, if_false]; rw [if_pos h]⟩
theorem Kt {k m : List Int} {A B : List Ta} (hA : A.Pairwise JQ) (hB : B.Pairwise JQ) : (JX k m A B).Pairwise JQ := by
 refine Gu rkTa_R zTa (Zj k m) A B hA hB ?_
 have hz : ∀ a : Ta, JY a a = 0 := fun a => Z6.2 ⟨rfl, rfl⟩
 rintro q (⟨a, ha, -, rfl⟩ | ⟨b, hb, -, rfl⟩ | ⟨a, ha, b, hb, h0, rfl⟩) x hp <;> unfold Zj JI at hp <;> unfold JI
 ·simp only [if_true, Bool.false_eq_true, if_false] at hp ⊢
  split at hp
  ·cases hp
  ·simp only [Option.some.injEq] at hp; subst hp; exact hz _
 ·simp only [if_true, Bool.false_eq_true, if_false] at hp ⊢
  split at hp
  ·simp only [Option.some.injEq] at hp; subst hp; exact hz _
  ·cases hp
 ·simp only [if_true] at hp ⊢
  split at hp
  ·simp only [Option.some.injEq] at hp; subst hp; exact Z6.2 ⟨(Z6.1 h0).1.symm, (Z6.1 h0).2.symm⟩
  ·simp only [Option.some.injEq] at hp; subst hp; exact hz _
theorem JaQ {A : List Ce} (hA : A.Pairwise JF) {a b : Ce} (ha : a ∈ A) (hb : b ∈ A) (h : a.r = b.r ∧ a.s = b.s) : a = b := by
 rcases JaL hA a ha b hb with e | e | e
 ·exact e
 ·unfold JF Jn at e; omega
 ·unfold JF Jn at e; omega
theorem JM {l : List Int} {r s : Int} : Jd l r s = true ↔ KOk l ∧ DOk r s ∧ s ≤ l.getD r.toNat 0 := by
 unfold Jd
 simp only [Bool.and_eq_true, decide_eq_true_eq, and_assoc]
theorem ZE {k m : List Int} (hk : KOk k) (hm : KOk m) : KOk (Za k m) ∧ ∀ i, (Za k m).getD i 0 = if k.getD i 0 < m.getD i 0 then m.getD i 0 else k.getD i 0 := by
 unfold Za
 rw [if_pos ⟨hk, hm⟩]
 obtain ⟨a, b, c, rfl, h1⟩ := hk.split
 obtain ⟨d, e, f, rfl, h2⟩ := hm.split
 simp only [List.zipWith_cons_cons, List.zipWith_nil_left, mx]
 constructor
 ·refine ⟨rfl, fun x hx => ?_⟩
  simp only [List.mem_cons, List.not_mem_nil, or_false] at hx
  rcases hx with rfl | rfl | rfl <;> split <;> omega
 ·intro i
  match i with
  | 0 => simp
  | 1 => simp
  | 2 => simp
  | n + 3 => simp
theorem Jcs {k m : List Int} (hk : KOk k) (hm : KOk m) : KOk (J1 k m) ∧ ∀ i, (J1 k m).getD i 0 = if m.getD i 0 < k.getD i 0 then m.getD i 0 else k.getD i 0 := by
 unfold J1
 rw [if_pos ⟨hk, hm⟩]
 obtain ⟨a, b, c, rfl, h1⟩ := hk.split
 obtain ⟨d, e, f, rfl, h2⟩ := hm.split
 simp only [List.zipWith_cons_cons, List.zipWith_nil_left, mn]
 constructor
 ·refine ⟨rfl, fun x hx => ?_⟩
  simp only [List.mem_cons, List.not_mem_nil, or_false] at hx
  rcases hx with rfl | rfl | rfl <;> split <;> omega
 ·intro i
  match i with
  | 0 => simp
  | 1 => simp
  | 2 => simp
  | n + 3 => simp
theorem Jbk {k m : List Int} (hk : KOk k) (hm : KOk m) (h : ∀ i, k.getD i 0 = m.getD i 0) : k = m := by
 obtain ⟨a, b, c, rfl, -⟩ := hk.split
 obtain ⟨d, e, f, rfl, -⟩ := hm.split
 have h0 := h 0
 have h1 := h 1
 have h2 := h 2
 simp at h0 h1 h2
 rw [h0, h1, h2]
theorem JcN {k m : List Int} (hk : KOk k) (hm : KOk m) (r s : Int) : Jd (J1 k m) r s = true ↔ Jd k r s = true ∧ Jd m r s = true := by
 rw [JM, JM, JM, (Jcs hk hm).2]
 have := (Jcs hk hm).1
 constructor
 ·rintro ⟨-, h1, h2⟩; split at h2 <;> exact ⟨⟨hk, h1, by omega⟩, hm, h1, by omega⟩
 ·rintro ⟨⟨-, h1, h2⟩, -, -, h3⟩; refine ⟨this, h1, ?_⟩; split <;> omega
theorem YO {k m : List Int} (hk : KOk k) (hm : KOk m) (r s : Int) : Jd (Za k m) r s = true ↔ Jd k r s = true ∨ Jd m r s = true := by
 rw [JM, JM, JM, (ZE hk hm).2]
 have := (ZE hk hm).1
 constructor
 ·rintro ⟨-, h1, h2⟩
  split at h2
  ·exact .inr ⟨hm, h1, h2⟩
  ·exact .inl ⟨hk, h1, h2⟩
 ·rintro (⟨-, h1, h2⟩ | ⟨-, h1, h2⟩) <;> refine ⟨this, h1, ?_⟩ <;> split <;> omega
theorem ZO {k m : List Int} {A B : List Li} (hk : KOk k) (hm : KOk m) (hA : A.Pairwise J4) (hB : B.Pairwise J4) (hkA : ∀ a ∈ A, Jd k a.r a.s = true) (hmB : ∀ b ∈ B, Jd m b.r b.s = true) (x : Li) : x ∈ J3 (J1 k m) A B ↔ (x ∈ A ∧ (x ∈ B ∨ ¬ Jd m x.r x.s = true)) ∨ (x ∈ B ∧ ¬ Jd k x.r x.s = true) := by
 unfold J3
 rw [GO rkLi_R zLi (KT (J1 k m)) A B hA hB]
 have hz : ∀ l r s, Jd l r s = true → ¬ s = zLi.s := fun l r s h e => by
  have := (JM.1 h).2.1.2.2.1
  rw [e] at this; simp [zLi] at this
 have hpick : ∀ q y, KT (J1 k m) q = some y ↔ y = JI q ∧ (q.a = q.b ∨ ¬ (Jd k (JI q).r (JI q).s = true ∧ Jd m (JI q).r (JI q).s = true)) := fun q y => by
  have h1 := JcN hk hm (JI q).r (JI q).s
  unfold KT
  rw [← h1]
  cases Jd (J1 k m) (JI q).r (JI q).s <;> by_cases he : q.a = q.b <;> simp [he, eq_comm]
 constructor
 ·rintro ⟨q, hq, hp⟩
  obtain ⟨e, h⟩ := (hpick q x).1 hp
  rcases hq with ⟨a, ha, hn, rfl⟩ | ⟨b, hb, hn, rfl⟩ | ⟨a, ha, b, hb, h0, rfl⟩
  ·have e : x = a := e
   subst e
   rcases h with h | h
   ·exact absurd (congrArg Li.s h) (hz _ _ _ (hkA _ ha))
   ·exact .inl ⟨ha, .inr fun h2 => h ⟨hkA _ ha, h2⟩⟩
  ·have e : x = b := e
   subst e
   rcases h with h | h
   ·exact absurd (congrArg Li.s h).symm (hz _ _ _ (hmB _ hb))
   ·exact .inr ⟨hb, fun h2 => h ⟨h2, hmB _ hb⟩⟩
  ·have e : x = a := e
   subst e
   have h2 := hmB _ hb
   rw [← (Zu.1 h0).1, ← (Zu.1 h0).2] at h2
   rcases h with h | h
   ·have h : x = b := h
    exact .inl ⟨ha, .inl (by rw [h]; exact hb)⟩
   ·exact absurd ⟨hkA _ ha, h2⟩ h
 ·rintro (⟨hx, h⟩ | ⟨hx, h⟩)
  ·rcases h with h | h
   ·exact ⟨⟨x, x, true, true⟩, .inr (.inr ⟨x, hx, x, h, Zu.2 ⟨rfl, rfl⟩, rfl⟩), (hpick _ _).2 ⟨rfl, .inl rfl⟩⟩
   ·refine ⟨⟨x, zLi, true, false⟩, .inl ⟨x, hx, fun b hb e => h ?_, rfl⟩, (hpick _ _).2 ⟨rfl, .inr fun k => h k.2⟩⟩
    have := hmB _ hb
    rwa [← (Zu.1 e).1, ← (Zu.1 e).2] at this
  ·refine ⟨⟨zLi, x, false, true⟩, .inr (.inl ⟨x, hx, fun a ha e => h ?_, rfl⟩), (hpick _ _).2 ⟨rfl, .inr fun k => h k.1⟩⟩
   have := hkA _ ha
   rwa [(Zu.1 e).1, (Zu.1 e).2] at this
theorem Kr {c : List Int} {A B : List Li} (hA : A.Pairwise J4) (hB : B.Pairwise J4) : (J3 c A B).Pairwise J4 := by
 refine Gu rkLi_R zLi (KT c) A B hA hB ?_
 intro q _ x hp
 unfold KT at hp
 split at hp
 ·simp only [Option.some.injEq] at hp; subst hp; exact Zu.2 ⟨rfl, rfl⟩
 ·cases hp
theorem ZM {A B : List Ce} (hA : A.Pairwise JF) (hB : B.Pairwise JF) (x : Ce) : x ∈ JR A B ↔ (∃ a ∈ A, (∀ b ∈ B, ¬ (a.r = b.r ∧ a.s = b.s)) ∧ x = a) ∨ (∃ b ∈ B, (∀ a ∈ A, ¬ (a.r = b.r ∧ a.s = b.s)) ∧ x = b) ∨ (∃ a ∈ A, ∃ b ∈ B, (a.r = b.r ∧ a.s = b.s) ∧ x = { a with g := a.g || b.g }) := by
 unfold JR
 rw [GO rkCe_R zCe Ke A B hA hB]
 have z1 : zCe.g = false := rfl
 constructor
 ·rintro ⟨q, ⟨a, ha, hn, rfl⟩ | ⟨b, hb, hn, rfl⟩ | ⟨a, ha, b, hb, h0, rfl⟩, hp⟩ <;> unfold Ke JI at hp <;> simp only [if_true, Bool.false_eq_true, if_false, Option.some.injEq, z1, Bool.or_false, Bool.false_or] at hp
  ·exact .inl ⟨a, ha, fun b hb e => hn b hb (ZQ.2 e), hp.symm⟩
  ·exact .inr (.inl ⟨b, hb, fun a ha e => hn a ha (ZQ.2 e), hp.symm⟩)
  ·exact .inr (.inr ⟨a, ha, b, hb, ZQ.1 h0, hp.symm⟩)
 ·rintro (⟨a, ha, hn, rfl⟩ | ⟨b, hb, hn, rfl⟩ | ⟨a, ha, b, hb, h0, rfl⟩)
  ·exact ⟨⟨x, zCe, true, false⟩, .inl ⟨x, ha, fun b hb e => hn b hb (ZQ.1 e), rfl⟩, by unfold Ke JI; simp [z1]⟩
  ·exact ⟨⟨zCe, x, false, true⟩, .inr (.inl ⟨x, hb, fun a ha e => hn a ha (ZQ.1 e), rfl⟩), by unfold Ke JI; simp [z1]⟩
  ·exact ⟨⟨a, b, true, true⟩, .inr (.inr ⟨a, ha, b, hb, ZQ.2 h0, rfl⟩), by unfold Ke JI; simp⟩
theorem Kp {A B : List Ce} (hA : A.Pairwise JF) (hB : B.Pairwise JF) : (JR A B).Pairwise JF := by
 refine Gu rkCe_R zCe Ke A B hA hB ?_
 intro q _ x hp
 unfold Ke at hp
 simp only [Option.some.injEq] at hp; subst hp; exact ZQ.2 ⟨rfl, rfl⟩
theorem SOk.pT {S : Sta} (h : SOk S) : S.T.Pairwise JQ := h.2.1.2.pair KR
theorem SOk.pL {S : Sta} (h : SOk S) : S.L.Pairwise J4 := h.2.2.1.2.pair K0
theorem SOk.pC {S : Sta} (h : SOk S) : S.C.Pairwise JF := h.2.2.2.1.2.pair Zt
theorem SOk.kL {S : Sta} (h : SOk S) : ∀ a ∈ S.L, Jd S.l a.r a.s = true := fun a ha => by
 obtain ⟨i, hi, rfl⟩ := List.mem_iff_getElem.1 ha
 exact h.2.2.2.2.1 i hi
theorem SOk.kC {S : Sta} (h : SOk S) : ∀ a ∈ S.C, Jd S.l a.r a.s = true := fun a ha => by
 obtain ⟨i, hi, rfl⟩ := List.mem_iff_getElem.1 ha
 exact (h.2.2.2.2.2 i hi).1
theorem SOk.rT {S : Sta} (h : SOk S) : ∀ t ∈ S.T, 0 ≤ t.r ∧ t.r ≤ 2 := fun t ht => (h.2.1.2.mem t ht).2.1
def Alike (a b : Ce) : Prop := a.o = b.o ∧ a.r = b.r ∧ a.s = b.s ∧ a.t = b.t ∧ a.x = b.x ∧ a.z = b.z ∧ a.v = b.v
theorem Alike.refl (a : Ce) : Alike a a := ⟨rfl, rfl, rfl, rfl, rfl, rfl, rfl⟩
theorem Alike.symm {a b : Ce} (h : Alike a b) : Alike b a := ⟨h.1.symm, h.2.1.symm, h.2.2.1.symm, h.2.2.2.1.symm, h.2.2.2.2.1.symm, h.2.2.2.2.2.1.symm, h.2.2.2.2.2.2.symm⟩
theorem Alike.trans {a b c : Ce} (h : Alike a b) (k : Alike b c) : Alike a c := ⟨h.1.trans k.1, h.2.1.trans k.2.1, h.2.2.1.trans k.2.2.1, h.2.2.2.1.trans k.2.2.2.1, h.2.2.2.2.1.trans k.2.2.2.2.1, h.2.2.2.2.2.1.trans k.2.2.2.2.2.1, h.2.2.2.2.2.2.trans k.2.2.2.2.2.2⟩
theorem Alike.same {a b : Ce} (h : Alike a b) (g : Bool) : ({ a with g := g } : Ce) = { b with g := g } := by
 obtain ⟨o, r, s, t, x, z, v, g1⟩ := a
 obtain ⟨o', r', s', t', x', z', v', g2⟩ := b
 obtain ⟨h1, h2, h3, h4, h5, h6, h7⟩ := h
 simp only at h1 h2 h3 h4 h5 h6 h7
 subst h1 h2 h3 h4 h5 h6 h7
 rfl
structure Fit (S R : Sta) : Prop where
 tal : ∀ t, S.l.getD t.r.toNat 0 = R.l.getD t.r.toNat 0 → (t ∈ S.T ↔ t ∈ R.T)
 cel : ∀ a ∈ S.C, ∀ b ∈ R.C, a.r = b.r → a.s = b.s → Alike a b
structure Over (S R : Sta) : Prop where
 kn : ∀ i, R.l.getD i 0 ≤ S.l.getD i 0
 liv : ∀ x ∈ S.L, x ∈ R.L ∨ ¬ Jd R.l x.r x.s = true
 cel : ∀ c ∈ R.C, ∃ d ∈ S.C, d.r = c.r ∧ d.s = c.s ∧ (c.g = true → d.g = true)
theorem JbX {k m : List Int} (hk : KOk k) (h : ∀ i, m.getD i 0 ≤ k.getD i 0) {r s : Int} (hs : Jd m r s = true) : Jd k r s = true := by
 obtain ⟨-, h2, h3⟩ := JM.1 hs
 exact JM.2 ⟨hk, h2, Int.le_trans h3 (h _)⟩
theorem Over.refl (S : Sta) : Over S S := ⟨fun _ => Int.le_refl _, fun _ h => .inl h, fun c h => ⟨c, h, rfl, rfl, id⟩⟩
theorem KY {S R : Sta} (hS : SOk S) (hR : SOk R) (h : Over S R) : Jm S R = S := by
 have e0 : Za S.l R.l = S.l := Jbk (ZE hS.1 hR.1).1 hS.1 fun i => by
  rw [(ZE hS.1 hR.1).2]; have := h.kn i; split <;> omega
 have e1 : JX S.l R.l S.T R.T = S.T := Z9 rkTa_R.irr rkTa_R.tr _ _ (Kt hS.pT hR.pT) hS.pT fun x => by
  rw [Ki hS.pT hR.pT]
  have := h.kn x.r.toNat
  constructor
  ·rintro (⟨h1, -⟩ | ⟨-, h1⟩)
   ·exact h1
   ·omega
  ·exact fun h1 => .inl ⟨h1, by omega⟩
 have e2 : J3 (J1 S.l R.l) S.L R.L = S.L := Z9 rkLi_R.irr rkLi_R.tr _ _ (Kr hS.pL hR.pL) hS.pL fun x => by
  rw [ZO hS.1 hR.1 hS.pL hR.pL hS.kL hR.kL]
  constructor
  ·rintro (⟨h1, -⟩ | ⟨h1, h2⟩)
   ·exact h1
   ·exact absurd (JbX hS.1 h.kn (hR.kL x h1)) h2
  ·exact fun h1 => .inl ⟨h1, h.liv x h1⟩
 have key : ∀ a ∈ S.C, ∀ b ∈ R.C, a.r = b.r ∧ a.s = b.s → ({ a with g := a.g || b.g } : Ce) = a := fun a ha b hb e => by
  obtain ⟨d, hd, h1, h2, h3⟩ := h.cel b hb
  have e2 : d = a := JaQ hS.pC hd ha ⟨h1.trans e.1.symm, h2.trans e.2.symm⟩
  subst e2
  cases hg : b.g with
  | false => simp
  | true => have := h3 hg; obtain ⟨o, r, s, t, x, z, v, g⟩ := d; simp only at this; subst this; rfl
 have e3 : JR S.C R.C = S.C := Z9 rkCe_R.irr rkCe_R.tr _ _ (Kp hS.pC hR.pC) hS.pC fun x => by
  rw [ZM hS.pC hR.pC]
  constructor
  ·rintro (⟨a, ha, -, rfl⟩ | ⟨b, hb, h1, rfl⟩ | ⟨a, ha, b, hb, e, rfl⟩)
   ·exact ha
   ·obtain ⟨d, hd, h2, h3, -⟩ := h.cel x hb
    exact absurd ⟨h2, h3⟩ (h1 d hd)
   ·rw [key a ha b hb e]; exact ha
  ·intro hx
   by_cases hb : ∃ b ∈ R.C, x.r = b.r ∧ x.s = b.s
   ·obtain ⟨b, hb, e⟩ := hb
    exact .inr (.inr ⟨x, hx, b, hb, e, (key x hx b hb e).symm⟩)
   ·exact .inl ⟨x, hx, fun b hb' e => hb ⟨b, hb', e⟩, rfl⟩
 unfold Jm
 rw [e0, e1, e2, e3]
theorem Kh {S R : Sta} (hS : SOk S) (hR : SOk R) (h : Fit S R) : Jm S R = Jm R S := by
 have e0 : Za S.l R.l = Za R.l S.l := Jbk (ZE hS.1 hR.1).1 (ZE hR.1 hS.1).1 fun i => by
  rw [(ZE hS.1 hR.1).2, (ZE hR.1 hS.1).2]; split <;> split <;> omega
 have e1 : JX S.l R.l S.T R.T = JX R.l S.l R.T S.T := Z9 rkTa_R.irr rkTa_R.tr _ _ (Kt hS.pT hR.pT) (Kt hR.pT hS.pT) fun x => by
  rw [Ki hS.pT hR.pT, Ki hR.pT hS.pT]
  have := h.tal x
  rcases Int.lt_trichotomy (S.l.getD x.r.toNat 0) (R.l.getD x.r.toNat 0) with h1 | h1 | h1
  ·constructor
   ·rintro (⟨-, h2⟩ | ⟨h2, -⟩)
    ·omega
    ·exact .inl ⟨h2, by omega⟩
   ·rintro (⟨h2, -⟩ | ⟨-, h2⟩)
    ·exact .inr ⟨h2, by omega⟩
    ·omega
  ·have h2 := this h1
   constructor
   ·rintro (⟨h3, -⟩ | ⟨-, h3⟩)
    ·exact .inl ⟨h2.1 h3, by omega⟩
    ·omega
   ·rintro (⟨h3, -⟩ | ⟨-, h3⟩)
    ·exact .inl ⟨h2.2 h3, by omega⟩
    ·omega
  ·constructor
   ·rintro (⟨h2, -⟩ | ⟨-, h2⟩)
    ·exact .inr ⟨h2, by omega⟩
    ·omega
   ·rintro (⟨-, h2⟩ | ⟨h2, -⟩)
    ·omega
    ·exact .inl ⟨h2, by omega⟩
 have e2 : J3 (J1 S.l R.l) S.L R.L = J3 (J1 R.l S.l) R.L S.L := Z9 rkLi_R.irr rkLi_R.tr _ _ (Kr hS.pL hR.pL) (Kr hR.pL hS.pL) fun x => by
  rw [ZO hS.1 hR.1 hS.pL hR.pL hS.kL hR.kL, ZO hR.1 hS.1 hR.pL hS.pL hR.kL hS.kL]
  constructor
  ·rintro (⟨h1, h2 | h2⟩ | ⟨h1, h2⟩)
   ·exact .inl ⟨h2, .inl h1⟩
   ·exact .inr ⟨h1, h2⟩
   ·exact .inl ⟨h1, .inr h2⟩
  ·rintro (⟨h1, h2 | h2⟩ | ⟨h1, h2⟩)
   ·exact .inl ⟨h2, .inl h1⟩
   ·exact .inr ⟨h1, h2⟩
   ·exact .inl ⟨h1, .inr h2⟩
 have e3 : JR S.C R.C = JR R.C S.C := Z9 rkCe_R.irr rkCe_R.tr _ _ (Kp hS.pC hR.pC) (Kp hR.pC hS.pC) fun x => by
  rw [ZM hS.pC hR.pC, ZM hR.pC hS.pC]
  constructor
  ·rintro (⟨a, ha, h1, rfl⟩ | ⟨b, hb, h1, rfl⟩ | ⟨a, ha, b, hb, e, rfl⟩)
   ·exact .inr (.inl ⟨x, ha, fun b hb e => h1 b hb ⟨e.1.symm, e.2.symm⟩, rfl⟩)
   ·exact .inl ⟨x, hb, fun a ha e => h1 a ha ⟨e.1.symm, e.2.symm⟩, rfl⟩
   ·refine .inr (.inr ⟨b, hb, a, ha, ⟨e.1.symm, e.2.symm⟩, ?_⟩)
    rw [Bool.or_comm]; exact (h.cel a ha b hb e.1 e.2).same _
  ·rintro (⟨a, ha, h1, rfl⟩ | ⟨b, hb, h1, rfl⟩ | ⟨a, ha, b, hb, e, rfl⟩)
   ·exact .inr (.inl ⟨x, ha, fun b hb e => h1 b hb ⟨e.1.symm, e.2.symm⟩, rfl⟩)
   ·exact .inl ⟨x, hb, fun a ha e => h1 a ha ⟨e.1.symm, e.2.symm⟩, rfl⟩
   ·refine .inr (.inr ⟨b, hb, a, ha, ⟨e.1.symm, e.2.symm⟩, ?_⟩)
    rw [Bool.or_comm]; exact (h.cel b hb a ha e.1.symm e.2.symm).symm.same _
 unfold Jm
 rw [e0, e1, e2, e3]
theorem UI {S R : Sta} (hS : SOk S) (hR : SOk R) : ∀ c ∈ S.C, ∃ d ∈ (Jm S R).C, Alike c d ∧ (c.g = true → d.g = true) := fun c hc => by
 show ∃ d ∈ JR S.C R.C, _
 by_cases hb : ∃ b ∈ R.C, c.r = b.r ∧ c.s = b.s
 ·obtain ⟨b, hb, e⟩ := hb
  exact ⟨_, (ZM hS.pC hR.pC _).2 (.inr (.inr ⟨c, hc, b, hb, e, rfl⟩)), ⟨rfl, rfl, rfl, rfl, rfl, rfl, rfl⟩, fun h => by simp [h]⟩
 ·exact ⟨c, (ZM hS.pC hR.pC _).2 (.inl ⟨c, hc, fun b hb' e => hb ⟨b, hb', e⟩, rfl⟩), Alike.refl _, id⟩
theorem VG {S R : Sta} (hS : SOk S) (hR : SOk R) : ∀ d ∈ (Jm S R).C, (∃ c ∈ S.C, Alike c d) ∨ (d ∈ R.C ∧ ∀ a ∈ S.C, ¬ (a.r = d.r ∧ a.s = d.s)) := fun d hd => by
 rcases (ZM hS.pC hR.pC d).1 hd with ⟨a, ha, -, rfl⟩ | ⟨b, hb, h1, rfl⟩ | ⟨a, ha, b, hb, e, rfl⟩
 ·exact .inl ⟨d, ha, Alike.refl _⟩
 ·exact .inr ⟨hb, h1⟩
 ·exact .inl ⟨a, ha, rfl, rfl, rfl, rfl, rfl, rfl, rfl⟩
theorem VQ {S R : Sta} (hS : SOk S) (hR : SOk R) : Over (Jm S R) S := by
 refine ⟨fun i => ?_, fun x hx => ?_, fun c hc => ?_⟩
 ·show _ ≤ (Za S.l R.l).getD i 0
  rw [(ZE hS.1 hR.1).2]; split <;> omega
 ·rcases (ZO hS.1 hR.1 hS.pL hR.pL hS.kL hR.kL x).1 hx with ⟨h1, -⟩ | ⟨-, h1⟩
  ·exact .inl h1
  ·exact .inr h1
 ·obtain ⟨d, hd, h1, h2⟩ := UI hS hR c hc
  exact ⟨d, hd, h1.2.1.symm, h1.2.2.1.symm, h2⟩
theorem YW {S R : Sta} (hS : SOk S) (hR : SOk R) : Fit S (Jm S R) := by
 refine ⟨fun t e => ?_, fun a ha d hd e1 e2 => ?_⟩
 ·have e : S.l.getD t.r.toNat 0 = (Za S.l R.l).getD t.r.toNat 0 := e
  rw [(ZE hS.1 hR.1).2] at e
  have h1 : ¬ S.l.getD t.r.toNat 0 < R.l.getD t.r.toNat 0 := fun h => by rw [if_pos h] at e; omega
  show _ ↔ t ∈ JX S.l R.l S.T R.T
  rw [Ki hS.pT hR.pT]
  exact ⟨fun h => .inl ⟨h, h1⟩, fun h => by rcases h with h | h; exact h.1; exact absurd h.2 h1⟩
 ·rcases VG hS hR d hd with ⟨c, hc, h1⟩ | ⟨-, h1⟩
  ·have : c = a := JaQ hS.pC hc ha ⟨h1.2.1.trans e1.symm, h1.2.2.1.trans e2.symm⟩
   rw [← this]; exact h1
  ·exact absurd ⟨e1, e2⟩ (h1 a ha)
theorem Jdi {S R : Sta} (hS : SOk S) (hR : SOk R) (h : Fit S R) : ∀ c ∈ R.C, ∃ d ∈ (Jm S R).C, Alike c d := fun c hc => by
 rw [Kh hS hR h]
 obtain ⟨d, hd, h1, -⟩ := UI hR hS c hc
 exact ⟨d, hd, h1⟩
theorem JdZ {S R : Sta} (hS : SOk S) (hR : SOk R) (h : Fit S R) (h1 : S.T.length + R.T.length ≤ 120) (h2 : S.L.length + R.L.length ≤ 120) (h3 : S.C.length + R.C.length ≤ 120) : SOk (Jm S R) := by
 have hk := ZE hS.1 hR.1
 have hlen : ∀ {α : Type} (z : α) (rk : α → α → Int) (f : Bo α → Option α) (A B : List α), ((Jg z rk A B).filterMap f).length ≤ A.length + B.length := fun z rk f A B => Nat.le_trans (List.length_filterMap_le _ _) (Zm z rk _ A B (Nat.le_refl _))
 have hmaxS : ∀ {r s : Int}, Jd S.l r s = true → Jd (Za S.l R.l) r s = true := fun h => (YO hS.1 hR.1 _ _).2 (.inl h)
 have hmaxR : ∀ {r s : Int}, Jd R.l r s = true → Jd (Za S.l R.l) r s = true := fun h => (YO hS.1 hR.1 _ _).2 (.inr h)
 have hpC : (JR S.C R.C).Pairwise JF := Kp hS.pC hR.pC
 have okA : ∀ {a b : Ce}, Alike a b → Ge a → Ge b := fun {a b} e k => by
  obtain ⟨e1, e2, e3, e4, e5, e6, e7⟩ := e
  unfold Ge at k ⊢
  rw [← e1, ← e2, ← e3, ← e4, ← e5, ← e6, ← e7]; exact k
 have hfrom : ∀ d ∈ JR S.C R.C, (∃ c ∈ S.C, Alike c d) ∨ d ∈ R.C := fun d hd => by
  rcases VG hS hR d hd with e | e
  ·exact .inl e
  ·exact .inr e.1
 refine ⟨hk.1, ⟨Nat.le_trans (hlen _ _ _ _ _) h1, Asc.of_pair (fun x hx => ?_) (Kt hS.pT hR.pT)⟩, ⟨Nat.le_trans (hlen _ _ _ _ _) h2, Asc.of_pair (fun x hx => ?_) (Kr hS.pL hR.pL)⟩, ⟨Nat.le_trans (hlen _ _ _ _ _) h3, Asc.of_pair (fun x hx => ?_) hpC⟩, fun i hi => ?_, fun i hi => ?_⟩
 ·rcases (Ki hS.pT hR.pT x).1 hx with ⟨e, -⟩ | ⟨e, -⟩
  ·exact hS.2.1.2.mem x e
  ·exact hR.2.1.2.mem x e
 ·rcases (ZO hS.1 hR.1 hS.pL hR.pL hS.kL hR.kL x).1 hx with ⟨e, -⟩ | ⟨e, -⟩
  ·exact hS.2.2.1.2.mem x e
  ·exact hR.2.2.1.2.mem x e
 ·rcases hfrom x hx with ⟨c, hc, e⟩ | e
  ·exact okA e (hS.2.2.2.1.2.mem c hc)
  ·exact hR.2.2.2.1.2.mem x e
 ·have hx := List.getElem_mem hi
  generalize (Jm S R).L[i] = x at hx ⊢
  rcases (ZO hS.1 hR.1 hS.pL hR.pL hS.kL hR.kL x).1 hx with ⟨e, -⟩ | ⟨e, -⟩
  ·exact hmaxS (hS.kL x e)
  ·exact hmaxR (hR.kL x e)
 ·have hx := List.getElem_mem hi
  generalize (Jm S R).C[i] = x at hx ⊢
  show Jd (Za S.l R.l) x.r x.s = true ∧ ZV (JR S.C R.C) x
  rw [UX hpC]
  rcases hfrom x hx with ⟨c, hc, e⟩ | e
  ·refine ⟨by rw [← e.2.1, ← e.2.2.1]; exact hmaxS (hS.kC c hc), ?_⟩
   rcases hS.refs c hc with k | ⟨b, hb, k1, k2, k3, k4⟩
   ·rw [← e.2.2.2.2.1, ← e.2.2.2.2.2.1]; exact .inl k
   ·obtain ⟨d, hd, e2, -⟩ := UI hS hR b hb
    refine .inr ⟨d, hd, ?_, ?_, ?_, ?_⟩
    ·rw [← e2.2.1, k1, e.2.2.2.2.1]
    ·rw [← e2.2.2.1, k2, e.2.2.2.2.2.1]
    ·rw [← e2.1, k3, e.1]
    ·rw [← e2.2.2.2.1, ← e.2.2.2.1]; exact k4
  ·refine ⟨hmaxR (hR.kC x e), ?_⟩
   rcases hR.refs x e with k | ⟨b, hb, k1, k2, k3, k4⟩
   ·exact .inl k
   ·obtain ⟨d, hd, e2⟩ := Jdi hS hR h b hb
    refine .inr ⟨d, hd, ?_, ?_, ?_, ?_⟩
    ·rw [← e2.2.1, k1]
    ·rw [← e2.2.2.1, k2]
    ·rw [← e2.1, k3]
    ·rw [← e2.2.2.2.1]; exact k4
structure Went (r : Int) (M S : Sta) : Prop where
 kn : ∀ i : Nat, (i : Int) ≠ r → S.l.getD i 0 = M.l.getD i 0
 le : M.l.getD r.toNat 0 ≤ S.l.getD r.toNat 0
 same : M.l.getD r.toNat 0 = S.l.getD r.toNat 0 → S = M
 tal : ∀ t : Ta, t.r ≠ r → (t ∈ S.T ↔ t ∈ M.T)
 liv : ∀ x ∈ S.L, Jd M.l x.r x.s = true → x ∈ M.L
 cel : ∀ c ∈ M.C, ∃ d ∈ S.C, Alike c d ∧ (c.g = true → d.g = true)
 old : ∀ d ∈ S.C, Jd M.l d.r d.s = true → ∃ c ∈ M.C, Alike c d
theorem Went.refl (r : Int) (M : Sta) : Went r M M := ⟨fun _ _ => rfl, Int.le_refl _, fun _ => rfl, fun _ _ => Iff.rfl, fun _ h _ => h, fun c h => ⟨c, h, Alike.refl c, id⟩, fun d h _ => ⟨d, h, Alike.refl d⟩⟩
theorem JbS (T : List Ta) (o : ByteArray) (r v : Int) (t : Ta) (h : t.r ≠ r) : t ∈ JA T o r v ↔ t ∈ T := by
 unfold JA
 cases e : T.findIdx? (Gd o r) with
 | some i =>
  obtain ⟨hi, h1, -⟩ := List.findIdx?_eq_some_iff_getElem.1 e
  simp only [List.getElem?_eq_getElem hi]
  have hr : T[i].r = r := (of_decide_eq_true h1).2
  constructor
  ·intro k
   rcases List.mem_or_eq_of_mem_set k with k | k
   ·exact k
   ·exact absurd (show t.r = r by rw [k]; exact hr) h
  ·intro k
   obtain ⟨j, hj, rfl⟩ := List.mem_iff_getElem.1 k
   have hji : i ≠ j := fun e => by subst e; exact h hr
   refine List.mem_iff_getElem.2 ⟨j, by rw [List.length_set]; exact hj, by rw [List.getElem_set_ne hji]⟩
 | none =>
  simp only [Zr]
  exact ⟨fun k => by rcases k with k | k; exact absurd (by rw [k]) h; exact k, .inr⟩
theorem Jei {C : List Ce} {k : Nat} : ∀ c ∈ C, ∃ d ∈ ZB C k, Alike c d ∧ (c.g = true → d.g = true) := fun c hc => by
 unfold ZB
 cases e : C[k]? with
 | none => exact ⟨c, hc, Alike.refl c, id⟩
 | some a =>
  obtain ⟨hk, e1⟩ := List.getElem?_eq_some_iff.1 e
  obtain ⟨j, hj, rfl⟩ := List.mem_iff_getElem.1 hc
  by_cases hjk : k = j
  ·subst hjk
   refine ⟨{ a with g := true }, List.mem_iff_getElem.2 ⟨k, by rw [List.length_set]; exact hj, by rw [List.getElem_set_self]⟩, ?_, fun _ => rfl⟩
   rw [e1]; exact ⟨rfl, rfl, rfl, rfl, rfl, rfl, rfl⟩
  ·exact ⟨C[j], List.mem_iff_getElem.2 ⟨j, by rw [List.length_set]; exact hj, by rw [List.getElem_set_ne hjk]⟩, Alike.refl _, id⟩
theorem Jdn {C : List Ce} {k : Nat} : ∀ d ∈ ZB C k, ∃ c ∈ C, Alike c d := fun d hd => by
 unfold ZB at hd
 cases e : C[k]? with
 | none => rw [e] at hd; exact ⟨d, hd, Alike.refl d⟩
 | some a =>
  rw [e] at hd
  obtain ⟨hk, e1⟩ := List.getElem?_eq_some_iff.1 e
  rcases List.mem_or_eq_of_mem_set hd with h | h
  ·exact ⟨d, h, Alike.refl d⟩
  ·exact ⟨a, by rw [← e1]; exact List.getElem_mem hk, by rw [h]; exact ⟨rfl, rfl, rfl, rfl, rfl, rfl, rfl⟩⟩
theorem Went.step {r : Int} {M S : Sta} (h : Went r M S) (A : Ac) (hr : A.r = r) : Went r M (Jv S A) := by
 unfold Jv
 by_cases hc : Zk S A = 0
 ·rw [if_pos hc]
  unfold Zk at hc
  by_cases h1 : SOk S ∧ AOk A
  ·rw [if_neg (by simpa using h1)] at hc
   by_cases h2 : Jd S.l A.r A.s = true
   ·rw [if_pos h2] at hc; cases hc
   obtain ⟨hS, hA⟩ := h1
   have hd := hA.1
   have hgt : S.l.getD r.toNat 0 < A.s := Int.not_le.1 fun k => h2 (JM.2 ⟨hS.1, hd, by rw [hr]; exact k⟩)
   have hlen : r.toNat < S.l.length := by rw [hS.1.1, ← hr]; have := hd.1; have := hd.2.1; omega
   have hnew : ¬ Jd M.l A.r A.s = true := fun k => by
    have := (JM.1 k).2.2
    rw [hr] at this; have := h.le; omega
   have g1 : ∀ i : Nat, (i : Int) ≠ r → (S.l.set A.r.toNat A.s).getD i 0 = M.l.getD i 0 := fun i hi => by
    rw [← h.kn i hi]
    have : A.r.toNat ≠ i := fun e => hi (by rw [← e, ← hr]; have := hd.1; omega)
    simp only [List.getD_eq_getElem?_getD, List.getElem?_set_ne this]
   have g2 : (S.l.set A.r.toNat A.s).getD r.toNat 0 = A.s := by
    rw [hr]; simp only [List.getD_eq_getElem?_getD, List.getElem?_set_self hlen, Option.getD_some]
   have g3 : M.l.getD r.toNat 0 < A.s := Int.lt_of_le_of_lt h.le hgt
   have putLiv : ∀ (b : Bool) (v : Int) (L : List Li), (∀ x ∈ L, x ∈ S.L) → ∀ x ∈ ZI (JE b v A) L, Jd M.l x.r x.s = true → x ∈ M.L := fun b v L hL x hx k => by
    rcases (Zr _ _ _ x).1 hx with e | e
    ·rw [e] at k; exact absurd k hnew
    ·exact h.liv x (hL x e) k
   have clr : ∀ (m : Bool), ∀ x ∈ Je S.L m A.o A.y A.l, x ∈ S.L := fun m x hx => (List.mem_filter.1 hx).1
   unfold doS
   split
   ·exact ⟨g1, by show _ ≤ _; rw [g2]; omega, fun e => by rw [g2] at e; omega, fun t ht => by rw [hr]; exact (JbS S.T A.o r A.v t ht).trans (h.tal t ht), h.liv, h.cel, h.old⟩
   split
   ·exact ⟨g1, by show _ ≤ _; rw [g2]; omega, fun e => by rw [g2] at e; omega, h.tal, putLiv _ _ _ (fun _ k => k), h.cel, h.old⟩
   split
   ·exact ⟨g1, by show _ ≤ _; rw [g2]; omega, fun e => by rw [g2] at e; omega, h.tal, fun x hx k => h.liv x (clr _ x hx) k, h.cel, h.old⟩
   split
   ·exact ⟨g1, by show _ ≤ _; rw [g2]; omega, fun e => by rw [g2] at e; omega, h.tal, putLiv _ _ _ (clr _), h.cel, h.old⟩
   split
   ·exact ⟨g1, by show _ ≤ _; rw [g2]; omega, fun e => by rw [g2] at e; omega, h.tal, fun x hx k => h.liv x (clr _ x hx) k, h.cel, h.old⟩
   split
   ·refine ⟨g1, by show _ ≤ _; rw [g2]; omega, fun e => by rw [g2] at e; omega, h.tal, h.liv, fun c hc => ?_, fun d hd k => ?_⟩
    ·obtain ⟨d, hd, k⟩ := h.cel c hc
     exact ⟨d, (Zr _ _ _ d).2 (.inr hd), k⟩
    ·rcases (Zr _ _ _ d).1 hd with e | e
     ·rw [e] at k; exact absurd k hnew
     ·exact h.old d e k
   ·refine ⟨g1, by show _ ≤ _; rw [g2]; omega, fun e => by rw [g2] at e; omega, h.tal, h.liv, fun c hc => ?_, fun d hd k => ?_⟩
    ·obtain ⟨d, hd, k1, k2⟩ := h.cel c hc
     obtain ⟨e, he, k3, k4⟩ := Jei d hd
     exact ⟨e, he, k1.trans k3, fun q => k4 (k2 q)⟩
    ·obtain ⟨c, hc, k1⟩ := Jdn d hd
     obtain ⟨e, he, k2⟩ := h.old c hc (by rw [k1.2.1, k1.2.2.1]; exact k)
     exact ⟨e, he, k2.trans k1⟩
  ·rw [if_pos (by simpa using h1)] at hc; cases hc
 ·rw [if_neg hc]; exact h
theorem Jd7 {M S R : Sta} (hM : SOk M) (hS : SOk S) (hR : SOk R) (h : Went 0 M S) (k : Went 1 M R) : Fit S R := by
 have hM1 := hM.1
 refine ⟨fun t e => ?_, fun a ha b hb e1 e2 => ?_⟩
 ·by_cases hr : 0 ≤ t.r ∧ t.r ≤ 2
  ·rcases (show t.r = 0 ∨ t.r = 1 ∨ t.r = 2 by omega) with h0 | h0 | h0
   ·rw [h0] at e
    have e2 := k.kn 0 (by decide)
    have : S = M := h.same (e2.symm.trans e.symm)
    rw [this]; exact (k.tal t (by rw [h0]; decide)).symm
   ·rw [h0] at e
    have e2 := h.kn 1 (by decide)
    have : R = M := k.same (e2.symm.trans e)
    rw [this]; exact h.tal t (by rw [h0]; decide)
   ·exact (h.tal t (by rw [h0]; decide)).trans (k.tal t (by rw [h0]; decide)).symm
  ·exact ⟨fun q => absurd (hS.rT t q) hr, fun q => absurd (hR.rT t q) hr⟩
 ·by_cases hk : Jd M.l a.r a.s = true
  ·obtain ⟨c, hc, q1⟩ := h.old a ha hk
   obtain ⟨d, hd, q2⟩ := k.old b hb (by rw [← e1, ← e2]; exact hk)
   have : c = d := JaQ hM.pC hc hd ⟨by rw [q1.2.1, q2.2.1, e1], by rw [q1.2.2.1, q2.2.2.1, e2]⟩
   rw [← this] at q2
   exact q1.symm.trans q2
  ·have ka := hS.kC a ha
   have kb := hR.kC b hb
   have r0 : a.r = 0 := Classical.byContradiction fun hne => hk (by
    obtain ⟨-, h2, h3⟩ := JM.1 ka
    exact JM.2 ⟨hM1, h2, by rw [← h.kn a.r.toNat (by have := h2.1; omega)]; exact h3⟩)
   have r1 : b.r = 1 := Classical.byContradiction fun hne => hk (by
    obtain ⟨-, h2, h3⟩ := JM.1 kb
    rw [e1, e2]
    exact JM.2 ⟨hM1, h2, by rw [← k.kn b.r.toNat (by have := h2.1; omega)]; exact h3⟩)
   omega
theorem Jdh {r : Int} {M S : Sta} (h : Went r M S) (hr : 0 ≤ r) : Over S M := by
 refine ⟨fun i => ?_, fun x hx => ?_, fun c hc => ?_⟩
 ·by_cases hi : (i : Int) = r
  ·have e : r.toNat = i := by omega
   have := h.le; rw [e] at this; exact this
  ·rw [h.kn i hi]; exact Int.le_refl _
 ·by_cases hk : Jd M.l x.r x.s = true
  ·exact .inl (h.liv x hx hk)
  ·exact .inr hk
 ·obtain ⟨d, hd, k1, k2⟩ := h.cel c hc
  exact ⟨d, hd, k1.2.1.symm, k1.2.2.1.symm, k2⟩
theorem JcL {r : Int} {M S : Sta} (hM : SOk M) (h : Went r M S) : Fit M S := by
 refine ⟨fun t e => ?_, fun a ha b hb e1 e2 => ?_⟩
 ·by_cases ht : t.r = r
  ·rw [ht] at e; rw [h.same e]
  ·exact (h.tal t ht).symm
 ·obtain ⟨c, hc, q⟩ := h.old b hb (by rw [← e1, ← e2]; exact hM.kC a ha)
  have : c = a := JaQ hM.pC hc ha ⟨by rw [q.2.1, e1], by rw [q.2.2.1, e2]⟩
  rw [← this]; exact q
end Go.Proofs.YtdknoflkingodaaGreat
namespace Go.Proofs.YtdknoflkingodaaGreat
open Value (int)
open IntKind (i64)
set_option maxRecDepth 100000
set_option linter.unusedVariables false
open Go.RowKit
attribute [-simp] Tryz.isAgg217 Tryz.sizeOf217
theorem JbJ (x y : Li) (ia ib : Bool) (c : List Int) (uc : Value) (pc : Nat) (w : World) (hc : IntsAt w uc c) (qc : pc < w.heap.size ∧ w.cell? ⟨pc, 0, none⟩ = some uc) :
  Calls Tryz.prog 184 #[.agg #[.bool x.m, .string x.o, .string x.y, int i64 x.v, int i64 x.r, int i64 x.s, .bool y.m, .string y.o, .string y.y, int i64 y.v, int i64 y.r, int i64 y.s, .bool ia, .bool ib], .pointer (some ⟨pc, 0, none⟩)] w fun e w' => Uw JeQ e (KT c ⟨x, y, ia, ib⟩) ∧ Below w.heap.size w w' := by
 have HIA : Hid (∀ wx, Below w.heap.size w wx → IntsAt wx uc c) := fun wx h => hc.below h
 have HPC : Hid (∀ wx, Below w.heap.size w wx → wx.cell? ⟨pc, 0, none⟩ = some uc) := fun wx h => by rw [h.cell (p := ⟨pc, 0, none⟩) qc.1]; exact qc.2
 obtain ⟨uca, ucc, rfl, -⟩ := hc
 obtain ⟨W, hW⟩ : ∃ W, W = (w.alloc (.cells #[.bool x.m, .string x.o, .string x.y, int i64 x.v, int i64 x.r, int i64 x.s, .bool y.m, .string y.o, .string y.y, int i64 y.v, int i64 y.r, int i64 y.s, .bool ia, .bool ib] 217)).alloc (.cells #[.bool false, .string ⟨#[]⟩, .string ⟨#[]⟩, int i64 0, int i64 0, int i64 0] 40) := ⟨_, rfl⟩
 have HL0 : Hid (Row W w.heap.size #[.bool x.m, .string x.o, .string x.y, int i64 x.v, int i64 x.r, int i64 x.s, .bool y.m, .string y.o, .string y.y, int i64 y.v, int i64 y.r, int i64 y.s, .bool ia, .bool ib] 217) := by rw [hW]; exact (Jb w _ _ rfl).alloc _
 have HZ0 : Hid (Row W (w.heap.size + 1) #[.bool false, .string ⟨#[]⟩, .string ⟨#[]⟩, int i64 0, int i64 0, int i64 0] 40) := by rw [hW]; exact Jb _ _ _ (by simp)
 have HB0 : Hid (Below w.heap.size w W) := by rw [hW]; exact ((Below.refl _ _).alloc (Nat.le_refl _) _).alloc (by simp) _
 have HWS : Hid (w.heap.size + 2 ≤ W.heap.size) := by show _ ≤ _; rw [hW]; simp
 have HF : Hid (Calls Tryz.prog 185 #[.agg #[.bool x.m, .string x.o, .string x.y, int i64 x.v, int i64 x.r, int i64 x.s, .bool y.m, .string y.o, .string y.y, int i64 y.v, int i64 y.r, int i64 y.s, .bool ia, .bool ib]] W fun e w' => e = .returned (.agg #[.bool (JI (⟨x, y, ia, ib⟩ : Bo Li)).m, .string (JI (⟨x, y, ia, ib⟩ : Bo Li)).o, .string (JI (⟨x, y, ia, ib⟩ : Bo Li)).y, int i64 (JI (⟨x, y, ia, ib⟩ : Bo Li)).v, int i64 (JI (⟨x, y, ia, ib⟩ : Bo Li)).r, int i64 (JI (⟨x, y, ia, ib⟩ : Bo Li)).s]) ∧ Below W.heap.size W w') := Ja7 x y ia ib W
 have HW : Hid ((w.alloc (.cells #[.bool x.m, .string x.o, .string x.y, int i64 x.v, int i64 x.r, int i64 x.s, .bool y.m, .string y.o, .string y.y, int i64 y.v, int i64 y.r, int i64 y.s, .bool ia, .bool ib] 217)).alloc (.cells #[.bool false, .string ⟨#[]⟩, .string ⟨#[]⟩, int i64 0, int i64 0, int i64 0] 40) = W) := hW.symm
 obtain ⟨cc, hcc⟩ : ∃ cc, cc = KT c ⟨x, y, ia, ib⟩ := ⟨_, rfl⟩
 have HC : Hid (cc = if decide (x = y) || !Jd c (JI (⟨x, y, ia, ib⟩ : Bo Li)).r (JI (⟨x, y, ia, ib⟩ : Bo Li)).s then some (JI (⟨x, y, ia, ib⟩ : Bo Li)) else none) := hcc
 rw [← hcc]
 generalize JI (⟨x, y, ia, ib⟩ : Bo Li) = z at *
 clear hW hcc qc
 have HLD : Hid ((loadCellsFrom ⟨w.heap.size, 0, none⟩ 0 14 #[]).run Tryz.prog W = .ok #[.bool x.m, .string x.o, .string x.y, int i64 x.v, int i64 x.r, int i64 x.s, .bool y.m, .string y.o, .string y.y, int i64 y.v, int i64 y.r, int i64 y.s, .bool ia, .bool ib] W) := Jq HL0.out rfl
 go_enter Tryz.func184, Tryz.ntmps184
 go_wp2_with fail
 rw [HW.out]
 simp only [Tryz.isAgg217, Tryz.sizeOf217, Result.andThen_ok, if_true, HLD.out]
 clear HLD
 go_wp2_with fail
 refine HF.out.mono ?_
 rintro e w1 ⟨rfl, hb1⟩
 have HL1 := Ja (HL0.out.next hb1)
 have HZ1 := Ja (HZ0.out.next hb1)
 have HB1 : Hid (Below w.heap.size w w1) := HB0.out.trans (hb1.mono HB0.out.size)
 have HS1 : Hid (w.heap.size + 2 ≤ w1.heap.size) := Nat.le_trans HWS.out hb1.size
 clear hb1 HL0 HZ0 HB0 HF HW HWS
 obtain ⟨W3, hW3⟩ : ∃ W, W = w1.alloc (.cells #[.bool z.m, .string z.o, .string z.y, int i64 z.v, int i64 z.r, int i64 z.s] 40) := ⟨_, rfl⟩
 have HL3 : Hid (Row W3 w.heap.size #[.bool x.m, .string x.o, .string x.y, int i64 x.v, int i64 x.r, int i64 x.s, .bool y.m, .string y.o, .string y.y, int i64 y.v, int i64 y.r, int i64 y.s, .bool ia, .bool ib] 217) := by show Row _ _ _ _; rw [hW3]; exact HL1.out.alloc _
 have HZ3 : Hid (Row W3 (w.heap.size + 1) #[.bool false, .string ⟨#[]⟩, .string ⟨#[]⟩, int i64 0, int i64 0, int i64 0] 40) := by show Row _ _ _ _; rw [hW3]; exact HZ1.out.alloc _
 have HN3 : Hid (Row W3 w1.heap.size #[.bool z.m, .string z.o, .string z.y, int i64 z.v, int i64 z.r, int i64 z.s] 40) := by show Row _ _ _ _; rw [hW3]; exact Jb _ _ _ rfl
 have HB3 : Hid (Below w.heap.size w W3) := by show Below _ _ _; rw [hW3]; exact HB1.out.alloc HB1.out.size _
 have HW3 : Hid (w1.alloc (.cells #[.bool z.m, .string z.o, .string z.y, int i64 z.v, int i64 z.r, int i64 z.s] 40) = W3) := hW3.symm
 obtain ⟨g1, hg1⟩ : ∃ g, g = w1.heap.size := ⟨_, rfl⟩
 have HS3 : Hid (w.heap.size + 2 ≤ g1) := by show _ ≤ _; rw [hg1]; exact HS1.out
 rw [← hg1] at HN3
 clear HS1 HL1 HZ1 HB1 hW3
 go_wp2_with fail
 rw [HW3.out, ← hg1]
 clear HW3 hg1
 have n0 : (w.heap.size = g1) = False := by have := HS3.out; simp; omega
 have n1 : (w.heap.size + 1 = g1) = False := by have := HS3.out; simp; omega
 have n2 : (g1 = w.heap.size) = False := by have := HS3.out; simp; omega
 have n3 : (g1 = w.heap.size + 1) = False := by have := HS3.out; simp; omega
 have hgd := GN
 have heq := GH x y
 have HKN : Hid (∀ wx, Below w.heap.size w wx → Calls Tryz.prog 145 #[.slice uca c.length ucc, .agg #[int i64 z.r, int i64 z.s]] wx fun e w' => e = .returned (.bool (Jd c z.r z.s)) ∧ Below wx.heap.size wx w') := fun wx h => Kq c _ z.r z.s wx (HIA.out wx h)
 have HST : Hid (∀ wx, Below W3.drew.heap.size W3.drew wx → wx.cell? ⟨w.heap.size, 0, none⟩ = some (.bool x.m) ∧ wx.cell? ⟨w.heap.size, 1, none⟩ = some (.string x.o) ∧ wx.cell? ⟨w.heap.size, 2, none⟩ = some (.string x.y) ∧ wx.cell? ⟨w.heap.size, 3, none⟩ = some (int i64 x.v) ∧ wx.cell? ⟨w.heap.size, 4, none⟩ = some (int i64 x.r) ∧ wx.cell? ⟨w.heap.size, 5, none⟩ = some (int i64 x.s) ∧ wx.cell? ⟨w.heap.size, 6, none⟩ = some (.bool y.m) ∧ wx.cell? ⟨w.heap.size, 7, none⟩ = some (.string y.o) ∧ wx.cell? ⟨w.heap.size, 8, none⟩ = some (.string y.y) ∧ wx.cell? ⟨w.heap.size, 9, none⟩ = some (int i64 y.v) ∧ wx.cell? ⟨w.heap.size, 10, none⟩ = some (int i64 y.r) ∧ wx.cell? ⟨w.heap.size, 11, none⟩ = some (int i64 y.s) ∧ wx.cell? ⟨g1, 0, none⟩ = some (.bool z.m) ∧ wx.cell? ⟨g1, 1, none⟩ = some (.string z.o) ∧ wx.cell? ⟨g1, 2, none⟩ = some (.string z.y) ∧ wx.cell? ⟨g1, 3, none⟩ = some (int i64 z.v) ∧ wx.cell? ⟨g1, 4, none⟩ = some (int i64 z.r) ∧ wx.cell? ⟨g1, 5, none⟩ = some (int i64 z.s) ∧ wx.cell? ⟨pc, 0, none⟩ = some (.slice uca c.length ucc)) := fun wx h => ⟨(Row.next (w := W3.drew) HL3.out.drew h).cell 0 rfl, (Row.next (w := W3.drew) HL3.out.drew h).cell 1 rfl, (Row.next (w := W3.drew) HL3.out.drew h).cell 2 rfl, (Row.next (w := W3.drew) HL3.out.drew h).cell 3 rfl, (Row.next (w := W3.drew) HL3.out.drew h).cell 4 rfl, (Row.next (w := W3.drew) HL3.out.drew h).cell 5 rfl, (Row.next (w := W3.drew) HL3.out.drew h).cell 6 rfl, (Row.next (w := W3.drew) HL3.out.drew h).cell 7 rfl, (Row.next (w := W3.drew) HL3.out.drew h).cell 8 rfl, (Row.next (w := W3.drew) HL3.out.drew h).cell 9 rfl, (Row.next (w := W3.drew) HL3.out.drew h).cell 10 rfl, (Row.next (w := W3.drew) HL3.out.drew h).cell 11 rfl, (Row.next (w := W3.drew) HN3.out.drew h).cell 0 rfl, (Row.next (w := W3.drew) HN3.out.drew h).cell 1 rfl, (Row.next (w := W3.drew) HN3.out.drew h).cell 2 rfl, (Row.next (w := W3.drew) HN3.out.drew h).cell 3 rfl, (Row.next (w := W3.drew) HN3.out.drew h).cell 4 rfl, (Row.next (w := W3.drew) HN3.out.drew h).cell 5 rfl, HPC.out wx (HB3.out.drew.trans (h.mono HB3.out.drew.size))⟩
 have HZS : Hid (∀ wx, Below W3.drew.heap.size W3.drew wx → Row wx (w.heap.size + 1) #[.bool false, .string ⟨#[]⟩, .string ⟨#[]⟩, int i64 0, int i64 0, int i64 0] 40) := fun wx h => Row.next (w := W3.drew) HZ3.out.drew h
 have hrefl := Below.refl W3.drew.heap.size W3.drew
 obtain ⟨r0, r1, r2, r3, r4, r5, r6, r7, r8, r9, r10, r11, l0, l1, l2, l3, l4, l5, pq⟩ : W3.cell? ⟨w.heap.size, 0, none⟩ = some (.bool x.m) ∧ W3.cell? ⟨w.heap.size, 1, none⟩ = some (.string x.o) ∧ W3.cell? ⟨w.heap.size, 2, none⟩ = some (.string x.y) ∧ W3.cell? ⟨w.heap.size, 3, none⟩ = some (int i64 x.v) ∧ W3.cell? ⟨w.heap.size, 4, none⟩ = some (int i64 x.r) ∧ W3.cell? ⟨w.heap.size, 5, none⟩ = some (int i64 x.s) ∧ W3.cell? ⟨w.heap.size, 6, none⟩ = some (.bool y.m) ∧ W3.cell? ⟨w.heap.size, 7, none⟩ = some (.string y.o) ∧ W3.cell? ⟨w.heap.size, 8, none⟩ = some (.string y.y) ∧ W3.cell? ⟨w.heap.size, 9, none⟩ = some (int i64 y.v) ∧ W3.cell? ⟨w.heap.size, 10, none⟩ = some (int i64 y.r) ∧ W3.cell? ⟨w.heap.size, 11, none⟩ = some (int i64 y.s) ∧ W3.cell? ⟨g1, 0, none⟩ = some (.bool z.m) ∧ W3.cell? ⟨g1, 1, none⟩ = some (.string z.o) ∧ W3.cell? ⟨g1, 2, none⟩ = some (.string z.y) ∧ W3.cell? ⟨g1, 3, none⟩ = some (int i64 z.v) ∧ W3.cell? ⟨g1, 4, none⟩ = some (int i64 z.r) ∧ W3.cell? ⟨g1, 5, none⟩ = some (int i64 z.s) ∧ W3.cell? ⟨pc, 0, none⟩ = some (.slice uca c.length ucc) := HST.out W3.drew hrefl
 obtain ⟨z0, z1, z2, z3, z4, z5⟩ := ZT HZ3.out
 obtain ⟨f0, f1, f2, f3, f4, f5⟩ := Jfo HZ3.out
 by_cases hxy : x = y
 ·have hd : decide (x = y) = true := by simp [hxy]
  have HE : Hid (cc = some z) := by show _ = _; rw [HC.out, hd]; simp
  clear HC hxy HKN HIA HPC HST
  go_region
  go_wp2
  exact bodyPost_ret (Jee rfl rfl rfl rfl (Row.drew (((((((HZ3.out.setL 0 _).setL 1 _).setL 2 _).setL 3 _).setL 4 _).setL 5 _)))) rfl ⟨⟨z, true, rfl, by rw [HE.out]; rfl⟩, Below.drew ((((((HB3.out.setCell (by simp) _).setCell (by simp) _).setCell (by simp) _).setCell (by simp) _).setCell (by simp) _).setCell (by simp) _)⟩
 ·have hd : decide (x = y) = false := by simp [hxy]
  have HE : Hid (cc = if !Jd c z.r z.s then some z else none) := by show _ = _; rw [HC.out, hd]; simp
  clear HC hxy
  go_region_with (first | (go_at_call 145; refine (HKN.out W3.drew HB3.out.drew).mono ?_; rintro e w4 ⟨rfl, hb4⟩; obtain ⟨s0, s1, s2, s3, s4, s5, s6, s7, s8, s9, s10, s11, m0, m1, m2, m3, m4, m5, qq⟩ := HST.out w4 hb4; have HZ4 := Ja (HZS.out w4 hb4); have HB4 := Ja (HB3.out.drew.trans (hb4.mono HB3.out.drew.size)); have y0 := HZ4.out.cell 0 rfl; have h0 := HZ4.out.free 0; have y1 := HZ4.out.cell 1 rfl; have h1 := HZ4.out.free 1; have y2 := HZ4.out.cell 2 rfl; have h2 := HZ4.out.free 2; have y3 := HZ4.out.cell 3 rfl; have h3 := HZ4.out.free 3; have y4 := HZ4.out.cell 4 rfl; have h4 := HZ4.out.free 4; have y5 := HZ4.out.cell 5 rfl; have h5 := HZ4.out.free 5))
  all_goals go_wp2
  all_goals exact bodyPost_ret (Jee rfl rfl rfl rfl (((((((HZ4.out.setL 0 _).setL 1 _).setL 2 _).setL 3 _).setL 4 _).setL 5 _))) rfl ⟨⟨z, !Jd c z.r z.s, rfl, HE.out⟩, ((((((HB4.out.setCell (by simp) _).setCell (by simp) _).setCell (by simp) _).setCell (by simp) _).setCell (by simp) _).setCell (by simp) _)⟩
end Go.Proofs.YtdknoflkingodaaGreat
