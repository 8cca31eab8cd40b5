/- The specification reads an act. -/
import Derived.BigRegion
import Derived.Test.YtahdgagipmpcgaaARead5
import Derived.Test.YtahdgagipmpcgaaAText5
namespace Go.Proofs.Ytahdgagipmpcgaa
set_option maxRecDepth 100000
set_option linter.unusedVariables false
open Go.RowKit

theorem at1_none (s : ByteArray) : at1 s none = none := rfl
theorem atS_none (s : ByteArray) : atS s none = none := rfl
theorem rdE_out {s : ByteArray} {a : Int} (h : a < 0 ∨ s.size < a) : rdE s (some a) = none := by
  have h0 : at1 s (some a) = none := by
    have hl : s.data.toList.length = s.size := by simp
    have hrv : rv s.data.toList a = none := rv_no (by omega)
    simp only [at1, numM, hrv]
  unfold rdE atK
  rw [h0]
  rfl

set_option maxHeartbeats 8000000 in
theorem specReadAct_out (s : ByteArray) (hs : s.size ≤ 1048576) (a : Int) (w : World) (h : a < 0 ∨ s.size < a) :
    Calls Try.prog 50 #[.string s, .int .i64 a] w fun e w' => e = .returned (.tuple #[zAc.val (.slice none 0 0), .int .i64 0, .bool false]) ∧ Below w.heap.size w w' := by
  have hb : ∀ o1, Below w.heap.size w (w.alloc o1) := fun o1 => (Below.refl _ _).alloc (Nat.le_refl _) _
  have hz : ActAt (w.alloc (.cells zAct 75)) w.heap.size zAc (.slice none 0 0) := row_new w _ _ rfl
  unfold zAct at hz
  by_cases h0 : a < 0
  · clear h
    go_enter Try.func50, Try.ntmps50
    go_wp2
    exact bodyPost_ret (ret_act3 rfl rfl rfl rfl hz) rfl ⟨rfl, hb _⟩
  · have h1 : (s.size : Int) < a := by omega
    clear h
    go_enter Try.func50, Try.ntmps50
    go_wp2
    exact bodyPost_ret (ret_act3 rfl rfl rfl rfl hz) rfl ⟨rfl, hb _⟩

set_option maxHeartbeats 8000000 in
theorem specReadAct_in (s : ByteArray) (hs : s.size ≤ 1048576) (a : Int) (w : World) (h0 : ¬ a < 0) (h1 : ¬ (s.size : Int) < a) :
    Calls Try.prog 50 #[.string s, .int .i64 a] w fun e w' => ∃ aa ca, e = .returned (.tuple #[(rdR s a).1.val (.slice aa (rdR s a).1.l.length ca), .int .i64 (rdR s a).2.1, .bool (rdR s a).2.2]) ∧ IntsAt w' (.slice aa (rdR s a).1.l.length ca) (rdR s a).1.l ∧ Below w.heap.size w w' := by
  have HC : Hid (∀ wx, RdS wx (w.heap.size + 1) s (some a) → Calls Try.prog 121 #[.pointer (some ⟨w.heap.size + 1, 0, none⟩)] wx fun e w' => ∃ aa ca, e = .returned ((rdA s (some a)).val (.slice aa 3 ca)) ∧ w'.ownsRow wx.heap.size 3 1 (.slice aa 3 ca) 3 (intV (rdA s (some a)).l) ∧ RdS w' (w.heap.size + 1) s (rdE s (some a)) ∧ wx.grownBy w' (some (w.heap.size + 1))) := fun wx h => specAct_calls s hs _ _ wx h
  have hlen := rdA_len s (some a)
  have hlim := rdA_lim s (some a)
  have HN1 : Hid (rdE s (some a) = none → rdR s a = (zAc, 0, false)) := rdR_none
  have HN2 : Hid (¬ AOk (rdA s (some a)) → rdR s a = (zAc, 0, false)) := rdR_no
  have HN3 : Hid (∀ j, rdE s (some a) = some j → AOk (rdA s (some a)) → rdR s a = (rdA s (some a), j, true)) := fun j => rdR_yes
  have HSG : Hid (∀ j, rdE s (some a) = some j → ∃ x y : Nat, some a = some (x : Int) ∧ j = y ∧ x ≤ y ∧ y ≤ s.size ∧ actB (rdA s (some a)) = seg s.data.toList x y) := fun j hj => rdE_some hj
  generalize rdA s (some a) = A at *
  generalize rdE s (some a) = q at *
  generalize rdR s a = R at *
  obtain ⟨W, hW⟩ : ∃ W, W = (w.alloc (.cells zAct 75)).alloc (.cells #[.string s, .int .i64 a, .bool false] 145) := ⟨_, rfl⟩
  have HO : Hid (Row W w.heap.size zAct 75) := by rw [hW]; exact (row_new w _ _ rfl).alloc _
  have HR : Hid (RdS W (w.heap.size + 1) s (some a)) := by rw [hW]; show Row _ _ _ _; exact row_new _ _ _ (by simp)
  have HG : Hid (Below w.heap.size w W) := by rw [hW]; exact ((Below.refl _ _).alloc (Nat.le_refl _) _).alloc (by simp) _
  have hWs : W.heap.size = w.heap.size + 1 + 1 := by rw [hW]; simp
  have HW : Hid ((w.alloc (.cells zAct 75)).alloc (.cells #[.string s, .int .i64 a, .bool false] 145) = W) := hW.symm
  unfold zAct at HW
  clear hW
  go_enter Try.func50, Try.ntmps50
  go_wp2_with fail
  rw [HW.out]
  clear HW
  refine (HC.out _ HR.out).mono ?_
  rintro e w1 ⟨ua, uc, rfl, ho, hr, hg⟩
  have hs1 : w.heap.size + 1 + 1 ≤ w1.heap.size := by have := hg.size; omega
  unfold Ac.val
  obtain ⟨X1, hX1⟩ : ∃ X1, X1 = w1.alloc (.cells #[.int .i64 A.r, .int .i64 A.s, .int .i64 A.t, .slice ua 3 uc, .int .i64 A.k, .string A.o, .string A.y, .int .i64 A.v, .int .i64 A.x, .int .i64 A.z] 75) := ⟨_, rfl⟩
  have HX : Hid (w1.alloc (.cells #[.int .i64 A.r, .int .i64 A.s, .int .i64 A.t, .slice ua 3 uc, .int .i64 A.k, .string A.o, .string A.y, .int .i64 A.v, .int .i64 A.x, .int .i64 A.z] 75) = X1) := hX1.symm
  replace HO : Hid (Row X1 w.heap.size zAct 75) := by rw [hX1]; exact (HO.out.grown hg (by simp <;> omega)).alloc _
  have HT : Hid (Row X1 w1.heap.size #[.int .i64 A.r, .int .i64 A.s, .int .i64 A.t, .slice ua 3 uc, .int .i64 A.k, .string A.o, .string A.y, .int .i64 A.v, .int .i64 A.x, .int .i64 A.z] 75) := by rw [hX1]; exact row_new _ _ _ rfl
  replace HR : Hid (RdS X1 (w.heap.size + 1) s q) := by rw [hX1]; exact RdS.grown hr (grown_alloc w1 _ none) (by simp)
  have HG1 : Below w.heap.size w w1 := HG.out.grown hg (by omega) (fun k hk => by cases hk; omega)
  replace HG : Hid (Below w.heap.size w X1) := by rw [hX1]; exact HG1.alloc (by omega) _
  have HOW : Hid (X1.ownsRow W.heap.size 3 1 (.slice ua 3 uc) 3 (intV A.l)) := by rw [hX1]; exact own_below ho ((Below.refl _ _).alloc (Nat.le_refl _) _)
  have HAT : Hid (∀ wx, IntsAt wx (.slice ua 3 uc) A.l → Calls Try.prog 119 #[.agg #[.int .i64 A.r, .int .i64 A.s, .int .i64 A.t, .slice ua 3 uc, .int .i64 A.k, .string A.o, .string A.y, .int .i64 A.v, .int .i64 A.x, .int .i64 A.z]] wx fun e w' => e = .returned (.tuple #[.string (actT A).1, .bool (actT A).2]) ∧ Below wx.heap.size wx w') := fun wx h => specActText_calls A _ wx hlim h
  have HLEN : Hid (A.l.length = 3) := hlen
  clear ho hr hg hX1 HG1 hlen hlim HC
  go_wp2_with fail
  rw [HX.out]
  clear HX
  refine (HAT.out _ (IntsAt.own HOW.out HLEN.out)).mono ?_
  rintro e wz ⟨rfl, hbz⟩
  replace HO : Hid (Row wz w.heap.size zAct 75) := HO.out.next hbz
  replace HG : Hid (Below w.heap.size w wz) := HG.out.trans (hbz.mono HG.out.size)
  replace HT : Hid (Row wz w1.heap.size #[.int .i64 A.r, .int .i64 A.s, .int .i64 A.t, .slice ua 3 uc, .int .i64 A.k, .string A.o, .string A.y, .int .i64 A.v, .int .i64 A.x, .int .i64 A.z] 75) := HT.out.next hbz
  replace HR : Hid (RdS wz (w.heap.size + 1) s q) := HR.out.grown (grownBy_below hbz none) (by simp)
  replace HOW : Hid (wz.ownsRow W.heap.size 3 1 (.slice ua 3 uc) 3 (intV A.l)) := own_below HOW.out hbz
  have HZ : Hid (∀ wx, Row wx w.heap.size zAct 75 → Below w.heap.size w wx → ActAt (store10 wx w.heap.size zAc (.slice none 0 0)) w.heap.size zAc (.slice none 0 0) ∧ Below w.heap.size w (store10 wx w.heap.size zAc (.slice none 0 0))) := fun wx h1 h2 => ⟨store10_at h1 _ _, store10_below h2 (Nat.le_refl _) _ _⟩
  clear hbz HAT
  obtain ⟨o0, o1, o2, o3, o4, o5, o6, o7, o8, o9⟩ := Row.ten HO.out
  obtain ⟨g0, g1, g2, g3, g4, g5, g6, g7, g8, g9⟩ := HO.out.frees
  have HNIL : Hid (∀ wx : World, IntsAt wx (.slice none 0 0) []) := fun wx => ⟨none, 0, rfl, fun h => by simp at h⟩
  cases q with
  | none =>
    have HQ : Hid (R = (zAc, 0, false)) := HN1.out rfl
    obtain ⟨ax, hrow⟩ := HR.out
    have d2 : wz.cell? ⟨w.heap.size + 1, 2, none⟩ = some (.bool true) := hrow.cell 2 rfl
    clear hrow HN1 HN2 HN3 HSG
    generalize (actT A).1 = b1 at *
    generalize (actT A).2 = b2 at *
    go_wp2
    rw [store10_zero]
    have HS := HZ.out wz HO.out HG.out
    exact bodyPost_ret (ret_act3 rfl rfl rfl rfl HS.1) rfl ⟨none, 0, by rw [HQ.out]; rfl, by rw [HQ.out]; exact HNIL.out _, HS.2⟩
  | some j =>
    have hrow : Row wz (w.heap.size + 1) #[.string s, .int .i64 j, .bool false] 145 := HR.out
    have d1 : wz.cell? ⟨w.heap.size + 1, 1, none⟩ = some (.int .i64 j) := hrow.cell 1 rfl
    have d2 : wz.cell? ⟨w.heap.size + 1, 2, none⟩ = some (.bool false) := hrow.cell 2 rfl
    clear hrow HN1
    by_cases hok : AOk A
    · have HQ : Hid (R = (A, j, true)) := HN3.out j rfl hok
      have hb1 : actT A = (ba (actB A), true) := by unfold actT; rw [if_pos hok]
      rw [hb1]
      obtain ⟨x, y, hx, hy, hxy, hys, hseg⟩ := HSG.out j rfl
      obtain rfl : a = x := by simpa using hx
      subst hy
      have hbe : ba (actB A) = s.extract x y := by
        rw [hseg, ← extract_list, ba_of]
      dsimp only
      rw [hbe]
      have hbq := beq_str (s.extract x y) (s.extract x y) rfl
      obtain ⟨t0, t1, t2, t3, t4, t5, t6, t7, t8, t9⟩ := Row.ten HT.out
      have hx0 : ((x : Int)) ≤ y := by omega
      have hx1 : ((y : Int)) ≤ s.size := by omega
      clear hok HN2 HN3 HSG hb1 hseg hbe hx
      go_wp2
      go_region
      all_goals go_wp2
      all_goals rw [store10_eq]
      have HZ1 : ActAt (store10 wz w.heap.size A (.slice ua 3 uc)).drew w.heap.size A (.slice ua 3 uc) := (show ActAt (store10 wz w.heap.size A (.slice ua 3 uc)) w.heap.size A (.slice ua 3 uc) from store10_at HO.out A _).drew
      have HOW3 : (store10 wz w.heap.size A (.slice ua 3 uc)).drew.ownsRow W.heap.size 3 1 (.slice ua 3 uc) 3 (intV A.l) := own_below (own_store10 HOW.out (by omega) A _) (Below.refl _ _).drew
      have HG3 : Below w.heap.size w (store10 wz w.heap.size A (.slice ua 3 uc)).drew := (store10_below HG.out (Nat.le_refl _) A _).drew
      generalize (store10 wz w.heap.size A (.slice ua 3 uc)).drew = w9 at *
      exact bodyPost_ret (ret_act3 rfl rfl rfl rfl HZ1) rfl ⟨ua, uc, by rw [HQ.out]; show _ = Ending.returned (.tuple #[A.val (.slice ua A.l.length uc), _, _]); rw [HLEN.out]; rfl, by rw [HQ.out]; show IntsAt _ (.slice ua A.l.length uc) A.l; rw [HLEN.out]; exact IntsAt.own HOW3 HLEN.out, HG3⟩
    · have HQ : Hid (R = (zAc, 0, false)) := HN2.out hok
      have hb1 : actT A = (ByteArray.empty, false) := by unfold actT; rw [if_neg hok]
      rw [hb1]
      clear hok HN2 HN3 HSG hb1
      go_wp2
      rw [store10_zero]
      have HS := HZ.out wz HO.out HG.out
      exact bodyPost_ret (ret_act3 rfl rfl rfl rfl HS.1) rfl ⟨none, 0, by rw [HQ.out]; rfl, by rw [HQ.out]; exact HNIL.out _, HS.2⟩

end Go.Proofs.Ytahdgagipmpcgaa
