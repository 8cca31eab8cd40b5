/- A right edit is drawn. -/
import Derived.Test.YtdknoflkingodaaGreatQ19
import Derived.Test.YtdknoflkingodaaGreatQ34
set_option maxHeartbeats 16000000
namespace Go.Proofs.YtdknoflkingodaaGreat
open Value (int)
open IntKind (i64)
set_option maxRecDepth 100000
set_option linter.unusedVariables false
open Go.RowKit
theorem Jar {w : World} {g : Nat} {T : TypeId} {l : List Int} {a b : Int} (h : Row w g (l.map (Value.int .i64)).toArray T) (hl : ∀ x ∈ l, a ≤ x ∧ x ≤ b) : ∀ i, i < l.length → ∀ z : Int, w.cell? ⟨g, i, none⟩ = some (int i64 z) → a ≤ z ∧ z ≤ b := by
 intro i hi z hz
 have h1 := h.cell i (v := int i64 l[i]) (by simp [hi])
 rw [h1] at hz
 injection hz with hz
 injection hz with _ hz
 rw [← hz]
 exact hl _ (List.getElem_mem hi)
theorem Vt {w : World} {g : Nat} {T : TypeId} {l : List Int} (h : Row w g (l.map (Value.int .i64)).toArray T) : ∀ i, i < l.length → ∃ z : Int, w.cell? ⟨g, i, none⟩ = some (int i64 z) := fun i hi => ⟨l[i], h.cell i (by simp [hi])⟩
theorem Jft (P : ByteArray → Prop) (m g cap : Nat) (h0 : 0 < m) (hm : m ≤ 1000) (B p : Nat) (v : Value) (n : Nat) (hn : n ≤ 1048576) (w : World) (hc : Cur w B p v n) (hgp : g ≠ p) (hg : ∀ i, i < m → ∃ z : ByteArray, P z ∧ w.cell? ⟨g, i, none⟩ = some (.string z)) :
  Calls Tryz.prog 122 #[.pointer (some ⟨p, 0, none⟩), .slice (some ⟨g, 0, none⟩) m cap] w fun e w' => ∃ z : ByteArray, P z ∧ e = .returned (.string z) ∧ Drew w w' B p v n := by
 go_enter Tryz.func122, Tryz.ntmps122
 go_wp2_with fail
 refine (KU m h0 (by omega) B p v n hn _ hc).mono ?_
 rintro e w1 ⟨x, rfl, hx, hd1⟩
 obtain ⟨z, hz8, hz⟩ := hg x hx
 have c0 := hd1.2.cell (a := ⟨g, x, none⟩) hz (by simpa using hgp)
 have x0 : (0 : Int) ≤ (x : Int) := Int.natCast_nonneg _
 have x1 : (x : Int) < (m : Int) := by omega
 have HZ := Ja hz8
 clear hz8
 go_wp2
 go_ret
 exact ⟨z, HZ.out, rfl, hd1⟩
theorem Y4 (w : World) (a b c : ByteArray) (e : TypeId) (h : NOk a ∧ NOk b ∧ NOk c) : ∀ i, i < 3 → ∃ z : ByteArray, NOk z ∧ (w.alloc (.cells #[.string a, .string b, .string c] e)).cell? ⟨w.heap.size, i, none⟩ = some (.string z) := by
 intro i hi
 have hr : Row (w.alloc (.cells #[.string a, .string b, .string c] e)) w.heap.size #[.string a, .string b, .string c] e := Jb _ _ _ rfl
 match i, hi with
 | 0, _ => exact ⟨a, h.1, hr.cell 0 rfl⟩
 | 1, _ => exact ⟨b, h.2.1, hr.cell 1 rfl⟩
 | 2, _ => exact ⟨c, h.2.2, hr.cell 2 rfl⟩
theorem JkK (B p : Nat) (v : Value) (n : Nat) (hn : n ≤ 1048576) (w : World) (hB : B ≤ w.heap.size) (hc : Cur w B p v n) :
  Calls Tryz.prog 64 #[.pointer (some ⟨p, 0, none⟩)] w fun e w' => ∃ z : ByteArray, NOk z ∧ e = .returned (.string z) ∧ Drew w w' B p v n := by
 have hp := hc.lt
 have hd := (Drew.refl hc).alloc hp hB (.cells #[.string { data := #[97] }, .string { data := #[98] }, .string { data := #[116, 97, 108, 108, 121] }] 9)
 have HG := Ja (Y4 w ({ data := #[97] }) ({ data := #[98] }) ({ data := #[116, 97, 108, 108, 121] }) 9 ⟨by decide, by decide, by decide⟩)
 go_enter Tryz.func64, Tryz.ntmps64
 go_wp2_with fail
 refine (Jft NOk 3 w.heap.size 3 (by omega) (by omega) B p v n hn _ hd.1 (by omega) HG.out).mono ?_
 rintro e w1 ⟨z, hz, rfl, hd1⟩
 have hd2 := hd.trans hd1
 have HZ := Ja hz
 clear hd hd1 HG hz
 go_wp2
 go_ret
 exact ⟨z, HZ.out, rfl, hd2⟩
theorem JeW (B p : Nat) (v : Value) (n : Nat) (hn : n ≤ 1048576) (w : World) (hB : B ≤ w.heap.size) (hc : Cur w B p v n) :
  Calls Tryz.prog 65 #[.pointer (some ⟨p, 0, none⟩)] w fun e w' => ∃ z : ByteArray, NOk z ∧ e = .returned (.string z) ∧ Drew w w' B p v n := by
 have hp := hc.lt
 have hd := (Drew.refl hc).alloc hp hB (.cells #[.string { data := #[120] }, .string { data := #[121] }, .string { data := #[122, 111, 111] }] 9)
 have HG := Ja (Y4 w ({ data := #[120] }) ({ data := #[121] }) ({ data := #[122, 111, 111] }) 9 ⟨by decide, by decide, by decide⟩)
 go_enter Tryz.func65, Tryz.ntmps65
 go_wp2_with fail
 refine (Jft NOk 3 w.heap.size 3 (by omega) (by omega) B p v n hn _ hd.1 (by omega) HG.out).mono ?_
 rintro e w1 ⟨z, hz, rfl, hd1⟩
 have hd2 := hd.trans hd1
 have HZ := Ja hz
 clear hd hd1 HG hz
 go_wp2
 go_ret
 exact ⟨z, HZ.out, rfl, hd2⟩
theorem Jfp (B p : Nat) (v : Value) (n : Nat) (hn : n ≤ 1048576) (w : World) (hB : B ≤ w.heap.size) (hc : Cur w B p v n) :
  Calls Tryz.prog 139 #[.pointer (some ⟨p, 0, none⟩)] w fun e w' => ∃ (k : Int) (o y : ByteArray) (z q : Int), (EOk k o y z q ∧ q < 3) ∧ e = .returned (.agg #[int i64 k, .string o, .string y, int i64 z, int i64 q]) ∧ Drew w w' B p v n := by
 have hp := hc.lt
 have HPN := Ja (show ∀ (q : Nat), w.heap.size ≤ q → (some p : Option Nat) ≠ some q from fun q hq e => by cases e; omega)
 obtain ⟨W, hW⟩ : ∃ W, W = (w.alloc (.cells #[int i64 0, .string ⟨#[]⟩, .string ⟨#[]⟩, int i64 0, int i64 0] 113)).alloc (.cells #[int i64 1, int i64 2, int i64 3, int i64 4, int i64 5, int i64 6, int i64 6, int i64 6, int i64 7] 3) := ⟨_, rfl⟩
 have HO : Hid (Row W w.heap.size #[int i64 0, .string ⟨#[]⟩, .string ⟨#[]⟩, int i64 0, int i64 0] 113) := by rw [hW]; exact (Jb w _ _ rfl).alloc _
 have HK : Hid (Row W (w.heap.size + 1) (([1, 2, 3, 4, 5, 6, 6, 6, 7] : List Int).map (Value.int .i64)).toArray 3) := by rw [hW]; exact Jb _ _ _ (by simp)
 have HD : Hid (Drew w W B p v n) := by rw [hW]; exact ((Drew.refl hc).alloc hp hB _).alloc hp hB _
 have hWs : w.heap.size + 1 ≤ W.heap.size := by rw [hW]; simp
 have HW : Hid ((w.alloc (.cells #[int i64 0, .string ⟨#[]⟩, .string ⟨#[]⟩, int i64 0, int i64 0] 113)).alloc (.cells #[int i64 1, int i64 2, int i64 3, int i64 4, int i64 5, int i64 6, int i64 6, int i64 6, int i64 7] 3) = W) := hW.symm
 clear hW
 go_enter Tryz.func139, Tryz.ntmps139
 go_wp2_with fail
 rw [HW.out]
 clear HW
 refine (Jcu 9 (w.heap.size + 1) 9 (by omega) (by omega) B p v n hn _ HD.out.1 (by omega) (Vt HK.out)).mono ?_
 rintro e w1 ⟨k, ⟨i, hi, hik⟩, rfl, hd⟩
 have hk := Jar HK.out (a := 1) (b := 7) (by decide) i hi k hik
 have s1 := hd.2.size
 replace HO : Hid (Row w1 w.heap.size #[int i64 0, .string ⟨#[]⟩, .string ⟨#[]⟩, int i64 0, int i64 0] 113) := HO.out.grown hd.2 (HPN.out _ (Nat.le_refl _))
 replace HD : Hid (Drew w w1 B p v n) := HD.out.trans hd
 clear hd hik hi HK
 go_wp2_with fail
 refine (JkK B p v n hn _ (by omega) HD.out.1).mono ?_
 rintro e w5 ⟨o, hno, rfl, hd⟩
 have HNO := Ja hno
 have s5 := hd.2.size
 replace HO : Hid (Row w5 w.heap.size #[int i64 0, .string ⟨#[]⟩, .string ⟨#[]⟩, int i64 0, int i64 0] 113) := HO.out.grown hd.2 (HPN.out _ (Nat.le_refl _))
 replace HD : Hid (Drew w w5 B p v n) := HD.out.trans hd
 clear hd hno
 obtain ⟨X, hX⟩ : ∃ X, X = w5.alloc (.cells #[int i64 k, .string o, .string ⟨#[]⟩, int i64 0, int i64 0] 113) := ⟨_, rfl⟩
 have sX : w5.heap.size + 1 ≤ X.heap.size := by rw [hX]; simp
 have HT : Hid (Row X w5.heap.size #[int i64 k, .string o, .string ⟨#[]⟩, int i64 0, int i64 0] 113) := by rw [hX]; exact Jb _ _ _ rfl
 replace HO : Hid (Row X w.heap.size #[int i64 0, .string ⟨#[]⟩, .string ⟨#[]⟩, int i64 0, int i64 0] 113) := by rw [hX]; exact HO.out.alloc _
 replace HD : Hid (Drew w X B p v n) := by rw [hX]; exact HD.out.alloc hp hB _
 have HX : Hid (w5.alloc (.cells #[int i64 k, .string o, .string ⟨#[]⟩, int i64 0, int i64 0] 113) = X) := hX.symm
 have c0 := HT.out.cell 0 rfl
 rw [hX] at c0
 clear hX
 go_wp2_with fail
 rw [HX.out]
 clear HX c0
 have hKK : k = 1 ∨ k = 2 ∨ k = 3 ∨ k = 4 ∨ k = 5 ∨ k = 6 ∨ k = 7 := by omega
 rcases hKK with rfl | rfl | rfl | rfl | rfl | rfl | rfl
 ·refine (J5 1 _).mono ?_
  rintro e wq ⟨rfl, hq⟩
  replace hq := hq.symm
  subst hq
  have c0 := HT.out.cell 0 rfl
  go_wp2_with fail
  clear c0
  refine (JV 1 _).mono ?_
  rintro e wq ⟨rfl, hq⟩
  replace hq := hq.symm
  subst hq
  obtain ⟨v0, hv0⟩ : ∃ x, x = X.alloc (.cells #[int i64 0, int i64 1, int i64 7, int i64 999999] 3) := ⟨_, rfl⟩
  have s_v0 : X.heap.size + 1 ≤ v0.heap.size := by rw [hv0]; simp
  have HF : Hid (Row v0 X.heap.size (([0, 1, 7, 999999] : List Int).map (Value.int .i64)).toArray 3) := by rw [hv0]; exact Jb _ _ _ rfl
  replace HT : Hid (Row v0 w5.heap.size #[int i64 1, .string o, .string ⟨#[]⟩, int i64 0, int i64 0] 113) := by rw [hv0]; exact HT.out.alloc _
  replace HO : Hid (Row v0 w.heap.size #[int i64 0, .string ⟨#[]⟩, .string ⟨#[]⟩, int i64 0, int i64 0] 113) := by rw [hv0]; exact HO.out.alloc _
  replace HD : Hid (Drew w v0 B p v n) := by rw [hv0]; exact HD.out.alloc hp hB _
  have HX : Hid (X.alloc (.cells #[int i64 0, int i64 1, int i64 7, int i64 999999] 3) = v0) := hv0.symm
  clear hv0
  go_wp2_with fail
  rw [HX.out]
  clear HX
  refine (Jcu 4 X.heap.size 4 (by omega) (by omega) B p v n hn _ HD.out.1 (by omega) (Vt HF.out)).mono ?_
  rintro e y1 ⟨vz, ⟨i, hi, hik⟩, rfl, hd⟩
  have hvz := Jar HF.out (a := 0) (b := 999999) (by decide) i hi vz hik
  clear hik hi HF
  have s_y1 := hd.2.size
  replace HT : Hid (Row y1 w5.heap.size #[int i64 1, .string o, .string ⟨#[]⟩, int i64 0, int i64 0] 113) := HT.out.grown hd.2 (HPN.out _ (by omega))
  replace HO : Hid (Row y1 w.heap.size #[int i64 0, .string ⟨#[]⟩, .string ⟨#[]⟩, int i64 0, int i64 0] 113) := HO.out.grown hd.2 (HPN.out _ (Nat.le_refl _))
  replace HD : Hid (Drew w y1 B p v n) := HD.out.trans hd
  clear hd
  have ff := HT.out.free 3
  have cc := HT.out.cell 3 rfl
  obtain ⟨z2, hz2⟩ : ∃ x, x = y1.setCell ⟨w5.heap.size, 3, none⟩ (int i64 vz) := ⟨_, rfl⟩
  have s_z2 : y1.heap.size ≤ z2.heap.size := by rw [hz2]; simp [World.setCell]
  replace HT : Hid (Row z2 w5.heap.size #[int i64 1, .string o, .string ⟨#[]⟩, int i64 vz, int i64 0] 113) := by rw [hz2]; exact HT.out.e3 _
  replace HO : Hid (Row z2 w.heap.size #[int i64 0, .string ⟨#[]⟩, .string ⟨#[]⟩, int i64 0, int i64 0] 113) := by rw [hz2]; exact HO.out.other (by simp <;> omega) _
  replace HD : Hid (Drew w z2 B p v n) := by rw [hz2]; exact HD.out.set hp hB (by omega) _ _
  have HX : Hid (y1.setCell ⟨w5.heap.size, 3, none⟩ (int i64 vz) = z2) := hz2.symm
  clear hz2
  have c0 := HT.out.cell 0 rfl
  rw [← HX.out] at c0
  obtain ⟨t0, t1, t2, t3, t4⟩ := Row.fiveC HT.out
  obtain ⟨o0, o1, o2, o3, o4⟩ := Row.fiveC HO.out
  have g0 := HO.out.free 0
  have g1 := HO.out.free 1
  have g2 := HO.out.free 2
  have g3 := HO.out.free 3
  have g4 := HO.out.free 4
  rw [← HX.out] at t0 t1 t2 t3 t4 o0 o1 o2 o3 o4 g0 g1 g2 g3 g4
  clear c0
  have HRR := Ja (((((HO.out.e0 (int i64 1)).e1 (.string o)).e2 (.string ⟨#[]⟩)).e3 (int i64 vz)).e4 (int i64 0))
  have HDD := Ja (((((HD.out.set hp hB (Nat.le_refl w.heap.size) 0 (int i64 1)).set hp hB (Nat.le_refl w.heap.size) 1 (.string o)).set hp hB (Nat.le_refl w.heap.size) 2 (.string ⟨#[]⟩)).set hp hB (Nat.le_refl w.heap.size) 3 (int i64 vz)).set hp hB (Nat.le_refl w.heap.size) 4 (int i64 0))
  have HEO : Hid (EOk 1 o ⟨#[]⟩ vz 0 ∧ (0 : Int) < 3) := by
   refine ⟨⟨⟨by omega, HNO.out, by unfold GE; rw [if_neg (by omega), ByteArray.toList_eq]; rfl, by unfold UD; rw [if_pos (by omega)]; exact hvz⟩, by omega, .inr (.inr rfl)⟩, by omega⟩
  go_wp2
  rw [HX.out]
  exact bodyPost_ret (Kc rfl rfl rfl HRR.out) rfl ⟨_, _, _, _, _, HEO.out, rfl, HDD.out⟩
 ·refine (J5 2 _).mono ?_
  rintro e wq ⟨rfl, hq⟩
  replace hq := hq.symm
  subst hq
  go_wp2_with fail
  refine (JeW B p v n hn _ (by omega) HD.out.1).mono ?_
  rintro e y0 ⟨y, hny, rfl, hd⟩
  have HNY := Ja hny
  clear hny
  have s_y0 := hd.2.size
  replace HT : Hid (Row y0 w5.heap.size #[int i64 2, .string o, .string ⟨#[]⟩, int i64 0, int i64 0] 113) := HT.out.grown hd.2 (HPN.out _ (by omega))
  replace HO : Hid (Row y0 w.heap.size #[int i64 0, .string ⟨#[]⟩, .string ⟨#[]⟩, int i64 0, int i64 0] 113) := HO.out.grown hd.2 (HPN.out _ (Nat.le_refl _))
  replace HD : Hid (Drew w y0 B p v n) := HD.out.trans hd
  clear hd
  have ff := HT.out.free 2
  have cc := HT.out.cell 2 rfl
  obtain ⟨z1, hz1⟩ : ∃ x, x = y0.setCell ⟨w5.heap.size, 2, none⟩ (.string y) := ⟨_, rfl⟩
  have s_z1 : y0.heap.size ≤ z1.heap.size := by rw [hz1]; simp [World.setCell]
  replace HT : Hid (Row z1 w5.heap.size #[int i64 2, .string o, .string y, int i64 0, int i64 0] 113) := by rw [hz1]; exact HT.out.e2 _
  replace HO : Hid (Row z1 w.heap.size #[int i64 0, .string ⟨#[]⟩, .string ⟨#[]⟩, int i64 0, int i64 0] 113) := by rw [hz1]; exact HO.out.other (by simp <;> omega) _
  replace HD : Hid (Drew w z1 B p v n) := by rw [hz1]; exact HD.out.set hp hB (by omega) _ _
  have HX : Hid (y0.setCell ⟨w5.heap.size, 2, none⟩ (.string y) = z1) := hz1.symm
  clear hz1
  have c0 := HT.out.cell 0 rfl
  rw [← HX.out] at c0
  go_wp2_with fail
  rw [HX.out]
  clear HX c0 ff cc
  refine (JV 2 _).mono ?_
  rintro e wq ⟨rfl, hq⟩
  replace hq := hq.symm
  subst hq
  obtain ⟨t0, t1, t2, t3, t4⟩ := Row.fiveC HT.out
  obtain ⟨o0, o1, o2, o3, o4⟩ := Row.fiveC HO.out
  have g0 := HO.out.free 0
  have g1 := HO.out.free 1
  have g2 := HO.out.free 2
  have g3 := HO.out.free 3
  have g4 := HO.out.free 4
  have HRR := Ja (((((HO.out.e0 (int i64 2)).e1 (.string o)).e2 (.string y)).e3 (int i64 0)).e4 (int i64 0))
  have HDD := Ja (((((HD.out.set hp hB (Nat.le_refl w.heap.size) 0 (int i64 2)).set hp hB (Nat.le_refl w.heap.size) 1 (.string o)).set hp hB (Nat.le_refl w.heap.size) 2 (.string y)).set hp hB (Nat.le_refl w.heap.size) 3 (int i64 0)).set hp hB (Nat.le_refl w.heap.size) 4 (int i64 0))
  have HEO : Hid (EOk 2 o y 0 0 ∧ (0 : Int) < 3) := by
   refine ⟨⟨⟨by omega, HNO.out, by exact HNY.out, by decide⟩, by omega, .inr (.inr rfl)⟩, by omega⟩
  go_wp2
  exact bodyPost_ret (Kc rfl rfl rfl HRR.out) rfl ⟨_, _, _, _, _, HEO.out, rfl, HDD.out⟩
 ·refine (J5 3 _).mono ?_
  rintro e wq ⟨rfl, hq⟩
  replace hq := hq.symm
  subst hq
  go_wp2_with fail
  refine (JeW B p v n hn _ (by omega) HD.out.1).mono ?_
  rintro e y0 ⟨y, hny, rfl, hd⟩
  have HNY := Ja hny
  clear hny
  have s_y0 := hd.2.size
  replace HT : Hid (Row y0 w5.heap.size #[int i64 3, .string o, .string ⟨#[]⟩, int i64 0, int i64 0] 113) := HT.out.grown hd.2 (HPN.out _ (by omega))
  replace HO : Hid (Row y0 w.heap.size #[int i64 0, .string ⟨#[]⟩, .string ⟨#[]⟩, int i64 0, int i64 0] 113) := HO.out.grown hd.2 (HPN.out _ (Nat.le_refl _))
  replace HD : Hid (Drew w y0 B p v n) := HD.out.trans hd
  clear hd
  have ff := HT.out.free 2
  have cc := HT.out.cell 2 rfl
  obtain ⟨z1, hz1⟩ : ∃ x, x = y0.setCell ⟨w5.heap.size, 2, none⟩ (.string y) := ⟨_, rfl⟩
  have s_z1 : y0.heap.size ≤ z1.heap.size := by rw [hz1]; simp [World.setCell]
  replace HT : Hid (Row z1 w5.heap.size #[int i64 3, .string o, .string y, int i64 0, int i64 0] 113) := by rw [hz1]; exact HT.out.e2 _
  replace HO : Hid (Row z1 w.heap.size #[int i64 0, .string ⟨#[]⟩, .string ⟨#[]⟩, int i64 0, int i64 0] 113) := by rw [hz1]; exact HO.out.other (by simp <;> omega) _
  replace HD : Hid (Drew w z1 B p v n) := by rw [hz1]; exact HD.out.set hp hB (by omega) _ _
  have HX : Hid (y0.setCell ⟨w5.heap.size, 2, none⟩ (.string y) = z1) := hz1.symm
  clear hz1
  have c0 := HT.out.cell 0 rfl
  rw [← HX.out] at c0
  go_wp2_with fail
  rw [HX.out]
  clear HX c0 ff cc
  refine (JV 3 _).mono ?_
  rintro e wq ⟨rfl, hq⟩
  replace hq := hq.symm
  subst hq
  obtain ⟨t0, t1, t2, t3, t4⟩ := Row.fiveC HT.out
  obtain ⟨o0, o1, o2, o3, o4⟩ := Row.fiveC HO.out
  have g0 := HO.out.free 0
  have g1 := HO.out.free 1
  have g2 := HO.out.free 2
  have g3 := HO.out.free 3
  have g4 := HO.out.free 4
  have HRR := Ja (((((HO.out.e0 (int i64 3)).e1 (.string o)).e2 (.string y)).e3 (int i64 0)).e4 (int i64 0))
  have HDD := Ja (((((HD.out.set hp hB (Nat.le_refl w.heap.size) 0 (int i64 3)).set hp hB (Nat.le_refl w.heap.size) 1 (.string o)).set hp hB (Nat.le_refl w.heap.size) 2 (.string y)).set hp hB (Nat.le_refl w.heap.size) 3 (int i64 0)).set hp hB (Nat.le_refl w.heap.size) 4 (int i64 0))
  have HEO : Hid (EOk 3 o y 0 0 ∧ (0 : Int) < 3) := by
   refine ⟨⟨⟨by omega, HNO.out, by exact HNY.out, by decide⟩, by omega, .inr (.inr rfl)⟩, by omega⟩
  go_wp2
  exact bodyPost_ret (Kc rfl rfl rfl HRR.out) rfl ⟨_, _, _, _, _, HEO.out, rfl, HDD.out⟩
 ·refine (J5 4 _).mono ?_
  rintro e wq ⟨rfl, hq⟩
  replace hq := hq.symm
  subst hq
  go_wp2_with fail
  refine (JeW B p v n hn _ (by omega) HD.out.1).mono ?_
  rintro e y0 ⟨y, hny, rfl, hd⟩
  have HNY := Ja hny
  clear hny
  have s_y0 := hd.2.size
  replace HT : Hid (Row y0 w5.heap.size #[int i64 4, .string o, .string ⟨#[]⟩, int i64 0, int i64 0] 113) := HT.out.grown hd.2 (HPN.out _ (by omega))
  replace HO : Hid (Row y0 w.heap.size #[int i64 0, .string ⟨#[]⟩, .string ⟨#[]⟩, int i64 0, int i64 0] 113) := HO.out.grown hd.2 (HPN.out _ (Nat.le_refl _))
  replace HD : Hid (Drew w y0 B p v n) := HD.out.trans hd
  clear hd
  have ff := HT.out.free 2
  have cc := HT.out.cell 2 rfl
  obtain ⟨z1, hz1⟩ : ∃ x, x = y0.setCell ⟨w5.heap.size, 2, none⟩ (.string y) := ⟨_, rfl⟩
  have s_z1 : y0.heap.size ≤ z1.heap.size := by rw [hz1]; simp [World.setCell]
  replace HT : Hid (Row z1 w5.heap.size #[int i64 4, .string o, .string y, int i64 0, int i64 0] 113) := by rw [hz1]; exact HT.out.e2 _
  replace HO : Hid (Row z1 w.heap.size #[int i64 0, .string ⟨#[]⟩, .string ⟨#[]⟩, int i64 0, int i64 0] 113) := by rw [hz1]; exact HO.out.other (by simp <;> omega) _
  replace HD : Hid (Drew w z1 B p v n) := by rw [hz1]; exact HD.out.set hp hB (by omega) _ _
  have HX : Hid (y0.setCell ⟨w5.heap.size, 2, none⟩ (.string y) = z1) := hz1.symm
  clear hz1
  have c0 := HT.out.cell 0 rfl
  rw [← HX.out] at c0
  go_wp2_with fail
  rw [HX.out]
  clear HX c0 ff cc
  refine (JV 4 _).mono ?_
  rintro e wq ⟨rfl, hq⟩
  replace hq := hq.symm
  subst hq
  obtain ⟨v2, hv2⟩ : ∃ x, x = z1.alloc (.cells #[int i64 0, int i64 1, int i64 7, int i64 999999] 3) := ⟨_, rfl⟩
  have s_v2 : z1.heap.size + 1 ≤ v2.heap.size := by rw [hv2]; simp
  have HF : Hid (Row v2 z1.heap.size (([0, 1, 7, 999999] : List Int).map (Value.int .i64)).toArray 3) := by rw [hv2]; exact Jb _ _ _ rfl
  replace HT : Hid (Row v2 w5.heap.size #[int i64 4, .string o, .string y, int i64 0, int i64 0] 113) := by rw [hv2]; exact HT.out.alloc _
  replace HO : Hid (Row v2 w.heap.size #[int i64 0, .string ⟨#[]⟩, .string ⟨#[]⟩, int i64 0, int i64 0] 113) := by rw [hv2]; exact HO.out.alloc _
  replace HD : Hid (Drew w v2 B p v n) := by rw [hv2]; exact HD.out.alloc hp hB _
  have HX : Hid (z1.alloc (.cells #[int i64 0, int i64 1, int i64 7, int i64 999999] 3) = v2) := hv2.symm
  clear hv2
  go_wp2_with fail
  rw [HX.out]
  clear HX
  refine (Jcu 4 z1.heap.size 4 (by omega) (by omega) B p v n hn _ HD.out.1 (by omega) (Vt HF.out)).mono ?_
  rintro e y3 ⟨vz, ⟨i, hi, hik⟩, rfl, hd⟩
  have hvz := Jar HF.out (a := 0) (b := 999999) (by decide) i hi vz hik
  clear hik hi HF
  have s_y3 := hd.2.size
  replace HT : Hid (Row y3 w5.heap.size #[int i64 4, .string o, .string y, int i64 0, int i64 0] 113) := HT.out.grown hd.2 (HPN.out _ (by omega))
  replace HO : Hid (Row y3 w.heap.size #[int i64 0, .string ⟨#[]⟩, .string ⟨#[]⟩, int i64 0, int i64 0] 113) := HO.out.grown hd.2 (HPN.out _ (Nat.le_refl _))
  replace HD : Hid (Drew w y3 B p v n) := HD.out.trans hd
  clear hd
  have ff := HT.out.free 3
  have cc := HT.out.cell 3 rfl
  obtain ⟨z4, hz4⟩ : ∃ x, x = y3.setCell ⟨w5.heap.size, 3, none⟩ (int i64 vz) := ⟨_, rfl⟩
  have s_z4 : y3.heap.size ≤ z4.heap.size := by rw [hz4]; simp [World.setCell]
  replace HT : Hid (Row z4 w5.heap.size #[int i64 4, .string o, .string y, int i64 vz, int i64 0] 113) := by rw [hz4]; exact HT.out.e3 _
  replace HO : Hid (Row z4 w.heap.size #[int i64 0, .string ⟨#[]⟩, .string ⟨#[]⟩, int i64 0, int i64 0] 113) := by rw [hz4]; exact HO.out.other (by simp <;> omega) _
  replace HD : Hid (Drew w z4 B p v n) := by rw [hz4]; exact HD.out.set hp hB (by omega) _ _
  have HX : Hid (y3.setCell ⟨w5.heap.size, 3, none⟩ (int i64 vz) = z4) := hz4.symm
  clear hz4
  have c0 := HT.out.cell 0 rfl
  rw [← HX.out] at c0
  obtain ⟨t0, t1, t2, t3, t4⟩ := Row.fiveC HT.out
  obtain ⟨o0, o1, o2, o3, o4⟩ := Row.fiveC HO.out
  have g0 := HO.out.free 0
  have g1 := HO.out.free 1
  have g2 := HO.out.free 2
  have g3 := HO.out.free 3
  have g4 := HO.out.free 4
  rw [← HX.out] at t0 t1 t2 t3 t4 o0 o1 o2 o3 o4 g0 g1 g2 g3 g4
  clear c0
  have HRR := Ja (((((HO.out.e0 (int i64 4)).e1 (.string o)).e2 (.string y)).e3 (int i64 vz)).e4 (int i64 0))
  have HDD := Ja (((((HD.out.set hp hB (Nat.le_refl w.heap.size) 0 (int i64 4)).set hp hB (Nat.le_refl w.heap.size) 1 (.string o)).set hp hB (Nat.le_refl w.heap.size) 2 (.string y)).set hp hB (Nat.le_refl w.heap.size) 3 (int i64 vz)).set hp hB (Nat.le_refl w.heap.size) 4 (int i64 0))
  have HEO : Hid (EOk 4 o y vz 0 ∧ (0 : Int) < 3) := by
   refine ⟨⟨⟨by omega, HNO.out, by exact HNY.out, by unfold UD; rw [if_pos (by omega)]; exact hvz⟩, by omega, .inr (.inr rfl)⟩, by omega⟩
  go_wp2
  rw [HX.out]
  exact bodyPost_ret (Kc rfl rfl rfl HRR.out) rfl ⟨_, _, _, _, _, HEO.out, rfl, HDD.out⟩
 ·refine (J5 5 _).mono ?_
  rintro e wq ⟨rfl, hq⟩
  replace hq := hq.symm
  subst hq
  go_wp2_with fail
  refine (JeW B p v n hn _ (by omega) HD.out.1).mono ?_
  rintro e y0 ⟨y, hny, rfl, hd⟩
  have HNY := Ja hny
  clear hny
  have s_y0 := hd.2.size
  replace HT : Hid (Row y0 w5.heap.size #[int i64 5, .string o, .string ⟨#[]⟩, int i64 0, int i64 0] 113) := HT.out.grown hd.2 (HPN.out _ (by omega))
  replace HO : Hid (Row y0 w.heap.size #[int i64 0, .string ⟨#[]⟩, .string ⟨#[]⟩, int i64 0, int i64 0] 113) := HO.out.grown hd.2 (HPN.out _ (Nat.le_refl _))
  replace HD : Hid (Drew w y0 B p v n) := HD.out.trans hd
  clear hd
  have ff := HT.out.free 2
  have cc := HT.out.cell 2 rfl
  obtain ⟨z1, hz1⟩ : ∃ x, x = y0.setCell ⟨w5.heap.size, 2, none⟩ (.string y) := ⟨_, rfl⟩
  have s_z1 : y0.heap.size ≤ z1.heap.size := by rw [hz1]; simp [World.setCell]
  replace HT : Hid (Row z1 w5.heap.size #[int i64 5, .string o, .string y, int i64 0, int i64 0] 113) := by rw [hz1]; exact HT.out.e2 _
  replace HO : Hid (Row z1 w.heap.size #[int i64 0, .string ⟨#[]⟩, .string ⟨#[]⟩, int i64 0, int i64 0] 113) := by rw [hz1]; exact HO.out.other (by simp <;> omega) _
  replace HD : Hid (Drew w z1 B p v n) := by rw [hz1]; exact HD.out.set hp hB (by omega) _ _
  have HX : Hid (y0.setCell ⟨w5.heap.size, 2, none⟩ (.string y) = z1) := hz1.symm
  clear hz1
  have c0 := HT.out.cell 0 rfl
  rw [← HX.out] at c0
  go_wp2_with fail
  rw [HX.out]
  clear HX c0 ff cc
  refine (JV 5 _).mono ?_
  rintro e wq ⟨rfl, hq⟩
  replace hq := hq.symm
  subst hq
  obtain ⟨t0, t1, t2, t3, t4⟩ := Row.fiveC HT.out
  obtain ⟨o0, o1, o2, o3, o4⟩ := Row.fiveC HO.out
  have g0 := HO.out.free 0
  have g1 := HO.out.free 1
  have g2 := HO.out.free 2
  have g3 := HO.out.free 3
  have g4 := HO.out.free 4
  have HRR := Ja (((((HO.out.e0 (int i64 5)).e1 (.string o)).e2 (.string y)).e3 (int i64 0)).e4 (int i64 0))
  have HDD := Ja (((((HD.out.set hp hB (Nat.le_refl w.heap.size) 0 (int i64 5)).set hp hB (Nat.le_refl w.heap.size) 1 (.string o)).set hp hB (Nat.le_refl w.heap.size) 2 (.string y)).set hp hB (Nat.le_refl w.heap.size) 3 (int i64 0)).set hp hB (Nat.le_refl w.heap.size) 4 (int i64 0))
  have HEO : Hid (EOk 5 o y 0 0 ∧ (0 : Int) < 3) := by
   refine ⟨⟨⟨by omega, HNO.out, by exact HNY.out, by decide⟩, by omega, .inr (.inr rfl)⟩, by omega⟩
  go_wp2
  exact bodyPost_ret (Kc rfl rfl rfl HRR.out) rfl ⟨_, _, _, _, _, HEO.out, rfl, HDD.out⟩
 ·refine (J5 6 _).mono ?_
  rintro e wq ⟨rfl, hq⟩
  replace hq := hq.symm
  subst hq
  have c0 := HT.out.cell 0 rfl
  go_wp2_with fail
  clear c0
  refine (JV 6 _).mono ?_
  rintro e wq ⟨rfl, hq⟩
  replace hq := hq.symm
  subst hq
  obtain ⟨v0, hv0⟩ : ∃ x, x = X.alloc (.cells #[int i64 0, int i64 1, int i64 7, int i64 999999] 3) := ⟨_, rfl⟩
  have s_v0 : X.heap.size + 1 ≤ v0.heap.size := by rw [hv0]; simp
  have HF : Hid (Row v0 X.heap.size (([0, 1, 7, 999999] : List Int).map (Value.int .i64)).toArray 3) := by rw [hv0]; exact Jb _ _ _ rfl
  replace HT : Hid (Row v0 w5.heap.size #[int i64 6, .string o, .string ⟨#[]⟩, int i64 0, int i64 0] 113) := by rw [hv0]; exact HT.out.alloc _
  replace HO : Hid (Row v0 w.heap.size #[int i64 0, .string ⟨#[]⟩, .string ⟨#[]⟩, int i64 0, int i64 0] 113) := by rw [hv0]; exact HO.out.alloc _
  replace HD : Hid (Drew w v0 B p v n) := by rw [hv0]; exact HD.out.alloc hp hB _
  have HX : Hid (X.alloc (.cells #[int i64 0, int i64 1, int i64 7, int i64 999999] 3) = v0) := hv0.symm
  clear hv0
  go_wp2_with fail
  rw [HX.out]
  clear HX
  refine (Jcu 4 X.heap.size 4 (by omega) (by omega) B p v n hn _ HD.out.1 (by omega) (Vt HF.out)).mono ?_
  rintro e y1 ⟨vz, ⟨i, hi, hik⟩, rfl, hd⟩
  have hvz := Jar HF.out (a := 0) (b := 999999) (by decide) i hi vz hik
  clear hik hi HF
  have s_y1 := hd.2.size
  replace HT : Hid (Row y1 w5.heap.size #[int i64 6, .string o, .string ⟨#[]⟩, int i64 0, int i64 0] 113) := HT.out.grown hd.2 (HPN.out _ (by omega))
  replace HO : Hid (Row y1 w.heap.size #[int i64 0, .string ⟨#[]⟩, .string ⟨#[]⟩, int i64 0, int i64 0] 113) := HO.out.grown hd.2 (HPN.out _ (Nat.le_refl _))
  replace HD : Hid (Drew w y1 B p v n) := HD.out.trans hd
  clear hd
  have ff := HT.out.free 3
  have cc := HT.out.cell 3 rfl
  obtain ⟨z2, hz2⟩ : ∃ x, x = y1.setCell ⟨w5.heap.size, 3, none⟩ (int i64 vz) := ⟨_, rfl⟩
  have s_z2 : y1.heap.size ≤ z2.heap.size := by rw [hz2]; simp [World.setCell]
  replace HT : Hid (Row z2 w5.heap.size #[int i64 6, .string o, .string ⟨#[]⟩, int i64 vz, int i64 0] 113) := by rw [hz2]; exact HT.out.e3 _
  replace HO : Hid (Row z2 w.heap.size #[int i64 0, .string ⟨#[]⟩, .string ⟨#[]⟩, int i64 0, int i64 0] 113) := by rw [hz2]; exact HO.out.other (by simp <;> omega) _
  replace HD : Hid (Drew w z2 B p v n) := by rw [hz2]; exact HD.out.set hp hB (by omega) _ _
  have HX : Hid (y1.setCell ⟨w5.heap.size, 3, none⟩ (int i64 vz) = z2) := hz2.symm
  clear hz2
  have c0 := HT.out.cell 0 rfl
  rw [← HX.out] at c0
  go_wp2_with fail
  rw [HX.out]
  clear HX c0 ff cc
  refine (KU 3 (by omega) (by omega) B p v n hn _ HD.out.1).mono ?_
  rintro e y3 ⟨q, rfl, hq3, hd⟩
  have s_y3 := hd.2.size
  replace HT : Hid (Row y3 w5.heap.size #[int i64 6, .string o, .string ⟨#[]⟩, int i64 vz, int i64 0] 113) := HT.out.grown hd.2 (HPN.out _ (by omega))
  replace HO : Hid (Row y3 w.heap.size #[int i64 0, .string ⟨#[]⟩, .string ⟨#[]⟩, int i64 0, int i64 0] 113) := HO.out.grown hd.2 (HPN.out _ (Nat.le_refl _))
  replace HD : Hid (Drew w y3 B p v n) := HD.out.trans hd
  clear hd
  have ff := HT.out.free 4
  have cc := HT.out.cell 4 rfl
  obtain ⟨z4, hz4⟩ : ∃ x, x = y3.setCell ⟨w5.heap.size, 4, none⟩ (int i64 (q : Int)) := ⟨_, rfl⟩
  have s_z4 : y3.heap.size ≤ z4.heap.size := by rw [hz4]; simp [World.setCell]
  replace HT : Hid (Row z4 w5.heap.size #[int i64 6, .string o, .string ⟨#[]⟩, int i64 vz, int i64 q] 113) := by rw [hz4]; exact HT.out.e4 _
  replace HO : Hid (Row z4 w.heap.size #[int i64 0, .string ⟨#[]⟩, .string ⟨#[]⟩, int i64 0, int i64 0] 113) := by rw [hz4]; exact HO.out.other (by simp <;> omega) _
  replace HD : Hid (Drew w z4 B p v n) := by rw [hz4]; exact HD.out.set hp hB (by omega) _ _
  have HX : Hid (y3.setCell ⟨w5.heap.size, 4, none⟩ (int i64 (q : Int)) = z4) := hz4.symm
  clear hz4
  obtain ⟨t0, t1, t2, t3, t4⟩ := Row.fiveC HT.out
  obtain ⟨o0, o1, o2, o3, o4⟩ := Row.fiveC HO.out
  have g0 := HO.out.free 0
  have g1 := HO.out.free 1
  have g2 := HO.out.free 2
  have g3 := HO.out.free 3
  have g4 := HO.out.free 4
  rw [← HX.out] at t0 t1 t2 t3 t4 o0 o1 o2 o3 o4 g0 g1 g2 g3 g4
  have HRR := Ja (((((HO.out.e0 (int i64 6)).e1 (.string o)).e2 (.string ⟨#[]⟩)).e3 (int i64 vz)).e4 (int i64 (q : Int)))
  have HDD := Ja (((((HD.out.set hp hB (Nat.le_refl w.heap.size) 0 (int i64 6)).set hp hB (Nat.le_refl w.heap.size) 1 (.string o)).set hp hB (Nat.le_refl w.heap.size) 2 (.string ⟨#[]⟩)).set hp hB (Nat.le_refl w.heap.size) 3 (int i64 vz)).set hp hB (Nat.le_refl w.heap.size) 4 (int i64 (q : Int)))
  have HEO : Hid (EOk 6 o ⟨#[]⟩ vz (q : Int) ∧ ((q : Int) : Int) < 3) := by
   refine ⟨⟨⟨by omega, HNO.out, by unfold GE; rw [if_neg (by omega), ByteArray.toList_eq]; rfl, by unfold UD; rw [if_pos (by omega)]; exact hvz⟩, by omega, .inl rfl⟩, by omega⟩
  go_wp2
  rw [HX.out]
  exact bodyPost_ret (Kc rfl rfl rfl HRR.out) rfl ⟨_, _, _, _, _, HEO.out, rfl, HDD.out⟩
 ·refine (J5 7 _).mono ?_
  rintro e wq ⟨rfl, hq⟩
  replace hq := hq.symm
  subst hq
  have c0 := HT.out.cell 0 rfl
  go_wp2_with fail
  clear c0
  refine (JV 7 _).mono ?_
  rintro e wq ⟨rfl, hq⟩
  replace hq := hq.symm
  subst hq
  have c0 := HT.out.cell 0 rfl
  go_wp2_with fail
  clear c0
  refine (KU 3 (by omega) (by omega) B p v n hn _ HD.out.1).mono ?_
  rintro e y0 ⟨q, rfl, hq3, hd⟩
  have s_y0 := hd.2.size
  replace HT : Hid (Row y0 w5.heap.size #[int i64 7, .string o, .string ⟨#[]⟩, int i64 0, int i64 0] 113) := HT.out.grown hd.2 (HPN.out _ (by omega))
  replace HO : Hid (Row y0 w.heap.size #[int i64 0, .string ⟨#[]⟩, .string ⟨#[]⟩, int i64 0, int i64 0] 113) := HO.out.grown hd.2 (HPN.out _ (Nat.le_refl _))
  replace HD : Hid (Drew w y0 B p v n) := HD.out.trans hd
  clear hd
  have ff := HT.out.free 4
  have cc := HT.out.cell 4 rfl
  obtain ⟨z1, hz1⟩ : ∃ x, x = y0.setCell ⟨w5.heap.size, 4, none⟩ (int i64 (q : Int)) := ⟨_, rfl⟩
  have s_z1 : y0.heap.size ≤ z1.heap.size := by rw [hz1]; simp [World.setCell]
  replace HT : Hid (Row z1 w5.heap.size #[int i64 7, .string o, .string ⟨#[]⟩, int i64 0, int i64 q] 113) := by rw [hz1]; exact HT.out.e4 _
  replace HO : Hid (Row z1 w.heap.size #[int i64 0, .string ⟨#[]⟩, .string ⟨#[]⟩, int i64 0, int i64 0] 113) := by rw [hz1]; exact HO.out.other (by simp <;> omega) _
  replace HD : Hid (Drew w z1 B p v n) := by rw [hz1]; exact HD.out.set hp hB (by omega) _ _
  have HX : Hid (y0.setCell ⟨w5.heap.size, 4, none⟩ (int i64 (q : Int)) = z1) := hz1.symm
  clear hz1
  obtain ⟨t0, t1, t2, t3, t4⟩ := Row.fiveC HT.out
  obtain ⟨o0, o1, o2, o3, o4⟩ := Row.fiveC HO.out
  have g0 := HO.out.free 0
  have g1 := HO.out.free 1
  have g2 := HO.out.free 2
  have g3 := HO.out.free 3
  have g4 := HO.out.free 4
  rw [← HX.out] at t0 t1 t2 t3 t4 o0 o1 o2 o3 o4 g0 g1 g2 g3 g4
  have HRR := Ja (((((HO.out.e0 (int i64 7)).e1 (.string o)).e2 (.string ⟨#[]⟩)).e3 (int i64 0)).e4 (int i64 (q : Int)))
  have HDD := Ja (((((HD.out.set hp hB (Nat.le_refl w.heap.size) 0 (int i64 7)).set hp hB (Nat.le_refl w.heap.size) 1 (.string o)).set hp hB (Nat.le_refl w.heap.size) 2 (.string ⟨#[]⟩)).set hp hB (Nat.le_refl w.heap.size) 3 (int i64 0)).set hp hB (Nat.le_refl w.heap.size) 4 (int i64 (q : Int)))
  have HEO : Hid (EOk 7 o ⟨#[]⟩ 0 (q : Int) ∧ ((q : Int) : Int) < 3) := by
   refine ⟨⟨⟨by omega, HNO.out, by unfold GE; rw [if_neg (by omega), ByteArray.toList_eq]; rfl, by decide⟩, by omega, .inr (.inl rfl)⟩, by omega⟩
  go_wp2
  rw [HX.out]
  exact bodyPost_ret (Kc rfl rfl rfl HRR.out) rfl ⟨_, _, _, _, _, HEO.out, rfl, HDD.out⟩
end Go.Proofs.YtdknoflkingodaaGreat
