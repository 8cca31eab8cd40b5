/- One more part, put where it belongs (Live). -/
import Derived.Test.YtepfinenocpneaaGreatQ29
import Derived.Test.YtepfinenocpneaaGreatQ30
import Derived.Test.YtepfinenocpneaaGreatQ32
import Derived.Test.YtepfinenocpneaaGreatQ33
import Derived.Test.YtepfinenocpneaaGreatQ34
set_option maxHeartbeats 16000000
namespace Go.Proofs.YtepfinenocpneaaGreat
open Value (int)
open IntKind (i64)
set_option maxRecDepth 100000
set_option linter.unusedVariables false
open Go.RowKit
theorem JdQ (r s : Int) (a : Li) : decide (Jo r s a.r a.s) = true ↔ 0 < J6 r s a := by
 unfold J6
 rw [decide_eq_true_iff]
 rcases J4 a.r a.s r s with ⟨h1, h2⟩ | ⟨h1, h2⟩ | ⟨h1, h2⟩
 ·unfold Jo at h1 ⊢; omega
 ·unfold Jo; omega
 ·unfold Jo at h1 ⊢; omega
theorem Ub (l : List Li) (v : Value) (x : Li) (w : World) (hn : l.length ≤ 1000) (hp : Gw (J6 x.r x.s) l) (hx : ∀ y ∈ l, ¬ J6 x.r x.s y = 0) (h : LiAt w v l) :
  Calls Tryz.prog 154 #[v, .agg #[.bool x.m, .string x.o, .string x.y, int i64 x.v, int i64 x.r, int i64 x.s]] w fun e w' => ∃ u, e = .returned u ∧ w'.ownsRow w.heap.size 88 6 u (JE x l).length (liV (JE x l)) ∧ Below w.heap.size w w' := by
 obtain ⟨W, hW⟩ : ∃ W, W = w.alloc (.cells #[.bool x.m, .string x.o, .string x.y, int i64 x.v, int i64 x.r, int i64 x.s] 88) := ⟨_, rfl⟩
 have HBW : Hid (Below w.heap.size w W) := by rw [hW]; exact (Below.refl _ _).alloc (Nat.le_refl _) _
 have hRW : Row W w.heap.size #[.bool x.m, .string x.o, .string x.y, int i64 x.v, int i64 x.r, int i64 x.s] 88 := by rw [hW]; exact Jb w _ _ rfl
 have HWW : Hid (w.alloc (.cells #[.bool x.m, .string x.o, .string x.y, int i64 x.v, int i64 x.r, int i64 x.s] 88) = W) := hW.symm
 have HAT : Hid (∀ wx, Below W.heap.size W wx → LiAt wx v l) := fun wx hx => h.below (HBW.out.trans (hx.mono HBW.out.size))
 have HRW : Hid (∀ wx, Below W.heap.size W wx → Row wx w.heap.size #[.bool x.m, .string x.o, .string x.y, int i64 x.v, int i64 x.r, int i64 x.s] 88) := fun wx hx => hRW.next hx
 have HRK : Hid (∀ wx, Calls Tryz.prog 135 #[.iface 88 (.agg #[.bool x.m, .string x.o, .string x.y, int i64 x.v, int i64 x.r, int i64 x.s])] wx fun e w' => e = .returned (.agg #[.string ⟨#[]⟩, int i64 x.r, int i64 x.s]) ∧ Below wx.heap.size wx w') := fun wx => Gu x wx
 have HPL : Hid (∀ wx, Below W.heap.size W wx → Calls Tryz.prog 162 #[v, .agg #[.string ⟨#[]⟩, int i64 x.r, int i64 x.s]] wx fun e w' => JT e l (J6 x.r x.s) ∧ Below wx.heap.size wx w') := fun wx hx => YK l v x.r x.s wx (by omega) hp (HAT.out wx hx)
 have HCL : Hid (∀ wx, Below W.heap.size W wx → Calls Tryz.prog 92 #[v] wx fun e w' => ∃ q, e = .returned q ∧ w'.ownsRow wx.heap.size 88 6 q l.length (liV l) ∧ Below wx.heap.size wx w') := fun wx hx => KF l v wx hn (HAT.out wx hx)
 have HX := Ja hx
 have hcl := hRW
 obtain ⟨c0, c1, c2, c3, c4, c5⟩ : W.cell? ⟨w.heap.size, 0, none⟩ = some (.bool x.m) ∧ W.cell? ⟨w.heap.size, 1, none⟩ = some (.string x.o) ∧ W.cell? ⟨w.heap.size, 2, none⟩ = some (.string x.y) ∧ W.cell? ⟨w.heap.size, 3, none⟩ = some (int i64 x.v) ∧ W.cell? ⟨w.heap.size, 4, none⟩ = some (int i64 x.r) ∧ W.cell? ⟨w.heap.size, 5, none⟩ = some (int i64 x.s) := ⟨hRW.cell 0 rfl, hRW.cell 1 rfl, hRW.cell 2 rfl, hRW.cell 3 rfl, hRW.cell 4 rfl, hRW.cell 5 rfl⟩
 rw [hW] at c0 c1 c2 c3 c4 c5
 clear hW hRW h hp hx hcl
 go_enter Tryz.func154, Tryz.ntmps154
 go_wp2_with fail
 rw [HWW.out]
 refine (HRK.out _).mono ?_
 rintro e w1 ⟨rfl, hb1⟩
 clear HRK c0 c1 c2 c3 c4 c5
 go_wp2_with fail
 refine (HPL.out _ hb1).mono ?_
 rintro e w2 ⟨⟨k, b, rfl, hq⟩, hb2⟩
 have hB2 : Below W.heap.size W w2 := hb1.trans (hb2.mono hb1.size)
 clear HPL hb1 hb2
 have hbf : b = false := by
  cases b with
  | false => rfl
  | true => obtain ⟨hk, e⟩ := hq.2.2.2.1 rfl; exact absurd e (HX.out _ (List.getElem_mem hk))
 have hkl := hq.1
 have HPU : Hid (JE x l = l.take k ++ x :: l.drop k) := KM hq hbf _ (fun a _ => JdQ x.r x.s a) x
 clear hq HX hbf HWW
 have HZ2 := Ja hB2.size
 have HB2 := Ja hB2
 have HINS : Hid (∀ wx q gx, Below W.heap.size W wx → wx.ownsRow W.heap.size 88 6 q l.length (liV l) → Row wx gx #[.bool x.m, .string x.o, .string x.y, int i64 x.v, int i64 x.r, int i64 x.s] 88 → (∀ b, q.ownBlock = some b → b ≠ gx) → Calls Tryz.prog 163 #[q, int i64 k, .slice (some ⟨gx, 0, none⟩) 1 1] wx fun e w' => ∃ u, e = .returned u ∧ w'.ownsRow W.heap.size 88 6 u (JE x l).length (liV (JE x l)) ∧ Below W.heap.size W w') := fun wx q gx hbx hox hrx hne => by
  refine (Vh l q k x gx wx W.heap.size hkl hn hox hrx hne hbx.size).mono ?_
  rintro e w' ⟨u, rfl, h1, h2⟩
  rw [← HPU.out] at h1
  exact ⟨u, rfl, h1, hbx.grown h2 hbx.size (fun j hj => (hox.lt j hj).1)⟩
 have HINA : Hid (∀ w4 q, Below w2.heap.size w2.drew w4 → w4.ownsRow w2.heap.size 88 6 q l.length (liV l) → Calls Tryz.prog 163 #[q, int i64 k, .slice (some ⟨w4.heap.size, 0, none⟩) 1 1] (w4.alloc (.cells #[.bool x.m, .string x.o, .string x.y, int i64 x.v, int i64 x.r, int i64 x.s] 88)) fun e w' => ∃ u, e = .returned u ∧ w'.ownsRow W.heap.size 88 6 u (JE x l).length (liV (JE x l)) ∧ Below W.heap.size W w') := fun w4 q hb ho =>
  HINS.out _ q _ ((HB2.out.drew.trans (hb.mono HZ2.out)).alloc (Nat.le_trans HZ2.out hb.size) _) ((Jk ho HZ2.out).alloc _) (Jb w4 _ _ rfl) (fun b hb' e => by have := (ho.lt b hb').2; omega)
 have HINB : Hid (∀ w4 q, Below (w2.drew.alloc (.cells #[.bool x.m, .string x.o, .string x.y, int i64 x.v, int i64 x.r, int i64 x.s] 88)).heap.size (w2.drew.alloc (.cells #[.bool x.m, .string x.o, .string x.y, int i64 x.v, int i64 x.r, int i64 x.s] 88)) w4 → w4.ownsRow (w2.drew.alloc (.cells #[.bool x.m, .string x.o, .string x.y, int i64 x.v, int i64 x.r, int i64 x.s] 88)).heap.size 88 6 q l.length (liV l) → Calls Tryz.prog 163 #[q, int i64 k, .slice (some ⟨w2.heap.size, 0, none⟩) 1 1] w4 fun e w' => ∃ u, e = .returned u ∧ w'.ownsRow W.heap.size 88 6 u (JE x l).length (liV (JE x l)) ∧ Below W.heap.size W w') := fun w4 q hb ho => by
  have e1 : (w2.drew.alloc (.cells #[.bool x.m, .string x.o, .string x.y, int i64 x.v, int i64 x.r, int i64 x.s] 88)).heap.size = w2.heap.size + 1 := by simp
  have h0 : Below W.heap.size W (w2.drew.alloc (.cells #[.bool x.m, .string x.o, .string x.y, int i64 x.v, int i64 x.r, int i64 x.s] 88)) := HB2.out.drew.alloc HZ2.out _
  have hz := HZ2.out
  exact HINS.out w4 q w2.heap.size (h0.trans (hb.mono h0.size)) (Jk ho (by omega)) ((Jb w2.drew _ _ rfl).next hb) (fun b hb' e => by have := (ho.lt b hb').1; omega)
 have hrow2 := HRW.out w2 HB2.out
 obtain ⟨d0, d1, d2, d3, d4, d5⟩ : w2.cell? ⟨w.heap.size, 0, none⟩ = some (.bool x.m) ∧ w2.cell? ⟨w.heap.size, 1, none⟩ = some (.string x.o) ∧ w2.cell? ⟨w.heap.size, 2, none⟩ = some (.string x.y) ∧ w2.cell? ⟨w.heap.size, 3, none⟩ = some (int i64 x.v) ∧ w2.cell? ⟨w.heap.size, 4, none⟩ = some (int i64 x.r) ∧ w2.cell? ⟨w.heap.size, 5, none⟩ = some (int i64 x.s) := ⟨hrow2.cell 0 rfl, hrow2.cell 1 rfl, hrow2.cell 2 rfl, hrow2.cell 3 rfl, hrow2.cell 4 rfl, hrow2.cell 5 rfl⟩
 have HWS : Hid (w.heap.size ≤ W.heap.size) := HBW.out.size
 clear hrow2 HINS hB2
 go_wp2
 go_region_with (first
  | (go_at_call 92; refine (HCL.out _ (by first | exact HB2.out.drew | exact HB2.out.drew.alloc HZ2.out _)).mono ?_; rintro e w4 ⟨q, rfl, ho4, hb4⟩; have hr4 := HRW.out w4 (by first | exact HB2.out.drew.trans (hb4.mono HZ2.out) | exact (HB2.out.drew.alloc HZ2.out _).trans (hb4.mono (HB2.out.drew.alloc HZ2.out _).size)); have g0 := hr4.cell 0 rfl; have g1 := hr4.cell 1 rfl; have g2 := hr4.cell 2 rfl; have g3 := hr4.cell 3 rfl; have g4 := hr4.cell 4 rfl; have g5 := hr4.cell 5 rfl)
  | (go_at_call 163; first | (refine (HINA.out _ _ hb4 ho4).mono ?_; rintro e w5 ⟨u, rfl, ho5, hb5⟩) | (refine (HINB.out _ _ hb4 ho4).mono ?_; rintro e w5 ⟨u, rfl, ho5, hb5⟩)))
 all_goals go_wp2
 all_goals go_ret
 all_goals exact ⟨_, rfl, Jk ho5 HWS.out, HBW.out.trans (hb5.mono HWS.out)⟩
theorem JN {w : World} {B n s : Nat} {e : TypeId} {q : Value} {xs : List Value} (h : w.ownsRow B e s q n xs) : ∃ aa ca, q = .slice aa n ca := by
 rcases h.2 with ⟨rfl, rfl⟩ | ⟨g, cap, cur, rfl, -⟩
 ·exact ⟨none, 0, rfl⟩
 ·exact ⟨_, _, rfl⟩
theorem ZQ {fn : Func} {q : Tmp} (h : fn.results = #[.cell q 29]) {tmps : Array Value} {w : World} {g : Nat} {cs : Array Value} (hc : cs.size = 4) (hp : tmps.getD q undef = .pointer (some ⟨g, 0, none⟩)) (hg : Row w g cs 29) :
  (results fn tmps).run Tryz.prog w = .ok (.agg cs) w := results_cell_row h tmps w g 29 _ (0, 0) _ hp hg Tryz.underlying29 rfl (by rw [hc]; kernel_rfl)
theorem Ju {w : World} {g j i : Nat} {cs : Array Value} {T : TypeId} {x : Value} (h : Row w g cs T) (hne : g ≠ j) : Row (w.setCell ⟨j, i, none⟩ x) g cs T := (Below.heap_setCell w _ x g (fun e => hne (by rw [e]))).trans h
theorem JB {w : World} {B n s g i : Nat} {e : TypeId} {q x : Value} {xs : List Value} (h : w.ownsRow B e s q n xs) (hg : g < B) : (w.setCell ⟨g, i, none⟩ x).ownsRow B e s q n xs := by
 obtain ⟨h1, h2⟩ := h
 refine ⟨h1, ?_⟩
 rcases h2 with h0 | ⟨k, cap, cur, rfl, hb, hk, r⟩
 ·exact .inl h0
 ·exact .inr ⟨k, cap, cur, rfl, hb, (Ju (j := g) (i := i) (x := x) (T := e) hk (by omega)), r⟩
theorem Vx {w : World} {B n s j : Nat} {i0 i1 i2 i3 : Nat} {e : TypeId} {q x0 x1 x2 x3 : Value} {xs : List Value} (h : w.ownsRow B e s q n xs) (hg : j < B) : ((((w.setCell ⟨j, i0, none⟩ x0).setCell ⟨j, i1, none⟩ x1).setCell ⟨j, i2, none⟩ x2).setCell ⟨j, i3, none⟩ x3).ownsRow B e s q n xs := JB (JB (JB (JB h hg) hg) hg) hg
theorem JS {B : Nat} {w0 w : World} {j i0 i1 i2 i3 : Nat} {x0 x1 x2 x3 : Value} (h : Below B w0 w) (hj : B ≤ j) : Below B w0 ((((w.setCell ⟨j, i0, none⟩ x0).setCell ⟨j, i1, none⟩ x1).setCell ⟨j, i2, none⟩ x2).setCell ⟨j, i3, none⟩ x3) := ((((h.setCell (p := ⟨j, i0, none⟩) hj _).setCell (p := ⟨j, i1, none⟩) hj _).setCell (p := ⟨j, i2, none⟩) hj _).setCell (p := ⟨j, i3, none⟩) hj _)
theorem ZK {w : World} {j : Nat} {c0 c1 c2 c3 x0 x1 x2 x3 : Value} {T : TypeId} (h : Row w j #[c0, c1, c2, c3] T) : Row ((((w.setCell ⟨j, 0, none⟩ x0).setCell ⟨j, 1, none⟩ x1).setCell ⟨j, 2, none⟩ x2).setCell ⟨j, 3, none⟩ x3) j #[x0, x1, x2, x3] T := (((h.setL (l := [c0, c1, c2, c3]) 0 x0).setL 1 x1).setL 2 x2).setL 3 x3
theorem US {S : Sta} (hS : SOk S) {x z : Int} {k : Nat} {b : Bool} (h : GW S.C (J0 x z) k b) : (b = true → k < S.C.length ∧ cellAt S.C x z 0 = (k : Int)) ∧ (b = false → ¬ ∃ j, ∃ _ : j < S.C.length, cellAt S.C x z 0 = (j : Int)) := by
 obtain ⟨h1, h2, h3, h4⟩ := h
 have hp := hS.pairC
 have cutv : Cut S.C x z k := ⟨fun i hi hik => by
  have := h2 i hi hik
  unfold J0 at this
  rcases J4 S.C[i].r S.C[i].s x z with ⟨h5, h6⟩ | ⟨h5, h6⟩ | ⟨h5, h6⟩
  ·exact h5
  ·omega
  ·omega, fun i hi hik e => by
  have := h3 i hi hik
  unfold J0 at this
  rcases J4 S.C[i].r S.C[i].s x z with ⟨h5, h6⟩ | ⟨h5, h6⟩ | ⟨h5, h6⟩
  ·exact this h6
  ·unfold Jo at e; omega
  ·unfold Jo at e h5; omega⟩
 refine ⟨fun hb => ?_, fun hb => ?_⟩
 ·obtain ⟨hk, e⟩ := h4.1 hb
  exact ⟨hk, Jee hp hk (GT.1 e)⟩
 ·refine JdV cutv (fun hk e => ?_) hp
  have := h4.2 ⟨hk, GT.2 e⟩
  rw [hb] at this; cases this
theorem KL {w : World} {B n s g cap i : Nat} {e : TypeId} {x : Value} {xs : List Value} (h : w.ownsRow B e s (.slice (some ⟨g, 0, none⟩) n cap) n xs) (hi : i < xs.length) : (w.setCell ⟨g, i, none⟩ x).ownsRow B e s (.slice (some ⟨g, 0, none⟩) n cap) n (xs.set i x) := by
 obtain ⟨h1, h2⟩ := h
 refine ⟨by rw [List.length_set]; exact h1, ?_⟩
 rcases h2 with ⟨h0, -⟩ | ⟨k, cap', cur, hk0, hb, hk, hn, hm, hs, ht⟩
 ·cases h0
 ·obtain ⟨rfl, rfl⟩ : g = k ∧ cap = cap' := by simpa using hk0
  have hl : xs.length ≤ cur.toList.length := by rw [← ht]; exact List.length_take_le' _ _
  refine .inr ⟨g, cap, cur.setIfInBounds i x, rfl, hb, Row.set (T := e) hk i x, hn, hm, by simpa using hs, ?_⟩
  rw [Array.toList_setIfInBounds, List.take_set, ht]
theorem Jb6 (S : Sta) (a0 a1 a2 a3 : Option Addr) (n0 n1 n2 c0 c1 c2 c3 : Nat) (A : Ac) (aa : Option Addr) (ca : Nat) (w : World) (hS : SOk S) (hr : ∃ j, ∃ _ : j < S.C.length, cellAt S.C A.x A.z 0 = (j : Int)) (h : CeAt w (.slice a3 S.C.length c3) S.C) :
  Calls Tryz.prog 128 #[.agg #[.slice a0 n0 c0, .slice a1 n1 c1, .slice a2 n2 c2, .slice a3 S.C.length c3], .agg #[int i64 A.r, int i64 A.s, int i64 A.t, .slice aa A.l.length ca, int i64 A.k, .string A.o, .string A.y, int i64 A.v, int i64 A.x, int i64 A.z]] w fun e w' => ∃ q, e = .returned (.agg #[.slice a0 n0 c0, .slice a1 n1 c1, .slice a2 n2 c2, q]) ∧ w'.ownsRow w.heap.size 90 8 q (Zw S.C (cellAt S.C A.x A.z 0).toNat).length (ceV (Zw S.C (cellAt S.C A.x A.z 0).toNat)) ∧ Below w.heap.size w w' := by
 obtain ⟨W, hW⟩ : ∃ W, W = ((w.alloc (.cells #[.slice a0 n0 c0, .slice a1 n1 c1, .slice a2 n2 c2, .slice a3 S.C.length c3] 29)).alloc (.cells #[int i64 A.r, int i64 A.s, int i64 A.t, .slice aa A.l.length ca, int i64 A.k, .string A.o, .string A.y, int i64 A.v, int i64 A.x, int i64 A.z] 44)).alloc (.cells #[.slice none 0 0, .slice none 0 0, .slice none 0 0, .slice none 0 0] 29) := ⟨_, rfl⟩
 have hWs : W.heap.size = w.heap.size + 1 + 1 + 1 := by rw [hW]; simp
 have hB0 : Below w.heap.size w W := by rw [hW]; exact (((Below.refl _ _).alloc (Nat.le_refl _) _).alloc (by simp) _).alloc (by simp; omega) _
 have hR1 : Row W w.heap.size #[.slice a0 n0 c0, .slice a1 n1 c1, .slice a2 n2 c2, .slice a3 S.C.length c3] 29 := by rw [hW]; exact ((Jb w _ _ rfl).alloc _).alloc _
 have hR2 : Row W (w.heap.size + 1) #[int i64 A.r, int i64 A.s, int i64 A.t, .slice aa A.l.length ca, int i64 A.k, .string A.o, .string A.y, int i64 A.v, int i64 A.x, int i64 A.z] 44 := by rw [hW]; exact (Jb _ _ _ (by simp)).alloc _
 have hR3 : Row W (w.heap.size + 1 + 1) #[.slice none 0 0, .slice none 0 0, .slice none 0 0, .slice none 0 0] 29 := by rw [hW]; exact Jb _ _ _ (by simp)
 have HWW : Hid (((w.alloc (.cells #[.slice a0 n0 c0, .slice a1 n1 c1, .slice a2 n2 c2, .slice a3 S.C.length c3] 29)).alloc (.cells #[int i64 A.r, int i64 A.s, int i64 A.t, .slice aa A.l.length ca, int i64 A.k, .string A.o, .string A.y, int i64 A.v, int i64 A.x, int i64 A.z] 44)).alloc (.cells #[.slice none 0 0, .slice none 0 0, .slice none 0 0, .slice none 0 0] 29) = W) := hW.symm
 have hlen := hS.len.2.2.2
 have HPL : Hid (Calls Tryz.prog 121 #[.slice a3 S.C.length c3, .agg #[.string ⟨#[]⟩, int i64 A.x, int i64 A.z]] W fun e w' => JT e S.C (J0 A.x A.z) ∧ Below W.heap.size W w') := Z8 S.C _ A.x A.z W (by omega) (JaX hS.pairC _ _) (h.below hB0)
 have HCL : Hid (∀ wx, Below W.heap.size W wx → Calls Tryz.prog 93 #[.slice a3 S.C.length c3] wx fun e w' => ∃ q, e = .returned q ∧ w'.ownsRow wx.heap.size 90 8 q S.C.length (ceV S.C) ∧ Below wx.heap.size wx w') := fun wx hb => KH S.C _ wx (by omega) (h.below (hB0.trans (hb.mono hB0.size)))
 obtain ⟨e0, e1, e2, e3⟩ := Row.four hR1
 obtain ⟨m0, m1, m2, m3, m4, m5, m6, m7, m8, m9⟩ := Row.ten hR2
 have HB0 := Ja hB0
 have HWS := Ja hWs
 have HR1 : Hid (∀ wx, Below W.heap.size W wx → Row wx w.heap.size #[.slice a0 n0 c0, .slice a1 n1 c1, .slice a2 n2 c2, .slice a3 S.C.length c3] 29) := fun wx h => hR1.next h
 have HR3 : Hid (∀ wx, Below W.heap.size W wx → Row wx (w.heap.size + 1 + 1) #[.slice none 0 0, .slice none 0 0, .slice none 0 0, .slice none 0 0] 29) := fun wx h => hR3.next h
 have HHIT : Hid (∀ k b, GW S.C (J0 A.x A.z) k b → k < S.C.length ∧ (cellAt S.C A.x A.z 0).toNat = k) := fun k b hq => by
  obtain ⟨h1, h2⟩ := US hS hq
  cases b with
  | false => exact absurd hr (h2 rfl)
  | true => obtain ⟨h3, h4⟩ := h1 rfl; exact ⟨h3, by rw [h4]; rfl⟩
 rw [hW] at e0 e1 e2 e3 m0 m1 m2 m3 m4 m5 m6 m7 m8 m9
 clear hW h hB0 hR1 hR2 hR3 hWs hS hr
 generalize (cellAt S.C A.x A.z 0).toNat = kc at *
 go_enter Tryz.func128, Tryz.ntmps128
 go_wp2_with fail
 rw [HWW.out]
 refine HPL.out.mono ?_
 rintro e w1 ⟨⟨k, b, rfl, hq⟩, hb1⟩
 obtain ⟨hkl, hkc⟩ := HHIT.out k b hq
 replace hkc := hkc.symm
 subst hkc
 have HB1 := Ja hb1
 have HKL := Ja hkl
 clear hq HHIT HPL HWW e0 e1 e2 e3 m0 m1 m2 m3 m4 m5 m6 m7 m8 m9
 obtain ⟨e0, e1, e2, e3⟩ := Row.four (HR1.out w1 hb1)
 clear hb1
 go_wp2_with fail
 refine (HCL.out w1 HB1.out).mono ?_
 rintro e w2 ⟨q, rfl, hoq, hb2⟩
 have HB2 := Ja (HB1.out.trans (hb2.mono HB1.out.size))
 obtain ⟨g, cap, rfl⟩ : ∃ g cap, q = .slice (some ⟨g, 0, none⟩) S.C.length cap := by
  rcases hoq.2 with ⟨-, e⟩ | ⟨g, cap, cur, e, -⟩
  ·omega
  ·exact ⟨g, cap, e⟩
 have hgl := hoq.lt g rfl
 have HW1 := Ja HB1.out.size
 have hold : ∃ old, w2.cell? ⟨g, k * 8 + 7, none⟩ = some old ∧ w2.frozen? ⟨g, k * 8 + 7, none⟩ = false := by
  rcases hoq.2 with ⟨e, -⟩ | ⟨g', cap', cur, e, hbg, hg, hnc, hcm, hcs, htake⟩
  ·cases e
  ·obtain ⟨rfl, rfl⟩ : g = g' ∧ cap = cap' := by simpa using e
   refine ⟨cur[k * 8 + 7]'(by rw [hcs]; omega), by simp [World.cell?, hg], by simp [World.frozen?, hg]⟩
 obtain ⟨old, hoc, hof⟩ := hold
 have HOQ := Ja hoq
 have hr1 := HR1.out w2 HB2.out
 have hr3 := HR3.out w2 HB2.out
 clear hb2 hoq HCL HB1 e0 e1 e2 e3
 obtain ⟨e0, e1, e2, e3⟩ := Row.four hr1
 obtain ⟨r0, r1, r2, r3⟩ := Row.four hr3
 have fe3 := hr1.free 3
 have fr0 := hr3.free 0
 have fr1 := hr3.free 1
 have fr2 := hr3.free 2
 have fr3 := hr3.free 3
 have hk0 : (0 : Int) ≤ k := by omega
 have hk1 : (k : Int) < S.C.length := by omega
 have hgp : w.heap.size + 1 + 1 < g := by have h1 := HWS.out; have h2 := HW1.out; omega
 have hgn : ¬ (g = w.heap.size) := by omega
 have hgn' : ¬ (w.heap.size = g) := by omega
 have hgm : ¬ (g = w.heap.size + 1 + 1) := by omega
 have hgm' : ¬ (w.heap.size + 1 + 1 = g) := by omega
 have hW1 := HW1.out
 have hWs := HWS.out
 have HRF : Hid (Row ((((((w2.setCell ⟨w.heap.size, 3, none⟩ (.slice (some ⟨g, 0, none⟩) S.C.length cap)).setCell ⟨g, k * 8 + 7, none⟩ (.bool true)).setCell ⟨w.heap.size + 1 + 1, 0, none⟩ (.slice a0 n0 c0)).setCell ⟨w.heap.size + 1 + 1, 1, none⟩ (.slice a1 n1 c1)).setCell ⟨w.heap.size + 1 + 1, 2, none⟩ (.slice a2 n2 c2)).setCell ⟨w.heap.size + 1 + 1, 3, none⟩ (.slice (some ⟨g, 0, none⟩) S.C.length cap)) (w.heap.size + 1 + 1) #[.slice a0 n0 c0, .slice a1 n1 c1, .slice a2 n2 c2, .slice (some ⟨g, 0, none⟩) S.C.length cap] 29) := ZK (Ju (Ju hr3 (by omega)) hgm')
 have HOF : Hid (((((((w2.setCell ⟨w.heap.size, 3, none⟩ (.slice (some ⟨g, 0, none⟩) S.C.length cap)).setCell ⟨g, k * 8 + 7, none⟩ (.bool true)).setCell ⟨w.heap.size + 1 + 1, 0, none⟩ (.slice a0 n0 c0)).setCell ⟨w.heap.size + 1 + 1, 1, none⟩ (.slice a1 n1 c1)).setCell ⟨w.heap.size + 1 + 1, 2, none⟩ (.slice a2 n2 c2)).setCell ⟨w.heap.size + 1 + 1, 3, none⟩ (.slice (some ⟨g, 0, none⟩) S.C.length cap)).ownsRow w1.heap.size 90 8 (.slice (some ⟨g, 0, none⟩) S.C.length cap) S.C.length (ceV (Zw S.C k))) := by
  show World.ownsRow _ _ _ _ _ _ _
  rw [← JaS S.C k HKL.out]
  exact Vx (KL (JB HOQ.out (by omega)) (by rw [show (ceV S.C).length = S.C.length * 8 from HOQ.out.1]; omega)) (by omega)
 have HBF : Hid (Below w.heap.size w ((((((w2.setCell ⟨w.heap.size, 3, none⟩ (.slice (some ⟨g, 0, none⟩) S.C.length cap)).setCell ⟨g, k * 8 + 7, none⟩ (.bool true)).setCell ⟨w.heap.size + 1 + 1, 0, none⟩ (.slice a0 n0 c0)).setCell ⟨w.heap.size + 1 + 1, 1, none⟩ (.slice a1 n1 c1)).setCell ⟨w.heap.size + 1 + 1, 2, none⟩ (.slice a2 n2 c2)).setCell ⟨w.heap.size + 1 + 1, 3, none⟩ (.slice (some ⟨g, 0, none⟩) S.C.length cap))) := JS (((HB0.out.trans (HB2.out.mono HB0.out.size)).setCell (p := ⟨w.heap.size, 3, none⟩) (Nat.le_refl _) _).setCell (p := ⟨g, k * 8 + 7, none⟩) (show w.heap.size ≤ g by omega) _) (show w.heap.size ≤ w.heap.size + 1 + 1 by omega)
 have HLE : Hid (w.heap.size ≤ w1.heap.size) := by show _ ≤ _; omega
 clear hr1 hr3 hW1 hWs
 go_wp2
 refine bodyPost_ret (ZQ rfl rfl rfl HRF.out) rfl ⟨_, rfl, ?_, HBF.out⟩
 rw [Yo]
 exact Jk HOF.out HLE.out
theorem G5 {S : Sta} {A : Ac} (hA : AOk A) (h : A.x = 0 ∧ A.z = 0) : Jt S A := by
 have h2 := hA.2.2.2.2.2
 unfold JP at h2
 by_cases h7 : A.k = 7
 ·rw [if_pos h7, h.1, h.2] at h2
  have := Jcf h2
  unfold DOk at this; omega
 ·exact .inl ⟨h7, .inr h⟩
theorem Zt {A : Ac} (hA : AOk A) (h : ¬ (A.x = 0 ∧ A.z = 0)) : A.k = 7 ∨ A.k = 6 := by
 have h2 := hA.2.2.2.2.2
 unfold JP at h2
 by_cases h7 : A.k = 7
 ·exact .inl h7
 ·rw [if_neg h7] at h2
  by_cases h6 : A.k = 6
  ·exact .inr h6
  ·rw [if_neg h6] at h2; exact absurd h2 h
theorem JaG {S : Sta} {A : Ac} (hA : AOk A) (h : ¬ (A.x = 0 ∧ A.z = 0)) (hn : ¬ ∃ j, ∃ _ : j < S.C.length, cellAt S.C A.x A.z 0 = (j : Int)) : ¬ Jt S A := by
 rintro (⟨h1, h2⟩ | ⟨k, hk, h1, -⟩)
 ·rcases Zt hA h with e | e
  ·exact h1 e
  ·rcases h2 with h2 | h2
   ·exact h2 e
   ·exact h h2
 ·exact hn ⟨k, hk, h1⟩
theorem Jco {S : Sta} {A : Ac} (hA : AOk A) (h : ¬ (A.x = 0 ∧ A.z = 0)) {k : Nat} (hk : k < S.C.length) (hc : cellAt S.C A.x A.z 0 = (k : Int)) : Jt S A ↔ S.C[k].o = A.o ∧ (A.k = 7 ∨ S.C[k].t < A.t) := by
 constructor
 ·rintro (⟨h1, h2⟩ | ⟨j, hj, h1, h2, h3⟩)
  ·rcases Zt hA h with e | e
   ·exact absurd e h1
   ·rcases h2 with h2 | h2
    ·exact absurd e h2
    ·exact absurd h2 h
  ·have : j = k := by omega
   subst this; exact ⟨h2, h3⟩
 ·rintro ⟨h2, h3⟩; exact .inr ⟨k, hk, hc, h2, h3⟩
theorem Un (S : Sta) (a0 a1 a2 a3 : Option Addr) (n0 n1 n2 c0 c1 c2 c3 : Nat) (A : Ac) (aa : Option Addr) (ca : Nat) (w : World) (hS : SOk S) (hA : AOk A) (h : CeAt w (.slice a3 S.C.length c3) S.C) :
  Calls Tryz.prog 71 #[.agg #[.slice a0 n0 c0, .slice a1 n1 c1, .slice a2 n2 c2, .slice a3 S.C.length c3], .agg #[int i64 A.r, int i64 A.s, int i64 A.t, .slice aa A.l.length ca, int i64 A.k, .string A.o, .string A.y, int i64 A.v, int i64 A.x, int i64 A.z]] w fun e w' => Tells e (Jt S A) ∧ Below w.heap.size w w' := by
 obtain ⟨W, hW⟩ : ∃ W, W = (w.alloc (.cells #[.slice a0 n0 c0, .slice a1 n1 c1, .slice a2 n2 c2, .slice a3 S.C.length c3] 29)).alloc (.cells #[int i64 A.r, int i64 A.s, int i64 A.t, .slice aa A.l.length ca, int i64 A.k, .string A.o, .string A.y, int i64 A.v, int i64 A.x, int i64 A.z] 44) := ⟨_, rfl⟩
 have hB0 : Below w.heap.size w W := by rw [hW]; exact ((Below.refl _ _).alloc (Nat.le_refl _) _).alloc (by simp) _
 have hR1 : Row W w.heap.size #[.slice a0 n0 c0, .slice a1 n1 c1, .slice a2 n2 c2, .slice a3 S.C.length c3] 29 := by rw [hW]; exact (Jb w _ _ rfl).alloc _
 have hR2 : Row W (w.heap.size + 1) #[int i64 A.r, int i64 A.s, int i64 A.t, .slice aa A.l.length ca, int i64 A.k, .string A.o, .string A.y, int i64 A.v, int i64 A.x, int i64 A.z] 44 := by rw [hW]; exact Jb _ _ _ (by simp)
 have HWW : Hid ((w.alloc (.cells #[.slice a0 n0 c0, .slice a1 n1 c1, .slice a2 n2 c2, .slice a3 S.C.length c3] 29)).alloc (.cells #[int i64 A.r, int i64 A.s, int i64 A.t, .slice aa A.l.length ca, int i64 A.k, .string A.o, .string A.y, int i64 A.v, int i64 A.x, int i64 A.z] 44) = W) := hW.symm
 have hlen := hS.len.2.2.2
 have HPL : Hid (Calls Tryz.prog 121 #[.slice a3 S.C.length c3, .agg #[.string ⟨#[]⟩, int i64 A.x, int i64 A.z]] W fun e w' => JT e S.C (J0 A.x A.z) ∧ Below W.heap.size W w') := Z8 S.C _ A.x A.z W (by omega) (JaX hS.pairC _ _) (h.below hB0)
 obtain ⟨e0, e1, e2, e3⟩ := Row.four hR1
 obtain ⟨m0, m1, m2, m3, m4, m5, m6, m7, m8, m9⟩ := Row.ten hR2
 have HB0 := Ja hB0
 have HR1 : Hid (∀ wx, Below W.heap.size W wx → Row wx w.heap.size #[.slice a0 n0 c0, .slice a1 n1 c1, .slice a2 n2 c2, .slice a3 S.C.length c3] 29) := fun wx h => hR1.next h
 have HR2 : Hid (∀ wx, Below W.heap.size W wx → Row wx (w.heap.size + 1) #[int i64 A.r, int i64 A.s, int i64 A.t, .slice aa A.l.length ca, int i64 A.k, .string A.o, .string A.y, int i64 A.v, int i64 A.x, int i64 A.z] 44) := fun wx h => hR2.next h
 have HAT : Hid (∀ wx, Below W.heap.size W wx → CeAt wx (.slice a3 S.C.length c3) S.C) := fun wx hx => h.below (hB0.trans (hx.mono hB0.size))
 have HS := Ja hS
 have HA := Ja hA
 rw [hW] at e0 e1 e2 e3 m0 m1 m2 m3 m4 m5 m6 m7 m8 m9
 have hgd := Zl
 clear hW h hB0 hR1 hR2 hS hA
 by_cases hz : A.x = 0 ∧ A.z = 0
 case pos =>
  have heq : ∀ wx, (Op.equalIn 10000 42 (.agg #[int i64 A.x, int i64 A.z]) (.agg #[int i64 0, int i64 0])).run Tryz.prog wx = .ok true wx := fun wx => by rw [JZ, decide_eq_true hz]
  have HE := Ja (G5 (S := S) HA.out hz)
  clear hz HPL HAT HR1 HR2
  go_enter Tryz.func71, Tryz.ntmps71
  go_wp2
  rw [HWW.out]
  go_ret
  exact ⟨Tells.yes HE.out, HB0.out⟩
 have heq : ∀ wx, (Op.equalIn 10000 42 (.agg #[int i64 A.x, int i64 A.z]) (.agg #[int i64 0, int i64 0])).run Tryz.prog wx = .ok false wx := fun wx => by rw [JZ, decide_eq_false hz]
 have HZ := Ja hz
 clear hz
 go_enter Tryz.func71, Tryz.ntmps71
 go_wp2_with fail
 rw [HWW.out]
 refine HPL.out.mono ?_
 rintro e w1 ⟨⟨k, b, rfl, hq⟩, hb1⟩
 have HB1 := Ja hb1
 have HH := Ja (US HS.out hq)
 have HBF := Ja (HB0.out.trans (hb1.mono HB0.out.size))
 clear hq HPL HWW e0 e1 e2 e3 m0 m1 m2 m3 m4 m5 m6 m7 m8 m9 heq
 obtain ⟨e0, e1, e2, e3⟩ := Row.four (HR1.out w1 hb1)
 obtain ⟨m0, m1, m2, m3, m4, m5, m6, m7, m8, m9⟩ := Row.ten (HR2.out w1 hb1)
 clear hb1
 cases b with
 | false =>
  have HE := Ja (JaG (S := S) HA.out HZ.out (HH.out.2 rfl))
  clear HH HAT
  go_wp2
  go_quiet (fail)
  go_wp2
  go_ret
  exact ⟨Tells.no HE.out, Ji HBF.out nq⟩
 | true =>
  obtain ⟨hkl, hkc⟩ := HH.out.1 rfl
  have HE := Ja (Jco (S := S) HA.out HZ.out hkl hkc)
  obtain ⟨aa', ca', e, hga⟩ := HAT.out w1 HB1.out
  obtain ⟨rfl, -, rfl⟩ : a3 = aa' ∧ True ∧ c3 = ca' := by simpa using e
  obtain ⟨g, f, rfl, hg, hcc⟩ := hga (by omega)
  have q := hcc k hkl
  have hk0 : (0 : Int) ≤ k := by omega
  have hk1 : (k : Int) < S.C.length := by omega
  clear hkc hga hcc e HH
  generalize S.C[k] = y at *
  unfold ceC at q
  obtain ⟨q0, q1, q2, q3, q4, q5, q6, q7⟩ := q
  by_cases ho : y.o = A.o
  case neg =>
   have bo' := JY y.o A.o ho
   have bo : (y.o.toList != A.o.toList) = true := by simp [bne, bo']
   have HN : Hid (¬ Jt S A) := fun h => ho (HE.out.1 h).1
   clear ho HE
   go_wp2
   go_quiet (fail)
   go_wp2
   go_ret
   exact ⟨Tells.no HN.out, Ji HBF.out nq⟩
  have bo' := JM y.o A.o ho
  have bo : (y.o.toList != A.o.toList) = false := by simp [bne, bo']
  by_cases h6 : A.k = 6
  case neg =>
   have b6 : (A.k != 6) = true := by simp [h6]
   have HN : Hid (Jt S A) := HE.out.2 ⟨ho, .inl (by rcases Zt HA.out HZ.out with e | e; exact e; exact absurd e h6)⟩
   clear ho HE h6
   go_wp2
   go_quiet (fail)
   go_wp2
   try go_quiet (fail)
   try go_wp2
   go_ret
   first
    | exact ⟨Tells.yes HN.out, Ji HBF.out _⟩
    | exact ⟨Tells.yes HN.out, Ji (Ji HBF.out _) _⟩
  have b6 : (A.k != 6) = false := by simp [h6]
  have HN : Hid (Jt S A ↔ y.t < A.t) := by
   show _ ↔ _
   rw [HE.out]
   exact ⟨fun h => by rcases h.2 with e | e; omega; exact e, fun h => ⟨ho, .inr h⟩⟩
  clear ho HE h6
  go_wp2
  go_quiet (fail)
  go_wp2
  try go_quiet (fail)
  try go_wp2
  go_ret
  first
   | exact ⟨⟨decide (y.t < A.t), rfl, by rw [decide_eq_true_iff]; exact HN.out.symm⟩, Ji HBF.out _⟩
   | exact ⟨⟨decide (y.t < A.t), rfl, by rw [decide_eq_true_iff]; exact HN.out.symm⟩, Ji (Ji HBF.out _) _⟩
theorem Jbb (S : Sta) (A : Ac) : Jm S A = 0 ∨ Jm S A = 1 ∨ Jm S A = 2 ∨ Jm S A = 3 ∨ Jm S A = 4 := by
 unfold Jm
 split
 ·omega
 split
 ·omega
 split
 ·omega
 split
 ·omega
 split
 ·omega
 ·omega
theorem JX {S : Sta} {A : Ac} (h : Jm S A = 0) : SOk S ∧ AOk A ∧ Jf S.l A.r A.s = false ∧ kin A.l S.l = true ∧ Jt S A ∧ Jc S A = doS S A := by
 have hn : Jc S A = doS S A := by unfold Jc; rw [if_pos h]
 unfold Jm at h
 split at h
 ·omega
 rename_i h1
 split at h
 ·omega
 rename_i h2
 split at h
 ·omega
 rename_i h3
 split at h
 ·omega
 rename_i h4
 have h1' := Classical.not_not.1 h1
 exact ⟨h1'.1, h1'.2, by simpa using h2, by simpa using h3, Classical.not_not.1 h4, hn⟩
theorem ZE {S : Sta} {A : Ac} (h : ¬ Jm S A = 0) : Jc S A = S := by unfold Jc; rw [if_neg h]
theorem JcX (S : Sta) (A : Ac) : (doS S A).l = S.l.set A.r.toNat A.s := by
 unfold doS
 split
 ·rfl
 split
 ·rfl
 split
 ·rfl
 split
 ·rfl
 split
 ·rfl
 split
 ·rfl
 ·rfl
theorem zero_le {S : Sta} {A : Ac} (h : Jm S A = 0) : S.l.getD A.r.toNat 0 ≤ A.s ∧ (0 ≤ A.s ∧ A.s ≤ 1000) ∧ ∃ rn : Nat, A.r = rn ∧ DOk (rn : Int) A.s := by
 obtain ⟨hS, hA, hk, -, -, -⟩ := JX h
 obtain ⟨rn, hrn⟩ : ∃ rn : Nat, A.r = rn := Int.eq_ofNat_of_zero_le hA.1.1
 have hd : DOk (rn : Int) A.s := hrn ▸ hA.1
 have hk' : Jf S.l (rn : Int) A.s = false := hrn ▸ hk
 have := Jbj hS.1 hS.1 hd hk'
 refine ⟨by rw [hrn]; simpa using this, ⟨by have := hd.2.2.1; omega, hd.2.2.2⟩, rn, hrn, hd⟩
theorem KR {S : Sta} (A : Ac) {r s : Int} (hS : SOk S) (hk : Jf S.l r s = true) : Jf (Jc S A).l r s = true := by
 by_cases h : Jm S A = 0
 ·obtain ⟨hS, -, -, -, -, hn⟩ := JX h
  obtain ⟨h1, h2, -⟩ := zero_le h
  rw [hn, JcX]
  exact Ye hS.1 _ h2 h1 hk
 ·rw [ZE h]; exact hk
theorem UV {S : Sta} {A : Ac} (h : Jm S A = 0) : Jf (Jc S A).l A.r A.s = true := by
 obtain ⟨hS, -, -, -, -, hn⟩ := JX h
 obtain ⟨-, -, rn, hrn, hd⟩ := zero_le h
 rw [hn, JcX, hrn]
 exact VL hS.1 hd
theorem YL {l m : List Int} : kin l m = true ↔ KOk l ∧ KOk m ∧ ∀ i, l.getD i 0 ≤ m.getD i 0 := by
 constructor
 ·intro h
  have h1 : KOk l ∧ KOk m := by
   unfold kin at h
   simp only [Bool.and_eq_true, decide_eq_true_eq] at h
   exact h.1
  obtain ⟨hl, hm⟩ := h1
  obtain ⟨a, b, c, rfl⟩ : ∃ a b c, l = [a, b, c] := by
   have := hl.1
   match l, this with
   | [a, b, c], _ => exact ⟨a, b, c, rfl⟩
  obtain ⟨d, e, f, rfl⟩ : ∃ a b c, m = [a, b, c] := by
   have := hm.1
   match m, this with
   | [a, b, c], _ => exact ⟨a, b, c, rfl⟩
  rw [YS hl hm rfl rfl] at h
  simp only [Bool.and_eq_true, decide_eq_true_eq] at h
  refine ⟨hl, hm, fun i => ?_⟩
  match i with
  | 0 => simpa using h.1.1
  | 1 => simpa using h.1.2
  | 2 => simpa using h.2
  | (k + 3) => simp
 ·rintro ⟨hl, hm, h⟩
  obtain ⟨a, b, c, rfl⟩ : ∃ a b c, l = [a, b, c] := by
   have := hl.1
   match l, this with
   | [a, b, c], _ => exact ⟨a, b, c, rfl⟩
  obtain ⟨d, e, f, rfl⟩ : ∃ a b c, m = [a, b, c] := by
   have := hm.1
   match m, this with
   | [a, b, c], _ => exact ⟨a, b, c, rfl⟩
  rw [YS hl hm rfl rfl]
  have h0 := h 0
  have h1 := h 1
  have h2 := h 2
  simp at h0 h1 h2
  simp [h0, h1, h2]
theorem JdT {S : Sta} (A : Ac) {l : List Int} (hS : SOk S) (hk : kin l S.l = true) : kin l (Jc S A).l = true := by
 by_cases h : Jm S A = 0
 ·obtain ⟨hS, -, -, -, -, hn⟩ := JX h
  obtain ⟨h1, h2, -⟩ := zero_le h
  obtain ⟨k1, k2, k3⟩ := YL.1 hk
  rw [hn, JcX]
  refine YL.2 ⟨k1, YU hS.1 _ h2, fun i => Int.le_trans (k3 i) ?_⟩
  by_cases e : A.r.toNat = i
  ·subst e
   by_cases hl : A.r.toNat < S.l.length
   ·rw [show (S.l.set A.r.toNat A.s).getD A.r.toNat 0 = A.s by simp [List.getD, hl]]; exact h1
   ·rw [List.set_eq_of_length_le (by omega)]; exact Int.le_refl _
  ·rw [show (S.l.set A.r.toNat A.s).getD i 0 = S.l.getD i 0 by simp [List.getD, e]]; exact Int.le_refl _
 ·rw [ZE h]; exact hk
theorem Ze (a : Ce) : JbG a a := ⟨rfl, rfl, rfl, rfl, rfl, rfl⟩
theorem Ja2 {S : Sta} (A : Ac) {c : Ce} (hk : Jf S.l c.r c.s = true) (hc : c ∈ (Jc S A).C) : ∃ b ∈ S.C, JbG c b := by
 by_cases h : Jm S A = 0
 ·obtain ⟨hS, hA, hkn, -, -, hn⟩ := JX h
  rw [hn] at hc
  unfold doS at hc
  split at hc
  ·exact ⟨c, hc, Ze c⟩
  split at hc
  ·exact ⟨c, hc, Ze c⟩
  split at hc
  ·exact ⟨c, hc, Ze c⟩
  split at hc
  ·exact ⟨c, hc, Ze c⟩
  split at hc
  ·exact ⟨c, hc, Ze c⟩
  split at hc
  ·rcases (ZO _ _ _ c).1 hc with e | e
   ·rw [e] at hk
    rw [show Jf S.l (JI A).r (JI A).s = Jf S.l A.r A.s from rfl, hkn] at hk
    cases hk
   ·exact ⟨c, e, Ze c⟩
  ·exact KS S.C _ c hc
 ·rw [ZE h] at hc; exact ⟨c, hc, Ze c⟩
theorem U6 {S : Sta} {A : Ac} (hS : SOk S) (hA : AOk A) (hz : ¬ (A.x = 0 ∧ A.z = 0)) : Jt S A ↔ ∃ c ∈ S.C, c.r = A.x ∧ c.s = A.z ∧ c.o = A.o ∧ (A.k = 7 ∨ c.t < A.t) := by
 constructor
 ·rintro (⟨h1, h2⟩ | ⟨k, hk, h1, h2, h3⟩)
  ·rcases Zt hA hz with e | e
   ·exact absurd e h1
   ·rcases h2 with h2 | h2
    ·exact absurd e h2
    ·exact absurd h2 hz
  ·have := ZG S.C A.x A.z 0 k hk (by omega) (by omega)
   exact ⟨S.C[k], List.getElem_mem hk, this.1, this.2, h2, h3⟩
 ·rintro ⟨c, hc, h1, h2, h3, h4⟩
  obtain ⟨k, hk, e1, e2⟩ := Kw S.C 0 c hS.pairC hc
  refine .inr ⟨k, hk, ?_, ?_, ?_⟩
  ·rw [← h1, ← h2]; omega
  ·rw [e2]; exact h3
  ·rw [e2]; exact h4
def Dead (S : Sta) (A : Ac) : Prop := ∃ Q : Sta → Prop, Q S ∧ ∀ S', Q S' → ¬ Jm S' A = 0 ∧ ∀ A', Q (Jc S' A')
theorem Dead.code {S : Sta} {A : Ac} (h : Dead S A) : ¬ Jm S A = 0 := by obtain ⟨Q, h1, h2⟩ := h; exact (h2 S h1).1
theorem Dead.next {S : Sta} {A : Ac} (h : Dead S A) (A' : Ac) : Dead (Jc S A') A := by obtain ⟨Q, h1, h2⟩ := h; exact ⟨Q, (h2 S h1).2 A', h2⟩
theorem UJ {S : Sta} {A : Ac} (hS : SOk S) (h : Jf S.l A.r A.s = true) : Dead S A :=
 ⟨fun S => SOk S ∧ Jf S.l A.r A.s = true, ⟨hS, h⟩, fun S' ⟨h1, h2⟩ => ⟨(fun e => by have := (JX e).2.2.1; rw [h2] at this; cases this), fun A' => ⟨Z2 A' h1, KR A' h1 h2⟩⟩⟩
theorem Jb9 {S : Sta} {A : Ac} (h : Jm S A = 0) : Dead (Jc S A) A := UJ (Z2 A (JX h).1) (UV h)
theorem Jca {S : Sta} {A : Ac} (hS : SOk S) (h : Jm S A = 3) : Dead S A := by
 unfold Jm at h
 split at h
 ·rename_i h1
  exact ⟨SOk, hS, fun S' h2 => ⟨fun e => h1 ⟨hS, (JX e).2.1⟩, fun A' => Z2 A' h2⟩⟩
 rename_i h1
 have hA := (Classical.not_not.1 h1).2
 split at h
 ·omega
 split at h
 ·omega
 rename_i hk
 have hk' : kin A.l S.l = true := by simpa using hk
 split at h
 ·rename_i hr
  have hz : ¬ (A.x = 0 ∧ A.z = 0) := fun e => hr (G5 hA e)
  have hkn : Jf A.l A.x A.z = true := by
   have h2 := hA.2.2.2.2.2
   unfold JP at h2
   rcases Zt hA hz with e | e
   ·rw [if_pos e] at h2; exact h2
   ·rw [if_neg (by omega), if_pos e] at h2
    rcases h2 with h2 | h2
    ·exact absurd h2 hz
    ·exact h2
  refine ⟨fun S => SOk S ∧ kin A.l S.l = true ∧ ¬ Jt S A, ⟨hS, hk', hr⟩, fun S' ⟨h1, h2, h3⟩ => ⟨fun e => h3 (JX e).2.2.2.2.1, fun A' => ⟨Z2 A' h1, JdT A' h1 h2, fun h4 => h3 ?_⟩⟩⟩
  obtain ⟨c, hc, e1, e2, e3, e4⟩ := (U6 (Z2 A' h1) hA hz).1 h4
  have hks : Jf S'.l c.r c.s = true := by
   rw [e1, e2]
   obtain ⟨k1, k2, k3⟩ := YL.1 h2
   unfold Jf at hkn ⊢
   simp only [Bool.and_eq_true, decide_eq_true_eq] at hkn ⊢
   exact ⟨⟨k2, hkn.1.2⟩, Int.le_trans hkn.2 (k3 _)⟩
  obtain ⟨b, hb, s1, s2, s3, s4, -, -⟩ := Ja2 A' hks hc
  exact (U6 h1 hA hz).2 ⟨b, hb, s2 ▸ e1, s3 ▸ e2, s1 ▸ e3, s4 ▸ e4⟩
 split at h
 ·omega
 ·omega
theorem Jde {S : Sta} {A : Ac} (h : Jm S A = 1) : Dead S A := by
 unfold Jm at h
 split at h
 ·omega
 rename_i h1
 split at h
 ·rename_i h2; exact UJ (Classical.not_not.1 h1).1 h2
 split at h
 ·omega
 split at h
 ·omega
 split at h
 ·omega
 ·omega
structure Pas where
 S : Sta
 n : Nat
 b : Bool
noncomputable def Jp (p : Pas) (A : Ac) : Pas := ⟨Jc p.S A, if Jm p.S A = 0 then p.n + 1 else p.n, if Jm p.S A = 0 then true else p.b⟩
noncomputable def Ud : Nat → List Ac → Sta → Nat → Sta × Nat
 | 0, _, S, n => (S, n)
 | f + 1, L, S, n => if (L.foldl Jp ⟨S, n, false⟩).b = true then Ud f L (L.foldl Jp ⟨S, n, false⟩).S (L.foldl Jp ⟨S, n, false⟩).n else ((L.foldl Jp ⟨S, n, false⟩).S, (L.foldl Jp ⟨S, n, false⟩).n)
def unk (S : Sta) (L : List Ac) : Nat := L.countP (fun A => !Jf S.l A.r A.s)
theorem JeQ {S : Sta} (A : Ac) (L : List Ac) (hS : SOk S) : unk (Jc S A) L ≤ unk S L := by
 unfold unk
 refine List.countP_mono_left (fun x _ h => ?_)
 by_cases hk : Jf S.l x.r x.s = true
 ·rw [KR A hS hk] at h; cases h
 ·simp [hk]
theorem JeG {S : Sta} {A : Ac} {L : List Ac} (h : Jm S A = 0) (hm : A ∈ L) : unk (Jc S A) L < unk S L := by
 have hS := (JX h).1
 have hk := (JX h).2.2.1
 unfold unk
 induction L with
 | nil => cases hm
 | cons x L ih =>
  rw [List.countP_cons, List.countP_cons]
  have h1 := JeQ A L hS
  unfold unk at h1
  have h2 : (if (!Jf (Jc S A).l x.r x.s) = true then 1 else 0) ≤ (if (!Jf S.l x.r x.s) = true then 1 else 0) := by
   by_cases e : Jf S.l x.r x.s = true
   ·rw [KR A hS e, e]; exact Nat.le_refl _
   ·simp only [e]; split <;> simp
  rcases List.mem_cons.1 hm with e | e
  ·subst e
   rw [UV h, hk]
   simp only [Bool.not_true, Bool.false_eq_true, if_false, Bool.not_false, if_true]
   omega
  ·have := ih e
   omega
theorem Jed {p : Pas} {A : Ac} {L : List Ac} (hS : SOk p.S) (hm : A ∈ L) : SOk (Jp p A).S ∧ (Jp p A).n + unk (Jp p A).S L ≤ p.n + unk p.S L ∧ p.n ≤ (Jp p A).n ∧ ((Jp p A).b = true → p.b = true ∨ p.n < (Jp p A).n) ∧ (p.b = true → (Jp p A).b = true) ∧ ((Jp p A).b = false → Jp p A = p) := by
 unfold Jp
 by_cases h : Jm p.S A = 0
 ·simp only [if_pos h]
  have h1 := JeG h hm
  exact ⟨Z2 A hS, by omega, by omega, fun _ => .inr (by omega), fun _ => trivial, fun e => by cases e⟩
 ·simp only [if_neg h]
  rw [ZE h]
  exact ⟨hS, Nat.le_refl _, Nat.le_refl _, fun e => .inl e, fun e => e, fun _ => rfl⟩
theorem YO (L : List Ac) : ∀ (K : List Ac) (p : Pas), (∀ A ∈ K, A ∈ L) → SOk p.S → SOk (K.foldl Jp p).S ∧ (K.foldl Jp p).n + unk (K.foldl Jp p).S L ≤ p.n + unk p.S L ∧ p.n ≤ (K.foldl Jp p).n ∧ ((K.foldl Jp p).b = true → p.b = true ∨ p.n < (K.foldl Jp p).n) ∧ (p.b = true → (K.foldl Jp p).b = true) ∧ ((K.foldl Jp p).b = false → K.foldl Jp p = p)
 | [], p, _, hS => ⟨hS, Nat.le_refl _, Nat.le_refl _, fun e => .inl e, fun e => e, fun _ => rfl⟩
 | A :: K, p, hm, hS => by
  obtain ⟨h1, h2, h3, h4, h5, h6⟩ := Jed (p := p) hS (hm A (by simp))
  obtain ⟨k1, k2, k3, k4, k5, k6⟩ := YO L K (Jp p A) (fun B hB => hm B (by simp [hB])) h1
  rw [List.foldl_cons]
  refine ⟨k1, by omega, by omega, fun e => ?_, fun e => k5 (h5 e), fun e => ?_⟩
  ·rcases k4 e with e | e
   ·rcases h4 e with e | e
    ·exact .inl e
    ·exact .inr (by omega)
   ·exact .inr (by omega)
  ·have e2 := k6 e
   rw [e2] at e ⊢
   exact h6 e
inductive Drp (S : Sta) : List Ac → List Ac → Prop
 | nil : Drp S [] []
 | keep (A : Ac) {L M : List Ac} : Drp S L M → Drp S (A :: L) (A :: M)
 | skip {A : Ac} {L M : List Ac} : Dead S A → Drp S L M → Drp S (A :: L) M
theorem Drp.refl (S : Sta) : ∀ L : List Ac, Drp S L L
 | [] => .nil
 | A :: L => .keep A (Drp.refl S L)
theorem Drp.next {S : Sta} {L M : List Ac} (h : Drp S L M) (A : Ac) : Drp (Jc S A) L M := by
 induction h with
 | nil => exact .nil
 | keep B _ ih => exact .keep B ih
 | skip hd _ ih => exact .skip (hd.next A) ih
theorem Drp.trans {S : Sta} {L M N : List Ac} (h : Drp S L M) (k : Drp S M N) : Drp S L N := by
 induction h generalizing N with
 | nil => exact k
 | keep A _ ih =>
  cases k with
  | keep _ k => exact .keep A (ih k)
  | skip hd k => exact .skip hd (ih k)
 | skip hd _ ih => exact .skip hd (ih k)
theorem Drp.snoc {S : Sta} {L M : List Ac} (h : Drp S L M) (A : Ac) : Drp S (L ++ [A]) (M ++ [A]) := by
 induction h with
 | nil => exact .keep A .nil
 | keep B _ ih => exact .keep B ih
 | skip hd _ ih => exact .skip hd ih
theorem Drp.snocD {S : Sta} {L M : List Ac} (h : Drp S L M) {A : Ac} (hd : Dead S A) : Drp S (L ++ [A]) M := by
 induction h with
 | nil => exact .skip hd .nil
 | keep B _ ih => exact .keep B ih
 | skip hd' _ ih => exact .skip hd' ih
theorem Drp.fold {L M : List Ac} : ∀ {p : Pas}, Drp p.S L M → L.foldl Jp p = M.foldl Jp p := by
 intro p h
 induction L generalizing M p with
 | nil => cases h; rfl
 | cons A L ih =>
  cases h with
  | keep _ h => rw [List.foldl_cons, List.foldl_cons]; exact ih (p := Jp p A) (h.next A)
  | skip hd h =>
   rw [List.foldl_cons]
   have e : Jp p A = p := by
    unfold Jp
    rw [if_neg hd.code, if_neg hd.code, ZE hd.code]
   rw [e]
   exact ih h
theorem Drp.foldS {L M : List Ac} : ∀ (K : List Ac) (p : Pas), Drp p.S L M → Drp (K.foldl Jp p).S L M
 | [], _, h => h
 | A :: K, p, h => by rw [List.foldl_cons]; exact Drp.foldS K (Jp p A) (h.next A)
theorem Drp.sub {S : Sta} {L M : List Ac} (h : Drp S L M) : M.length ≤ L.length := by
 induction h with
 | nil => exact Nat.le_refl _
 | keep _ _ ih => simpa using ih
 | skip _ _ ih => simp only [List.length_cons]; omega
theorem Drp.mem {S : Sta} {L M : List Ac} (h : Drp S L M) : ∀ A ∈ M, A ∈ L := by
 induction h with
 | nil => intro A h; exact h
 | keep B _ ih => intro A h; rcases List.mem_cons.1 h with e | e; exact e ▸ List.mem_cons_self; exact List.mem_cons_of_mem _ (ih A e)
 | skip _ _ ih => intro A h; exact List.mem_cons_of_mem _ (ih A h)
noncomputable def Jap (p : Pas) (A : Ac) (W : List Ac) : List Ac := if Jm p.S A = 2 ∨ Jm p.S A = 4 then W ++ [A] else W
theorem Drp.wait {p : Pas} {X W : List Ac} {A : Ac} (hS : SOk p.S) (h : Drp p.S X W) : Drp (Jp p A).S (X ++ [A]) (Jap p A W) := by
 have h1 : Drp (Jp p A).S X W := h.next A
 unfold Jap
 rcases Jbb p.S A with e | e | e | e | e
 ·rw [if_neg (by omega)]; exact h1.snocD (Jb9 e)
 ·rw [if_neg (by omega)]; exact h1.snocD ((Jde e).next A)
 ·rw [if_pos (.inl e)]; exact h1.snoc A
 ·rw [if_neg (by omega)]; exact h1.snocD ((Jca hS e).next A)
 ·rw [if_pos (.inr e)]; exact h1.snoc A
abbrev lv0 : Oper := oq 8 (.move (.tmp 1)) 4 "l07_done.go:74" #[] none
abbrev lv1 : Oper := oq 9 (.fieldAddr 44 (.tmp 5) 4) 0 "l07_done.go:74" #[] none
abbrev lv2 : Oper := oq 10 (.load 9 (.tmp 9)) 9 "l07_done.go:74" #[eD 1] none
abbrev lv3 : Oper := oq 11 (.call ⟨.value (.func 94), #[.tmp 10], #[9]⟩) 9 "l07_done.go:74" #[eD 2] none
abbrev lv4 : Oper := oq 12 (.fieldAddr 44 (.tmp 5) 5) 0 "l07_done.go:74" #[] none
abbrev lv5 : Oper := oq 13 (.load 9 (.tmp 12)) 9 "l07_done.go:74" #[eD 4] none
abbrev lv6 : Oper := oq 14 (.call ⟨.value (.func 94), #[.tmp 13], #[9]⟩) 9 "l07_done.go:74" #[eD 5, eC 3] none
abbrev lv7 : Oper := oq 15 (.fieldAddr 44 (.tmp 5) 6) 0 "l07_done.go:74" #[] none
abbrev lv8 : Oper := oq 16 (.load 3 (.tmp 15)) 3 "l07_done.go:74" #[eD 7] none
abbrev lv9 : Oper := oq 17 (.fieldAddr 44 (.tmp 5) 0) 0 "l07_done.go:74" #[] none
abbrev JiU : Oper := oq 18 (.load 42 (.tmp 17)) 42 "l07_done.go:74" #[eD 9] none
abbrev JeS : Oper := oq 19 (.build 88 #[(0, .tmp 8), (1, .tmp 11), (2, .tmp 14), (3, .tmp 16), (4, .tmp 18)]) 88 "l07_done.go:74" #[eD 0, eD 3, eD 6, eD 8, eD 10] none
abbrev JfJ : Oper := oq 7 (.alloc 88) 0 "l07_done.go:74" #[] none
abbrev Jjo : Oper := oz (.store 88 (.tmp 7) (.tmp 19)) 0 "l07_done.go:74" #[eD 12, eD 11, eC 6, eP 0, eP 1, eP 2, eP 3, eP 4, eP 5, eP 6, eP 7, eP 8, eP 9, eP 10, eP 11, eP 12] none
theorem Kf (L : List Li) (a0 a1 a2 a3 : Option Addr) (n0 n1 n3 c0 c1 c2 c3 : Nat) (m : Bool) (A : Ac) (aa : Option Addr) (ca : Nat) (w : World) (hn : L.length ≤ 1000) (hp : Gw (J6 A.r A.s) L) (hx : ∀ y ∈ L, ¬ J6 A.r A.s y = 0) (h : LiAt w (.slice a2 L.length c2) L) (ho : A.o.size ≤ 1048576) (hy : A.y.size ≤ 1048576) :
  Calls Tryz.prog 143 #[.agg #[.slice a0 n0 c0, .slice a1 n1 c1, .slice a2 L.length c2, .slice a3 n3 c3], .bool m, .agg #[int i64 A.r, int i64 A.s, int i64 A.t, .slice aa A.l.length ca, int i64 A.k, .string A.o, .string A.y, int i64 A.v, int i64 A.x, int i64 A.z]] w fun e w' => ∃ q, e = .returned (.agg #[.slice a0 n0 c0, .slice a1 n1 c1, q, .slice a3 n3 c3]) ∧ w'.ownsRow w.heap.size 88 6 q (JE (Jj m A.v A) L).length (liV (JE (Jj m A.v A) L)) ∧ Below w.heap.size w w' := by
 obtain ⟨W, hW⟩ : ∃ W, W = ((w.alloc (.cells #[.slice a0 n0 c0, .slice a1 n1 c1, .slice a2 L.length c2, .slice a3 n3 c3] 29)).alloc (.cells #[int i64 A.r, int i64 A.s, int i64 A.t, .slice aa A.l.length ca, int i64 A.k, .string A.o, .string A.y, int i64 A.v, int i64 A.x, int i64 A.z] 44)).alloc (.cells #[.slice none 0 0, .slice none 0 0, .slice none 0 0, .slice none 0 0] 29) := ⟨_, rfl⟩
 have hWs : W.heap.size = w.heap.size + 1 + 1 + 1 := by rw [hW]; simp
 have hB0 : Below w.heap.size w W := by rw [hW]; exact (((Below.refl _ _).alloc (Nat.le_refl _) _).alloc (by simp) _).alloc (by simp; omega) _
 have hR1 : Row W w.heap.size #[.slice a0 n0 c0, .slice a1 n1 c1, .slice a2 L.length c2, .slice a3 n3 c3] 29 := by rw [hW]; exact ((Jb w _ _ rfl).alloc _).alloc _
 have hR2 : Row W (w.heap.size + 1) #[int i64 A.r, int i64 A.s, int i64 A.t, .slice aa A.l.length ca, int i64 A.k, .string A.o, .string A.y, int i64 A.v, int i64 A.x, int i64 A.z] 44 := by rw [hW]; exact (Jb _ _ _ (by simp)).alloc _
 have hR3 : Row W (w.heap.size + 1 + 1) #[.slice none 0 0, .slice none 0 0, .slice none 0 0, .slice none 0 0] 29 := by rw [hW]; exact Jb _ _ _ (by simp)
 have HWW : Hid (((w.alloc (.cells #[.slice a0 n0 c0, .slice a1 n1 c1, .slice a2 L.length c2, .slice a3 n3 c3] 29)).alloc (.cells #[int i64 A.r, int i64 A.s, int i64 A.t, .slice aa A.l.length ca, int i64 A.k, .string A.o, .string A.y, int i64 A.v, int i64 A.x, int i64 A.z] 44)).alloc (.cells #[.slice none 0 0, .slice none 0 0, .slice none 0 0, .slice none 0 0] 29) = W) := hW.symm
 have HCO : Hid (∀ wx, Calls Tryz.prog 94 #[.string A.o] wx fun e w' => e = .returned (.string A.o) ∧ Below wx.heap.size wx w') := fun wx => ZM A.o wx (by omega)
 have HCY : Hid (∀ wx, Calls Tryz.prog 94 #[.string A.y] wx fun e w' => e = .returned (.string A.y) ∧ Below wx.heap.size wx w') := fun wx => ZM A.y wx (by omega)
 have HWP : Hid (∀ wx, Below W.heap.size W wx → Calls Tryz.prog 154 #[.slice a2 L.length c2, .agg #[.bool m, .string A.o, .string A.y, int i64 A.v, int i64 A.r, int i64 A.s]] wx fun e w' => ∃ u, e = .returned u ∧ w'.ownsRow wx.heap.size 88 6 u (JE (Jj m A.v A) L).length (liV (JE (Jj m A.v A) L)) ∧ Below wx.heap.size wx w') := fun wx hbx => Ub L _ (Jj m A.v A) wx hn hp hx (h.below (hB0.trans (hbx.mono hB0.size)))
 have HB0 := Ja hB0
 have HR1 : Hid (∀ wx, Below W.heap.size W wx → Row wx w.heap.size #[.slice a0 n0 c0, .slice a1 n1 c1, .slice a2 L.length c2, .slice a3 n3 c3] 29) := fun wx h => hR1.next h
 have HR3 : Hid (∀ wx, Below W.heap.size W wx → Row wx (w.heap.size + 1 + 1) #[.slice none 0 0, .slice none 0 0, .slice none 0 0, .slice none 0 0] 29) := fun wx h => hR3.next h
 clear hW hp hx h hn hB0 hR1 hR3
 go_enter Tryz.func143, Tryz.ntmps143
 go_wp2
 rw [HWW.out]
 clear HWW
 have HS : Hid (∀ wx, Below W.heap.size W wx → wx.cell? ⟨w.heap.size + 1, 0, none⟩ = some (int i64 A.r) ∧ wx.cell? ⟨w.heap.size + 1, 1, none⟩ = some (int i64 A.s) ∧ wx.cell? ⟨w.heap.size + 1, 2, none⟩ = some (int i64 A.t) ∧ wx.cell? ⟨w.heap.size + 1, 3, none⟩ = some (.slice aa A.l.length ca) ∧ wx.cell? ⟨w.heap.size + 1, 4, none⟩ = some (int i64 A.k) ∧ wx.cell? ⟨w.heap.size + 1, 5, none⟩ = some (.string A.o) ∧ wx.cell? ⟨w.heap.size + 1, 6, none⟩ = some (.string A.y) ∧ wx.cell? ⟨w.heap.size + 1, 7, none⟩ = some (int i64 A.v) ∧ wx.cell? ⟨w.heap.size + 1, 8, none⟩ = some (int i64 A.x) ∧ wx.cell? ⟨w.heap.size + 1, 9, none⟩ = some (int i64 A.z)) := fun wx h => Row.ten (hR2.next h)
 have hBc : Below W.heap.size W W := Below.refl _ _
 have HWS := Ja hWs
 clear hWs
 replace hBc := hBc.drew
 have hs := Ja (HS.out _ hBc)
 refine wph HS hBc 14 ?_
 generalize W.drew = wn at *
 refine tQ 0 lv0 ?_; refine tQ 1 lv1 ?_; refine tQ 2 lv2 ?_; refine tQ 4 lv4 ?_; refine tQ 5 lv5 ?_; refine tQ 7 lv7 ?_; refine tQ 8 lv8 ?_; refine tQ 9 lv9 ?_; refine tQ 10 JiU ?_
 refine wpAnyH_ready (rs := [3, 12]) (by as_aux_lemma => kernel_rfl) (by simp) ?_
 refine AllReadyH.cons (o := lv3) rfl (fun K hK => ?_) (AllReadyH.cons (o := JfJ) rfl (fun K hK => ?_) AllReadyH.nil)
 case' refine_2 =>
  have HG := Ja (Jb wn #[.bool false, .string ⟨#[]⟩, .string ⟨#[]⟩, int i64 0, int i64 0, int i64 0] 88 rfl)
  have HGL := Ja hBc.size
  replace hBc := hBc.alloc hBc.size (.cells #[.bool false, .string ⟨#[]⟩, .string ⟨#[]⟩, int i64 0, int i64 0, int i64 0] 88)
  replace hs := Ja (HS.out _ hBc)
  go_simp
  refine hK.out _ _ hs.out (fun hx => ?_)
  clear hx hK K
  try simp only [s1, s2, s3]
  generalize wn.alloc (.cells #[.bool false, .string ⟨#[]⟩, .string ⟨#[]⟩, int i64 0, int i64 0, int i64 0] 88) = wq at *
  generalize wn.heap.size = gq at *
  refine rd 3 lv3 (fun K hK => ?_)
  go_simp
  refine (HCO.out _).mono ?_
  rintro e wn ⟨rfl, hbn⟩
  replace HG := Ja (HG.out.next hbn)
  replace hBc := nx hBc hbn
  clear hbn
  try go_wp2_with fail
  replace hs := Ja (HS.out _ hBc)
  refine hK.out _ _ hs.out (fun hx => ?_)
  clear hx hK K
  try simp only [s1, s2, s3]
  refine rd 6 lv6 (fun K hK => ?_)
  go_simp
  refine (HCY.out _).mono ?_
  rintro e wn ⟨rfl, hbn⟩
  replace HG := Ja (HG.out.next hbn)
  replace hBc := nx hBc hbn
  clear hbn
  try go_wp2_with fail
  replace hs := Ja (HS.out _ hBc)
  refine hK.out _ _ hs.out (fun hx => ?_)
  clear hx hK K
  try simp only [s1, s2, s3]
  refine tQ 11 JeS ?_
 case' refine_1 =>
  go_simp
  refine (HCO.out _).mono ?_
  rintro e wn ⟨rfl, hbn⟩
  replace hBc := nx hBc hbn
  clear hbn
  try go_wp2_with fail
  replace hs := Ja (HS.out _ hBc)
  refine hK.out _ _ hs.out (fun hx => ?_)
  clear hx hK K
  try simp only [s1, s2, s3]
  refine wpAnyH_ready (rs := [6, 12]) (by as_aux_lemma => kernel_rfl) (by simp) ?_
  refine AllReadyH.cons (o := lv6) rfl (fun K hK => ?_) (AllReadyH.cons (o := JfJ) rfl (fun K hK => ?_) AllReadyH.nil)
  case' refine_2 =>
   have HG := Ja (Jb wn #[.bool false, .string ⟨#[]⟩, .string ⟨#[]⟩, int i64 0, int i64 0, int i64 0] 88 rfl)
   have HGL := Ja hBc.size
   replace hBc := hBc.alloc hBc.size (.cells #[.bool false, .string ⟨#[]⟩, .string ⟨#[]⟩, int i64 0, int i64 0, int i64 0] 88)
   replace hs := Ja (HS.out _ hBc)
   go_simp
   refine hK.out _ _ hs.out (fun hx => ?_)
   clear hx hK K
   try simp only [s1, s2, s3]
   generalize wn.alloc (.cells #[.bool false, .string ⟨#[]⟩, .string ⟨#[]⟩, int i64 0, int i64 0, int i64 0] 88) = wq at *
   generalize wn.heap.size = gq at *
   refine rd 6 lv6 (fun K hK => ?_)
   go_simp
   refine (HCY.out _).mono ?_
   rintro e wn ⟨rfl, hbn⟩
   replace HG := Ja (HG.out.next hbn)
   replace hBc := nx hBc hbn
   clear hbn
   try go_wp2_with fail
   replace hs := Ja (HS.out _ hBc)
   refine hK.out _ _ hs.out (fun hx => ?_)
   clear hx hK K
   try simp only [s1, s2, s3]
   refine tQ 11 JeS ?_
  case' refine_1 =>
   go_simp
   refine (HCY.out _).mono ?_
   rintro e wn ⟨rfl, hbn⟩
   replace hBc := nx hBc hbn
   clear hbn
   try go_wp2_with fail
   replace hs := Ja (HS.out _ hBc)
   refine hK.out _ _ hs.out (fun hx => ?_)
   clear hx hK K
   try simp only [s1, s2, s3]
   refine tQ 11 JeS ?_
   refine rd 12 JfJ (fun K hK => ?_)
   have HG := Ja (Jb wn #[.bool false, .string ⟨#[]⟩, .string ⟨#[]⟩, int i64 0, int i64 0, int i64 0] 88 rfl)
   have HGL := Ja hBc.size
   replace hBc := hBc.alloc hBc.size (.cells #[.bool false, .string ⟨#[]⟩, .string ⟨#[]⟩, int i64 0, int i64 0, int i64 0] 88)
   replace hs := Ja (HS.out _ hBc)
   go_simp
   refine hK.out _ _ hs.out (fun hx => ?_)
   clear hx hK K
   try simp only [s1, s2, s3]
   generalize wn.alloc (.cells #[.bool false, .string ⟨#[]⟩, .string ⟨#[]⟩, int i64 0, int i64 0, int i64 0] 88) = wq at *
   generalize wn.heap.size = gq at *
 all_goals
  rename World => wz
  refine rd 13 Jjo (fun K hK => ?_)
  obtain ⟨z0, z1, z2, z3, z4, z5⟩ := JcA HG.out
  have fz0 := HG.out.free 0
  have fz1 := HG.out.free 1
  have fz2 := HG.out.free 2
  have fz3 := HG.out.free 3
  have fz4 := HG.out.free 4
  have fz5 := HG.out.free 5
  have HBN : Hid (Below W.heap.size W ((((((wz.setCell ⟨gq, 0, none⟩ (.bool m)).setCell ⟨gq, 1, none⟩ (.string A.o)).setCell ⟨gq, 2, none⟩ (.string A.y)).setCell ⟨gq, 3, none⟩ (int i64 A.v)).setCell ⟨gq, 4, none⟩ (int i64 A.r)).setCell ⟨gq, 5, none⟩ (int i64 A.s))) := ((((((hBc.setCell (p := ⟨gq, 0, none⟩) HGL.out _).setCell (p := ⟨gq, 1, none⟩) HGL.out _).setCell (p := ⟨gq, 2, none⟩) HGL.out _).setCell (p := ⟨gq, 3, none⟩) HGL.out _).setCell (p := ⟨gq, 4, none⟩) HGL.out _).setCell (p := ⟨gq, 5, none⟩) HGL.out _)
  have HGN : Hid (Row ((((((wz.setCell ⟨gq, 0, none⟩ (.bool m)).setCell ⟨gq, 1, none⟩ (.string A.o)).setCell ⟨gq, 2, none⟩ (.string A.y)).setCell ⟨gq, 3, none⟩ (int i64 A.v)).setCell ⟨gq, 4, none⟩ (int i64 A.r)).setCell ⟨gq, 5, none⟩ (int i64 A.s)) gq #[.bool m, .string A.o, .string A.y, int i64 A.v, int i64 A.r, int i64 A.s] 88) := by show Row _ _ _ _; exact ((((((HG.out.setL 0 (.bool m)).setL 1 (.string A.o)).setL 2 (.string A.y)).setL 3 (int i64 A.v)).setL 4 (int i64 A.r)).setL 5 (int i64 A.s))
  replace hs := Ja (HS.out _ HBN.out)
  go_simp
  refine hK.out _ _ hs.out (fun hx => ?_)
  clear hx hK K
  try simp only [s1, s2, s3]
  refine wpd ?_
  replace HG := HGN
  replace hBc := HBN.out
  clear HGN HBN z0 z1 z2 z3 z4 z5 fz0 fz1 fz2 fz3 fz4 fz5 hs
  generalize ((((((wz.setCell ⟨gq, 0, none⟩ (.bool m)).setCell ⟨gq, 1, none⟩ (.string A.o)).setCell ⟨gq, 2, none⟩ (.string A.y)).setCell ⟨gq, 3, none⟩ (int i64 A.v)).setCell ⟨gq, 4, none⟩ (int i64 A.r)).setCell ⟨gq, 5, none⟩ (int i64 A.s)) = wy at *
  obtain ⟨e0, e1, e2, e3⟩ := Row.four (HR1.out wy hBc)
  obtain ⟨z0, z1, z2, z3, z4, z5⟩ := JcA HG.out
  go_wp2_with fail
  refine (HWP.out wy hBc).mono ?_
  rintro e w5 ⟨q, rfl, hoq, hb5⟩
  obtain ⟨aq, cq, rfl⟩ := JN hoq
  have HB5 := Ja (hBc.trans (hb5.mono hBc.size))
  have HW1 : Hid (w.heap.size ≤ wy.heap.size) := by have h1 := HWS.out; have h2 := hBc.size; show _ ≤ _; omega
  have HLZ := Ja hBc.size
  have HOQ : Hid (w5.ownsRow wy.heap.size 88 6 (.slice aq (JE (Jj m A.v A) L).length cq) (JE (Jj m A.v A) L).length (liV (JE (Jj m A.v A) L))) := hoq
  generalize hnq : (JE (Jj m A.v A) L).length = nq at *
  have HNQ := Ja hnq
  clear hnq
  clear hoq hb5 z0 z1 z2 z3 z4 z5 e0 e1 e2 e3 HG HGL HWP hBc
  have hr1 := HR1.out w5 HB5.out
  have hr3 := HR3.out w5 HB5.out
  obtain ⟨e0, e1, e2, e3⟩ := Row.four hr1
  obtain ⟨r0, r1, r2, r3⟩ := Row.four hr3
  have fe2 := hr1.free 2
  have fr0 := hr3.free 0
  have fr1 := hr3.free 1
  have fr2 := hr3.free 2
  have fr3 := hr3.free 3
  have HRF : Hid (Row (((((w5.setCell ⟨w.heap.size, 2, none⟩ (.slice aq nq cq)).setCell ⟨w.heap.size + 1 + 1, 0, none⟩ (.slice a0 n0 c0)).setCell ⟨w.heap.size + 1 + 1, 1, none⟩ (.slice a1 n1 c1)).setCell ⟨w.heap.size + 1 + 1, 2, none⟩ (.slice aq nq cq)).setCell ⟨w.heap.size + 1 + 1, 3, none⟩ (.slice a3 n3 c3)) (w.heap.size + 1 + 1) #[.slice a0 n0 c0, .slice a1 n1 c1, .slice aq nq cq, .slice a3 n3 c3] 29) := ZK (Ju hr3 (by omega))
  have hWz : w.heap.size + 1 + 1 < wy.heap.size := by
   have h1 := HWS.out
   have h2 := HLZ.out
   omega
  have HOF : Hid ((((((w5.setCell ⟨w.heap.size, 2, none⟩ (.slice aq nq cq)).setCell ⟨w.heap.size + 1 + 1, 0, none⟩ (.slice a0 n0 c0)).setCell ⟨w.heap.size + 1 + 1, 1, none⟩ (.slice a1 n1 c1)).setCell ⟨w.heap.size + 1 + 1, 2, none⟩ (.slice aq nq cq)).setCell ⟨w.heap.size + 1 + 1, 3, none⟩ (.slice a3 n3 c3)).ownsRow wy.heap.size 88 6 (.slice aq nq cq) nq (liV (JE (Jj m A.v A) L))) := Vx (JB HOQ.out (by omega)) hWz
  have HBF : Hid (Below w.heap.size w ((((((w5.setCell ⟨w.heap.size, 2, none⟩ (.slice aq nq cq)).setCell ⟨w.heap.size + 1 + 1, 0, none⟩ (.slice a0 n0 c0)).setCell ⟨w.heap.size + 1 + 1, 1, none⟩ (.slice a1 n1 c1)).setCell ⟨w.heap.size + 1 + 1, 2, none⟩ (.slice aq nq cq)).setCell ⟨w.heap.size + 1 + 1, 3, none⟩ (.slice a3 n3 c3)))) := JS ((HB0.out.trans (HB5.out.mono HB0.out.size)).setCell (p := ⟨w.heap.size, 2, none⟩) (Nat.le_refl _) _) (by omega)
  clear hr1 hr3 hWz
  go_wp2
  refine bodyPost_ret (ZQ rfl rfl rfl HRF.out) rfl ⟨_, rfl, ?_, HBF.out⟩
  rw [HNQ.out]
  exact Jk HOF.out HW1.out
theorem Zd (L : List Li) (a0 a1 a2 a3 : Option Addr) (n0 n1 n3 c0 c1 c2 c3 : Nat) (m : Bool) (A : Ac) (aa : Option Addr) (ca : Nat) (w : World) (hn : L.length ≤ 1000) (h : LiAt w (.slice a2 L.length c2) L) (hu : IntsAt w (.slice aa A.l.length ca) A.l) (hal : A.l.length ≤ 1048576) :
  Calls Tryz.prog 144 #[.agg #[.slice a0 n0 c0, .slice a1 n1 c1, .slice a2 L.length c2, .slice a3 n3 c3], .bool m, .agg #[int i64 A.r, int i64 A.s, int i64 A.t, .slice aa A.l.length ca, int i64 A.k, .string A.o, .string A.y, int i64 A.v, int i64 A.x, int i64 A.z]] w fun e w' => ∃ q, e = .returned (.agg #[.slice a0 n0 c0, .slice a1 n1 c1, q, .slice a3 n3 c3]) ∧ w'.ownsRow w.heap.size 88 6 q (Jd L m A.o A.y A.l).length (liV (Jd L m A.o A.y A.l)) ∧ Below w.heap.size w w' := by
 obtain ⟨W, hW⟩ : ∃ W, W = (((w.alloc (.cells #[.slice a0 n0 c0, .slice a1 n1 c1, .slice a2 L.length c2, .slice a3 n3 c3] 29)).alloc (.cells #[.bool m] 4)).alloc (.cells #[int i64 A.r, int i64 A.s, int i64 A.t, .slice aa A.l.length ca, int i64 A.k, .string A.o, .string A.y, int i64 A.v, int i64 A.x, int i64 A.z] 44)).alloc (.cells #[.slice none 0 0, .slice none 0 0, .slice none 0 0, .slice none 0 0] 29) := ⟨_, rfl⟩
 have hWs : W.heap.size = w.heap.size + 1 + 1 + 1 + 1 := by rw [hW]; simp
 have hB0 : Below w.heap.size w W := by rw [hW]; exact ((((Below.refl _ _).alloc (Nat.le_refl _) _).alloc (by simp) _).alloc (by simp; omega) _).alloc (by simp; omega) _
 have hR1 : Row W w.heap.size #[.slice a0 n0 c0, .slice a1 n1 c1, .slice a2 L.length c2, .slice a3 n3 c3] 29 := by rw [hW]; exact (((Jb w _ _ rfl).alloc _).alloc _).alloc _
 have hRm : Row W (w.heap.size + 1) #[.bool m] 4 := by rw [hW]; exact ((Jb _ _ _ (by simp)).alloc _).alloc _
 have hR2 : Row W (w.heap.size + 1 + 1) #[int i64 A.r, int i64 A.s, int i64 A.t, .slice aa A.l.length ca, int i64 A.k, .string A.o, .string A.y, int i64 A.v, int i64 A.x, int i64 A.z] 44 := by rw [hW]; exact (Jb _ _ _ (by simp)).alloc _
 have hR3 : Row W (w.heap.size + 1 + 1 + 1) #[.slice none 0 0, .slice none 0 0, .slice none 0 0, .slice none 0 0] 29 := by rw [hW]; exact Jb _ _ _ (by simp)
 have HWW : Hid ((((w.alloc (.cells #[.slice a0 n0 c0, .slice a1 n1 c1, .slice a2 L.length c2, .slice a3 n3 c3] 29)).alloc (.cells #[.bool m] 4)).alloc (.cells #[int i64 A.r, int i64 A.s, int i64 A.t, .slice aa A.l.length ca, int i64 A.k, .string A.o, .string A.y, int i64 A.v, int i64 A.x, int i64 A.z] 44)).alloc (.cells #[.slice none 0 0, .slice none 0 0, .slice none 0 0, .slice none 0 0] 29) = W) := hW.symm
 have HCL : Hid (Calls Tryz.prog 92 #[.slice a2 L.length c2] W fun e w' => ∃ q, e = .returned q ∧ w'.ownsRow W.heap.size 88 6 q L.length (liV L) ∧ Below W.heap.size W w') := KF L _ W hn (h.below hB0)
 have hcf : ∀ (args : Array Value) (wx : World), (callFunc 156 args).run Tryz.prog wx = .ok (.enter 156 args) wx := fun args wx => by go_simp
 have hch : ∀ wx, Below W.heap.size W wx → ∀ y ∈ L, Calls Tryz.prog 156 (#[.agg #[.bool y.m, .string y.o, .string y.y, int i64 y.v, int i64 y.r, int i64 y.s]] ++ #[.pointer (some ⟨w.heap.size + 1, 0, none⟩), .pointer (some ⟨w.heap.size + 1 + 1, 0, none⟩)]) wx fun e w' => e = .returned (.bool (JV m A.o A.y A.l y)) ∧ Below wx.heap.size wx w' := fun wx hbx y _ =>
  Vt m A (.slice aa A.l.length ca) y (w.heap.size + 1) (w.heap.size + 1 + 1) wx ((hRm.next hbx).cell 0 rfl) (hRm.next hbx).lt (hR2.next hbx) (hu.below (hB0.trans (hbx.mono hB0.size))) hal
 have HDL : Hid (∀ wx q, Below W.heap.size W wx → wx.ownsRow W.heap.size 88 6 q L.length (liV L) → Calls Tryz.prog 155 #[q, .func (.func 156) #[] #[.pointer (some ⟨w.heap.size + 1, 0, none⟩), .pointer (some ⟨w.heap.size + 1 + 1, 0, none⟩)]] wx fun e w' => ∃ u, e = .returned u ∧ w'.ownsRow W.heap.size 88 6 u (Jd L m A.o A.y A.l).length (liV (Jd L m A.o A.y A.l)) ∧ Below W.heap.size W w') := fun wx q hbx hox => GH L q _ _ (JV m A.o A.y A.l) W.heap.size W wx hbx hbx.size (by omega) hox hcf hch
 obtain ⟨e0, e1, e2, e3⟩ := Row.four hR1
 have HB0 := Ja hB0
 have HWS := Ja hWs
 have HR1 := Ja hR1
 have HR3 := Ja hR3
 rw [hW] at e0 e1 e2 e3
 clear hW hch hcf h hu hB0 hR1 hRm hR2 hR3 hWs hn
 go_enter Tryz.func144, Tryz.ntmps144
 go_wp2_with fail
 rw [HWW.out]
 refine HCL.out.mono ?_
 rintro e w1 ⟨q, rfl, hoq, hb1⟩
 have HD1 := Ja (HDL.out w1 q hb1 hoq)
 clear HWW HCL HDL hoq hb1 e0 e1 e2 e3
 go_wp2_with fail
 refine HD1.out.mono ?_
 rintro e w5 ⟨u, rfl, hou, hb5⟩
 obtain ⟨aq, cq, rfl⟩ := JN hou
 have HB5 := Ja hb5
 have HOQ : Hid (w5.ownsRow W.heap.size 88 6 (.slice aq (Jd L m A.o A.y A.l).length cq) (Jd L m A.o A.y A.l).length (liV (Jd L m A.o A.y A.l))) := hou
 generalize hnq : (Jd L m A.o A.y A.l).length = nq at *
 have HNQ := Ja hnq
 have hr1 := HR1.out.next hb5
 have hr3 := HR3.out.next hb5
 clear hnq hou hb5 HD1
 obtain ⟨e0, e1, e2, e3⟩ := Row.four hr1
 obtain ⟨r0, r1, r2, r3⟩ := Row.four hr3
 have fe2 := hr1.free 2
 have fr0 := hr3.free 0
 have fr1 := hr3.free 1
 have fr2 := hr3.free 2
 have fr3 := hr3.free 3
 have hWz : w.heap.size + 1 + 1 + 1 < W.heap.size := by have := HWS.out; omega
 have HRF : Hid (Row (((((w5.setCell ⟨w.heap.size, 2, none⟩ (.slice aq nq cq)).setCell ⟨w.heap.size + 1 + 1 + 1, 0, none⟩ (.slice a0 n0 c0)).setCell ⟨w.heap.size + 1 + 1 + 1, 1, none⟩ (.slice a1 n1 c1)).setCell ⟨w.heap.size + 1 + 1 + 1, 2, none⟩ (.slice aq nq cq)).setCell ⟨w.heap.size + 1 + 1 + 1, 3, none⟩ (.slice a3 n3 c3)) (w.heap.size + 1 + 1 + 1) #[.slice a0 n0 c0, .slice a1 n1 c1, .slice aq nq cq, .slice a3 n3 c3] 29) := ZK (Ju hr3 (by omega))
 have HOF : Hid ((((((w5.setCell ⟨w.heap.size, 2, none⟩ (.slice aq nq cq)).setCell ⟨w.heap.size + 1 + 1 + 1, 0, none⟩ (.slice a0 n0 c0)).setCell ⟨w.heap.size + 1 + 1 + 1, 1, none⟩ (.slice a1 n1 c1)).setCell ⟨w.heap.size + 1 + 1 + 1, 2, none⟩ (.slice aq nq cq)).setCell ⟨w.heap.size + 1 + 1 + 1, 3, none⟩ (.slice a3 n3 c3)).ownsRow W.heap.size 88 6 (.slice aq nq cq) nq (liV (Jd L m A.o A.y A.l))) := Vx (JB HOQ.out (by omega)) hWz
 have HBF : Hid (Below w.heap.size w ((((((w5.setCell ⟨w.heap.size, 2, none⟩ (.slice aq nq cq)).setCell ⟨w.heap.size + 1 + 1 + 1, 0, none⟩ (.slice a0 n0 c0)).setCell ⟨w.heap.size + 1 + 1 + 1, 1, none⟩ (.slice a1 n1 c1)).setCell ⟨w.heap.size + 1 + 1 + 1, 2, none⟩ (.slice aq nq cq)).setCell ⟨w.heap.size + 1 + 1 + 1, 3, none⟩ (.slice a3 n3 c3)))) := JS ((HB0.out.trans (HB5.out.mono HB0.out.size)).setCell (p := ⟨w.heap.size, 2, none⟩) (Nat.le_refl _) _) (by omega)
 clear hr1 hr3 hWz
 go_wp2
 refine bodyPost_ret (ZQ rfl rfl rfl HRF.out) rfl ⟨_, rfl, ?_, HBF.out⟩
 rw [HNQ.out]
 exact Jk HOF.out HB0.out.size
end Go.Proofs.YtepfinenocpneaaGreat
