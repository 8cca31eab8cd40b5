/- Marks are written into a list of acts. -/
import Derived.Test.YtepfinenocpneaaGreatQ40
set_option maxHeartbeats 16000000
namespace Go.Proofs.YtepfinenocpneaaGreat
open Value (int)
open IntKind (i64)
set_option maxRecDepth 100000
set_option linter.unusedVariables false
open Go.RowKit
theorem JbW (l : List (Ac × Value)) (j : Nat) (h : j < l.length) (a : Ac) : ((((((((((JJ l).set (j * 10) (int i64 a.r)).set (j * 10 + 1) (int i64 a.s)).set (j * 10 + 2) (int i64 a.t)).set (j * 10 + 4) (int i64 a.k)).set (j * 10 + 5) (.string a.o)).set (j * 10 + 6) (.string a.y)).set (j * 10 + 7) (int i64 a.v)).set (j * 10 + 8) (int i64 a.x)).set (j * 10 + 9) (int i64 a.z)) = JJ (l.set j (a, l[j].2)) := by
 obtain ⟨A, C, h1, h2, h3⟩ := ZI (ZR l) j (by simpa using h)
 have e : JJ (l.set j (a, l[j].2)) = A ++ (acv (a, l[j].2) ++ C) := by unfold JJ; rw [List.map_set]; exact h3 _
 rw [e]
 show (((((((((((l.map acv).flatten).set (j * 10) (int i64 a.r)).set (j * 10 + 1) (int i64 a.s)).set (j * 10 + 2) (int i64 a.t)).set (j * 10 + 4) (int i64 a.k)).set (j * 10 + 5) (.string a.o)).set (j * 10 + 6) (.string a.y)).set (j * 10 + 7) (int i64 a.v)).set (j * 10 + 8) (int i64 a.x)).set (j * 10 + 9) (int i64 a.z)) = _
 rw [h1, List.getElem_map]
 generalize l[j] = b
 rw [← h2]
 rw [show A ++ (acv b ++ C) = A ++ ([int i64 b.1.r, int i64 b.1.s, int i64 b.1.t, b.2, int i64 b.1.k, .string b.1.o, .string b.1.y, int i64 b.1.v, int i64 b.1.x, int i64 b.1.z] ++ C) from rfl]
 have g0 := Jx A [int i64 b.1.r, int i64 b.1.s, int i64 b.1.t, b.2, int i64 b.1.k, .string b.1.o, .string b.1.y, int i64 b.1.v, int i64 b.1.x, int i64 b.1.z] C 0 (by simp) (int i64 a.r)
 rw [Nat.add_zero] at g0
 rw [g0, Jx _ _ _ 1 (by simp), Jx _ _ _ 2 (by simp), Jx _ _ _ 4 (by simp), Jx _ _ _ 5 (by simp), Jx _ _ _ 6 (by simp), Jx _ _ _ 7 (by simp), Jx _ _ _ 8 (by simp), Jx _ _ _ 9 (by simp)]
 rfl
theorem Ja8 {v : Value} {B : Nat} {l : List Int} {x : Int} (hn : l.length ≤ 1048576) (h0 : 0 ≤ x) (hx : x ≤ 1073741824) (w : World) (ho : w.ownsRow B 3 1 v l.length (Je l)) :
  Calls Tryz.prog 32 #[v, int i64 x] w fun e w' => e = .returned (int i64 (x + l.length)) ∧ w'.ownsRow B 3 1 v l.length (Je (mkI x.toNat l.length)) ∧ w.grownBy w' v.ownBlock := by
 obtain ⟨k, rfl⟩ := Int.eq_ofNat_of_zero_le h0
 exact Kt hn (by omega) w ho
theorem VO {w w' : World} {B n s : Nat} {e : TypeId} {v : Value} {xs : List Value} (h : w.ownsRow B e s v n xs) (hk : ∀ k, v.ownBlock = some k → w'.heap[k]? = w.heap[k]?) : w'.ownsRow B e s v n xs := by
 obtain ⟨h1, h2⟩ := h
 refine ⟨h1, ?_⟩
 rcases h2 with h2 | ⟨g, cap, cur, rfl, hB, hg, h3⟩
 ·exact .inl h2
 ·exact .inr ⟨g, cap, cur, rfl, hB, (hk g rfl).trans hg, h3⟩
theorem OwnU.set {w : World} {B B' g i n ca : Nat} {Y : List (Ac × Value)} {x : Value} {xs : List Value} (h : OwnU w B Y) (ho : w.ownsRow B' 44 10 (.slice (some ⟨g, 0, none⟩) n ca) n xs) : OwnU (w.setCell ⟨g, i, none⟩ x) B Y :=
 fun a ha => ownsRow_setCell_other (h a ha) (fun e => ZD (h a ha) ho (by show (3 : Nat) ≠ 44; decide) g e rfl) x
theorem OwnU.below {w w' : World} {B : Nat} {Y : List (Ac × Value)} (h : OwnU w B Y) (hb : Below w.heap.size w w') : OwnU w' B Y := fun a ha => Jh (h a ha) hb
theorem U3 {aa : Option Addr} {B ca : Nat} {X : List (Ac × Value)} (hn : (X.length : Int) ≤ 1048576) (hs : (X.map (fun a => a.1.l.length)).sum ≤ 1048576) (w : World) (hB : B ≤ w.heap.size) (ho : w.ownsRow B 44 10 (.slice aa X.length ca) X.length (JJ X)) (hu : OwnU w B X) (hp : ApU X) (hi : Nat) (hhi : ∀ g, aa = some ⟨g, 0, none⟩ → g < hi) (hui : ∀ a ∈ X, ∀ k, a.2.ownBlock = some k → k < hi) :
  Calls Tryz.prog 11 #[.slice aa X.length ca, int i64 1] w fun e w' => ∃ y : Int, e = .returned (int i64 y) ∧ 1 ≤ y ∧ Within B hi w w' := by
 obtain ⟨n, hl⟩ : ∃ n, n = X.length := ⟨_, rfl⟩
 rw [← hl]
 rw [← hl] at hn ho
 have HL : Hid (n = X.length) := hl
 have HGA : Hid (0 < n → ∃ g, aa = some ⟨g, 0, none⟩) := by
  intro h0
  rcases ho.2 with ⟨e, -⟩ | ⟨g, cap, cur, e, -⟩
  ·injection e with _ e; omega
  ·injection e with e; exact ⟨g, e⟩
 have HPW := Ja hp
 have HBB := Ja hB
 have HHI := Ja hhi
 have HUI := Ja hui
 have HSU : Hid (∀ j, ((X.take j).map (fun a => a.1.l.length)).sum ≤ 1048576) := fun j => Nat.le_trans (G6 _ X j) hs
 have HSS : Hid (∀ j (h : j < X.length), ((X.take (j + 1)).map (fun a => a.1.l.length)).sum = ((X.take j).map (fun a => a.1.l.length)).sum + X[j].1.l.length) := fun j h => KG _ X j h
 have HO := Ja ho
 have HU := Ja hu
 clear ho hu hp hl hs hB hhi hui
 go_enter Tryz.func11, Tryz.ntmps11
 go_wp2
 go_loopw [1, 5] (fun x z wr => ∃ (j : Nat) (y : Int) (Z : List (Ac × Value)), j ≤ n ∧ z = int i64 j ∧ x = int i64 y ∧ 1 ≤ y ∧ y ≤ 1 + 9 * (j : Int) + (((X.take j).map (fun a => a.1.l.length)).sum : Nat) ∧ Z.length = n ∧ Z.map Prod.snd = X.map Prod.snd ∧ wr.ownsRow B 44 10 (.slice aa n ca) n (JJ Z) ∧ OwnU wr B (X.drop j) ∧ Within B hi w wr) (fun _ z _ => n - (intOf z).toNat)
 case atStart => exact ⟨0, 1, X, Nat.zero_le _, rfl, rfl, by omega, by simp, HL.out.symm, rfl, HO.out, by rw [List.drop_zero]; exact HU.out, Within.below (Below.refl _ _)⟩
 case round =>
  clear HO HU
  obtain ⟨j, y, Z, hj, rfl, rfl, hy1, hy2, hZ, hZs, hown, hU, hbel⟩ := hrel
  have HO0 := Ja hown
  have HU0 := Ja hU
  have HB0 := Ja hbel
  have HZL := Ja hZ
  have HZS := Ja hZs
  have HY2 := Ja hy2
  clear hown hU hbel hZ hZs hy2
  by_cases hlt : j < n
  ·have hjl : j < X.length := by rw [← HL.out]; exact hlt
   obtain ⟨g, rfl⟩ := HGA.out (by omega)
   have hj1 : (j : Int) < n := by omega
   have hj0 : (0 : Int) ≤ j := by omega
   have hsu := HSU.out j
   have hy3 : y ≤ 20000000 := by have := HY2.out; omega
   have hsn := HSS.out j hjl
   have hsu1 := HSU.out (j + 1)
   have HYB : Hid (y + X[j].1.l.length + 9 ≤ 1 + 9 * ((j + 1 : Nat) : Int) + (((X.take (j + 1)).map (fun a => a.1.l.length)).sum : Nat)) := by show _ ≤ _; have := HY2.out; omega
   have hlen : X[j].1.l.length ≤ 1048576 := by omega
   have hlj : j < Z.length := by rw [HZL.out]; exact hlt
   have hzu : (Z[j]).2 = (X[j]).2 := by
    have h1 : (Z.map Prod.snd)[j]? = (X.map Prod.snd)[j]? := by rw [HZS.out]
    simpa [hlj, hjl] using h1
   have HDR : Hid (X.drop j = X[j] :: X.drop (j + 1)) := List.drop_eq_getElem_cons hjl
   have hud := HU0.out
   rw [HDR.out] at hud
   have hux := hud X[j] (List.mem_cons_self ..)
   have HPJ : Hid (∀ b ∈ X.drop (j + 1), ∀ k, (X[j]).2.ownBlock = some k → b.2.ownBlock ≠ some k) := by
    have h1 : (X.drop j).Pairwise (fun a b => ∀ g, a.2.ownBlock = some g → b.2.ownBlock ≠ some g) := List.Pairwise.sublist (List.drop_sublist j X) HPW.out
    rw [HDR.out, List.pairwise_cons] at h1
    exact h1.1
   obtain ⟨ua, uc, hue⟩ := JN hux
   have hat := JdP Z j hlj
   rw [hzu, hue] at hat
   obtain ⟨h0, h1, h2, h3, h4, h5, h6, h7, h8, h9⟩ := hat
   have HUX := Ja hux
   have HUD : Hid (OwnU wr B (X.drop (j + 1))) := fun a ha => hud a (List.mem_cons_of_mem _ ha)
   have HS9 := Ja (JbW Z j hlj)
   have HSND : Hid (∀ a : Ac, (Z.set j (a, Z[j].2)).map Prod.snd = X.map Prod.snd) := fun a => by
    show _ = _
    rw [List.map_set, ← HZS.out]
    have h1 : (Z.map Prod.snd)[j]'(by simpa using hlj) = Z[j].2 := by simp
    rw [← h1, List.set_getElem_self]
   rw [hue] at HUX
   have HUI2 : Hid (∀ k, (Value.slice ua X[j].1.l.length uc).ownBlock = some k → k < hi) := by show ∀ k, _ → _; rw [← hue]; exact HUI.out X[j] (List.getElem_mem hjl)
   have HGI : Hid (∀ k, some g = some k → B ≤ k ∧ k < hi) := fun k hk => by injection hk with hk; subst hk; exact ⟨(World.ownsRow.lt HO0.out g rfl).1, HHI.out g rfl⟩
   have HPJ2 : Hid (∀ b ∈ X.drop (j + 1), ∀ k, (Value.slice ua X[j].1.l.length uc).ownBlock = some k → b.2.ownBlock ≠ some k) := by rw [← hue]; exact HPJ.out
   clear hud hux hzu hue HPJ HU0 HDR hsn hsu hsu1
   have wy1 : IntKind.i64.wrap (y + 1) = y + 1 := by rw [IntKind.wrap_i64] <;> omega
   have wy2 : IntKind.i64.wrap (y + 1 + 1) = y + 1 + 1 := by rw [IntKind.wrap_i64] <;> omega
   have wy3 : IntKind.i64.wrap (y + 1 + 1 + 1) = y + 1 + 1 + 1 := by rw [IntKind.wrap_i64] <;> omega
   have ka0 : wr.cell? ⟨g, j * 10, none⟩ = some (int i64 Z[j].1.r) := by rw [HO0.out.cellAt (j * 10) (by omega)]; (repeat rw [List.getElem?_set_ne (by omega)]); exact h0
   have fa0 := HO0.out.frozenAt (j * 10)
   have ka1 : wr.cell? ⟨g, j * 10 + 1, none⟩ = some (int i64 Z[j].1.s) := by rw [HO0.out.cellAt (j * 10 + 1) (by omega)]; (repeat rw [List.getElem?_set_ne (by omega)]); exact h1
   have fa1 := HO0.out.frozenAt (j * 10 + 1)
   have ka2 : wr.cell? ⟨g, j * 10 + 2, none⟩ = some (int i64 Z[j].1.t) := by rw [HO0.out.cellAt (j * 10 + 2) (by omega)]; (repeat rw [List.getElem?_set_ne (by omega)]); exact h2
   have fa2 := HO0.out.frozenAt (j * 10 + 2)
   have ka3 : wr.cell? ⟨g, j * 10 + 3, none⟩ = some (.slice ua X[j].1.l.length uc) := by rw [HO0.out.cellAt (j * 10 + 3) (by omega)]; (repeat rw [List.getElem?_set_ne (by omega)]); exact h3
   have fa3 := HO0.out.frozenAt (j * 10 + 3)
   obtain ⟨X1, hX1⟩ : ∃ X, X = (((wr.setCell ⟨g, j * 10, none⟩ (int i64 y)).setCell ⟨g, j * 10 + 1, none⟩ (int i64 (y + 1))).setCell ⟨g, j * 10 + 2, none⟩ (int i64 (y + 1 + 1))) := ⟨_, rfl⟩
   have HO1 : Hid (X1.ownsRow B 44 10 (.slice (some ⟨g, 0, none⟩) n ca) n (((((JJ Z).set (j * 10) (int i64 y)).set (j * 10 + 1) (int i64 (y + 1))).set (j * 10 + 2) (int i64 (y + 1 + 1))))) := by show World.ownsRow _ _ _ _ _ _ _; rw [hX1]; exact (World.ownsRow.stored (World.ownsRow.stored (World.ownsRow.stored HO0.out (j * 10) (int i64 y)).1 (j * 10 + 1) (int i64 (y + 1))).1 (j * 10 + 2) (int i64 (y + 1 + 1))).1
   have HU1 : Hid (OwnU X1 B (X.drop (j + 1))) := by show OwnU _ _ _; rw [hX1]; exact (OwnU.set (OwnU.set (OwnU.set HUD.out HO0.out) (World.ownsRow.stored HO0.out (j * 10) (int i64 y)).1) (World.ownsRow.stored (World.ownsRow.stored HO0.out (j * 10) (int i64 y)).1 (j * 10 + 1) (int i64 (y + 1))).1)
   have HB1 : Hid (Within B hi w X1) := by rw [hX1]; exact (Within.trans (Within.trans (Within.trans HB0.out (Within.grown (Js _ g (j * 10) (int i64 y)) HGI.out)) (Within.grown (Js _ g (j * 10 + 1) (int i64 (y + 1))) HGI.out)) (Within.grown (Js _ g (j * 10 + 2) (int i64 (y + 1 + 1))) HGI.out))
   have HI1 : Hid (X1.ownsRow B 3 1 (.slice ua X[j].1.l.length uc) X[j].1.l.length (Je X[j].1.l)) := by show World.ownsRow _ _ _ _ _ _ _; rw [hX1]; exact (ownsRow_setCell_other (ownsRow_setCell_other (ownsRow_setCell_other HUX.out (fun e => ZD HUX.out HO0.out (by show (3 : Nat) ≠ 44; decide) g e rfl) _) (fun e => ZD HUX.out HO0.out (by show (3 : Nat) ≠ 44; decide) g e rfl) _) (fun e => ZD HUX.out HO0.out (by show (3 : Nat) ≠ 44; decide) g e rfl) _)
   have HX1 : Hid ((((wr.setCell ⟨g, j * 10, none⟩ (int i64 y)).setCell ⟨g, j * 10 + 1, none⟩ (int i64 (y + 1))).setCell ⟨g, j * 10 + 2, none⟩ (int i64 (y + 1 + 1))) = X1) := hX1.symm
   clear hX1
   have k13 : X1.cell? ⟨g, j * 10 + 3, none⟩ = some (.slice ua X[j].1.l.length uc) := by rw [HO1.out.cellAt (j * 10 + 3) (by omega)]; (repeat rw [List.getElem?_set_ne (by omega)]); exact h3
   have HMI : Hid (Calls Tryz.prog 32 #[.slice ua X[j].1.l.length uc, int i64 (y + 1 + 1 + 1)] X1 fun e w' => e = .returned (int i64 (y + 1 + 1 + 1 + X[j].1.l.length)) ∧ w'.ownsRow B 3 1 (.slice ua X[j].1.l.length uc) X[j].1.l.length (Je (mkI (y + 1 + 1 + 1).toNat X[j].1.l.length)) ∧ X1.grownBy w' (Value.slice ua X[j].1.l.length uc).ownBlock) := Ja8 hlen (by omega) (by omega) X1 HI1.out
   go_wp2_with fail
   rw [HX1.out]
   refine HMI.out.mono ?_
   rintro e x2 ⟨rfl, -, hg⟩
   have HO2 : Hid (x2.ownsRow B 44 10 (.slice (some ⟨g, 0, none⟩) n ca) n (((((JJ Z).set (j * 10) (int i64 y)).set (j * 10 + 1) (int i64 (y + 1))).set (j * 10 + 2) (int i64 (y + 1 + 1))))) := VO HO1.out (fun k hk => by have hk2 := hk; injection hk2 with hk2; exact hg.block k (World.ownsRow.lt HO1.out k hk).2 (fun e => ZD HI1.out HO1.out (by show (3 : Nat) ≠ 44; decide) k e.symm hk))
   have HU2 : Hid (OwnU x2 B (X.drop (j + 1))) := fun a ha => VO (HU1.out a ha) (fun k hk => hg.block k (World.ownsRow.lt (HU1.out a ha) k hk).2 (fun e => HPJ2.out a ha k e.symm hk))
   have HB2 := Ja (HB1.out.trans (Within.grown hg (fun k hk => ⟨(World.ownsRow.lt HI1.out k hk).1, HUI2.out k hk⟩)))
   clear ka0 fa0 ka1 fa1 ka2 fa2 ka3 fa3 k13 hg HMI HI1 HX1 HUX HPJ2
   obtain ⟨z, hz⟩ : ∃ z : Int, z = y + 1 + 1 + 1 + X[j].1.l.length := ⟨_, rfl⟩
   rw [← hz]
   have hz1 : 1 ≤ z := by omega
   have hz2 : z ≤ 30000000 := by omega
   have HZB : Hid (z + 6 = y + X[j].1.l.length + 9) := by show _ = _; omega
   clear hz
   have wz1 : IntKind.i64.wrap (z + 1) = z + 1 := by rw [IntKind.wrap_i64] <;> omega
   have wz2 : IntKind.i64.wrap (z + 1 + 1) = z + 1 + 1 := by rw [IntKind.wrap_i64] <;> omega
   have wz3 : IntKind.i64.wrap (z + 1 + 1 + 1) = z + 1 + 1 + 1 := by rw [IntKind.wrap_i64] <;> omega
   have wz4 : IntKind.i64.wrap (z + 1 + 1 + 1 + 1) = z + 1 + 1 + 1 + 1 := by rw [IntKind.wrap_i64] <;> omega
   have wz5 : IntKind.i64.wrap (z + 1 + 1 + 1 + 1 + 1) = z + 1 + 1 + 1 + 1 + 1 := by rw [IntKind.wrap_i64] <;> omega
   have wz6 : IntKind.i64.wrap (z + 1 + 1 + 1 + 1 + 1 + 1) = z + 1 + 1 + 1 + 1 + 1 + 1 := by rw [IntKind.wrap_i64] <;> omega
   have kb4 : x2.cell? ⟨g, j * 10 + 4, none⟩ = some (int i64 Z[j].1.k) := by rw [HO2.out.cellAt (j * 10 + 4) (by omega)]; (repeat rw [List.getElem?_set_ne (by omega)]); exact h4
   have fb4 := HO2.out.frozenAt (j * 10 + 4)
   obtain ⟨X3, hX3⟩ : ∃ X, X = (x2.setCell ⟨g, j * 10 + 4, none⟩ (int i64 z)) := ⟨_, rfl⟩
   have HO3 : Hid (X3.ownsRow B 44 10 (.slice (some ⟨g, 0, none⟩) n ca) n ((((((JJ Z).set (j * 10) (int i64 y)).set (j * 10 + 1) (int i64 (y + 1))).set (j * 10 + 2) (int i64 (y + 1 + 1))).set (j * 10 + 4) (int i64 z)))) := by show World.ownsRow _ _ _ _ _ _ _; rw [hX3]; exact (World.ownsRow.stored HO2.out (j * 10 + 4) (int i64 z)).1
   have HU3 : Hid (OwnU X3 B (X.drop (j + 1))) := by show OwnU _ _ _; rw [hX3]; exact (OwnU.set HU2.out HO2.out)
   have HB3 : Hid (Within B hi w X3) := by rw [hX3]; exact (Within.trans HB2.out (Within.grown (Js _ g (j * 10 + 4) (int i64 z)) HGI.out))
   have HX3 : Hid ((x2.setCell ⟨g, j * 10 + 4, none⟩ (int i64 z)) = X3) := hX3.symm
   clear hX3
   go_wp2_with fail
   rw [HX3.out]
   refine (KE (z + 1) (by omega) (by omega) _).mono ?_
   rintro e x4 ⟨rfl, hb⟩
   have HO4 : Hid (x4.ownsRow B 44 10 (.slice (some ⟨g, 0, none⟩) n ca) n ((((((JJ Z).set (j * 10) (int i64 y)).set (j * 10 + 1) (int i64 (y + 1))).set (j * 10 + 2) (int i64 (y + 1 + 1))).set (j * 10 + 4) (int i64 z)))) := Jh HO3.out hb
   have HU4 := Ja (HU3.out.below hb)
   have HB4 := Ja (HB3.out.trans (Within.below hb))
   clear hb HX3
   clear kb4 fb4
   have kc5 : x4.cell? ⟨g, j * 10 + 5, none⟩ = some (.string Z[j].1.o) := by rw [HO4.out.cellAt (j * 10 + 5) (by omega)]; (repeat rw [List.getElem?_set_ne (by omega)]); exact h5
   have fc5 := HO4.out.frozenAt (j * 10 + 5)
   obtain ⟨X5, hX5⟩ : ∃ X, X = (x4.setCell ⟨g, j * 10 + 5, none⟩ (.string (mkS (z + 1)))) := ⟨_, rfl⟩
   have HO5 : Hid (X5.ownsRow B 44 10 (.slice (some ⟨g, 0, none⟩) n ca) n (((((((JJ Z).set (j * 10) (int i64 y)).set (j * 10 + 1) (int i64 (y + 1))).set (j * 10 + 2) (int i64 (y + 1 + 1))).set (j * 10 + 4) (int i64 z)).set (j * 10 + 5) (.string (mkS (z + 1)))))) := by show World.ownsRow _ _ _ _ _ _ _; rw [hX5]; exact (World.ownsRow.stored HO4.out (j * 10 + 5) (.string (mkS (z + 1)))).1
   have HU5 : Hid (OwnU X5 B (X.drop (j + 1))) := by show OwnU _ _ _; rw [hX5]; exact (OwnU.set HU4.out HO4.out)
   have HB5 : Hid (Within B hi w X5) := by rw [hX5]; exact (Within.trans HB4.out (Within.grown (Js _ g (j * 10 + 5) (.string (mkS (z + 1)))) HGI.out))
   have HX5 : Hid ((x4.setCell ⟨g, j * 10 + 5, none⟩ (.string (mkS (z + 1)))) = X5) := hX5.symm
   clear hX5
   go_wp2_with fail
   rw [HX5.out]
   refine (KE (z + 1 + 1) (by omega) (by omega) _).mono ?_
   rintro e x6 ⟨rfl, hb⟩
   have HO6 : Hid (x6.ownsRow B 44 10 (.slice (some ⟨g, 0, none⟩) n ca) n (((((((JJ Z).set (j * 10) (int i64 y)).set (j * 10 + 1) (int i64 (y + 1))).set (j * 10 + 2) (int i64 (y + 1 + 1))).set (j * 10 + 4) (int i64 z)).set (j * 10 + 5) (.string (mkS (z + 1)))))) := Jh HO5.out hb
   have HU6 := Ja (HU5.out.below hb)
   have HB6 := Ja (HB5.out.trans (Within.below hb))
   clear hb HX5
   clear kc5 fc5
   have kd6 : x6.cell? ⟨g, j * 10 + 6, none⟩ = some (.string Z[j].1.y) := by rw [HO6.out.cellAt (j * 10 + 6) (by omega)]; (repeat rw [List.getElem?_set_ne (by omega)]); exact h6
   have fd6 := HO6.out.frozenAt (j * 10 + 6)
   have kd7 : x6.cell? ⟨g, j * 10 + 7, none⟩ = some (int i64 Z[j].1.v) := by rw [HO6.out.cellAt (j * 10 + 7) (by omega)]; (repeat rw [List.getElem?_set_ne (by omega)]); exact h7
   have fd7 := HO6.out.frozenAt (j * 10 + 7)
   have kd8 : x6.cell? ⟨g, j * 10 + 8, none⟩ = some (int i64 Z[j].1.x) := by rw [HO6.out.cellAt (j * 10 + 8) (by omega)]; (repeat rw [List.getElem?_set_ne (by omega)]); exact h8
   have fd8 := HO6.out.frozenAt (j * 10 + 8)
   have kd9 : x6.cell? ⟨g, j * 10 + 9, none⟩ = some (int i64 Z[j].1.z) := by rw [HO6.out.cellAt (j * 10 + 9) (by omega)]; (repeat rw [List.getElem?_set_ne (by omega)]); exact h9
   have fd9 := HO6.out.frozenAt (j * 10 + 9)
   obtain ⟨X7, hX7⟩ : ∃ X, X = ((((x6.setCell ⟨g, j * 10 + 6, none⟩ (.string (mkS (z + 1 + 1)))).setCell ⟨g, j * 10 + 7, none⟩ (int i64 (z + 1 + 1 + 1))).setCell ⟨g, j * 10 + 8, none⟩ (int i64 (z + 1 + 1 + 1 + 1))).setCell ⟨g, j * 10 + 9, none⟩ (int i64 (z + 1 + 1 + 1 + 1 + 1))) := ⟨_, rfl⟩
   have HO7 : Hid (X7.ownsRow B 44 10 (.slice (some ⟨g, 0, none⟩) n ca) n (((((((((((JJ Z).set (j * 10) (int i64 y)).set (j * 10 + 1) (int i64 (y + 1))).set (j * 10 + 2) (int i64 (y + 1 + 1))).set (j * 10 + 4) (int i64 z)).set (j * 10 + 5) (.string (mkS (z + 1)))).set (j * 10 + 6) (.string (mkS (z + 1 + 1)))).set (j * 10 + 7) (int i64 (z + 1 + 1 + 1))).set (j * 10 + 8) (int i64 (z + 1 + 1 + 1 + 1))).set (j * 10 + 9) (int i64 (z + 1 + 1 + 1 + 1 + 1))))) := by show World.ownsRow _ _ _ _ _ _ _; rw [hX7]; exact (World.ownsRow.stored (World.ownsRow.stored (World.ownsRow.stored (World.ownsRow.stored HO6.out (j * 10 + 6) (.string (mkS (z + 1 + 1)))).1 (j * 10 + 7) (int i64 (z + 1 + 1 + 1))).1 (j * 10 + 8) (int i64 (z + 1 + 1 + 1 + 1))).1 (j * 10 + 9) (int i64 (z + 1 + 1 + 1 + 1 + 1))).1
   have HU7 : Hid (OwnU X7 B (X.drop (j + 1))) := by show OwnU _ _ _; rw [hX7]; exact (OwnU.set (OwnU.set (OwnU.set (OwnU.set HU6.out HO6.out) (World.ownsRow.stored HO6.out (j * 10 + 6) (.string (mkS (z + 1 + 1)))).1) (World.ownsRow.stored (World.ownsRow.stored HO6.out (j * 10 + 6) (.string (mkS (z + 1 + 1)))).1 (j * 10 + 7) (int i64 (z + 1 + 1 + 1))).1) (World.ownsRow.stored (World.ownsRow.stored (World.ownsRow.stored HO6.out (j * 10 + 6) (.string (mkS (z + 1 + 1)))).1 (j * 10 + 7) (int i64 (z + 1 + 1 + 1))).1 (j * 10 + 8) (int i64 (z + 1 + 1 + 1 + 1))).1)
   have HB7 : Hid (Within B hi w X7) := by rw [hX7]; exact (Within.trans (Within.trans (Within.trans (Within.trans HB6.out (Within.grown (Js _ g (j * 10 + 6) (.string (mkS (z + 1 + 1)))) HGI.out)) (Within.grown (Js _ g (j * 10 + 7) (int i64 (z + 1 + 1 + 1))) HGI.out)) (Within.grown (Js _ g (j * 10 + 8) (int i64 (z + 1 + 1 + 1 + 1))) HGI.out)) (Within.grown (Js _ g (j * 10 + 9) (int i64 (z + 1 + 1 + 1 + 1 + 1))) HGI.out))
   have HX7 : Hid (((((x6.setCell ⟨g, j * 10 + 6, none⟩ (.string (mkS (z + 1 + 1)))).setCell ⟨g, j * 10 + 7, none⟩ (int i64 (z + 1 + 1 + 1))).setCell ⟨g, j * 10 + 8, none⟩ (int i64 (z + 1 + 1 + 1 + 1))).setCell ⟨g, j * 10 + 9, none⟩ (int i64 (z + 1 + 1 + 1 + 1 + 1))) = X7) := hX7.symm
   clear hX7
   obtain ⟨N, hN⟩ : ∃ N : Ac, N.r = y ∧ N.s = y + 1 ∧ N.t = y + 1 + 1 ∧ N.k = z ∧ N.o = mkS (z + 1) ∧ N.y = mkS (z + 1 + 1) ∧ N.v = z + 1 + 1 + 1 ∧ N.x = z + 1 + 1 + 1 + 1 ∧ N.z = z + 1 + 1 + 1 + 1 + 1 := ⟨{ r := y, s := y + 1, t := y + 1 + 1, k := z, o := mkS (z + 1), y := mkS (z + 1 + 1), v := z + 1 + 1 + 1, x := z + 1 + 1 + 1 + 1, z := z + 1 + 1 + 1 + 1 + 1, l := [] }, rfl, rfl, rfl, rfl, rfl, rfl, rfl, rfl, rfl⟩
   obtain ⟨n1, n2, n3, n4, n5, n6, n7, n8, n9⟩ := hN
   have HOF : Hid (X7.ownsRow B 44 10 (.slice (some ⟨g, 0, none⟩) n ca) n (JJ (Z.set j (N, Z[j].2)))) := by
    have h1 := HO7.out
    have h2 := HS9.out N
    rw [n1, n2, n3, n4, n5, n6, n7, n8, n9] at h2
    rw [h2] at h1
    exact h1
   have HSN := Ja (HSND.out N)
   have HZN : Hid ((Z.set j (N, Z[j].2)).length = n) := by show _ = _; rw [List.length_set]; exact HZL.out
   clear n1 n2 n3 n4 n5 n6 n7 n8 n9 HS9 HSND HO7 HO6 HO4 HO2 HO1 HO0 h0 h1 h2 h3 h4 h5 h6 h7 h8 h9 HO3 HO5
   go_wp2
   rw [HX7.out]
   go_roundw
   case rel => exact ⟨j + 1, _, Z.set j (N, Z[j].2), by omega, by go_num, rfl, by omega, by have h1 := HYB.out; have h2 := HZB.out; omega, HZN.out, HSN.out, HOF.out, HU7.out, HB7.out⟩
   case measure => simp [intOf]; omega
  ·have hj1 : ¬ ((j : Int) < n) := by omega
   go_wp2
   go_ret
   exact ⟨y, rfl, hy1, HB0.out⟩
theorem Jdo (k n : Nat) : (mkI k n).length = n := by simp [mkI]
theorem OwnS.mark0 {w w' : World} {B k : Nat} {S : Sta} {v0 v1 v2 v3 : Value} (h : OwnS w B S v0 v1 v2 v3) (hg : w.grownBy w' v0.ownBlock) (ho : w'.ownsRow B 3 1 v0 S.l.length (Je (mkI k S.l.length))) : OwnS w' B ⟨mkI k S.l.length, S.T, S.L, S.C⟩ v0 v1 v2 v3 :=
 Own4.swap1 (q := ⟨v0, 3, 1, (mkI k S.l.length).length, Je (mkI k S.l.length)⟩) (p := w.heap.size) h h.offN (fun j hj _ hr => hg.block j hj (fun e => hr e.symm)) (by show World.ownsRow _ _ _ _ _ _ _; rw [Jdo]; exact ho) (fun j hj => .inl hj)
theorem OwnS.mark1 {w w' : World} {B k : Nat} {S : Sta} {v0 v1 v2 v3 : Value} (h : OwnS w B S v0 v1 v2 v3) (hg : w.grownBy w' v1.ownBlock) (ho : w'.ownsRow B 86 3 v1 S.T.length (taV (J9 k S.T.length))) : OwnS w' B ⟨S.l, J9 k S.T.length, S.L, S.C⟩ v0 v1 v2 v3 :=
 Own4.swap2 (q := ⟨v1, 86, 3, (J9 k S.T.length).length, taV (J9 k S.T.length)⟩) (p := w.heap.size) h h.offN (fun j hj _ hr => hg.block j hj (fun e => hr e.symm)) (by show World.ownsRow _ _ _ _ _ _ _; rw [Z4]; exact ho) (fun j hj => .inl hj)
theorem OwnS.mark2 {w w' : World} {B k : Nat} {S : Sta} {v0 v1 v2 v3 : Value} (h : OwnS w B S v0 v1 v2 v3) (hg : w.grownBy w' v2.ownBlock) (ho : w'.ownsRow B 88 6 v2 S.L.length (liV (JR k S.L.length))) : OwnS w' B ⟨S.l, S.T, JR k S.L.length, S.C⟩ v0 v1 v2 v3 :=
 Own4.swap3 (q := ⟨v2, 88, 6, (JR k S.L.length).length, liV (JR k S.L.length)⟩) (p := w.heap.size) h h.offN (fun j hj _ hr => hg.block j hj (fun e => hr e.symm)) (by show World.ownsRow _ _ _ _ _ _ _; rw [ZV]; exact ho) (fun j hj => .inl hj)
theorem OwnS.mark3 {w w' : World} {B k : Nat} {S : Sta} {v0 v1 v2 v3 : Value} (h : OwnS w B S v0 v1 v2 v3) (hg : w.grownBy w' v3.ownBlock) (ho : w'.ownsRow B 90 8 v3 S.C.length (ceV (JW k S.C.length))) : OwnS w' B ⟨S.l, S.T, S.L, JW k S.C.length⟩ v0 v1 v2 v3 :=
 Own4.swap4 (q := ⟨v3, 90, 8, (JW k S.C.length).length, ceV (JW k S.C.length)⟩) (p := w.heap.size) h h.offN (fun j hj _ hr => hg.block j hj (fun e => hr e.symm)) (by show World.ownsRow _ _ _ _ _ _ _; rw [ZY]; exact ho) (fun j hj => .inl hj)
def ZC (S : Sta) : Sta := ⟨mkI 1 S.l.length, J9 (1 + S.l.length) S.T.length, JR (1 + S.l.length + 3 * S.T.length) S.L.length, JW (1 + S.l.length + 3 * S.T.length + 6 * S.L.length) S.C.length⟩
def Gp (S : Sta) : Int := ((1 + S.l.length + 3 * S.T.length + 6 * S.L.length : Nat) : Int) + 8 * (S.C.length : Int)
theorem GJ (S : Sta) (B : Nat) (v0 v1 v2 v3 : Value) (w : World) (hn : S.l.length ≤ 1048576 ∧ S.T.length ≤ 1048576 ∧ S.L.length ≤ 1048576 ∧ S.C.length ≤ 1048576) (hB : B ≤ w.heap.size) (hO : OwnS w B S v0 v1 v2 v3) :
  Calls Tryz.prog 12 #[.agg #[v0, v1, v2, v3], int i64 1] w fun e w' => e = .returned (int i64 (Gp S)) ∧ OwnS w' B (ZC S) v0 v1 v2 v3 ∧ Below B w w' ∧ (∀ k, k < w.heap.size → ZX k v0 v1 v2 v3 → w'.heap[k]? = w.heap[k]?) := by
 obtain ⟨W, hW⟩ : ∃ W, W = w.alloc (.cells #[v0, v1, v2, v3] 29) := ⟨_, rfl⟩
 have hbW : Below w.heap.size w W := by rw [hW]; exact (Below.refl _ _).alloc (Nat.le_refl _) _
 have HO : Hid (OwnS W B S v0 v1 v2 v3) := Own4.next hO hbW
 have HP : Hid (Row W w.heap.size #[v0, v1, v2, v3] 29) := by show Row _ _ _ _; rw [hW]; exact Jb w _ _ rfl
 have HI : Hid (Below B w W) := hbW.mono hB
 have HBB : Hid (B ≤ W.heap.size) := Nat.le_trans hB hbW.size
 have HW : Hid (w.alloc (.cells #[v0, v1, v2, v3] 29) = W) := hW.symm
 have HK0 : Hid (∀ k, k < w.heap.size → ZX k v0 v1 v2 v3 → k < W.heap.size ∧ W.heap[k]? = w.heap[k]?) := fun k hk _ => ⟨Nat.lt_of_lt_of_le hk hbW.size, hbW.block k hk⟩
 clear hW hbW hO hB
 go_enter Tryz.func12, Tryz.ntmps12
 go_wp2_with fail
 rw [HW.out]
 clear HW
 refine (Kt (k := 1) hn.1 (by omega) W HO.out.1.1).mono ?_
 rintro e w1 ⟨rfl, ho, hg⟩
 have HI1 := Ja (HI.out.grown hg HBB.out (fun k hk => (World.ownsRow.lt HO.out.1.1 k hk).1))
 have HP1 := Ja (HP.out.grown hg (fun e => (OwnS.offRow HO.out HP.out).1 _ e rfl))
 have HO1 := Ja (HO.out.mark0 hg ho)
 have HB1 := Ja (Nat.le_trans HBB.out hg.size)
 have HK1 : Hid (∀ k, k < w.heap.size → ZX k v0 v1 v2 v3 → k < w1.heap.size ∧ w1.heap[k]? = w.heap[k]?) := fun k hk ho => ⟨Nat.lt_of_lt_of_le (HK0.out k hk ho).1 hg.size, (hg.block k (HK0.out k hk ho).1 (fun e => ho.1 k e.symm rfl)).trans (HK0.out k hk ho).2⟩
 clear ho hg HO HP HI HBB
 have p1 := HP1.out.cell 1 rfl
 have k1 : (((1 : Nat) : Int)) + (S.l.length : Int) = ((1 + S.l.length : Nat) : Int) := by omega
 rw [k1]
 have HM1 := Ja (G1 (k := 1 + S.l.length) hn.2.1 (by omega) (by omega) w1 HO1.out.1.2.1)
 go_wp2_with fail
 refine HM1.out.mono ?_
 rintro e w2 ⟨rfl, ho, hg⟩
 have HI2 := Ja (HI1.out.grown hg HB1.out (fun k hk => (World.ownsRow.lt HO1.out.1.2.1 k hk).1))
 have HP2 := Ja (HP1.out.grown hg (fun e => (OwnS.offRow HO1.out HP1.out).2.1 _ e rfl))
 have HO2 := Ja (HO1.out.mark1 hg ho)
 have HB2 := Ja (Nat.le_trans HB1.out hg.size)
 have HK2 : Hid (∀ k, k < w.heap.size → ZX k v0 v1 v2 v3 → k < w2.heap.size ∧ w2.heap[k]? = w.heap[k]?) := fun k hk ho => ⟨Nat.lt_of_lt_of_le (HK1.out k hk ho).1 hg.size, (hg.block k (HK1.out k hk ho).1 (fun e => ho.2.1 k e.symm rfl)).trans (HK1.out k hk ho).2⟩
 clear ho hg HO1 HP1 HI1 HB1 p1 HM1 k1
 have p2 := HP2.out.cell 2 rfl
 have k2 : ((1 + S.l.length : Nat) : Int) + 3 * (S.T.length : Int) = ((1 + S.l.length + 3 * S.T.length : Nat) : Int) := by omega
 rw [k2]
 have HM2 := Ja (G9 (k := 1 + S.l.length + 3 * S.T.length) hn.2.2.1 (by omega) (by omega) w2 HO2.out.1.2.2.1)
 go_wp2_with fail
 refine HM2.out.mono ?_
 rintro e w3 ⟨rfl, ho, hg⟩
 have HI3 := Ja (HI2.out.grown hg HB2.out (fun k hk => (World.ownsRow.lt HO2.out.1.2.2.1 k hk).1))
 have HP3 := Ja (HP2.out.grown hg (fun e => (OwnS.offRow HO2.out HP2.out).2.2.1 _ e rfl))
 have HO3 := Ja (HO2.out.mark2 hg ho)
 have HB3 := Ja (Nat.le_trans HB2.out hg.size)
 have HK3 : Hid (∀ k, k < w.heap.size → ZX k v0 v1 v2 v3 → k < w3.heap.size ∧ w3.heap[k]? = w.heap[k]?) := fun k hk ho => ⟨Nat.lt_of_lt_of_le (HK2.out k hk ho).1 hg.size, (hg.block k (HK2.out k hk ho).1 (fun e => ho.2.2.1 k e.symm rfl)).trans (HK2.out k hk ho).2⟩
 clear ho hg HO2 HP2 HI2 HB2 p2 HM2 k2
 have p3 := HP3.out.cell 3 rfl
 have k3 : ((1 + S.l.length + 3 * S.T.length : Nat) : Int) + 6 * (S.L.length : Int) = ((1 + S.l.length + 3 * S.T.length + 6 * S.L.length : Nat) : Int) := by omega
 rw [k3]
 have HM3 := Ja (Ua (k := 1 + S.l.length + 3 * S.T.length + 6 * S.L.length) hn.2.2.2 (by omega) (by omega) w3 HO3.out.1.2.2.2)
 go_wp2_with fail
 refine HM3.out.mono ?_
 rintro e w4 ⟨rfl, ho, hg⟩
 have HI4 := Ja (HI3.out.grown hg HB3.out (fun k hk => (World.ownsRow.lt HO3.out.1.2.2.2 k hk).1))
 have HO4 := Ja (HO3.out.mark3 hg ho)
 have HK4 : Hid (∀ k, k < w.heap.size → ZX k v0 v1 v2 v3 → w4.heap[k]? = w.heap[k]?) := fun k hk ho => (hg.block k (HK3.out k hk ho).1 (fun e => ho.2.2.2 k e.symm rfl)).trans (HK3.out k hk ho).2
 clear ho hg HO3 HP3 HI3 HB3 p3 HM3 k3
 go_wp2
 go_ret
 exact ⟨rfl, HO4.out, HI4.out, HK4.out⟩
theorem GS {v : Value} {k n : Nat} (hn : n ≤ 1048576) (hk1 : 1 ≤ k) (hk2 : k ≤ 1073741824) (w : World) (ho : TaAt w v (J9 k n)) :
  Calls Tryz.prog 38 #[v, int i64 (k : Int)] w fun e w' => e = .returned (int i64 ((k : Int) + 3 * (n : Int))) ∧ Below w.heap.size w w' := by
 obtain ⟨aa, ca, rfl, ga⟩ := ho
 have HGA : Hid (TaG w aa (J9 k n)) := ga
 rw [Z4]
 clear ga
 go_enter Tryz.func38, Tryz.ntmps38
 go_wp2
 go_loopw [1, 5] (fun x z wr => ∃ (j : Nat) (y : Int), j ≤ n ∧ z = int i64 j ∧ x = int i64 y ∧ y = (k : Int) + 3 * (j : Int) ∧ Below w.heap.size w wr) (fun _ z _ => n - (intOf z).toNat)
 case atStart => exact ⟨0, _, Nat.zero_le _, rfl, rfl, by simp, Below.refl _ _⟩
 case round =>
  obtain ⟨j, y, hj, rfl, rfl, hy, hbel⟩ := hrel
  have HY : Hid (y = (k : Int) + 3 * (j : Int)) := hy
  have HBE := Ja hbel
  by_cases hlt : j < n
  ·have hjl : j < (J9 k n).length := by rw [Z4]; exact hlt
   obtain ⟨g, f, rfl, hg, hcc⟩ := HGA.out (by omega)
   have q := hcc j hjl
   rw [Jeq, ← hy] at q
   have HQ : Hid (∀ wx, Below w.heap.size w wx → wx.cell? ⟨g, f + j * 3, none⟩ = some (.string (mkS (y))) ∧ wx.cell? ⟨g, f + j * 3 + 1, none⟩ = some (int i64 (y + 1)) ∧ wx.cell? ⟨g, f + j * 3 + 2, none⟩ = some (int i64 (y + 1 + 1))) := fun wx h => taC.below (a := _) q h hg
   have hj1 : (j : Int) < n := by omega
   have hj0 : (0 : Int) ≤ j := by omega
   have hy0 : 1 ≤ y := by omega
   have hy1 : y ≤ 1099511627000 := by omega
   clear hcc q hjl hy
   have wy1 : IntKind.i64.wrap (y + 1) = y + 1 := by rw [IntKind.wrap_i64] <;> omega
   have wy2 : IntKind.i64.wrap (y + 1 + 1) = y + 1 + 1 := by rw [IntKind.wrap_i64] <;> omega
   have wy3 : IntKind.i64.wrap (y + 1 + 1 + 1) = y + 1 + 1 + 1 := by rw [IntKind.wrap_i64] <;> omega
   have ne1 : ((y + 1) != (y + 1)) = false := by simp
   have ne2 : ((y + 1 + 1) != (y + 1 + 1)) = false := by simp
   have nes1 := JM (mkS y) (mkS y) rfl
   have HM1 : Hid (∀ wx, Calls Tryz.prog 33 #[int i64 y] wx fun e w' => e = .returned (.string (mkS y)) ∧ Below wx.heap.size wx w') := fun wx => KE _ (by omega) (by omega) wx
   obtain ⟨r0, r1, r2⟩ := HQ.out _ hbel
   have hbd : Below w.heap.size w wr.drew := hbel.drew
   have SS := HQ.out _ hbd
   clear hbel
   go_wp2
   go_region_held3 (fun w' => w'.cell? ⟨g, f + j * 3, none⟩ = some (.string (mkS (y))) ∧ w'.cell? ⟨g, f + j * 3 + 1, none⟩ = some (int i64 (y + 1)) ∧ w'.cell? ⟨g, f + j * 3 + 2, none⟩ = some (int i64 (y + 1 + 1))) (first | exact SS | exact SS1 | go_keep) (first | (go_at_call 33; refine (HM1.out _).mono ?_; rintro e w1 ⟨rfl, hb⟩; have hb1 : Below w.heap.size w w1 := hbd.trans (hb.mono hbd.size); have SS1 := HQ.out _ hb1))
   clear r0 r1 r2 SS SS1 hb hbd HM1 HBE
   obtain ⟨r0, r1, r2⟩ := HQ.out _ hb1
   have HB1 := Ja hb1
   clear hb1
   go_wp2
   go_roundw
   case rel => exact ⟨j + 1, y + 1 + 1 + 1, by omega, by go_num, rfl, by have := HY.out; omega, HB1.out⟩
   case measure => simp [intOf]; omega
  ·have hj1 : ¬ ((j : Int) < n) := by omega
   have HR : Hid (y = (k : Int) + 3 * (n : Int)) := by
    have hjn : j = n := by omega
    show _ = _; rw [HY.out, hjn]
   clear hy hbel
   go_wp2
   go_ret
   exact ⟨by rw [← HR.out]; rfl, HBE.out⟩
theorem Uf {v : Value} {k n : Nat} (hn : n ≤ 1048576) (hk1 : 1 ≤ k) (hk2 : k ≤ 1073741824) (w : World) (ho : CeAt w v (JW k n)) :
  Calls Tryz.prog 40 #[v, int i64 (k : Int)] w fun e w' => e = .returned (int i64 ((k : Int) + 8 * (n : Int))) ∧ Below w.heap.size w w' := by
 obtain ⟨aa, ca, rfl, ga⟩ := ho
 have HGA : Hid (CeG w aa (JW k n)) := ga
 rw [ZY]
 clear ga
 go_enter Tryz.func40, Tryz.ntmps40
 go_wp2
 go_loopw [1, 5] (fun x z wr => ∃ (j : Nat) (y : Int), j ≤ n ∧ z = int i64 j ∧ x = int i64 y ∧ y = (k : Int) + 8 * (j : Int) ∧ Below w.heap.size w wr) (fun _ z _ => n - (intOf z).toNat)
 case atStart => exact ⟨0, _, Nat.zero_le _, rfl, rfl, by simp, Below.refl _ _⟩
 case round =>
  obtain ⟨j, y, hj, rfl, rfl, hy, hbel⟩ := hrel
  have HY : Hid (y = (k : Int) + 8 * (j : Int)) := hy
  have HBE := Ja hbel
  by_cases hlt : j < n
  ·have hjl : j < (JW k n).length := by rw [ZY]; exact hlt
   obtain ⟨g, f, rfl, hg, hcc⟩ := HGA.out (by omega)
   have q := hcc j hjl
   rw [Jec, ← hy] at q
   have HQ : Hid (∀ wx, Below w.heap.size w wx → wx.cell? ⟨g, f + j * 8, none⟩ = some (.string (mkS (y))) ∧ wx.cell? ⟨g, f + j * 8 + 1, none⟩ = some (int i64 (y + 1)) ∧ wx.cell? ⟨g, f + j * 8 + 2, none⟩ = some (int i64 (y + 1 + 1)) ∧ wx.cell? ⟨g, f + j * 8 + 3, none⟩ = some (int i64 (y + 1 + 1 + 1)) ∧ wx.cell? ⟨g, f + j * 8 + 4, none⟩ = some (int i64 (y + 1 + 1 + 1 + 1)) ∧ wx.cell? ⟨g, f + j * 8 + 5, none⟩ = some (int i64 (y + 1 + 1 + 1 + 1 + 1)) ∧ wx.cell? ⟨g, f + j * 8 + 6, none⟩ = some (int i64 (y + 1 + 1 + 1 + 1 + 1 + 1)) ∧ wx.cell? ⟨g, f + j * 8 + 7, none⟩ = some (.bool ((y + 1 + 1 + 1 + 1 + 1 + 1 + 1) % 3 == 0))) := fun wx h => ceC.below (a := _) q h hg
   have hj1 : (j : Int) < n := by omega
   have hj0 : (0 : Int) ≤ j := by omega
   have hy0 : 1 ≤ y := by omega
   have hy1 : y ≤ 1099511627000 := by omega
   clear hcc q hjl hy
   have wy1 : IntKind.i64.wrap (y + 1) = y + 1 := by rw [IntKind.wrap_i64] <;> omega
   have wy2 : IntKind.i64.wrap (y + 1 + 1) = y + 1 + 1 := by rw [IntKind.wrap_i64] <;> omega
   have wy3 : IntKind.i64.wrap (y + 1 + 1 + 1) = y + 1 + 1 + 1 := by rw [IntKind.wrap_i64] <;> omega
   have wy4 : IntKind.i64.wrap (y + 1 + 1 + 1 + 1) = y + 1 + 1 + 1 + 1 := by rw [IntKind.wrap_i64] <;> omega
   have wy5 : IntKind.i64.wrap (y + 1 + 1 + 1 + 1 + 1) = y + 1 + 1 + 1 + 1 + 1 := by rw [IntKind.wrap_i64] <;> omega
   have wy6 : IntKind.i64.wrap (y + 1 + 1 + 1 + 1 + 1 + 1) = y + 1 + 1 + 1 + 1 + 1 + 1 := by rw [IntKind.wrap_i64] <;> omega
   have wy7 : IntKind.i64.wrap (y + 1 + 1 + 1 + 1 + 1 + 1 + 1) = y + 1 + 1 + 1 + 1 + 1 + 1 + 1 := by rw [IntKind.wrap_i64] <;> omega
   have wy8 : IntKind.i64.wrap (y + 1 + 1 + 1 + 1 + 1 + 1 + 1 + 1) = y + 1 + 1 + 1 + 1 + 1 + 1 + 1 + 1 := by rw [IntKind.wrap_i64] <;> omega
   have ne1 : ((y + 1) != (y + 1)) = false := by simp
   have ne2 : ((y + 1 + 1) != (y + 1 + 1)) = false := by simp
   have ne3 : ((y + 1 + 1 + 1) != (y + 1 + 1 + 1)) = false := by simp
   have ne4 : ((y + 1 + 1 + 1 + 1) != (y + 1 + 1 + 1 + 1)) = false := by simp
   have ne5 : ((y + 1 + 1 + 1 + 1 + 1) != (y + 1 + 1 + 1 + 1 + 1)) = false := by simp
   have ne6 : ((y + 1 + 1 + 1 + 1 + 1 + 1) != (y + 1 + 1 + 1 + 1 + 1 + 1)) = false := by simp
   have ne7 : ((y + 1 + 1 + 1 + 1 + 1 + 1 + 1) != (y + 1 + 1 + 1 + 1 + 1 + 1 + 1)) = false := by simp
   have neb : (((y + 1 + 1 + 1 + 1 + 1 + 1 + 1) % 3 == 0) != ((y + 1 + 1 + 1 + 1 + 1 + 1 + 1) % 3 == 0)) = false := by simp
   have nes1 := JM (mkS y) (mkS y) rfl
   have HM1 : Hid (∀ wx, Calls Tryz.prog 33 #[int i64 y] wx fun e w' => e = .returned (.string (mkS y)) ∧ Below wx.heap.size wx w') := fun wx => KE _ (by omega) (by omega) wx
   obtain ⟨r0, r1, r2, r3, r4, r5, r6, r7⟩ := HQ.out _ hbel
   have hbd : Below w.heap.size w wr.drew := hbel.drew
   have SS := HQ.out _ hbd
   clear hbel
   go_wp2
   go_region_held3 (fun w' => w'.cell? ⟨g, f + j * 8, none⟩ = some (.string (mkS (y))) ∧ w'.cell? ⟨g, f + j * 8 + 1, none⟩ = some (int i64 (y + 1)) ∧ w'.cell? ⟨g, f + j * 8 + 2, none⟩ = some (int i64 (y + 1 + 1)) ∧ w'.cell? ⟨g, f + j * 8 + 3, none⟩ = some (int i64 (y + 1 + 1 + 1)) ∧ w'.cell? ⟨g, f + j * 8 + 4, none⟩ = some (int i64 (y + 1 + 1 + 1 + 1)) ∧ w'.cell? ⟨g, f + j * 8 + 5, none⟩ = some (int i64 (y + 1 + 1 + 1 + 1 + 1)) ∧ w'.cell? ⟨g, f + j * 8 + 6, none⟩ = some (int i64 (y + 1 + 1 + 1 + 1 + 1 + 1)) ∧ w'.cell? ⟨g, f + j * 8 + 7, none⟩ = some (.bool ((y + 1 + 1 + 1 + 1 + 1 + 1 + 1) % 3 == 0))) (first | exact SS | exact SS1 | go_keep) (first | (go_at_call 33; refine (HM1.out _).mono ?_; rintro e w1 ⟨rfl, hb⟩; have hb1 : Below w.heap.size w w1 := hbd.trans (hb.mono hbd.size); have SS1 := HQ.out _ hb1))
   clear r0 r1 r2 r3 r4 r5 r6 r7 SS SS1 hb hbd HM1 HBE
   obtain ⟨r0, r1, r2, r3, r4, r5, r6, r7⟩ := HQ.out _ hb1
   have HB1 := Ja hb1
   clear hb1
   go_wp2
   go_roundw
   case rel => exact ⟨j + 1, y + 1 + 1 + 1 + 1 + 1 + 1 + 1 + 1, by omega, by go_num, rfl, by have := HY.out; omega, HB1.out⟩
   case measure => simp [intOf]; omega
  ·have hj1 : ¬ ((j : Int) < n) := by omega
   have HR : Hid (y = (k : Int) + 8 * (n : Int)) := by
    have hjn : j = n := by omega
    show _ = _; rw [HY.out, hjn]
   clear hy hbel
   go_wp2
   go_ret
   exact ⟨by rw [← HR.out]; rfl, HBE.out⟩
theorem ZZ (S : Sta) (B : Nat) (v0 v1 v2 v3 : Value) (w : World) (hn : S.l.length ≤ 1048576 ∧ S.T.length ≤ 1048576 ∧ S.L.length ≤ 1048576 ∧ S.C.length ≤ 1048576) (hO : OwnS w B (ZC S) v0 v1 v2 v3) :
  Calls Tryz.prog 13 #[.agg #[v0, v1, v2, v3], int i64 1] w fun e w' => e = .returned (int i64 (Gp S)) ∧ Below w.heap.size w w' := by
 obtain ⟨W, hW⟩ : ∃ W, W = w.alloc (.cells #[v0, v1, v2, v3] 29) := ⟨_, rfl⟩
 have hbW : Below w.heap.size w W := by rw [hW]; exact (Below.refl _ _).alloc (Nat.le_refl _) _
 have HP : Hid (Row W w.heap.size #[v0, v1, v2, v3] 29) := by show Row _ _ _ _; rw [hW]; exact Jb w _ _ rfl
 have hst : ∀ wx, Below W.heap.size W wx → StAt wx (ZC S) v0 v1 v2 v3 := fun wx h => (show OwnS wx B (ZC S) v0 v1 v2 v3 from Own4.next (Own4.next hO hbW) h).at
 have HB0 := Ja hbW
 have HW : Hid (w.alloc (.cells #[v0, v1, v2, v3] 29) = W) := hW.symm
 have H0 : Hid (∀ wx, Below W.heap.size W wx → Calls Tryz.prog 37 #[v0, int i64 1] wx fun e w' => e = .returned (int i64 (1 + S.l.length : Nat)) ∧ Below wx.heap.size wx w') := fun wx h => (UL (k := 1) (n := S.l.length) hn.1 (by omega) wx (hst wx h).1).mono (fun e w' q => ⟨by rw [q.1]; congr 2, q.2⟩)
 have H1 : Hid (∀ wx, Below W.heap.size W wx → Calls Tryz.prog 38 #[v1, int i64 (1 + S.l.length : Nat)] wx fun e w' => e = .returned (int i64 (1 + S.l.length + 3 * S.T.length : Nat)) ∧ Below wx.heap.size wx w') := fun wx h => (GS (k := 1 + S.l.length) (n := S.T.length) hn.2.1 (by omega) (by omega) wx (hst wx h).2.1).mono (fun e w' q => ⟨by rw [q.1]; congr 2, q.2⟩)
 have H2 : Hid (∀ wx, Below W.heap.size W wx → Calls Tryz.prog 39 #[v2, int i64 (1 + S.l.length + 3 * S.T.length : Nat)] wx fun e w' => e = .returned (int i64 (1 + S.l.length + 3 * S.T.length + 6 * S.L.length : Nat)) ∧ Below wx.heap.size wx w') := fun wx h => (Ul (k := 1 + S.l.length + 3 * S.T.length) (n := S.L.length) hn.2.2.1 (by omega) (by omega) wx (hst wx h).2.2.1).mono (fun e w' q => ⟨by rw [q.1]; congr 2, q.2⟩)
 have H3 : Hid (∀ wx, Below W.heap.size W wx → Calls Tryz.prog 40 #[v3, int i64 (1 + S.l.length + 3 * S.T.length + 6 * S.L.length : Nat)] wx fun e w' => e = .returned (int i64 (Gp S)) ∧ Below wx.heap.size wx w') := fun wx h => (Uf (k := 1 + S.l.length + 3 * S.T.length + 6 * S.L.length) (n := S.C.length) hn.2.2.2 (by omega) (by omega) wx (hst wx h).2.2.2).mono (fun e w' q => ⟨q.1, q.2⟩)
 have hbc : Below W.heap.size W W := Below.refl _ _
 obtain ⟨k1, hk1⟩ : ∃ k : Nat, k = 1 + S.l.length := ⟨_, rfl⟩
 obtain ⟨k2, hk2⟩ : ∃ k : Nat, k = 1 + S.l.length + 3 * S.T.length := ⟨_, rfl⟩
 obtain ⟨k3, hk3⟩ : ∃ k : Nat, k = 1 + S.l.length + 3 * S.T.length + 6 * S.L.length := ⟨_, rfl⟩
 rw [← hk3] at H2 H3
 rw [← hk2] at H1 H2
 rw [← hk1] at H0 H1
 obtain ⟨M, hM⟩ : ∃ M : Int, M = Gp S := ⟨_, rfl⟩
 rw [← hM] at H3 ⊢
 have hM0 : ¬ (M < 0) := by rw [hM]; unfold Gp; omega
 have hj1 : ¬ ((k1 : Int) < 0) := by omega
 have hj2 : ¬ ((k2 : Int) < 0) := by omega
 have hj3 : ¬ ((k3 : Int) < 0) := by omega
 clear hW hbW hO hn hst hk1 hk2 hk3 hM
 go_enter Tryz.func13, Tryz.ntmps13
 go_wp2_with fail
 rw [HW.out]
 clear HW
 refine (H0.out _ hbc).mono ?_
 rintro e w1 ⟨rfl, hb⟩
 replace hbc := hbc.trans (hb.mono hbc.size)
 clear hb H0
 have p1 := (HP.out.next hbc).cell 1 rfl
 go_wp2_with fail
 clear p1
 refine (H1.out _ hbc).mono ?_
 rintro e w2 ⟨rfl, hb⟩
 replace hbc := hbc.trans (hb.mono hbc.size)
 clear hb H1
 have p2 := (HP.out.next hbc).cell 2 rfl
 go_wp2_with fail
 clear p2
 refine (H2.out _ hbc).mono ?_
 rintro e w3 ⟨rfl, hb⟩
 replace hbc := hbc.trans (hb.mono hbc.size)
 clear hb H2
 have p3 := (HP.out.next hbc).cell 3 rfl
 go_wp2_with fail
 clear p3
 refine (H3.out _ hbc).mono ?_
 rintro e w4 ⟨rfl, hb⟩
 replace hbc := hbc.trans (hb.mono hbc.size)
 clear hb H3
 have HBF := Ja (HB0.out.trans (hbc.mono HB0.out.size))
 clear hbc
 go_wp2
 go_ret
 exact ⟨rfl, HBF.out⟩
abbrev ye0 : Oper := oq 17 (.move (.tmp 0)) 32 "exact.go:841" #[] none
abbrev ye1 : Oper := oq 18 (.move (.tmp 5)) 3 "exact.go:841" #[] none
abbrev ye2 : Oper := oq 19 (.indexAddr 32 (.tmp 17) (.tmp 18)) 0 "exact.go:841" #[eD 0, eD 1] none
abbrev ye3 : Oper := oq 20 (.load 44 (.tmp 19)) 44 "exact.go:841" #[eD 2] none
abbrev ye4 : Oper := oq 21 (.move (.tmp 1)) 32 "exact.go:841" #[] none
abbrev ye5 : Oper := oq 22 (.move (.tmp 5)) 3 "exact.go:841" #[] none
abbrev ye6 : Oper := oq 23 (.indexAddr 32 (.tmp 21) (.tmp 22)) 0 "exact.go:841" #[eD 4, eD 5] none
abbrev ye7 : Oper := oq 24 (.load 44 (.tmp 23)) 44 "exact.go:841" #[eD 6] none
abbrev ye8 : Oper := oq 25 (.call ⟨.value (.func 31), #[.tmp 20, .tmp 24], #[44, 44]⟩) 4 "exact.go:841" #[eD 3, eD 7] none
abbrev ye9 : Oper := oq 26 (.unOp .not 4 (.tmp 25)) 4 "exact.go:841" #[eD 8] none
theorem YV {va vb : Value} {l : List Ac} (hn : l.length ≤ 1048576) (hal : U0 l) (w : World) (ha : AcsAt w va l) (hb : AcsAt w vb l) :
  Calls Tryz.prog 10 #[va, vb] w fun e w' => e = .returned (.bool true) ∧ Below w.heap.size w w' := by
 obtain ⟨aa, ca, rfl, ga⟩ := ha
 obtain ⟨ab, cb, rfl, gb⟩ := hb
 have HGA : Hid (AcsG w aa l) := ga
 have HGB : Hid (AcsG w ab l) := gb
 have HAL := Ja hal
 obtain ⟨n, hl⟩ : ∃ n, n = l.length := ⟨_, rfl⟩
 rw [← hl]
 rw [← hl] at hn
 have HL : Hid (n = l.length) := hl
 have hnn : ((n : Int) != n) = false := by simp
 clear ga gb hl hal
 go_enter Tryz.func10, Tryz.ntmps10
 go_wp2
 go_loopw [5] (fun z wr => ∃ k : Nat, k ≤ n ∧ z = int i64 k ∧ Below w.heap.size w wr) (fun z _ => n - (intOf z).toNat)
 case atStart => exact ⟨0, Nat.zero_le _, rfl, Below.refl _ _⟩
 case round =>
  obtain ⟨k, hk, rfl, hbel⟩ := hrel
  have HBE := Ja hbel
  by_cases hlt : k < n
  ·have hkl : k < l.length := by rw [← HL.out]; exact hlt
   obtain ⟨g1, f1, rfl, hg1, ho1⟩ := HGA.out (by omega)
   obtain ⟨g2, f2, rfl, hg2, ho2⟩ := HGB.out (by omega)
   obtain ⟨u1, c1, i1⟩ := ho1 k hkl
   obtain ⟨u2, c2, i2⟩ := ho2 k hkl
   have hlim := HAL.out l[k] (List.getElem_mem hkl)
   generalize l[k] = x at *
   have hk1 : (k : Int) < n := by omega
   have hk0 : (0 : Int) ≤ k := by omega
   have HEQ : Hid (∀ wx, Below w.heap.size w wx → Calls Tryz.prog 31 #[.agg #[int i64 x.r, int i64 x.s, int i64 x.t, u1, int i64 x.k, .string x.o, .string x.y, int i64 x.v, int i64 x.x, int i64 x.z], .agg #[int i64 x.r, int i64 x.s, int i64 x.t, u2, int i64 x.k, .string x.o, .string x.y, int i64 x.v, int i64 x.x, int i64 x.z]] wx fun e w' => e = .returned (.bool true) ∧ Below wx.heap.size wx w') := fun wx h => Jah x u1 u2 wx hlim.1 (i1.below h) (i2.below h)
   have HS9 : Hid (∀ wx, Below wr.heap.size wr wx → wx.cell? ⟨g1, f1 + k * 10, none⟩ = some (int i64 x.r) ∧ wx.cell? ⟨g1, f1 + k * 10 + 1, none⟩ = some (int i64 x.s) ∧ wx.cell? ⟨g1, f1 + k * 10 + 2, none⟩ = some (int i64 x.t) ∧ wx.cell? ⟨g1, f1 + k * 10 + 3, none⟩ = some (u1) ∧ wx.cell? ⟨g1, f1 + k * 10 + 4, none⟩ = some (int i64 x.k) ∧ wx.cell? ⟨g1, f1 + k * 10 + 5, none⟩ = some (.string x.o) ∧ wx.cell? ⟨g1, f1 + k * 10 + 6, none⟩ = some (.string x.y) ∧ wx.cell? ⟨g1, f1 + k * 10 + 7, none⟩ = some (int i64 x.v) ∧ wx.cell? ⟨g1, f1 + k * 10 + 8, none⟩ = some (int i64 x.x) ∧ wx.cell? ⟨g1, f1 + k * 10 + 9, none⟩ = some (int i64 x.z) ∧ wx.cell? ⟨g2, f2 + k * 10, none⟩ = some (int i64 x.r) ∧ wx.cell? ⟨g2, f2 + k * 10 + 1, none⟩ = some (int i64 x.s) ∧ wx.cell? ⟨g2, f2 + k * 10 + 2, none⟩ = some (int i64 x.t) ∧ wx.cell? ⟨g2, f2 + k * 10 + 3, none⟩ = some (u2) ∧ wx.cell? ⟨g2, f2 + k * 10 + 4, none⟩ = some (int i64 x.k) ∧ wx.cell? ⟨g2, f2 + k * 10 + 5, none⟩ = some (.string x.o) ∧ wx.cell? ⟨g2, f2 + k * 10 + 6, none⟩ = some (.string x.y) ∧ wx.cell? ⟨g2, f2 + k * 10 + 7, none⟩ = some (int i64 x.v) ∧ wx.cell? ⟨g2, f2 + k * 10 + 8, none⟩ = some (int i64 x.x) ∧ wx.cell? ⟨g2, f2 + k * 10 + 9, none⟩ = some (int i64 x.z)) := fun wx h => by
    have hb := HBE.out.trans (h.mono HBE.out.size)
    obtain ⟨p0, p1, p2, p3, p4, p5, p6, p7, p8, p9⟩ := c1.below hb hg1
    obtain ⟨q0, q1, q2, q3, q4, q5, q6, q7, q8, q9⟩ := c2.below hb hg2
    exact ⟨p0, p1, p2, p3, p4, p5, p6, p7, p8, p9, q0, q1, q2, q3, q4, q5, q6, q7, q8, q9⟩
   have hBc : Below wr.heap.size wr wr := Below.refl _ _
   clear c1 c2 i1 i2 ho1 ho2 hkl hlim hbel
   go_wp2
   replace hBc := hBc.drew
   have hs := Ja (HS9.out _ hBc)
   refine wph HS9 hBc 10 ?_
   generalize wr.drew = wn at *
   refine tQ 0 ye0 ?_; refine tQ 1 ye1 ?_; refine tQ 2 ye2 ?_; refine tQ 3 ye3 ?_; refine tQ 4 ye4 ?_; refine tQ 5 ye5 ?_; refine tQ 6 ye6 ?_; refine tQ 7 ye7 ?_
   refine rd 8 ye8 (fun K hK => ?_)
   go_simp
   refine (HEQ.out _ (HBE.out.trans (hBc.mono HBE.out.size))).mono ?_
   rintro e wn ⟨rfl, hbn⟩
   replace hBc := nx hBc hbn
   clear hbn
   try go_wp2_with fail
   replace hs := Ja (HS9.out _ hBc)
   refine hK.out _ _ hs.out (fun hx => ?_)
   clear hx hK K
   try simp only [s1, s2, s3]
   rename World => wz
   refine tQ 9 ye9 ?_
   refine wpd ?_
   have HBN := Ja (HBE.out.trans (hBc.mono HBE.out.size))
   clear hs hBc HS9 HEQ HBE
   go_wp2
   go_roundw
   case rel => exact ⟨k + 1, by omega, by go_num, HBN.out⟩
   case measure => simp [intOf]; omega
  ·have hk1 : ¬ ((k : Int) < n) := by omega
   clear hbel
   go_wp2
   go_ret
   exact ⟨rfl, HBE.out⟩
theorem AcsAt.own {w : World} {B B' n lc : Nat} {la : Option Addr} {L : List Ac} {X : List (Ac × Value)} (h : w.ownsRow B 44 10 (.slice la n lc) n (JJ X)) (hX : X.map Prod.fst = L) (hn : n = L.length) (hu : OwnU w B' X) : AcsAt w (.slice la L.length lc) L := by
 subst hX
 rw [List.length_map] at hn ⊢
 subst hn
 refine ⟨la, lc, by rw [List.length_map], fun h0 => ?_⟩
 rw [List.length_map] at h0
 rcases h.2 with ⟨e, -⟩ | ⟨g, cap, cur, e, hB, hg, -⟩
 ·injection e with _ e; omega
 ·injection e with e1 e2 e3
  subst e1
  have hlt : g < w.heap.size := by
   rcases Array.getElem?_eq_some_iff.1 hg with ⟨hlt, -⟩
   exact hlt
  refine ⟨g, 0, rfl, hlt, fun j hj => ?_⟩
  rw [List.length_map] at hj
  have e : (X.map Prod.fst)[j]'(by simpa using hj) = (X[j]).1 := by simp
  rw [e]
  refine ⟨(X[j]).2, ?_, IntsAt.own (hu X[j] (List.getElem_mem hj)) rfl⟩
  have hc : ∀ i, i < 10 → ∀ u, (acv X[j])[i]? = some u → w.cell? ⟨g, 0 + j * 10 + i, none⟩ = some u := fun i hi u hu => by
   have h1 := ZB (ZR X) j (by simpa using hj) i hi
   have h2 := World.ownsRow.cells h (g := g) rfl (j * 10 + i) u (by unfold JJ; rw [h1]; simpa using hu)
   rw [Jw] at h2
   rw [Nat.zero_add]
   exact h2
  exact ⟨hc 0 (by omega) _ rfl, hc 1 (by omega) _ rfl, hc 2 (by omega) _ rfl, hc 3 (by omega) _ rfl, hc 4 (by omega) _ rfl, hc 5 (by omega) _ rfl, hc 6 (by omega) _ rfl, hc 7 (by omega) _ rfl, hc 8 (by omega) _ rfl, hc 9 (by omega) _ rfl⟩
theorem ArgAs.below {w w' : World} {v : Value} {l : List Ac} (h : ArgAs w v l) (hb : Below w.heap.size w w') : ArgAs w' v l := by
 obtain ⟨hm, aa, ca, rfl, hg⟩ := h
 exact ⟨hm, aa, ca, rfl, hg.below hb⟩
theorem Jef {l : List Ac} : (l.map (fun a => a.l.length)).sum ≤ Zx l := by
 unfold Zx
 induction l with
 | nil => exact Nat.le_refl _
 | cons a l ih =>
  have h1 : a.l.length ≤ a.szn := by unfold Ac.szn; omega
  simp only [List.map_cons, List.sum_cons]
  omega
theorem KC (v : Value) (L : List Ac) (w : World) (ha : ArgAs w v L) :
  Calls Tryz.prog 3 #[v] w fun e w' => e = .returned (.bool true) ∧ Below w.heap.size w w' := by
 have HZ : Hid (Calls Tryz.prog 5 #[v, int i64 1048576] w fun e w' => e = .returned (int i64 (JA 1048576 ((L.length : Int) + Zx L))) ∧ Below w.heap.size w w') := YG 1048576 w (by omega) (by omega) ha
 by_cases k1 : (L.length : Int) + Zx L ≤ 1048576
 case neg =>
  rw [show JA 1048576 ((L.length : Int) + Zx L) = -1 by unfold JA; rw [if_neg k1]] at HZ
  clear ha
  go_enter Tryz.func3, Tryz.ntmps3
  go_wp2_with fail
  refine HZ.out.mono ?_
  rintro e w1 ⟨rfl, hb⟩
  have HB1 := Ja hb
  clear hb HZ
  go_wp2
  go_ret
  exact ⟨rfl, HB1.out⟩
 case pos =>
  rw [show JA 1048576 ((L.length : Int) + Zx L) = 1048576 - ((L.length : Int) + Zx L) by unfold JA; rw [if_pos k1]] at HZ
  obtain ⟨q, hq⟩ : ∃ q : Int, q = 1048576 - ((L.length : Int) + Zx L) := ⟨_, rfl⟩
  rw [← hq] at HZ
  have hq0 : ¬ (q < 0) := by omega
  clear hq
  obtain ⟨hn, hal⟩ := Jej k1
  have hsm : (L.map (fun a => a.l.length)).sum ≤ 1048576 := by have := Jef (l := L); omega
  obtain ⟨S, hS⟩ : ∃ S, S = (J2 L).1 := ⟨_, rfl⟩
  obtain ⟨N, hN⟩ : ∃ N, N = (J2 L).2 := ⟨_, rfl⟩
  have HT : Hid (∀ wx, Below w.heap.size w wx → Calls Tryz.prog 7 #[v] wx fun e w' => ∃ X, e = .returned (.slice (some ⟨wx.heap.size, 0, none⟩) L.length L.length) ∧ X.map Prod.fst = L ∧ w'.ownsRow wx.heap.size 44 10 (.slice (some ⟨wx.heap.size, 0, none⟩) L.length L.length) L.length (JJ X) ∧ OwnU w' (wx.heap.size + 1) X ∧ ApU X ∧ Below wx.heap.size wx w') := fun wx h => YX hn hal wx (ha.below h)
  have HSP : Hid (∀ wx va, AcsAt wx va L → Calls Tryz.prog 6 #[va] wx fun e w' => ∃ v0 v1 v2 v3, e = .returned (.tuple #[.agg #[v0, v1, v2, v3], int i64 N]) ∧ StAt w' S v0 v1 v2 v3 ∧ SOk S ∧ Below wx.heap.size wx w') := fun wx va h => by rw [hS, hN]; exact (Gy L va wx hn hal h).mono (fun e w' ⟨v0, v1, v2, v3, h1, h2, h3, h4, h5⟩ => ⟨v0, v1, v2, v3, h1, h2, h3, h5⟩)
  have HIM : Hid (∀ wx va, AcsAt wx va L → Calls Tryz.prog 8 #[va] wx fun e w' => ∃ v0 v1 v2 v3, e = .returned (.tuple #[.agg #[v0, v1, v2, v3], int i64 N]) ∧ OwnS w' wx.heap.size S v0 v1 v2 v3 ∧ Below wx.heap.size wx w') := fun wx va h => by rw [hS, hN]; exact (Gq L va wx hn hal h).mono (fun e w' ⟨v0, v1, v2, v3, h1, h2, h3, h4, h5⟩ => ⟨v0, v1, v2, v3, h1, h2, h5⟩)
  have HEA : Hid (∀ wx va vb, AcsAt wx va L → AcsAt wx vb L → Calls Tryz.prog 10 #[va, vb] wx fun e w' => e = .returned (.bool true) ∧ Below wx.heap.size wx w') := fun wx va vb h1 h2 => YV hn hal wx h1 h2
  have HN := Ja hn
  have HSM := Ja hsm
  have hnn : ((N : Int) != (N : Int)) = false := by simp
  clear ha hal hS hN hn hsm k1
  go_enter Tryz.func3, Tryz.ntmps3
  go_wp2_with fail
  refine HZ.out.mono ?_
  rintro e w1 ⟨rfl, hb⟩
  have HB1 := Ja hb
  clear hb HZ
  go_wp2_with fail
  refine (HT.out _ HB1.out).mono ?_
  rintro e w2 ⟨X, rfl, hx, ho, hu, hap, hb⟩
  have HA2 := Ja (AcsAt.own ho hx rfl hu)
  have HB2 := Ja (HB1.out.trans (hb.mono HB1.out.size))
  clear hx ho hu hap hb HB1 X
  go_wp2_with fail
  refine (HSP.out _ _ HA2.out).mono ?_
  rintro e w3 ⟨v0, v1, v2, v3, rfl, hst, hsok, hb⟩
  obtain ⟨a0, c0, a1, c1, a2, c2, a3, c3, rfl, rfl, rfl, rfl⟩ := hst.shape
  have hlen : S.l.length ≤ 1048576 ∧ S.T.length ≤ 1048576 ∧ S.L.length ≤ 1048576 ∧ S.C.length ≤ 1048576 := by have := hsok.len; omega
  have HB3 := Ja (HB2.out.trans (hb.mono HB2.out.size))
  obtain ⟨Y3, hY⟩ : ∃ Y, Y = w3.alloc (.cells #[.slice a0 S.l.length c0, .slice a1 S.T.length c1, .slice a2 S.L.length c2, .slice a3 S.C.length c3] 29) := ⟨_, rfl⟩
  have hbY : Below w3.heap.size w3 Y3 := by rw [hY]; exact (Below.refl _ _).alloc (Nat.le_refl _) _
  have HS3 : Hid (StAt Y3 S (.slice a0 S.l.length c0) (.slice a1 S.T.length c1) (.slice a2 S.L.length c2) (.slice a3 S.C.length c3)) := hst.below hbY
  have HQ3 : Hid (Row Y3 w3.heap.size #[.slice a0 S.l.length c0, .slice a1 S.T.length c1, .slice a2 S.L.length c2, .slice a3 S.C.length c3] 29) := by show Row _ _ _ _; rw [hY]; exact Jb _ _ _ rfl
  have HY3 : Hid (w3.alloc (.cells #[.slice a0 S.l.length c0, .slice a1 S.T.length c1, .slice a2 S.L.length c2, .slice a3 S.C.length c3] 29) = Y3) := hY.symm
  have HB4 := Ja (HB3.out.trans (hbY.mono HB3.out.size))
  have HEQ : Hid (∀ wx u0 u1 u2 u3 t0 t1 t2 t3, StAt wx S u0 u1 u2 u3 → StAt wx S t0 t1 t2 t3 → Calls Tryz.prog 9 #[.agg #[u0, u1, u2, u3], .agg #[t0, t1, t2, t3]] wx fun e w' => e = .returned (.bool true) ∧ Below wx.heap.size wx w') := fun wx u0 u1 u2 u3 t0 t1 t2 t3 h1 h2 => Vo S u0 u1 u2 u3 t0 t1 t2 t3 wx hlen h1 h2
  have HLN := Ja hlen
  clear hst hsok hb hY hbY HB2 HB3 HA2 HSP hlen
  go_wp2_with fail
  rw [HY3.out]
  clear HY3
  refine (HT.out _ HB4.out).mono ?_
  rintro e w5 ⟨X, rfl, hx, ho, hu, hap, hb⟩
  have HSL : Hid (∀ wx, Below Y3.heap.size Y3 wx → StAt wx S (.slice a0 S.l.length c0) (.slice a1 S.T.length c1) (.slice a2 S.L.length c2) (.slice a3 S.C.length c3) ∧ Row wx w3.heap.size #[.slice a0 S.l.length c0, .slice a1 S.T.length c1, .slice a2 S.L.length c2, .slice a3 S.C.length c3] 29) := fun wx h => ⟨HS3.out.below h, HQ3.out.next h⟩
  have HL5 := Ja hb
  have HB5 := Ja (HB4.out.trans (hb.mono HB4.out.size))
  have HA5 := Ja (AcsAt.own ho hx rfl hu)
  have HO5 := Ja ho
  have HU5 := Ja hu
  have HAP := Ja hap
  have HX := Ja hx
  have HL4 : Hid (w3.heap.size < Y3.heap.size) := HQ3.out.lt
  have HLW : Hid (w.heap.size ≤ Y3.heap.size) := HB4.out.size
  have HM5 : Hid (Y3.heap.size ≤ w5.heap.size) := hb.size
  clear hx ho hu hap hb HS3 HQ3 HB4
  generalize Y3.heap.size = lo at *
  go_wp2_with fail
  refine (HIM.out _ _ HA5.out).mono ?_
  rintro e w6 ⟨u0, u1, u2, u3, rfl, ho, hb⟩
  obtain ⟨b0, d0, b1, d1, b2, d2, b3, d3, rfl, rfl, rfl, rfl⟩ := ho.at.shape
  obtain ⟨Y6, hY⟩ : ∃ Y, Y = w6.alloc (.cells #[.slice b0 S.l.length d0, .slice b1 S.T.length d1, .slice b2 S.L.length d2, .slice b3 S.C.length d3] 29) := ⟨_, rfl⟩
  have hbY : Below w6.heap.size w6 Y6 := by rw [hY]; exact (Below.refl _ _).alloc (Nat.le_refl _) _
  have hb6 : Below w5.heap.size w5 Y6 := hb.trans (hbY.mono hb.size)
  have HL6 := Ja (HL5.out.trans (hb6.mono HM5.out))
  have HS6 := Ja (HSL.out _ HL6.out).1
  have HQ6 := Ja (HSL.out _ HL6.out).2
  have HB6 := Ja (HB5.out.trans (hb6.mono HB5.out.size))
  have HA6 := Ja (HA5.out.below hb6)
  have HO6 := Ja (Jh HO5.out hb6)
  have HU6 := Ja (HU5.out.below hb6)
  have HI6 : Hid (OwnS Y6 w5.heap.size S (.slice b0 S.l.length d0) (.slice b1 S.T.length d1) (.slice b2 S.L.length d2) (.slice b3 S.C.length d3)) := Own4.next ho hbY
  have HR6 : Hid (Row Y6 w6.heap.size #[.slice b0 S.l.length d0, .slice b1 S.T.length d1, .slice b2 S.L.length d2, .slice b3 S.C.length d3] 29) := by show Row _ _ _ _; rw [hY]; exact Jb _ _ _ rfl
  have HY6 : Hid (w6.alloc (.cells #[.slice b0 S.l.length d0, .slice b1 S.T.length d1, .slice b2 S.L.length d2, .slice b3 S.C.length d3] 29) = Y6) := hY.symm
  have HM6 : Hid (w5.heap.size ≤ w6.heap.size ∧ w5.heap.size ≤ Y6.heap.size) := ⟨hb.size, hb6.size⟩
  have HUH : Hid (∀ a ∈ X, ∀ k, a.2.ownBlock = some k → k < w5.heap.size) := fun a ha k hk => (World.ownsRow.lt (HU5.out a ha) k hk).2
  have HGH : Hid (∀ g, some (⟨lo, 0, none⟩ : Addr) = some ⟨g, 0, none⟩ → g < w5.heap.size) := fun g hg => by injection hg with hg; injection hg with hg; subst hg; exact (World.ownsRow.lt HO5.out lo rfl).2
  clear ho hb hY hbY hb6 HL5 HB5 HA5 HO5 HU5
  generalize w5.heap.size = hi at *
  clear w5
  obtain ⟨x0, x1, x2, x3⟩ := Row.four HR6.out
  obtain ⟨y0, y1, y2, y3⟩ := Row.four HQ6.out
  rw [← HY6.out] at x0 x1 x2 x3 y0 y1 y2 y3
  go_wp2_with fail
  rw [HY6.out]
  clear HY6 x0 x1 x2 x3 y0 y1 y2 y3
  refine (HEQ.out _ _ _ _ _ _ _ _ _ HI6.out.at HS6.out).mono ?_
  rintro e w7 ⟨rfl, hb⟩
  have HL := Ja (HL6.out.trans (hb.mono (Nat.le_trans HM5.out HM6.out.2)))
  have HA := Ja (HA6.out.below hb)
  have HB := Ja (HB6.out.trans (hb.mono HB6.out.size))
  have HO := Ja (Jh HO6.out hb)
  have HU := Ja (HU6.out.below hb)
  have HI : Hid (OwnS w7 hi S (.slice b0 S.l.length d0) (.slice b1 S.T.length d1) (.slice b2 S.L.length d2) (.slice b3 S.C.length d3)) := Own4.next HI6.out hb
  have HR := Ja (HR6.out.next hb)
  have HH : Hid (hi ≤ w7.heap.size) := Nat.le_trans HM6.out.2 hb.size
  clear hb HL6 HS6 HQ6 HA6 HB6 HO6 HU6 HI6 HR6
  go_wp2_with fail
  refine (HT.out _ HB.out).mono ?_
  rintro e w8 ⟨X2, rfl, hx, ho, hu, hap, hb⟩
  have HA2 := Ja (AcsAt.own ho hx rfl hu)
  clear hx ho hu hap X2
  replace HL := Ja (HL.out.trans (hb.mono (Nat.le_trans HM5.out HH.out)))
  replace HB := Ja (HB.out.trans (hb.mono HB.out.size))
  replace HR := Ja (HR.out.next hb)
  replace HH := Ja (Nat.le_trans HH.out hb.size)
  replace HA := Ja (HA.out.below hb)
  replace HO := Ja (Jh HO.out hb)
  replace HU := Ja (HU.out.below hb)
  replace HI : Hid (OwnS w8 hi S (.slice b0 S.l.length d0) (.slice b1 S.T.length d1) (.slice b2 S.L.length d2) (.slice b3 S.C.length d3)) := Own4.next HI.out hb
  clear hb
  go_wp2_with fail
  refine (HEA.out _ _ _ HA.out HA2.out).mono ?_
  rintro e w9 ⟨rfl, hb⟩
  replace HL := Ja (HL.out.trans (hb.mono (Nat.le_trans HM5.out HH.out)))
  replace HB := Ja (HB.out.trans (hb.mono HB.out.size))
  replace HR := Ja (HR.out.next hb)
  replace HH := Ja (Nat.le_trans HH.out hb.size)
  replace HA := Ja (HA.out.below hb)
  replace HO := Ja (Jh HO.out hb)
  replace HU := Ja (HU.out.below hb)
  replace HI : Hid (OwnS w9 hi S (.slice b0 S.l.length d0) (.slice b1 S.T.length d1) (.slice b2 S.L.length d2) (.slice b3 S.C.length d3)) := Own4.next HI.out hb
  clear hb HA2 HA
  go_wp2_with fail
  have HMA : Hid (Calls Tryz.prog 11 #[.slice (some ⟨lo, 0, none⟩) L.length L.length, int i64 1] w9 fun e w' => ∃ y : Int, e = .returned (int i64 y) ∧ 1 ≤ y ∧ Within lo hi w9 w') := by
   have hxl : X.length = L.length := by rw [← HX.out, List.length_map]
   have h1 := U3 (aa := some ⟨lo, 0, none⟩) (B := lo) (ca := L.length) (X := X) (by rw [hxl]; have := HN.out; omega) (by have h2 := HSM.out; rw [← HX.out, List.map_map] at h2; exact h2) w9 (Nat.le_trans HM5.out HH.out) (by rw [hxl]; exact HO.out) (fun a ha => Jk (HU.out a ha) (by omega)) HAP.out hi HGH.out HUH.out
   rw [hxl] at h1
   exact h1
  refine HMA.out.mono ?_
  rintro e w10 ⟨y, rfl, hy, hwi⟩
  have hy0 : ¬ (y < 0) := by omega
  have hb : Below lo w9 w10 := ⟨hwi.os, hwi.tape, hwi.output, hwi.size, fun k hk => by
   by_cases h : k < w9.heap.size
   ·exact hwi.block k h (.inl hk)
   ·have h1 := HM5.out; have h2 := HH.out; omega⟩
  replace HL := Ja (HL.out.trans hb)
  replace HB := Ja (HB.out.trans (hb.mono HLW.out))
  replace HR := Ja (Row.within HR.out hwi (.inr HM6.out.1))
  replace HI : Hid (OwnS w10 hi S (.slice b0 S.l.length d0) (.slice b1 S.T.length d1) (.slice b2 S.L.length d2) (.slice b3 S.C.length d3)) := HI.out.keepN (fun j hj ho => hwi.block j hj (.inr (by
   rcases ho with h | h | h | h
   ·exact (World.ownsRow.lt HI.out.1.1 j h).1
   ·exact (World.ownsRow.lt HI.out.1.2.1 j h).1
   ·exact (World.ownsRow.lt HI.out.1.2.2.1 j h).1
   ·exact (World.ownsRow.lt HI.out.1.2.2.2 j h).1)))
  replace HH := Ja (Nat.le_trans HH.out hwi.size)
  clear hwi hb HMA hy HO HU HAP HUH HGH HX HEA HSM HN
  obtain ⟨x0, x1, x2, x3⟩ := Row.four HR.out
  obtain ⟨y0, y1, y2, y3⟩ := Row.four (HSL.out _ HL.out).2
  go_wp2_with fail
  clear x0 x1 x2 x3 y0 y1 y2 y3
  refine (HEQ.out _ _ _ _ _ _ _ _ _ HI.out.at (HSL.out _ HL.out).1).mono ?_
  rintro e w11 ⟨rfl, hb⟩
  replace HL := Ja (HL.out.trans (hb.mono (Nat.le_trans HM5.out HH.out)))
  replace HB := Ja (HB.out.trans (hb.mono HB.out.size))
  replace HR := Ja (HR.out.next hb)
  replace HH := Ja (Nat.le_trans HH.out hb.size)
  replace HI : Hid (OwnS w11 hi S (.slice b0 S.l.length d0) (.slice b1 S.T.length d1) (.slice b2 S.L.length d2) (.slice b3 S.C.length d3)) := Own4.next HI.out hb
  clear hb
  obtain ⟨x0, x1, x2, x3⟩ := Row.four HR.out
  go_wp2_with fail
  clear x0 x1 x2 x3
  refine (GJ S hi _ _ _ _ w11 HLN.out HH.out HI.out).mono ?_
  rintro e w12 ⟨rfl, hI, hb, hk⟩
  replace HL := Ja (HL.out.trans (hb.mono HM5.out))
  replace HB := Ja (HB.out.trans (hb.mono (Nat.le_trans HLW.out HM5.out)))
  replace HR : Hid (Row w12 w6.heap.size #[.slice b0 S.l.length d0, .slice b1 S.T.length d1, .slice b2 S.L.length d2, .slice b3 S.C.length d3] 29) := (hk _ HR.out.lt (OwnS.offRow HI.out HR.out)).trans HR.out
  replace HI := Ja hI
  replace HH := Ja (Nat.le_trans HH.out hb.size)
  clear hI hb hk
  have hM0 : ¬ (Gp S < 0) := by unfold Gp; omega
  have hMM : (Gp S != Gp S) = false := by simp
  obtain ⟨x0, x1, x2, x3⟩ := Row.four HR.out
  go_wp2_with fail
  clear x0 x1 x2 x3
  refine (ZZ S hi _ _ _ _ w12 HLN.out HI.out).mono ?_
  rintro e w13 ⟨rfl, hb⟩
  replace HL := Ja (HL.out.trans (hb.mono (Nat.le_trans HM5.out HH.out)))
  replace HB := Ja (HB.out.trans (hb.mono HB.out.size))
  replace HR := Ja (HR.out.next hb)
  replace HH := Ja (Nat.le_trans HH.out hb.size)
  replace HI : Hid (OwnS w13 hi (ZC S) (.slice b0 S.l.length d0) (.slice b1 S.T.length d1) (.slice b2 S.L.length d2) (.slice b3 S.C.length d3)) := Own4.next HI.out hb
  clear hb
  go_wp2_with fail
  refine (HT.out _ HB.out).mono ?_
  rintro e w14 ⟨X2, rfl, hx, ho, hu, hap, hb⟩
  have HA2 := Ja (AcsAt.own ho hx rfl hu)
  clear hx ho hu hap X2
  replace HL := Ja (HL.out.trans (hb.mono (Nat.le_trans HM5.out HH.out)))
  replace HB := Ja (HB.out.trans (hb.mono HB.out.size))
  replace HR := Ja (HR.out.next hb)
  replace HH := Ja (Nat.le_trans HH.out hb.size)
  replace HI : Hid (OwnS w14 hi (ZC S) (.slice b0 S.l.length d0) (.slice b1 S.T.length d1) (.slice b2 S.L.length d2) (.slice b3 S.C.length d3)) := Own4.next HI.out hb
  clear hb
  go_wp2_with fail
  refine (HIM.out _ _ HA2.out).mono ?_
  rintro e w15 ⟨r0, r1, r2, r3, rfl, hr, hb⟩
  obtain ⟨e0, f0, e1, f1, e2, f2, e3, f3, rfl, rfl, rfl, rfl⟩ := hr.at.shape
  replace HL := Ja (HL.out.trans (hb.mono (Nat.le_trans HM5.out HH.out)))
  replace HB := Ja (HB.out.trans (hb.mono HB.out.size))
  replace HR := Ja (HR.out.next hb)
  replace HH := Ja (Nat.le_trans HH.out hb.size)
  replace HI : Hid (OwnS w15 hi (ZC S) (.slice b0 S.l.length d0) (.slice b1 S.T.length d1) (.slice b2 S.L.length d2) (.slice b3 S.C.length d3)) := Own4.next HI.out hb
  clear hb HA2 HIM HT
  obtain ⟨Y15, hY⟩ : ∃ Y, Y = w15.alloc (.cells #[.slice e0 S.l.length f0, .slice e1 S.T.length f1, .slice e2 S.L.length f2, .slice e3 S.C.length f3] 29) := ⟨_, rfl⟩
  have hb : Below w15.heap.size w15 Y15 := by rw [hY]; exact (Below.refl _ _).alloc (Nat.le_refl _) _
  have HRR : Hid (StAt Y15 S (.slice e0 S.l.length f0) (.slice e1 S.T.length f1) (.slice e2 S.L.length f2) (.slice e3 S.C.length f3)) := (show OwnS Y15 _ S _ _ _ _ from Own4.next hr hb).at
  have HZ5 : Hid (Row Y15 w15.heap.size #[.slice e0 S.l.length f0, .slice e1 S.T.length f1, .slice e2 S.L.length f2, .slice e3 S.C.length f3] 29) := by show Row _ _ _ _; rw [hY]; exact Jb _ _ _ rfl
  have HY : Hid (w15.alloc (.cells #[.slice e0 S.l.length f0, .slice e1 S.T.length f1, .slice e2 S.L.length f2, .slice e3 S.C.length f3] 29) = Y15) := hY.symm
  replace HL := Ja (HL.out.trans (hb.mono (Nat.le_trans HM5.out HH.out)))
  replace HB := Ja (HB.out.trans (hb.mono HB.out.size))
  replace HR := Ja (HR.out.next hb)
  replace HH := Ja (Nat.le_trans HH.out hb.size)
  replace HI : Hid (OwnS Y15 hi (ZC S) (.slice b0 S.l.length d0) (.slice b1 S.T.length d1) (.slice b2 S.L.length d2) (.slice b3 S.C.length d3)) := Own4.next HI.out hb
  clear hb hY hr
  obtain ⟨z0, z1, z2, z3⟩ := Row.four HZ5.out
  obtain ⟨y0, y1, y2, y3⟩ := Row.four (HSL.out _ HL.out).2
  rw [← HY.out] at z0 z1 z2 z3 y0 y1 y2 y3
  go_wp2_with fail
  rw [HY.out]
  clear HY z0 z1 z2 z3 y0 y1 y2 y3 HZ5
  refine (HEQ.out _ _ _ _ _ _ _ _ _ HRR.out (HSL.out _ HL.out).1).mono ?_
  rintro e w16 ⟨rfl, hb⟩
  replace HL := Ja (HL.out.trans (hb.mono (Nat.le_trans HM5.out HH.out)))
  replace HB := Ja (HB.out.trans (hb.mono HB.out.size))
  replace HR := Ja (HR.out.next hb)
  replace HH := Ja (Nat.le_trans HH.out hb.size)
  replace HI : Hid (OwnS w16 hi (ZC S) (.slice b0 S.l.length d0) (.slice b1 S.T.length d1) (.slice b2 S.L.length d2) (.slice b3 S.C.length d3)) := Own4.next HI.out hb
  clear hb HRR HEQ
  obtain ⟨x0, x1, x2, x3⟩ := Row.four HR.out
  go_wp2_with fail
  clear x0 x1 x2 x3
  refine (ZZ S hi _ _ _ _ w16 HLN.out HI.out).mono ?_
  rintro e w17 ⟨rfl, hb⟩
  replace HL := Ja (HL.out.trans (hb.mono (Nat.le_trans HM5.out HH.out)))
  replace HB := Ja (HB.out.trans (hb.mono HB.out.size))
  replace HR := Ja (HR.out.next hb)
  replace HH := Ja (Nat.le_trans HH.out hb.size)
  clear hb
  go_wp2
  go_ret
  exact ⟨rfl, HB.out⟩
end Go.Proofs.YtepfinenocpneaaGreat
