/- Acts that wait: rows of acts of one's own; what is read of a. -/
import Derived.Test.YtepfinenocpneaaGreatQ39
set_option maxHeartbeats 16000000
namespace Go.Proofs.YtepfinenocpneaaGreat
open Value (int)
open IntKind (i64)
set_option maxRecDepth 100000
set_option linter.unusedVariables false
open Go.RowKit
def acv (p : Ac × Value) : List Value := [int i64 p.1.r, int i64 p.1.s, int i64 p.1.t, p.2, int i64 p.1.k, .string p.1.o, .string p.1.y, int i64 p.1.v, int i64 p.1.x, int i64 p.1.z]
def JJ (X : List (Ac × Value)) : List Value := (X.map acv).flatten
theorem ZR (X : List (Ac × Value)) : GR 10 (X.map acv) := by intro r h; obtain ⟨a, -, rfl⟩ := List.mem_map.1 h; rfl
theorem Yy (X : List (Ac × Value)) (p : Ac × Value) : JJ (X ++ [p]) = JJ X ++ acv p := by simp [JJ]
def Kp (Z q : Nat) (w w' : World) : Prop := ∀ j, j < Z → j ≠ q → w'.heap[j]? = w.heap[j]?
theorem Kp.trans {Z q : Nat} {w w' w'' : World} (h : Kp Z q w w') (k : Kp Z q w' w'') : Kp Z q w w'' := fun j h1 h2 => (k j h1 h2).trans (h j h1 h2)
theorem Kp.below {Z q B : Nat} {w w' : World} (h : Below B w w') (hZ : Z ≤ B) : Kp Z q w w' := fun j h1 _ => h.block j (by omega)
theorem Kp.set {Z q b i : Nat} {w : World} {x : Value} (h : b = q ∨ Z ≤ b) : Kp Z q w (w.setCell ⟨b, i, none⟩ x) := fun j h1 h2 => Below.heap_setCell w _ _ j (fun e => by
 have e' : j = b := e
 rcases h with h | h <;> omega)
theorem Kp.set4 {Z q b i0 i1 i2 i3 : Nat} {w : World} {x0 x1 x2 x3 : Value} (h : b = q ∨ Z ≤ b) : Kp Z q w ((((w.setCell ⟨b, i0, none⟩ x0).setCell ⟨b, i1, none⟩ x1).setCell ⟨b, i2, none⟩ x2).setCell ⟨b, i3, none⟩ x3) := (((Kp.set h).trans (Kp.set h)).trans (Kp.set h)).trans (Kp.set h)
theorem Kp.grown {Z q : Nat} {r : Option Nat} {w w' : World} (h : w.grownBy w' r) (hr : ∀ b, r = some b → Z ≤ b) (hZ : Z ≤ w.heap.size) : Kp Z q w w' := fun j h1 _ => h.block j (by omega) (fun e => by have := hr j e.symm; omega)
def AcsW (w0 w : World) (Z q : Nat) (la : Option Addr) (M : List Ac) : Prop := 0 < M.length → ∃ g off, la = some ⟨g, off, none⟩ ∧ g < Z ∧ g ≠ q ∧ ∀ j (h : j < M.length), ∃ u, acC w g (off + j * 10) M[j] u ∧ IntsAt w0 u M[j].l
theorem J3 {w w' : World} {g k : Nat} (h : w'.heap[g]? = w.heap[g]?) : w'.cell? ⟨g, k, none⟩ = w.cell? ⟨g, k, none⟩ := by
 unfold World.cell?
 simp only [h]
theorem acC.heap {w w' : World} {g k : Nat} {A : Ac} {u : Value} (h : acC w g k A u) (e : w'.heap[g]? = w.heap[g]?) : acC w' g k A u := by
 obtain ⟨h0, h1, h2, h3, h4, h5, h6, h7, h8, h9⟩ := h
 exact ⟨(J3 e).trans h0, (J3 e).trans h1, (J3 e).trans h2, (J3 e).trans h3, (J3 e).trans h4, (J3 e).trans h5, (J3 e).trans h6, (J3 e).trans h7, (J3 e).trans h8, (J3 e).trans h9⟩
theorem AcsW.keep {w0 w w' : World} {Z q : Nat} {la : Option Addr} {M : List Ac} (h : AcsW w0 w Z q la M) (k : Kp Z q w w') : AcsW w0 w' Z q la M := fun h0 => by
 obtain ⟨g, off, e, h1, h2, h3⟩ := h h0
 exact ⟨g, off, e, h1, h2, fun j hj => by obtain ⟨u, hu, hi⟩ := h3 j hj; exact ⟨u, hu.heap (k g h1 h2), hi⟩⟩
theorem AcsW.start {w0 w : World} {Z q : Nat} {la : Option Addr} {M : List Ac} (h : AcsG w0 la M) (hb : Below w0.heap.size w0 w) (hZ : w0.heap.size ≤ Z) (hq : w0.heap.size ≤ q) : AcsW w0 w Z q la M := fun h0 => by
 obtain ⟨g, off, e, h1, h2⟩ := h h0
 exact ⟨g, off, e, by omega, by omega, fun j hj => by obtain ⟨u, hu, hi⟩ := h2 j hj; exact ⟨u, hu.below hb h1, hi⟩⟩
theorem AcsW.own {w0 w : World} {B Z q lc n : Nat} {la : Option Addr} {X : List (Ac × Value)} (h : w.ownsRow B 44 10 (.slice la n lc) n (JJ X)) (hn : X.length = n) (hq : q < B) (hZ : w.heap.size ≤ Z) (hX : ∀ p ∈ X, IntsAt w0 p.2 p.1.l) : AcsW w0 w Z q la (X.map Prod.fst) := fun h0 => by
 have hn0 : 0 < n := by rw [List.length_map] at h0; omega
 rcases h.2 with ⟨e, -⟩ | ⟨g, cap, cur, e, hB, hg, -⟩
 ·injection e with _ e; omega
 ·injection e with e1 e2 e3
  subst e1
  have hlt : g < w.heap.size := by
   rcases Array.getElem?_eq_some_iff.1 hg with ⟨hlt, -⟩
   exact hlt
  refine ⟨g, 0, rfl, by omega, by omega, fun j hj => ?_⟩
  rw [List.length_map] at hj
  refine ⟨(X[j]).2, ?_, ?_⟩
  ·have hc : ∀ i, i < 10 → ∀ u, (acv X[j])[i]? = some u → w.cell? ⟨g, 0 + j * 10 + i, none⟩ = some u := fun i hi u hu => by
    have h1 := ZB (ZR X) j (by simpa using hj) i hi
    have h2 := World.ownsRow.cells h (g := g) rfl (j * 10 + i) u (by unfold JJ; rw [h1]; simpa using hu)
    rw [Jw] at h2
    rw [Nat.zero_add]
    exact h2
   have e : (X.map Prod.fst)[j]'(by simpa using hj) = (X[j]).1 := by simp
   rw [e]
   exact ⟨hc 0 (by omega) _ rfl, hc 1 (by omega) _ rfl, hc 2 (by omega) _ rfl, hc 3 (by omega) _ rfl, hc 4 (by omega) _ rfl, hc 5 (by omega) _ rfl, hc 6 (by omega) _ rfl, hc 7 (by omega) _ rfl, hc 8 (by omega) _ rfl, hc 9 (by omega) _ rfl⟩
  ·have e : (X.map Prod.fst)[j]'(by simpa using hj) = (X[j]).1 := by simp
   rw [e]
   exact hX _ (List.getElem_mem _)
theorem ZD {w : World} {B B' n s m : Nat} {e : TypeId} {v v' : Value} {xs ys : List Value} (h : w.ownsRow B e s v n xs) (h' : w.ownsRow B' 44 10 v' m ys) (he : e ≠ 44) : ∀ k, v.ownBlock = some k → v'.ownBlock ≠ some k := by
 intro k hk hk'
 rcases h.2 with ⟨rfl, -⟩ | ⟨g, cap, cur, rfl, -, hg, -⟩
 ·cases hk
 rcases h'.2 with ⟨rfl, -⟩ | ⟨g', cap', cur', rfl, -, hg', -⟩
 ·cases hk'
 injection hk with hk
 injection hk' with hk'
 subst hk
 subst hk'
 rw [hg] at hg'
 simp only [Option.some.injEq, Obj.cells.injEq] at hg'
 exact he hg'.2.1
theorem OwnS.grownA {w w' : World} {B B' m : Nat} {S : Sta} {v0 v1 v2 v3 v' : Value} {ys : List Value} (h : OwnS w B S v0 v1 v2 v3) (h' : w.ownsRow B' 44 10 v' m ys) (hg : w.grownBy w' v'.ownBlock) : OwnS w' B S v0 v1 v2 v3 :=
 h.keepN (fun j hl hj => hg.block j hl (fun e => by
  rcases hj with hj | hj | hj | hj
  ·exact ZD h.1.1 h' (by show (3 : Nat) ≠ 44; decide) j hj e.symm
  ·exact ZD h.1.2.1 h' (by show (86 : Nat) ≠ 44; decide) j hj e.symm
  ·exact ZD h.1.2.2.1 h' (by show (88 : Nat) ≠ 44; decide) j hj e.symm
  ·exact ZD h.1.2.2.2 h' (by show (90 : Nat) ≠ 44; decide) j hj e.symm))
theorem Z6 {w : World} {B g n : Nat} {v : Value} {xs : List Value} {cs : Array Value} (h : w.ownsRow B 44 10 v n xs) (hr : Row w g cs 29) : v.ownBlock ≠ some g := fun e => Kj h hr (by show (44 : Nat) ≠ 29; decide) g e rfl
theorem JdZ {w : World} {B g i0 i1 i2 i3 n : Nat} {x0 x1 x2 x3 v : Value} {xs : List Value} (h : w.ownsRow B 44 10 v n xs) (ho : v.ownBlock ≠ some g) : ((((w.setCell ⟨g, i0, none⟩ x0).setCell ⟨g, i1, none⟩ x1).setCell ⟨g, i2, none⟩ x2).setCell ⟨g, i3, none⟩ x3).ownsRow B 44 10 v n xs :=
 ownsRow_setCell_other (ownsRow_setCell_other (ownsRow_setCell_other (ownsRow_setCell_other h ho x0) ho x1) ho x2) ho x3
theorem Jbk (A : Ac) (u : Value) (hu : u.oneCell' = true) : ∀ x ∈ acv (A, u), x.oneCell' = true := by
 intro x hx
 simp only [acv, List.mem_cons, List.not_mem_nil, or_false] at hx
 rcases hx with rfl | rfl | rfl | rfl | rfl | rfl | rfl | rfl | rfl | rfl <;> first | rfl | exact hu
theorem Jbl : (Tryz.prog.info? 44).map (fun i => (i.zero, i.size, i.bytes)) = some (some (.agg #[int i64 0, int i64 0, int i64 0, .slice none 0 0, int i64 0, .string ⟨#[]⟩, .string ⟨#[]⟩, int i64 0, int i64 0, int i64 0]), 10, 112) := by kernel_rfl
theorem Gq (L : List Ac) (v : Value) (w : World) (hn : L.length ≤ 1048576) (hal : U0 L) (h : AcsAt w v L) :
  Calls Tryz.prog 8 #[v] w fun e w' => ∃ v0 v1 v2 v3, e = .returned (.tuple #[.agg #[v0, v1, v2, v3], int i64 (J2 L).2]) ∧ OwnS w' w.heap.size (J2 L).1 v0 v1 v2 v3 ∧ SOk (J2 L).1 ∧ (J2 L).2 ≤ L.length ∧ Below w.heap.size w w' := by
 obtain ⟨aa, ca, rfl, hga⟩ := h
 have HG0 := Ja hga
 have HAL := Ja hal
 obtain ⟨N, hN⟩ : ∃ N, N = L.length := ⟨_, rfl⟩
 obtain ⟨FIN, hFIN⟩ : ∃ FIN, FIN = J2 L := ⟨_, rfl⟩
 have HNN : Hid (N = L.length) := hN
 have HFI : Hid (unk nSt L < L.length + 1 ∧ FIN = Ud (L.length + 1) L nSt 0) := ⟨by have := Uq nSt L; omega, hFIN⟩
 obtain ⟨W, hW⟩ : ∃ W, W = w.alloc (.cells #[.slice none 0 0, .slice none 0 0, .slice none 0 0, .slice none 0 0] 29) := ⟨_, rfl⟩
 have HBW : Hid (Below w.heap.size w W) := by rw [hW]; exact (Below.refl _ _).alloc (Nat.le_refl _) _
 have HR2 : Hid (Row W w.heap.size #[.slice none 0 0, .slice none 0 0, .slice none 0 0, .slice none 0 0] 29) := by show Row _ _ _ _; rw [hW]; exact Jb w _ _ rfl
 have HWS : Hid (W.heap.size = w.heap.size + 1) := by show _ = _; rw [hW]; simp
 have HWW : Hid (w.alloc (.cells #[.slice none 0 0, .slice none 0 0, .slice none 0 0, .slice none 0 0] 29) = W) := hW.symm
 rw [← hFIN, ← hN]
 rw [← hN] at hn
 clear hW hN hFIN hga hal
 go_enter Tryz.func8, Tryz.ntmps8
 go_wp2_with fail
 rw [HWW.out]
 clear HWW
 refine (UH W).mono ?_
 rintro e w1 ⟨ba, bc, rfl, hr, hb⟩
 have HB1 := Ja (HBW.out.trans (hb.mono HBW.out.size))
 have HP2 := Ja (HR2.out.next hb)
 have HS1 := Ja hb.size
 have HO1 := Ja (Jae (hr.1))
 clear hr hb HR2
 obtain ⟨V, hV⟩ : ∃ V, V = w1.alloc (.cells #[.slice ba 3 bc, .slice none 0 0, .slice none 0 0, .slice none 0 0] 29) := ⟨_, rfl⟩
 have HVV : Hid (w1.alloc (.cells #[.slice ba 3 bc, .slice none 0 0, .slice none 0 0, .slice none 0 0] 29) = V) := hV.symm
 have HQV : Hid (Row V w1.heap.size #[.slice ba 3 bc, .slice none 0 0, .slice none 0 0, .slice none 0 0] 29) := by show Row _ _ _ _; rw [hV]; exact Jb _ _ _ rfl
 have HPV : Hid (Row V w.heap.size #[.slice none 0 0, .slice none 0 0, .slice none 0 0, .slice none 0 0] 29) := by show Row _ _ _ _; rw [hV]; exact HP2.out.alloc _
 have HBV : Hid (Below w.heap.size w V) := by show Below _ _ _; rw [hV]; exact HB1.out.alloc HB1.out.size _
 have HOV : Hid (OwnS V w.heap.size nSt (.slice ba 3 bc) (.slice none 0 0) (.slice none 0 0) (.slice none 0 0)) := by show OwnS _ _ _ _ _ _ _; rw [hV]; exact Own4.base (Own4.next HO1.out ((Below.refl _ _).alloc (Nat.le_refl _) _)) HBW.out.size
 have hne : w.heap.size < w1.heap.size := by have h1 := HWS.out; have h2 := HS1.out; omega
 clear hV HP2 HO1 HB1 HS1
 have HNE : Hid (w.heap.size < w1.heap.size) := hne
 clear hne
 go_wp2
 rw [HVV.out]
 clear HVV
 generalize w1.heap.size = q4 at *
 go_loopw [0, 5, 6] (fun lv x z wr => ∃ (S : Sta) (nn : Nat) (bb : Bool) (f : Nat) (M : List Ac) (la : Option Addr) (lc : Nat) (b0 b1 b2 b3 : Option Addr) (d0 d1 d2 d3 : Nat), lv = .slice la M.length lc ∧ AcsW w wr wr.heap.size q4 la M ∧ Drp S L M ∧ x = int i64 nn ∧ z = .bool bb ∧ SOk S ∧ Row wr q4 #[.slice b0 S.l.length d0, .slice b1 S.T.length d1, .slice b2 S.L.length d2, .slice b3 S.C.length d3] 29 ∧ Row wr w.heap.size #[.slice none 0 0, .slice none 0 0, .slice none 0 0, .slice none 0 0] 29 ∧ OwnS wr w.heap.size S (.slice b0 S.l.length d0) (.slice b1 S.T.length d1) (.slice b2 S.L.length d2) (.slice b3 S.C.length d3) ∧ nn + unk S L ≤ N ∧ (bb = true → unk S L < f ∧ FIN = Ud f L S nn) ∧ (bb = false → FIN = (S, nn)) ∧ Below w.heap.size w wr) (fun _ x z _ => 2 * (N - (intOf x).toNat) + Jbw z)
 case atStart => exact ⟨nSt, 0, true, L.length + 1, L, aa, ca, ba, none, none, none, bc, 0, 0, 0, by rw [HNN.out], AcsW.start HG0.out HBV.out HBV.out.size (Nat.le_of_lt HNE.out), Drp.refl _ _, rfl, rfl, Jdt, HQV.out, HPV.out, HOV.out, by have h1 := Uq nSt L; have h2 := HNN.out; omega, fun _ => HFI.out, (fun e => by cases e), HBV.out⟩
 case round =>
  clear HQV HPV HOV HBV HFI HG0
  obtain ⟨S, nn, bb, f, M, la, lc, b0, b1, b2, b3, d0, d1, d2, d3, rfl, hM, hD, rfl, rfl, hS, hq, hp, hO, hu, ht, hf, hbel⟩ := hrel
  have HM := Ja hM
  have HD := Ja hD
  have HS := Ja hS
  have HQ := Ja hq
  have HP := Ja hp
  have HO := Ja hO
  have HT := Ja ht
  have HF := Ja hf
  have HBE := Ja hbel
  clear hS hq hp hO ht hf hbel hM hD
  cases bb with
  | false =>
   have HE := Ja (HF.out rfl)
   obtain ⟨e0, e1, e2, e3⟩ := Row.four HQ.out
   obtain ⟨z0, z1, z2, z3⟩ := Row.four HP.out
   have k0 := HP.out.free 0
   have k1 := HP.out.free 1
   have k2 := HP.out.free 2
   have k3 := HP.out.free 3
   have HZY := Ja (ZK (x0 := .slice b0 S.l.length d0) (x1 := .slice b1 S.T.length d1) (x2 := .slice b2 S.L.length d2) (x3 := .slice b3 S.C.length d3) HP.out)
   have HOF := Ja (OwnS.put4 (i0 := 0) (i1 := 1) (i2 := 2) (i3 := 3) (x0 := .slice b0 S.l.length d0) (x1 := .slice b1 S.T.length d1) (x2 := .slice b2 S.L.length d2) (x3 := .slice b3 S.C.length d3) HO.out (OwnS.offRow HO.out HP.out))
   have HBF := Ja (JS (i0 := 0) (i1 := 1) (i2 := 2) (i3 := 3) (x0 := .slice b0 S.l.length d0) (x1 := .slice b1 S.T.length d1) (x2 := .slice b2 S.L.length d2) (x3 := .slice b3 S.C.length d3) HBE.out (Nat.le_refl w.heap.size))
   clear HT HF HO HQ HP HBE
   go_wp2
   exact bodyPost_ret (JC rfl rfl rfl rfl HZY.out) rfl ⟨_, _, _, _, by rw [HE.out]; rfl, by rw [HE.out]; exact HOF.out, by rw [HE.out]; exact HS.out, by rw [HE.out]; show nn ≤ _; omega, HBF.out⟩
  | true =>
   have HR := Ja (HT.out rfl)
   clear HT HF
   obtain ⟨P0, hP0⟩ : ∃ P0 : Pas, P0 = ⟨S, nn, false⟩ := ⟨_, rfl⟩
   have HP0 := Ja hP0
   have HLN : Hid (M.length ≤ N ∧ ∀ A ∈ M, A ∈ L) := ⟨by rw [HNN.out]; exact HD.out.sub, HD.out.mem⟩
   obtain ⟨V1, hV1⟩ : ∃ V1, V1 = wr.alloc (.cells #[] 44) := ⟨_, rfl⟩
   have HVV1 : Hid (wr.alloc (.cells #[] 44) = V1) := hV1.symm
   have HEW : Hid (V1.ownsRow wr.heap.size 44 10 (.slice (some ⟨wr.heap.size, 0, none⟩) 0 0) 0 []) := by show World.ownsRow _ _ _ _ _ _ _; rw [hV1]; exact World.ownsRow_made wr #[] 0 (Nat.le_refl _) (by unfold maxLen; omega) rfl
   have hb1 : Below wr.heap.size wr V1 := by rw [hV1]; exact (Below.refl _ _).alloc (Nat.le_refl _) _
   have HQ4 : Hid (q4 < wr.heap.size) := HQ.out.lt
   have HZS : Hid (wr.heap.size ≤ V1.heap.size) := hb1.size
   replace HQ := Ja (HQ.out.next hb1)
   replace HP := Ja (HP.out.next hb1)
   replace HO : Hid (OwnS V1 w.heap.size S (.slice b0 S.l.length d0) (.slice b1 S.T.length d1) (.slice b2 S.L.length d2) (.slice b3 S.C.length d3)) := Own4.next HO.out hb1
   replace HM : Hid (AcsW w V1 wr.heap.size q4 la M) := HM.out.keep (Kp.below hb1 (Nat.le_refl _))
   have HZW : Hid (w.heap.size ≤ wr.heap.size) := HBE.out.size
   replace HBE := Ja (HBE.out.trans (hb1.mono HBE.out.size))
   clear hV1 hb1
   go_wp2
   rw [HVV1.out]
   clear HVV1
   generalize wr.heap.size = Z at *
   go_loopw [5, 6, 7, 16] (fun x z wv y wr => ∃ (i : Nat) (p : Pas) (X : List (Ac × Value)) (b0 b1 b2 b3 : Option Addr) (d0 d1 d2 d3 : Nat), i ≤ M.length ∧ y = int i64 i ∧ x = int i64 p.n ∧ z = .bool p.b ∧ p = (M.take i).foldl Jp P0 ∧ Row wr q4 #[.slice b0 p.S.l.length d0, .slice b1 p.S.T.length d1, .slice b2 p.S.L.length d2, .slice b3 p.S.C.length d3] 29 ∧ Row wr w.heap.size #[.slice none 0 0, .slice none 0 0, .slice none 0 0, .slice none 0 0] 29 ∧ OwnS wr w.heap.size p.S (.slice b0 p.S.l.length d0) (.slice b1 p.S.T.length d1) (.slice b2 p.S.L.length d2) (.slice b3 p.S.C.length d3) ∧ wr.ownsRow Z 44 10 wv X.length (JJ X) ∧ (∀ a ∈ X, IntsAt w a.2 a.1.l) ∧ Drp p.S (M.take i) (X.map Prod.fst) ∧ AcsW w wr Z q4 la M ∧ Z ≤ wr.heap.size ∧ Below w.heap.size w wr) (fun _ _ _ y _ => M.length - (intOf y).toNat)
   case atStart => exact ⟨0, P0, [], b0, b1, b2, b3, d0, d1, d2, d3, Nat.zero_le _, rfl, by rw [HP0.out], by rw [HP0.out], rfl, by rw [HP0.out]; exact HQ.out, HP.out, by rw [HP0.out]; exact HO.out, HEW.out, (fun a h => by cases h), Drp.refl _ _, HM.out, HZS.out, HBE.out⟩
   case round =>
    clear HQ HP HO HBE HEW HM HZS
    obtain ⟨i, p, X, b0, b1, b2, b3, d0, d1, d2, d3, hi, rfl, rfl, rfl, hpf, hq, hp, hO, hw, hX, hdr, hM, hZ, hbel⟩ := hrel
    have HPF := Ja hpf
    have HQ := Ja hq
    have HP := Ja hp
    have HO := Ja hO
    have HW := Ja hw
    have HX := Ja hX
    have HDR := Ja hdr
    have HM := Ja hM
    have HZ := Ja hZ
    have HBE := Ja hbel
    have hsz := hbel.size
    have hfo := YO L (M.take i) P0 (fun A hA => HLN.out.2 A (List.mem_of_mem_take hA)) (by rw [hP0]; exact HS.out)
    rw [← hpf] at hfo
    have HFO := Ja hfo
    have hp0n : P0.n = nn := by rw [hP0]
    have hp0S : P0.S = S := by rw [hP0]
    have hpn : p.n ≤ N := by have h1 := hfo.2.1; rw [hp0n, hp0S] at h1; omega
    have hML := HLN.out.1
    have hXl : X.length ≤ i := by have h1 := hdr.sub; rw [List.length_map, List.length_take] at h1; omega
    clear hpf hq hp hO hbel hfo hp0n hp0S hw hX hdr hM hZ
    by_cases hlt : i < M.length
    case neg =>
     have hiN : M.take i = M := List.take_of_length_le (by omega)
     have hk1 : ¬ ((i : Int) < M.length) := by omega
     have HFL : Hid (p = L.foldl Jp ⟨S, nn, false⟩) := by have h1 := HPF.out; rw [hiN, HP0.out] at h1; rw [Drp.fold (p := ⟨S, nn, false⟩) HD.out]; exact h1
     have HRN : Hid ((p.b = true → unk p.S L < f - 1 ∧ FIN = Ud (f - 1) L p.S p.n) ∧ (p.b = false → FIN = (p.S, p.n))) := by
      obtain ⟨h1, h2⟩ := HR.out
      obtain ⟨f', rfl⟩ : ∃ f', f = f' + 1 := ⟨f - 1, by omega⟩
      have e : FIN = if p.b = true then Ud f' L p.S p.n else (p.S, p.n) := by rw [h2, Ud, ← HFL.out]
      have hn2 : p.b = true → nn < p.n := fun hb => by
       rcases HFO.out.2.2.2.1 hb with h | h
       ·rw [HP0.out] at h; cases h
       ·rw [HP0.out] at h; exact h
      have hu2 : p.n + unk p.S L ≤ nn + unk S L := by have h3 := HFO.out.2.1; rw [HP0.out] at h3; exact h3
      refine ⟨fun hb => ⟨?_, ?_⟩, fun hb => ?_⟩
      ·have := hn2 hb; show _ < f'; omega
      ·rw [e, if_pos hb]; rfl
      ·rw [e, if_neg (by rw [hb]; decide)]
     have HUU : Hid (p.n + unk p.S L ≤ N) := by show _ ≤ _; have h3 := HFO.out.2.1; rw [HP0.out] at h3; exact Nat.le_trans h3 hu
     have HME : Hid (2 * (N - p.n) + Jbw (.bool p.b) < 2 * (N - nn) + 1) := by
      show _ < _
      have h3 := HFO.out.2.2.1
      rw [HP0.out] at h3
      have h3' : nn ≤ p.n := h3
      cases hb : p.b with
      | true =>
       rcases HFO.out.2.2.2.1 hb with h | h
       ·rw [HP0.out] at h; cases h
       ·rw [HP0.out] at h
        have h4 : nn < p.n := h
        show 2 * (N - p.n) + 1 < _
        omega
      | false => show 2 * (N - p.n) + 0 < _; omega
     have HSP := Ja HFO.out.1
     have HDN : Hid (Drp p.S L (X.map Prod.fst)) := by
      have h1 := HDR.out
      rw [hiN] at h1
      have h2 := Drp.foldS M P0 (L := L) (M := M) (by rw [HP0.out]; exact HD.out)
      have h3 := HPF.out
      rw [hiN] at h3
      rw [← h3] at h2
      exact h2.trans h1
     obtain ⟨xa, xc, hxe⟩ := JN HW.out
     subst hxe
     have HMN : Hid (AcsW w wr wr.heap.size q4 xa (X.map Prod.fst)) := AcsW.own HW.out rfl HQ4.out (Nat.le_refl _) HX.out
     clear HFO HPF HR hP0 HP0 HDR HX HM HW HLN
     go_wp2
     go_roundw
     case rel => exact ⟨p.S, p.n, p.b, f - 1, X.map Prod.fst, xa, xc, b0, b1, b2, b3, d0, d1, d2, d3, by rw [List.length_map], HMN.out, HDN.out, rfl, rfl, HSP.out, HQ.out, HP.out, HO.out, HUU.out, HRN.out.1, HRN.out.2, HBE.out⟩
     case measure => exact HME.out
    case pos =>
     have hk1 : ((i : Int) < M.length) := by omega
     obtain ⟨ga, off, rfl, hgl, hgq, hAc⟩ := HM.out (Nat.lt_of_le_of_lt (Nat.zero_le _) hlt)
     obtain ⟨u, hc, hu0⟩ := hAc i hlt
     obtain ⟨A, hA⟩ : ∃ A, A = M[i] := ⟨_, rfl⟩
     rw [← hA] at hc hu0
     obtain ⟨au, cu, rfl, -⟩ := id hu0
     have HU := Ja hu0
     have HLM := Ja (HAL.out A (HLN.out.2 A (by rw [hA]; exact List.getElem_mem _)))
     have HSTEP : Hid ((M.take (i + 1)).foldl Jp P0 = Jp p A) := by show _ = _; rw [VT M i hlt, ← HPF.out, hA]
     have HTK : Hid (M.take (i + 1) = M.take i ++ [A]) := by show _ = _; rw [List.take_succ_eq_append_getElem hlt, hA]
     have HSP := Ja HFO.out.1
     clear hu0 hAc hA HPF HFO
     unfold acC at hc
     obtain ⟨c0, c1, c2, c3, c4, c5, c6, c7, c8, c9⟩ := hc

     have hYB : Below wr.heap.size wr (wr.alloc (.cells #[int i64 A.r, int i64 A.s, int i64 A.t, .slice au A.l.length cu, int i64 A.k, .string A.o, .string A.y, int i64 A.v, int i64 A.x, int i64 A.z] 44)) := (Below.refl _ _).alloc (Nat.le_refl _) _
     have HY9 : Hid (Row (wr.alloc (.cells #[int i64 A.r, int i64 A.s, int i64 A.t, .slice au A.l.length cu, int i64 A.k, .string A.o, .string A.y, int i64 A.v, int i64 A.x, int i64 A.z] 44)) wr.heap.size #[int i64 A.r, int i64 A.s, int i64 A.t, .slice au A.l.length cu, int i64 A.k, .string A.o, .string A.y, int i64 A.v, int i64 A.x, int i64 A.z] 44) := Jb _ _ _ rfl
     have HNQ : Hid (wr.heap.size ≠ q4) := by have := HQ.out.lt; show _ ≠ _; omega
     replace HQ := Ja (HQ.out.next hYB)
     replace HP := Ja (HP.out.next hYB)
     replace HO : Hid (OwnS (wr.alloc (.cells #[int i64 A.r, int i64 A.s, int i64 A.t, .slice au A.l.length cu, int i64 A.k, .string A.o, .string A.y, int i64 A.v, int i64 A.x, int i64 A.z] 44)) w.heap.size p.S (.slice b0 p.S.l.length d0) (.slice b1 p.S.T.length d1) (.slice b2 p.S.L.length d2) (.slice b3 p.S.C.length d3)) := Own4.next HO.out hYB
     replace HW := Ja (Jh HW.out hYB)
     replace HM := Ja (HM.out.keep (Kp.below hYB HZ.out))
     have HZ2 := Ja (Nat.le_trans HZ.out hYB.size)
     have HB2 := Ja (HBE.out.trans (hYB.mono HBE.out.size))
     have HAF : Hid (Calls Tryz.prog 26 #[.agg #[.slice b0 p.S.l.length d0, .slice b1 p.S.T.length d1, .slice b2 p.S.L.length d2, .slice b3 p.S.C.length d3], .agg #[int i64 A.r, int i64 A.s, int i64 A.t, .slice au A.l.length cu, int i64 A.k, .string A.o, .string A.y, int i64 A.v, int i64 A.x, int i64 A.z]] (wr.alloc (.cells #[int i64 A.r, int i64 A.s, int i64 A.t, .slice au A.l.length cu, int i64 A.k, .string A.o, .string A.y, int i64 A.v, int i64 A.x, int i64 A.z] 44)) fun e w' => ∃ v0 v1 v2 v3, e = .returned (.tuple #[.agg #[v0, v1, v2, v3], int i64 (Jm p.S A)]) ∧ OwnS w' w.heap.size (Jc p.S A) v0 v1 v2 v3 ∧ Below (wr.alloc (.cells #[int i64 A.r, int i64 A.s, int i64 A.t, .slice au A.l.length cu, int i64 A.k, .string A.o, .string A.y, int i64 A.v, int i64 A.x, int i64 A.z] 44)).heap.size (wr.alloc (.cells #[int i64 A.r, int i64 A.s, int i64 A.t, .slice au A.l.length cu, int i64 A.k, .string A.o, .string A.y, int i64 A.v, int i64 A.x, int i64 A.z] 44)) w') := Jaz p.S _ _ _ _ _ _ _ _ A au cu (wr.alloc (.cells #[int i64 A.r, int i64 A.s, int i64 A.t, .slice au A.l.length cu, int i64 A.k, .string A.o, .string A.y, int i64 A.v, int i64 A.x, int i64 A.z] 44)) w.heap.size HSP.out HO.out HB2.out.size (HU.out.below HB2.out) HLM.out
     obtain ⟨m0, m1, m2, m3, m4, m5, m6, m7, m8, m9⟩ := Row.ten HY9.out
     obtain ⟨e0, e1, e2, e3⟩ := Row.four HQ.out
     clear HBE hYB HZ HO
     go_wp2_with fail
     refine HAF.out.mono ?_
     rintro e wz ⟨v0, v1, v2, v3, rfl, hod, hbz⟩
     obtain ⟨b4, d4, b5, d5, b6, d6, b7, d7, rfl, rfl, rfl, rfl⟩ := hod.at.shape
     have HOD := Ja hod
     replace HQ := Ja (HQ.out.next hbz)
     replace HP := Ja (HP.out.next hbz)
     replace HY9 := Ja (HY9.out.next hbz)
     replace HW := Ja (Jh HW.out hbz)
     replace HM := Ja (HM.out.keep (Kp.below hbz HZ2.out))
     replace HZ2 := Ja (Nat.le_trans HZ2.out hbz.size)
     replace HB2 := Ja (HB2.out.trans (hbz.mono HB2.out.size))
     clear HAF hod hbz m0 m1 m2 m3 m4 m5 m6 m7 m8 m9 e0 e1 e2 e3
     generalize wr.heap.size = q9 at *
     have HWQ := Ja (Z6 HW.out HQ.out)
     have HWP := Ja (Z6 HW.out HP.out)
     obtain ⟨e0, e1, e2, e3⟩ := Row.four HQ.out
     have k0 := HQ.out.free 0
     have k1 := HQ.out.free 1
     have k2 := HQ.out.free 2
     have k3 := HQ.out.free 3
     have HQ3 : Hid (Row ((((wz.setCell ⟨q4, 0, none⟩ (.slice b4 (Jc p.S A).l.length d4)).setCell ⟨q4, 1, none⟩ (.slice b5 (Jc p.S A).T.length d5)).setCell ⟨q4, 2, none⟩ (.slice b6 (Jc p.S A).L.length d6)).setCell ⟨q4, 3, none⟩ (.slice b7 (Jc p.S A).C.length d7)) q4 #[.slice b4 (Jc p.S A).l.length d4, .slice b5 (Jc p.S A).T.length d5, .slice b6 (Jc p.S A).L.length d6, .slice b7 (Jc p.S A).C.length d7] 29) := ZK HQ.out
     have HP3 : Hid (Row ((((wz.setCell ⟨q4, 0, none⟩ (.slice b4 (Jc p.S A).l.length d4)).setCell ⟨q4, 1, none⟩ (.slice b5 (Jc p.S A).T.length d5)).setCell ⟨q4, 2, none⟩ (.slice b6 (Jc p.S A).L.length d6)).setCell ⟨q4, 3, none⟩ (.slice b7 (Jc p.S A).C.length d7)) w.heap.size #[.slice none 0 0, .slice none 0 0, .slice none 0 0, .slice none 0 0] 29) := Ju (Ju (Ju (Ju HP.out (Nat.ne_of_lt HNE.out)) (Nat.ne_of_lt HNE.out)) (Nat.ne_of_lt HNE.out)) (Nat.ne_of_lt HNE.out)
     have HY3 : Hid (Row ((((wz.setCell ⟨q4, 0, none⟩ (.slice b4 (Jc p.S A).l.length d4)).setCell ⟨q4, 1, none⟩ (.slice b5 (Jc p.S A).T.length d5)).setCell ⟨q4, 2, none⟩ (.slice b6 (Jc p.S A).L.length d6)).setCell ⟨q4, 3, none⟩ (.slice b7 (Jc p.S A).C.length d7)) q9 #[int i64 A.r, int i64 A.s, int i64 A.t, .slice au A.l.length cu, int i64 A.k, .string A.o, .string A.y, int i64 A.v, int i64 A.x, int i64 A.z] 44) := Ju (Ju (Ju (Ju HY9.out HNQ.out) HNQ.out) HNQ.out) HNQ.out
     have HO3 : Hid (OwnS ((((wz.setCell ⟨q4, 0, none⟩ (.slice b4 (Jc p.S A).l.length d4)).setCell ⟨q4, 1, none⟩ (.slice b5 (Jc p.S A).T.length d5)).setCell ⟨q4, 2, none⟩ (.slice b6 (Jc p.S A).L.length d6)).setCell ⟨q4, 3, none⟩ (.slice b7 (Jc p.S A).C.length d7)) w.heap.size (Jc p.S A) (.slice b4 (Jc p.S A).l.length d4) (.slice b5 (Jc p.S A).T.length d5) (.slice b6 (Jc p.S A).L.length d6) (.slice b7 (Jc p.S A).C.length d7)) := OwnS.put4 HOD.out (OwnS.offRow HOD.out HQ.out)
     have HW3 := Ja (JdZ (i0 := 0) (i1 := 1) (i2 := 2) (i3 := 3) (x0 := .slice b4 (Jc p.S A).l.length d4) (x1 := .slice b5 (Jc p.S A).T.length d5) (x2 := .slice b6 (Jc p.S A).L.length d6) (x3 := .slice b7 (Jc p.S A).C.length d7) HW.out HWQ.out)
     have HM3 := Ja (HM.out.keep (Kp.set4 (i0 := 0) (i1 := 1) (i2 := 2) (i3 := 3) (x0 := .slice b4 (Jc p.S A).l.length d4) (x1 := .slice b5 (Jc p.S A).T.length d5) (x2 := .slice b6 (Jc p.S A).L.length d6) (x3 := .slice b7 (Jc p.S A).C.length d7) (.inl rfl)))
     have HB3 : Hid (Below w.heap.size w ((((wz.setCell ⟨q4, 0, none⟩ (.slice b4 (Jc p.S A).l.length d4)).setCell ⟨q4, 1, none⟩ (.slice b5 (Jc p.S A).T.length d5)).setCell ⟨q4, 2, none⟩ (.slice b6 (Jc p.S A).L.length d6)).setCell ⟨q4, 3, none⟩ (.slice b7 (Jc p.S A).C.length d7))) := JS HB2.out (Nat.le_of_lt HNE.out)
     have HSZ : Hid (((((wz.setCell ⟨q4, 0, none⟩ (.slice b4 (Jc p.S A).l.length d4)).setCell ⟨q4, 1, none⟩ (.slice b5 (Jc p.S A).T.length d5)).setCell ⟨q4, 2, none⟩ (.slice b6 (Jc p.S A).L.length d6)).setCell ⟨q4, 3, none⟩ (.slice b7 (Jc p.S A).C.length d7)).heap.size = wz.heap.size) := by show _ = _; simp
     clear HQ HP HY9 HOD HW HM HB2 HWP
     obtain ⟨C, hC⟩ : ∃ C, C = Jm p.S A := ⟨_, rfl⟩
     have HC := Ja hC
     rw [← hC]
     clear hC
     by_cases h0 : C = 0
     case pos =>
      have bC : (C == 0) = true := by simp [h0]
      have HC0 : Hid (Jm p.S A = 0) := HC.out.symm.trans h0
      have HST : Hid (Jp p A = ⟨Jc p.S A, p.n + 1, true⟩) := by show _ = _; unfold Jp; rw [if_pos HC0.out, if_pos HC0.out]
      have HDN : Hid (Drp (Jp p A).S (M.take (i + 1)) (X.map Prod.fst)) := by have h1 := Drp.wait (A := A) HSP.out HDR.out; unfold Jap at h1; rw [HC0.out, if_neg (by decide)] at h1; rw [HTK.out]; exact h1
      have HZ3 : Hid (Z ≤ ((((wz.setCell ⟨q4, 0, none⟩ (.slice b4 (Jc p.S A).l.length d4)).setCell ⟨q4, 1, none⟩ (.slice b5 (Jc p.S A).T.length d5)).setCell ⟨q4, 2, none⟩ (.slice b6 (Jc p.S A).L.length d6)).setCell ⟨q4, 3, none⟩ (.slice b7 (Jc p.S A).C.length d7)).heap.size) := by show _ ≤ _; rw [HSZ.out]; exact HZ2.out
      clear h0 HC HC0 HY3 HSZ HWQ HNQ HDR HTK HU HLM HZ2
      go_wp2
      go_roundw
      case rel => exact ⟨i + 1, Jp p A, X, b4, b5, b6, b7, d4, d5, d6, d7, by omega, by go_num, by rw [HST.out]; go_num, by rw [HST.out], HSTEP.out.symm, by rw [HST.out]; exact HQ3.out, HP3.out, by rw [HST.out]; exact HO3.out, HW3.out, HX.out, HDN.out, HM3.out, HZ3.out, HB3.out⟩
      case measure => simp [intOf]; omega
     case neg =>
      have bC : (C == 0) = false := by simp [h0]
      have HCN : Hid (¬ Jm p.S A = 0) := fun h => h0 (HC.out.trans h)
      have HST : Hid (Jp p A = ⟨Jc p.S A, p.n, p.b⟩) := by show _ = _; unfold Jp; rw [if_neg HCN.out, if_neg HCN.out]
      by_cases h24 : C = 2 ∨ C = 4
      case pos =>
       obtain ⟨i0, hi, hz0, hz1, hz2⟩ := info_parts Jbl
       have hZ2 := HZ2.out
       have hXl2 := hXl
       have hn2 := hn
       have hml2 := HLN.out.1
       have HSZ2 : Hid (((((wz.setCell ⟨q4, 0, none⟩ (.slice b4 (Jc p.S A).l.length d4)).setCell ⟨q4, 1, none⟩ (.slice b5 (Jc p.S A).T.length d5)).setCell ⟨q4, 2, none⟩ (.slice b6 (Jc p.S A).L.length d6)).setCell ⟨q4, 3, none⟩ (.slice b7 (Jc p.S A).C.length d7)).heap.size ≤ (((((wz.setCell ⟨q4, 0, none⟩ (.slice b4 (Jc p.S A).l.length d4)).setCell ⟨q4, 1, none⟩ (.slice b5 (Jc p.S A).T.length d5)).setCell ⟨q4, 2, none⟩ (.slice b6 (Jc p.S A).L.length d6)).setCell ⟨q4, 3, none⟩ (.slice b7 (Jc p.S A).C.length d7)).alloc (.cells #[int i64 A.r, int i64 A.s, int i64 A.t, .slice au A.l.length cu, int i64 A.k, .string A.o, .string A.y, int i64 A.v, int i64 A.x, int i64 A.z] 44)).heap.size) := by show _ ≤ _; simp
       have HNN : Hid (∀ j u, ([int i64 A.r, int i64 A.s, int i64 A.t, .slice au A.l.length cu, int i64 A.k, .string A.o, .string A.y, int i64 A.v, int i64 A.x, int i64 A.z] : List Value)[j]? = some u → (((((wz.setCell ⟨q4, 0, none⟩ (.slice b4 (Jc p.S A).l.length d4)).setCell ⟨q4, 1, none⟩ (.slice b5 (Jc p.S A).T.length d5)).setCell ⟨q4, 2, none⟩ (.slice b6 (Jc p.S A).L.length d6)).setCell ⟨q4, 3, none⟩ (.slice b7 (Jc p.S A).C.length d7)).alloc (.cells #[int i64 A.r, int i64 A.s, int i64 A.t, .slice au A.l.length cu, int i64 A.k, .string A.o, .string A.y, int i64 A.v, int i64 A.x, int i64 A.z] 44)).cell? (Addr.add ⟨wz.heap.size, 0, none⟩ j) = some u) := by show ∀ j u, _ → _; rw [← HSZ.out]; exact Jr ((((wz.setCell ⟨q4, 0, none⟩ (.slice b4 (Jc p.S A).l.length d4)).setCell ⟨q4, 1, none⟩ (.slice b5 (Jc p.S A).T.length d5)).setCell ⟨q4, 2, none⟩ (.slice b6 (Jc p.S A).L.length d6)).setCell ⟨q4, 3, none⟩ (.slice b7 (Jc p.S A).C.length d7)) [int i64 A.r, int i64 A.s, int i64 A.t, .slice au A.l.length cu, int i64 A.k, .string A.o, .string A.y, int i64 A.v, int i64 A.x, int i64 A.z] 44 rfl
       have HWA := Ja (HW3.out.alloc (.cells #[int i64 A.r, int i64 A.s, int i64 A.t, .slice au A.l.length cu, int i64 A.k, .string A.o, .string A.y, int i64 A.v, int i64 A.x, int i64 A.z] 44))
       have HWB := Ja (fun b hb => (World.ownsRow.lt HW3.out b hb).1)
       have hb4 : Below ((((wz.setCell ⟨q4, 0, none⟩ (.slice b4 (Jc p.S A).l.length d4)).setCell ⟨q4, 1, none⟩ (.slice b5 (Jc p.S A).T.length d5)).setCell ⟨q4, 2, none⟩ (.slice b6 (Jc p.S A).L.length d6)).setCell ⟨q4, 3, none⟩ (.slice b7 (Jc p.S A).C.length d7)).heap.size ((((wz.setCell ⟨q4, 0, none⟩ (.slice b4 (Jc p.S A).l.length d4)).setCell ⟨q4, 1, none⟩ (.slice b5 (Jc p.S A).T.length d5)).setCell ⟨q4, 2, none⟩ (.slice b6 (Jc p.S A).L.length d6)).setCell ⟨q4, 3, none⟩ (.slice b7 (Jc p.S A).C.length d7)) (((((wz.setCell ⟨q4, 0, none⟩ (.slice b4 (Jc p.S A).l.length d4)).setCell ⟨q4, 1, none⟩ (.slice b5 (Jc p.S A).T.length d5)).setCell ⟨q4, 2, none⟩ (.slice b6 (Jc p.S A).L.length d6)).setCell ⟨q4, 3, none⟩ (.slice b7 (Jc p.S A).C.length d7)).alloc (.cells #[int i64 A.r, int i64 A.s, int i64 A.t, .slice au A.l.length cu, int i64 A.k, .string A.o, .string A.y, int i64 A.v, int i64 A.x, int i64 A.z] 44)) := (Below.refl _ _).alloc (Nat.le_refl _) _
       replace HQ3 := Ja (HQ3.out.next hb4)
       replace HP3 := Ja (HP3.out.next hb4)
       obtain ⟨m0, m1, m2, m3, m4, m5, m6, m7, m8, m9⟩ := Row.ten HY3.out
       replace HO3 : Hid (OwnS (((((wz.setCell ⟨q4, 0, none⟩ (.slice b4 (Jc p.S A).l.length d4)).setCell ⟨q4, 1, none⟩ (.slice b5 (Jc p.S A).T.length d5)).setCell ⟨q4, 2, none⟩ (.slice b6 (Jc p.S A).L.length d6)).setCell ⟨q4, 3, none⟩ (.slice b7 (Jc p.S A).C.length d7)).alloc (.cells #[int i64 A.r, int i64 A.s, int i64 A.t, .slice au A.l.length cu, int i64 A.k, .string A.o, .string A.y, int i64 A.v, int i64 A.x, int i64 A.z] 44)) w.heap.size (Jc p.S A) (.slice b4 (Jc p.S A).l.length d4) (.slice b5 (Jc p.S A).T.length d5) (.slice b6 (Jc p.S A).L.length d6) (.slice b7 (Jc p.S A).C.length d7)) := Own4.next HO3.out hb4
       have HZ3 : Hid (Z ≤ ((((wz.setCell ⟨q4, 0, none⟩ (.slice b4 (Jc p.S A).l.length d4)).setCell ⟨q4, 1, none⟩ (.slice b5 (Jc p.S A).T.length d5)).setCell ⟨q4, 2, none⟩ (.slice b6 (Jc p.S A).L.length d6)).setCell ⟨q4, 3, none⟩ (.slice b7 (Jc p.S A).C.length d7)).heap.size) := by show _ ≤ _; rw [HSZ.out]; exact HZ2.out
       replace HM3 := Ja (HM3.out.keep (Kp.below hb4 HZ3.out))
       replace HB3 := Ja (HB3.out.trans (hb4.mono HB3.out.size))
       have HZ4 := Ja (Nat.le_trans HZ3.out hb4.size)
       have HQW := Ja (Z6 HWA.out HQ3.out)
       have HPW := Ja (Z6 HWA.out HP3.out)
       have HDN : Hid (Drp (Jp p A).S (M.take (i + 1)) ((X ++ [(A, Value.slice au A.l.length cu)]).map Prod.fst)) := by have h1 := Drp.wait (A := A) HSP.out HDR.out; unfold Jap at h1; rw [if_pos (by rw [← HC.out]; exact h24)] at h1; rw [HTK.out, List.map_append]; exact h1
       have HXN : Hid (∀ a ∈ X ++ [(A, Value.slice au A.l.length cu)], IntsAt w a.2 a.1.l) := fun a ha => by
        rcases List.mem_append.1 ha with h | h
        ·exact HX.out a h
        ·rw [List.mem_singleton] at h; subst h; exact HU.out
       have HC24 := Ja h24
       clear hb4 HY3 HDR HTK HX HU HLM HC HCN h24 HZ2 HZ3
       rcases HC24.out with h2 | h2
       ·
        have bC2 : (C == 2) = true := by simp [h2]
        clear h2 HC24 h0
        go_wp2_with (at_builtin; refine wpList_append_own _ rfl _ _ 32 rfl Z 44 i0 (.agg #[int i64 0, int i64 0, int i64 0, .slice none 0 0, int i64 0, .string ⟨#[]⟩, .string ⟨#[]⟩, int i64 0, int i64 0, int i64 0]) 10 112 Tryz.underlying32 hi hz0 hz1 hz2 rfl (by decide) _ _ _ rfl HWA.out ⟨wz.heap.size, 0, none⟩ 1 1 [int i64 A.r, int i64 A.s, int i64 A.t, .slice au A.l.length cu, int i64 A.k, .string A.o, .string A.y, int i64 A.v, int i64 A.x, int i64 A.z] rfl rfl HNN.out (Jbk A _ rfl) (by unfold maxLen; omega) (by omega) (by simp; omega) ?_)
        intro v2 w3 hown3 hgrow hne2
        have HO5 := Ja (HO3.out.grownA HWA.out hgrow)
        have HQ5 := Ja (HQ3.out.grown hgrow HQW.out)
        have HP5 := Ja (HP3.out.grown hgrow HPW.out)
        have HM5 := Ja (HM3.out.keep (Kp.grown hgrow HWB.out HZ4.out))
        have HZ5 := Ja (Nat.le_trans HZ4.out hgrow.size)
        have HB5 := Ja (HB3.out.grown hgrow HB3.out.size (fun k hk => Nat.le_trans HZW.out (HWB.out k hk)))
        have HW5 : Hid (w3.ownsRow Z 44 10 v2 (X ++ [(A, Value.slice au A.l.length cu)]).length (JJ (X ++ [(A, Value.slice au A.l.length cu)]))) := by show World.ownsRow _ _ _ _ _ _ _; rw [Yy, List.length_append]; exact hown3
        clear hown3 hgrow hne2 HO3 HQ3 HP3 HM3 HB3 HZ4 HWA HWB HNN HQW HPW HSZ HSZ2 m0 m1 m2 m3 m4 m5 m6 m7 m8 m9 e0 e1 e2 e3 k0 k1 k2 k3
        go_wp2
        go_roundw
        case rel => exact ⟨i + 1, Jp p A, X ++ [(A, Value.slice au A.l.length cu)], b4, b5, b6, b7, d4, d5, d6, d7, by omega, by go_num, by rw [HST.out], by rw [HST.out], HSTEP.out.symm, by rw [HST.out]; exact HQ5.out, HP5.out, by rw [HST.out]; exact HO5.out, HW5.out, HXN.out, HDN.out, HM5.out, HZ5.out, HB5.out⟩
        case measure => simp [intOf]; omega
       ·
        have bC2 : (C == 2) = false := by simp [h2]
        have bC4 : (C == 4) = true := by simp [h2]
        clear h2 HC24 h0
        go_wp2_with (at_builtin; refine wpList_append_own _ rfl _ _ 32 rfl Z 44 i0 (.agg #[int i64 0, int i64 0, int i64 0, .slice none 0 0, int i64 0, .string ⟨#[]⟩, .string ⟨#[]⟩, int i64 0, int i64 0, int i64 0]) 10 112 Tryz.underlying32 hi hz0 hz1 hz2 rfl (by decide) _ _ _ rfl HWA.out ⟨wz.heap.size, 0, none⟩ 1 1 [int i64 A.r, int i64 A.s, int i64 A.t, .slice au A.l.length cu, int i64 A.k, .string A.o, .string A.y, int i64 A.v, int i64 A.x, int i64 A.z] rfl rfl HNN.out (Jbk A _ rfl) (by unfold maxLen; omega) (by omega) (by simp; omega) ?_)
        intro v2 w3 hown3 hgrow hne2
        have HO5 := Ja (HO3.out.grownA HWA.out hgrow)
        have HQ5 := Ja (HQ3.out.grown hgrow HQW.out)
        have HP5 := Ja (HP3.out.grown hgrow HPW.out)
        have HM5 := Ja (HM3.out.keep (Kp.grown hgrow HWB.out HZ4.out))
        have HZ5 := Ja (Nat.le_trans HZ4.out hgrow.size)
        have HB5 := Ja (HB3.out.grown hgrow HB3.out.size (fun k hk => Nat.le_trans HZW.out (HWB.out k hk)))
        have HW5 : Hid (w3.ownsRow Z 44 10 v2 (X ++ [(A, Value.slice au A.l.length cu)]).length (JJ (X ++ [(A, Value.slice au A.l.length cu)]))) := by show World.ownsRow _ _ _ _ _ _ _; rw [Yy, List.length_append]; exact hown3
        clear hown3 hgrow hne2 HO3 HQ3 HP3 HM3 HB3 HZ4 HWA HWB HNN HQW HPW HSZ HSZ2 m0 m1 m2 m3 m4 m5 m6 m7 m8 m9 e0 e1 e2 e3 k0 k1 k2 k3
        go_wp2
        go_roundw
        case rel => exact ⟨i + 1, Jp p A, X ++ [(A, Value.slice au A.l.length cu)], b4, b5, b6, b7, d4, d5, d6, d7, by omega, by go_num, by rw [HST.out], by rw [HST.out], HSTEP.out.symm, by rw [HST.out]; exact HQ5.out, HP5.out, by rw [HST.out]; exact HO5.out, HW5.out, HXN.out, HDN.out, HM5.out, HZ5.out, HB5.out⟩
        case measure => simp [intOf]; omega
      case neg =>
       have bC2 : (C == 2) = false := by simp; omega
       have bC4 : (C == 4) = false := by simp; omega
       have HDN : Hid (Drp (Jp p A).S (M.take (i + 1)) (X.map Prod.fst)) := by have h1 := Drp.wait (A := A) HSP.out HDR.out; unfold Jap at h1; rw [if_neg (by rw [← HC.out]; exact h24)] at h1; rw [HTK.out]; exact h1
       have HZ3 : Hid (Z ≤ ((((wz.setCell ⟨q4, 0, none⟩ (.slice b4 (Jc p.S A).l.length d4)).setCell ⟨q4, 1, none⟩ (.slice b5 (Jc p.S A).T.length d5)).setCell ⟨q4, 2, none⟩ (.slice b6 (Jc p.S A).L.length d6)).setCell ⟨q4, 3, none⟩ (.slice b7 (Jc p.S A).C.length d7)).heap.size) := by show _ ≤ _; rw [HSZ.out]; exact HZ2.out
       clear h0 h24 HC HCN HY3 HSZ HWQ HNQ HDR HTK HU HLM HZ2
       go_wp2
       go_roundw
       case rel => exact ⟨i + 1, Jp p A, X, b4, b5, b6, b7, d4, d5, d6, d7, by omega, by go_num, by rw [HST.out], by rw [HST.out], HSTEP.out.symm, by rw [HST.out]; exact HQ3.out, HP3.out, by rw [HST.out]; exact HO3.out, HW3.out, HX.out, HDN.out, HM3.out, HZ3.out, HB3.out⟩
       case measure => simp [intOf]; omega
def ArgG (w : World) (aa : Option Addr) (l : List Ac) : Prop := 0 < l.length → ∃ g off, aa = some ⟨g, off, none⟩ ∧ g < w.heap.size ∧ ∀ j (h : j < l.length), ∃ u, acC w g (off + j * 10) l[j] u ∧ ArgAct w l[j] u
def ArgAs (w : World) (v : Value) (l : List Ac) : Prop := l.length ≤ maxLen ∧ ∃ (aa : Option Addr) (ca : Nat), v = .slice aa l.length ca ∧ ArgG w aa l
theorem ArgAct.below {w w' : World} {A : Ac} {u : Value} (h : ArgAct w A u) (hb : Below w.heap.size w w') : ArgAct w' A u := ⟨h.1.below hb, h.2⟩
theorem ArgG.below {w w' : World} {aa : Option Addr} {l : List Ac} (h : ArgG w aa l) (hb : Below w.heap.size w w') : ArgG w' aa l := fun h0 => by
 obtain ⟨g, off, e, h1, h2⟩ := h h0
 exact ⟨g, off, e, Nat.lt_of_lt_of_le h1 hb.size, fun j hj => by obtain ⟨u, hc, ha⟩ := h2 j hj; exact ⟨u, hc.below hb h1, ha.below hb⟩⟩
def Ac.szn (A : Ac) : Nat := A.l.length + A.o.size + A.y.size
theorem Ac.sz_n (A : Ac) : A.sz = (A.szn : Int) := by unfold Ac.sz Ac.szn; omega
def Zx (l : List Ac) : Nat := (l.map Ac.szn).sum
theorem YG {v : Value} {l : List Ac} (L : Int) (w : World) (h0 : 0 ≤ L) (h1 : L ≤ 1048576) (ha : ArgAs w v l) :
  Calls Tryz.prog 5 #[v, int i64 L] w fun e w' => e = .returned (int i64 (JA L ((l.length : Int) + Zx l))) ∧ Below w.heap.size w w' := by
 obtain ⟨hm, aa, ca, rfl, ga⟩ := ha
 have HGA : Hid (ArgG w aa l) := ga
 have HSUM : Hid (∀ j (h : j < l.length), Zx (l.take (j + 1)) = Zx (l.take j) + l[j].szn) := fun j h => KG _ l j h
 have HLE : Hid (∀ j, Zx (l.take j) ≤ Zx l) := fun j => G6 _ l j
 have HALL : Hid (Zx (l.take l.length) = Zx l) := by show _ = _; rw [List.take_length]
 have HNIL : Hid (Zx (l.take 0) = 0) := rfl
 obtain ⟨n, hl⟩ : ∃ n, n = l.length := ⟨_, rfl⟩
 obtain ⟨R, hR⟩ : ∃ R, R = JA L ((l.length : Int) + Zx l) := ⟨_, rfl⟩
 rw [← hR]
 have HR : Hid (R = JA L ((n : Int) + Zx l)) := by show _ = _; rw [hR, hl]
 rw [← hl]
 rw [← hl] at hm
 have HL : Hid (n = l.length) := hl
 clear ga hl hR
 unfold maxLen at hm
 have w1 : IntKind.i64.wrap (L - n) = L - n := by rw [IntKind.wrap_i64] <;> omega
 by_cases k1 : L - (n : Int) < 0
 case pos =>
  have HE : Hid (R = -1) := by show _ = _; rw [HR.out]; unfold JA; rw [if_neg (by omega)]
  clear HR
  go_enter Tryz.func5, Tryz.ntmps5
  go_wp2
  go_ret
  exact ⟨by rw [HE.out]; rfl, Below.refl _ _⟩
 go_enter Tryz.func5, Tryz.ntmps5
 go_wp2
 go_loopw [1, 5] (fun x z wr => ∃ (j : Nat) (cur : Int), j ≤ n ∧ z = int i64 j ∧ x = int i64 cur ∧ cur = L - n - (Zx (l.take j) : Int) ∧ 0 ≤ cur ∧ Below w.heap.size w wr) (fun _ z _ => n - (intOf z).toNat)
 case atStart => exact ⟨0, _, Nat.zero_le _, rfl, rfl, by rw [HNIL.out]; omega, by omega, Below.refl _ _⟩
 case round =>
  obtain ⟨j, cur, hj, rfl, rfl, hcur, hc0, hbel⟩ := hrel
  have HCUR : Hid (cur = L - n - (Zx (l.take j) : Int)) := hcur
  have hc1 : cur ≤ 1048576 := by omega
  have HB : Hid (Below w.heap.size w wr) := hbel
  clear hcur
  by_cases hlt : j < n
  ·have hjl : j < l.length := by rw [← HL.out]; exact hlt
   obtain ⟨g, f, rfl, hg, hcc⟩ := HGA.out (by omega)
   have hj1 : (j : Int) < n := by omega
   have hj0 : (0 : Int) ≤ j := by omega
   obtain ⟨u, c1, hau⟩ := hcc j hjl
   replace c1 := c1.below hbel hg
   have hs1 := HSUM.out j hjl
   have hs2 := HLE.out (j + 1)
   generalize l[j] = x at *
   have hsx : x.sz = (x.szn : Int) := Ac.sz_n x
   have HAU := Ja hau
   clear hau
   unfold acC at c1
   obtain ⟨c10, c11, c12, c13, c14, c15, c16, c17, c18, c19⟩ := c1
   clear hcc hbel
   have HNX : Hid (∀ q : Int, q = cur - x.sz → q = L - n - (Zx (l.take (j + 1)) : Int)) := fun q hq => by have := HCUR.out; omega
   have HNO : Hid (cur - x.sz < 0 → R = -1) := fun hq => by
    have := HCUR.out
    rw [HR.out]; unfold JA; rw [if_neg (by omega)]
   clear hs1 hs2
   go_wp2_with fail
   refine (JcK x u cur wr w HAU.out hc0 hc1).mono ?_
   rintro e w1 ⟨rfl, hb⟩
   have HB1 : Hid (Below w.heap.size w w1) := HB.out.trans (hb.mono HB.out.size)
   clear hb HB HAU c10 c11 c12 c13 c14 c15 c16 c17 c18 c19
   by_cases hk : x.sz ≤ cur
   ·rw [show JA cur x.sz = cur - x.sz by unfold JA; rw [if_pos hk]]
    have hq0 : ¬ (cur - x.sz < 0) := by omega
    have HQ := HNX.out _ rfl
    obtain ⟨c2, hc2⟩ : ∃ c2, c2 = cur - x.sz := ⟨_, rfl⟩
    rw [← hc2] at HQ hq0 ⊢
    have HQQ : Hid (c2 = L - n - (Zx (l.take (j + 1)) : Int)) := HQ
    clear hc2 HQ HNX HNO hk
    go_wp2
    go_roundw
    case rel => exact ⟨j + 1, c2, by omega, by go_num, rfl, HQQ.out, by omega, HB1.out⟩
    case measure => simp [intOf]; omega
   ·rw [show JA cur x.sz = -1 by unfold JA; rw [if_neg hk]]
    have HE : Hid (R = -1) := HNO.out (by omega)
    clear HNX HNO hk
    go_wp2
    go_ret
    exact ⟨by rw [HE.out]; rfl, HB1.out⟩
  ·have hj1 : ¬ ((j : Int) < n) := by omega
   have HE : Hid (R = cur) := by
    have hjn : j = l.length := by have := HL.out; omega
    have h3 := HCUR.out
    rw [hjn, HALL.out] at h3
    show _ = _
    rw [HR.out]; unfold JA; rw [if_pos (by omega)]; omega
   clear hbel
   go_wp2
   go_ret
   exact ⟨by rw [HE.out]; rfl, HB.out⟩
theorem Jej {l : List Ac} (h : (l.length : Int) + Zx l ≤ 1048576) : l.length ≤ 1048576 ∧ U0 l := by
 refine ⟨by omega, fun A hA => ?_⟩
 have h1 : A.szn ≤ Zx l := by
  unfold Zx
  clear h
  induction l with
  | nil => cases hA
  | cons a l ih =>
   simp only [List.map_cons, List.sum_cons]
   rcases List.mem_cons.1 hA with rfl | h
   ·omega
   ·have := ih h; omega
 unfold Ac.szn at h1
 omega
theorem JcD (l : List (Ac × Value)) (j : Nat) (h : j < l.length) (a : Ac × Value) : (((((((((((JJ l).set (j * 10) (int i64 a.1.r)).set (j * 10 + 1) (int i64 a.1.s)).set (j * 10 + 2) (int i64 a.1.t)).set (j * 10 + 3) (a.2)).set (j * 10 + 4) (int i64 a.1.k)).set (j * 10 + 5) (.string a.1.o)).set (j * 10 + 6) (.string a.1.y)).set (j * 10 + 7) (int i64 a.1.v)).set (j * 10 + 8) (int i64 a.1.x)).set (j * 10 + 9) (int i64 a.1.z)) = JJ (l.set j a) := by
 obtain ⟨A, C, h1, h2, h3⟩ := ZI (ZR l) j (by simpa using h)
 have e : JJ (l.set j a) = A ++ (acv a ++ C) := by unfold JJ; rw [List.map_set]; exact h3 _
 rw [e]
 show ((((((((((((l.map acv).flatten).set (j * 10) (int i64 a.1.r)).set (j * 10 + 1) (int i64 a.1.s)).set (j * 10 + 2) (int i64 a.1.t)).set (j * 10 + 3) (a.2)).set (j * 10 + 4) (int i64 a.1.k)).set (j * 10 + 5) (.string a.1.o)).set (j * 10 + 6) (.string a.1.y)).set (j * 10 + 7) (int i64 a.1.v)).set (j * 10 + 8) (int i64 a.1.x)).set (j * 10 + 9) (int i64 a.1.z)) = _
 rw [h1, List.getElem_map]
 generalize l[j] = b
 rw [← h2]
 rw [show A ++ (acv b ++ C) = A ++ ([int i64 b.1.r, int i64 b.1.s, int i64 b.1.t, b.2, int i64 b.1.k, .string b.1.o, .string b.1.y, int i64 b.1.v, int i64 b.1.x, int i64 b.1.z] ++ C) from rfl]
 have g0 := Jx A [int i64 b.1.r, int i64 b.1.s, int i64 b.1.t, b.2, int i64 b.1.k, .string b.1.o, .string b.1.y, int i64 b.1.v, int i64 b.1.x, int i64 b.1.z] C 0 (by simp) (int i64 a.1.r)
 rw [Nat.add_zero] at g0
 rw [g0, Jx _ _ _ 1 (by simp), Jx _ _ _ 2 (by simp), Jx _ _ _ 3 (by simp), Jx _ _ _ 4 (by simp), Jx _ _ _ 5 (by simp), Jx _ _ _ 6 (by simp), Jx _ _ _ 7 (by simp), Jx _ _ _ 8 (by simp), Jx _ _ _ 9 (by simp)]
 rfl
theorem JdP (l : List (Ac × Value)) (j : Nat) (h : j < l.length) : (JJ l)[j * 10]? = some (int i64 l[j].1.r) ∧ (JJ l)[j * 10 + 1]? = some (int i64 l[j].1.s) ∧ (JJ l)[j * 10 + 2]? = some (int i64 l[j].1.t) ∧ (JJ l)[j * 10 + 3]? = some (l[j].2) ∧ (JJ l)[j * 10 + 4]? = some (int i64 l[j].1.k) ∧ (JJ l)[j * 10 + 5]? = some (.string l[j].1.o) ∧ (JJ l)[j * 10 + 6]? = some (.string l[j].1.y) ∧ (JJ l)[j * 10 + 7]? = some (int i64 l[j].1.v) ∧ (JJ l)[j * 10 + 8]? = some (int i64 l[j].1.x) ∧ (JJ l)[j * 10 + 9]? = some (int i64 l[j].1.z) := by
 have hq : ∀ i, i < 10 → (JJ l)[j * 10 + i]? = (acv l[j])[i]? := fun i hi => by unfold JJ; rw [ZB (ZR l) j (by simpa using h) i hi, List.getElem_map]
 exact ⟨hq 0 (by decide), hq 1 (by decide), hq 2 (by decide), hq 3 (by decide), hq 4 (by decide), hq 5 (by decide), hq 6 (by decide), hq 7 (by decide), hq 8 (by decide), hq 9 (by decide)⟩
def zAx : Ac × Value := (⟨0, 0, 0, 0, 0, 0, 0, ⟨#[]⟩, ⟨#[]⟩, []⟩, .slice none 0 0)
theorem Jei (w : World) (n : Nat) (hn : n ≤ 1048576) : (Instr.makeSlice 32 (int i64 (n : Int)) (int i64 (n : Int))).run Tryz.prog w = .ok (.slice (some ⟨w.heap.size, 0, none⟩) n n) (w.alloc (.cells (JJ (List.replicate n zAx)).toArray 44)) := by
 obtain ⟨i0, hi, hz0, hz1, hz2⟩ := info_parts Jbl
 have hr := run_make (P := Tryz.prog) w 32 44 i0 _ Tryz.underlying32 hi hz0 .i64 .i64 n n (by omega) (Int.le_refl _) (by rw [hz2]; omega) (by omega)
 have e : (JJ (List.replicate n zAx)).toArray = madeCells #[int i64 0, int i64 0, int i64 0, .slice none 0 0, int i64 0, .string ⟨#[]⟩, .string ⟨#[]⟩, int i64 0, int i64 0, int i64 0] (n * 10) := by
  apply Array.ext'
  have := Jcv (acv zAx) 10 n rfl (by decide)
  unfold JJ
  rw [List.map_replicate]
  exact this.symm
 rw [hz1] at hr
 rw [e]
 simpa [Value.cells] using hr
theorem Jaj (Y : List (Ac × Value)) (n : Nat) (hj : Y.length < n) (x : Ac × Value) : (Y ++ List.replicate (n - Y.length) zAx).set Y.length x = (Y ++ [x]) ++ List.replicate (n - (Y.length + 1)) zAx := by
 rw [List.set_append_right _ _ (Nat.le_refl _), Nat.sub_self, show n - Y.length = (n - (Y.length + 1)) + 1 by omega, List.replicate_succ, List.set_cons_zero, List.append_assoc]
 rfl
theorem Ja0 (Y : List (Ac × Value)) (n : Nat) (hj : Y.length < n) (h : Y.length < (Y ++ List.replicate (n - Y.length) zAx).length) : (Y ++ List.replicate (n - Y.length) zAx)[Y.length] = zAx := by
 rw [List.getElem_append_right (Nat.le_refl _)]
 simp
def OwnU (w : World) (B : Nat) (X : List (Ac × Value)) : Prop := ∀ a ∈ X, w.ownsRow B 3 1 a.2 a.1.l.length (Je a.1.l)
def ApU (X : List (Ac × Value)) : Prop := X.Pairwise (fun a b => ∀ g, a.2.ownBlock = some g → b.2.ownBlock ≠ some g)
theorem YX {v : Value} {l : List Ac} (hn : l.length ≤ 1048576) (hal : U0 l) (w : World) (ha : ArgAs w v l) :
  Calls Tryz.prog 7 #[v] w fun e w' => ∃ X, e = .returned (.slice (some ⟨w.heap.size, 0, none⟩) l.length l.length) ∧ X.map Prod.fst = l ∧ w'.ownsRow w.heap.size 44 10 (.slice (some ⟨w.heap.size, 0, none⟩) l.length l.length) l.length (JJ X) ∧ OwnU w' (w.heap.size + 1) X ∧ ApU X ∧ Below w.heap.size w w' := by
 obtain ⟨-, aa, ca, rfl, ga⟩ := ha
 have HGA : Hid (ArgG w aa l) := ga
 have HAL := Ja hal
 obtain ⟨n, hl⟩ : ∃ n, n = l.length := ⟨_, rfl⟩
 rw [← hl]
 rw [← hl] at hn
 have HL : Hid (n = l.length) := hl
 have hmk := Jei w n hn
 have HO : Hid ((w.alloc (.cells (JJ (List.replicate n zAx)).toArray 44)).ownsRow w.heap.size 44 10 (.slice (some ⟨w.heap.size, 0, none⟩) n n) n (JJ (([] : List (Ac × Value)) ++ List.replicate (n - 0) zAx))) := by
  show World.ownsRow _ _ _ _ _ _ _
  rw [List.nil_append, Nat.sub_zero]
  exact JcR (ZR _) (MapKept.heap_alloc w _).1 (Nat.le_refl _) (by simp) (by unfold maxLen; omega)
 have HB : Hid (Below w.heap.size w (w.alloc (.cells (JJ (List.replicate n zAx)).toArray 44))) := (Below.refl _ _).alloc (Nat.le_refl _) _
 have HS : Hid (w.heap.size + 1 ≤ (w.alloc (.cells (JJ (List.replicate n zAx)).toArray 44)).heap.size) := by show _ ≤ _; simp
 generalize w.alloc (.cells (JJ (List.replicate n zAx)).toArray 44) = w1 at *
 clear ga hl hal
 go_enter Tryz.func7, Tryz.ntmps7
 go_wp2
 go_loopw [4] (fun z wr => ∃ (j : Nat) (Y : List (Ac × Value)), j ≤ n ∧ z = int i64 j ∧ Y.length = j ∧ Y.map Prod.fst = l.take j ∧ wr.ownsRow w.heap.size 44 10 (.slice (some ⟨w.heap.size, 0, none⟩) n n) n (JJ (Y ++ List.replicate (n - Y.length) zAx)) ∧ OwnU wr (w.heap.size + 1) Y ∧ ApU Y ∧ w.heap.size + 1 ≤ wr.heap.size ∧ Below w.heap.size w wr) (fun z _ => n - (intOf z).toNat)
 case atStart => exact ⟨0, [], Nat.zero_le _, rfl, rfl, rfl, HO.out, (fun a h => by cases h), List.Pairwise.nil, HS.out, HB.out⟩
 case round =>
  clear HO HB HS hmk
  obtain ⟨j, Y, hj, rfl, hY, hYl, hown, hU, hAp, hsz, hbel⟩ := hrel
  have HAP := Ja hAp
  have HOW := Ja hown
  have HBE := Ja hbel
  have HYL := Ja hYl
  have HU := Ja hU
  have HSZ := Ja hsz
  have HYN : Hid (Y.length = j) := hY
  clear hown hbel hYl hU hsz hAp
  by_cases hlt : j < n
  ·have hjl : j < l.length := by rw [← HL.out]; exact hlt
   obtain ⟨g, f, rfl, hg, hcc⟩ := HGA.out (by omega)
   have hj1 : (j : Int) < n := by omega
   have hj0 : (0 : Int) ≤ j := by omega
   obtain ⟨uu, c1, hau⟩ := hcc j hjl
   replace c1 := c1.below HBE.out hg
   have hau1 := hau.below HBE.out
   have HTK : Hid (l.take (j + 1) = l.take j ++ [l[j]]) := List.take_succ_eq_append_getElem hjl
   have hlim := HAL.out l[j] (List.getElem_mem hjl)
   have hlj : j < (Y ++ List.replicate (n - Y.length) zAx).length := by simp; omega
   have hat := JdP _ j hlj
   have HSET : Hid (∀ x, (Y ++ List.replicate (n - Y.length) zAx).set j x = (Y ++ [x]) ++ List.replicate (n - (Y ++ [x]).length) zAx) := fun x => by
    have h1 := Jaj Y n (by omega) x
    rw [List.length_append, List.length_singleton]; rw [hY] at h1 ⊢; exact h1
   have hz : (Y ++ List.replicate (n - Y.length) zAx)[j] = zAx := by
    have h1 := Ja0 Y n (by omega) (by simp; omega)
    simp only [hY] at h1 ⊢; exact h1
   rw [hz] at hat
   generalize l[j] = x at *
   unfold acC at c1
   obtain ⟨c10, c11, c12, c13, c14, c15, c16, c17, c18, c19⟩ := c1
   clear hcc hau hz hY
   go_wp2_with fail
   refine (Y1 x uu wr hlim.1 hau1.1).mono ?_
   rintro e w1 ⟨u, rfl, hu, hb⟩
   obtain ⟨ua, uc, rfl⟩ := JN hu
   unfold Ac.val
   have hown1 := Jh HOW.out hb
   have hb1 := HBE.out.trans (hb.mono HBE.out.size)
   have hs1 := Nat.le_trans HSZ.out hb.size
   obtain ⟨h0, h1, h2, h3, h4, h5, h6, h7, h8, h9⟩ := hat
   have k0 : w1.cell? ⟨w.heap.size, j * 10, none⟩ = some (int i64 0) := by rw [hown1.cellAt (j * 10) (by omega)]; exact h0
   have q0 := hown1.frozenAt (j * 10)
   have k1 : w1.cell? ⟨w.heap.size, j * 10 + 1, none⟩ = some (int i64 0) := by rw [hown1.cellAt (j * 10 + 1) (by omega)]; exact h1
   have q1 := hown1.frozenAt (j * 10 + 1)
   have k2 : w1.cell? ⟨w.heap.size, j * 10 + 2, none⟩ = some (int i64 0) := by rw [hown1.cellAt (j * 10 + 2) (by omega)]; exact h2
   have q2 := hown1.frozenAt (j * 10 + 2)
   have k3 : w1.cell? ⟨w.heap.size, j * 10 + 3, none⟩ = some (.slice none 0 0) := by rw [hown1.cellAt (j * 10 + 3) (by omega)]; exact h3
   have q3 := hown1.frozenAt (j * 10 + 3)
   have k4 : w1.cell? ⟨w.heap.size, j * 10 + 4, none⟩ = some (int i64 0) := by rw [hown1.cellAt (j * 10 + 4) (by omega)]; exact h4
   have q4 := hown1.frozenAt (j * 10 + 4)
   have k5 : w1.cell? ⟨w.heap.size, j * 10 + 5, none⟩ = some (.string ⟨#[]⟩) := by rw [hown1.cellAt (j * 10 + 5) (by omega)]; exact h5
   have q5 := hown1.frozenAt (j * 10 + 5)
   have k6 : w1.cell? ⟨w.heap.size, j * 10 + 6, none⟩ = some (.string ⟨#[]⟩) := by rw [hown1.cellAt (j * 10 + 6) (by omega)]; exact h6
   have q6 := hown1.frozenAt (j * 10 + 6)
   have k7 : w1.cell? ⟨w.heap.size, j * 10 + 7, none⟩ = some (int i64 0) := by rw [hown1.cellAt (j * 10 + 7) (by omega)]; exact h7
   have q7 := hown1.frozenAt (j * 10 + 7)
   have k8 : w1.cell? ⟨w.heap.size, j * 10 + 8, none⟩ = some (int i64 0) := by rw [hown1.cellAt (j * 10 + 8) (by omega)]; exact h8
   have q8 := hown1.frozenAt (j * 10 + 8)
   have k9 : w1.cell? ⟨w.heap.size, j * 10 + 9, none⟩ = some (int i64 0) := by rw [hown1.cellAt (j * 10 + 9) (by omega)]; exact h9
   have q9 := hown1.frozenAt (j * 10 + 9)
   have s0 := hown1.stored (j * 10) (int i64 x.r)
   have s1 := s0.1.stored (j * 10 + 1) (int i64 x.s)
   have s2 := s1.1.stored (j * 10 + 2) (int i64 x.t)
   have s3 := s2.1.stored (j * 10 + 3) (.slice ua x.l.length uc)
   have s4 := s3.1.stored (j * 10 + 4) (int i64 x.k)
   have s5 := s4.1.stored (j * 10 + 5) (.string x.o)
   have s6 := s5.1.stored (j * 10 + 6) (.string x.y)
   have s7 := s6.1.stored (j * 10 + 7) (int i64 x.v)
   have s8 := s7.1.stored (j * 10 + 8) (int i64 x.x)
   have s9 := s8.1.stored (j * 10 + 9) (int i64 x.z)
   have HST : Hid (((((((((((w1.setCell ⟨w.heap.size, j * 10, none⟩ (int i64 x.r)).setCell ⟨w.heap.size, j * 10 + 1, none⟩ (int i64 x.s)).setCell ⟨w.heap.size, j * 10 + 2, none⟩ (int i64 x.t)).setCell ⟨w.heap.size, j * 10 + 3, none⟩ (.slice ua x.l.length uc)).setCell ⟨w.heap.size, j * 10 + 4, none⟩ (int i64 x.k)).setCell ⟨w.heap.size, j * 10 + 5, none⟩ (.string x.o)).setCell ⟨w.heap.size, j * 10 + 6, none⟩ (.string x.y)).setCell ⟨w.heap.size, j * 10 + 7, none⟩ (int i64 x.v)).setCell ⟨w.heap.size, j * 10 + 8, none⟩ (int i64 x.x)).setCell ⟨w.heap.size, j * 10 + 9, none⟩ (int i64 x.z)).ownsRow w.heap.size 44 10 (.slice (some ⟨w.heap.size, 0, none⟩) n n) n (JJ ((Y ++ [(x, Value.slice ua x.l.length uc)]) ++ List.replicate (n - (Y ++ [(x, Value.slice ua x.l.length uc)]).length) zAx))) := by
    have := s9.1
    rw [JcD _ j hlj (x, Value.slice ua x.l.length uc), HSET.out] at this
    exact this
   have HUN : Hid (OwnU ((((((((((w1.setCell ⟨w.heap.size, j * 10, none⟩ (int i64 x.r)).setCell ⟨w.heap.size, j * 10 + 1, none⟩ (int i64 x.s)).setCell ⟨w.heap.size, j * 10 + 2, none⟩ (int i64 x.t)).setCell ⟨w.heap.size, j * 10 + 3, none⟩ (.slice ua x.l.length uc)).setCell ⟨w.heap.size, j * 10 + 4, none⟩ (int i64 x.k)).setCell ⟨w.heap.size, j * 10 + 5, none⟩ (.string x.o)).setCell ⟨w.heap.size, j * 10 + 6, none⟩ (.string x.y)).setCell ⟨w.heap.size, j * 10 + 7, none⟩ (int i64 x.v)).setCell ⟨w.heap.size, j * 10 + 8, none⟩ (int i64 x.x)).setCell ⟨w.heap.size, j * 10 + 9, none⟩ (int i64 x.z)) (w.heap.size + 1) (Y ++ [(x, Value.slice ua x.l.length uc)])) := fun a ha => by
    have hp : ∀ {v0 : Value} {m : Nat} {xs : List Value}, w1.ownsRow (w.heap.size + 1) 3 1 v0 m xs → ((((((((((w1.setCell ⟨w.heap.size, j * 10, none⟩ (int i64 x.r)).setCell ⟨w.heap.size, j * 10 + 1, none⟩ (int i64 x.s)).setCell ⟨w.heap.size, j * 10 + 2, none⟩ (int i64 x.t)).setCell ⟨w.heap.size, j * 10 + 3, none⟩ (.slice ua x.l.length uc)).setCell ⟨w.heap.size, j * 10 + 4, none⟩ (int i64 x.k)).setCell ⟨w.heap.size, j * 10 + 5, none⟩ (.string x.o)).setCell ⟨w.heap.size, j * 10 + 6, none⟩ (.string x.y)).setCell ⟨w.heap.size, j * 10 + 7, none⟩ (int i64 x.v)).setCell ⟨w.heap.size, j * 10 + 8, none⟩ (int i64 x.x)).setCell ⟨w.heap.size, j * 10 + 9, none⟩ (int i64 x.z)).ownsRow (w.heap.size + 1) 3 1 v0 m xs := fun h => JB (JB (JB (JB (JB (JB (JB (JB (JB (JB h (Nat.lt_succ_self _)) (Nat.lt_succ_self _)) (Nat.lt_succ_self _)) (Nat.lt_succ_self _)) (Nat.lt_succ_self _)) (Nat.lt_succ_self _)) (Nat.lt_succ_self _)) (Nat.lt_succ_self _)) (Nat.lt_succ_self _)) (Nat.lt_succ_self _)
    rcases List.mem_append.1 ha with h | h
    ·exact hp (Jh (HU.out a h) hb)
    ·rw [List.mem_singleton] at h; subst h; exact hp (Jk hu HSZ.out)
   have HAN : Hid (ApU (Y ++ [(x, Value.slice ua x.l.length uc)])) := by
    show List.Pairwise _ _
    rw [List.pairwise_append]
    refine ⟨HAP.out, List.pairwise_singleton _ _, fun a ha b hb2 g hg2 hg3 => ?_⟩
    rw [List.mem_singleton] at hb2
    subst hb2
    have h1 := (World.ownsRow.lt (HU.out a ha) g hg2).2
    have h2 := (World.ownsRow.lt hu g hg3).1
    omega
   have HB : Hid (Below w.heap.size w ((((((((((w1.setCell ⟨w.heap.size, j * 10, none⟩ (int i64 x.r)).setCell ⟨w.heap.size, j * 10 + 1, none⟩ (int i64 x.s)).setCell ⟨w.heap.size, j * 10 + 2, none⟩ (int i64 x.t)).setCell ⟨w.heap.size, j * 10 + 3, none⟩ (.slice ua x.l.length uc)).setCell ⟨w.heap.size, j * 10 + 4, none⟩ (int i64 x.k)).setCell ⟨w.heap.size, j * 10 + 5, none⟩ (.string x.o)).setCell ⟨w.heap.size, j * 10 + 6, none⟩ (.string x.y)).setCell ⟨w.heap.size, j * 10 + 7, none⟩ (int i64 x.v)).setCell ⟨w.heap.size, j * 10 + 8, none⟩ (int i64 x.x)).setCell ⟨w.heap.size, j * 10 + 9, none⟩ (int i64 x.z))) := (((((((((hb1.setCell (Nat.le_refl _) _).setCell (Nat.le_refl _) _).setCell (Nat.le_refl _) _).setCell (Nat.le_refl _) _).setCell (Nat.le_refl _) _).setCell (Nat.le_refl _) _).setCell (Nat.le_refl _) _).setCell (Nat.le_refl _) _).setCell (Nat.le_refl _) _).setCell (Nat.le_refl _) _
   have HS1 : Hid (w.heap.size + 1 ≤ ((((((((((w1.setCell ⟨w.heap.size, j * 10, none⟩ (int i64 x.r)).setCell ⟨w.heap.size, j * 10 + 1, none⟩ (int i64 x.s)).setCell ⟨w.heap.size, j * 10 + 2, none⟩ (int i64 x.t)).setCell ⟨w.heap.size, j * 10 + 3, none⟩ (.slice ua x.l.length uc)).setCell ⟨w.heap.size, j * 10 + 4, none⟩ (int i64 x.k)).setCell ⟨w.heap.size, j * 10 + 5, none⟩ (.string x.o)).setCell ⟨w.heap.size, j * 10 + 6, none⟩ (.string x.y)).setCell ⟨w.heap.size, j * 10 + 7, none⟩ (int i64 x.v)).setCell ⟨w.heap.size, j * 10 + 8, none⟩ (int i64 x.x)).setCell ⟨w.heap.size, j * 10 + 9, none⟩ (int i64 x.z)).heap.size) := by show _ ≤ _; simp; exact hs1
   have HYN2 : Hid ((Y ++ [(x, Value.slice ua x.l.length uc)]).map Prod.fst = l.take (j + 1)) := by show _ = _; rw [List.map_append, HYL.out, HTK.out]; rfl
   clear HAP s0 h0 c10 s1 h1 c11 s2 h2 c12 s3 h3 c13 s4 h4 c14 s5 h5 c15 s6 h6 c16 s7 h7 c17 s8 h8 c18 s9 h9 c19 hown1 hb1 hb HOW HBE hjl HSET hlj HTK hlim hu hs1 HU HSZ HYL hau1
   go_wp2
   go_roundw
   case rel => exact ⟨j + 1, Y ++ [(x, Value.slice ua x.l.length uc)], by omega, by go_num, by rw [List.length_append, HYN.out]; rfl, HYN2.out, HST.out, HUN.out, HAN.out, HS1.out, HB.out⟩
   case measure => simp [intOf]; omega
  ·have hj1 : ¬ ((j : Int) < n) := by omega
   have hjn : j = n := by omega
   subst hjn
   have HF : Hid (Y.map Prod.fst = l) := by show _ = _; rw [HYL.out, HL.out, List.take_length]
   have HOF : Hid (wr.ownsRow w.heap.size 44 10 (.slice (some ⟨w.heap.size, 0, none⟩) j j) j (JJ Y)) := by have h1 := HOW.out; rw [HYN.out, Nat.sub_self, List.replicate_zero, List.append_nil] at h1; exact h1
   go_wp2
   go_ret
   exact ⟨rfl, Y, HF.out, HOF.out, HU.out, HAP.out, HBE.out⟩
end Go.Proofs.YtepfinenocpneaaGreat
