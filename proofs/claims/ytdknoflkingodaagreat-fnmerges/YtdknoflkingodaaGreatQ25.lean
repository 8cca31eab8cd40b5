/- The cells behind one, and those behind them, as the specific. -/
import Derived.Test.YtdknoflkingodaaGreatQ24
set_option maxHeartbeats 16000000
namespace Go.Proofs.YtdknoflkingodaaGreat
open Value (int)
open IntKind (i64)
set_option maxRecDepth 100000
set_option linter.unusedVariables false
open Go.RowKit
theorem Ja2 (a b : Ce) (w : World) :
  Calls Tryz.prog 245 #[.agg #[.string a.o, int i64 a.r, int i64 a.s, int i64 a.t, int i64 a.x, int i64 a.z, int i64 a.v, .bool a.g], .agg #[.string b.o, int i64 b.r, int i64 b.s, int i64 b.t, int i64 b.x, int i64 b.z, int i64 b.v, .bool b.g]] w fun e w' => e = .returned (.bool (Zo a b)) ∧ Below w.heap.size w w' := by
 have hb : ∀ o1 o2, Below w.heap.size w ((w.alloc o1).alloc o2) := fun o1 o2 => ((Below.refl _ _).alloc (Nat.le_refl _) _).alloc (by simp) _
 unfold Zo
 by_cases ht : a.t = b.t
 ·have b1 : (a.t != b.t) = false := by simp [ht]
  rw [if_pos ht]
  by_cases hr : a.r = b.r
  ·have b2 : (a.r != b.r) = false := by simp [hr]
   rw [if_pos hr]
   clear ht hr
   go_enter Tryz.func245, Tryz.ntmps245
   go_wp2
   go_ret
   exact ⟨rfl, hb _ _⟩
  ·have b2 : (a.r != b.r) = true := by simp [hr]
   rw [if_neg hr]
   clear ht hr
   go_enter Tryz.func245, Tryz.ntmps245
   go_wp2
   go_ret
   exact ⟨rfl, hb _ _⟩
 ·have b1 : (a.t != b.t) = true := by simp [ht]
  rw [if_neg ht]
  clear ht
  go_enter Tryz.func245, Tryz.ntmps245
  go_wp2
  go_ret
  exact ⟨rfl, hb _ _⟩
def Grew (w : World) (u : Value) (w' : World) (v : Value) : Prop := w.grownBy w' u.ownBlock ∧ (v.ownBlock = u.ownBlock ∨ ∀ j, v.ownBlock = some j → w.heap.size ≤ j)
theorem Grew.refl (w : World) (u : Value) : Grew w u w u := ⟨⟨rfl, rfl, rfl, Nat.le_refl _, fun _ _ _ => rfl⟩, .inl rfl⟩
theorem Grew.trans {w w1 w2 : World} {u v x : Value} (h : Grew w u w1 v) (k : Grew w1 v w2 x) : Grew w u w2 x := by
 obtain ⟨h1, h2⟩ := h
 obtain ⟨k1, k2⟩ := k
 refine ⟨⟨k1.os.trans h1.os, k1.tape.trans h1.tape, k1.output.trans h1.output, Nat.le_trans h1.size k1.size, fun j hj hn => ?_⟩, ?_⟩
 ·refine (k1.block j (Nat.lt_of_lt_of_le hj h1.size) (fun e => ?_)).trans (h1.block j hj hn)
  rcases h2 with h2 | h2
  ·exact hn (e.trans h2)
  ·have := h2 j e.symm; omega
 ·rcases k2 with k2 | k2
  ·rcases h2 with h2 | h2
   ·exact .inl (k2.trans h2)
   ·exact .inr (fun j hj => h2 j (k2 ▸ hj))
  ·exact .inr (fun j hj => Nat.le_trans h1.size (k2 j hj))
theorem Grew.next {w w1 w2 : World} {u v : Value} (h : Grew w u w1 v) (hb : Below w1.heap.size w1 w2) : Grew w u w2 v :=
 h.trans ⟨⟨hb.os, hb.tape, hb.output, hb.size, fun j hj _ => hb.block j hj⟩, .inl rfl⟩
theorem Grew.start {w w1 : World} (u : Value) (hb : Below w.heap.size w w1) : Grew w u w1 u := (Grew.refl w u).next hb
theorem Grew.below {w w' : World} {u v : Value} {B : Nat} (h : Grew w u w' v) (hB : B ≤ w.heap.size) (hu : ∀ j, u.ownBlock = some j → B ≤ j) : Below B w w' :=
 ⟨h.1.os, h.1.tape, h.1.output, h.1.size, fun j hj => h.1.block j (Nat.lt_of_lt_of_le hj hB) (fun e => by have := hu j e.symm; omega)⟩
theorem Row.grew {w w' : World} {u v : Value} {g : Nat} {cs : Array Value} {T : TypeId} (h : Row w g cs T) (k : Grew w u w' v) (hg : g < w.heap.size) (hu : ∀ j, u.ownBlock = some j → g ≠ j) : Row w' g cs T :=
 (k.1.block g hg (fun e => hu g e.symm rfl)).trans h
theorem ceC.grew {w w' : World} {u v : Value} {g k : Nat} {a : Ce} (h : ceC w g k a) (q : Grew w u w' v) (hg : g < w.heap.size) (hu : ∀ j, u.ownBlock = some j → g ≠ j) : ceC w' g k a := by
 have e : ∀ i, w'.cell? ⟨g, i, none⟩ = w.cell? ⟨g, i, none⟩ := fun i => World.cell?_of_block (q.1.block g hg (fun e => hu g e.symm rfl))
 unfold ceC at *
 simp only [e]
 exact h
def Ja5 (w0 : World) (v : Value) (w : World) (L : List Ce) : Ending → World → Prop := fun e w' => ∃ v', e = .returned v' ∧ w'.ownsRow w0.heap.size 35 8 v' L.length (ceV L) ∧ Grew w v w' v'
theorem Jda (sub : Ce → List Ce) (K : List Ce) (k : Nat) (h : k < K.length) : (K.take (k + 1)).flatMap (fun c => c :: sub c) = (K.take k).flatMap (fun c => c :: sub c) ++ [K[k]] ++ sub K[k] := by
 rw [ZK K k h, List.flatMap_append]; simp
theorem JaE (sub : Ce → List Ce) (K : List Ce) : K.length ≤ (K.flatMap fun k => k :: sub k).length := by
 induction K with
 | nil => simp
 | cons a K ih => simp only [List.flatMap_cons, List.length_append, List.length_cons]; omega
theorem Jbj (sub : Ce → List Ce) (K : List Ce) (k : Nat) : ((K.take k).flatMap (fun c => c :: sub c)).length ≤ (K.flatMap (fun c => c :: sub c)).length := by
 have h := congrArg (fun l : List Ce => (l.flatMap (fun c => c :: sub c)).length) (List.take_append_drop k K)
 simp only [List.flatMap_append, List.length_append] at h
 omega
theorem Gi (S : Sta) (u0 u1 u2 u3 : Value) (o : ByteArray) (rx rz : Int) (sub : Ce → List Ce) (w0 : World) (hn : S.C.length ≤ 1048576) (h0 : StAt w0 S u0 u1 u2 u3)
  (hrec : ∀ k ∈ J0 S.C o rx rz, ∀ (P : List Ce) (v : Value) (w : World), Below w0.heap.size w0 w → w.ownsRow w0.heap.size 35 8 v P.length (ceV P) → P.length + (sub k).length ≤ 1048576 → Calls Tryz.prog 213 #[.agg #[u0, u1, u2, u3], .string o, .agg #[int i64 k.r, int i64 k.s], v] w (Ja5 w0 v w (P ++ sub k)))
  (P : List Ce) (v : Value) (w : World) (hb : Below w0.heap.size w0 w) (hown : w.ownsRow w0.heap.size 35 8 v P.length (ceV P)) (hlen : P.length + ((J0 S.C o rx rz).flatMap fun k => k :: sub k).length ≤ 1048576) :
  Calls Tryz.prog 213 #[.agg #[u0, u1, u2, u3], .string o, .agg #[int i64 rx, int i64 rz], v] w (Ja5 w0 v w (P ++ (J0 S.C o rx rz).flatMap fun k => k :: sub k)) := by
 obtain ⟨a0, c0, a1, c1, a2, c2, a3, c3, rfl, rfl, rfl, rfl⟩ := h0.shape
 have hS := h0.below hb
 obtain ⟨l, hl⟩ : ∃ l, l = S.C := ⟨_, rfl⟩
 obtain ⟨N, hN⟩ : ∃ N, N = S.C.length := ⟨_, rfl⟩
 have HL : Hid (N = l.length) := by show _ = _; rw [hl]; exact hN
 obtain ⟨W, hW⟩ : ∃ W, W = (w.alloc (.cells #[.slice a0 S.l.length c0, .slice a1 S.T.length c1, .slice a2 S.L.length c2, .slice a3 S.C.length c3] 29)).alloc (.cells #[int i64 rx, int i64 rz] 33) := ⟨_, rfl⟩
 have hR1 : Row W w.heap.size #[.slice a0 S.l.length c0, .slice a1 S.T.length c1, .slice a2 S.L.length c2, .slice a3 S.C.length c3] 29 := by rw [hW]; exact (Jb w _ _ rfl).alloc _
 have hR2 : Row W (w.heap.size + 1) #[int i64 rx, int i64 rz] 33 := by rw [hW]; exact Jb _ _ _ (by simp)
 have hB0 : Below w.heap.size w W := by rw [hW]; exact ((Below.refl _ _).alloc (Nat.le_refl _) _).alloc (by simp) _
 have hWs : W.heap.size = w.heap.size + 1 + 1 := by rw [hW]; simp
 have HGA : Hid (CeG W a3 l) := by
  obtain ⟨x, y, hq, hg⟩ := (hS.below hB0).2.2.2
  simp only [Value.slice.injEq] at hq
  rw [hl, hq.1]; exact hg
 rw [← hN] at hR1 hW hrec hn ⊢
 rw [← hl] at hrec hlen ⊢
 have HRE : Hid (∀ k ∈ J0 l o rx rz, ∀ (P : List Ce) (v : Value) (w : World), Below w0.heap.size w0 w → w.ownsRow w0.heap.size 35 8 v P.length (ceV P) → P.length + (sub k).length ≤ 1048576 → Calls Tryz.prog 213 #[.agg #[.slice a0 S.l.length c0, .slice a1 S.T.length c1, .slice a2 S.L.length c2, .slice a3 N c3], .string o, .agg #[int i64 k.r, int i64 k.s], v] w (Ja5 w0 v w (P ++ sub k))) := hrec
 have HP : Hid (∀ wx, Below W.heap.size W wx → Row wx w.heap.size #[.slice a0 S.l.length c0, .slice a1 S.T.length c1, .slice a2 S.L.length c2, .slice a3 N c3] 29) := fun wx h => hR1.next h
 have HQ : Hid (∀ wx, Below W.heap.size W wx → Row wx (w.heap.size + 1) #[int i64 rx, int i64 rz] 33) := fun wx h => hR2.next h
 have HB := Ja hB0
 have HB00 := Ja hb
 have HOV := Ja hown
 have HLEN := Ja hlen
 obtain ⟨X, hX⟩ : ∃ X, X = W.alloc (.cells #[] 35) := ⟨_, rfl⟩
 have HO0 : Hid (X.ownsRow W.heap.size 35 8 (.slice (some ⟨W.heap.size, 0, none⟩) 0 0) (J0 (l.take 0) o rx rz).length (ceV (J0 (l.take 0) o rx rz))) := by rw [hX]; exact Jy W 35 8 rfl (Nat.le_refl _)
 have HBX0 : Hid (Below W.heap.size W X) := by rw [hX]; exact (Below.refl _ _).alloc (Nat.le_refl _) _
 have HX : Hid (((w.alloc (.cells #[.slice a0 S.l.length c0, .slice a1 S.T.length c1, .slice a2 S.L.length c2, .slice a3 N c3] 29)).alloc (.cells #[int i64 rx, int i64 rz] 33)).alloc (.cells #[] 35) = X) := by rw [← hW]; exact hX.symm
 have HWS := Ja hWs
 have HALL : Hid (J0 (l.take N) o rx rz = J0 l o rx rz) := by show _ = _; rw [HL.out, List.take_length]
 obtain ⟨i0, hi, hz0, hz1, hz2⟩ := info_parts Gs
 clear hS hX hW hR1 hR2 hB0 hrec hown hlen hb h0 hN hl
 go_enter Tryz.func213, Tryz.ntmps213
 go_wp2
 rw [HX.out]
 try rw [show w.heap.size + 1 + 1 = W.heap.size from hWs.symm]
 clear HX hWs
 go_loopw [9, 10] (fun x' z' wr => ∃ k : Nat, k ≤ N ∧ z' = int i64 k ∧ wr.ownsRow W.heap.size 35 8 x' (J0 (l.take k) o rx rz).length (ceV (J0 (l.take k) o rx rz)) ∧ Below W.heap.size W wr) (fun _ z' _ => N - (intOf z').toNat)
 case atStart => exact ⟨0, Nat.zero_le _, rfl, HO0.out, HBX0.out⟩
 case round =>
  clear HO0 HBX0
  obtain ⟨k, hk, rfl, hown, hbel⟩ := hrel
  have HOW := Ja hown
  have HBE := Ja hbel
  have d3 := (HP.out wr hbel).cell 3 rfl
  have e0 := (HQ.out wr hbel).cell 0 rfl
  have e1 := (HQ.out wr hbel).cell 1 rfl
  have hsz := hbel.size
  clear hown
  by_cases hlt : k < N
  ·have hkl : k < l.length := by rw [← HL.out]; exact hlt
   obtain ⟨g, f, rfl, hg, hcc⟩ := HGA.out (by omega)
   have hk1 : (k : Int) < N := by omega
   have hk0 : (0 : Int) ≤ k := by omega
   have q := (hcc k hkl).below hbel hg
   have HKS : Hid (J0 (l.take (k + 1)) o rx rz = if K8 o rx rz l[k] then ins (fun y => Zo l[k] y) l[k] (J0 (l.take k) o rx rz) else J0 (l.take k) o rx rz) := by show _ = _; rw [ZK l k hkl, Y5]
   have hkl2 : (J0 (l.take k) o rx rz).length ≤ k := Nat.le_trans (Jd4 _ _ _ _) (by rw [List.length_take]; omega)
   generalize l[k] = x at *
   unfold ceC at q
   obtain ⟨q0, q1, q2, q3, q4, q5, q6, q7⟩ := q
   obtain ⟨Z, hZ⟩ : ∃ Z, Z = wr.alloc (.cells #[.string x.o, int i64 x.r, int i64 x.s, int i64 x.t, int i64 x.x, int i64 x.z, int i64 x.v, .bool x.g] 35) := ⟨_, rfl⟩
   have hRX : Row Z wr.heap.size #[.string x.o, int i64 x.r, int i64 x.s, int i64 x.t, int i64 x.x, int i64 x.z, int i64 x.v, .bool x.g] 35 := by rw [hZ]; exact Jb wr _ _ rfl
   have hBZ : Below W.heap.size W Z := by rw [hZ]; exact hbel.alloc hsz _
   have hZs : Z.heap.size = wr.heap.size + 1 := by rw [hZ]; simp
   have hOZ : Z.ownsRow W.heap.size 35 8 u9 (J0 (l.take k) o rx rz).length (ceV (J0 (l.take k) o rx rz)) := by rw [hZ]; exact HOW.out.alloc _
   have heq : ∀ wx, (Op.equalIn 10000 33 (.agg #[int i64 x.x, int i64 x.z]) (.agg #[int i64 rx, int i64 rz])).run Tryz.prog wx = .ok (decide (x.x = rx ∧ x.z = rz)) wx := fun wx => by
    rw [GG]; by_cases h1 : x.x = rx <;> by_cases h2 : x.z = rz <;> simp [h1, h2]
   have hgd := ZL
   have HZ : Hid (wr.alloc (.cells #[.string x.o, int i64 x.r, int i64 x.s, int i64 x.t, int i64 x.x, int i64 x.z, int i64 x.v, .bool x.g] 35) = Z) := hZ.symm
   have z0 := (HQ.out Z hBZ).cell 0 rfl
   have z1 := (HQ.out Z hBZ).cell 1 rfl
   rw [hZ] at z0 z1
   by_cases h1 : x.o = o
   case neg =>
    have b1 := Ze x.o o h1
    have HE : Hid (J0 (l.take (k + 1)) o rx rz = J0 (l.take k) o rx rz) := by show _ = _; rw [HKS.out, if_neg (by unfold K8; simp [h1])]
    have HOZ := Ja hOZ
    have HBZ := Ja hBZ
    clear h1 hRX hBZ hOZ hcc hkl hbel hZ HOW HKS heq
    go_wp2
    rw [HZ.out]
    go_roundw
    case rel => exact ⟨k + 1, by omega, by go_num, by rw [HE.out]; exact HOZ.out, HBZ.out⟩
    case measure => simp [intOf]; omega
   have b1 := Kx x.o o h1
   by_cases h2 : x.x = rx ∧ x.z = rz
   case neg =>
    rw [decide_eq_false h2] at heq
    have HE : Hid (J0 (l.take (k + 1)) o rx rz = J0 (l.take k) o rx rz) := by show _ = _; rw [HKS.out, if_neg (by unfold K8; simp; intro _ h3; exact fun h4 => h2 ⟨h3, h4⟩)]
    have HOZ := Ja hOZ
    have HBZ := Ja hBZ
    clear h1 h2 hRX hBZ hOZ hcc hkl hbel hZ HOW HKS
    go_wp2
    rw [HZ.out]
    go_roundw
    case rel => exact ⟨k + 1, by omega, by go_num, by rw [HE.out]; exact HOZ.out, HBZ.out⟩
    case measure => simp [intOf]; omega
   rw [decide_eq_true h2] at heq
   have HKE : Hid (J0 (l.take (k + 1)) o rx rz = ins (fun y => Zo x y) x (J0 (l.take k) o rx rz)) := by show _ = _; rw [HKS.out, if_pos (by unfold K8; simp [h1, h2.1, h2.2])]
   obtain ⟨K, hK⟩ : ∃ K, K = J0 (l.take k) o rx rz := ⟨_, rfl⟩
   obtain ⟨m, hm⟩ : ∃ m, m = K.length := ⟨_, rfl⟩
   have HM : Hid (m = K.length) := hm
   rw [← hK] at HKE hOZ hkl2
   rw [← hm] at hkl2
   have HEN : Hid (∀ (Q : List Ce) (b : Bool), Zd (fun y => Zo x y) x (K.take m) = (Q, b) → ins (fun y => Zo x y) x K = if b then Q else Q ++ [x]) := fun Q b h => by
    rw [hm, List.take_length] at h
    rw [← UC, h]
   obtain ⟨aa, ca, rfl, hga⟩ := CeAt.own hOZ rfl
   have HGK : Hid (CeG Z aa K) := hga
   have HBX : Hid (∀ wx, Below Z.heap.size Z wx → wx.cell? ⟨wr.heap.size, 0, none⟩ = some (.string x.o) ∧ wx.cell? ⟨wr.heap.size, 1, none⟩ = some (int i64 x.r) ∧ wx.cell? ⟨wr.heap.size, 2, none⟩ = some (int i64 x.s) ∧ wx.cell? ⟨wr.heap.size, 3, none⟩ = some (int i64 x.t) ∧ wx.cell? ⟨wr.heap.size, 4, none⟩ = some (int i64 x.x) ∧ wx.cell? ⟨wr.heap.size, 5, none⟩ = some (int i64 x.z) ∧ wx.cell? ⟨wr.heap.size, 6, none⟩ = some (int i64 x.v) ∧ wx.cell? ⟨wr.heap.size, 7, none⟩ = some (.bool x.g)) := fun wx h => ⟨(hRX.next h).cell 0 rfl, (hRX.next h).cell 1 rfl, (hRX.next h).cell 2 rfl, (hRX.next h).cell 3 rfl, (hRX.next h).cell 4 rfl, (hRX.next h).cell 5 rfl, (hRX.next h).cell 6 rfl, (hRX.next h).cell 7 rfl⟩
   have HN0 : Hid ((Z.alloc (.cells #[] 35)).ownsRow Z.heap.size 35 8 (.slice (some ⟨Z.heap.size, 0, none⟩) 0 0) ([] : List Ce).length (ceV [])) := Jy Z 35 8 rfl (Nat.le_refl _)
   have HNB : Hid (Below Z.heap.size Z (Z.alloc (.cells #[] 35))) := (Below.refl _ _).alloc (Nat.le_refl _) _
   have HBZ := Ja hBZ
   have HZS := Ja hZs
   rw [← hm]
   clear h1 h2 hRX hBZ hOZ hcc hkl hbel hZ HOW HKS hga hm
   go_wp2
   rw [HZ.out]
   try rw [show wr.heap.size + 1 = Z.heap.size from hZs.symm]
   clear HZ hZs q0 q1 q2 q3 q4 q5 q6 q7 heq hgd d3 e0 e1 z0 z1
   generalize wr = wo at *
   go_loopw [12, 13, 14] (fun x' q z' wr => ∃ (j : Nat) (Q : List Ce) (b : Bool), j ≤ m ∧ z' = int i64 j ∧ q = .bool b ∧ Q.length ≤ j + 1 ∧ (b = false → Q.length ≤ j) ∧ Zd (fun y => Zo x y) x (K.take j) = (Q, b) ∧ wr.ownsRow Z.heap.size 35 8 x' Q.length (ceV Q) ∧ Below Z.heap.size Z wr) (fun _ _ z' _ => m - (intOf z').toNat)
   case atStart => exact ⟨0, [], false, Nat.zero_le _, rfl, rfl, by simp, by simp, rfl, HN0.out, HNB.out⟩
   case round =>
    clear HN0 HNB
    obtain ⟨j, Q, b, hj, rfl, rfl, hpl, hpf, hin, hown, hbel⟩ := hrel
    have HOW := Ja hown
    have HBE := Ja hbel
    have HIN := Ja hin
    have HPF := Ja hpf
    have hsq := hbel.size
    clear hown hin hpf
    by_cases hjm : j < m
    ·have hjl : j < K.length := by rw [← HM.out]; exact hjm
     obtain ⟨gk, fk, rfl, hgk, hck⟩ := HGK.out (by omega)
     have hj1 : (j : Int) < m := by omega
     have hj0 : (0 : Int) ≤ j := by omega
     have HCC : Hid (∀ wx, Below Z.heap.size Z wx → ceC wx gk (fk + j * 8) K[j]) := fun wx h => (hck j hjl).below h hgk
     have HIS := Ja (KH (fun y => Zo x y) x (K.take j) K[j])
     replace HIS : Hid (Zd (fun y => Zo x y) x (K.take (j + 1)) = if b = false ∧ Zo x K[j] = true then (Q ++ [x] ++ [K[j]], true) else (Q ++ [K[j]], b)) := by
      show _ = _
      rw [ZK K j hjl, HIS.out, HIN.out]
     generalize K[j] = y at *
     have HS2 : Hid (∀ wx, Below Z.heap.size Z wx → wx.cell? ⟨wo.heap.size, 0, none⟩ = some (.string x.o) ∧ wx.cell? ⟨wo.heap.size, 1, none⟩ = some (int i64 x.r) ∧ wx.cell? ⟨wo.heap.size, 2, none⟩ = some (int i64 x.s) ∧ wx.cell? ⟨wo.heap.size, 3, none⟩ = some (int i64 x.t) ∧ wx.cell? ⟨wo.heap.size, 4, none⟩ = some (int i64 x.x) ∧ wx.cell? ⟨wo.heap.size, 5, none⟩ = some (int i64 x.z) ∧ wx.cell? ⟨wo.heap.size, 6, none⟩ = some (int i64 x.v) ∧ wx.cell? ⟨wo.heap.size, 7, none⟩ = some (.bool x.g) ∧ wx.cell? ⟨gk, fk + j * 8, none⟩ = some (.string y.o) ∧ wx.cell? ⟨gk, fk + j * 8 + 1, none⟩ = some (int i64 y.r) ∧ wx.cell? ⟨gk, fk + j * 8 + 2, none⟩ = some (int i64 y.s) ∧ wx.cell? ⟨gk, fk + j * 8 + 3, none⟩ = some (int i64 y.t) ∧ wx.cell? ⟨gk, fk + j * 8 + 4, none⟩ = some (int i64 y.x) ∧ wx.cell? ⟨gk, fk + j * 8 + 5, none⟩ = some (int i64 y.z) ∧ wx.cell? ⟨gk, fk + j * 8 + 6, none⟩ = some (int i64 y.v) ∧ wx.cell? ⟨gk, fk + j * 8 + 7, none⟩ = some (.bool y.g)) := fun wx h => by
      obtain ⟨m0, m1, m2, m3, m4, m5, m6, m7⟩ := HBX.out wx h
      have q := HCC.out wx h
      unfold ceC at q
      obtain ⟨q0, q1, q2, q3, q4, q5, q6, q7⟩ := q
      exact ⟨m0, m1, m2, m3, m4, m5, m6, m7, q0, q1, q2, q3, q4, q5, q6, q7⟩
     clear hck hjl
     cases b with
     | true =>
      have HIE : Hid (Zd (fun y => Zo x y) x (K.take (j + 1)) = (Q ++ [y], true)) := by show _ = _; rw [HIS.out, if_neg (by simp)]
      clear HIS HIN
      go_wp2
      go_quiet (fail)
      have HBV := Ja (Jh HBE.out nq)
      have hoq := Jf HOW.out (Jh (Below.refl _ _) nq)
      generalize wr.drewN nq = wv at *
      clear HBE HOW hbel
      have hqs := HBV.out.size
      have HOWN := Ja (hoq.alloc (.cells #[.string y.o, int i64 y.r, int i64 y.s, int i64 y.t, int i64 y.x, int i64 y.z, int i64 y.v, .bool y.g] 35))
      have HOB : Hid (∀ k', u12.ownBlock = some k' → Z.heap.size ≤ k') := fun k' hk' => (hoq.lt k' hk').1
      have HNN : Hid (∀ j u, [.string y.o, int i64 y.r, int i64 y.s, int i64 y.t, int i64 y.x, int i64 y.z, int i64 y.v, .bool y.g][j]? = some u → (wv.alloc (.cells #[.string y.o, int i64 y.r, int i64 y.s, int i64 y.t, int i64 y.x, int i64 y.z, int i64 y.v, .bool y.g] 35)).cell? (Addr.add ⟨wv.heap.size, 0, none⟩ j) = some u) := Ji wv [.string y.o, int i64 y.r, int i64 y.s, int i64 y.t, int i64 y.x, int i64 y.z, int i64 y.v, .bool y.g] 35 rfl
      have q := HCC.out wv HBV.out
      unfold ceC at q
      obtain ⟨q0, q1, q2, q3, q4, q5, q6, q7⟩ := q
      clear hoq
      go_wp2_with (at_builtin; refine wpList_append_own _ rfl _ _ 27 rfl Z.heap.size 35 i0 (.agg #[.string ⟨#[]⟩, int i64 0, int i64 0, int i64 0, int i64 0, int i64 0, int i64 0, .bool false]) 8 72 Tryz.underlying27 hi hz0 hz1 hz2 rfl (by decide) _ _ _ rfl HOWN.out ⟨wv.heap.size, 0, none⟩ 1 1 [.string y.o, int i64 y.r, int i64 y.s, int i64 y.t, int i64 y.x, int i64 y.z, int i64 y.v, .bool y.g] rfl rfl HNN.out (by intro u' hu'; simp at hu'; rcases hu' with rfl | rfl | rfl | rfl | rfl | rfl | rfl | rfl <;> rfl) (by unfold maxLen; omega) (by omega) (by simp; omega) ?_)
      intro v2 w3 hown3 hgrow hne
      have hb3 : Below Z.heap.size Z w3 := (HBV.out.alloc hqs _).grown hgrow (by simp; omega) HOB.out
      have HO3 : Hid (w3.ownsRow Z.heap.size 35 8 v2 (Q ++ [y]).length (ceV (Q ++ [y]))) := by
       show World.ownsRow _ _ _ _ _ _ _
       rw [Zl, Jl]; exact hown3
      clear hown3 hgrow hne HOWN HOB HNN q0 q1 q2 q3 q4 q5 q6 q7
      go_wp2
      go_roundw
      case rel => exact ⟨j + 1, Q ++ [y], true, by omega, by go_num, rfl, by simp; omega, (fun h => by cases h), HIE.out, HO3.out, hb3⟩
      case measure => simp [intOf]; omega
     | false =>
      have hpk := HPF.out (by simp)
      have HBF := Ja (fun wx => Ja2 x y wx)
      obtain ⟨bb, hbb⟩ : ∃ bb, bb = Zo x y := ⟨_, rfl⟩
      rw [← hbb] at HBF HIS
      have hVd : Below Z.heap.size Z wr.drew := hbel.drew
      have SS := HS2.out _ hVd
      obtain ⟨s0, s1, s2, s3, s4, s5, s6, s7, s8, s9, s10, s11, s12, s13, s14, s15⟩ := HS2.out _ hbel
      clear hbb HIN
      go_wp2
      go_region_held3 (fun w' => w'.cell? ⟨wo.heap.size, 0, none⟩ = some (.string x.o) ∧ w'.cell? ⟨wo.heap.size, 1, none⟩ = some (int i64 x.r) ∧ w'.cell? ⟨wo.heap.size, 2, none⟩ = some (int i64 x.s) ∧ w'.cell? ⟨wo.heap.size, 3, none⟩ = some (int i64 x.t) ∧ w'.cell? ⟨wo.heap.size, 4, none⟩ = some (int i64 x.x) ∧ w'.cell? ⟨wo.heap.size, 5, none⟩ = some (int i64 x.z) ∧ w'.cell? ⟨wo.heap.size, 6, none⟩ = some (int i64 x.v) ∧ w'.cell? ⟨wo.heap.size, 7, none⟩ = some (.bool x.g) ∧ w'.cell? ⟨gk, fk + j * 8, none⟩ = some (.string y.o) ∧ w'.cell? ⟨gk, fk + j * 8 + 1, none⟩ = some (int i64 y.r) ∧ w'.cell? ⟨gk, fk + j * 8 + 2, none⟩ = some (int i64 y.s) ∧ w'.cell? ⟨gk, fk + j * 8 + 3, none⟩ = some (int i64 y.t) ∧ w'.cell? ⟨gk, fk + j * 8 + 4, none⟩ = some (int i64 y.x) ∧ w'.cell? ⟨gk, fk + j * 8 + 5, none⟩ = some (int i64 y.z) ∧ w'.cell? ⟨gk, fk + j * 8 + 6, none⟩ = some (int i64 y.v) ∧ w'.cell? ⟨gk, fk + j * 8 + 7, none⟩ = some (.bool y.g)) (first | exact SS | exact SS2 | go_keep) (first
       | (go_at_call 245; refine (HBF.out _).mono ?_; rintro e wv ⟨rfl, hb2⟩; have hV2 : Below Z.heap.size Z wv := hVd.trans (hb2.mono hVd.size); have SS2 := HS2.out _ hV2))
      have hoq := Jf (World.ownsRow.drew HOW.out) hb2
      have HBV := Ja hV2
      clear SS SS2 hVd hb2 hV2 s0 s1 s2 s3 s4 s5 s6 s7 s8 s9 s10 s11 s12 s13 s14 s15 hbel HBF HOW HBE
      have hqs := HBV.out.size
      have HOB : Hid (∀ k', u12.ownBlock = some k' → Z.heap.size ≤ k') := fun k' hk' => (hoq.lt k' hk').1
      cases bb with
      | false =>
       have HIE : Hid (Zd (fun y => Zo x y) x (K.take (j + 1)) = (Q ++ [y], false)) := by show _ = _; rw [HIS.out, if_neg (by simp)]
       have HOWN := Ja (hoq.alloc (.cells #[.string y.o, int i64 y.r, int i64 y.s, int i64 y.t, int i64 y.x, int i64 y.z, int i64 y.v, .bool y.g] 35))
       have HNN : Hid (∀ j u, [.string y.o, int i64 y.r, int i64 y.s, int i64 y.t, int i64 y.x, int i64 y.z, int i64 y.v, .bool y.g][j]? = some u → (wv.alloc (.cells #[.string y.o, int i64 y.r, int i64 y.s, int i64 y.t, int i64 y.x, int i64 y.z, int i64 y.v, .bool y.g] 35)).cell? (Addr.add ⟨wv.heap.size, 0, none⟩ j) = some u) := Ji wv [.string y.o, int i64 y.r, int i64 y.s, int i64 y.t, int i64 y.x, int i64 y.z, int i64 y.v, .bool y.g] 35 rfl
       have q := HCC.out wv HBV.out
       unfold ceC at q
       obtain ⟨q0, q1, q2, q3, q4, q5, q6, q7⟩ := q
       clear hoq HIS
       go_wp2_with (at_builtin; refine wpList_append_own _ rfl _ _ 27 rfl Z.heap.size 35 i0 (.agg #[.string ⟨#[]⟩, int i64 0, int i64 0, int i64 0, int i64 0, int i64 0, int i64 0, .bool false]) 8 72 Tryz.underlying27 hi hz0 hz1 hz2 rfl (by decide) _ _ _ rfl HOWN.out ⟨wv.heap.size, 0, none⟩ 1 1 [.string y.o, int i64 y.r, int i64 y.s, int i64 y.t, int i64 y.x, int i64 y.z, int i64 y.v, .bool y.g] rfl rfl HNN.out (by intro u' hu'; simp at hu'; rcases hu' with rfl | rfl | rfl | rfl | rfl | rfl | rfl | rfl <;> rfl) (by unfold maxLen; omega) (by omega) (by simp; omega) ?_)
       intro v2 w3 hown3 hgrow hne
       have hb3 : Below Z.heap.size Z w3 := (HBV.out.alloc hqs _).grown hgrow (by simp; omega) HOB.out
       have HO3 : Hid (w3.ownsRow Z.heap.size 35 8 v2 (Q ++ [y]).length (ceV (Q ++ [y]))) := by
        show World.ownsRow _ _ _ _ _ _ _
        rw [Zl, Jl]; exact hown3
       clear hown3 hgrow hne HOWN HOB HNN q0 q1 q2 q3 q4 q5 q6 q7
       go_wp2
       go_roundw
       case rel => exact ⟨j + 1, Q ++ [y], false, by omega, by go_num, rfl, by simp; omega, (fun _ => by simp; omega), HIE.out, HO3.out, hb3⟩
       case measure => simp [intOf]; omega
      | true =>
       have HIE : Hid (Zd (fun y => Zo x y) x (K.take (j + 1)) = (Q ++ [x] ++ [y], true)) := by show _ = _; rw [HIS.out, if_pos (by simp)]
       have HOWN := Ja (hoq.alloc (.cells #[.string x.o, int i64 x.r, int i64 x.s, int i64 x.t, int i64 x.x, int i64 x.z, int i64 x.v, .bool x.g] 35))
       have HNN : Hid (∀ j u, [.string x.o, int i64 x.r, int i64 x.s, int i64 x.t, int i64 x.x, int i64 x.z, int i64 x.v, .bool x.g][j]? = some u → (wv.alloc (.cells #[.string x.o, int i64 x.r, int i64 x.s, int i64 x.t, int i64 x.x, int i64 x.z, int i64 x.v, .bool x.g] 35)).cell? (Addr.add ⟨wv.heap.size, 0, none⟩ j) = some u) := Ji wv [.string x.o, int i64 x.r, int i64 x.s, int i64 x.t, int i64 x.x, int i64 x.z, int i64 x.v, .bool x.g] 35 rfl
       obtain ⟨m0, m1, m2, m3, m4, m5, m6, m7⟩ := HBX.out wv HBV.out
       clear hoq HIS
       go_wp2_with (at_builtin; refine wpList_append_own _ rfl _ _ 27 rfl Z.heap.size 35 i0 (.agg #[.string ⟨#[]⟩, int i64 0, int i64 0, int i64 0, int i64 0, int i64 0, int i64 0, .bool false]) 8 72 Tryz.underlying27 hi hz0 hz1 hz2 rfl (by decide) _ _ _ rfl HOWN.out ⟨wv.heap.size, 0, none⟩ 1 1 [.string x.o, int i64 x.r, int i64 x.s, int i64 x.t, int i64 x.x, int i64 x.z, int i64 x.v, .bool x.g] rfl rfl HNN.out (by intro u' hu'; simp at hu'; rcases hu' with rfl | rfl | rfl | rfl | rfl | rfl | rfl | rfl <;> rfl) (by unfold maxLen; omega) (by omega) (by simp; omega) ?_)
       intro v2 w3 hown3 hgrow hne
       have hb3 : Below Z.heap.size Z w3 := (HBV.out.alloc hqs _).grown hgrow (by simp; omega) HOB.out
       have hs3 := hb3.size
       have HO2 : Hid ((w3.alloc (.cells #[.string y.o, int i64 y.r, int i64 y.s, int i64 y.t, int i64 y.x, int i64 y.z, int i64 y.v, .bool y.g] 35)).ownsRow Z.heap.size 35 8 v2 (Q ++ [x]).length (ceV (Q ++ [x]))) := by
        refine World.ownsRow.alloc ?_ _
        rw [Zl, Jl]; exact hown3
       have HNN2 : Hid (∀ j u, [.string y.o, int i64 y.r, int i64 y.s, int i64 y.t, int i64 y.x, int i64 y.z, int i64 y.v, .bool y.g][j]? = some u → (w3.alloc (.cells #[.string y.o, int i64 y.r, int i64 y.s, int i64 y.t, int i64 y.x, int i64 y.z, int i64 y.v, .bool y.g] 35)).cell? (Addr.add ⟨w3.heap.size, 0, none⟩ j) = some u) := Ji w3 [.string y.o, int i64 y.r, int i64 y.s, int i64 y.t, int i64 y.x, int i64 y.z, int i64 y.v, .bool y.g] 35 rfl
       have HOB2 : Hid (∀ k', v2.ownBlock = some k' → Z.heap.size ≤ k') := fun k' hk' => (hown3.lt k' hk').1
       have hlp : (Q ++ [x]).length = Q.length + 1 := Jl _ _
       have q := HCC.out w3 hb3
       unfold ceC at q
       obtain ⟨q0, q1, q2, q3, q4, q5, q6, q7⟩ := q
       have HB3 := Ja hb3
       clear hown3 hgrow hne HOWN HOB HNN m0 m1 m2 m3 m4 m5 m6 m7 hb3
       go_wp2_with (at_builtin; refine wpList_append_own _ rfl _ _ 27 rfl Z.heap.size 35 i0 (.agg #[.string ⟨#[]⟩, int i64 0, int i64 0, int i64 0, int i64 0, int i64 0, int i64 0, .bool false]) 8 72 Tryz.underlying27 hi hz0 hz1 hz2 rfl (by decide) _ _ _ rfl HO2.out ⟨w3.heap.size, 0, none⟩ 1 1 [.string y.o, int i64 y.r, int i64 y.s, int i64 y.t, int i64 y.x, int i64 y.z, int i64 y.v, .bool y.g] rfl rfl HNN2.out (by intro u' hu'; simp at hu'; rcases hu' with rfl | rfl | rfl | rfl | rfl | rfl | rfl | rfl <;> rfl) (by unfold maxLen; omega) (by omega) (by simp; omega) ?_)
       intro v3 w4 hown4 hgrow4 hne4
       have hb4 : Below Z.heap.size Z w4 := (HB3.out.alloc hs3 _).grown hgrow4 (by simp; omega) HOB2.out
       have HO4 : Hid (w4.ownsRow Z.heap.size 35 8 v3 (Q ++ [x] ++ [y]).length (ceV (Q ++ [x] ++ [y]))) := by
        show World.ownsRow _ _ _ _ _ _ _
        rw [Zl, Jl, Jl]; exact hown4
       clear hown4 hgrow4 hne4 HO2 HOB2 HNN2 HB3 q0 q1 q2 q3 q4 q5 q6 q7
       go_wp2
       go_roundw
       case rel => exact ⟨j + 1, Q ++ [x] ++ [y], true, by omega, by go_num, rfl, by simp; omega, (fun h => by cases h), HIE.out, HO4.out, hb4⟩
       case measure => simp [intOf]; omega
    ·have hj1 : ¬ ((j : Int) < m) := by omega
     have HE : Hid (J0 (l.take (k + 1)) o rx rz = if b then Q else Q ++ [x]) := by
      have hjm' : j = m := by omega
      show _ = _
      rw [HKE.out]
      exact HEN.out Q b (hjm' ▸ HIN.out)
     have hwz : W.heap.size ≤ Z.heap.size := HBZ.out.size
     have HF : Hid (∀ wx, Below Z.heap.size Z wx → Below W.heap.size W wx) := fun wx h => HBZ.out.trans (h.mono hwz)
     cases b with
     | true =>
      have HR : Hid (wr.ownsRow W.heap.size 35 8 u12 (J0 (l.take (k + 1)) o rx rz).length (ceV (J0 (l.take (k + 1)) o rx rz))) := by
       show World.ownsRow _ _ _ _ _ _ _
       rw [HE.out]; exact Jo HOW.out hwz
      have HFF := Ja (HF.out _ HBE.out)
      clear HOW HBE HF
      go_wp2
      go_roundw
      case rel => exact ⟨k + 1, by omega, by go_num, HR.out, HFF.out⟩
      case measure => simp [intOf]; omega
     | false =>
      have hoq := HOW.out
      have HOB : Hid (∀ k', u12.ownBlock = some k' → Z.heap.size ≤ k') := fun k' hk' => (hoq.lt k' hk').1
      generalize wr = wv at *
      have HOWN := Ja (hoq.alloc (.cells #[.string x.o, int i64 x.r, int i64 x.s, int i64 x.t, int i64 x.x, int i64 x.z, int i64 x.v, .bool x.g] 35))
      have HNN : Hid (∀ j u, [.string x.o, int i64 x.r, int i64 x.s, int i64 x.t, int i64 x.x, int i64 x.z, int i64 x.v, .bool x.g][j]? = some u → (wv.alloc (.cells #[.string x.o, int i64 x.r, int i64 x.s, int i64 x.t, int i64 x.x, int i64 x.z, int i64 x.v, .bool x.g] 35)).cell? (Addr.add ⟨wv.heap.size, 0, none⟩ j) = some u) := Ji wv [.string x.o, int i64 x.r, int i64 x.s, int i64 x.t, int i64 x.x, int i64 x.z, int i64 x.v, .bool x.g] 35 rfl
      obtain ⟨m0, m1, m2, m3, m4, m5, m6, m7⟩ := HBX.out wv HBE.out
      clear hoq hbel HOW
      go_wp2_with (at_builtin; refine wpList_append_own _ rfl _ _ 27 rfl Z.heap.size 35 i0 (.agg #[.string ⟨#[]⟩, int i64 0, int i64 0, int i64 0, int i64 0, int i64 0, int i64 0, .bool false]) 8 72 Tryz.underlying27 hi hz0 hz1 hz2 rfl (by decide) _ _ _ rfl HOWN.out ⟨wv.heap.size, 0, none⟩ 1 1 [.string x.o, int i64 x.r, int i64 x.s, int i64 x.t, int i64 x.x, int i64 x.z, int i64 x.v, .bool x.g] rfl rfl HNN.out (by intro u' hu'; simp at hu'; rcases hu' with rfl | rfl | rfl | rfl | rfl | rfl | rfl | rfl <;> rfl) (by unfold maxLen; omega) (by omega) (by simp; omega) ?_)
      intro v2 w3 hown3 hgrow hne
      have hb3 : Below Z.heap.size Z w3 := (HBE.out.alloc hsq _).grown hgrow (by simp; omega) HOB.out
      have HFF := Ja (HF.out _ hb3)
      have HR : Hid (w3.ownsRow W.heap.size 35 8 v2 (J0 (l.take (k + 1)) o rx rz).length (ceV (J0 (l.take (k + 1)) o rx rz))) := by
       show World.ownsRow _ _ _ _ _ _ _
       rw [HE.out]
       simp only [Bool.false_eq_true, if_false]
       rw [Zl, Jl]; exact Jo hown3 hwz
      clear hown3 hgrow hne HOWN HOB HNN m0 m1 m2 m3 m4 m5 m6 m7 hb3
      go_wp2
      go_roundw
      case rel => exact ⟨k + 1, by omega, by go_num, HR.out, HFF.out⟩
      case measure => simp [intOf]; omega
  ·have hk1 : ¬ ((k : Int) < N) := by omega
   have hkn : k = N := by omega
   obtain ⟨K, hK⟩ : ∃ K, K = J0 l o rx rz := ⟨_, rfl⟩
   have hOK : wr.ownsRow W.heap.size 35 8 u9 K.length (ceV K) := by rw [hK, ← HALL.out, ← hkn]; exact HOW.out
   rw [← hK] at HRE HLEN
   have HKQ : Hid (J0 l o rx rz = K) := hK.symm
   obtain ⟨aa, ca, rfl, hga⟩ := CeAt.own hOK rfl
   have HGK : Hid (CeG wr aa K) := hga
   have HGB : Hid (∀ g f, aa = some ⟨g, f, none⟩ → W.heap.size ≤ g) := fun g f e => (hOK.lt g (by rw [e]; rfl)).1
   have HLK := Ja (Jbj sub K)
   obtain ⟨m, hm⟩ : ∃ m, m = K.length := ⟨_, rfl⟩
   have HM : Hid (m = K.length) := hm
   have hml : m ≤ 1048576 := by
    have h1 := HLEN.out
    have h2 := JaE sub K
    omega
   have HOV2 : Hid (wr.ownsRow w0.heap.size 35 8 v P.length (ceV P)) := Jf HOV.out (HB.out.trans (hbel.mono HB.out.size))
   have HG0 : Hid (Grew w v wr v) := Grew.start v (HB.out.trans (hbel.mono HB.out.size))
   have HVB : Hid (∀ j, v.ownBlock = some j → w0.heap.size ≤ j ∧ j < w.heap.size) := fun j hj => HOV.out.lt j hj
   have HALK : Hid ((K.take m).flatMap (fun k => k :: sub k) = K.flatMap (fun k => k :: sub k)) := by show _ = _; rw [hm, List.take_length]
   have hw0 := HB00.out.size
   have hWS := HWS.out
   have HYS : Hid (w.heap.size ≤ wr.heap.size ∧ w0.heap.size ≤ wr.heap.size) := ⟨by omega, by omega⟩
   have HPY : Hid (∀ wx x', Grew wr v wx x' → Row wx w.heap.size #[.slice a0 S.l.length c0, .slice a1 S.T.length c1, .slice a2 S.L.length c2, .slice a3 N c3] 29) := fun wx x' h => (HP.out wr hbel).grew h (by omega) (fun i hi => by have := HVB.out i hi; omega)
   have HBY : Hid (∀ wx x', Grew wr v wx x' → Below w0.heap.size w0 wx) := fun wx x' h => by
    have h1 : Below w0.heap.size w0 wr := HB00.out.trans ((HB.out.trans (hbel.mono HB.out.size)).mono hw0)
    exact h1.trans (h.below (by omega) (fun i hi => (HVB.out i hi).1))
   rw [← hm]
   clear hOK hga hm hbel HOW hkn hK
   go_wp2
   clear d3 e0 e1
   generalize wr = Y at *
   go_loopw [3, 15] (fun x' z' wr => ∃ k : Nat, k ≤ m ∧ z' = int i64 k ∧ wr.ownsRow w0.heap.size 35 8 x' (P ++ (K.take k).flatMap (fun k => k :: sub k)).length (ceV (P ++ (K.take k).flatMap (fun k => k :: sub k))) ∧ Grew Y v wr x') (fun _ z' _ => m - (intOf z').toNat)
   case atStart => exact ⟨0, Nat.zero_le _, rfl, by simpa using HOV2.out, Grew.refl _ _⟩
   case round =>
    clear HOV2
    obtain ⟨j, hj, rfl, hown, hgr⟩ := hrel
    have hGS : Y.heap.size ≤ wr.heap.size := hgr.1.size
    by_cases hjm : j < m
    ·have hjl : j < K.length := by rw [← HM.out]; exact hjm
     obtain ⟨gk, fk, rfl, hgk, hck⟩ := HGK.out (by omega)
     have hgW := HGB.out gk fk rfl
     have hj1 : (j : Int) < m := by omega
     have hj0 : (0 : Int) ≤ j := by omega
     have HCC : Hid (∀ wx x', Grew Y v wx x' → ceC wx gk (fk + j * 8) K[j]) := fun wx x' h => (hck j hjl).grew h hgk (fun i hi => by have := HVB.out i hi; omega)
     have HFT := Ja (Jda sub K j hjl)
     have hlj := HLK.out (j + 1)
     have hrc := HRE.out K[j] (List.getElem_mem hjl)
     have HLN := HLEN.out
     generalize K[j] = y at *
     obtain ⟨A, hA⟩ : ∃ A, A = P ++ (K.take j).flatMap (fun k => k :: sub k) := ⟨_, rfl⟩
     have HSN : Hid (P ++ (K.take (j + 1)).flatMap (fun k => k :: sub k) = A ++ [y] ++ sub y) := by show _ = _; rw [HFT.out, hA]; simp only [List.append_assoc]
     have hAl : A.length + 1 + (sub y).length ≤ 1048576 := by
      have e := congrArg List.length HSN.out
      simp only [List.length_append, List.length_cons, List.length_nil] at e
      omega
     rw [← hA] at hown
     have HRC : Hid (∀ (v : Value) (w : World), Below w0.heap.size w0 w → w.ownsRow w0.heap.size 35 8 v (A ++ [y]).length (ceV (A ++ [y])) → Calls Tryz.prog 213 #[.agg #[.slice a0 S.l.length c0, .slice a1 S.T.length c1, .slice a2 S.L.length c2, .slice a3 N c3], .string o, .agg #[int i64 y.r, int i64 y.s], v] w (Ja5 w0 v w (A ++ [y] ++ sub y))) := fun v w h1 h2 => hrc (A ++ [y]) v w h1 h2 (by simp; omega)
     have HGR := Ja hgr
     have q := HCC.out _ _ hgr
     unfold ceC at q
     obtain ⟨q0, q1, q2, q3, q4, q5, q6, q7⟩ := q
     have HOWN := Ja (hown.alloc (.cells #[.string y.o, int i64 y.r, int i64 y.s, int i64 y.t, int i64 y.x, int i64 y.z, int i64 y.v, .bool y.g] 35))
     have hw0r : w0.heap.size ≤ wr.heap.size := by have := HYS.out; omega
     have HNN : Hid (∀ j u, [.string y.o, int i64 y.r, int i64 y.s, int i64 y.t, int i64 y.x, int i64 y.z, int i64 y.v, .bool y.g][j]? = some u → (wr.alloc (.cells #[.string y.o, int i64 y.r, int i64 y.s, int i64 y.t, int i64 y.x, int i64 y.z, int i64 y.v, .bool y.g] 35)).cell? (Addr.add ⟨wr.heap.size, 0, none⟩ j) = some u) := Ji wr [.string y.o, int i64 y.r, int i64 y.s, int i64 y.t, int i64 y.x, int i64 y.z, int i64 y.v, .bool y.g] 35 rfl
     clear hck hjl hA hlj hrc HLN hgr hown HFT
     go_wp2_with (at_builtin; refine wpList_append_own_at _ rfl _ _ 27 rfl w0.heap.size 35 i0 (.agg #[.string ⟨#[]⟩, int i64 0, int i64 0, int i64 0, int i64 0, int i64 0, int i64 0, .bool false]) 8 72 Tryz.underlying27 hi hz0 hz1 hz2 rfl (by decide) _ _ _ rfl HOWN.out ⟨wr.heap.size, 0, none⟩ 1 1 [.string y.o, int i64 y.r, int i64 y.s, int i64 y.t, int i64 y.x, int i64 y.z, int i64 y.v, .bool y.g] rfl rfl HNN.out (by intro u' hu'; simp at hu'; rcases hu' with rfl | rfl | rfl | rfl | rfl | rfl | rfl | rfl <;> rfl) (by unfold maxLen; omega) (by omega) (by simp; omega) ?_)
     intro v2 w3 hown3 hgrow hne hat
     have HG3 : Hid (Grew Y v w3 v2) := (HGR.out.next ((Below.refl _ _).alloc (Nat.le_refl _) _)).trans ⟨hgrow, hat.elim .inl (fun e => .inr (fun i hi => by rw [e] at hi; injection hi with hi; first | omega | (rw [← hi]; exact Nat.le_refl _) | (rw [← hi]; simp) | (simp at hi ⊢; omega)))⟩
     have HO3 : Hid (w3.ownsRow w0.heap.size 35 8 v2 (A ++ [y]).length (ceV (A ++ [y]))) := by
      show World.ownsRow _ _ _ _ _ _ _
      rw [Zl, Jl]; exact hown3
     clear hown3 hgrow hne hat HOWN HNN q0 q1 q2 q3 q4 q5 q6 q7 HGR
     have HS2 : Hid (∀ wx x', Grew Y v wx x' → wx.cell? ⟨w.heap.size, 0, none⟩ = some (.slice a0 S.l.length c0) ∧ wx.cell? ⟨w.heap.size, 1, none⟩ = some (.slice a1 S.T.length c1) ∧ wx.cell? ⟨w.heap.size, 2, none⟩ = some (.slice a2 S.L.length c2) ∧ wx.cell? ⟨w.heap.size, 3, none⟩ = some (.slice a3 N c3) ∧ wx.cell? ⟨gk, fk + j * 8 + 1, none⟩ = some (int i64 y.r) ∧ wx.cell? ⟨gk, fk + j * 8 + 2, none⟩ = some (int i64 y.s)) := fun wx x' h => by
      obtain ⟨p0, p1, p2, p3⟩ := Row.four (HPY.out wx x' h)
      have q := HCC.out wx x' h
      unfold ceC at q
      obtain ⟨-, q1, q2, -⟩ := q
      exact ⟨p0, p1, p2, p3, q1, q2⟩
     have HGD : Hid (Grew Y v w3.drew v2) := HG3.out.next (Below.drew (Below.refl _ _))
     have SS := HS2.out _ _ HGD.out
     have HOD : Hid (w3.drew.ownsRow w0.heap.size 35 8 v2 (A ++ [y]).length (ceV (A ++ [y]))) := World.ownsRow.drew HO3.out
     have HBD : Hid (Below w0.heap.size w0 w3.drew) := HBY.out _ _ HGD.out
     obtain ⟨s0, s1, s2, s3, s4, s5⟩ := HS2.out _ _ HG3.out
     go_wp2
     go_region_held3 (fun w' => w'.cell? ⟨w.heap.size, 0, none⟩ = some (.slice a0 S.l.length c0) ∧ w'.cell? ⟨w.heap.size, 1, none⟩ = some (.slice a1 S.T.length c1) ∧ w'.cell? ⟨w.heap.size, 2, none⟩ = some (.slice a2 S.L.length c2) ∧ w'.cell? ⟨w.heap.size, 3, none⟩ = some (.slice a3 N c3) ∧ w'.cell? ⟨gk, fk + j * 8 + 1, none⟩ = some (int i64 y.r) ∧ w'.cell? ⟨gk, fk + j * 8 + 2, none⟩ = some (int i64 y.s)) (first | exact SS | exact SS2 | go_keep) (first
      | (go_at_call 213; refine (HRC.out _ _ HBD.out HOD.out).mono ?_; rintro e wv ⟨v3, rfl, hown5, hgr5⟩; have hG5 := HGD.out.trans hgr5; have SS2 := HS2.out _ _ hG5))
     have HG5 := Ja hG5
     have HO5 := Ja hown5
     clear SS SS2 hG5 hown5 hgr5 s0 s1 s2 s3 s4 s5
     go_wp2
     go_roundw
     case rel => exact ⟨j + 1, by omega, by go_num, by rw [HSN.out]; exact HO5.out, HG5.out⟩
     case measure => simp [intOf]; omega
    ·have hj1 : ¬ ((j : Int) < m) := by omega
     have hjn : j = m := by omega
     have HO9 : Hid (wr.ownsRow w0.heap.size 35 8 u3 (P ++ (J0 l o rx rz).flatMap (fun k => k :: sub k)).length (ceV (P ++ (J0 l o rx rz).flatMap (fun k => k :: sub k)))) := by
      show World.ownsRow _ _ _ _ _ _ _
      rw [HKQ.out, ← HALK.out, ← hjn]; exact hown
     have HG9 := Ja (HG0.out.trans hgr)
     clear hown hgr hjn
     go_wp2
     go_ret
     exact ⟨_, rfl, HO9.out, HG9.out⟩
theorem K9 (S : Sta) (u0 u1 u2 u3 : Value) (o : ByteArray) (w0 : World) (hn : S.C.length ≤ 1048576) (hT : Tree S.C) (h0 : StAt w0 S u0 u1 u2 u3) :
  ∀ (n : Nat) (low x z : Int), (∀ c ∈ S.C, c.x = x → c.z = z → low < c.t) → 10000 - low ≤ n → ∀ (P : List Ce) (v : Value) (w : World), Below w0.heap.size w0 w → w.ownsRow w0.heap.size 35 8 v P.length (ceV P) → P.length + (below S.C o n x z).length ≤ 1048576 →
   Calls Tryz.prog 213 #[.agg #[u0, u1, u2, u3], .string o, .agg #[int i64 x, int i64 z], v] w (Ja5 w0 v w (P ++ below S.C o n x z))
 | 0, low, x, z, hlow, hfu, P, v, w, hb, hown, hlen => by
  have hk : J0 S.C o x z = [] := List.eq_nil_iff_forall_not_mem.2 (fun c hc => by
   obtain ⟨hC, -, hx, hz⟩ := Ka.1 hc
   have h1 := hlow c hC hx hz
   have h2 := (hT.tim c hC).2
   omega)
  have h := Gi S u0 u1 u2 u3 o x z (fun _ => []) w0 hn h0 (fun k hk' => by rw [hk] at hk'; cases hk') P v w hb hown (by rw [hk]; unfold below at hlen; exact hlen)
  rw [hk] at h
  unfold below
  exact h
 | n + 1, low, x, z, hlow, hfu, P, v, w, hb, hown, hlen => by
  unfold below at hlen ⊢
  refine Gi S u0 u1 u2 u3 o x z (fun k => below S.C o n k.r k.s) w0 hn h0 (fun k hk P v w hb hown hlen => ?_) P v w hb hown hlen
  obtain ⟨hC, -, hx, hz⟩ := Ka.1 hk
  have h1 := hlow k hC hx hz
  exact K9 S u0 u1 u2 u3 o w0 hn hT h0 n k.t k.r k.s (fun c hc hx hz => hT.par hc hC hx hz) (by omega) P v w hb hown hlen
end Go.Proofs.YtdknoflkingodaaGreat
