/- Lives that a closure tells are taken out of a row of one's o. -/
import Derived.Lib.SliceRun
import Derived.Test.YtepfinenocpneaaGreatQ21
import Derived.Test.YtepfinenocpneaaGreatQ31
set_option maxHeartbeats 16000000
namespace Go.Proofs.YtepfinenocpneaaGreat
open Value (int)
open IntKind (i64)
set_option maxRecDepth 100000
set_option linter.unusedVariables false
open Go.RowKit
theorem Vt (m : Bool) (A : Ac) (u : Value) (y : Li) (gm ga : Nat) (w : World) (hm : w.cell? ⟨gm, 0, none⟩ = some (.bool m)) (hml : gm < w.heap.size) (hA : Row w ga #[int i64 A.r, int i64 A.s, int i64 A.t, u, int i64 A.k, .string A.o, .string A.y, int i64 A.v, int i64 A.x, int i64 A.z] 44) (hu : IntsAt w u A.l) (hl : A.l.length ≤ 1048576) :
  Calls Tryz.prog 156 #[.agg #[.bool y.m, .string y.o, .string y.y, int i64 y.v, int i64 y.r, int i64 y.s], .pointer (some ⟨gm, 0, none⟩), .pointer (some ⟨ga, 0, none⟩)] w fun e w' => e = .returned (.bool (JV m A.o A.y A.l y)) ∧ Below w.heap.size w w' := by
 obtain ⟨W, hW⟩ : ∃ W, W = w.alloc (.cells #[.bool y.m, .string y.o, .string y.y, int i64 y.v, int i64 y.r, int i64 y.s] 88) := ⟨_, rfl⟩
 have HBW : Hid (Below w.heap.size w W) := by rw [hW]; exact (Below.refl _ _).alloc (Nat.le_refl _) _
 have hR : Row W w.heap.size #[.bool y.m, .string y.o, .string y.y, int i64 y.v, int i64 y.r, int i64 y.s] 88 := by rw [hW]; exact Jb w _ _ rfl
 have HWW : Hid (w.alloc (.cells #[.bool y.m, .string y.o, .string y.y, int i64 y.v, int i64 y.r, int i64 y.s] 88) = W) := hW.symm
 have hm' : W.cell? ⟨gm, 0, none⟩ = some (.bool m) := (HBW.out.cell (p := ⟨gm, 0, none⟩) hml).trans hm
 have hA' := hA.next HBW.out
 have HKN : Hid (Calls Tryz.prog 69 #[u, .agg #[int i64 y.r, int i64 y.s]] W fun e w' => e = .returned (.bool (Jf A.l y.r y.s)) ∧ Below W.heap.size W w') := Ki A.l u y.r y.s W (hu.below HBW.out)
 obtain ⟨a0, a1, a2, a3, a4, a5, a6, a7, a8, a9⟩ := Row.ten hA'
 obtain ⟨e0, e1, e2, e3, e4, e5, e6, e7, e8, e9⟩ := Row.ten hA
 have hgl := hA.lt
 have c0 := hR.cell 0 rfl
 have c1 := hR.cell 1 rfl
 have c2 := hR.cell 2 rfl
 have c4 := hR.cell 4 rfl
 have c5 := hR.cell 5 rfl
 obtain ⟨ua, uc, rfl, -⟩ := hu
 rw [hW] at hm' a0 a1 a2 a3 a4 a5 a6 a7 a8 a9 c0 c1 c2 c4 c5
 clear hW hA hA' hR
 have HD : Hid (JV m A.o A.y A.l y = (decide (y.m = m ∧ y.o = A.o ∧ y.y = A.y) && Jf A.l y.r y.s)) := rfl
 rw [HD.out]
 by_cases h1 : y.m = m
 case neg =>
  have d1 : (y.m == m) = false := by simp [h1]
  have HD : Hid ((decide (y.m = m ∧ y.o = A.o ∧ y.y = A.y) && Jf A.l y.r y.s) = false) := by show (decide _ && _) = false; rw [decide_eq_false (fun h => h1 h.1)]; rfl
  rw [HD.out]
  clear h1 HD
  go_enter Tryz.func156, Tryz.ntmps156
  go_wp2
  rw [HWW.out]
  go_ret
  exact ⟨rfl, HBW.out⟩
 by_cases h2 : y.o = A.o
 case neg =>
  have d1 : (y.m == m) = true := by simp [h1]
  have d2 := JY y.o A.o h2
  have HD : Hid ((decide (y.m = m ∧ y.o = A.o ∧ y.y = A.y) && Jf A.l y.r y.s) = false) := by show (decide _ && _) = false; rw [decide_eq_false (fun h => h2 h.2.1)]; rfl
  rw [HD.out]
  clear h1 HD
  go_enter Tryz.func156, Tryz.ntmps156
  go_wp2
  rw [HWW.out]
  go_ret
  exact ⟨rfl, HBW.out⟩
 by_cases h3 : y.y = A.y
 case neg =>
  have d1 : (y.m == m) = true := by simp [h1]
  have d2 := JM y.o A.o h2
  have d3 := JY y.y A.y h3
  have HD : Hid ((decide (y.m = m ∧ y.o = A.o ∧ y.y = A.y) && Jf A.l y.r y.s) = false) := by show (decide _ && _) = false; rw [decide_eq_false (fun h => h3 h.2.2)]; rfl
  rw [HD.out]
  clear h1 h2 HD
  go_enter Tryz.func156, Tryz.ntmps156
  go_wp2
  rw [HWW.out]
  go_ret
  exact ⟨rfl, HBW.out⟩
 have d1 : (y.m == m) = true := by simp [h1]
 have d2 := JM y.o A.o h2
 have d3 := JM y.y A.y h3
 have HD : Hid ((decide (y.m = m ∧ y.o = A.o ∧ y.y = A.y) && Jf A.l y.r y.s) = Jf A.l y.r y.s) := by show (decide _ && _) = _; rw [decide_eq_true ⟨h1, h2, h3⟩]; rfl
 rw [HD.out]
 clear h1 h2 h3 HD
 go_enter Tryz.func156, Tryz.ntmps156
 go_wp2_with fail
 rw [HWW.out]
 refine HKN.out.mono ?_
 rintro e w1 ⟨rfl, hb1⟩
 have HBF := Ja (HBW.out.trans (hb1.mono HBW.out.size))
 clear hb1 HKN
 go_wp2
 go_ret
 exact ⟨rfl, HBF.out⟩
def Jbz (l : List Li) (P : Li → Bool) (z : Int) : Prop := (z = -1 ∧ ∀ y ∈ l, P y = false) ∨ ∃ k, ∃ h : k < l.length, z = (k : Int) ∧ P l[k] = true ∧ ∀ j (hj : j < l.length), j < k → P l[j] = false
theorem Ue (l : List Li) (v : Value) (f : Nat) (bx : Array Value) (P : Li → Bool) (B : Nat) (w0 w : World) (hb : Below B w0 w) (hB : B ≤ w.heap.size) (hn : l.length ≤ 1048576) (h : LiAt w v l)
  (hcf : ∀ (args : Array Value) (wx : World), (callFunc f args).run Tryz.prog wx = .ok (.enter f args) wx)
  (hch : ∀ wx, Below B w0 wx → ∀ y ∈ l, Calls Tryz.prog f (#[.agg #[.bool y.m, .string y.o, .string y.y, int i64 y.v, int i64 y.r, int i64 y.s]] ++ bx) wx fun e w' => e = .returned (.bool (P y)) ∧ Below wx.heap.size wx w') :
  Calls Tryz.prog 164 #[v, .func (.func f) #[] bx] w fun e w' => (∃ z : Int, e = .returned (int i64 z) ∧ Jbz l P z) ∧ Below w.heap.size w w' := by
 obtain ⟨aa, ca, rfl, hga⟩ := h
 have HGA : Hid (LiG w aa l) := hga
 have HCH := Ja hch
 have HB0 := Ja hb
 obtain ⟨n, hnl⟩ : ∃ n, n = l.length := ⟨_, rfl⟩
 have HL : Hid (n = l.length) := hnl
 rw [← hnl] at hn ⊢
 clear hnl hga hch hb
 go_enter Tryz.func164, Tryz.ntmps164
 go_wp2
 go_loopw [8] (fun z wr => ∃ k : Nat, k ≤ n ∧ z = int i64 k ∧ (∀ j (hj : j < l.length), j < k → P l[j] = false) ∧ Below w.heap.size w wr) (fun z _ => n - (intOf z).toNat)
 case atStart => exact ⟨0, Nat.zero_le _, rfl, fun j _ h => by omega, Below.refl _ _⟩
 case round =>
  obtain ⟨k, hk, rfl, hall, hbel⟩ := hrel
  have HALL := Ja hall
  have HBE := Ja hbel
  have hsz := hbel.size
  clear hall
  by_cases hlt : k < n
  case neg =>
   have hk1 : ¬ ((k : Int) < n) := by omega
   have HE : Hid (Jbz l P (-1)) := .inl ⟨rfl, fun y hy => by
    obtain ⟨j, hj, rfl⟩ := List.getElem_of_mem hy
    exact HALL.out j hj (by have := HL.out; omega)⟩
   go_wp2
   go_ret
   exact ⟨⟨_, rfl, HE.out⟩, HBE.out⟩
  have hkl : k < l.length := by rw [← HL.out]; exact hlt
  obtain ⟨g, f', rfl, hg, hcc⟩ := HGA.out (by omega)
  have hk1 : (k : Int) < n := by omega
  have hk0 : (0 : Int) ≤ k := by omega
  have q := (hcc k hkl).below hbel hg
  have HY : Hid (P l[k] = true → Jbz l P k) := fun h => .inr ⟨k, hkl, rfl, h, HALL.out⟩
  have HN : Hid (P l[k] = false → ∀ j (hj : j < l.length), j < k + 1 → P l[j] = false) := fun h j hj hjk => by
   by_cases e : j = k
   ·subst e; exact h
   ·exact HALL.out j hj (by omega)
  have HC : Hid (Calls Tryz.prog f (#[.agg #[.bool l[k].m, .string l[k].o, .string l[k].y, int i64 l[k].v, int i64 l[k].r, int i64 l[k].s]] ++ bx) wr fun e w' => e = .returned (.bool (P l[k])) ∧ Below wr.heap.size wr w') := HCH.out wr (HB0.out.trans (hbel.mono hB)) _ (List.getElem_mem hkl)
  generalize l[k] = y at *
  generalize P y = py at *
  unfold liC at q
  obtain ⟨q0, q1, q2, q3, q4, q5⟩ := q
  clear hcc hkl HALL hbel HCH
  go_wp2_with fail
  refine HC.out.mono ?_
  rintro e w2 ⟨rfl, hb2⟩
  have HBF := Ja (HBE.out.trans (hb2.mono hsz))
  clear hb2 HC q0 q1 q2 q3 q4 q5
  cases py with
  | true =>
   have HE := Ja (HY.out rfl)
   clear HY HN
   go_wp2
   go_ret
   exact ⟨⟨_, rfl, HE.out⟩, HBF.out⟩
  | false =>
   have HE := Ja (HN.out rfl)
   clear HY HN
   go_wp2
   go_roundw
   case rel => exact ⟨k + 1, by omega, by go_num, HE.out, HBF.out⟩
   case measure => simp [intOf]; omega
structure Dels (n : Nat) (l : List Li) (P : Li → Bool) (M : List Li) (i j : Nat) : Prop where
 ij : i < j
 jn : j ≤ n
 len : M.length = n
 full : l.length = n
 front : M.take i = (l.take j).filter (fun y => !P y)
 back : M.drop j = l.drop j
theorem Dels.start {l : List Li} {P : Li → Bool} {k : Nat} (hk : k < l.length) (hp : P l[k] = true) (ha : ∀ j (hj : j < l.length), j < k → P l[j] = false) : Dels l.length l P l k (k + 1) := by
 refine ⟨by omega, by omega, rfl, rfl, ?_, rfl⟩
 rw [List.take_succ_eq_append_getElem hk, List.filter_append]
 have h1 : (l.take k).filter (fun y => !P y) = l.take k := List.filter_eq_self.2 (fun y hy => by
  obtain ⟨j, hj, rfl⟩ := List.getElem_of_mem hy
  rw [List.length_take] at hj
  rw [List.getElem_take, ha j (by omega) (by omega)]; rfl)
 rw [h1]
 simp [hp]
theorem Dels.get {n : Nat} {l : List Li} {P : Li → Bool} {M : List Li} {i j : Nat} (h : Dels n l P M i j) (hj : j < n) : ∃ (h1 : j < M.length) (h2 : j < l.length), M[j] = l[j] := by
 refine ⟨by have := h.len; omega, by have := h.full; omega, ?_⟩
 have h3 : (M.drop j)[0]? = (l.drop j)[0]? := by rw [h.back]
 rw [List.getElem?_drop, List.getElem?_drop, Nat.add_zero, List.getElem?_eq_getElem (by have := h.len; omega), List.getElem?_eq_getElem (by have := h.full; omega)] at h3
 exact Option.some.inj h3
theorem Dels.gone {n : Nat} {l : List Li} {P : Li → Bool} {M : List Li} {i j : Nat} (h : Dels n l P M i j) (hj : j < l.length) (hp : P l[j] = true) : Dels n l P M i (j + 1) := by
 refine ⟨by have := h.ij; omega, by have := h.full; omega, h.len, h.full, ?_, ?_⟩
 ·rw [List.take_succ_eq_append_getElem hj, List.filter_append, ← h.front]
  simp [hp]
 ·rw [← List.drop_drop, ← List.drop_drop, h.back]
theorem Dels.kept {n : Nat} {l : List Li} {P : Li → Bool} {M : List Li} {i j : Nat} (h : Dels n l P M i j) (hj : j < l.length) (hp : P l[j] = false) : Dels n l P (M.set i l[j]) (i + 1) (j + 1) := by
 have hij := h.ij
 have hl := h.len
 have hf := h.full
 refine ⟨by omega, by omega, by rw [List.length_set]; exact hl, hf, ?_, ?_⟩
 ·rw [List.take_succ_eq_append_getElem hj, List.filter_append, ← h.front, List.take_succ_eq_append_getElem (by rw [List.length_set]; omega), List.getElem_set_self, List.take_set_of_le (Nat.le_refl _)]
  simp [hp]
 ·rw [List.drop_set_of_lt (by omega), ← List.drop_drop, ← List.drop_drop, h.back]
theorem Dels.done {n : Nat} {l : List Li} {P : Li → Bool} {M : List Li} {i j : Nat} (h : Dels n l P M i j) (hj : j = n) : M.take i = l.filter (fun y => !P y) := by
 rw [h.front, hj, ← h.full, List.take_length]
theorem UF {w : World} {g : Nat} {T : TypeId} : ∀ (vs : List Value) (cur : List Value) (a : Nat) (w : World), Row w g cur.toArray T → a + vs.length ≤ cur.length → Row (w.setCells g a vs) g (splice cur a vs).toArray T
 | [], cur, a, w, h, _ => by
  have e : splice cur a [] = cur := by unfold splice; simp
  rw [e]; exact h
 | v :: r, cur, a, w, h, hl => by
  have h1 : Row (w.setCell ⟨g, a, none⟩ v) g (cur.set a v).toArray T := by simpa using Row.set h a v
  have h2 := UF (w := w) r (cur.set a v) (a + 1) _ h1 (by simp at hl ⊢; omega)
  have e := list_seg_step cur a v r (by simp at hl; omega)
  have e2 : splice (cur.set a v) (a + 1) r = splice cur a (v :: r) := by
   unfold splice
   rw [List.append_assoc, List.append_assoc] at e
   simpa using e
  rw [← e2]
  exact h2
theorem JaT {α : Type} (L : List α) (off k : Nat) (cs : List α) (h : off + cs.length ≤ k) (hk : k ≤ L.length) : (splice L off cs).take k = splice (L.take k) off cs := by
 unfold splice
 have e1 : (L.take k).take off = L.take off := by rw [List.take_take, Nat.min_eq_left (by omega)]
 have e2 : (L.take k).drop (off + cs.length) = (L.drop (off + cs.length)).take (k - (off + cs.length)) := by rw [List.drop_take]
 have l1 : (L.take off).length = off := by rw [List.length_take]; omega
 rw [e1, e2, List.take_append, l1, List.take_of_length_le (by rw [l1]; omega), List.take_append, List.take_of_length_le (l := cs) (by omega), Nat.sub_sub]
theorem Jeg (M : List Li) (i : Nat) (x : Li) (h : i < M.length) : splice (liV M) (i * 6) x.cs = liV (M.set i x) := by
 have h1 := (Kx (Zq M) i).1
 have h2 := (Kx (Zq M) (i + 1)).2
 unfold splice liV
 rw [h1, show i * 6 + x.cs.length = (i + 1) * 6 by rw [show x.cs.length = 6 from rfl]; omega, h2, List.set_eq_take_append_cons_drop, if_pos h]
 simp [List.map_take, List.map_drop]
theorem UM (M : List Li) : (liV M).length = M.length * 6 := by have := Za (Zq M); simpa [liV] using this
theorem Jci {w : World} {B g n cap : Nat} {M : List Li} {T : TypeId} (h : w.ownsRow B T 6 (.slice (some ⟨g, 0, none⟩) n cap) n (liV M)) (i : Nat) (x : Li) (hi : i < n) (hl : M.length = n) : (w.setCells g (i * 6) x.cs).ownsRow B T 6 (.slice (some ⟨g, 0, none⟩) n cap) n (liV (M.set i x)) := by
 rcases h.2 with ⟨e, -⟩ | ⟨g', cap', cur, e, hbg, hg, hnc, hcm, hcs, htake⟩
 ·cases e
 ·obtain ⟨rfl, rfl⟩ : g = g' ∧ cap = cap' := by simpa using e
  have hxl : x.cs.length = 6 := rfl
  have hr := UF (w := w) (g := g) (T := T) x.cs cur.toList (i * 6) w hg (by rw [hxl, Array.length_toList, hcs]; omega)
  refine ⟨by rw [UM, List.length_set, hl], .inr ⟨g, cap, _, rfl, hbg, hr, hnc, hcm, ?_, ?_⟩⟩
  ·rw [List.size_toArray, length_splice _ _ _ (by rw [hxl, Array.length_toList, hcs]; omega), Array.length_toList, hcs]
  ·show (splice cur.toList (i * 6) x.cs).take (n * 6) = _
   rw [JaT _ _ _ _ (by rw [hxl]; omega) (by rw [Array.length_toList, hcs]; exact Nat.mul_le_mul_right _ hnc), htake]
   exact Jeg M i x (by omega)
theorem Va {P : Program} (w : World) (t e ty : TypeId) (z : Value) (size : Nat) (ht : P.underlying t = some (.slice e)) (hv : ∀ w, (zeroValue e).run P w = .ok z w) (hz : z.cells.size = size) (h1 : ∀ u ∈ z.cells.toList, u.oneCell' = true) (g o n c : Nat) (cur : Array Value) (T : TypeId) (hg : w.heap[g]? = some (.cells cur T (0, 0))) (hn : 0 < n) (hfit : o + n * size ≤ cur.size) :
  ∃ zs : List Value, zs.length = n * size ∧ (Builtin.clear_ #[t] ty #[.slice (some ⟨g, o, none⟩) n c]).run P w = .ok (.tuple #[]) (w.setRow g (splice cur.toList o zs).toArray) := by
 refine ⟨(Builtin.zeroCells z.cells n).toList, by rw [Array.length_toList, size_zeroCells, hz], ?_⟩
 have hl : (Builtin.zeroCells z.cells n).toList.length = n * size := by rw [Array.length_toList, size_zeroCells, hz]
 have hst := run_storeCells_at P g o T (Builtin.zeroCells z.cells n).toList 0 cur w hg (by rw [hl]; simpa using hfit) (by
  intro v hv'
  have hm : v ∈ Builtin.zeroCells z.cells n := by simpa using hv'
  unfold Builtin.zeroCells at hm
  simp at hm
  obtain ⟨k, hk, rfl⟩ := hm
  have hs : 0 < z.cells.size := by
   rcases Nat.eq_zero_or_pos z.cells.size with e | e
   ·rw [e] at hk; omega
   ·exact e
  have hlt : k % z.cells.size < z.cells.size := Nat.mod_lt _ hs
  rw [getElem!_pos z.cells _ hlt]
  exact h1 _ (by simp))
 obtain ⟨m, rfl⟩ : ∃ m, n = m + 1 := ⟨n - 1, by omega⟩
 simp only [Nat.add_zero] at hst
 simp [Builtin.clear_, run_underlying ht, hv, hst, splice]
theorem Jcx {w : World} {B g n cap : Nat} {M : List Li} {T : TypeId} (h : w.ownsRow B T 6 (.slice (some ⟨g, 0, none⟩) n cap) n (liV M)) (i : Nat) (hi : i ≤ n) (hl : M.length = n) : ∃ cur : Array Value, Row w g cur T ∧ cur.size = cap * 6 ∧ ∀ zs : List Value, zs.length = (n - i) * 6 → (w.setRow g (splice cur.toList (i * 6) zs).toArray).ownsRow B T 6 (.slice (some ⟨g, 0, none⟩) i cap) i (liV (M.take i)) := by
 rcases h.2 with ⟨e, -⟩ | ⟨g', cap', cur, e, hbg, hg, hnc, hcm, hcs, htake⟩
 ·cases e
 ·obtain ⟨rfl, rfl⟩ : g = g' ∧ cap = cap' := by simpa using e
  refine ⟨cur, hg, hcs, fun zs hz => ?_⟩
  have hfit : i * 6 + zs.length ≤ cur.toList.length := by rw [hz, Array.length_toList, hcs]; omega
  refine ⟨by rw [UM, List.length_take, hl]; congr 1; omega, .inr ⟨g, cap, _, rfl, hbg, setRow_heap w g cur _ _ (0, 0) hg, by omega, hcm, ?_, ?_⟩⟩
  ·rw [List.size_toArray, length_splice _ _ _ hfit, Array.length_toList, hcs]
  ·show (splice cur.toList (i * 6) zs).take (i * 6) = _
   rw [JaE _ _ _ _ (Nat.le_refl _) (by omega)]
   have h1 := (Kx (Zq M) i).1
   have h2 : cur.toList.take (i * 6) = (liV M).take (i * 6) := by rw [← htake, List.take_take, Nat.min_eq_left (by omega)]
   rw [h2]
   unfold liV
   rw [h1, List.map_take]
theorem Jak {l : List Li} {P : Li → Bool} (h : ∀ y ∈ l, P y = false) : l.filter (fun y => !P y) = l := List.filter_eq_self.2 (fun y hy => by rw [h y hy]; rfl)
theorem U4 {w : World} {B g n cap : Nat} {M : List Li} {T : TypeId} (h : w.ownsRow B T 6 (.slice (some ⟨g, 0, none⟩) n cap) n (liV M)) (hl : M.length = n) (i : Nat) (hi : i < n) : B ≤ g ∧ g < w.heap.size ∧ n ≤ cap ∧ cap ≤ maxLen ∧ (∀ k, w.frozen? ⟨g, k, none⟩ = false) ∧ liC w g (i * 6) (M[i]'(by omega)) := by
 have hat := LiAt.own h hl
 rcases h.2 with ⟨e, -⟩ | ⟨g', cap', cur, e, hbg, hg, hnc, hcm, hcs, htake⟩
 ·cases e
 ·obtain ⟨rfl, rfl⟩ : g = g' ∧ cap = cap' := by simpa using e
  refine ⟨hbg, (Array.getElem?_eq_some_iff.1 hg).1, hnc, hcm, fun k => by simp [World.frozen?, hg], ?_⟩
  obtain ⟨aa, ca, e2, hga⟩ := hat
  obtain ⟨rfl, -, -⟩ : (some ⟨g, 0, none⟩ : Option Addr) = aa ∧ n = M.length ∧ cap = ca := by simpa using e2
  obtain ⟨g2, f2, e3, -, hcc⟩ := hga (by omega)
  obtain ⟨rfl, rfl⟩ : g = g2 ∧ 0 = f2 := by simpa using e3
  have := hcc i (by omega)
  simpa using this
theorem GH (l : List Li) (v : Value) (f : Nat) (bx : Array Value) (P : Li → Bool) (B : Nat) (w0 w : World) (hb : Below B w0 w) (hB : B ≤ w.heap.size) (hn : l.length ≤ 1048576) (h : w.ownsRow B 88 6 v l.length (liV l))
  (hcf : ∀ (args : Array Value) (wx : World), (callFunc f args).run Tryz.prog wx = .ok (.enter f args) wx)
  (hch : ∀ wx, Below B w0 wx → ∀ y ∈ l, Calls Tryz.prog f (#[.agg #[.bool y.m, .string y.o, .string y.y, int i64 y.v, int i64 y.r, int i64 y.s]] ++ bx) wx fun e w' => e = .returned (.bool (P y)) ∧ Below wx.heap.size wx w') :
  Calls Tryz.prog 155 #[v, .func (.func f) #[] bx] w fun e w' => ∃ u, e = .returned u ∧ w'.ownsRow B 88 6 u (l.filter (fun y => !P y)).length (liV (l.filter (fun y => !P y))) ∧ Below B w0 w' := by
 have HIX : Hid (Calls Tryz.prog 164 #[v, .func (.func f) #[] bx] w fun e w' => (∃ z : Int, e = .returned (int i64 z) ∧ Jbz l P z) ∧ Below w.heap.size w w') := Ue l v f bx P B w0 w hb hB hn (LiAt.own h rfl) hcf hch
 have HOW := Ja h
 have HCH := Ja hch
 have HB0 := Ja hb
 clear h hch hb
 go_enter Tryz.func155, Tryz.ntmps155
 go_wp2_with fail
 refine HIX.out.mono ?_
 rintro e w1 ⟨⟨z, rfl, hz⟩, hb1⟩
 have HB1 : Hid (Below B w0 w1) := HB0.out.trans (hb1.mono hB)
 have HO1 := Ja (Jh HOW.out hb1)
 have hB1 : B ≤ w1.heap.size := Nat.le_trans hB hb1.size
 clear HIX HOW HB0 hb1
 rcases hz with ⟨rfl, hall⟩ | ⟨k, hk, rfl, hpk, hfk⟩
 ·have HR : Hid (w1.ownsRow B 88 6 v (l.filter (fun y => !P y)).length (liV (l.filter (fun y => !P y)))) := by show World.ownsRow _ _ _ _ _ _ _; rw [Jak hall]; exact HO1.out
  clear HO1 hall HCH
  go_wp2
  go_ret
  exact ⟨_, rfl, HR.out, HB1.out⟩
 ·have hne : ((k : Int) == -1) = false := by simp
  have HD := Ja (Dels.start hk hpk hfk)
  obtain ⟨g, cap, rfl⟩ : ∃ g cap, v = .slice (some ⟨g, 0, none⟩) l.length cap := by
   rcases HO1.out.2 with ⟨-, e⟩ | ⟨g, cap, cur, e, -⟩
   ·omega
   ·exact ⟨g, cap, e⟩
  obtain ⟨n, hnl⟩ : ∃ n, n = l.length := ⟨_, rfl⟩
  have HL : Hid (n = l.length) := hnl
  rw [← hnl] at hn HO1 HD ⊢
  have hkn : k < n := by omega
  have hw0 : IntKind.i64.wrap ((k : Int) + 1) = (k : Int) + 1 := by rw [IntKind.wrap_i64] <;> omega
  clear hk hpk hfk hnl
  go_wp2
  go_loopw [5, 6] (fun x z wr => ∃ (i j : Nat) (M : List Li), x = int i64 i ∧ z = int i64 j ∧ Dels n l P M i j ∧ wr.ownsRow B 88 6 (.slice (some ⟨g, 0, none⟩) n cap) n (liV M) ∧ Below B w0 wr ∧ B ≤ wr.heap.size) (fun _ z _ => n - (intOf z).toNat)
  case atStart => exact ⟨k, k + 1, l, rfl, by go_num, HD.out, HO1.out, HB1.out, hB1⟩
  case round =>
   clear HD HO1 HB1 hB1 hkn hw0 hne
   obtain ⟨i, j, M, rfl, rfl, hd, hown, hbel, hsz⟩ := hrel
   have HDD := Ja hd
   have HOW := Ja hown
   have HBE := Ja hbel
   have hij := hd.ij
   have hjn := hd.jn
   have hi0 : i < n := by omega
   obtain ⟨hbg, hgl, hnc, hcm, hfz, hci⟩ := U4 hown hd.len i hi0
   generalize M[i]'(by have := HDD.out.len; omega) = mi at hci
   have hcm' : cap ≤ 9223372036854775807 := by unfold maxLen at hcm; omega
   clear hd hown hbel
   by_cases hlt : j < n
   case neg =>
    have hk1 : ¬ ((j : Int) < n) := by omega
    have HE := Ja (HDD.out.done (by omega))
    obtain ⟨cur, hcur, hcs, hcut⟩ := Jcx HOW.out i (by omega) HDD.out.len
    obtain ⟨i0, hi0', hz0, hz1, hz2⟩ := info_parts ZF
    obtain ⟨zs, hzl, hrun⟩ := Va (P := Tryz.prog) wr 26 88 0 (.agg #[.bool false, .string ⟨#[]⟩, .string ⟨#[]⟩, int i64 0, int i64 0, int i64 0]) 6 Tryz.underlying26 (fun w => by simp [zeroValue, typeInfo, hi0', hz0]) rfl (by intro u hu; simp only [Value.cells, List.mem_cons, List.not_mem_nil, or_false] at hu; rcases hu with rfl | rfl | rfl | rfl | rfl | rfl <;> rfl) g (i * 6) (n - i) (cap - i) cur 88 hcur (by omega) (by rw [hcs]; omega)
    have HR := Ja (hcut zs hzl)
    have HBF := Ja (below_setRow HBE.out hbg (splice cur.toList (i * 6) zs).toArray)
    rw [HE.out] at HR
    have hci2 : ¬ (cap = i) := by omega
    have hin : (i : Int) ≤ n := by omega
    have hic : (i : Int) ≤ cap := by omega
    have HLI : Hid ((l.filter (fun y => !P y)).length = i) := by show _ = _; rw [← HE.out, List.length_take, HDD.out.len]; omega
    clear hcur hcs hcut hzl hci HOW HE hfz hcm
    go_wp2
    go_ret
    rw [HLI.out]
    exact ⟨_, rfl, HR.out, HBF.out⟩
   have hk1 : (j : Int) < n := by omega
   have hk0 : (0 : Int) ≤ j := by omega
   have hi1 : (i : Int) < n := by omega
   have hi2 : (0 : Int) ≤ i := by omega
   obtain ⟨hjm, hjl, hmj⟩ := HDD.out.get hlt
   obtain ⟨-, -, -, -, -, hcj⟩ := U4 HOW.out HDD.out.len j hlt
   have HGO : Hid (P l[j] = true → Dels n l P M i (j + 1)) := fun h => HDD.out.gone hjl h
   have HKE : Hid (P l[j] = false → Dels n l P (M.set i l[j]) (i + 1) (j + 1)) := fun h => HDD.out.kept hjl h
   have HC : Hid (∀ wx, Below B w0 wx → Calls Tryz.prog f (#[.agg #[.bool l[j].m, .string l[j].o, .string l[j].y, int i64 l[j].v, int i64 l[j].r, int i64 l[j].s]] ++ bx) wx fun e w' => e = .returned (.bool (P l[j])) ∧ Below wx.heap.size wx w') := fun wx hx => HCH.out wx hx _ (List.getElem_mem hjl)
   rw [hmj] at hcj
   generalize l[j] = y at *
   generalize P y = py at *
   unfold liC at hci hcj
   obtain ⟨m0, m1, m2, m3, m4, m5⟩ := hci
   obtain ⟨q0, q1, q2, q3, q4, q5⟩ := hcj
   obtain ⟨W, hW⟩ : ∃ W, W = wr.alloc (.cells #[.bool y.m, .string y.o, .string y.y, int i64 y.v, int i64 y.r, int i64 y.s] 88) := ⟨_, rfl⟩
   have HBW : Hid (Below wr.heap.size wr W) := by rw [hW]; exact (Below.refl _ _).alloc (Nat.le_refl _) _
   have hRW : Row W wr.heap.size #[.bool y.m, .string y.o, .string y.y, int i64 y.v, int i64 y.r, int i64 y.s] 88 := by rw [hW]; exact Jb wr _ _ rfl
   have HWW : Hid (wr.alloc (.cells #[.bool y.m, .string y.o, .string y.y, int i64 y.v, int i64 y.r, int i64 y.s] 88) = W) := hW.symm
   have HRW := Ja hRW
   have HCW := Ja (HC.out W (HBE.out.trans (HBW.out.mono hsz)))
   clear hW hRW hmj hjm hjl HC HCH
   go_wp2_with fail
   rw [HWW.out]
   refine HCW.out.mono ?_
   rintro e w2 ⟨rfl, hb2⟩
   have HB2 : Hid (Below wr.heap.size wr w2) := HBW.out.trans (hb2.mono HBW.out.size)
   have HR2 := Ja (HRW.out.next hb2)
   have HBF : Hid (Below B w0 w2) := HBE.out.trans (HB2.out.mono hsz)
   have HO2 := Ja (Jh HOW.out HB2.out)
   have hs2 : B ≤ w2.heap.size := Nat.le_trans hsz HB2.out.size
   clear hb2 HCW q0 q1 q2 q3 q4 q5 HWW HBW HRW HOW
   cases py with
   | true =>
    have HE := Ja (HGO.out rfl)
    clear HGO HKE m0 m1 m2 m3 m4 m5 hfz
    go_wp2
    go_roundw
    case rel => exact ⟨i, j + 1, M, rfl, by go_num, HE.out, HO2.out, HBF.out, hs2⟩
    case measure => simp [intOf]; omega
   | false =>
    have HE := Ja (HKE.out rfl)
    have hkeep : ∀ k, w2.cell? ⟨g, k, none⟩ = wr.cell? ⟨g, k, none⟩ := fun k => HB2.out.cell (p := ⟨g, k, none⟩) hgl
    have hfro : ∀ k, w2.frozen? ⟨g, k, none⟩ = false := fun k => by
     have := hfz k
     unfold World.frozen? at this ⊢
     rw [HB2.out.block g hgl]; exact this
    have n0 := (hkeep _).trans m0
    have n1 := (hkeep _).trans m1
    have n2 := (hkeep _).trans m2
    have n3 := (hkeep _).trans m3
    have n4 := (hkeep _).trans m4
    have n5 := (hkeep _).trans m5
    have f0 := hfro (i * 6)
    have f1 := hfro (i * 6 + 1)
    have f2 := hfro (i * 6 + 2)
    have f3 := hfro (i * 6 + 3)
    have f4 := hfro (i * 6 + 4)
    have f5 := hfro (i * 6 + 5)
    obtain ⟨d0, d1, d2, d3, d4, d5⟩ := JcA HR2.out
    have HO3 : Hid ((w2.setCells g (i * 6) y.cs).ownsRow B 88 6 (.slice (some ⟨g, 0, none⟩) n cap) n (liV (M.set i y))) := Jci HO2.out i y hi0 HDD.out.len
    have HB3 : Hid (Below B w0 (w2.setCells g (i * 6) y.cs)) := (((((HBF.out.setCell (p := ⟨g, i * 6, none⟩) hbg _).setCell (p := ⟨g, i * 6 + 1, none⟩) hbg _).setCell (p := ⟨g, i * 6 + 1 + 1, none⟩) hbg _).setCell (p := ⟨g, i * 6 + 1 + 1 + 1, none⟩) hbg _).setCell (p := ⟨g, i * 6 + 1 + 1 + 1 + 1, none⟩) hbg _).setCell (p := ⟨g, i * 6 + 1 + 1 + 1 + 1 + 1, none⟩) hbg _
    have HS3 : Hid (B ≤ (w2.setCells g (i * 6) y.cs).heap.size) := by show _ ≤ _; simpa [Li.cs, World.setCells] using hs2
    clear HGO HKE m0 m1 m2 m3 m4 m5 hfz hkeep hfro HB2 HR2 HO2 hcm
    go_wp2
    go_roundw
    case rel => exact ⟨i + 1, j + 1, _, by go_num, by go_num, HE.out, HO3.out, HB3.out, HS3.out⟩
    case measure => simp [intOf]; omega
end Go.Proofs.YtepfinenocpneaaGreat
