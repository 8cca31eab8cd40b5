/- A knowledge as an array: how it is read out of a list, and m. -/
import Derived.BigRegion
import Derived.Laws.CopyOwn
import Derived.Test.YtepfinenocpneaaGreatQ6
set_option maxHeartbeats 16000000
namespace Go.Proofs.YtepfinenocpneaaGreat
open Value (int)
open IntKind (i64)
set_option maxRecDepth 100000
set_option linter.unusedVariables false
open Go.RowKit
def arr (a b c : Int) : Value := .agg #[int i64 a, int i64 b, int i64 c]
def ArrAt (w : World) (g : Nat) (a b c : Int) : Prop := w.heap[g]? = some (.cells #[int i64 a, int i64 b, int i64 c] 139 (0, 0))
theorem ArrAt.c0 {w : World} {g : Nat} {a b c : Int} (h : ArrAt w g a b c) : w.cell? ⟨g, 0, none⟩ = some (int i64 a) := by unfold ArrAt at h; simp [World.cell?, h]
theorem ArrAt.c1 {w : World} {g : Nat} {a b c : Int} (h : ArrAt w g a b c) : w.cell? ⟨g, 1, none⟩ = some (int i64 b) := by unfold ArrAt at h; simp [World.cell?, h]
theorem ArrAt.c2 {w : World} {g : Nat} {a b c : Int} (h : ArrAt w g a b c) : w.cell? ⟨g, 2, none⟩ = some (int i64 c) := by unfold ArrAt at h; simp [World.cell?, h]
theorem ArrAt.free {w : World} {g : Nat} {a b c : Int} (h : ArrAt w g a b c) (i : Nat) : w.frozen? ⟨g, i, none⟩ = false := by unfold ArrAt at h; simp [World.frozen?, h]
theorem ArrAt.set0 {w : World} {g : Nat} {a b c : Int} (h : ArrAt w g a b c) (x : Int) : ArrAt (w.setCell ⟨g, 0, none⟩ (int i64 x)) g x b c := by
 have hm : w.heap[g]? = _ := h
 unfold ArrAt World.setCell
 simp [Array.getElem?_modify, hm]
theorem ArrAt.set1 {w : World} {g : Nat} {a b c : Int} (h : ArrAt w g a b c) (x : Int) : ArrAt (w.setCell ⟨g, 1, none⟩ (int i64 x)) g a x c := by
 have hm : w.heap[g]? = _ := h
 unfold ArrAt World.setCell
 simp [Array.getElem?_modify, hm]
theorem ArrAt.set2 {w : World} {g : Nat} {a b c : Int} (h : ArrAt w g a b c) (x : Int) : ArrAt (w.setCell ⟨g, 2, none⟩ (int i64 x)) g a b x := by
 have hm : w.heap[g]? = _ := h
 unfold ArrAt World.setCell
 simp [Array.getElem?_modify, hm]
theorem ArrAt.other {w : World} {g : Nat} {a b c : Int} (h : ArrAt w g a b c) {p : Addr} (hne : g ≠ p.block) (u : Value) : ArrAt (w.setCell p u) g a b c := by
 unfold ArrAt; rw [Below.heap_setCell w p u g hne]; exact h
theorem ArrAt.lt {w : World} {g : Nat} {a b c : Int} (h : ArrAt w g a b c) : g < w.heap.size := (Array.getElem?_eq_some_iff.1 h).1
theorem ArrAt.alloc {w : World} {g : Nat} {a b c : Int} (h : ArrAt w g a b c) (o : Obj) : ArrAt (w.alloc o) g a b c := (Below.heap_alloc w o g h.lt).trans h
theorem ArrAt.below {w w' : World} {g B : Nat} {a b c : Int} (h : ArrAt w g a b c) (hb : Below B w w') (hB : g < B) : ArrAt w' g a b c := (hb.block g hB).trans h
theorem ArrAt.drew {w : World} {g : Nat} {a b c : Int} (h : ArrAt w g a b c) : ArrAt w.drew g a b c := h
theorem Jz (w : World) (a b c : Int) {g : Nat} (hg : g = w.heap.size) : ArrAt (w.alloc (.cells #[int i64 a, int i64 b, int i64 c] 139)) g a b c := by subst hg; exact (MapKept.heap_alloc w _).1
theorem ArrAt.ints {w : World} {g : Nat} {a b c : Int} (h : ArrAt w g a b c) : ∀ j v, (Je [a, b, c])[j]? = some v → w.cell? ((⟨g, 0, none⟩ : Addr).add j) = some v := by
 intro j v hj
 rw [Jw]
 match j, hj with
 | 0, hj => simp [Je] at hj; subst hj; exact h.c0
 | 1, hj => simp [Je] at hj; subst hj; exact h.c1
 | 2, hj => simp [Je] at hj; subst hj; exact h.c2
 | j + 3, hj => simp [Je] at hj
theorem Jel {fn : Func} {p : Tmp} (h : fn.results = #[.cell p 139]) {tmps : Array Value} {w : World} {g : Nat} {a b c : Int} (hp : tmps.getD p undef = .pointer (some ⟨g, 0, none⟩)) (hg : ArrAt w g a b c) :
  (results fn tmps).run Tryz.prog w = .ok (arr a b c) w := results_cell_row h tmps w g 139 _ (0, 0) _ hp hg Tryz.underlying139 rfl (by kernel_rfl)
theorem Uw {w : World} {g : Nat} {a b c : Int} (hg : ArrAt w g a b c) : (loadVar 139 ⟨g, 0, none⟩).run Tryz.prog w = .ok (arr a b c) w :=
 run_loadVar_row w g 139 139 _ (0, 0) _ hg Tryz.underlying139 rfl (by kernel_rfl)
theorem Y7 {fn : Func} {p u : Tmp} (h : fn.results = #[.cell p 139, .tmp u]) {tmps : Array Value} {w : World} {g : Nat} {a b c : Int} {v : Value} (hp : tmps.getD p undef = .pointer (some ⟨g, 0, none⟩)) (hv : tmps.getD u undef = v) (hg : ArrAt w g a b c) :
  (results fn tmps).run Tryz.prog w = .ok (.tuple #[arr a b c, v]) w := by
 rw [results_cell_tmp h, hp, hv]
 simp [asAddr, Result.andThen, Uw hg]
theorem JcV {fn : Func} {p q u : Tmp} (h : fn.results = #[.cell p 139, .cell q 139, .tmp u]) {tmps : Array Value} {w : World} {g k : Nat} {a b c d e f : Int} {v : Value} (hp : tmps.getD p undef = .pointer (some ⟨g, 0, none⟩)) (hq : tmps.getD q undef = .pointer (some ⟨k, 0, none⟩)) (hv : tmps.getD u undef = v) (hg : ArrAt w g a b c) (hk : ArrAt w k d e f) :
  (results fn tmps).run Tryz.prog w = .ok (.tuple #[arr a b c, arr d e f, v]) w := by
 rw [Array.getD_eq_getD_getElem?] at hp hq hv
 simp only [results, h]
 simp [Sem.run_bind, hp, hq, hv, asAddr, Result.andThen, Uw hg, Uw hk]
theorem Zo : (Tryz.prog.info? 3).map (fun i => (i.zero, i.size, i.bytes)) = some (some (int i64 0), 1, 8) := by kernel_rfl
theorem Jd3 : (Tryz.prog.info? 3).map (·.size) = some 1 := by kernel_rfl
theorem UP {w : World} {g k ca cb B : Nat} {cur : Array Value} {a b c : Int} {t : TypeId} (h3 : cur.size = 3) (hg : w.heap[g]? = some (.cells cur t (0, 0))) (hsrc : ∀ j v, (Je [a, b, c])[j]? = some v → w.cell? ((⟨k, 0, none⟩ : Addr).add j) = some v) (hB : B ≤ g) :
  ∃ w', (Builtin.copy_ #[24, 24] 3 #[.slice (some ⟨g, 0, none⟩) 3 cb, .slice (some ⟨k, 0, none⟩) 3 ca]).run Tryz.prog w = .ok (int i64 3) w' ∧ w'.heap[g]? = some (.cells #[int i64 a, int i64 b, int i64 c] t (0, 0)) ∧ Below B w w' := by
 have hrun := run_copy_row (P := Tryz.prog) w 24 24 3 3 g 0 3 cb ⟨k, 0, none⟩ 3 ca cur t (Je [a, b, c]) Tryz.underlying24 Jd3 hg rfl hsrc (by simp [Je, h3]) (by intro u hu; simp [Je] at hu; rcases hu with rfl | rfl | rfl <;> rfl)
 have e : (cur.toList.take 0 ++ Je [a, b, c] ++ cur.toList.drop (0 + (Je [a, b, c]).length)).toArray = #[int i64 a, int i64 b, int i64 c] := by
  rw [List.drop_of_length_le (by simp [Je, h3])]
  simp [Je]
 rw [e] at hrun
 exact ⟨_, hrun, setRow_heap w g _ _ t _ hg, below_setRow (Below.refl _ _) hB _⟩
theorem JaV {w : World} {g : Nat} {a b c : Int} (h : ∀ j (h : j < [a, b, c].length), w.cell? ⟨g, j, none⟩ = some (int i64 ([a, b, c][j]))) : ∀ j v, (Je [a, b, c])[j]? = some v → w.cell? ((⟨g, 0, none⟩ : Addr).add j) = some v := by
 intro j v hj
 rw [Jw]
 rcases Nat.lt_or_ge j ([a, b, c].length) with h' | h'
 ·rw [Jbh _ j h'] at hj
  cases hj
  exact h j h'
 ·rw [List.getElem?_eq_none (by rw [JdX]; exact h')] at hj; cases hj
def Zp : Obj := .cells #[int i64 0, int i64 0, int i64 0] 139
theorem Uu (l : List Int) (v : Value) (w : World) (h : IntsAt w v l) (hk : decide (KOk l) = false) :
  Calls Tryz.prog 118 #[v] w fun e w' => e = .returned (.tuple #[arr 0 0 0, .bool false]) ∧ Below w.heap.size w w' := by
 have hc : Hid (Calls Tryz.prog 96 #[v] (w.alloc Zp) fun e w' => e = .returned (.bool false) ∧ w' = w.alloc Zp) := by
  have := J8 l v _ (h.alloc Zp)
  rw [hk] at this; exact this
 have hA := Jz w 0 0 0 rfl
 have f0 := hA.free 0
 have f1 := hA.free 1
 have f2 := hA.free 2
 clear hk h
 go_enter Tryz.func118, Tryz.ntmps118
 go_wp2_with fail
 refine hc.out.mono ?_
 rintro e w1 ⟨rfl, rfl⟩
 unfold Zp
 go_wp2
 exact bodyPost_ret (Y7 rfl rfl rfl hA) rfl ⟨rfl, (Below.refl _ _).alloc (Nat.le_refl _) _⟩
theorem UC (a b c : Int) (v : Value) (w : World) (h : IntsAt w v [a, b, c]) (hk : decide (KOk [a, b, c]) = true) :
  Calls Tryz.prog 118 #[v] w fun e w' => e = .returned (.tuple #[arr a b c, .bool true]) ∧ Below w.heap.size w w' := by
 obtain ⟨W, hW⟩ : ∃ W, W = w.alloc Zp := ⟨_, rfl⟩
 have hc : Hid (Calls Tryz.prog 96 #[v] W fun e w' => e = .returned (.bool true) ∧ w' = W) := by
  have := J8 [a, b, c] v W (by rw [hW]; exact h.alloc Zp)
  rw [hk] at this; exact this
 have hA : ArrAt W w.heap.size 0 0 0 := by rw [hW]; exact Jz w 0 0 0 rfl
 have hbW : Below w.heap.size w W := by rw [hW]; exact (Below.refl _ _).alloc (Nat.le_refl _) _
 have h2 : IntsAt (W.alloc Zp) v [a, b, c] := by rw [hW]; exact (h.alloc _).alloc _
 obtain ⟨aa, ca, rfl, hg⟩ := h2
 obtain ⟨g, rfl, hg1, hg2⟩ := hg (by simp)
 have HW : Hid (w.alloc (.cells #[int i64 0, int i64 0, int i64 0] 139) = W) := hW.symm
 obtain ⟨w2, hcp, hR2, hB2⟩ := UP (ca := ca) (cb := 3) (B := W.heap.size) rfl (Jz W 0 0 0 rfl) (JaV hg2) (Nat.le_refl _)
 have hB3 : Below W.heap.size W w2 := ((Below.refl _ _).alloc (Nat.le_refl _) _).trans hB2
 have hR3 : ArrAt w2 W.heap.size a b c := hR2
 have hA2 := hA.below hB3 hA.lt
 have c0 := hR3.c0
 have c1 := hR3.c1
 have c2 := hR3.c2
 have d0 := hA2.c0
 have d1 := hA2.c1
 have d2 := hA2.c2
 have f0 := hA2.free 0
 have f1 := hA2.free 1
 have f2 := hA2.free 2
 have hb2 : Below w.heap.size w w2 := hbW.trans (hB3.mono hbW.size)
 clear hk h hg hg2 hW hR2 hB2 hB3 hR3 hbW
 go_enter Tryz.func118, Tryz.ntmps118
 go_wp2_with fail
 rw [HW.out]
 refine hc.out.mono ?_
 rintro e w1 ⟨rfl, rfl⟩
 go_wp2
 exact bodyPost_ret (Y7 rfl rfl rfl (((hA2.set0 _).set1 _).set2 _)) rfl ⟨rfl, ((hb2.setCell (p := ⟨w.heap.size, 0, none⟩) (Nat.le_refl _) _).setCell (p := ⟨w.heap.size, 1, none⟩) (Nat.le_refl _) _).setCell (p := ⟨w.heap.size, 2, none⟩) (Nat.le_refl _) _⟩
theorem GZ (w : World) (n : Nat) (hn : n ≤ 1048576) : (Instr.makeSlice 24 (int i64 (n : Int)) (int i64 (n : Int))).run Tryz.prog w = .ok (.slice (some ⟨w.heap.size, 0, none⟩) n n) (w.alloc (.cells (Je (List.replicate n 0)).toArray 3)) := by
 obtain ⟨i0, hi, hz0, hz1, hz2⟩ := info_parts Zo
 have hr := run_make (P := Tryz.prog) w 24 3 i0 (int i64 0) Tryz.underlying24 hi hz0 .i64 .i64 n n (by omega) (Int.le_refl _) (by rw [hz2]; omega) (by omega)
 have e : (Je (List.replicate n 0)).toArray = madeCells (Value.int .i64 0).cells (n * 1) := by
  apply Array.ext'
  show _ = (madeCells #[Value.int .i64 0] (n * 1)).toList
  rw [toList_madeCells_one]
  simp [Je]
 rw [hz1] at hr
 rw [e]
 simpa using hr
theorem GP {w : World} {g B n : Nat} {xs : List Value} {e : TypeId} (h : w.heap[g]? = some (.cells xs.toArray e (0, 0))) (hB : B ≤ g) (hl : xs.length = n) (hm : n ≤ maxLen) : w.ownsRow B e 1 (.slice (some ⟨g, 0, none⟩) n n) n xs :=
 ⟨by omega, .inr ⟨g, n, xs.toArray, rfl, hB, h, Nat.le_refl _, hm, by simp [hl], by simp [← hl]⟩⟩
theorem Ja3 (a b c : Int) (w : World) :
  Calls Tryz.prog 110 #[arr a b c] w fun e w' => ∃ u, e = .returned u ∧ w'.ownsRow w.heap.size 3 1 u 3 (Je [a, b, c]) ∧ Below w.heap.size w w' := by
 obtain ⟨W, hW⟩ : ∃ W, W = w.alloc (.cells #[int i64 a, int i64 b, int i64 c] 139) := ⟨_, rfl⟩
 have hA : ArrAt W w.heap.size a b c := by rw [hW]; exact Jz w a b c rfl
 have hbW : Below w.heap.size w W := by rw [hW]; exact (Below.refl _ _).alloc (Nat.le_refl _) _
 have hmk : (Instr.makeSlice 24 (int i64 3) (int i64 3)).run Tryz.prog W = .ok (.slice (some ⟨W.heap.size, 0, none⟩) 3 3) (W.alloc (.cells (Je (List.replicate 3 0)).toArray 3)) := GZ W 3 (by omega)
 have hA2 := hA.alloc (.cells (Je (List.replicate 3 0)).toArray 3)
 obtain ⟨w2, hcp, hR2, hB2⟩ := UP (w := W.alloc (.cells (Je (List.replicate 3 0)).toArray 3)) (ca := 3) (cb := 3) (B := W.heap.size) (cur := (Je (List.replicate 3 0)).toArray) rfl (MapKept.heap_alloc W _).1 hA2.ints (Nat.le_refl _)
 have hb2 : Below w.heap.size w w2 := hbW.trans ((((Below.refl _ _).alloc (Nat.le_refl _) _).trans hB2).mono hbW.size)
 have hle : w.heap.size ≤ W.heap.size := hbW.size
 obtain ⟨W1, hW1⟩ : ∃ W1, W1 = W.alloc (.cells (Je (List.replicate 3 0)).toArray 3) := ⟨_, rfl⟩
 rw [← hW1] at hmk hcp
 rw [hW] at hmk
 have HR : Hid (w2.ownsRow w.heap.size 3 1 (.slice (some ⟨W.heap.size, 0, none⟩) 3 3) 3 (Je [a, b, c])) := GP hR2 hle rfl (by decide)
 have HB : Hid (Below w.heap.size w w2) := hb2
 have hsz : (w.alloc (.cells #[int i64 a, int i64 b, int i64 c] 139)).heap.size = W.heap.size := by rw [hW]
 rw [hsz] at hmk
 clear hW hW1 hA hbW hA2 hR2 hB2 hb2 hle hsz
 unfold arr
 go_enter Tryz.func110, Tryz.ntmps110
 go_wp2
 go_ret
 exact ⟨_, rfl, HR.out, HB.out⟩
def mx (x y : Int) : Int := if x < y then y else x
def Three (w wr : World) (a b c d e f : Int) : Prop := ArrAt wr w.heap.size a b c ∧ ArrAt wr (w.heap.size + 1) d e f ∧ ArrAt wr (w.heap.size + 2) 0 0 0 ∧ Below w.heap.size w wr
theorem Three.set0 {w wr : World} {a b c d e f : Int} (h : Three w wr a b c d e f) (x : Int) : Three w (wr.setCell ⟨w.heap.size, 0, none⟩ (int i64 x)).drew x b c d e f :=
 ⟨(h.1.set0 x).drew, (h.2.1.other (p := ⟨w.heap.size, 0, none⟩) (by simp) _).drew, (h.2.2.1.other (p := ⟨w.heap.size, 0, none⟩) (by simp) _).drew, (h.2.2.2.setCell (p := ⟨w.heap.size, 0, none⟩) (Nat.le_refl _) _).drew⟩
theorem Three.set1 {w wr : World} {a b c d e f : Int} (h : Three w wr a b c d e f) (x : Int) : Three w (wr.setCell ⟨w.heap.size, 1, none⟩ (int i64 x)).drew a x c d e f :=
 ⟨(h.1.set1 x).drew, (h.2.1.other (p := ⟨w.heap.size, 1, none⟩) (by simp) _).drew, (h.2.2.1.other (p := ⟨w.heap.size, 1, none⟩) (by simp) _).drew, (h.2.2.2.setCell (p := ⟨w.heap.size, 1, none⟩) (Nat.le_refl _) _).drew⟩
theorem Three.set2 {w wr : World} {a b c d e f : Int} (h : Three w wr a b c d e f) (x : Int) : Three w (wr.setCell ⟨w.heap.size, 2, none⟩ (int i64 x)).drew a b x d e f :=
 ⟨(h.1.set2 x).drew, (h.2.1.other (p := ⟨w.heap.size, 2, none⟩) (by simp) _).drew, (h.2.2.1.other (p := ⟨w.heap.size, 2, none⟩) (by simp) _).drew, (h.2.2.2.setCell (p := ⟨w.heap.size, 2, none⟩) (Nat.le_refl _) _).drew⟩
theorem Jbe (a b c d e f : Int) (w : World) :
  Calls Tryz.prog 138 #[arr a b c, arr d e f] w fun r w' => r = .returned (arr (mx a d) (mx b e) (mx c f)) ∧ Below w.heap.size w w' := by
 have h0 : Three w (((w.alloc (.cells #[int i64 a, int i64 b, int i64 c] 139)).alloc (.cells #[int i64 d, int i64 e, int i64 f] 139)).alloc Zp) a b c d e f :=
  ⟨((Jz w a b c rfl).alloc _).alloc _, (Jz _ d e f (by simp)).alloc _, Jz _ 0 0 0 (by simp), (((Below.refl _ _).alloc (Nat.le_refl _) _).alloc (by simp) _).alloc (by simp; omega) _⟩
 have H0 : Hid (Three w _ a b c d e f) := h0
 clear h0
 unfold arr
 go_enter Tryz.func138, Tryz.ntmps138
 go_wp2
 go_loopw [6] (fun z wr => (z = int i64 0 ∧ Three w wr a b c d e f) ∨ (z = int i64 1 ∧ Three w wr (mx a d) b c d e f) ∨ (z = int i64 2 ∧ Three w wr (mx a d) (mx b e) c d e f) ∨ (z = int i64 3 ∧ Three w wr (mx a d) (mx b e) (mx c f) d e f)) (fun z _ => 3 - (intOf z).toNat)
 case atStart => exact .inl ⟨rfl, H0.out⟩
 case round =>
  clear H0
  rcases hrel with ⟨rfl, hT⟩ | ⟨rfl, hT⟩ | ⟨rfl, hT⟩ | ⟨rfl, hT⟩
  ·have HT : Hid (Three w wr _ _ _ _ _ _) := hT
   obtain ⟨hA, hD, -, -⟩ := hT
   have c0 := hA.c0
   have f0 := hA.free 0
   have d0 := hD.c0
   clear hA hD
   go_wp2
   go_big_region
   all_goals go_wp2
   all_goals go_roundw
   case rel => exact .inr (.inl ⟨by go_num, HT.out.set0 _⟩)
   case measure => simp [intOf]
  ·have HT : Hid (Three w wr _ _ _ _ _ _) := hT
   obtain ⟨hA, hD, -, -⟩ := hT
   have c0 := hA.c1
   have f0 := hA.free 1
   have d0 := hD.c1
   clear hA hD
   go_wp2
   go_big_region
   all_goals go_wp2
   all_goals go_roundw
   case rel => exact .inr (.inr (.inl ⟨by go_num, HT.out.set1 _⟩))
   case measure => simp [intOf]
  ·have HT : Hid (Three w wr _ _ _ _ _ _) := hT
   obtain ⟨hA, hD, -, -⟩ := hT
   have c0 := hA.c2
   have f0 := hA.free 2
   have d0 := hD.c2
   clear hA hD
   go_wp2
   go_big_region
   all_goals go_wp2
   all_goals go_roundw
   case rel => exact .inr (.inr (.inr ⟨by go_num, HT.out.set2 _⟩))
   case measure => simp [intOf]
  ·have HT : Hid (Three w wr _ _ _ _ _ _) := hT
   obtain ⟨hA, -, hO, hb⟩ := hT
   have c0 := hA.c0
   have c1 := hA.c1
   have c2 := hA.c2
   have d0 := hO.c0
   have d1 := hO.c1
   have d2 := hO.c2
   have f0 := hO.free 0
   have f1 := hO.free 1
   have f2 := hO.free 2
   clear hA
   go_wp2
   exact bodyPost_ret (Jel rfl rfl (((hO.set0 _).set1 _).set2 _)) rfl ⟨rfl, ((hb.setCell (p := ⟨w.heap.size + 2, 0, none⟩) (Nat.le_add_right _ 2) _).setCell (p := ⟨w.heap.size + 2, 1, none⟩) (Nat.le_add_right _ 2) _).setCell (p := ⟨w.heap.size + 2, 2, none⟩) (Nat.le_add_right _ 2) _⟩
end Go.Proofs.YtepfinenocpneaaGreat
