/- A counter is counted on, as the specification does it. What an act makes of a state; rows that are kept. -/
import Derived.BigRegion
import Derived.Test.YtdknoflkingodaaGreatM1
import Derived.Test.YtdknoflkingodaaGreatM2
import Derived.Test.YtdknoflkingodaaGreatM3
import Derived.Test.YtdknoflkingodaaGreatM4
import Derived.Test.YtdknoflkingodaaGreatM5
import Derived.Test.YtdknoflkingodaaGreatM6
import Derived.Test.YtdknoflkingodaaGreatM7
import Derived.Test.YtdknoflkingodaaGreatM8
import Derived.Test.YtdknoflkingodaaGreatM9
import Derived.Test.YtdknoflkingodaaGreatM10
import Derived.Test.YtdknoflkingodaaGreatM11
import Derived.Test.YtdknoflkingodaaGreatM12
import Derived.Test.YtdknoflkingodaaGreatM13
import Derived.Test.YtdknoflkingodaaGreatM14
import Derived.Test.YtdknoflkingodaaGreatM15
import Derived.Test.YtdknoflkingodaaGreatM16
import Derived.Test.YtdknoflkingodaaGreatM17
import Derived.Test.YtdknoflkingodaaGreatM18
import Derived.Test.YtdknoflkingodaaGreatM19
import Derived.Test.YtdknoflkingodaaGreatM20
import Derived.Test.YtdknoflkingodaaGreatM21
import Derived.Test.YtdknoflkingodaaGreatM22
namespace Go.Proofs.YtdknoflkingodaaGreat
set_option maxRecDepth 100000
set_option linter.unusedVariables false
open Go.RowKit
def isTa (o : ByteArray) (r : Int) (t : Ta) : Bool := decide (t.o = o ∧ t.r = r)
def taGt (o : ByteArray) (r : Int) (t : Ta) : Bool := decide (o.data.toList < t.o.data.toList ∨ (t.o = o ∧ r < t.r))
/-- The tallies behind an act that counts. -/
def tallied (T : List Ta) (o : ByteArray) (r v : Int) : List Ta :=
 match T.findIdx? (isTa o r) with
 | some i => (match T[i]? with | some t => T.set i { t with n := (t.n + v) % 1000000 } | none => T)
 | none => ins (fun t => taGt o r t) ⟨o, r, v⟩ T
theorem tallied_at (T : List Ta) (o : ByteArray) (r v : Int) (k : Nat) (h : k < T.length) (h1 : ∀ i (hi : i < T.length), i < k → isTa o r T[i] = false) (h2 : isTa o r T[k] = true) : tallied T o r v = T.set k { T[k] with n := (T[k].n + v) % 1000000 } := by
 have e : T.findIdx? (isTa o r) = some k := List.findIdx?_eq_some_iff_getElem.2 ⟨h, h2, fun j hj => by simp [h1 j (by omega) hj]⟩
 unfold tallied; rw [e]
 simp [h]
theorem tallied_new (T : List Ta) (o : ByteArray) (r v : Int) (h1 : ∀ i (hi : i < T.length), isTa o r T[i] = false) : tallied T o r v = ins (fun t => taGt o r t) ⟨o, r, v⟩ T := by
 have e : T.findIdx? (isTa o r) = none := List.findIdx?_eq_none_iff.2 (fun x hx => by
  obtain ⟨i, hi, rfl⟩ := List.mem_iff_getElem.1 hx
  exact h1 i hi)
 unfold tallied; rw [e]
theorem taV_snoc (l : List Ta) (x : Ta) : taV (l ++ [x]) = taV l ++ x.cs := by simp [taV]
theorem taV_set (l : List Ta) (k : Nat) (h : k < l.length) (c : Int) : (taV l).set (k * 3 + 2) (.int .i64 c) = taV (l.set k { l[k] with n := c }) := by
 induction l generalizing k with
 | nil => simp at h
 | cons a l ih =>
  cases k with
  | zero => simp [taV, Ta.cs]
  | succ k =>
   have := ih k (by simpa using h)
   have e : (k + 1) * 3 + 2 = k * 3 + 2 + 1 + 1 + 1 := by omega
   rw [e]
   show (Ta.cs a ++ taV l).set _ _ = Ta.cs a ++ taV (l.set k _)
   simp only [Ta.cs, List.cons_append, List.nil_append, List.set_cons_succ]
   rw [this]; rfl
/-- All but two blocks are as they were. -/
def Frm (w w' : World) (p : Nat) (u : Value) : Prop := w'.os = w.os ∧ w'.tape = w.tape ∧ w'.output = w.output ∧ w.heap.size ≤ w'.heap.size ∧ ∀ j, j < w.heap.size → j ≠ p → u.ownBlock ≠ some j → w'.heap[j]? = w.heap[j]?
abbrev dto0 : Oper := oq 40 (.move (.tmp 0)) 169 "l07_done.go:10" #[] none
abbrev dto1 : Oper := oq 41 (.nilCheck (.tmp 40)) 0 "l07_done.go:10" #[eD 0] none
abbrev dto2 : Oper := oq 42 (.fieldAddr 29 (.tmp 41) 1) 0 "l07_done.go:10" #[eD 1] none
abbrev dto3 : Oper := oq 43 (.load 25 (.tmp 42)) 25 "l07_done.go:10" #[eD 2] none
abbrev dto4 : Oper := oq 44 (.move (.tmp 8)) 3 "l07_done.go:10" #[] none
abbrev dto5 : Oper := oq 45 (.fieldAddr 38 (.tmp 9) 2) 0 "l07_done.go:10" #[] none
abbrev dto6 : Oper := oq 46 (.load 3 (.tmp 45)) 3 "l07_done.go:10" #[eD 5] none
abbrev dto7 : Oper := oq 47 (.move (.tmp 3)) 3 "l07_done.go:10" #[] none
abbrev dto8 : Oper := oq 48 (.binOp .add 3 (.tmp 46) (.tmp 47) 3) 3 "l07_done.go:10" #[eD 6, eD 7] none
abbrev dto9 : Oper := oq 49 (.binOp .rem 3 (.tmp 48) (.const (.int .i64 1000000)) 3) 3 "l07_done.go:10" #[eD 8] none
abbrev dto10 : Oper := oq 50 (.indexAddr 25 (.tmp 43) (.tmp 44)) 0 "l07_done.go:10" #[eD 3, eD 4, eP 0, eP 1, eP 2, eP 3, eP 4, eP 5, eP 6, eP 7, eP 8, eP 9] none
abbrev dto11 : Oper := oq 51 (.fieldAddr 38 (.tmp 50) 2) 0 "l07_done.go:10" #[eD 10, eP 0, eP 1, eP 2, eP 3, eP 4, eP 5, eP 6, eP 7, eP 8, eP 9] none
abbrev dto12 : Oper := oz (.store 3 (.tmp 51) (.tmp 49)) 0 "l07_done.go:10" #[eD 11, eD 9, eP 0, eP 1, eP 2, eP 3, eP 4, eP 5, eP 6, eP 7, eP 8, eP 9] none
set_option maxHeartbeats 16000000 in
theorem specTally_calls (T : List Ta) (p : Nat) (u0 u1 u2 u3 : Value) (o : ByteArray) (r v : Int) (B : Nat) (w : World) (hn : T.length ≤ 1000000) (hT : ∀ a ∈ T, 0 ≤ a.n ∧ a.n ≤ 999999) (hv : 0 ≤ v ∧ v ≤ 999999) (hp : Row w p #[u0, u1, u2, u3] 29) (hpl : p < w.heap.size) (hpn : ∀ j, u1.ownBlock = some j → j ≠ p) (hB : B ≤ w.heap.size) (hO : w.ownsRow B 38 3 u1 T.length (taV T)) :
  Calls Tryz.prog 155 #[.pointer (some ⟨p, 0, none⟩), .string o, .int .i64 r, .int .i64 v] w fun e w' => e = .returned (.tuple #[]) ∧ ∃ a1 d1, Row w' p #[u0, .slice a1 (tallied T o r v).length d1, u2, u3] 29 ∧ w'.ownsRow B 38 3 (.slice a1 (tallied T o r v).length d1) (tallied T o r v).length (taV (tallied T o r v)) ∧ (∀ j, (Value.slice a1 (tallied T o r v).length d1).ownBlock = some j → u1.ownBlock = some j ∨ w.heap.size ≤ j) ∧ Frm w w' p u1 := by
 obtain ⟨aa, ca, rfl, hga⟩ := TaAt.own hO rfl
 have HP : Hid (∀ wx, Below w.heap.size w wx → Row wx p #[u0, .slice aa T.length ca, u2, u3] 29) := fun wx h => hp.next h
 have HO : Hid (∀ wx, Below w.heap.size w wx → wx.ownsRow B 38 3 (.slice aa T.length ca) T.length (taV T)) := fun wx h => own_below hO h
 have HGA : Hid (TaG w aa T) := hga
 have HT := hidI hT
 have hv1 := hv.1
 have hv2 := hv.2
 obtain ⟨n, hnl⟩ : ∃ n, n = T.length := ⟨_, rfl⟩
 have HL : Hid (n = T.length) := hnl
 have HPL := hidI hpl
 have HPN := hidI hpn
 have HBW := hidI hB
 rw [← hnl] at hn HP
 clear hnl hga hp hO hT hv hpn
 go_enter Tryz.func155, Tryz.ntmps155
 go_wp2
 go_loopw [8] (fun z wr => ∃ k : Nat, k ≤ n ∧ z = .int .i64 k ∧ (∀ i (hi : i < T.length), i < k → isTa o r T[i] = false) ∧ Below w.heap.size w wr) (fun z _ => n - (intOf z).toNat)
 case atStart => exact ⟨0, Nat.zero_le _, rfl, fun i _ h => by omega, Below.refl _ _⟩
 case round =>
  obtain ⟨k, hk, rfl, hall, hbel⟩ := hrel
  have HALL := hidI hall
  have HBE := hidI hbel
  obtain ⟨d0, d1, d2, d3⟩ := Row.four (HP.out wr hbel)
  have hsz := hbel.size
  clear hall
  by_cases hlt : k < n
  ·have hkl : k < T.length := by rw [← HL.out]; exact hlt
   obtain ⟨g, f, rfl, hg, hcc⟩ := HGA.out (by omega)
   obtain rfl : f = 0 := by
    rcases (HO.out w (Below.refl _ _)).2 with ⟨h0, -⟩ | ⟨g2, cap, cur, e, -⟩
    ·cases h0
    ·injection e with e1; injection e1 with e1; injection e1
   have hk1 : (k : Int) < n := by omega
   have hk0 : (0 : Int) ≤ k := by omega
   have q := (hcc k hkl).below hbel hg
   rw [Nat.zero_add] at q
   have HAT : Hid (isTa o r T[k] = true → tallied T o r v = T.set k { T[k] with n := (T[k].n + v) % 1000000 }) := tallied_at T o r v k hkl HALL.out
   have HNX : Hid (isTa o r T[k] = false → ∀ i (hi : i < T.length), i < k + 1 → isTa o r T[i] = false) := fun h i hi hik => by
    by_cases e : i = k
    ·subst e; exact h
    ·exact HALL.out i hi (by omega)
   have hxn := HT.out T[k] (List.getElem_mem hkl)
   have HC2 : Hid (∀ wx, Below w.heap.size w wx → wx.cell? ⟨g, k * 3 + 2, none⟩ = some (.int .i64 T[k].n)) := fun wx h => by
    have := ((hcc k hkl).below h hg).2.2
    rwa [Nat.zero_add] at this
   have HSET := hidI (fun c => taV_set T k hkl c)
   generalize T[k] = x at *
   unfold taC at q
   obtain ⟨q0, q1, q2⟩ := q
   obtain ⟨WW, hWW⟩ : ∃ WW, WW = wr.alloc (.cells #[.string x.o, .int .i64 x.r, .int .i64 x.n] 38) := ⟨_, rfl⟩
   have hBW : Below w.heap.size w WW := by rw [hWW]; exact hbel.alloc hsz _
   have hRW : Row WW wr.heap.size #[.string x.o, .int .i64 x.r, .int .i64 x.n] 38 := by rw [hWW]; exact row_new wr _ _ rfl
   have HWW : Hid (wr.alloc (.cells #[.string x.o, .int .i64 x.r, .int .i64 x.n] 38) = WW) := hWW.symm
   have HBW2 := hidI hBW
   clear hcc hbel hkl hWW
   by_cases h1 : x.o = o
   case neg =>
    have HE := hidI (HNX.out (by unfold isTa; exact decide_eq_false (fun h => h1 h.1)))
    have b1 := beq_str_no x.o o h1
    clear h1 HNX HAT HALL
    go_wp2
    rw [HWW.out]
    go_roundw
    case rel => exact ⟨k + 1, by omega, by go_num, HE.out, HBW2.out⟩
    case measure => simp [intOf]; omega
   have b1 := beq_str x.o o h1
   by_cases h2 : x.r = r
   case neg =>
    have HE := hidI (HNX.out (by unfold isTa; exact decide_eq_false (fun h => h2 h.2)))
    have b2 : (x.r == r) = false := by simp [h2]
    clear h1 h2 HNX HAT HALL
    go_wp2
    rw [HWW.out]
    go_roundw
    case rel => exact ⟨k + 1, by omega, by go_num, HE.out, HBW2.out⟩
    case measure => simp [intOf]; omega
   have b2 : (x.r == r) = true := by simp [h2]
   have HTL := hidI (HAT.out (by unfold isTa; exact decide_eq_true ⟨h1, h2⟩))
   clear h1 h2 HNX HAT HALL
   go_wp2
   rw [HWW.out]
   try simp only [List.append_eq, List.cons_append, List.nil_append]
   clear q0 q1 q2 d0 d1 d2 d3
   have hwr1 : IntKind.i64.wrap (x.n + v) = x.n + v := by rw [IntKind.wrap_i64] <;> omega
   have hmod : (x.n + v).tmod 1000000 = (x.n + v) % 1000000 := Int.tmod_eq_emod_of_nonneg (by omega)
   have HS : Hid (∀ wx, Below WW.heap.size WW wx → wx.cell? ⟨p, 1, none⟩ = some (.slice (some ⟨g, 0, none⟩) n ca) ∧ wx.cell? ⟨wr.heap.size, 2, none⟩ = some (.int .i64 x.n)) := fun wx h => ⟨(HP.out wx (HBW2.out.trans (h.mono HBW2.out.size))).cell 1 rfl, (hRW.next h).cell 2 rfl⟩
   have hBc : Below WW.heap.size WW WW.drew := (Below.refl _ _).drew
   refine wp_region_held_drew (S := (fun w' => w'.cell? ⟨p, 1, none⟩ = some (.slice (some ⟨g, 0, none⟩) n ca) ∧ w'.cell? ⟨wr.heap.size, 2, none⟩ = some (.int .i64 x.n))) (by kernel_rfl) (HS.out _ hBc) (fun _ => ?_)
   refine wpAnyH_list (l' := #[false, false, false, false, false, false, false, false, false, false, false, false, false]) (by as_aux_lemma => kernel_rfl) ?_
   refine tk 0 dto0 (HS.out _ hBc) ?_; simp only [sq]; refine tk 1 dto1 (HS.out _ hBc) ?_; simp only [sq]; refine tk 2 dto2 (HS.out _ hBc) ?_; simp only [sq]; refine tk 3 dto3 (HS.out _ hBc) ?_; simp only [sq]; refine tk 4 dto4 (HS.out _ hBc) ?_; simp only [sq]; refine tk 5 dto5 (HS.out _ hBc) ?_; simp only [sq]; refine tk 6 dto6 (HS.out _ hBc) ?_; simp only [sq]; refine tk 7 dto7 (HS.out _ hBc) ?_; simp only [sq]; refine tk 8 dto8 (HS.out _ hBc) ?_; simp only [sq]; refine tk 9 dto9 (HS.out _ hBc) ?_; simp only [sq]; refine tk 10 dto10 (HS.out _ hBc) ?_; simp only [sq]; refine tk 11 dto11 (HS.out _ hBc) ?_; simp only [sq]
   have hOD := HO.out _ (HBW2.out.trans (hBc.mono HBW2.out.size))
   have hgp : p ≠ g := fun e => HPN.out g rfl e.symm
   have hj : k * 3 + 2 < T.length * 3 := by have := HL.out; omega
   have y0 : WW.drew.cell? ⟨g, k * 3 + 2, none⟩ = some (.int .i64 x.n) := HC2.out _ (HBW2.out.trans (hBc.mono HBW2.out.size))
   have y1 := hOD.frozenAt (k * 3 + 2)
   have HST := hidI (hOD.stored (k * 3 + 2) (.int .i64 ((x.n + v) % 1000000)))
   have HPD := hidI (HP.out _ (HBW2.out.trans (hBc.mono HBW2.out.size)))
   have HBD := hidI (HBW2.out.trans (hBc.mono HBW2.out.size))
   refine rd 12 dto12 (fun K hK => ?_)
   go_simp
   rw [show (WW.setCell ⟨g, k * 3 + 2, none⟩ (.int .i64 ((x.n + v) % 1000000))).drew = WW.drew.setCell ⟨g, k * 3 + 2, none⟩ (.int .i64 ((x.n + v) % 1000000)) from rfl]
   have hS2 : (WW.drew.setCell ⟨g, k * 3 + 2, none⟩ (.int .i64 ((x.n + v) % 1000000))).cell? ⟨p, 1, none⟩ = some (.slice (some ⟨g, 0, none⟩) n ca) ∧ (WW.drew.setCell ⟨g, k * 3 + 2, none⟩ (.int .i64 ((x.n + v) % 1000000))).cell? ⟨wr.heap.size, 2, none⟩ = some (.int .i64 x.n) := ⟨(HPD.out.other (by simp; exact hgp) _).cell 1 rfl, ((hRW.next hBc).other (by simp; omega) _).cell 2 rfl⟩
   have HRF : Hid (Row (WW.drew.setCell ⟨g, k * 3 + 2, none⟩ (.int .i64 ((x.n + v) % 1000000))) p #[u0, .slice (some ⟨g, 0, none⟩) n ca, u2, u3] 29) := HPD.out.other (by simp; exact hgp) _
   have HFR : Hid (Frm w (WW.drew.setCell ⟨g, k * 3 + 2, none⟩ (.int .i64 ((x.n + v) % 1000000))) p (.slice (some ⟨g, 0, none⟩) T.length ca)) := by
    refine ⟨HBD.out.os, HBD.out.tape, HBD.out.output, by simpa [World.setCell] using HBD.out.size, fun j hj hp hu => ?_⟩
    rw [Below.heap_setCell WW.drew _ _ j (fun e => hu (by rw [e]; rfl))]
    exact HBD.out.block j hj
   have HOF : Hid ((WW.drew.setCell ⟨g, k * 3 + 2, none⟩ (.int .i64 ((x.n + v) % 1000000))).ownsRow B 38 3 (.slice (some ⟨g, 0, none⟩) T.length ca) T.length (taV (tallied T o r v))) := by
    have := HST.out.1
    rw [HSET.out] at this
    rw [HTL.out]; exact this
   have HLN : Hid ((tallied T o r v).length = T.length) := by show _ = _; rw [HTL.out, List.length_set]
   generalize WW.drew.setCell ⟨g, k * 3 + 2, none⟩ (.int .i64 ((x.n + v) % 1000000)) = YY at *
   refine hK.out _ _ hS2 (fun _ => ?_)
   clear hK K hS2 y0 y1
   refine wpAnyH_done (by as_aux_lemma => kernel_rfl) ?_ _
   go_wp2
   try simp only [Exit.inBlock, Exit.then]
   refine bodyPost_ret (results_none rfl _ _ _) rfl ?_
   refine ⟨rfl, some ⟨g, 0, none⟩, ca, ?_, ?_, fun j hj => .inl (by rw [HLN.out] at hj; exact hj), HFR.out⟩
   ·rw [HLN.out, ← HL.out]; exact HRF.out
   ·rw [HLN.out]; exact HOF.out
  ·have hk1 : ¬ ((k : Int) < n) := by omega
   have HALL2 : Hid (∀ i (hi : i < T.length), isTa o r T[i] = false) := fun i hi => HALL.out i hi (by have := HL.out; omega)
   have HNEW := hidI (tallied_new T o r v HALL2.out)
   have HEN : Hid (∀ (P : List Ta) (b : Bool), insP (fun t => taGt o r t) ⟨o, r, v⟩ (T.take n) = (P, b) → tallied T o r v = if b then P else P ++ [⟨o, r, v⟩]) := fun P b h => by
    rw [HL.out, List.take_length] at h
    rw [HNEW.out, ← insP_end, h]
   obtain ⟨i0, hi, hz0, hz1, hz2⟩ := info_parts infoTally
   obtain ⟨X, hX⟩ : ∃ X, X = wr.alloc (.cells #[] 38) := ⟨_, rfl⟩
   have HO0 : Hid (X.ownsRow wr.heap.size 38 3 (.slice (some ⟨wr.heap.size, 0, none⟩) 0 0) ([] : List Ta).length (taV [])) := by rw [hX]; exact own_none wr 38 3 rfl (Nat.le_refl _)
   have HB0 : Hid (Below wr.heap.size wr X) := by rw [hX]; exact (Below.refl _ _).alloc (Nat.le_refl _) _
   have HX : Hid (wr.alloc (.cells #[] 38) = X) := hX.symm
   clear HALL HALL2 HNEW hX hbel
   go_wp2
   rw [HX.out]
   clear HX d0 d1 d2 d3
   rename World => X2
   obtain ⟨Z, hZZ⟩ : ∃ Z, Z = wr := ⟨_, rfl⟩
   have hZs : w.heap.size ≤ Z.heap.size := by rw [hZZ]; exact hsz
   have HBZ : Hid (Below w.heap.size w Z) := by rw [hZZ]; exact HBE.out
   rw [← hZZ] at HO0 HB0 ⊢
   clear hZZ hsz HBE hlt hk1 hk
   go_loopw [10, 11, 12] (fun x' q z wq => ∃ (k : Nat) (P : List Ta) (b : Bool), k ≤ n ∧ z = .int .i64 k ∧ q = .bool b ∧ P.length ≤ k + 1 ∧ (b = false → P.length ≤ k) ∧ insP (fun t => taGt o r t) ⟨o, r, v⟩ (T.take k) = (P, b) ∧ wq.ownsRow Z.heap.size 38 3 x' P.length (taV P) ∧ Below Z.heap.size Z wq) (fun _ _ z _ => n - (intOf z).toNat)
   case atStart => exact ⟨0, [], false, Nat.zero_le _, rfl, rfl, by simp, by simp, rfl, HO0.out, HB0.out⟩
   case round =>
    clear HO0 HB0
    obtain ⟨k, P, b, hk, rfl, rfl, hpl2, hpf, hin, hown, hbq⟩ := hrel
    have HOW := hidI hown
    have HBQ := hidI hbq
    have HIN := hidI hin
    have HPF := hidI hpf
    have hqs := hbq.size
    have hbw : Below w.heap.size w wr := HBZ.out.trans (hbq.mono hZs)
    have HBW3 := hidI hbw
    obtain ⟨d0, d1, d2, d3⟩ := Row.four (HP.out wr hbw)
    clear hown hin hpf
    by_cases hlt : k < n
    ·have hkl : k < T.length := by rw [← HL.out]; exact hlt
     obtain ⟨g, f, rfl, hg, hcc⟩ := HGA.out (by omega)
     have hk1 : (k : Int) < n := by omega
     have hk0 : (0 : Int) ≤ k := by omega
     have q := (hcc k hkl).below hbw hg
     have HIS := hidI (insP_snoc (fun t => taGt o r t) ⟨o, r, v⟩ (T.take k) T[k])
     replace HIS : Hid (insP (fun t => taGt o r t) ⟨o, r, v⟩ (T.take (k + 1)) = if b = false ∧ taGt o r T[k] = true then (P ++ [⟨o, r, v⟩] ++ [T[k]], true) else (P ++ [T[k]], b)) := by
      show _ = _
      rw [take_snoc T k hkl, HIS.out, HIN.out]
     generalize T[k] = x at *
     unfold taC at q
     obtain ⟨q0, q1, q2⟩ := q
     obtain ⟨WW, hWW⟩ : ∃ WW, WW = wr.alloc (.cells #[.string x.o, .int .i64 x.r, .int .i64 x.n] 38) := ⟨_, rfl⟩
     have hBW : Below Z.heap.size Z WW := by rw [hWW]; exact hbq.alloc hqs _
     have hOW : WW.ownsRow Z.heap.size 38 3 u10 P.length (taV P) := by rw [hWW]; exact HOW.out.alloc _
     have hRW : Row WW wr.heap.size #[.string x.o, .int .i64 x.r, .int .i64 x.n] 38 := by rw [hWW]; exact row_new wr _ _ rfl
     have HWW : Hid (wr.alloc (.cells #[.string x.o, .int .i64 x.r, .int .i64 x.n] 38) = WW) := hWW.symm
     have HOB : Hid (∀ k', u10.ownBlock = some k' → Z.heap.size ≤ k') := fun k' hk' => (HOW.out.lt k' hk').1
     have HOB2 : Hid (∀ k', u10.ownBlock = some k' → k' < wr.heap.size) := fun k' hk' => (HOW.out.lt k' hk').2
     have HRX : Hid (∀ wx, Below WW.heap.size WW wx → wx.cell? ⟨wr.heap.size, 0, none⟩ = some (.string x.o) ∧ wx.cell? ⟨wr.heap.size, 1, none⟩ = some (.int .i64 x.r) ∧ wx.cell? ⟨wr.heap.size, 2, none⟩ = some (.int .i64 x.n)) := fun wx h => ⟨(hRW.next h).cell 0 rfl, (hRW.next h).cell 1 rfl, (hRW.next h).cell 2 rfl⟩
     have hWs : WW.heap.size = wr.heap.size + 1 := by rw [hWW]; simp
     have HBW4 := hidI hBW
     have HOX : Hid ((WW.alloc (.cells #[.string x.o, .int .i64 x.r, .int .i64 x.n] 38)).ownsRow Z.heap.size 38 3 u10 P.length (taV P)) := hOW.alloc _
     have HON : Hid ((WW.alloc (.cells #[.string o, .int .i64 r, .int .i64 v] 38)).ownsRow Z.heap.size 38 3 u10 P.length (taV P)) := hOW.alloc _
     have HNX : Hid (∀ j u, [.string x.o, .int .i64 x.r, .int .i64 x.n][j]? = some u → (WW.alloc (.cells #[.string x.o, .int .i64 x.r, .int .i64 x.n] 38)).cell? (Addr.add ⟨WW.heap.size, 0, none⟩ j) = some u) := cells_new WW [.string x.o, .int .i64 x.r, .int .i64 x.n] 38 rfl
     have HNN : Hid (∀ j u, [.string o, .int .i64 r, .int .i64 v][j]? = some u → (WW.alloc (.cells #[.string o, .int .i64 r, .int .i64 v] 38)).cell? (Addr.add ⟨WW.heap.size, 0, none⟩ j) = some u) := cells_new WW [.string o, .int .i64 r, .int .i64 v] 38 rfl
     have hwz := hBW.size
     clear hcc hkl hWW hOW hRW HOW HIN hbq hbw
     cases b with
     | true =>
      have HIE : Hid (insP (fun t => taGt o r t) ⟨o, r, v⟩ (T.take (k + 1)) = (P ++ [x], true)) := by show _ = _; rw [HIS.out, if_neg (by simp)]
      have HOW2 : Hid (((wr.alloc (.cells #[.string x.o, .int .i64 x.r, .int .i64 x.n] 38)).alloc (.cells #[.string x.o, .int .i64 x.r, .int .i64 x.n] 38)).ownsRow Z.heap.size 38 3 u10 P.length (taV P)) := by rw [HWW.out]; exact HOX.out
      have HNW2 : Hid (∀ j u, [.string x.o, .int .i64 x.r, .int .i64 x.n][j]? = some u → ((wr.alloc (.cells #[.string x.o, .int .i64 x.r, .int .i64 x.n] 38)).alloc (.cells #[.string x.o, .int .i64 x.r, .int .i64 x.n] 38)).cell? (Addr.add ⟨wr.heap.size + 1, 0, none⟩ j) = some u) := by rw [HWW.out, ← hWs]; exact HNX.out
      have HB5 : Hid (Below Z.heap.size Z ((wr.alloc (.cells #[.string x.o, .int .i64 x.r, .int .i64 x.n] 38)).alloc (.cells #[.string x.o, .int .i64 x.r, .int .i64 x.n] 38))) := by rw [HWW.out]; exact HBW4.out.alloc hwz _
      have HSZ : Hid (Z.heap.size ≤ ((wr.alloc (.cells #[.string x.o, .int .i64 x.r, .int .i64 x.n] 38)).alloc (.cells #[.string x.o, .int .i64 x.r, .int .i64 x.n] 38)).heap.size) := HB5.out.size
      clear HIS HOX HON HNX HNN HWW HRX
      go_wp2_with (at_builtin; refine wpList_append_own _ rfl _ _ 25 rfl Z.heap.size 38 i0 (.agg #[.string { data := #[] }, .int .i64 0, .int .i64 0]) 3 32 Tryz.underlying25 hi hz0 hz1 hz2 rfl (by decide) _ _ _ rfl HOW2.out ⟨wr.heap.size + 1, 0, none⟩ 1 1 [.string x.o, .int .i64 x.r, .int .i64 x.n] rfl rfl HNW2.out (by intro u' hu'; simp at hu'; rcases hu' with rfl | rfl | rfl <;> rfl) (by unfold maxLen; omega) (by omega) HSZ.out ?_)
      intro v2 w4 hown4 hgrow hne
      have hb4 : Below Z.heap.size Z w4 := HB5.out.grown hgrow (by simp; omega) HOB.out
      have HO4 : Hid (w4.ownsRow Z.heap.size 38 3 v2 (P ++ [x]).length (taV (P ++ [x]))) := by
       show World.ownsRow _ _ _ _ _ _ _
       rw [taV_snoc, len_snoc]; exact hown4
      clear hown4 hgrow hne HOW2 HNW2 HB5 HSZ
      go_wp2
      go_roundw
      case rel => exact ⟨k + 1, P ++ [x], true, by omega, by go_num, rfl, by simp; omega, (fun h => by cases h), HIE.out, HO4.out, hb4⟩
      case measure => simp [intOf]; omega
     | false =>
      have hpk := HPF.out (by simp)
      rcases cases_str x.o o with ⟨s1, s2, s3⟩ | ⟨s1, s2, s3⟩ | ⟨s1, s2, s3⟩
      ·have hgt : taGt o r x = true := by unfold taGt; exact decide_eq_true (.inl s3)
       clear s3
       have HIE : Hid (insP (fun t => taGt o r t) ⟨o, r, v⟩ (T.take (k + 1)) = (P ++ [⟨o, r, v⟩] ++ [x], true)) := by show _ = _; rw [HIS.out, if_pos (by simp [hgt])]
       have HOW2 : Hid (((wr.alloc (.cells #[.string x.o, .int .i64 x.r, .int .i64 x.n] 38)).alloc (.cells #[.string o, .int .i64 r, .int .i64 v] 38)).ownsRow Z.heap.size 38 3 u10 P.length (taV P)) := by rw [HWW.out]; exact HON.out
       have HNW2 : Hid (∀ j u, [.string o, .int .i64 r, .int .i64 v][j]? = some u → ((wr.alloc (.cells #[.string x.o, .int .i64 x.r, .int .i64 x.n] 38)).alloc (.cells #[.string o, .int .i64 r, .int .i64 v] 38)).cell? (Addr.add ⟨wr.heap.size + 1, 0, none⟩ j) = some u) := by rw [HWW.out, ← hWs]; exact HNN.out
       have HB5 : Hid (Below Z.heap.size Z ((wr.alloc (.cells #[.string x.o, .int .i64 x.r, .int .i64 x.n] 38)).alloc (.cells #[.string o, .int .i64 r, .int .i64 v] 38))) := by rw [HWW.out]; exact HBW4.out.alloc hwz _
       have HSZ : Hid (Z.heap.size ≤ ((wr.alloc (.cells #[.string x.o, .int .i64 x.r, .int .i64 x.n] 38)).alloc (.cells #[.string o, .int .i64 r, .int .i64 v] 38)).heap.size) := HB5.out.size
       clear HIS HOX HON HNX HNN hgt
       go_wp2_with (at_builtin; refine wpList_append_own _ rfl _ _ 25 rfl Z.heap.size 38 i0 (.agg #[.string { data := #[] }, .int .i64 0, .int .i64 0]) 3 32 Tryz.underlying25 hi hz0 hz1 hz2 rfl (by decide) _ _ _ rfl HOW2.out ⟨wr.heap.size + 1, 0, none⟩ 1 1 [.string o, .int .i64 r, .int .i64 v] rfl rfl HNW2.out (by intro u' hu'; simp at hu'; rcases hu' with rfl | rfl | rfl <;> rfl) (by unfold maxLen; omega) (by omega) HSZ.out ?_)
       intro v2 w4 hown4 hgrow hne
       have hb4 : Below Z.heap.size Z w4 := HB5.out.grown hgrow (by simp; omega) HOB.out
       have hR4 : Row w4 wr.heap.size #[.string x.o, .int .i64 x.r, .int .i64 x.n] 38 := Row.grown (show Row ((wr.alloc (.cells #[.string x.o, .int .i64 x.r, .int .i64 x.n] 38)).alloc (.cells #[.string o, .int .i64 r, .int .i64 v] 38)) wr.heap.size #[.string x.o, .int .i64 x.r, .int .i64 x.n] 38 from (row_new wr _ _ rfl).alloc _) hgrow (fun e => by have := HOB2.out _ e; omega)
       have m0 := hR4.cell 0 rfl
       have m1 := hR4.cell 1 rfl
       have m2 := hR4.cell 2 rfl
       have hs4 := hb4.size
       have HO4 : Hid ((w4.alloc (.cells #[.string x.o, .int .i64 x.r, .int .i64 x.n] 38)).ownsRow Z.heap.size 38 3 v2 (P ++ [(⟨o, r, v⟩ : Ta)]).length (taV (P ++ [(⟨o, r, v⟩ : Ta)]))) := by
        refine World.ownsRow.alloc ?_ _
        rw [taV_snoc, len_snoc]; exact hown4
       have HN4 : Hid (∀ j u, [.string x.o, .int .i64 x.r, .int .i64 x.n][j]? = some u → (w4.alloc (.cells #[.string x.o, .int .i64 x.r, .int .i64 x.n] 38)).cell? (Addr.add ⟨w4.heap.size, 0, none⟩ j) = some u) := cells_new w4 [.string x.o, .int .i64 x.r, .int .i64 x.n] 38 rfl
       have HOB4 : Hid (∀ k', v2.ownBlock = some k' → Z.heap.size ≤ k') := fun k' hk' => (hown4.lt k' hk').1
       have hlp : (P ++ [(⟨o, r, v⟩ : Ta)]).length = P.length + 1 := len_snoc _ _
       have HB4 := hidI hb4
       clear hown4 hgrow hne HOW2 HNW2 HB5 HSZ hR4 hb4 HWW HRX
       go_wp2_with (at_builtin; refine wpList_append_own _ rfl _ _ 25 rfl Z.heap.size 38 i0 (.agg #[.string { data := #[] }, .int .i64 0, .int .i64 0]) 3 32 Tryz.underlying25 hi hz0 hz1 hz2 rfl (by decide) _ _ _ rfl HO4.out ⟨w4.heap.size, 0, none⟩ 1 1 [.string x.o, .int .i64 x.r, .int .i64 x.n] rfl rfl HN4.out (by intro u' hu'; simp at hu'; rcases hu' with rfl | rfl | rfl <;> rfl) (by unfold maxLen; omega) (by omega) (by simp; omega) ?_)
       intro v3 w5 hown5 hgrow5 hne5
       have hb5 : Below Z.heap.size Z w5 := (HB4.out.alloc hs4 _).grown hgrow5 (by simp; omega) HOB4.out
       have HO5 : Hid (w5.ownsRow Z.heap.size 38 3 v3 (P ++ [(⟨o, r, v⟩ : Ta)] ++ [x]).length (taV (P ++ [(⟨o, r, v⟩ : Ta)] ++ [x]))) := by
        show World.ownsRow _ _ _ _ _ _ _
        rw [taV_snoc, len_snoc, len_snoc]; exact hown5
       clear hown5 hgrow5 hne5 HO4 HN4 HOB4 HB4 m0 m1 m2
       go_wp2
       go_roundw
       case rel => exact ⟨k + 1, P ++ [(⟨o, r, v⟩ : Ta)] ++ [x], true, by omega, by go_num, rfl, by simp; omega, (fun h => by cases h), HIE.out, HO5.out, hb5⟩
       case measure => simp [intOf]; omega
      ·by_cases hrr : r < x.r
       ·have hgt : taGt o r x = true := by unfold taGt; exact decide_eq_true (.inr ⟨s3, hrr⟩)
        clear s3
        have HIE : Hid (insP (fun t => taGt o r t) ⟨o, r, v⟩ (T.take (k + 1)) = (P ++ [⟨o, r, v⟩] ++ [x], true)) := by show _ = _; rw [HIS.out, if_pos (by simp [hgt])]
        have HOW2 : Hid (((wr.alloc (.cells #[.string x.o, .int .i64 x.r, .int .i64 x.n] 38)).alloc (.cells #[.string o, .int .i64 r, .int .i64 v] 38)).ownsRow Z.heap.size 38 3 u10 P.length (taV P)) := by rw [HWW.out]; exact HON.out
        have HNW2 : Hid (∀ j u, [.string o, .int .i64 r, .int .i64 v][j]? = some u → ((wr.alloc (.cells #[.string x.o, .int .i64 x.r, .int .i64 x.n] 38)).alloc (.cells #[.string o, .int .i64 r, .int .i64 v] 38)).cell? (Addr.add ⟨wr.heap.size + 1, 0, none⟩ j) = some u) := by rw [HWW.out, ← hWs]; exact HNN.out
        have HB5 : Hid (Below Z.heap.size Z ((wr.alloc (.cells #[.string x.o, .int .i64 x.r, .int .i64 x.n] 38)).alloc (.cells #[.string o, .int .i64 r, .int .i64 v] 38))) := by rw [HWW.out]; exact HBW4.out.alloc hwz _
        have HSZ : Hid (Z.heap.size ≤ ((wr.alloc (.cells #[.string x.o, .int .i64 x.r, .int .i64 x.n] 38)).alloc (.cells #[.string o, .int .i64 r, .int .i64 v] 38)).heap.size) := HB5.out.size
        clear HIS HOX HON HNX HNN hgt
        go_wp2_with (at_builtin; refine wpList_append_own _ rfl _ _ 25 rfl Z.heap.size 38 i0 (.agg #[.string { data := #[] }, .int .i64 0, .int .i64 0]) 3 32 Tryz.underlying25 hi hz0 hz1 hz2 rfl (by decide) _ _ _ rfl HOW2.out ⟨wr.heap.size + 1, 0, none⟩ 1 1 [.string o, .int .i64 r, .int .i64 v] rfl rfl HNW2.out (by intro u' hu'; simp at hu'; rcases hu' with rfl | rfl | rfl <;> rfl) (by unfold maxLen; omega) (by omega) HSZ.out ?_)
        intro v2 w4 hown4 hgrow hne
        have hb4 : Below Z.heap.size Z w4 := HB5.out.grown hgrow (by simp; omega) HOB.out
        have hR4 : Row w4 wr.heap.size #[.string x.o, .int .i64 x.r, .int .i64 x.n] 38 := Row.grown (show Row ((wr.alloc (.cells #[.string x.o, .int .i64 x.r, .int .i64 x.n] 38)).alloc (.cells #[.string o, .int .i64 r, .int .i64 v] 38)) wr.heap.size #[.string x.o, .int .i64 x.r, .int .i64 x.n] 38 from (row_new wr _ _ rfl).alloc _) hgrow (fun e => by have := HOB2.out _ e; omega)
        have m0 := hR4.cell 0 rfl
        have m1 := hR4.cell 1 rfl
        have m2 := hR4.cell 2 rfl
        have hs4 := hb4.size
        have HO4 : Hid ((w4.alloc (.cells #[.string x.o, .int .i64 x.r, .int .i64 x.n] 38)).ownsRow Z.heap.size 38 3 v2 (P ++ [(⟨o, r, v⟩ : Ta)]).length (taV (P ++ [(⟨o, r, v⟩ : Ta)]))) := by
         refine World.ownsRow.alloc ?_ _
         rw [taV_snoc, len_snoc]; exact hown4
        have HN4 : Hid (∀ j u, [.string x.o, .int .i64 x.r, .int .i64 x.n][j]? = some u → (w4.alloc (.cells #[.string x.o, .int .i64 x.r, .int .i64 x.n] 38)).cell? (Addr.add ⟨w4.heap.size, 0, none⟩ j) = some u) := cells_new w4 [.string x.o, .int .i64 x.r, .int .i64 x.n] 38 rfl
        have HOB4 : Hid (∀ k', v2.ownBlock = some k' → Z.heap.size ≤ k') := fun k' hk' => (hown4.lt k' hk').1
        have hlp : (P ++ [(⟨o, r, v⟩ : Ta)]).length = P.length + 1 := len_snoc _ _
        have HB4 := hidI hb4
        clear hown4 hgrow hne HOW2 HNW2 HB5 HSZ hR4 hb4 HWW HRX
        go_wp2_with (at_builtin; refine wpList_append_own _ rfl _ _ 25 rfl Z.heap.size 38 i0 (.agg #[.string { data := #[] }, .int .i64 0, .int .i64 0]) 3 32 Tryz.underlying25 hi hz0 hz1 hz2 rfl (by decide) _ _ _ rfl HO4.out ⟨w4.heap.size, 0, none⟩ 1 1 [.string x.o, .int .i64 x.r, .int .i64 x.n] rfl rfl HN4.out (by intro u' hu'; simp at hu'; rcases hu' with rfl | rfl | rfl <;> rfl) (by unfold maxLen; omega) (by omega) (by simp; omega) ?_)
        intro v3 w5 hown5 hgrow5 hne5
        have hb5 : Below Z.heap.size Z w5 := (HB4.out.alloc hs4 _).grown hgrow5 (by simp; omega) HOB4.out
        have HO5 : Hid (w5.ownsRow Z.heap.size 38 3 v3 (P ++ [(⟨o, r, v⟩ : Ta)] ++ [x]).length (taV (P ++ [(⟨o, r, v⟩ : Ta)] ++ [x]))) := by
         show World.ownsRow _ _ _ _ _ _ _
         rw [taV_snoc, len_snoc, len_snoc]; exact hown5
        clear hown5 hgrow5 hne5 HO4 HN4 HOB4 HB4 m0 m1 m2
        go_wp2
        go_roundw
        case rel => exact ⟨k + 1, P ++ [(⟨o, r, v⟩ : Ta)] ++ [x], true, by omega, by go_num, rfl, by simp; omega, (fun h => by cases h), HIE.out, HO5.out, hb5⟩
        case measure => simp [intOf]; omega
       ·have hgt : taGt o r x = false := by
         unfold taGt; exact decide_eq_false (fun h => h.elim (fun e => lt_ne e s3.symm) (fun e => hrr e.2))
        clear s3
        have HIE : Hid (insP (fun t => taGt o r t) ⟨o, r, v⟩ (T.take (k + 1)) = (P ++ [x], false)) := by show _ = _; rw [HIS.out, if_neg (by simp [hgt])]
        have HOW2 : Hid (((wr.alloc (.cells #[.string x.o, .int .i64 x.r, .int .i64 x.n] 38)).alloc (.cells #[.string x.o, .int .i64 x.r, .int .i64 x.n] 38)).ownsRow Z.heap.size 38 3 u10 P.length (taV P)) := by rw [HWW.out]; exact HOX.out
        have HNW2 : Hid (∀ j u, [.string x.o, .int .i64 x.r, .int .i64 x.n][j]? = some u → ((wr.alloc (.cells #[.string x.o, .int .i64 x.r, .int .i64 x.n] 38)).alloc (.cells #[.string x.o, .int .i64 x.r, .int .i64 x.n] 38)).cell? (Addr.add ⟨wr.heap.size + 1, 0, none⟩ j) = some u) := by rw [HWW.out, ← hWs]; exact HNX.out
        have HB5 : Hid (Below Z.heap.size Z ((wr.alloc (.cells #[.string x.o, .int .i64 x.r, .int .i64 x.n] 38)).alloc (.cells #[.string x.o, .int .i64 x.r, .int .i64 x.n] 38))) := by rw [HWW.out]; exact HBW4.out.alloc hwz _
        have HSZ : Hid (Z.heap.size ≤ ((wr.alloc (.cells #[.string x.o, .int .i64 x.r, .int .i64 x.n] 38)).alloc (.cells #[.string x.o, .int .i64 x.r, .int .i64 x.n] 38)).heap.size) := HB5.out.size
        clear HIS HOX HON HNX HNN HWW HRX hgt
        go_wp2_with (at_builtin; refine wpList_append_own _ rfl _ _ 25 rfl Z.heap.size 38 i0 (.agg #[.string { data := #[] }, .int .i64 0, .int .i64 0]) 3 32 Tryz.underlying25 hi hz0 hz1 hz2 rfl (by decide) _ _ _ rfl HOW2.out ⟨wr.heap.size + 1, 0, none⟩ 1 1 [.string x.o, .int .i64 x.r, .int .i64 x.n] rfl rfl HNW2.out (by intro u' hu'; simp at hu'; rcases hu' with rfl | rfl | rfl <;> rfl) (by unfold maxLen; omega) (by omega) HSZ.out ?_)
        intro v2 w4 hown4 hgrow hne
        have hb4 : Below Z.heap.size Z w4 := HB5.out.grown hgrow (by simp; omega) HOB.out
        have HO4 : Hid (w4.ownsRow Z.heap.size 38 3 v2 (P ++ [x]).length (taV (P ++ [x]))) := by
         show World.ownsRow _ _ _ _ _ _ _
         rw [taV_snoc, len_snoc]; exact hown4
        clear hown4 hgrow hne HOW2 HNW2 HB5 HSZ
        go_wp2
        go_roundw
        case rel => exact ⟨k + 1, P ++ [x], false, by omega, by go_num, rfl, by simp; omega, (fun _ => by simp; omega), HIE.out, HO4.out, hb4⟩
        case measure => simp [intOf]; omega
      ·have hgt : taGt o r x = false := by
        unfold taGt; exact decide_eq_false (fun h => h.elim (fun e => List.lt_irrefl _ (List.lt_trans e s3)) (fun e => lt_ne s3 e.1))
       clear s3
       have HIE : Hid (insP (fun t => taGt o r t) ⟨o, r, v⟩ (T.take (k + 1)) = (P ++ [x], false)) := by show _ = _; rw [HIS.out, if_neg (by simp [hgt])]
       have HOW2 : Hid (((wr.alloc (.cells #[.string x.o, .int .i64 x.r, .int .i64 x.n] 38)).alloc (.cells #[.string x.o, .int .i64 x.r, .int .i64 x.n] 38)).ownsRow Z.heap.size 38 3 u10 P.length (taV P)) := by rw [HWW.out]; exact HOX.out
       have HNW2 : Hid (∀ j u, [.string x.o, .int .i64 x.r, .int .i64 x.n][j]? = some u → ((wr.alloc (.cells #[.string x.o, .int .i64 x.r, .int .i64 x.n] 38)).alloc (.cells #[.string x.o, .int .i64 x.r, .int .i64 x.n] 38)).cell? (Addr.add ⟨wr.heap.size + 1, 0, none⟩ j) = some u) := by rw [HWW.out, ← hWs]; exact HNX.out
       have HB5 : Hid (Below Z.heap.size Z ((wr.alloc (.cells #[.string x.o, .int .i64 x.r, .int .i64 x.n] 38)).alloc (.cells #[.string x.o, .int .i64 x.r, .int .i64 x.n] 38))) := by rw [HWW.out]; exact HBW4.out.alloc hwz _
       have HSZ : Hid (Z.heap.size ≤ ((wr.alloc (.cells #[.string x.o, .int .i64 x.r, .int .i64 x.n] 38)).alloc (.cells #[.string x.o, .int .i64 x.r, .int .i64 x.n] 38)).heap.size) := HB5.out.size
       clear HIS HOX HON HNX HNN HWW HRX hgt
       go_wp2_with (at_builtin; refine wpList_append_own _ rfl _ _ 25 rfl Z.heap.size 38 i0 (.agg #[.string { data := #[] }, .int .i64 0, .int .i64 0]) 3 32 Tryz.underlying25 hi hz0 hz1 hz2 rfl (by decide) _ _ _ rfl HOW2.out ⟨wr.heap.size + 1, 0, none⟩ 1 1 [.string x.o, .int .i64 x.r, .int .i64 x.n] rfl rfl HNW2.out (by intro u' hu'; simp at hu'; rcases hu' with rfl | rfl | rfl <;> rfl) (by unfold maxLen; omega) (by omega) HSZ.out ?_)
       intro v2 w4 hown4 hgrow hne
       have hb4 : Below Z.heap.size Z w4 := HB5.out.grown hgrow (by simp; omega) HOB.out
       have HO4 : Hid (w4.ownsRow Z.heap.size 38 3 v2 (P ++ [x]).length (taV (P ++ [x]))) := by
        show World.ownsRow _ _ _ _ _ _ _
        rw [taV_snoc, len_snoc]; exact hown4
       clear hown4 hgrow hne HOW2 HNW2 HB5 HSZ
       go_wp2
       go_roundw
       case rel => exact ⟨k + 1, P ++ [x], false, by omega, by go_num, rfl, by simp; omega, (fun _ => by simp; omega), HIE.out, HO4.out, hb4⟩
       case measure => simp [intOf]; omega
    ·have hk1 : ¬ ((k : Int) < n) := by omega
     have HE : Hid (tallied T o r v = if b then P else P ++ [⟨o, r, v⟩]) := by
      have hkn : k = n := by omega
      exact HEN.out P b (hkn ▸ HIN.out)
     have HBWW : Hid (B ≤ Z.heap.size) := Nat.le_trans HBW.out hZs
     have f1 := (HP.out wr hbw).free 1
     cases b with
     | true =>
      obtain ⟨b1, e1, rfl, -⟩ := TaAt.own HOW.out rfl
      have HTE : Hid (tallied T o r v = P) := HE.out
      have HR : Hid (Row (wr.setCell ⟨p, 1, none⟩ (.slice b1 P.length e1)) p #[u0, .slice b1 P.length e1, u2, u3] 29) := (HP.out wr hbw).st1 _
      have HO5 : Hid ((wr.setCell ⟨p, 1, none⟩ (.slice b1 P.length e1)).ownsRow B 38 3 (.slice b1 P.length e1) P.length (taV P)) := own_base (own_set HOW.out (Nat.lt_of_lt_of_le HPL.out hZs)) HBWW.out
      have HLT : Hid (∀ j, (Value.slice b1 P.length e1).ownBlock = some j → w.heap.size ≤ j) := fun j hj => Nat.le_trans hZs (HOW.out.lt j hj).1
      have HFR : Hid (Frm w (wr.setCell ⟨p, 1, none⟩ (.slice b1 P.length e1)) p (.slice aa T.length ca)) := by
       refine ⟨hbw.os, hbw.tape, hbw.output, by simpa [World.setCell] using hbw.size, fun j hj hp hu => ?_⟩
       rw [Below.heap_setCell wr _ _ j (fun e => hp (by rw [e]))]
       exact hbw.block j hj
      clear HOW hbw
      go_wp2
      go_end0
      refine ⟨rfl, b1, e1, ?_, ?_, fun j hj => .inr (HLT.out j (by rw [HTE.out] at hj; exact hj)), HFR.out⟩
      ·rw [HTE.out]; exact HR.out
      ·rw [HTE.out]; exact HO5.out
     | false =>
      have HOWN := hidI (HOW.out.alloc (.cells #[.string o, .int .i64 r, .int .i64 v] 38))
      have HNN : Hid (∀ j u, [.string o, .int .i64 r, .int .i64 v][j]? = some u → (wr.alloc (.cells #[.string o, .int .i64 r, .int .i64 v] 38)).cell? (Addr.add ⟨wr.heap.size, 0, none⟩ j) = some u) := cells_new wr [.string o, .int .i64 r, .int .i64 v] 38 rfl
      have HOB : Hid (∀ k', u10.ownBlock = some k' → Z.heap.size ≤ k') := fun k' hk' => (HOW.out.lt k' hk').1
      clear HOW
      go_wp2_with (at_builtin; refine wpList_append_own _ rfl _ _ 25 rfl Z.heap.size 38 i0 (.agg #[.string { data := #[] }, .int .i64 0, .int .i64 0]) 3 32 Tryz.underlying25 hi hz0 hz1 hz2 rfl (by decide) _ _ _ rfl HOWN.out ⟨wr.heap.size, 0, none⟩ 1 1 [.string o, .int .i64 r, .int .i64 v] rfl rfl HNN.out (by intro u' hu'; simp at hu'; rcases hu' with rfl | rfl | rfl <;> rfl) (by unfold maxLen; omega) (by omega) (by simp; omega) ?_)
      intro v2 w4 hown4 hgrow hne
      have hbq : Below Z.heap.size Z w4 := (HBQ.out.alloc hqs _).grown hgrow (by simp; omega) HOB.out
      obtain ⟨P2, hP2⟩ : ∃ P2, P2 = P ++ [(⟨o, r, v⟩ : Ta)] := ⟨_, rfl⟩
      have HOW : Hid (w4.ownsRow Z.heap.size 38 3 v2 P2.length (taV P2)) := by
       show World.ownsRow _ _ _ _ _ _ _
       rw [hP2, taV_snoc, len_snoc]; exact hown4
      have HTE : Hid (tallied T o r v = P2) := by show _ = _; rw [hP2]; exact HE.out
      clear hown4 hgrow hne HOWN HNN HOB hP2 HE f1 d0 d1 d2 d3
      generalize P2 = P at *
      have hbw : Below w.heap.size w w4 := HBZ.out.trans (hbq.mono hZs)
      have hqs := hbq.size
      have f1 := (HP.out w4 hbw).free 1
      obtain ⟨d0, d1, d2, d3⟩ := Row.four (HP.out w4 hbw)
      obtain ⟨b1, e1, rfl, -⟩ := TaAt.own HOW.out rfl
      have HR : Hid (Row (w4.setCell ⟨p, 1, none⟩ (.slice b1 P.length e1)) p #[u0, .slice b1 P.length e1, u2, u3] 29) := (HP.out w4 hbw).st1 _
      have HO5 : Hid ((w4.setCell ⟨p, 1, none⟩ (.slice b1 P.length e1)).ownsRow B 38 3 (.slice b1 P.length e1) P.length (taV P)) := own_base (own_set HOW.out (Nat.lt_of_lt_of_le HPL.out hZs)) HBWW.out
      have HLT : Hid (∀ j, (Value.slice b1 P.length e1).ownBlock = some j → w.heap.size ≤ j) := fun j hj => Nat.le_trans hZs (HOW.out.lt j hj).1
      have HFR : Hid (Frm w (w4.setCell ⟨p, 1, none⟩ (.slice b1 P.length e1)) p (.slice aa T.length ca)) := by
       refine ⟨hbw.os, hbw.tape, hbw.output, by simpa [World.setCell] using hbw.size, fun j hj hp hu => ?_⟩
       rw [Below.heap_setCell w4 _ _ j (fun e => hp (by rw [e]))]
       exact hbw.block j hj
      clear HOW hbw
      go_wp2
      go_end0
      refine ⟨rfl, b1, e1, ?_, ?_, fun j hj => .inr (HLT.out j (by rw [HTE.out] at hj; exact hj)), HFR.out⟩
      ·rw [HTE.out]; exact HR.out
      ·rw [HTE.out]; exact HO5.out
end Go.Proofs.YtdknoflkingodaaGreat
namespace Go.Proofs.YtdknoflkingodaaGreat
set_option maxRecDepth 100000
set_option linter.unusedVariables false
open Go.RowKit
theorem plain_val {k : Int} {o y : ByteArray} {v : Int} (h : PlainOk k o y v) (hk : k = 1 ∨ k = 4 ∨ k = 6) : 0 ≤ v ∧ v ≤ 999999 := by
 have h2 := h.2.2.2
 unfold ValOk at h2
 rwa [if_pos hk] at h2
def liveOf (m : Bool) (v : Int) (A : Ac) : Li := ⟨m, A.o, A.y, v, A.r, A.s⟩
def cellOf (A : Ac) : Ce := ⟨A.o, A.r, A.s, A.t, A.x, A.z, A.v, false⟩
def putL (x : Li) (l : List Li) : List Li := ins (fun y => decide (doLt x.r x.s y.r y.s)) x l
def putC (x : Ce) (l : List Ce) : List Ce := ins (fun y => decide (doLt x.r x.s y.r y.s)) x l
/-- The cell with this dot is gone. -/
def goneC (C : List Ce) (k : Nat) : List Ce := match C[k]? with | some c => C.set k { c with g := true } | none => C
theorem ceV_gone (l : List Ce) (k : Nat) (h : k < l.length) : (ceV l).set (k * 8 + 7) (.bool true) = ceV (goneC l k) := by
 have e : goneC l k = l.set k { l[k] with g := true } := by unfold goneC; simp [h]
 rw [e]
 clear e
 induction l generalizing k with
 | nil => simp at h
 | cons a l ih =>
  cases k with
  | zero => simp [ceV, Ce.cs]
  | succ k =>
   have := ih k (by simpa using h)
   have e : (k + 1) * 8 + 7 = k * 8 + 7 + 1 + 1 + 1 + 1 + 1 + 1 + 1 + 1 := by omega
   rw [e]
   show (Ce.cs a ++ ceV l).set _ _ = Ce.cs a ++ ceV (l.set k _)
   simp only [Ce.cs, List.cons_append, List.nil_append, List.set_cons_succ]
   rw [this]; rfl
theorem goneC_len (l : List Ce) (k : Nat) : (goneC l k).length = l.length := by
 unfold goneC
 cases l[k]? with
 | none => rfl
 | some c => simp
/-- A state behind an act that may be done. -/
def doS (S : Sta) (A : Ac) : Sta :=
 if A.k = 1 then ⟨S.l.set A.r.toNat A.s, tallied S.T A.o A.r A.v, S.L, S.C⟩
 else if A.k = 2 then ⟨S.l.set A.r.toNat A.s, S.T, putL (liveOf false 0 A) S.L, S.C⟩
 else if A.k = 3 then ⟨S.l.set A.r.toNat A.s, S.T, cleared S.L false A.o A.y A.l, S.C⟩
 else if A.k = 4 then ⟨S.l.set A.r.toNat A.s, S.T, putL (liveOf true A.v A) (cleared S.L true A.o A.y A.l), S.C⟩
 else if A.k = 5 then ⟨S.l.set A.r.toNat A.s, S.T, cleared S.L true A.o A.y A.l, S.C⟩
 else if A.k = 6 then ⟨S.l.set A.r.toNat A.s, S.T, S.L, putC (cellOf A) S.C⟩
 else ⟨S.l.set A.r.toNat A.s, S.T, S.L, goneC S.C (cellAt S.C A.x A.z 0).toNat⟩
/-- None of a state's rows lies in this block. -/
def OffS (p : Nat) (v0 v1 v2 v3 : Value) : Prop := (∀ k, v0.ownBlock = some k → k ≠ p) ∧ (∀ k, v1.ownBlock = some k → k ≠ p) ∧ (∀ k, v2.ownBlock = some k → k ≠ p) ∧ (∀ k, v3.ownBlock = some k → k ≠ p)
def FrB (w w' : World) (B p : Nat) : Prop := w'.os = w.os ∧ w'.tape = w.tape ∧ w'.output = w.output ∧ w.heap.size ≤ w'.heap.size ∧ ∀ j, j < B → j ≠ p → w'.heap[j]? = w.heap[j]?
theorem FrB.trans {w1 w2 w3 : World} {B p : Nat} (h : FrB w1 w2 B p) (k : FrB w2 w3 B p) : FrB w1 w3 B p := ⟨k.1.trans h.1, k.2.1.trans h.2.1, k.2.2.1.trans h.2.2.1, Nat.le_trans h.2.2.2.1 k.2.2.2.1, fun j hj hp => (k.2.2.2.2 j hj hp).trans (h.2.2.2.2 j hj hp)⟩
theorem FrB.grown {w w' : World} {B p : Nat} (h : w.grownBy w' (some p)) (hB : B ≤ w.heap.size) : FrB w w' B p := ⟨h.os, h.tape, h.output, h.size, fun j hj hp => h.block j (Nat.lt_of_lt_of_le hj hB) (fun e => hp (by injection e))⟩
theorem FrB.frm {w w' : World} {B p : Nat} {u : Value} (h : Frm w w' p u) (hB : B ≤ w.heap.size) (hu : ∀ j, u.ownBlock = some j → B ≤ j) : FrB w w' B p := ⟨h.1, h.2.1, h.2.2.1, h.2.2.2.1, fun j hj hp => h.2.2.2.2 j (Nat.lt_of_lt_of_le hj hB) hp (fun e => by have := hu j e; omega)⟩
theorem own_same {w w' : World} {B n s : Nat} {e : TypeId} {v : Value} {xs : List Value} (h : w.ownsRow B e s v n xs) (hs : ∀ j, v.ownBlock = some j → w'.heap[j]? = w.heap[j]?) : w'.ownsRow B e s v n xs := by
 obtain ⟨h1, h2⟩ := h
 refine ⟨h1, ?_⟩
 rcases h2 with h0 | ⟨g, cap, cur, rfl, hb, hg, r⟩
 ·exact .inl h0
 ·exact .inr ⟨g, cap, cur, rfl, hb, (hs g rfl).trans hg, r⟩
theorem ownO.same {w w' : World} {B : Nat} {a : Option Rwd} (h : ownO w B a) (hs : ∀ r, a = some r → ∀ j, r.v.ownBlock = some j → w'.heap[j]? = w.heap[j]?) : ownO w' B a := by
 cases a with
 | none => trivial
 | some r => exact own_same h (hs r rfl)
theorem ownO.lt {w : World} {B : Nat} {r : Rwd} (h : ownO w B (some r)) : ∀ j, r.v.ownBlock = some j → B ≤ j ∧ j < w.heap.size := fun j hj => World.ownsRow.lt h j hj
def offO (p : Nat) : Option Rwd → Prop
 | none => True
 | some r => ∀ k, r.v.ownBlock = some k → k ≠ p
/-- None of the four rows lies in this block. -/
def Offs (p : Nat) (a b c d : Option Rwd) : Prop := offO p a ∧ offO p b ∧ offO p c ∧ offO p d
/-- A row is put in the place of another; what was there but for it and one block below stays. -/
theorem Own4.swap1 {w w' : World} {B p : Nat} {b c d : Option Rwd} {r q : Rwd} (h : Own4 w B (some r) b c d) (hoff : Offs p (some r) b c d) (hF : ∀ k, k < w.heap.size → k ≠ p → r.v.ownBlock ≠ some k → w'.heap[k]? = w.heap[k]?) (ho : ownO w' B (some q)) (hq : ∀ k, q.v.ownBlock = some k → r.v.ownBlock = some k ∨ w.heap.size ≤ k) : Own4 w' B (some q) b c d := by
 obtain ⟨⟨h1, h2, h3, h4⟩, d1, d2, d3, d4, d5, d6⟩ := h
 obtain ⟨f1, f2, f3, f4⟩ := hoff
 have k2 : ownO w' B b := h2.same (fun x hx k hk => by subst hx; exact hF k (World.ownsRow.lt h2 k hk).2 (f2 k hk) (fun e => d1 k e hk))
 have k3 : ownO w' B c := h3.same (fun x hx k hk => by subst hx; exact hF k (World.ownsRow.lt h3 k hk).2 (f3 k hk) (fun e => d2 k e hk))
 have k4 : ownO w' B d := h4.same (fun x hx k hk => by subst hx; exact hF k (World.ownsRow.lt h4 k hk).2 (f4 k hk) (fun e => d3 k e hk))
 have n2 : apaO b (some q) := by
  cases b with
  | none => trivial
  | some x => exact fun k hk e => (hq k e).elim (fun e2 => d1 k e2 hk) (fun e2 => by have := (World.ownsRow.lt h2 k hk).2; omega)
 have n3 : apaO c (some q) := by
  cases c with
  | none => trivial
  | some x => exact fun k hk e => (hq k e).elim (fun e2 => d2 k e2 hk) (fun e2 => by have := (World.ownsRow.lt h3 k hk).2; omega)
 have n4 : apaO d (some q) := by
  cases d with
  | none => trivial
  | some x => exact fun k hk e => (hq k e).elim (fun e2 => d3 k e2 hk) (fun e2 => by have := (World.ownsRow.lt h4 k hk).2; omega)
 exact ⟨⟨ho, k2, k3, k4⟩, n2.sym, n3.sym, n4.sym, d4, d5, d6⟩
/-- A row is put in the place of another; what was there but for it and one block below stays. -/
theorem Own4.swap2 {w w' : World} {B p : Nat} {a c d : Option Rwd} {r q : Rwd} (h : Own4 w B a (some r) c d) (hoff : Offs p a (some r) c d) (hF : ∀ k, k < w.heap.size → k ≠ p → r.v.ownBlock ≠ some k → w'.heap[k]? = w.heap[k]?) (ho : ownO w' B (some q)) (hq : ∀ k, q.v.ownBlock = some k → r.v.ownBlock = some k ∨ w.heap.size ≤ k) : Own4 w' B a (some q) c d := by
 obtain ⟨⟨h1, h2, h3, h4⟩, d1, d2, d3, d4, d5, d6⟩ := h
 obtain ⟨f1, f2, f3, f4⟩ := hoff
 have k1 : ownO w' B a := h1.same (fun x hx k hk => by subst hx; exact hF k (World.ownsRow.lt h1 k hk).2 (f1 k hk) (fun e => d1 k hk e))
 have k3 : ownO w' B c := h3.same (fun x hx k hk => by subst hx; exact hF k (World.ownsRow.lt h3 k hk).2 (f3 k hk) (fun e => d4 k e hk))
 have k4 : ownO w' B d := h4.same (fun x hx k hk => by subst hx; exact hF k (World.ownsRow.lt h4 k hk).2 (f4 k hk) (fun e => d5 k e hk))
 have n1 : apaO a (some q) := by
  cases a with
  | none => trivial
  | some x => exact fun k hk e => (hq k e).elim (fun e2 => d1 k hk e2) (fun e2 => by have := (World.ownsRow.lt h1 k hk).2; omega)
 have n3 : apaO c (some q) := by
  cases c with
  | none => trivial
  | some x => exact fun k hk e => (hq k e).elim (fun e2 => d4 k e2 hk) (fun e2 => by have := (World.ownsRow.lt h3 k hk).2; omega)
 have n4 : apaO d (some q) := by
  cases d with
  | none => trivial
  | some x => exact fun k hk e => (hq k e).elim (fun e2 => d5 k e2 hk) (fun e2 => by have := (World.ownsRow.lt h4 k hk).2; omega)
 exact ⟨⟨k1, ho, k3, k4⟩, n1, d2, d3, n3.sym, n4.sym, d6⟩
/-- A row is put in the place of another; what was there but for it and one block below stays. -/
theorem Own4.swap3 {w w' : World} {B p : Nat} {a b d : Option Rwd} {r q : Rwd} (h : Own4 w B a b (some r) d) (hoff : Offs p a b (some r) d) (hF : ∀ k, k < w.heap.size → k ≠ p → r.v.ownBlock ≠ some k → w'.heap[k]? = w.heap[k]?) (ho : ownO w' B (some q)) (hq : ∀ k, q.v.ownBlock = some k → r.v.ownBlock = some k ∨ w.heap.size ≤ k) : Own4 w' B a b (some q) d := by
 obtain ⟨⟨h1, h2, h3, h4⟩, d1, d2, d3, d4, d5, d6⟩ := h
 obtain ⟨f1, f2, f3, f4⟩ := hoff
 have k1 : ownO w' B a := h1.same (fun x hx k hk => by subst hx; exact hF k (World.ownsRow.lt h1 k hk).2 (f1 k hk) (fun e => d2 k hk e))
 have k2 : ownO w' B b := h2.same (fun x hx k hk => by subst hx; exact hF k (World.ownsRow.lt h2 k hk).2 (f2 k hk) (fun e => d4 k hk e))
 have k4 : ownO w' B d := h4.same (fun x hx k hk => by subst hx; exact hF k (World.ownsRow.lt h4 k hk).2 (f4 k hk) (fun e => d6 k e hk))
 have n1 : apaO a (some q) := by
  cases a with
  | none => trivial
  | some x => exact fun k hk e => (hq k e).elim (fun e2 => d2 k hk e2) (fun e2 => by have := (World.ownsRow.lt h1 k hk).2; omega)
 have n2 : apaO b (some q) := by
  cases b with
  | none => trivial
  | some x => exact fun k hk e => (hq k e).elim (fun e2 => d4 k hk e2) (fun e2 => by have := (World.ownsRow.lt h2 k hk).2; omega)
 have n4 : apaO d (some q) := by
  cases d with
  | none => trivial
  | some x => exact fun k hk e => (hq k e).elim (fun e2 => d6 k e2 hk) (fun e2 => by have := (World.ownsRow.lt h4 k hk).2; omega)
 exact ⟨⟨k1, k2, ho, k4⟩, d1, n1, d3, n2, d5, n4.sym⟩
/-- A row is put in the place of another; what was there but for it and one block below stays. -/
theorem Own4.swap4 {w w' : World} {B p : Nat} {a b c : Option Rwd} {r q : Rwd} (h : Own4 w B a b c (some r)) (hoff : Offs p a b c (some r)) (hF : ∀ k, k < w.heap.size → k ≠ p → r.v.ownBlock ≠ some k → w'.heap[k]? = w.heap[k]?) (ho : ownO w' B (some q)) (hq : ∀ k, q.v.ownBlock = some k → r.v.ownBlock = some k ∨ w.heap.size ≤ k) : Own4 w' B a b c (some q) := by
 obtain ⟨⟨h1, h2, h3, h4⟩, d1, d2, d3, d4, d5, d6⟩ := h
 obtain ⟨f1, f2, f3, f4⟩ := hoff
 have k1 : ownO w' B a := h1.same (fun x hx k hk => by subst hx; exact hF k (World.ownsRow.lt h1 k hk).2 (f1 k hk) (fun e => d3 k hk e))
 have k2 : ownO w' B b := h2.same (fun x hx k hk => by subst hx; exact hF k (World.ownsRow.lt h2 k hk).2 (f2 k hk) (fun e => d5 k hk e))
 have k3 : ownO w' B c := h3.same (fun x hx k hk => by subst hx; exact hF k (World.ownsRow.lt h3 k hk).2 (f3 k hk) (fun e => d6 k hk e))
 have n1 : apaO a (some q) := by
  cases a with
  | none => trivial
  | some x => exact fun k hk e => (hq k e).elim (fun e2 => d3 k hk e2) (fun e2 => by have := (World.ownsRow.lt h1 k hk).2; omega)
 have n2 : apaO b (some q) := by
  cases b with
  | none => trivial
  | some x => exact fun k hk e => (hq k e).elim (fun e2 => d5 k hk e2) (fun e2 => by have := (World.ownsRow.lt h2 k hk).2; omega)
 have n3 : apaO c (some q) := by
  cases c with
  | none => trivial
  | some x => exact fun k hk e => (hq k e).elim (fun e2 => d6 k hk e2) (fun e2 => by have := (World.ownsRow.lt h3 k hk).2; omega)
 exact ⟨⟨k1, k2, k3, ho⟩, d1, d2, n1, d4, n2, n3⟩
end Go.Proofs.YtdknoflkingodaaGreat
