/- A counter is counted on, as the specification does it. -/
import Derived.Test.YtdknoflkingodaaGreatQ22
set_option maxHeartbeats 16000000
namespace Go.Proofs.YtdknoflkingodaaGreat
open Value (int)
open IntKind (i64)
set_option maxRecDepth 100000
set_option linter.unusedVariables false
open Go.RowKit
def Gd (o : ByteArray) (r : Int) (t : Ta) : Bool := decide (t.o = o ∧ t.r = r)
def KC (o : ByteArray) (r : Int) (t : Ta) : Bool := decide (o.data.toList < t.o.data.toList ∨ (t.o = o ∧ r < t.r))
def JA (T : List Ta) (o : ByteArray) (r v : Int) : List Ta :=
 match T.findIdx? (Gd o r) with
 | some i => (match T[i]? with | some t => T.set i { t with n := (t.n + v) % 1000000 } | none => T)
 | none => ins (fun t => KC o r t) ⟨o, r, v⟩ T
theorem Jb0 (T : List Ta) (o : ByteArray) (r v : Int) (k : Nat) (h : k < T.length) (h1 : ∀ i (hi : i < T.length), i < k → Gd o r T[i] = false) (h2 : Gd o r T[k] = true) : JA T o r v = T.set k { T[k] with n := (T[k].n + v) % 1000000 } := by
 have e : T.findIdx? (Gd o r) = some k := List.findIdx?_eq_some_iff_getElem.2 ⟨h, h2, fun j hj => by simp [h1 j (by omega) hj]⟩
 unfold JA; rw [e]
 simp [h]
theorem Jbi (T : List Ta) (o : ByteArray) (r v : Int) (h1 : ∀ i (hi : i < T.length), Gd o r T[i] = false) : JA T o r v = ins (fun t => KC o r t) ⟨o, r, v⟩ T := by
 have e : T.findIdx? (Gd o r) = none := List.findIdx?_eq_none_iff.2 (fun x hx => by
  obtain ⟨i, hi, rfl⟩ := List.mem_iff_getElem.1 hx
  exact h1 i hi)
 unfold JA; rw [e]
theorem ZU (l : List Ta) (x : Ta) : taV (l ++ [x]) = taV l ++ x.cs := by simp [taV]
theorem Je7 (l : List Ta) (k : Nat) (h : k < l.length) (c : Int) : (taV l).set (k * 3 + 2) (int i64 c) = taV (l.set k { l[k] with n := c }) := by
 induction l generalizing k with
 | nil => simp at h
 | cons a l ih =>
  cases k with
  | zero => simp [taV, Ta.cs]
  | succ k =>
   have := ih k (by simpa using h)
   have e : (k + 1) * 3 + 2 = k * 3 + 2 + 1 + 1 + 1 := by omega
   rw [e]
   show (Ta.cs a ++ taV l).set _ _ = Ta.cs a ++ taV (l.set k _)
   simp only [Ta.cs, List.cons_append, List.nil_append, List.set_cons_succ]
   rw [this]; rfl
def Frm (w w' : World) (p : Nat) (u : Value) : Prop := w'.os = w.os ∧ w'.tape = w.tape ∧ w'.output = w.output ∧ w.heap.size ≤ w'.heap.size ∧ ∀ j, j < w.heap.size → j ≠ p → u.ownBlock ≠ some j → w'.heap[j]? = w.heap[j]?
abbrev JkX : Oper := oq 40 (.move (.tmp 0)) 169 "l07_done.go:10" #[] none
abbrev Jlx : Oper := oq 41 (.nilCheck (.tmp 40)) 0 "l07_done.go:10" #[eD 0] none
abbrev Jlp : Oper := oq 42 (.fieldAddr 29 (.tmp 41) 1) 0 "l07_done.go:10" #[eD 1] none
abbrev JkH : Oper := oq 43 (.load 25 (.tmp 42)) 25 "l07_done.go:10" #[eD 2] none
abbrev Jkw : Oper := oq 44 (.move (.tmp 8)) 3 "l07_done.go:10" #[] none
abbrev Jlo : Oper := oq 45 (.fieldAddr 38 (.tmp 9) 2) 0 "l07_done.go:10" #[] none
abbrev Jk1 : Oper := oq 46 (.load 3 (.tmp 45)) 3 "l07_done.go:10" #[eD 5] none
abbrev JkN : Oper := oq 47 (.move (.tmp 3)) 3 "l07_done.go:10" #[] none
abbrev JkV : Oper := oq 48 (.binOp .add 3 (.tmp 46) (.tmp 47) 3) 3 "l07_done.go:10" #[eD 6, eD 7] none
abbrev Jlz : Oper := oq 49 (.binOp .rem 3 (.tmp 48) (.const (int i64 1000000)) 3) 3 "l07_done.go:10" #[eD 8] none
abbrev JiQ : Oper := oq 50 (.indexAddr 25 (.tmp 43) (.tmp 44)) 0 "l07_done.go:10" #[eD 3, eD 4, eP 0, eP 1, eP 2, eP 3, eP 4, eP 5, eP 6, eP 7, eP 8, eP 9] none
abbrev Jjw : Oper := oq 51 (.fieldAddr 38 (.tmp 50) 2) 0 "l07_done.go:10" #[eD 10, eP 0, eP 1, eP 2, eP 3, eP 4, eP 5, eP 6, eP 7, eP 8, eP 9] none
abbrev Jkp : Oper := oz (.store 3 (.tmp 51) (.tmp 49)) 0 "l07_done.go:10" #[eD 11, eD 9, eP 0, eP 1, eP 2, eP 3, eP 4, eP 5, eP 6, eP 7, eP 8, eP 9] none
theorem Va (T : List Ta) (p : Nat) (u0 u1 u2 u3 : Value) (o : ByteArray) (r v : Int) (B : Nat) (w : World) (hn : T.length ≤ 1000000) (hT : ∀ a ∈ T, 0 ≤ a.n ∧ a.n ≤ 999999) (hv : 0 ≤ v ∧ v ≤ 999999) (hp : Row w p #[u0, u1, u2, u3] 29) (hpl : p < w.heap.size) (hpn : ∀ j, u1.ownBlock = some j → j ≠ p) (hB : B ≤ w.heap.size) (hO : w.ownsRow B 38 3 u1 T.length (taV T)) :
  Calls Tryz.prog 155 #[.pointer (some ⟨p, 0, none⟩), .string o, int i64 r, int i64 v] w fun e w' => e = .returned (.tuple #[]) ∧ ∃ a1 d1, Row w' p #[u0, .slice a1 (JA T o r v).length d1, u2, u3] 29 ∧ w'.ownsRow B 38 3 (.slice a1 (JA T o r v).length d1) (JA T o r v).length (taV (JA T o r v)) ∧ (∀ j, (Value.slice a1 (JA T o r v).length d1).ownBlock = some j → u1.ownBlock = some j ∨ w.heap.size ≤ j) ∧ Frm w w' p u1 := by
 obtain ⟨aa, ca, rfl, hga⟩ := TaAt.own hO rfl
 have HP : Hid (∀ wx, Below w.heap.size w wx → Row wx p #[u0, .slice aa T.length ca, u2, u3] 29) := fun wx h => hp.next h
 have HO : Hid (∀ wx, Below w.heap.size w wx → wx.ownsRow B 38 3 (.slice aa T.length ca) T.length (taV T)) := fun wx h => Jf hO h
 have HGA : Hid (TaG w aa T) := hga
 have HT := Ja hT
 have hv1 := hv.1
 have hv2 := hv.2
 obtain ⟨n, hnl⟩ : ∃ n, n = T.length := ⟨_, rfl⟩
 have HL : Hid (n = T.length) := hnl
 have HPL := Ja hpl
 have HPN := Ja hpn
 have HBW := Ja hB
 rw [← hnl] at hn HP
 clear hnl hga hp hO hT hv hpn
 go_enter Tryz.func155, Tryz.ntmps155
 go_wp2
 go_loopw [8] (fun z wr => ∃ k : Nat, k ≤ n ∧ z = int i64 k ∧ (∀ i (hi : i < T.length), i < k → Gd o r T[i] = false) ∧ Below w.heap.size w wr) (fun z _ => n - (intOf z).toNat)
 case atStart => exact ⟨0, Nat.zero_le _, rfl, fun i _ h => by omega, Below.refl _ _⟩
 case round =>
  obtain ⟨k, hk, rfl, hall, hbel⟩ := hrel
  have HALL := Ja hall
  have HBE := Ja hbel
  obtain ⟨d0, d1, d2, d3⟩ := Row.four (HP.out wr hbel)
  have hsz := hbel.size
  clear hall
  by_cases hlt : k < n
  ·have hkl : k < T.length := by rw [← HL.out]; exact hlt
   obtain ⟨g, f, rfl, hg, hcc⟩ := HGA.out (by omega)
   obtain rfl : f = 0 := by
    rcases (HO.out w (Below.refl _ _)).2 with ⟨h0, -⟩ | ⟨g2, cap, cur, e, -⟩
    ·cases h0
    ·injection e with e1; injection e1 with e1; injection e1
   have hk1 : (k : Int) < n := by omega
   have hk0 : (0 : Int) ≤ k := by omega
   have q := (hcc k hkl).below hbel hg
   rw [Nat.zero_add] at q
   have HAT : Hid (Gd o r T[k] = true → JA T o r v = T.set k { T[k] with n := (T[k].n + v) % 1000000 }) := Jb0 T o r v k hkl HALL.out
   have HNX : Hid (Gd o r T[k] = false → ∀ i (hi : i < T.length), i < k + 1 → Gd o r T[i] = false) := fun h i hi hik => by
    by_cases e : i = k
    ·subst e; exact h
    ·exact HALL.out i hi (by omega)
   have hxn := HT.out T[k] (List.getElem_mem hkl)
   have HC2 : Hid (∀ wx, Below w.heap.size w wx → wx.cell? ⟨g, k * 3 + 2, none⟩ = some (int i64 T[k].n)) := fun wx h => by
    have := ((hcc k hkl).below h hg).2.2
    rwa [Nat.zero_add] at this
   have HSET := Ja (fun c => Je7 T k hkl c)
   generalize T[k] = x at *
   unfold taC at q
   obtain ⟨q0, q1, q2⟩ := q
   obtain ⟨WW, hWW⟩ : ∃ WW, WW = wr.alloc (.cells #[.string x.o, int i64 x.r, int i64 x.n] 38) := ⟨_, rfl⟩
   have hBW : Below w.heap.size w WW := by rw [hWW]; exact hbel.alloc hsz _
   have hRW : Row WW wr.heap.size #[.string x.o, int i64 x.r, int i64 x.n] 38 := by rw [hWW]; exact Jb wr _ _ rfl
   have HWW : Hid (wr.alloc (.cells #[.string x.o, int i64 x.r, int i64 x.n] 38) = WW) := hWW.symm
   have HBW2 := Ja hBW
   clear hcc hbel hkl hWW
   by_cases h1 : x.o = o
   case neg =>
    have HE := Ja (HNX.out (by unfold Gd; exact decide_eq_false (fun h => h1 h.1)))
    have b1 := Ze x.o o h1
    clear h1 HNX HAT HALL
    go_wp2
    rw [HWW.out]
    go_roundw
    case rel => exact ⟨k + 1, by omega, by go_num, HE.out, HBW2.out⟩
    case measure => simp [intOf]; omega
   have b1 := Kx x.o o h1
   by_cases h2 : x.r = r
   case neg =>
    have HE := Ja (HNX.out (by unfold Gd; exact decide_eq_false (fun h => h2 h.2)))
    have b2 : (x.r == r) = false := by simp [h2]
    clear h1 h2 HNX HAT HALL
    go_wp2
    rw [HWW.out]
    go_roundw
    case rel => exact ⟨k + 1, by omega, by go_num, HE.out, HBW2.out⟩
    case measure => simp [intOf]; omega
   have b2 : (x.r == r) = true := by simp [h2]
   have HTL := Ja (HAT.out (by unfold Gd; exact decide_eq_true ⟨h1, h2⟩))
   clear h1 h2 HNX HAT HALL
   go_wp2
   rw [HWW.out]
   try simp only [List.append_eq, List.cons_append, List.nil_append]
   clear q0 q1 q2 d0 d1 d2 d3
   have hwr1 : IntKind.i64.wrap (x.n + v) = x.n + v := by rw [IntKind.wrap_i64] <;> omega
   have hmod : (x.n + v).tmod 1000000 = (x.n + v) % 1000000 := Int.tmod_eq_emod_of_nonneg (by omega)
   have HS : Hid (∀ wx, Below WW.heap.size WW wx → wx.cell? ⟨p, 1, none⟩ = some (.slice (some ⟨g, 0, none⟩) n ca) ∧ wx.cell? ⟨wr.heap.size, 2, none⟩ = some (int i64 x.n)) := fun wx h => ⟨(HP.out wx (HBW2.out.trans (h.mono HBW2.out.size))).cell 1 rfl, (hRW.next h).cell 2 rfl⟩
   have hBc : Below WW.heap.size WW WW.drew := (Below.refl _ _).drew
   refine wph HS hBc 13 ?_
   refine tQ 0 JkX ?_; refine tQ 1 Jlx ?_; refine tQ 2 Jlp ?_; refine tQ 3 JkH ?_; refine tQ 4 Jkw ?_; refine tQ 5 Jlo ?_; refine tQ 6 Jk1 ?_; refine tQ 7 JkN ?_; refine tQ 8 JkV ?_; refine tQ 9 Jlz ?_; refine tQ 10 JiQ ?_; refine tQ 11 Jjw ?_
   have hOD := HO.out _ (HBW2.out.trans (hBc.mono HBW2.out.size))
   have hgp : p ≠ g := fun e => HPN.out g rfl e.symm
   have hj : k * 3 + 2 < T.length * 3 := by have := HL.out; omega
   have y0 : WW.drew.cell? ⟨g, k * 3 + 2, none⟩ = some (int i64 x.n) := HC2.out _ (HBW2.out.trans (hBc.mono HBW2.out.size))
   have y1 := hOD.frozenAt (k * 3 + 2)
   have HST := Ja (hOD.stored (k * 3 + 2) (int i64 ((x.n + v) % 1000000)))
   have HPD := Ja (HP.out _ (HBW2.out.trans (hBc.mono HBW2.out.size)))
   have HBD := Ja (HBW2.out.trans (hBc.mono HBW2.out.size))
   refine rd 12 Jkp (fun K hK => ?_)
   go_simp
   rw [show (WW.setCell ⟨g, k * 3 + 2, none⟩ (int i64 ((x.n + v) % 1000000))).drew = WW.drew.setCell ⟨g, k * 3 + 2, none⟩ (int i64 ((x.n + v) % 1000000)) from rfl]
   have hS2 : (WW.drew.setCell ⟨g, k * 3 + 2, none⟩ (int i64 ((x.n + v) % 1000000))).cell? ⟨p, 1, none⟩ = some (.slice (some ⟨g, 0, none⟩) n ca) ∧ (WW.drew.setCell ⟨g, k * 3 + 2, none⟩ (int i64 ((x.n + v) % 1000000))).cell? ⟨wr.heap.size, 2, none⟩ = some (int i64 x.n) := ⟨(HPD.out.other (by simp; exact hgp) _).cell 1 rfl, ((hRW.next hBc).other (by simp; omega) _).cell 2 rfl⟩
   have HRF : Hid (Row (WW.drew.setCell ⟨g, k * 3 + 2, none⟩ (int i64 ((x.n + v) % 1000000))) p #[u0, .slice (some ⟨g, 0, none⟩) n ca, u2, u3] 29) := HPD.out.other (by simp; exact hgp) _
   have HFR : Hid (Frm w (WW.drew.setCell ⟨g, k * 3 + 2, none⟩ (int i64 ((x.n + v) % 1000000))) p (.slice (some ⟨g, 0, none⟩) T.length ca)) := by
    refine ⟨HBD.out.os, HBD.out.tape, HBD.out.output, by simpa [World.setCell] using HBD.out.size, fun j hj hp hu => ?_⟩
    rw [Below.heap_setCell WW.drew _ _ j (fun e => hu (by rw [e]; rfl))]
    exact HBD.out.block j hj
   have HOF : Hid ((WW.drew.setCell ⟨g, k * 3 + 2, none⟩ (int i64 ((x.n + v) % 1000000))).ownsRow B 38 3 (.slice (some ⟨g, 0, none⟩) T.length ca) T.length (taV (JA T o r v))) := by
    have := HST.out.1
    rw [HSET.out] at this
    rw [HTL.out]; exact this
   have HLN : Hid ((JA T o r v).length = T.length) := by show _ = _; rw [HTL.out, List.length_set]
   generalize WW.drew.setCell ⟨g, k * 3 + 2, none⟩ (int i64 ((x.n + v) % 1000000)) = YY at *
   refine hK.out _ _ hS2 (fun _ => ?_)
   clear hK K hS2 y0 y1
   refine wpd ?_
   go_wp2
   try simp only [Exit.inBlock, Exit.then]
   refine bodyPost_ret (results_none rfl _ _ _) rfl ?_
   refine ⟨rfl, some ⟨g, 0, none⟩, ca, ?_, ?_, fun j hj => .inl (by rw [HLN.out] at hj; exact hj), HFR.out⟩
   ·rw [HLN.out, ← HL.out]; exact HRF.out
   ·rw [HLN.out]; exact HOF.out
  ·have hk1 : ¬ ((k : Int) < n) := by omega
   have HALL2 : Hid (∀ i (hi : i < T.length), Gd o r T[i] = false) := fun i hi => HALL.out i hi (by have := HL.out; omega)
   have HNEW := Ja (Jbi T o r v HALL2.out)
   have HEN : Hid (∀ (P : List Ta) (b : Bool), Zd (fun t => KC o r t) ⟨o, r, v⟩ (T.take n) = (P, b) → JA T o r v = if b then P else P ++ [⟨o, r, v⟩]) := fun P b h => by
    rw [HL.out, List.take_length] at h
    rw [HNEW.out, ← UC, h]
   obtain ⟨i0, hi, hz0, hz1, hz2⟩ := info_parts ZJ
   obtain ⟨X, hX⟩ : ∃ X, X = wr.alloc (.cells #[] 38) := ⟨_, rfl⟩
   have HO0 : Hid (X.ownsRow wr.heap.size 38 3 (.slice (some ⟨wr.heap.size, 0, none⟩) 0 0) ([] : List Ta).length (taV [])) := by rw [hX]; exact Jy wr 38 3 rfl (Nat.le_refl _)
   have HB0 : Hid (Below wr.heap.size wr X) := by rw [hX]; exact (Below.refl _ _).alloc (Nat.le_refl _) _
   have HX : Hid (wr.alloc (.cells #[] 38) = X) := hX.symm
   clear HALL HALL2 HNEW hX hbel
   go_wp2
   rw [HX.out]
   clear HX d0 d1 d2 d3
   rename World => X2
   obtain ⟨Z, hZZ⟩ : ∃ Z, Z = wr := ⟨_, rfl⟩
   have hZs : w.heap.size ≤ Z.heap.size := by rw [hZZ]; exact hsz
   have HBZ : Hid (Below w.heap.size w Z) := by rw [hZZ]; exact HBE.out
   rw [← hZZ] at HO0 HB0 ⊢
   clear hZZ hsz HBE hlt hk1 hk
   go_loopw [10, 11, 12] (fun x' q z wq => ∃ (k : Nat) (P : List Ta) (b : Bool), k ≤ n ∧ z = int i64 k ∧ q = .bool b ∧ P.length ≤ k + 1 ∧ (b = false → P.length ≤ k) ∧ Zd (fun t => KC o r t) ⟨o, r, v⟩ (T.take k) = (P, b) ∧ wq.ownsRow Z.heap.size 38 3 x' P.length (taV P) ∧ Below Z.heap.size Z wq) (fun _ _ z _ => n - (intOf z).toNat)
   case atStart => exact ⟨0, [], false, Nat.zero_le _, rfl, rfl, by simp, by simp, rfl, HO0.out, HB0.out⟩
   case round =>
    clear HO0 HB0
    obtain ⟨k, P, b, hk, rfl, rfl, hpl2, hpf, hin, hown, hbq⟩ := hrel
    have HOW := Ja hown
    have HBQ := Ja hbq
    have HIN := Ja hin
    have HPF := Ja hpf
    have hqs := hbq.size
    have hbw : Below w.heap.size w wr := HBZ.out.trans (hbq.mono hZs)
    have HBW3 := Ja hbw
    obtain ⟨d0, d1, d2, d3⟩ := Row.four (HP.out wr hbw)
    clear hown hin hpf
    by_cases hlt : k < n
    ·have hkl : k < T.length := by rw [← HL.out]; exact hlt
     obtain ⟨g, f, rfl, hg, hcc⟩ := HGA.out (by omega)
     have hk1 : (k : Int) < n := by omega
     have hk0 : (0 : Int) ≤ k := by omega
     have q := (hcc k hkl).below hbw hg
     have HIS := Ja (KH (fun t => KC o r t) ⟨o, r, v⟩ (T.take k) T[k])
     replace HIS : Hid (Zd (fun t => KC o r t) ⟨o, r, v⟩ (T.take (k + 1)) = if b = false ∧ KC o r T[k] = true then (P ++ [⟨o, r, v⟩] ++ [T[k]], true) else (P ++ [T[k]], b)) := by
      show _ = _
      rw [ZK T k hkl, HIS.out, HIN.out]
     generalize T[k] = x at *
     unfold taC at q
     obtain ⟨q0, q1, q2⟩ := q
     obtain ⟨WW, hWW⟩ : ∃ WW, WW = wr.alloc (.cells #[.string x.o, int i64 x.r, int i64 x.n] 38) := ⟨_, rfl⟩
     have hBW : Below Z.heap.size Z WW := by rw [hWW]; exact hbq.alloc hqs _
     have hOW : WW.ownsRow Z.heap.size 38 3 u10 P.length (taV P) := by rw [hWW]; exact HOW.out.alloc _
     have hRW : Row WW wr.heap.size #[.string x.o, int i64 x.r, int i64 x.n] 38 := by rw [hWW]; exact Jb wr _ _ rfl
     have HWW : Hid (wr.alloc (.cells #[.string x.o, int i64 x.r, int i64 x.n] 38) = WW) := hWW.symm
     have HOB : Hid (∀ k', u10.ownBlock = some k' → Z.heap.size ≤ k') := fun k' hk' => (HOW.out.lt k' hk').1
     have HOB2 : Hid (∀ k', u10.ownBlock = some k' → k' < wr.heap.size) := fun k' hk' => (HOW.out.lt k' hk').2
     have HRX : Hid (∀ wx, Below WW.heap.size WW wx → wx.cell? ⟨wr.heap.size, 0, none⟩ = some (.string x.o) ∧ wx.cell? ⟨wr.heap.size, 1, none⟩ = some (int i64 x.r) ∧ wx.cell? ⟨wr.heap.size, 2, none⟩ = some (int i64 x.n)) := fun wx h => ⟨(hRW.next h).cell 0 rfl, (hRW.next h).cell 1 rfl, (hRW.next h).cell 2 rfl⟩
     have hWs : WW.heap.size = wr.heap.size + 1 := by rw [hWW]; simp
     have HBW4 := Ja hBW
     have HOX : Hid ((WW.alloc (.cells #[.string x.o, int i64 x.r, int i64 x.n] 38)).ownsRow Z.heap.size 38 3 u10 P.length (taV P)) := hOW.alloc _
     have HON : Hid ((WW.alloc (.cells #[.string o, int i64 r, int i64 v] 38)).ownsRow Z.heap.size 38 3 u10 P.length (taV P)) := hOW.alloc _
     have HNX : Hid (∀ j u, [.string x.o, int i64 x.r, int i64 x.n][j]? = some u → (WW.alloc (.cells #[.string x.o, int i64 x.r, int i64 x.n] 38)).cell? (Addr.add ⟨WW.heap.size, 0, none⟩ j) = some u) := Ji WW [.string x.o, int i64 x.r, int i64 x.n] 38 rfl
     have HNN : Hid (∀ j u, [.string o, int i64 r, int i64 v][j]? = some u → (WW.alloc (.cells #[.string o, int i64 r, int i64 v] 38)).cell? (Addr.add ⟨WW.heap.size, 0, none⟩ j) = some u) := Ji WW [.string o, int i64 r, int i64 v] 38 rfl
     have hwz := hBW.size
     clear hcc hkl hWW hOW hRW HOW HIN hbq hbw
     cases b with
     | true =>
      have HIE : Hid (Zd (fun t => KC o r t) ⟨o, r, v⟩ (T.take (k + 1)) = (P ++ [x], true)) := by show _ = _; rw [HIS.out, if_neg (by simp)]
      have HOW2 : Hid (((wr.alloc (.cells #[.string x.o, int i64 x.r, int i64 x.n] 38)).alloc (.cells #[.string x.o, int i64 x.r, int i64 x.n] 38)).ownsRow Z.heap.size 38 3 u10 P.length (taV P)) := by rw [HWW.out]; exact HOX.out
      have HNW2 : Hid (∀ j u, [.string x.o, int i64 x.r, int i64 x.n][j]? = some u → ((wr.alloc (.cells #[.string x.o, int i64 x.r, int i64 x.n] 38)).alloc (.cells #[.string x.o, int i64 x.r, int i64 x.n] 38)).cell? (Addr.add ⟨wr.heap.size + 1, 0, none⟩ j) = some u) := by rw [HWW.out, ← hWs]; exact HNX.out
      have HB5 : Hid (Below Z.heap.size Z ((wr.alloc (.cells #[.string x.o, int i64 x.r, int i64 x.n] 38)).alloc (.cells #[.string x.o, int i64 x.r, int i64 x.n] 38))) := by rw [HWW.out]; exact HBW4.out.alloc hwz _
      have HSZ : Hid (Z.heap.size ≤ ((wr.alloc (.cells #[.string x.o, int i64 x.r, int i64 x.n] 38)).alloc (.cells #[.string x.o, int i64 x.r, int i64 x.n] 38)).heap.size) := HB5.out.size
      clear HIS HOX HON HNX HNN HWW HRX
      go_wp2_with (at_builtin; refine wpList_append_own _ rfl _ _ 25 rfl Z.heap.size 38 i0 (.agg #[.string ⟨#[]⟩, int i64 0, int i64 0]) 3 32 Tryz.underlying25 hi hz0 hz1 hz2 rfl (by decide) _ _ _ rfl HOW2.out ⟨wr.heap.size + 1, 0, none⟩ 1 1 [.string x.o, int i64 x.r, int i64 x.n] rfl rfl HNW2.out (by intro u' hu'; simp at hu'; rcases hu' with rfl | rfl | rfl <;> rfl) (by unfold maxLen; omega) (by omega) HSZ.out ?_)
      intro v2 w4 hown4 hgrow hne
      have hb4 : Below Z.heap.size Z w4 := HB5.out.grown hgrow (by simp; omega) HOB.out
      have HO4 : Hid (w4.ownsRow Z.heap.size 38 3 v2 (P ++ [x]).length (taV (P ++ [x]))) := by
       show World.ownsRow _ _ _ _ _ _ _
       rw [ZU, Jl]; exact hown4
      clear hown4 hgrow hne HOW2 HNW2 HB5 HSZ
      go_wp2
      go_roundw
      case rel => exact ⟨k + 1, P ++ [x], true, by omega, by go_num, rfl, by simp; omega, (fun h => by cases h), HIE.out, HO4.out, hb4⟩
      case measure => simp [intOf]; omega
     | false =>
      have hpk := HPF.out (by simp)
      rcases Yy x.o o with ⟨s1, s2, s3⟩ | ⟨s1, s2, s3⟩ | ⟨s1, s2, s3⟩
      ·have hgt : KC o r x = true := by unfold KC; exact decide_eq_true (.inl s3)
       clear s3
       have HIE : Hid (Zd (fun t => KC o r t) ⟨o, r, v⟩ (T.take (k + 1)) = (P ++ [⟨o, r, v⟩] ++ [x], true)) := by show _ = _; rw [HIS.out, if_pos (by simp [hgt])]
       have HOW2 : Hid (((wr.alloc (.cells #[.string x.o, int i64 x.r, int i64 x.n] 38)).alloc (.cells #[.string o, int i64 r, int i64 v] 38)).ownsRow Z.heap.size 38 3 u10 P.length (taV P)) := by rw [HWW.out]; exact HON.out
       have HNW2 : Hid (∀ j u, [.string o, int i64 r, int i64 v][j]? = some u → ((wr.alloc (.cells #[.string x.o, int i64 x.r, int i64 x.n] 38)).alloc (.cells #[.string o, int i64 r, int i64 v] 38)).cell? (Addr.add ⟨wr.heap.size + 1, 0, none⟩ j) = some u) := by rw [HWW.out, ← hWs]; exact HNN.out
       have HB5 : Hid (Below Z.heap.size Z ((wr.alloc (.cells #[.string x.o, int i64 x.r, int i64 x.n] 38)).alloc (.cells #[.string o, int i64 r, int i64 v] 38))) := by rw [HWW.out]; exact HBW4.out.alloc hwz _
       have HSZ : Hid (Z.heap.size ≤ ((wr.alloc (.cells #[.string x.o, int i64 x.r, int i64 x.n] 38)).alloc (.cells #[.string o, int i64 r, int i64 v] 38)).heap.size) := HB5.out.size
       clear HIS HOX HON HNX HNN hgt
       go_wp2_with (at_builtin; refine wpList_append_own _ rfl _ _ 25 rfl Z.heap.size 38 i0 (.agg #[.string ⟨#[]⟩, int i64 0, int i64 0]) 3 32 Tryz.underlying25 hi hz0 hz1 hz2 rfl (by decide) _ _ _ rfl HOW2.out ⟨wr.heap.size + 1, 0, none⟩ 1 1 [.string o, int i64 r, int i64 v] rfl rfl HNW2.out (by intro u' hu'; simp at hu'; rcases hu' with rfl | rfl | rfl <;> rfl) (by unfold maxLen; omega) (by omega) HSZ.out ?_)
       intro v2 w4 hown4 hgrow hne
       have hb4 : Below Z.heap.size Z w4 := HB5.out.grown hgrow (by simp; omega) HOB.out
       have hR4 : Row w4 wr.heap.size #[.string x.o, int i64 x.r, int i64 x.n] 38 := Row.grown (show Row ((wr.alloc (.cells #[.string x.o, int i64 x.r, int i64 x.n] 38)).alloc (.cells #[.string o, int i64 r, int i64 v] 38)) wr.heap.size #[.string x.o, int i64 x.r, int i64 x.n] 38 from (Jb wr _ _ rfl).alloc _) hgrow (fun e => by have := HOB2.out _ e; omega)
       have m0 := hR4.cell 0 rfl
       have m1 := hR4.cell 1 rfl
       have m2 := hR4.cell 2 rfl
       have hs4 := hb4.size
       have HO4 : Hid ((w4.alloc (.cells #[.string x.o, int i64 x.r, int i64 x.n] 38)).ownsRow Z.heap.size 38 3 v2 (P ++ [(⟨o, r, v⟩ : Ta)]).length (taV (P ++ [(⟨o, r, v⟩ : Ta)]))) := by
        refine World.ownsRow.alloc ?_ _
        rw [ZU, Jl]; exact hown4
       have HN4 : Hid (∀ j u, [.string x.o, int i64 x.r, int i64 x.n][j]? = some u → (w4.alloc (.cells #[.string x.o, int i64 x.r, int i64 x.n] 38)).cell? (Addr.add ⟨w4.heap.size, 0, none⟩ j) = some u) := Ji w4 [.string x.o, int i64 x.r, int i64 x.n] 38 rfl
       have HOB4 : Hid (∀ k', v2.ownBlock = some k' → Z.heap.size ≤ k') := fun k' hk' => (hown4.lt k' hk').1
       have hlp : (P ++ [(⟨o, r, v⟩ : Ta)]).length = P.length + 1 := Jl _ _
       have HB4 := Ja hb4
       clear hown4 hgrow hne HOW2 HNW2 HB5 HSZ hR4 hb4 HWW HRX
       go_wp2_with (at_builtin; refine wpList_append_own _ rfl _ _ 25 rfl Z.heap.size 38 i0 (.agg #[.string ⟨#[]⟩, int i64 0, int i64 0]) 3 32 Tryz.underlying25 hi hz0 hz1 hz2 rfl (by decide) _ _ _ rfl HO4.out ⟨w4.heap.size, 0, none⟩ 1 1 [.string x.o, int i64 x.r, int i64 x.n] rfl rfl HN4.out (by intro u' hu'; simp at hu'; rcases hu' with rfl | rfl | rfl <;> rfl) (by unfold maxLen; omega) (by omega) (by simp; omega) ?_)
       intro v3 w5 hown5 hgrow5 hne5
       have hb5 : Below Z.heap.size Z w5 := (HB4.out.alloc hs4 _).grown hgrow5 (by simp; omega) HOB4.out
       have HO5 : Hid (w5.ownsRow Z.heap.size 38 3 v3 (P ++ [(⟨o, r, v⟩ : Ta)] ++ [x]).length (taV (P ++ [(⟨o, r, v⟩ : Ta)] ++ [x]))) := by
        show World.ownsRow _ _ _ _ _ _ _
        rw [ZU, Jl, Jl]; exact hown5
       clear hown5 hgrow5 hne5 HO4 HN4 HOB4 HB4 m0 m1 m2
       go_wp2
       go_roundw
       case rel => exact ⟨k + 1, P ++ [(⟨o, r, v⟩ : Ta)] ++ [x], true, by omega, by go_num, rfl, by simp; omega, (fun h => by cases h), HIE.out, HO5.out, hb5⟩
       case measure => simp [intOf]; omega
      ·by_cases hrr : r < x.r
       ·have hgt : KC o r x = true := by unfold KC; exact decide_eq_true (.inr ⟨s3, hrr⟩)
        clear s3
        have HIE : Hid (Zd (fun t => KC o r t) ⟨o, r, v⟩ (T.take (k + 1)) = (P ++ [⟨o, r, v⟩] ++ [x], true)) := by show _ = _; rw [HIS.out, if_pos (by simp [hgt])]
        have HOW2 : Hid (((wr.alloc (.cells #[.string x.o, int i64 x.r, int i64 x.n] 38)).alloc (.cells #[.string o, int i64 r, int i64 v] 38)).ownsRow Z.heap.size 38 3 u10 P.length (taV P)) := by rw [HWW.out]; exact HON.out
        have HNW2 : Hid (∀ j u, [.string o, int i64 r, int i64 v][j]? = some u → ((wr.alloc (.cells #[.string x.o, int i64 x.r, int i64 x.n] 38)).alloc (.cells #[.string o, int i64 r, int i64 v] 38)).cell? (Addr.add ⟨wr.heap.size + 1, 0, none⟩ j) = some u) := by rw [HWW.out, ← hWs]; exact HNN.out
        have HB5 : Hid (Below Z.heap.size Z ((wr.alloc (.cells #[.string x.o, int i64 x.r, int i64 x.n] 38)).alloc (.cells #[.string o, int i64 r, int i64 v] 38))) := by rw [HWW.out]; exact HBW4.out.alloc hwz _
        have HSZ : Hid (Z.heap.size ≤ ((wr.alloc (.cells #[.string x.o, int i64 x.r, int i64 x.n] 38)).alloc (.cells #[.string o, int i64 r, int i64 v] 38)).heap.size) := HB5.out.size
        clear HIS HOX HON HNX HNN hgt
        go_wp2_with (at_builtin; refine wpList_append_own _ rfl _ _ 25 rfl Z.heap.size 38 i0 (.agg #[.string ⟨#[]⟩, int i64 0, int i64 0]) 3 32 Tryz.underlying25 hi hz0 hz1 hz2 rfl (by decide) _ _ _ rfl HOW2.out ⟨wr.heap.size + 1, 0, none⟩ 1 1 [.string o, int i64 r, int i64 v] rfl rfl HNW2.out (by intro u' hu'; simp at hu'; rcases hu' with rfl | rfl | rfl <;> rfl) (by unfold maxLen; omega) (by omega) HSZ.out ?_)
        intro v2 w4 hown4 hgrow hne
        have hb4 : Below Z.heap.size Z w4 := HB5.out.grown hgrow (by simp; omega) HOB.out
        have hR4 : Row w4 wr.heap.size #[.string x.o, int i64 x.r, int i64 x.n] 38 := Row.grown (show Row ((wr.alloc (.cells #[.string x.o, int i64 x.r, int i64 x.n] 38)).alloc (.cells #[.string o, int i64 r, int i64 v] 38)) wr.heap.size #[.string x.o, int i64 x.r, int i64 x.n] 38 from (Jb wr _ _ rfl).alloc _) hgrow (fun e => by have := HOB2.out _ e; omega)
        have m0 := hR4.cell 0 rfl
        have m1 := hR4.cell 1 rfl
        have m2 := hR4.cell 2 rfl
        have hs4 := hb4.size
        have HO4 : Hid ((w4.alloc (.cells #[.string x.o, int i64 x.r, int i64 x.n] 38)).ownsRow Z.heap.size 38 3 v2 (P ++ [(⟨o, r, v⟩ : Ta)]).length (taV (P ++ [(⟨o, r, v⟩ : Ta)]))) := by
         refine World.ownsRow.alloc ?_ _
         rw [ZU, Jl]; exact hown4
        have HN4 : Hid (∀ j u, [.string x.o, int i64 x.r, int i64 x.n][j]? = some u → (w4.alloc (.cells #[.string x.o, int i64 x.r, int i64 x.n] 38)).cell? (Addr.add ⟨w4.heap.size, 0, none⟩ j) = some u) := Ji w4 [.string x.o, int i64 x.r, int i64 x.n] 38 rfl
        have HOB4 : Hid (∀ k', v2.ownBlock = some k' → Z.heap.size ≤ k') := fun k' hk' => (hown4.lt k' hk').1
        have hlp : (P ++ [(⟨o, r, v⟩ : Ta)]).length = P.length + 1 := Jl _ _
        have HB4 := Ja hb4
        clear hown4 hgrow hne HOW2 HNW2 HB5 HSZ hR4 hb4 HWW HRX
        go_wp2_with (at_builtin; refine wpList_append_own _ rfl _ _ 25 rfl Z.heap.size 38 i0 (.agg #[.string ⟨#[]⟩, int i64 0, int i64 0]) 3 32 Tryz.underlying25 hi hz0 hz1 hz2 rfl (by decide) _ _ _ rfl HO4.out ⟨w4.heap.size, 0, none⟩ 1 1 [.string x.o, int i64 x.r, int i64 x.n] rfl rfl HN4.out (by intro u' hu'; simp at hu'; rcases hu' with rfl | rfl | rfl <;> rfl) (by unfold maxLen; omega) (by omega) (by simp; omega) ?_)
        intro v3 w5 hown5 hgrow5 hne5
        have hb5 : Below Z.heap.size Z w5 := (HB4.out.alloc hs4 _).grown hgrow5 (by simp; omega) HOB4.out
        have HO5 : Hid (w5.ownsRow Z.heap.size 38 3 v3 (P ++ [(⟨o, r, v⟩ : Ta)] ++ [x]).length (taV (P ++ [(⟨o, r, v⟩ : Ta)] ++ [x]))) := by
         show World.ownsRow _ _ _ _ _ _ _
         rw [ZU, Jl, Jl]; exact hown5
        clear hown5 hgrow5 hne5 HO4 HN4 HOB4 HB4 m0 m1 m2
        go_wp2
        go_roundw
        case rel => exact ⟨k + 1, P ++ [(⟨o, r, v⟩ : Ta)] ++ [x], true, by omega, by go_num, rfl, by simp; omega, (fun h => by cases h), HIE.out, HO5.out, hb5⟩
        case measure => simp [intOf]; omega
       ·have hgt : KC o r x = false := by
         unfold KC; exact decide_eq_false (fun h => h.elim (fun e => Jcy e s3.symm) (fun e => hrr e.2))
        clear s3
        have HIE : Hid (Zd (fun t => KC o r t) ⟨o, r, v⟩ (T.take (k + 1)) = (P ++ [x], false)) := by show _ = _; rw [HIS.out, if_neg (by simp [hgt])]
        have HOW2 : Hid (((wr.alloc (.cells #[.string x.o, int i64 x.r, int i64 x.n] 38)).alloc (.cells #[.string x.o, int i64 x.r, int i64 x.n] 38)).ownsRow Z.heap.size 38 3 u10 P.length (taV P)) := by rw [HWW.out]; exact HOX.out
        have HNW2 : Hid (∀ j u, [.string x.o, int i64 x.r, int i64 x.n][j]? = some u → ((wr.alloc (.cells #[.string x.o, int i64 x.r, int i64 x.n] 38)).alloc (.cells #[.string x.o, int i64 x.r, int i64 x.n] 38)).cell? (Addr.add ⟨wr.heap.size + 1, 0, none⟩ j) = some u) := by rw [HWW.out, ← hWs]; exact HNX.out
        have HB5 : Hid (Below Z.heap.size Z ((wr.alloc (.cells #[.string x.o, int i64 x.r, int i64 x.n] 38)).alloc (.cells #[.string x.o, int i64 x.r, int i64 x.n] 38))) := by rw [HWW.out]; exact HBW4.out.alloc hwz _
        have HSZ : Hid (Z.heap.size ≤ ((wr.alloc (.cells #[.string x.o, int i64 x.r, int i64 x.n] 38)).alloc (.cells #[.string x.o, int i64 x.r, int i64 x.n] 38)).heap.size) := HB5.out.size
        clear HIS HOX HON HNX HNN HWW HRX hgt
        go_wp2_with (at_builtin; refine wpList_append_own _ rfl _ _ 25 rfl Z.heap.size 38 i0 (.agg #[.string ⟨#[]⟩, int i64 0, int i64 0]) 3 32 Tryz.underlying25 hi hz0 hz1 hz2 rfl (by decide) _ _ _ rfl HOW2.out ⟨wr.heap.size + 1, 0, none⟩ 1 1 [.string x.o, int i64 x.r, int i64 x.n] rfl rfl HNW2.out (by intro u' hu'; simp at hu'; rcases hu' with rfl | rfl | rfl <;> rfl) (by unfold maxLen; omega) (by omega) HSZ.out ?_)
        intro v2 w4 hown4 hgrow hne
        have hb4 : Below Z.heap.size Z w4 := HB5.out.grown hgrow (by simp; omega) HOB.out
        have HO4 : Hid (w4.ownsRow Z.heap.size 38 3 v2 (P ++ [x]).length (taV (P ++ [x]))) := by
         show World.ownsRow _ _ _ _ _ _ _
         rw [ZU, Jl]; exact hown4
        clear hown4 hgrow hne HOW2 HNW2 HB5 HSZ
        go_wp2
        go_roundw
        case rel => exact ⟨k + 1, P ++ [x], false, by omega, by go_num, rfl, by simp; omega, (fun _ => by simp; omega), HIE.out, HO4.out, hb4⟩
        case measure => simp [intOf]; omega
      ·have hgt : KC o r x = false := by
        unfold KC; exact decide_eq_false (fun h => h.elim (fun e => List.lt_irrefl _ (List.lt_trans e s3)) (fun e => Jcy s3 e.1))
       clear s3
       have HIE : Hid (Zd (fun t => KC o r t) ⟨o, r, v⟩ (T.take (k + 1)) = (P ++ [x], false)) := by show _ = _; rw [HIS.out, if_neg (by simp [hgt])]
       have HOW2 : Hid (((wr.alloc (.cells #[.string x.o, int i64 x.r, int i64 x.n] 38)).alloc (.cells #[.string x.o, int i64 x.r, int i64 x.n] 38)).ownsRow Z.heap.size 38 3 u10 P.length (taV P)) := by rw [HWW.out]; exact HOX.out
       have HNW2 : Hid (∀ j u, [.string x.o, int i64 x.r, int i64 x.n][j]? = some u → ((wr.alloc (.cells #[.string x.o, int i64 x.r, int i64 x.n] 38)).alloc (.cells #[.string x.o, int i64 x.r, int i64 x.n] 38)).cell? (Addr.add ⟨wr.heap.size + 1, 0, none⟩ j) = some u) := by rw [HWW.out, ← hWs]; exact HNX.out
       have HB5 : Hid (Below Z.heap.size Z ((wr.alloc (.cells #[.string x.o, int i64 x.r, int i64 x.n] 38)).alloc (.cells #[.string x.o, int i64 x.r, int i64 x.n] 38))) := by rw [HWW.out]; exact HBW4.out.alloc hwz _
       have HSZ : Hid (Z.heap.size ≤ ((wr.alloc (.cells #[.string x.o, int i64 x.r, int i64 x.n] 38)).alloc (.cells #[.string x.o, int i64 x.r, int i64 x.n] 38)).heap.size) := HB5.out.size
       clear HIS HOX HON HNX HNN HWW HRX hgt
       go_wp2_with (at_builtin; refine wpList_append_own _ rfl _ _ 25 rfl Z.heap.size 38 i0 (.agg #[.string ⟨#[]⟩, int i64 0, int i64 0]) 3 32 Tryz.underlying25 hi hz0 hz1 hz2 rfl (by decide) _ _ _ rfl HOW2.out ⟨wr.heap.size + 1, 0, none⟩ 1 1 [.string x.o, int i64 x.r, int i64 x.n] rfl rfl HNW2.out (by intro u' hu'; simp at hu'; rcases hu' with rfl | rfl | rfl <;> rfl) (by unfold maxLen; omega) (by omega) HSZ.out ?_)
       intro v2 w4 hown4 hgrow hne
       have hb4 : Below Z.heap.size Z w4 := HB5.out.grown hgrow (by simp; omega) HOB.out
       have HO4 : Hid (w4.ownsRow Z.heap.size 38 3 v2 (P ++ [x]).length (taV (P ++ [x]))) := by
        show World.ownsRow _ _ _ _ _ _ _
        rw [ZU, Jl]; exact hown4
       clear hown4 hgrow hne HOW2 HNW2 HB5 HSZ
       go_wp2
       go_roundw
       case rel => exact ⟨k + 1, P ++ [x], false, by omega, by go_num, rfl, by simp; omega, (fun _ => by simp; omega), HIE.out, HO4.out, hb4⟩
       case measure => simp [intOf]; omega
    ·have hk1 : ¬ ((k : Int) < n) := by omega
     have HE : Hid (JA T o r v = if b then P else P ++ [⟨o, r, v⟩]) := by
      have hkn : k = n := by omega
      exact HEN.out P b (hkn ▸ HIN.out)
     have HBWW : Hid (B ≤ Z.heap.size) := Nat.le_trans HBW.out hZs
     have f1 := (HP.out wr hbw).free 1
     cases b with
     | true =>
      obtain ⟨b1, e1, rfl, -⟩ := TaAt.own HOW.out rfl
      have HTE : Hid (JA T o r v = P) := HE.out
      have HR : Hid (Row (wr.setCell ⟨p, 1, none⟩ (.slice b1 P.length e1)) p #[u0, .slice b1 P.length e1, u2, u3] 29) := (HP.out wr hbw).st1 _
      have HO5 : Hid ((wr.setCell ⟨p, 1, none⟩ (.slice b1 P.length e1)).ownsRow B 38 3 (.slice b1 P.length e1) P.length (taV P)) := Jo (Zb HOW.out (Nat.lt_of_lt_of_le HPL.out hZs)) HBWW.out
      have HLT : Hid (∀ j, (Value.slice b1 P.length e1).ownBlock = some j → w.heap.size ≤ j) := fun j hj => Nat.le_trans hZs (HOW.out.lt j hj).1
      have HFR : Hid (Frm w (wr.setCell ⟨p, 1, none⟩ (.slice b1 P.length e1)) p (.slice aa T.length ca)) := by
       refine ⟨hbw.os, hbw.tape, hbw.output, by simpa [World.setCell] using hbw.size, fun j hj hp hu => ?_⟩
       rw [Below.heap_setCell wr _ _ j (fun e => hp (by rw [e]))]
       exact hbw.block j hj
      clear HOW hbw
      go_wp2
      go_end0
      refine ⟨rfl, b1, e1, ?_, ?_, fun j hj => .inr (HLT.out j (by rw [HTE.out] at hj; exact hj)), HFR.out⟩
      ·rw [HTE.out]; exact HR.out
      ·rw [HTE.out]; exact HO5.out
     | false =>
      have HOWN := Ja (HOW.out.alloc (.cells #[.string o, int i64 r, int i64 v] 38))
      have HNN : Hid (∀ j u, [.string o, int i64 r, int i64 v][j]? = some u → (wr.alloc (.cells #[.string o, int i64 r, int i64 v] 38)).cell? (Addr.add ⟨wr.heap.size, 0, none⟩ j) = some u) := Ji wr [.string o, int i64 r, int i64 v] 38 rfl
      have HOB : Hid (∀ k', u10.ownBlock = some k' → Z.heap.size ≤ k') := fun k' hk' => (HOW.out.lt k' hk').1
      clear HOW
      go_wp2_with (at_builtin; refine wpList_append_own _ rfl _ _ 25 rfl Z.heap.size 38 i0 (.agg #[.string ⟨#[]⟩, int i64 0, int i64 0]) 3 32 Tryz.underlying25 hi hz0 hz1 hz2 rfl (by decide) _ _ _ rfl HOWN.out ⟨wr.heap.size, 0, none⟩ 1 1 [.string o, int i64 r, int i64 v] rfl rfl HNN.out (by intro u' hu'; simp at hu'; rcases hu' with rfl | rfl | rfl <;> rfl) (by unfold maxLen; omega) (by omega) (by simp; omega) ?_)
      intro v2 w4 hown4 hgrow hne
      have hbq : Below Z.heap.size Z w4 := (HBQ.out.alloc hqs _).grown hgrow (by simp; omega) HOB.out
      obtain ⟨P2, hP2⟩ : ∃ P2, P2 = P ++ [(⟨o, r, v⟩ : Ta)] := ⟨_, rfl⟩
      have HOW : Hid (w4.ownsRow Z.heap.size 38 3 v2 P2.length (taV P2)) := by
       show World.ownsRow _ _ _ _ _ _ _
       rw [hP2, ZU, Jl]; exact hown4
      have HTE : Hid (JA T o r v = P2) := by show _ = _; rw [hP2]; exact HE.out
      clear hown4 hgrow hne HOWN HNN HOB hP2 HE f1 d0 d1 d2 d3
      generalize P2 = P at *
      have hbw : Below w.heap.size w w4 := HBZ.out.trans (hbq.mono hZs)
      have hqs := hbq.size
      have f1 := (HP.out w4 hbw).free 1
      obtain ⟨d0, d1, d2, d3⟩ := Row.four (HP.out w4 hbw)
      obtain ⟨b1, e1, rfl, -⟩ := TaAt.own HOW.out rfl
      have HR : Hid (Row (w4.setCell ⟨p, 1, none⟩ (.slice b1 P.length e1)) p #[u0, .slice b1 P.length e1, u2, u3] 29) := (HP.out w4 hbw).st1 _
      have HO5 : Hid ((w4.setCell ⟨p, 1, none⟩ (.slice b1 P.length e1)).ownsRow B 38 3 (.slice b1 P.length e1) P.length (taV P)) := Jo (Zb HOW.out (Nat.lt_of_lt_of_le HPL.out hZs)) HBWW.out
      have HLT : Hid (∀ j, (Value.slice b1 P.length e1).ownBlock = some j → w.heap.size ≤ j) := fun j hj => Nat.le_trans hZs (HOW.out.lt j hj).1
      have HFR : Hid (Frm w (w4.setCell ⟨p, 1, none⟩ (.slice b1 P.length e1)) p (.slice aa T.length ca)) := by
       refine ⟨hbw.os, hbw.tape, hbw.output, by simpa [World.setCell] using hbw.size, fun j hj hp hu => ?_⟩
       rw [Below.heap_setCell w4 _ _ j (fun e => hp (by rw [e]))]
       exact hbw.block j hj
      clear HOW hbw
      go_wp2
      go_end0
      refine ⟨rfl, b1, e1, ?_, ?_, fun j hj => .inr (HLT.out j (by rw [HTE.out] at hj; exact hj)), HFR.out⟩
      ·rw [HTE.out]; exact HR.out
      ·rw [HTE.out]; exact HO5.out
end Go.Proofs.YtdknoflkingodaaGreat
