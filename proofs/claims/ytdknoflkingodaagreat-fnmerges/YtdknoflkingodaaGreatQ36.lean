/- When a Live is right for itself, as the program tells it: of. -/
import Derived.Test.YtdknoflkingodaaGreatQ19
set_option maxHeartbeats 16000000
namespace Go.Proofs.YtdknoflkingodaaGreat
open Value (int)
open IntKind (i64)
set_option maxRecDepth 100000
set_option linter.unusedVariables false
open Go.RowKit
theorem Vb (x : Li) (l : List Int) (u : Value) (w : World) (ho : x.o.size ≤ 1048576) (hy : x.y.size ≤ 1048576) (hu : IntsAt w u l) :
  Calls Tryz.prog 331 #[.agg #[.bool false, .string x.o, .string x.y, int i64 x.v, int i64 x.r, int i64 x.s], u] w fun e w' => Tells e ((Jd l x.r x.s = true) ∧ (NOk x.o) ∧ (NOk x.y) ∧ (0 ≤ x.v ∧ x.v ≤ 999999) ∧ (x.v = 0)) ∧ Below w.heap.size w w' := by
 obtain ⟨W, hW⟩ : ∃ W, W = w.alloc (.cells #[.bool false, .string x.o, .string x.y, int i64 x.v, int i64 x.r, int i64 x.s] 40) := ⟨_, rfl⟩
 have hR : Row W w.heap.size #[.bool false, .string x.o, .string x.y, int i64 x.v, int i64 x.r, int i64 x.s] 40 := by rw [hW]; exact Jb w _ _ rfl
 have hB : Below w.heap.size w W := by rw [hW]; exact (Below.refl _ _).alloc (Nat.le_refl _) _
 have hI : IntsAt W u l := hu.below hB
 have HR := Ja hR
 have HW : Hid (w.alloc (.cells #[.bool false, .string x.o, .string x.y, int i64 x.v, int i64 x.r, int i64 x.s] 40) = W) := hW.symm
 have HB := Ja hB
 have HK := Ja (Kq l u x.r x.s W hI)
 have HV : Hid (∀ wx, Calls Tryz.prog 328 #[int i64 x.v] wx fun e w' => e = .returned (.bool (decide (0 ≤ x.v ∧ x.v ≤ 999999))) ∧ w' = wx) := fun wx => Kv x.v wx
 have HNO : Hid (∀ wx, Calls Tryz.prog 327 #[.string x.o] wx fun e w' => e = .returned (.bool (decide (NOk x.o))) ∧ w' = wx) := fun wx => J2 x.o (by unfold maxLen; omega) wx
 have HNY : Hid (∀ wx, Calls Tryz.prog 327 #[.string x.y] wx fun e w' => e = .returned (.bool (decide (NOk x.y))) ∧ w' = wx) := fun wx => J2 x.y (by unfold maxLen; omega) wx
 obtain ⟨d0, d1, d2, d3, d4, d5⟩ := ZT HR.out
 rw [hW] at d0 d1 d2 d3 d4 d5
 clear hW hR hB hI hu
 by_cases q0 : Jd l x.r x.s = true
 case neg =>
  have HN : Hid (¬ ((Jd l x.r x.s = true) ∧ (NOk x.o) ∧ (NOk x.y) ∧ (0 ≤ x.v ∧ x.v ≤ 999999) ∧ (x.v = 0))) := fun h => q0 h.1
  rw [show Jd l x.r x.s = false by simpa using q0] at HK
  clear q0
  go_enter Tryz.func331, Tryz.ntmps331
  go_wp2_with fail
  rw [HW.out]
  refine HK.out.mono ?_
  rintro e w1 ⟨rfl, hb⟩
  have HR1 := Ja (HR.out.next hb)
  have HB1 := Ja (HB.out.trans (hb.mono HB.out.size))
  clear hb d0 d1 d2 d3 d4 d5
  obtain ⟨d0, d1, d2, d3, d4, d5⟩ := ZT HR1.out
  first | rw [hkn] | skip
  go_wp2_with (first | (go_at_call 327; refine (HNO.out _).mono ?_; rintro e w2 ⟨rfl, rfl⟩; clear HNO) | (go_at_call 327; refine (HNY.out _).mono ?_; rintro e w2 ⟨rfl, rfl⟩) | (go_at_call 328; refine (HV.out _).mono ?_; rintro e w2 ⟨rfl, rfl⟩))
  go_ret
  exact ⟨Tells.no HN.out, HB1.out⟩
 rw [q0] at HK
 by_cases q1 : NOk x.o
 case neg =>
  have HN : Hid (¬ ((Jd l x.r x.s = true) ∧ (NOk x.o) ∧ (NOk x.y) ∧ (0 ≤ x.v ∧ x.v ≤ 999999) ∧ (x.v = 0))) := fun h => q1 h.2.1
  rw [decide_eq_false q1] at HNO
  clear q0 q1
  go_enter Tryz.func331, Tryz.ntmps331
  go_wp2_with fail
  rw [HW.out]
  refine HK.out.mono ?_
  rintro e w1 ⟨rfl, hb⟩
  have HR1 := Ja (HR.out.next hb)
  have HB1 := Ja (HB.out.trans (hb.mono HB.out.size))
  clear hb d0 d1 d2 d3 d4 d5
  obtain ⟨d0, d1, d2, d3, d4, d5⟩ := ZT HR1.out
  go_wp2_with (first | (go_at_call 327; refine (HNO.out _).mono ?_; rintro e w2 ⟨rfl, rfl⟩; clear HNO) | (go_at_call 327; refine (HNY.out _).mono ?_; rintro e w2 ⟨rfl, rfl⟩) | (go_at_call 328; refine (HV.out _).mono ?_; rintro e w2 ⟨rfl, rfl⟩))
  go_ret
  exact ⟨Tells.no HN.out, HB1.out⟩
 rw [decide_eq_true q1] at HNO
 by_cases q2 : NOk x.y
 case neg =>
  have HN : Hid (¬ ((Jd l x.r x.s = true) ∧ (NOk x.o) ∧ (NOk x.y) ∧ (0 ≤ x.v ∧ x.v ≤ 999999) ∧ (x.v = 0))) := fun h => q2 h.2.2.1
  rw [decide_eq_false q2] at HNY
  clear q0 q1 q2
  go_enter Tryz.func331, Tryz.ntmps331
  go_wp2_with fail
  rw [HW.out]
  refine HK.out.mono ?_
  rintro e w1 ⟨rfl, hb⟩
  have HR1 := Ja (HR.out.next hb)
  have HB1 := Ja (HB.out.trans (hb.mono HB.out.size))
  clear hb d0 d1 d2 d3 d4 d5
  obtain ⟨d0, d1, d2, d3, d4, d5⟩ := ZT HR1.out
  go_wp2_with (first | (go_at_call 327; refine (HNO.out _).mono ?_; rintro e w2 ⟨rfl, rfl⟩; clear HNO) | (go_at_call 327; refine (HNY.out _).mono ?_; rintro e w2 ⟨rfl, rfl⟩) | (go_at_call 328; refine (HV.out _).mono ?_; rintro e w2 ⟨rfl, rfl⟩))
  go_ret
  exact ⟨Tells.no HN.out, HB1.out⟩
 rw [decide_eq_true q2] at HNY
 by_cases q3 : 0 ≤ x.v ∧ x.v ≤ 999999
 case neg =>
  have HN : Hid (¬ ((Jd l x.r x.s = true) ∧ (NOk x.o) ∧ (NOk x.y) ∧ (0 ≤ x.v ∧ x.v ≤ 999999) ∧ (x.v = 0))) := fun h => q3 h.2.2.2.1
  rw [decide_eq_false q3] at HV
  clear q0 q1 q2 q3
  go_enter Tryz.func331, Tryz.ntmps331
  go_wp2_with fail
  rw [HW.out]
  refine HK.out.mono ?_
  rintro e w1 ⟨rfl, hb⟩
  have HR1 := Ja (HR.out.next hb)
  have HB1 := Ja (HB.out.trans (hb.mono HB.out.size))
  clear hb d0 d1 d2 d3 d4 d5
  obtain ⟨d0, d1, d2, d3, d4, d5⟩ := ZT HR1.out
  go_wp2_with (first | (go_at_call 327; refine (HNO.out _).mono ?_; rintro e w2 ⟨rfl, rfl⟩; clear HNO) | (go_at_call 327; refine (HNY.out _).mono ?_; rintro e w2 ⟨rfl, rfl⟩) | (go_at_call 328; refine (HV.out _).mono ?_; rintro e w2 ⟨rfl, rfl⟩))
  go_ret
  exact ⟨Tells.no HN.out, HB1.out⟩
 rw [decide_eq_true q3] at HV
 by_cases q4 : x.v = 0
 case neg =>
  have HN : Hid (¬ ((Jd l x.r x.s = true) ∧ (NOk x.o) ∧ (NOk x.y) ∧ (0 ≤ x.v ∧ x.v ≤ 999999) ∧ (x.v = 0))) := fun h => q4 h.2.2.2.2
  have b4 : (x.v == 0) = false := by simp [q4]
  clear q0 q1 q2 q3 q4
  go_enter Tryz.func331, Tryz.ntmps331
  go_wp2_with fail
  rw [HW.out]
  refine HK.out.mono ?_
  rintro e w1 ⟨rfl, hb⟩
  have HR1 := Ja (HR.out.next hb)
  have HB1 := Ja (HB.out.trans (hb.mono HB.out.size))
  clear hb d0 d1 d2 d3 d4 d5
  obtain ⟨d0, d1, d2, d3, d4, d5⟩ := ZT HR1.out
  go_wp2_with (first | (go_at_call 327; refine (HNO.out _).mono ?_; rintro e w2 ⟨rfl, rfl⟩; clear HNO) | (go_at_call 327; refine (HNY.out _).mono ?_; rintro e w2 ⟨rfl, rfl⟩) | (go_at_call 328; refine (HV.out _).mono ?_; rintro e w2 ⟨rfl, rfl⟩))
  go_ret
  exact ⟨Tells.no HN.out, HB1.out⟩
 have b4 : (x.v == 0) = true := by simp [q4]
 have HN : Hid ((Jd l x.r x.s = true) ∧ (NOk x.o) ∧ (NOk x.y) ∧ (0 ≤ x.v ∧ x.v ≤ 999999) ∧ (x.v = 0)) := ⟨q0, q1, q2, q3, q4⟩
 clear q0 q1 q2 q3 q4
 go_enter Tryz.func331, Tryz.ntmps331
 go_wp2_with fail
 rw [HW.out]
 refine HK.out.mono ?_
 rintro e w1 ⟨rfl, hb⟩
 have HR1 := Ja (HR.out.next hb)
 have HB1 := Ja (HB.out.trans (hb.mono HB.out.size))
 clear hb d0 d1 d2 d3 d4 d5
 obtain ⟨d0, d1, d2, d3, d4, d5⟩ := ZT HR1.out
 go_wp2_with (first | (go_at_call 327; refine (HNO.out _).mono ?_; rintro e w2 ⟨rfl, rfl⟩; clear HNO) | (go_at_call 327; refine (HNY.out _).mono ?_; rintro e w2 ⟨rfl, rfl⟩) | (go_at_call 328; refine (HV.out _).mono ?_; rintro e w2 ⟨rfl, rfl⟩))
 go_ret
 exact ⟨Tells.yes HN.out, HB1.out⟩
theorem Tells.is {e : Ending} {P : Prop} (h : Tells e P) (hp : P) : e = .returned (.bool true) := by obtain ⟨q, rfl, hq⟩ := h; rw [hq.2 hp]
theorem Tells.isnt {e : Ending} {P : Prop} (h : Tells e P) (hp : ¬ P) : e = .returned (.bool false) := by
 obtain ⟨q, rfl, hq⟩ := h
 cases q with
 | true => exact absurd (hq.1 rfl) hp
 | false => rfl
theorem Tells.iff {e : Ending} {P Q : Prop} (h : Tells e P) (i : P ↔ Q) : Tells e Q := by obtain ⟨q, rfl, hq⟩ := h; exact ⟨q, rfl, hq.trans i⟩
theorem U9 (x : Li) (l : List Int) (u : Value) (w : World) (ho : x.o.size ≤ 1048576) (hy : x.y.size ≤ 1048576) (hu : IntsAt w u l) :
  Calls Tryz.prog 331 #[.agg #[.bool x.m, .string x.o, .string x.y, int i64 x.v, int i64 x.r, int i64 x.s], u] w fun e w' => Tells e (liR l x) ∧ Below w.heap.size w w' := by
 cases em : x.m with
 | true =>
  refine (Vy x l u w ho hy hu).mono ?_
  rintro e w' ⟨h, hb⟩
  exact ⟨h.iff (by unfold liR; rw [em]; simp), hb⟩
 | false =>
  refine (Vb x l u w ho hy hu).mono ?_
  rintro e w' ⟨h, hb⟩
  exact ⟨h.iff (by unfold liR; rw [em]; simp), hb⟩
abbrev po0 (B : Nat) : Oper := oq 17 (.load B (.tmp 6)) B "l06_state.go:97" #[] none
abbrev po1 (B : Nat) : Oper := oq 18 (.makeInterface B (.tmp 17)) 20 "l06_state.go:97" #[eD 0] none
abbrev po2 : Oper := oq 19 (.move (.tmp 1)) 24 "l06_state.go:97" #[] none
abbrev po3 : Oper := oq 20 (.call ⟨.invoke (.tmp 18) "loop.example/g00463/impl.right", #[.tmp 19], #[24]⟩) 4 "l06_state.go:97" #[eD 1, eD 2] none
abbrev po4 : Oper := oq 21 (.unOp .not 4 (.tmp 20)) 4 "l06_state.go:97" #[eD 3] none
abbrev po5 : Oper := oq 22 (.move (.tmp 21)) 4 "l06_state.go:97" #[eD 4, eC 3] none
abbrev po6 : Oper := oq 23 (.move (.tmp 5)) 3 "l06_state.go:97" #[eG 5] (some (5, false))
abbrev po7 : Oper := oq 24 (.binOp .gtr 3 (.tmp 23) (.const (int i64 0)) 3) 4 "l06_state.go:97" #[eD 6, eG 5] (some (5, false))
abbrev po8 : Oper := oq 25 (.move (.tmp 24)) 4 "l06_state.go:97" #[eD 7, eC 5, eG 5] (some (5, false))
abbrev po9 (A : Nat) : Oper := oq 26 (.move (.tmp 0)) A "l06_state.go:97" #[eG 8] (some (8, true))
abbrev JaD : Oper := oq 27 (.move (.tmp 5)) 3 "l06_state.go:97" #[eG 8] (some (8, true))
abbrev JaA : Oper := oq 28 (.binOp .sub 3 (.tmp 27) (.const (int i64 1)) 3) 3 "l06_state.go:97" #[eD 10, eG 8] (some (8, true))
abbrev JaU (A : Nat) : Oper := oq 29 (.indexAddr A (.tmp 26) (.tmp 28)) 0 "l06_state.go:97" #[eD 9, eD 11, eG 8] (some (8, true))
abbrev JaM (B : Nat) : Oper := oq 30 (.load B (.tmp 29)) B "l06_state.go:97" #[eD 12, eG 8] (some (8, true))
abbrev Jav (B : Nat) : Oper := oq 31 (.makeInterface B (.tmp 30)) 205 "l06_state.go:97" #[eD 13, eG 8] (some (8, true))
abbrev JaP : Oper := oq 32 (.call ⟨.value (.func 123), #[.tmp 31], #[205]⟩) 147 "l06_state.go:97" #[eD 14, eC 8, eG 8] (some (8, true))
abbrev JaI (B : Nat) : Oper := oq 33 (.load B (.tmp 6)) B "l06_state.go:97" #[eG 8] (some (8, true))
abbrev Jas (B : Nat) : Oper := oq 34 (.makeInterface B (.tmp 33)) 205 "l06_state.go:97" #[eD 16, eG 8] (some (8, true))
abbrev Jat : Oper := oq 35 (.call ⟨.value (.func 123), #[.tmp 34], #[205]⟩) 147 "l06_state.go:97" #[eD 17, eC 15, eG 8] (some (8, true))
abbrev JaB : Oper := oq 36 (.call ⟨.value (.func 124), #[.tmp 32, .tmp 35], #[147, 147]⟩) 3 "l06_state.go:97" #[eD 15, eD 18, eC 18, eG 8] (some (8, true))
abbrev Vc : Oper := oq 37 (.binOp .geq 3 (.tmp 36) (.const (int i64 0)) 3) 4 "l06_state.go:97" #[eD 19, eG 8] (some (8, true))
abbrev Vl : Oper := oq 38 (.pick (.tmp 25) (.tmp 37) (.const (.bool false))) 4 "l06_state.go:97" #[eD 8, eD 20, eG 5] (some (5, false))
abbrev Ve : Oper := oq 39 (.pick (.tmp 22) (.const (.bool true)) (.tmp 38)) 4 "l06_state.go:97" #[eD 5, eD 21] none
theorem Jf7 (v : Value) (w : World) : (method 64 38 v "loop.example/g00463/impl.right").run Tryz.prog w = .ok (330, v) w := by kernel_rfl
theorem V9 (l : List Ta) (lk : List Int) (u v : Value) (w : World) (hn : l.length ≤ 1048576) (hst : ∀ a ∈ l, True) (h : TaAt w u l) (hk : IntsAt w v lk) :
  Calls Tryz.prog 68 #[u, v] w fun e w' => Tells e (Jx taR JQ l) ∧ Below w.heap.size w w' := by
 obtain ⟨aa, ca, rfl, hga⟩ := h
 have HGA : Hid (TaG w aa l) := hga
 have HST := Ja hst
 have HKA : Hid (∀ wx, Below w.heap.size w wx → IntsAt wx v lk) := fun wx h => hk.below h
 obtain ⟨n, hnl⟩ : ∃ n, n = l.length := ⟨_, rfl⟩
 have HL : Hid (n = l.length) := hnl
 have HNO : Hid (¬ Asc taR JQ l → ¬ Jx taR JQ l) := fun h k => h k.2
 have HBIG : Hid ((120 : Int) < n → ¬ Jx taR JQ l) := fun h k => by have := k.1; omega
 have HYES : Hid (¬ (120 : Int) < n → Zn taR JQ l n → Jx taR JQ l) := fun h1 h2 => ⟨by omega, GC h2 (by omega)⟩
 rw [← hnl] at hn ⊢
 clear hnl hga hst hk
 by_cases hbig : (120 : Int) < n
 case pos =>
  have HE := Ja (HBIG.out hbig)
  go_enter Tryz.func68, Tryz.ntmps68
  go_wp2
  go_ret
  exact ⟨Tells.no HE.out, Below.refl _ _⟩
 have HYE := Ja (HYES.out hbig)
 clear HYES HBIG
 go_enter Tryz.func68, Tryz.ntmps68
 go_wp2
 go_loopw [12] (fun z wr => ∃ k : Nat, k ≤ n ∧ z = int i64 k ∧ Zn taR JQ l k ∧ Below w.heap.size w wr) (fun z _ => n - (intOf z).toNat)
 case atStart => exact ⟨0, Nat.zero_le _, rfl, KO _ _ _, Below.refl _ _⟩
 case round =>
  obtain ⟨k, hk, rfl, hasc, hbel⟩ := hrel
  have HBE := Ja hbel
  have HAS := Ja hasc
  have hsz := hbel.size
  clear hasc
  by_cases hlt : k < n
  case neg =>
   have hk1 : ¬ ((k : Int) < n) := by omega
   have HE := Ja (HYE.out (by have e : k = n := (by omega); rw [← e]; exact HAS.out))
   go_wp2
   go_ret
   exact ⟨Tells.yes HE.out, HBE.out⟩
  have hkl : k < l.length := by rw [← HL.out]; exact hlt
  obtain ⟨g, f, rfl, hg, hcc⟩ := HGA.out (by omega)
  have hk1 : (k : Int) < n := by omega
  have hk0 : (0 : Int) ≤ k := by omega
  have q := (hcc k hkl).below hbel hg
  have hp1 : k - 1 < l.length := by omega
  have HPC : Hid (∀ wx, Below w.heap.size w wx → taC wx g (f + (k - 1) * 3) l[k - 1]) := fun wx h => (hcc (k - 1) hp1).below h hg
  have HF1 : Hid (¬ taR l[k] → ¬ Jx taR JQ l) := fun h => HNO.out (fun a => h (a k hkl).1)
  have HF2 : Hid (0 < k → ¬ JQ l[k - 1] l[k] → ¬ Jx taR JQ l) := fun h0 h => HNO.out (fun a => h ((a k hkl).2 h0))
  have HMO : Hid (taR l[k] → (0 < k → JQ l[k - 1] l[k]) → Zn taR JQ l (k + 1)) := fun h1 h2 => KM HAS.out hkl h1 h2
  have hsx := HST.out l[k] (List.getElem_mem hkl)
  generalize l[k - 1] = p at *
  generalize l[k] = x at *
  unfold taC at q
  obtain ⟨q0, q1, q2⟩ := q
  obtain ⟨WW, hWW⟩ : ∃ WW, WW = wr.alloc (.cells #[.string x.o, int i64 x.r, int i64 x.n] 38) := ⟨_, rfl⟩
  have HBA : Hid (Below w.heap.size w WW) := by rw [hWW]; exact HBE.out.alloc hsz _
  have hRW : Row WW wr.heap.size #[.string x.o, int i64 x.r, int i64 x.n] 38 := by rw [hWW]; exact Jb wr _ _ rfl
  have HWW : Hid (wr.alloc (.cells #[.string x.o, int i64 x.r, int i64 x.n] 38) = WW) := hWW.symm
  have HS0 : Hid (∀ wx, Below WW.heap.size WW wx → wx.cell? ⟨wr.heap.size, 0, none⟩ = some (.string x.o) ∧ wx.cell? ⟨wr.heap.size, 1, none⟩ = some (int i64 x.r) ∧ wx.cell? ⟨wr.heap.size, 2, none⟩ = some (int i64 x.n)) := fun wx h => ⟨(hRW.next h).cell 0 rfl, (hRW.next h).cell 1 rfl, (hRW.next h).cell 2 rfl⟩
  have HS1 : Hid (∀ wx, Below WW.heap.size WW wx → wx.cell? ⟨wr.heap.size, 0, none⟩ = some (.string x.o) ∧ wx.cell? ⟨wr.heap.size, 1, none⟩ = some (int i64 x.r) ∧ wx.cell? ⟨wr.heap.size, 2, none⟩ = some (int i64 x.n) ∧ wx.cell? ⟨g, f + (k - 1) * 3, none⟩ = some (.string p.o) ∧ wx.cell? ⟨g, f + (k - 1) * 3 + 1, none⟩ = some (int i64 p.r) ∧ wx.cell? ⟨g, f + (k - 1) * 3 + 2, none⟩ = some (int i64 p.n)) := fun wx h => by
   have hq := HPC.out wx (HBA.out.trans (h.mono HBA.out.size))
   unfold taC at hq
   obtain ⟨t0, t1, t2⟩ := HS0.out wx h
   obtain ⟨z0, z1, z2⟩ := hq
   exact ⟨t0, t1, t2, z0, z1, z2⟩
  have HRT : Hid (∀ wx, IntsAt wx v lk → Calls Tryz.prog 330 #[.agg #[.string x.o, int i64 x.r, int i64 x.n], v] wx fun e w' => Tells e (taR x) ∧ Below wx.heap.size wx w') := fun wx h => UP x v wx
  have HIA : Hid (∀ wx, Below WW.heap.size WW wx → IntsAt wx v lk) := fun wx h => HKA.out wx (HBA.out.trans (h.mono HBA.out.size))
  have HKX : Hid (∀ wx, Calls Tryz.prog 123 #[.iface 38 (.agg #[.string x.o, int i64 x.r, int i64 x.n])] wx fun e w' => e = .returned (.agg #[.string x.o, int i64 x.r, int i64 0]) ∧ Below wx.heap.size wx w') := fun wx => Z3 x wx
  have HKP : Hid (∀ wx, Calls Tryz.prog 123 #[.iface 38 (.agg #[.string p.o, int i64 p.r, int i64 p.n])] wx fun e w' => e = .returned (.agg #[.string p.o, int i64 p.r, int i64 0]) ∧ Below wx.heap.size wx w') := fun wx => Z3 p wx
  obtain ⟨R, hR⟩ : ∃ R, R = rkT p.o x.o p.r x.r := ⟨_, rfl⟩
  have HCM : Hid (∀ wx, Calls Tryz.prog 124 #[.agg #[.string p.o, int i64 p.r, int i64 0], .agg #[.string x.o, int i64 x.r, int i64 0]] wx fun e w' => e = .returned (int i64 R) ∧ Below wx.heap.size wx w') := fun wx => by rw [hR]; exact JZ _ _ _ _ _ _ wx
  have HRC : Hid ((JQ p x ∧ decide (0 ≤ R) = false) ∨ (¬ JQ p x ∧ decide (0 ≤ R) = true)) := by
   show _ ∨ _
   rw [hR]

   rcases Jc5 p x with ⟨h1, h2⟩ | ⟨h1, h2⟩
   ·exact .inl ⟨h1, decide_eq_false (by omega)⟩
   ·exact .inr ⟨h1, decide_eq_true h2⟩
  have hm := Jf7
  have hBc : Below WW.heap.size WW WW := Below.refl _ _
  clear hWW hRW hcc hbel hkl hp1 hsx HAS HNO HPC hR
  have hwk : IntKind.i64.wrap ((k : Int) - 1) = (k : Int) - 1 := by rw [IntKind.wrap_i64] <;> omega
  have hnt : ((k : Int) - 1).toNat = k - 1 := by omega
  go_wp2
  rw [HWW.out]
  try simp only [List.append_eq, List.cons_append, List.nil_append]
  clear HWW q0 q1 q2 HS0
  replace hBc := hBc.drew
  have hs := Ja (HS1.out _ hBc)
  refine wph HS1 hBc 23 ?_
  refine tQ 0 (po0 38) ?_; refine tQ 1 (po1 38) ?_; refine tQ 2 po2 ?_
  by_cases h1 : taR x
  case neg =>
   have HE := Ja (HF1.out h1)
   clear HF1 HF2 HMO HKX HKP HCM HRC
   refine rd 3 po3 (fun K hK => ?_)
   go_simp
   refine (HRT.out _ (HIA.out _ hBc)).mono ?_
   rintro e wn ⟨ht, hbn⟩
   obtain rfl := ht.isnt h1
   clear ht h1
   replace hBc := nx hBc hbn
   clear hbn
   try go_wp2_with fail
   replace hs := Ja (HS1.out _ hBc)
   refine hK.out _ _ hs.out (fun hx => ?_)
   clear hx hK K
   try simp only [s1, s2, s3]
   refine tQ 4 po4 ?_; refine tQ 5 po5 ?_; refine sQ 6 po6 ?_; refine sQ 7 po7 ?_; refine sQ 8 po8 ?_; refine sQ 9 (po9 25) ?_; refine sQ 10 JaD ?_; refine sQ 11 JaA ?_; refine sQ 12 (JaU 25) ?_; refine sQ 13 (JaM 38) ?_; refine sQ 14 (Jav 38) ?_; refine sQ 16 (JaI 38) ?_; refine sQ 17 (Jas 38) ?_; refine cQ 15 JaP ?_; refine cQ 18 Jat ?_; refine cQ 19 JaB ?_; refine sQ 20 Vc ?_; refine sQ 21 Vl ?_; refine tQ 22 Ve ?_
   refine wpd ?_
   have HBF := Ja (HBA.out.trans (hBc.mono HBA.out.size))
   clear hs hBc HS1
   go_wp2
   go_ret
   exact ⟨Tells.no HE.out, HBF.out⟩
  have HOX : Hid (taR x) := h1
  refine rd 3 po3 (fun K hK => ?_)
  go_simp
  refine (HRT.out _ (HIA.out _ hBc)).mono ?_
  rintro e wn ⟨ht, hbn⟩
  obtain rfl := ht.is h1
  clear ht h1 HF1 HRT HIA
  replace hBc := nx hBc hbn
  clear hbn
  try go_wp2_with fail
  replace hs := Ja (HS1.out _ hBc)
  refine hK.out _ _ hs.out (fun hx => ?_)
  clear hx hK K
  try simp only [s1, s2, s3]
  refine tQ 4 po4 ?_; refine tQ 5 po5 ?_; refine tQ 6 po6 ?_
  by_cases hkz : k = 0
  case pos =>
   have HE := Ja (HMO.out HOX.out (fun h0 => by omega))
   have hkn : ¬ (0 : Int) < k := by omega
   have hkn2 : ¬ 0 < k := by omega
   clear HF2 HMO HKX HKP HCM HRC hkz
   refine tQ 7 po7 ?_; refine tQ 8 po8 ?_; refine sQ 9 (po9 25) ?_; refine sQ 10 JaD ?_; refine sQ 11 JaA ?_; refine sQ 12 (JaU 25) ?_; refine sQ 13 (JaM 38) ?_; refine sQ 14 (Jav 38) ?_; refine sQ 16 (JaI 38) ?_; refine sQ 17 (Jas 38) ?_; refine cQ 15 JaP ?_; refine cQ 18 Jat ?_; refine cQ 19 JaB ?_; refine sQ 20 Vc ?_; refine tQ 21 Vl ?_; refine tQ 22 Ve ?_
   refine wpd ?_
   have HBF := Ja (HBA.out.trans (hBc.mono HBA.out.size))
   clear hs hBc HS1
   go_wp2
   go_roundw
   case rel => exact ⟨k + 1, by omega, by go_num, HE.out, HBF.out⟩
   case measure => simp [intOf]; omega
  have hkp : (0 : Int) < k := by omega
  have hkp1 : (1 : Int) ≤ (k : Int) := by omega
  have hkpn : 0 < k := by omega
  have hq1 : (0 : Int) ≤ (k : Int) - 1 := by omega
  have hq2 : (k : Int) - 1 < n := by omega
  refine tQ 7 po7 ?_; refine tQ 8 po8 ?_; refine tQ 9 (po9 25) ?_; refine tQ 10 JaD ?_; refine tQ 11 JaA ?_; refine tQ 12 (JaU 25) ?_; refine tQ 13 (JaM 38) ?_; refine tQ 14 (Jav 38) ?_; refine tQ 16 (JaI 38) ?_; refine tQ 17 (Jas 38) ?_
  refine rd 15 JaP (fun K hK => ?_)
  go_simp
  refine (HKP.out _).mono ?_
  rintro e wn ⟨rfl, hbn⟩
  replace hBc := nx hBc hbn
  clear hbn
  try go_wp2_with fail
  replace hs := Ja (HS1.out _ hBc)
  refine hK.out _ _ hs.out (fun hx => ?_)
  clear hx hK K
  try simp only [s1, s2, s3]
  refine rd 18 Jat (fun K hK => ?_)
  go_simp
  refine (HKX.out _).mono ?_
  rintro e wn ⟨rfl, hbn⟩
  replace hBc := nx hBc hbn
  clear hbn
  try go_wp2_with fail
  replace hs := Ja (HS1.out _ hBc)
  refine hK.out _ _ hs.out (fun hx => ?_)
  clear hx hK K
  try simp only [s1, s2, s3]
  refine rd 19 JaB (fun K hK => ?_)
  go_simp
  refine (HCM.out _).mono ?_
  rintro e wn ⟨rfl, hbn⟩
  replace hBc := nx hBc hbn
  clear hbn
  try go_wp2_with fail
  replace hs := Ja (HS1.out _ hBc)
  refine hK.out _ _ hs.out (fun hx => ?_)
  clear hx hK K
  try simp only [s1, s2, s3]
  clear HKP HKX HCM
  rcases HRC.out with ⟨h2, hd⟩ | ⟨h2, hd⟩
  ·have HE := Ja (HMO.out HOX.out (fun _ => h2))
   clear HF2 HMO h2 HRC
   refine tQ 20 Vc ?_; refine tQ 21 Vl ?_; refine tQ 22 Ve ?_
   refine wpd ?_
   have HBF := Ja (HBA.out.trans (hBc.mono HBA.out.size))
   clear hs hBc HS1
   go_wp2
   go_roundw
   case rel => exact ⟨k + 1, by omega, by go_num, HE.out, HBF.out⟩
   case measure => simp [intOf]; omega
  ·have HE := Ja (HF2.out hkpn h2)
   clear HF2 HMO h2 HRC
   refine tQ 20 Vc ?_; refine tQ 21 Vl ?_; refine tQ 22 Ve ?_
   refine wpd ?_
   have HBF := Ja (HBA.out.trans (hBc.mono HBA.out.size))
   clear hs hBc HS1
   go_wp2
   go_ret
   exact ⟨Tells.no HE.out, HBF.out⟩
theorem Jge (v : Value) (w : World) : (method 64 40 v "loop.example/g00463/impl.right").run Tryz.prog w = .ok (331, v) w := by kernel_rfl
theorem Yb (l : List Li) (lk : List Int) (u v : Value) (w : World) (hn : l.length ≤ 1048576) (hst : ∀ a ∈ l, a.o.size ≤ 1048576 ∧ a.y.size ≤ 1048576) (h : LiAt w u l) (hk : IntsAt w v lk) :
  Calls Tryz.prog 69 #[u, v] w fun e w' => Tells e (Jx (liR lk) J4 l) ∧ Below w.heap.size w w' := by
 obtain ⟨aa, ca, rfl, hga⟩ := h
 have HGA : Hid (LiG w aa l) := hga
 have HST := Ja hst
 have HKA : Hid (∀ wx, Below w.heap.size w wx → IntsAt wx v lk) := fun wx h => hk.below h
 obtain ⟨n, hnl⟩ : ∃ n, n = l.length := ⟨_, rfl⟩
 have HL : Hid (n = l.length) := hnl
 have HNO : Hid (¬ Asc (liR lk) J4 l → ¬ Jx (liR lk) J4 l) := fun h k => h k.2
 have HBIG : Hid ((120 : Int) < n → ¬ Jx (liR lk) J4 l) := fun h k => by have := k.1; omega
 have HYES : Hid (¬ (120 : Int) < n → Zn (liR lk) J4 l n → Jx (liR lk) J4 l) := fun h1 h2 => ⟨by omega, GC h2 (by omega)⟩
 rw [← hnl] at hn ⊢
 clear hnl hga hst hk
 by_cases hbig : (120 : Int) < n
 case pos =>
  have HE := Ja (HBIG.out hbig)
  go_enter Tryz.func69, Tryz.ntmps69
  go_wp2
  go_ret
  exact ⟨Tells.no HE.out, Below.refl _ _⟩
 have HYE := Ja (HYES.out hbig)
 clear HYES HBIG
 go_enter Tryz.func69, Tryz.ntmps69
 go_wp2
 go_loopw [12] (fun z wr => ∃ k : Nat, k ≤ n ∧ z = int i64 k ∧ Zn (liR lk) J4 l k ∧ Below w.heap.size w wr) (fun z _ => n - (intOf z).toNat)
 case atStart => exact ⟨0, Nat.zero_le _, rfl, KO _ _ _, Below.refl _ _⟩
 case round =>
  obtain ⟨k, hk, rfl, hasc, hbel⟩ := hrel
  have HBE := Ja hbel
  have HAS := Ja hasc
  have hsz := hbel.size
  clear hasc
  by_cases hlt : k < n
  case neg =>
   have hk1 : ¬ ((k : Int) < n) := by omega
   have HE := Ja (HYE.out (by have e : k = n := (by omega); rw [← e]; exact HAS.out))
   go_wp2
   go_ret
   exact ⟨Tells.yes HE.out, HBE.out⟩
  have hkl : k < l.length := by rw [← HL.out]; exact hlt
  obtain ⟨g, f, rfl, hg, hcc⟩ := HGA.out (by omega)
  have hk1 : (k : Int) < n := by omega
  have hk0 : (0 : Int) ≤ k := by omega
  have q := (hcc k hkl).below hbel hg
  have hp1 : k - 1 < l.length := by omega
  have HPC : Hid (∀ wx, Below w.heap.size w wx → liC wx g (f + (k - 1) * 6) l[k - 1]) := fun wx h => (hcc (k - 1) hp1).below h hg
  have HF1 : Hid (¬ (liR lk) l[k] → ¬ Jx (liR lk) J4 l) := fun h => HNO.out (fun a => h (a k hkl).1)
  have HF2 : Hid (0 < k → ¬ J4 l[k - 1] l[k] → ¬ Jx (liR lk) J4 l) := fun h0 h => HNO.out (fun a => h ((a k hkl).2 h0))
  have HMO : Hid ((liR lk) l[k] → (0 < k → J4 l[k - 1] l[k]) → Zn (liR lk) J4 l (k + 1)) := fun h1 h2 => KM HAS.out hkl h1 h2
  have hsx := HST.out l[k] (List.getElem_mem hkl)
  generalize l[k - 1] = p at *
  generalize l[k] = x at *
  unfold liC at q
  obtain ⟨q0, q1, q2, q3, q4, q5⟩ := q
  obtain ⟨WW, hWW⟩ : ∃ WW, WW = wr.alloc (.cells #[.bool x.m, .string x.o, .string x.y, int i64 x.v, int i64 x.r, int i64 x.s] 40) := ⟨_, rfl⟩
  have HBA : Hid (Below w.heap.size w WW) := by rw [hWW]; exact HBE.out.alloc hsz _
  have hRW : Row WW wr.heap.size #[.bool x.m, .string x.o, .string x.y, int i64 x.v, int i64 x.r, int i64 x.s] 40 := by rw [hWW]; exact Jb wr _ _ rfl
  have HWW : Hid (wr.alloc (.cells #[.bool x.m, .string x.o, .string x.y, int i64 x.v, int i64 x.r, int i64 x.s] 40) = WW) := hWW.symm
  have HS0 : Hid (∀ wx, Below WW.heap.size WW wx → wx.cell? ⟨wr.heap.size, 0, none⟩ = some (.bool x.m) ∧ wx.cell? ⟨wr.heap.size, 1, none⟩ = some (.string x.o) ∧ wx.cell? ⟨wr.heap.size, 2, none⟩ = some (.string x.y) ∧ wx.cell? ⟨wr.heap.size, 3, none⟩ = some (int i64 x.v) ∧ wx.cell? ⟨wr.heap.size, 4, none⟩ = some (int i64 x.r) ∧ wx.cell? ⟨wr.heap.size, 5, none⟩ = some (int i64 x.s)) := fun wx h => ⟨(hRW.next h).cell 0 rfl, (hRW.next h).cell 1 rfl, (hRW.next h).cell 2 rfl, (hRW.next h).cell 3 rfl, (hRW.next h).cell 4 rfl, (hRW.next h).cell 5 rfl⟩
  have HS1 : Hid (∀ wx, Below WW.heap.size WW wx → wx.cell? ⟨wr.heap.size, 0, none⟩ = some (.bool x.m) ∧ wx.cell? ⟨wr.heap.size, 1, none⟩ = some (.string x.o) ∧ wx.cell? ⟨wr.heap.size, 2, none⟩ = some (.string x.y) ∧ wx.cell? ⟨wr.heap.size, 3, none⟩ = some (int i64 x.v) ∧ wx.cell? ⟨wr.heap.size, 4, none⟩ = some (int i64 x.r) ∧ wx.cell? ⟨wr.heap.size, 5, none⟩ = some (int i64 x.s) ∧ wx.cell? ⟨g, f + (k - 1) * 6, none⟩ = some (.bool p.m) ∧ wx.cell? ⟨g, f + (k - 1) * 6 + 1, none⟩ = some (.string p.o) ∧ wx.cell? ⟨g, f + (k - 1) * 6 + 2, none⟩ = some (.string p.y) ∧ wx.cell? ⟨g, f + (k - 1) * 6 + 3, none⟩ = some (int i64 p.v) ∧ wx.cell? ⟨g, f + (k - 1) * 6 + 4, none⟩ = some (int i64 p.r) ∧ wx.cell? ⟨g, f + (k - 1) * 6 + 5, none⟩ = some (int i64 p.s)) := fun wx h => by
   have hq := HPC.out wx (HBA.out.trans (h.mono HBA.out.size))
   unfold liC at hq
   obtain ⟨t0, t1, t2, t3, t4, t5⟩ := HS0.out wx h
   obtain ⟨z0, z1, z2, z3, z4, z5⟩ := hq
   exact ⟨t0, t1, t2, t3, t4, t5, z0, z1, z2, z3, z4, z5⟩
  have HRT : Hid (∀ wx, IntsAt wx v lk → Calls Tryz.prog 331 #[.agg #[.bool x.m, .string x.o, .string x.y, int i64 x.v, int i64 x.r, int i64 x.s], v] wx fun e w' => Tells e ((liR lk) x) ∧ Below wx.heap.size wx w') := fun wx h => U9 x lk v wx hsx.1 hsx.2 h
  have HIA : Hid (∀ wx, Below WW.heap.size WW wx → IntsAt wx v lk) := fun wx h => HKA.out wx (HBA.out.trans (h.mono HBA.out.size))
  have HKX : Hid (∀ wx, Calls Tryz.prog 123 #[.iface 40 (.agg #[.bool x.m, .string x.o, .string x.y, int i64 x.v, int i64 x.r, int i64 x.s])] wx fun e w' => e = .returned (.agg #[.string ⟨#[]⟩, int i64 x.r, int i64 x.s]) ∧ Below wx.heap.size wx w') := fun wx => Z5 x wx
  have HKP : Hid (∀ wx, Calls Tryz.prog 123 #[.iface 40 (.agg #[.bool p.m, .string p.o, .string p.y, int i64 p.v, int i64 p.r, int i64 p.s])] wx fun e w' => e = .returned (.agg #[.string ⟨#[]⟩, int i64 p.r, int i64 p.s]) ∧ Below wx.heap.size wx w') := fun wx => Z5 p wx
  obtain ⟨R, hR⟩ : ∃ R, R = rkD p.r p.s x.r x.s := ⟨_, rfl⟩
  have HCM : Hid (∀ wx, Calls Tryz.prog 124 #[.agg #[.string ⟨#[]⟩, int i64 p.r, int i64 p.s], .agg #[.string ⟨#[]⟩, int i64 x.r, int i64 x.s]] wx fun e w' => e = .returned (int i64 R) ∧ Below wx.heap.size wx w') := fun wx => by rw [hR]; exact JZ _ _ _ _ _ _ wx
  have HRC : Hid ((J4 p x ∧ decide (0 ≤ R) = false) ∨ (¬ J4 p x ∧ decide (0 ≤ R) = true)) := by
   show _ ∨ _
   rw [hR]

   rcases ZN p.r p.s x.r x.s with ⟨h1, h2⟩ | ⟨h1, h2⟩ | ⟨h1, h2⟩
   ·exact .inl ⟨h1, decide_eq_false (by omega)⟩
   ·exact .inr ⟨fun h => by have : Jn p.r p.s x.r x.s := h; unfold Jn at this; omega, decide_eq_true (by omega)⟩
   ·exact .inr ⟨fun h => by have : Jn p.r p.s x.r x.s := h; unfold Jn at this h1; omega, decide_eq_true (by omega)⟩
  have hm := Jge
  have hBc : Below WW.heap.size WW WW := Below.refl _ _
  clear hWW hRW hcc hbel hkl hp1 hsx HAS HNO HPC hR
  have hwk : IntKind.i64.wrap ((k : Int) - 1) = (k : Int) - 1 := by rw [IntKind.wrap_i64] <;> omega
  have hnt : ((k : Int) - 1).toNat = k - 1 := by omega
  go_wp2
  rw [HWW.out]
  try simp only [List.append_eq, List.cons_append, List.nil_append]
  clear HWW q0 q1 q2 q3 q4 q5 HS0
  replace hBc := hBc.drew
  have hs := Ja (HS1.out _ hBc)
  refine wph HS1 hBc 23 ?_
  refine tQ 0 (po0 40) ?_; refine tQ 1 (po1 40) ?_; refine tQ 2 po2 ?_
  by_cases h1 : (liR lk) x
  case neg =>
   have HE := Ja (HF1.out h1)
   clear HF1 HF2 HMO HKX HKP HCM HRC
   refine rd 3 po3 (fun K hK => ?_)
   go_simp
   refine (HRT.out _ (HIA.out _ hBc)).mono ?_
   rintro e wn ⟨ht, hbn⟩
   obtain rfl := ht.isnt h1
   clear ht h1
   replace hBc := nx hBc hbn
   clear hbn
   try go_wp2_with fail
   replace hs := Ja (HS1.out _ hBc)
   refine hK.out _ _ hs.out (fun hx => ?_)
   clear hx hK K
   try simp only [s1, s2, s3]
   refine tQ 4 po4 ?_; refine tQ 5 po5 ?_; refine sQ 6 po6 ?_; refine sQ 7 po7 ?_; refine sQ 8 po8 ?_; refine sQ 9 (po9 26) ?_; refine sQ 10 JaD ?_; refine sQ 11 JaA ?_; refine sQ 12 (JaU 26) ?_; refine sQ 13 (JaM 40) ?_; refine sQ 14 (Jav 40) ?_; refine sQ 16 (JaI 40) ?_; refine sQ 17 (Jas 40) ?_; refine cQ 15 JaP ?_; refine cQ 18 Jat ?_; refine cQ 19 JaB ?_; refine sQ 20 Vc ?_; refine sQ 21 Vl ?_; refine tQ 22 Ve ?_
   refine wpd ?_
   have HBF := Ja (HBA.out.trans (hBc.mono HBA.out.size))
   clear hs hBc HS1
   go_wp2
   go_ret
   exact ⟨Tells.no HE.out, HBF.out⟩
  have HOX : Hid ((liR lk) x) := h1
  refine rd 3 po3 (fun K hK => ?_)
  go_simp
  refine (HRT.out _ (HIA.out _ hBc)).mono ?_
  rintro e wn ⟨ht, hbn⟩
  obtain rfl := ht.is h1
  clear ht h1 HF1 HRT HIA
  replace hBc := nx hBc hbn
  clear hbn
  try go_wp2_with fail
  replace hs := Ja (HS1.out _ hBc)
  refine hK.out _ _ hs.out (fun hx => ?_)
  clear hx hK K
  try simp only [s1, s2, s3]
  refine tQ 4 po4 ?_; refine tQ 5 po5 ?_; refine tQ 6 po6 ?_
  by_cases hkz : k = 0
  case pos =>
   have HE := Ja (HMO.out HOX.out (fun h0 => by omega))
   have hkn : ¬ (0 : Int) < k := by omega
   have hkn2 : ¬ 0 < k := by omega
   clear HF2 HMO HKX HKP HCM HRC hkz
   refine tQ 7 po7 ?_; refine tQ 8 po8 ?_; refine sQ 9 (po9 26) ?_; refine sQ 10 JaD ?_; refine sQ 11 JaA ?_; refine sQ 12 (JaU 26) ?_; refine sQ 13 (JaM 40) ?_; refine sQ 14 (Jav 40) ?_; refine sQ 16 (JaI 40) ?_; refine sQ 17 (Jas 40) ?_; refine cQ 15 JaP ?_; refine cQ 18 Jat ?_; refine cQ 19 JaB ?_; refine sQ 20 Vc ?_; refine tQ 21 Vl ?_; refine tQ 22 Ve ?_
   refine wpd ?_
   have HBF := Ja (HBA.out.trans (hBc.mono HBA.out.size))
   clear hs hBc HS1
   go_wp2
   go_roundw
   case rel => exact ⟨k + 1, by omega, by go_num, HE.out, HBF.out⟩
   case measure => simp [intOf]; omega
  have hkp : (0 : Int) < k := by omega
  have hkp1 : (1 : Int) ≤ (k : Int) := by omega
  have hkpn : 0 < k := by omega
  have hq1 : (0 : Int) ≤ (k : Int) - 1 := by omega
  have hq2 : (k : Int) - 1 < n := by omega
  refine tQ 7 po7 ?_; refine tQ 8 po8 ?_; refine tQ 9 (po9 26) ?_; refine tQ 10 JaD ?_; refine tQ 11 JaA ?_; refine tQ 12 (JaU 26) ?_; refine tQ 13 (JaM 40) ?_; refine tQ 14 (Jav 40) ?_; refine tQ 16 (JaI 40) ?_; refine tQ 17 (Jas 40) ?_
  refine rd 15 JaP (fun K hK => ?_)
  go_simp
  refine (HKP.out _).mono ?_
  rintro e wn ⟨rfl, hbn⟩
  replace hBc := nx hBc hbn
  clear hbn
  try go_wp2_with fail
  replace hs := Ja (HS1.out _ hBc)
  refine hK.out _ _ hs.out (fun hx => ?_)
  clear hx hK K
  try simp only [s1, s2, s3]
  refine rd 18 Jat (fun K hK => ?_)
  go_simp
  refine (HKX.out _).mono ?_
  rintro e wn ⟨rfl, hbn⟩
  replace hBc := nx hBc hbn
  clear hbn
  try go_wp2_with fail
  replace hs := Ja (HS1.out _ hBc)
  refine hK.out _ _ hs.out (fun hx => ?_)
  clear hx hK K
  try simp only [s1, s2, s3]
  refine rd 19 JaB (fun K hK => ?_)
  go_simp
  refine (HCM.out _).mono ?_
  rintro e wn ⟨rfl, hbn⟩
  replace hBc := nx hBc hbn
  clear hbn
  try go_wp2_with fail
  replace hs := Ja (HS1.out _ hBc)
  refine hK.out _ _ hs.out (fun hx => ?_)
  clear hx hK K
  try simp only [s1, s2, s3]
  clear HKP HKX HCM
  rcases HRC.out with ⟨h2, hd⟩ | ⟨h2, hd⟩
  ·have HE := Ja (HMO.out HOX.out (fun _ => h2))
   clear HF2 HMO h2 HRC
   refine tQ 20 Vc ?_; refine tQ 21 Vl ?_; refine tQ 22 Ve ?_
   refine wpd ?_
   have HBF := Ja (HBA.out.trans (hBc.mono HBA.out.size))
   clear hs hBc HS1
   go_wp2
   go_roundw
   case rel => exact ⟨k + 1, by omega, by go_num, HE.out, HBF.out⟩
   case measure => simp [intOf]; omega
  ·have HE := Ja (HF2.out hkpn h2)
   clear HF2 HMO h2 HRC
   refine tQ 20 Vc ?_; refine tQ 21 Vl ?_; refine tQ 22 Ve ?_
   refine wpd ?_
   have HBF := Ja (HBA.out.trans (hBc.mono HBA.out.size))
   clear hs hBc HS1
   go_wp2
   go_ret
   exact ⟨Tells.no HE.out, HBF.out⟩
theorem JhB (v : Value) (w : World) : (method 64 35 v "loop.example/g00463/impl.right").run Tryz.prog w = .ok (326, v) w := by kernel_rfl
theorem Yk (l : List Ce) (lk : List Int) (u v : Value) (w : World) (hn : l.length ≤ 1048576) (hst : ∀ a ∈ l, a.o.size ≤ 1048576) (h : CeAt w u l) (hk : IntsAt w v lk) :
  Calls Tryz.prog 70 #[u, v] w fun e w' => Tells e (Jx (ceR lk) JF l) ∧ Below w.heap.size w w' := by
 obtain ⟨aa, ca, rfl, hga⟩ := h
 have HGA : Hid (CeG w aa l) := hga
 have HST := Ja hst
 have HKA : Hid (∀ wx, Below w.heap.size w wx → IntsAt wx v lk) := fun wx h => hk.below h
 obtain ⟨n, hnl⟩ : ∃ n, n = l.length := ⟨_, rfl⟩
 have HL : Hid (n = l.length) := hnl
 have HNO : Hid (¬ Asc (ceR lk) JF l → ¬ Jx (ceR lk) JF l) := fun h k => h k.2
 have HBIG : Hid ((120 : Int) < n → ¬ Jx (ceR lk) JF l) := fun h k => by have := k.1; omega
 have HYES : Hid (¬ (120 : Int) < n → Zn (ceR lk) JF l n → Jx (ceR lk) JF l) := fun h1 h2 => ⟨by omega, GC h2 (by omega)⟩
 rw [← hnl] at hn ⊢
 clear hnl hga hst hk
 by_cases hbig : (120 : Int) < n
 case pos =>
  have HE := Ja (HBIG.out hbig)
  go_enter Tryz.func70, Tryz.ntmps70
  go_wp2
  go_ret
  exact ⟨Tells.no HE.out, Below.refl _ _⟩
 have HYE := Ja (HYES.out hbig)
 clear HYES HBIG
 go_enter Tryz.func70, Tryz.ntmps70
 go_wp2
 go_loopw [12] (fun z wr => ∃ k : Nat, k ≤ n ∧ z = int i64 k ∧ Zn (ceR lk) JF l k ∧ Below w.heap.size w wr) (fun z _ => n - (intOf z).toNat)
 case atStart => exact ⟨0, Nat.zero_le _, rfl, KO _ _ _, Below.refl _ _⟩
 case round =>
  obtain ⟨k, hk, rfl, hasc, hbel⟩ := hrel
  have HBE := Ja hbel
  have HAS := Ja hasc
  have hsz := hbel.size
  clear hasc
  by_cases hlt : k < n
  case neg =>
   have hk1 : ¬ ((k : Int) < n) := by omega
   have HE := Ja (HYE.out (by have e : k = n := (by omega); rw [← e]; exact HAS.out))
   go_wp2
   go_ret
   exact ⟨Tells.yes HE.out, HBE.out⟩
  have hkl : k < l.length := by rw [← HL.out]; exact hlt
  obtain ⟨g, f, rfl, hg, hcc⟩ := HGA.out (by omega)
  have hk1 : (k : Int) < n := by omega
  have hk0 : (0 : Int) ≤ k := by omega
  have q := (hcc k hkl).below hbel hg
  have hp1 : k - 1 < l.length := by omega
  have HPC : Hid (∀ wx, Below w.heap.size w wx → ceC wx g (f + (k - 1) * 8) l[k - 1]) := fun wx h => (hcc (k - 1) hp1).below h hg
  have HF1 : Hid (¬ (ceR lk) l[k] → ¬ Jx (ceR lk) JF l) := fun h => HNO.out (fun a => h (a k hkl).1)
  have HF2 : Hid (0 < k → ¬ JF l[k - 1] l[k] → ¬ Jx (ceR lk) JF l) := fun h0 h => HNO.out (fun a => h ((a k hkl).2 h0))
  have HMO : Hid ((ceR lk) l[k] → (0 < k → JF l[k - 1] l[k]) → Zn (ceR lk) JF l (k + 1)) := fun h1 h2 => KM HAS.out hkl h1 h2
  have hsx := HST.out l[k] (List.getElem_mem hkl)
  generalize l[k - 1] = p at *
  generalize l[k] = x at *
  unfold ceC at q
  obtain ⟨q0, q1, q2, q3, q4, q5, q6, q7⟩ := q
  obtain ⟨WW, hWW⟩ : ∃ WW, WW = wr.alloc (.cells #[.string x.o, int i64 x.r, int i64 x.s, int i64 x.t, int i64 x.x, int i64 x.z, int i64 x.v, .bool x.g] 35) := ⟨_, rfl⟩
  have HBA : Hid (Below w.heap.size w WW) := by rw [hWW]; exact HBE.out.alloc hsz _
  have hRW : Row WW wr.heap.size #[.string x.o, int i64 x.r, int i64 x.s, int i64 x.t, int i64 x.x, int i64 x.z, int i64 x.v, .bool x.g] 35 := by rw [hWW]; exact Jb wr _ _ rfl
  have HWW : Hid (wr.alloc (.cells #[.string x.o, int i64 x.r, int i64 x.s, int i64 x.t, int i64 x.x, int i64 x.z, int i64 x.v, .bool x.g] 35) = WW) := hWW.symm
  have HS0 : Hid (∀ wx, Below WW.heap.size WW wx → wx.cell? ⟨wr.heap.size, 0, none⟩ = some (.string x.o) ∧ wx.cell? ⟨wr.heap.size, 1, none⟩ = some (int i64 x.r) ∧ wx.cell? ⟨wr.heap.size, 2, none⟩ = some (int i64 x.s) ∧ wx.cell? ⟨wr.heap.size, 3, none⟩ = some (int i64 x.t) ∧ wx.cell? ⟨wr.heap.size, 4, none⟩ = some (int i64 x.x) ∧ wx.cell? ⟨wr.heap.size, 5, none⟩ = some (int i64 x.z) ∧ wx.cell? ⟨wr.heap.size, 6, none⟩ = some (int i64 x.v) ∧ wx.cell? ⟨wr.heap.size, 7, none⟩ = some (.bool x.g)) := fun wx h => ⟨(hRW.next h).cell 0 rfl, (hRW.next h).cell 1 rfl, (hRW.next h).cell 2 rfl, (hRW.next h).cell 3 rfl, (hRW.next h).cell 4 rfl, (hRW.next h).cell 5 rfl, (hRW.next h).cell 6 rfl, (hRW.next h).cell 7 rfl⟩
  have HS1 : Hid (∀ wx, Below WW.heap.size WW wx → wx.cell? ⟨wr.heap.size, 0, none⟩ = some (.string x.o) ∧ wx.cell? ⟨wr.heap.size, 1, none⟩ = some (int i64 x.r) ∧ wx.cell? ⟨wr.heap.size, 2, none⟩ = some (int i64 x.s) ∧ wx.cell? ⟨wr.heap.size, 3, none⟩ = some (int i64 x.t) ∧ wx.cell? ⟨wr.heap.size, 4, none⟩ = some (int i64 x.x) ∧ wx.cell? ⟨wr.heap.size, 5, none⟩ = some (int i64 x.z) ∧ wx.cell? ⟨wr.heap.size, 6, none⟩ = some (int i64 x.v) ∧ wx.cell? ⟨wr.heap.size, 7, none⟩ = some (.bool x.g) ∧ wx.cell? ⟨g, f + (k - 1) * 8, none⟩ = some (.string p.o) ∧ wx.cell? ⟨g, f + (k - 1) * 8 + 1, none⟩ = some (int i64 p.r) ∧ wx.cell? ⟨g, f + (k - 1) * 8 + 2, none⟩ = some (int i64 p.s) ∧ wx.cell? ⟨g, f + (k - 1) * 8 + 3, none⟩ = some (int i64 p.t) ∧ wx.cell? ⟨g, f + (k - 1) * 8 + 4, none⟩ = some (int i64 p.x) ∧ wx.cell? ⟨g, f + (k - 1) * 8 + 5, none⟩ = some (int i64 p.z) ∧ wx.cell? ⟨g, f + (k - 1) * 8 + 6, none⟩ = some (int i64 p.v) ∧ wx.cell? ⟨g, f + (k - 1) * 8 + 7, none⟩ = some (.bool p.g)) := fun wx h => by
   have hq := HPC.out wx (HBA.out.trans (h.mono HBA.out.size))
   unfold ceC at hq
   obtain ⟨t0, t1, t2, t3, t4, t5, t6, t7⟩ := HS0.out wx h
   obtain ⟨z0, z1, z2, z3, z4, z5, z6, z7⟩ := hq
   exact ⟨t0, t1, t2, t3, t4, t5, t6, t7, z0, z1, z2, z3, z4, z5, z6, z7⟩
  have HRT : Hid (∀ wx, IntsAt wx v lk → Calls Tryz.prog 326 #[.agg #[.string x.o, int i64 x.r, int i64 x.s, int i64 x.t, int i64 x.x, int i64 x.z, int i64 x.v, .bool x.g], v] wx fun e w' => Tells e ((ceR lk) x) ∧ Below wx.heap.size wx w') := fun wx h => Vm x lk v wx hsx h
  have HIA : Hid (∀ wx, Below WW.heap.size WW wx → IntsAt wx v lk) := fun wx h => HKA.out wx (HBA.out.trans (h.mono HBA.out.size))
  have HKX : Hid (∀ wx, Calls Tryz.prog 123 #[.iface 35 (.agg #[.string x.o, int i64 x.r, int i64 x.s, int i64 x.t, int i64 x.x, int i64 x.z, int i64 x.v, .bool x.g])] wx fun e w' => e = .returned (.agg #[.string ⟨#[]⟩, int i64 x.r, int i64 x.s]) ∧ Below wx.heap.size wx w') := fun wx => ZA x wx
  have HKP : Hid (∀ wx, Calls Tryz.prog 123 #[.iface 35 (.agg #[.string p.o, int i64 p.r, int i64 p.s, int i64 p.t, int i64 p.x, int i64 p.z, int i64 p.v, .bool p.g])] wx fun e w' => e = .returned (.agg #[.string ⟨#[]⟩, int i64 p.r, int i64 p.s]) ∧ Below wx.heap.size wx w') := fun wx => ZA p wx
  obtain ⟨R, hR⟩ : ∃ R, R = rkD p.r p.s x.r x.s := ⟨_, rfl⟩
  have HCM : Hid (∀ wx, Calls Tryz.prog 124 #[.agg #[.string ⟨#[]⟩, int i64 p.r, int i64 p.s], .agg #[.string ⟨#[]⟩, int i64 x.r, int i64 x.s]] wx fun e w' => e = .returned (int i64 R) ∧ Below wx.heap.size wx w') := fun wx => by rw [hR]; exact JZ _ _ _ _ _ _ wx
  have HRC : Hid ((JF p x ∧ decide (0 ≤ R) = false) ∨ (¬ JF p x ∧ decide (0 ≤ R) = true)) := by
   show _ ∨ _
   rw [hR]

   rcases ZN p.r p.s x.r x.s with ⟨h1, h2⟩ | ⟨h1, h2⟩ | ⟨h1, h2⟩
   ·exact .inl ⟨h1, decide_eq_false (by omega)⟩
   ·exact .inr ⟨fun h => by have : Jn p.r p.s x.r x.s := h; unfold Jn at this; omega, decide_eq_true (by omega)⟩
   ·exact .inr ⟨fun h => by have : Jn p.r p.s x.r x.s := h; unfold Jn at this h1; omega, decide_eq_true (by omega)⟩
  have hm := JhB
  have hBc : Below WW.heap.size WW WW := Below.refl _ _
  clear hWW hRW hcc hbel hkl hp1 hsx HAS HNO HPC hR
  have hwk : IntKind.i64.wrap ((k : Int) - 1) = (k : Int) - 1 := by rw [IntKind.wrap_i64] <;> omega
  have hnt : ((k : Int) - 1).toNat = k - 1 := by omega
  go_wp2
  rw [HWW.out]
  try simp only [List.append_eq, List.cons_append, List.nil_append]
  clear HWW q0 q1 q2 q3 q4 q5 q6 q7 HS0
  replace hBc := hBc.drew
  have hs := Ja (HS1.out _ hBc)
  refine wph HS1 hBc 23 ?_
  refine tQ 0 (po0 35) ?_; refine tQ 1 (po1 35) ?_; refine tQ 2 po2 ?_
  by_cases h1 : (ceR lk) x
  case neg =>
   have HE := Ja (HF1.out h1)
   clear HF1 HF2 HMO HKX HKP HCM HRC
   refine rd 3 po3 (fun K hK => ?_)
   go_simp
   refine (HRT.out _ (HIA.out _ hBc)).mono ?_
   rintro e wn ⟨ht, hbn⟩
   obtain rfl := ht.isnt h1
   clear ht h1
   replace hBc := nx hBc hbn
   clear hbn
   try go_wp2_with fail
   replace hs := Ja (HS1.out _ hBc)
   refine hK.out _ _ hs.out (fun hx => ?_)
   clear hx hK K
   try simp only [s1, s2, s3]
   refine tQ 4 po4 ?_; refine tQ 5 po5 ?_; refine sQ 6 po6 ?_; refine sQ 7 po7 ?_; refine sQ 8 po8 ?_; refine sQ 9 (po9 27) ?_; refine sQ 10 JaD ?_; refine sQ 11 JaA ?_; refine sQ 12 (JaU 27) ?_; refine sQ 13 (JaM 35) ?_; refine sQ 14 (Jav 35) ?_; refine sQ 16 (JaI 35) ?_; refine sQ 17 (Jas 35) ?_; refine cQ 15 JaP ?_; refine cQ 18 Jat ?_; refine cQ 19 JaB ?_; refine sQ 20 Vc ?_; refine sQ 21 Vl ?_; refine tQ 22 Ve ?_
   refine wpd ?_
   have HBF := Ja (HBA.out.trans (hBc.mono HBA.out.size))
   clear hs hBc HS1
   go_wp2
   go_ret
   exact ⟨Tells.no HE.out, HBF.out⟩
  have HOX : Hid ((ceR lk) x) := h1
  refine rd 3 po3 (fun K hK => ?_)
  go_simp
  refine (HRT.out _ (HIA.out _ hBc)).mono ?_
  rintro e wn ⟨ht, hbn⟩
  obtain rfl := ht.is h1
  clear ht h1 HF1 HRT HIA
  replace hBc := nx hBc hbn
  clear hbn
  try go_wp2_with fail
  replace hs := Ja (HS1.out _ hBc)
  refine hK.out _ _ hs.out (fun hx => ?_)
  clear hx hK K
  try simp only [s1, s2, s3]
  refine tQ 4 po4 ?_; refine tQ 5 po5 ?_; refine tQ 6 po6 ?_
  by_cases hkz : k = 0
  case pos =>
   have HE := Ja (HMO.out HOX.out (fun h0 => by omega))
   have hkn : ¬ (0 : Int) < k := by omega
   have hkn2 : ¬ 0 < k := by omega
   clear HF2 HMO HKX HKP HCM HRC hkz
   refine tQ 7 po7 ?_; refine tQ 8 po8 ?_; refine sQ 9 (po9 27) ?_; refine sQ 10 JaD ?_; refine sQ 11 JaA ?_; refine sQ 12 (JaU 27) ?_; refine sQ 13 (JaM 35) ?_; refine sQ 14 (Jav 35) ?_; refine sQ 16 (JaI 35) ?_; refine sQ 17 (Jas 35) ?_; refine cQ 15 JaP ?_; refine cQ 18 Jat ?_; refine cQ 19 JaB ?_; refine sQ 20 Vc ?_; refine tQ 21 Vl ?_; refine tQ 22 Ve ?_
   refine wpd ?_
   have HBF := Ja (HBA.out.trans (hBc.mono HBA.out.size))
   clear hs hBc HS1
   go_wp2
   go_roundw
   case rel => exact ⟨k + 1, by omega, by go_num, HE.out, HBF.out⟩
   case measure => simp [intOf]; omega
  have hkp : (0 : Int) < k := by omega
  have hkp1 : (1 : Int) ≤ (k : Int) := by omega
  have hkpn : 0 < k := by omega
  have hq1 : (0 : Int) ≤ (k : Int) - 1 := by omega
  have hq2 : (k : Int) - 1 < n := by omega
  refine tQ 7 po7 ?_; refine tQ 8 po8 ?_; refine tQ 9 (po9 27) ?_; refine tQ 10 JaD ?_; refine tQ 11 JaA ?_; refine tQ 12 (JaU 27) ?_; refine tQ 13 (JaM 35) ?_; refine tQ 14 (Jav 35) ?_; refine tQ 16 (JaI 35) ?_; refine tQ 17 (Jas 35) ?_
  refine rd 15 JaP (fun K hK => ?_)
  go_simp
  refine (HKP.out _).mono ?_
  rintro e wn ⟨rfl, hbn⟩
  replace hBc := nx hBc hbn
  clear hbn
  try go_wp2_with fail
  replace hs := Ja (HS1.out _ hBc)
  refine hK.out _ _ hs.out (fun hx => ?_)
  clear hx hK K
  try simp only [s1, s2, s3]
  refine rd 18 Jat (fun K hK => ?_)
  go_simp
  refine (HKX.out _).mono ?_
  rintro e wn ⟨rfl, hbn⟩
  replace hBc := nx hBc hbn
  clear hbn
  try go_wp2_with fail
  replace hs := Ja (HS1.out _ hBc)
  refine hK.out _ _ hs.out (fun hx => ?_)
  clear hx hK K
  try simp only [s1, s2, s3]
  refine rd 19 JaB (fun K hK => ?_)
  go_simp
  refine (HCM.out _).mono ?_
  rintro e wn ⟨rfl, hbn⟩
  replace hBc := nx hBc hbn
  clear hbn
  try go_wp2_with fail
  replace hs := Ja (HS1.out _ hBc)
  refine hK.out _ _ hs.out (fun hx => ?_)
  clear hx hK K
  try simp only [s1, s2, s3]
  clear HKP HKX HCM
  rcases HRC.out with ⟨h2, hd⟩ | ⟨h2, hd⟩
  ·have HE := Ja (HMO.out HOX.out (fun _ => h2))
   clear HF2 HMO h2 HRC
   refine tQ 20 Vc ?_; refine tQ 21 Vl ?_; refine tQ 22 Ve ?_
   refine wpd ?_
   have HBF := Ja (HBA.out.trans (hBc.mono HBA.out.size))
   clear hs hBc HS1
   go_wp2
   go_roundw
   case rel => exact ⟨k + 1, by omega, by go_num, HE.out, HBF.out⟩
   case measure => simp [intOf]; omega
  ·have HE := Ja (HF2.out hkpn h2)
   clear HF2 HMO h2 HRC
   refine tQ 20 Vc ?_; refine tQ 21 Vl ?_; refine tQ 22 Ve ?_
   refine wpd ?_
   have HBF := Ja (HBA.out.trans (hBc.mono HBA.out.size))
   clear hs hBc HS1
   go_wp2
   go_ret
   exact ⟨Tells.no HE.out, HBF.out⟩
end Go.Proofs.YtdknoflkingodaaGreat
