/- A counter is counted on: the program. -/
import Derived.Test.YtepfinenocpneaaGreatQ36
import Derived.Test.YtepfinenocpneaaGreatQ37
set_option maxHeartbeats 16000000
namespace Go.Proofs.YtepfinenocpneaaGreat
open Value (int)
open IntKind (i64)
set_option maxRecDepth 100000
set_option linter.unusedVariables false
open Go.RowKit
abbrev lt0 : Oper := oq 8 (.fieldAddr 44 (.tmp 3) 4) 0 "l07_done.go:34" #[] none
abbrev lt1 : Oper := oq 9 (.load 9 (.tmp 8)) 9 "l07_done.go:34" #[eD 0] none
abbrev lt2 : Oper := oq 10 (.call ⟨.value (.func 94), #[.tmp 9], #[9]⟩) 9 "l07_done.go:34" #[eD 1] none
abbrev lt3 : Oper := oq 11 (.fieldAddr 44 (.tmp 3) 0) 0 "l07_done.go:34" #[] none
abbrev lt4 : Oper := oq 12 (.fieldAddr 42 (.tmp 11) 0) 0 "l07_done.go:34" #[eD 3] none
abbrev lt5 : Oper := oq 13 (.load 3 (.tmp 12)) 3 "l07_done.go:34" #[eD 4] none
abbrev lt6 : Oper := oq 14 (.build 86 #[(0, .tmp 10), (1, .tmp 13)]) 86 "l07_done.go:34" #[eD 2, eD 5] none
abbrev lt7 : Oper := oq 5 (.alloc 86) 0 "l07_done.go:34" #[] none
abbrev lt8 : Oper := oz (.store 86 (.tmp 5) (.tmp 14)) 0 "l07_done.go:34" #[eD 7, eD 6, eC 2, eP 0, eP 1, eP 2, eP 3, eP 4, eP 5, eP 6, eP 7] none
abbrev lu0 : Oper := oq 16 (.fieldAddr 29 (.tmp 2) 1) 0 "l07_done.go:35" #[] none
abbrev lu1 : Oper := oq 17 (.load 25 (.tmp 16)) 25 "l07_done.go:35" #[eD 0] none
abbrev lu2 : Oper := oq 18 (.load 86 (.tmp 5)) 86 "l07_done.go:35" #[] none
abbrev lu3 : Oper := oq 19 (.makeInterface 86 (.tmp 18)) 170 "l07_done.go:35" #[eD 2] none
abbrev lu4 : Oper := oq 20 (.call ⟨.value (.func 135), #[.tmp 19], #[170]⟩) 150 "l07_done.go:35" #[eD 3] none
abbrev lu5 : Oper := oq 21 (.call ⟨.value (.func 141), #[.tmp 17, .tmp 20], #[25, 150]⟩) 147 "l07_done.go:35" #[eD 1, eD 4, eC 4] none
abbrev lu6 : Oper := oq 15 (.move (.tmp 21)) 147 "l07_done.go:35" #[eD 5] none
abbrev lu7 : Oper := oq 22 (.extract (.tmp 15) 0) 3 "l07_done.go:35" #[eD 6] none
abbrev lu8 : Oper := oq 23 (.extract (.tmp 15) 1) 4 "l07_done.go:35" #[eD 6, { on := 9, ground := .gcOnly .lateStores }] none
abbrev lu9 : Oper := oq 6 (.assign (.tmp 22)) 3 "l07_done.go:35" #[eD 7, eC 5, eP 0, eP 1, eP 2, eP 3, eP 4, eP 5, eP 6, eP 7, { on := 8, ground := .textOnly .lateStores }] none
abbrev Jjc : Oper := oq 7 (.assign (.tmp 23)) 4 "l07_done.go:35" #[eD 8, eC 9, eP 0, eP 1, eP 2, eP 3, eP 4, eP 5, eP 6, eP 7, eP 8, eP 9] none
theorem Kz {o : ByteArray} {r : Int} {y : Ta} : J5 o r y = 0 ↔ y.o = o ∧ y.r = r := by
 unfold J5 rkT or3
 rcases Ka y.o.data.toList o.data.toList with ⟨h1, h2⟩ | ⟨h1, h2⟩ | ⟨h1, h2⟩
 ·rw [h1]
  refine ⟨fun h => by simp at h, fun h => ?_⟩
  rw [h.1] at h2; exact absurd h2 (List.lt_irrefl _)
 ·have e : y.o = o := ByteArray.ext (Array.ext' h2)
  rw [h1]
  unfold Kc
  refine ⟨fun h => ⟨e, ?_⟩, fun h => by simp [h.2]⟩
  by_cases h3 : y.r < r
  ·simp [h3] at h
  ·by_cases h4 : r < y.r
   ·simp [h3, h4] at h
   ·omega
 ·rw [h1]
  refine ⟨fun h => by simp at h, fun h => ?_⟩
  rw [h.1] at h2; exact absurd h2 (List.lt_irrefl _)
theorem JdG (o : ByteArray) (r : Int) (a : Ta) : ZJ o r a = true ↔ 0 < J5 o r a := by
 have h1 := Up o r a
 have h2 := @Kz o r a
 unfold ZJ
 rw [decide_eq_true_iff]
 unfold Z3 at h1
 constructor
 ·intro h
  have h3 : ¬ J5 o r a < 0 := fun e => by
   rcases h1.1 e with e1 | ⟨e1, e2⟩
   ·rcases h with h | ⟨h, -⟩
    ·exact List.lt_irrefl _ (List.lt_trans e1 h)
    ·simp only at e1; rw [h] at e1; exact List.lt_irrefl _ e1
   ·simp only at e1 e2
    rcases h with h | ⟨h, h4⟩
    ·rw [e1] at h; exact List.lt_irrefl _ h
    ·omega
  have h4 : ¬ J5 o r a = 0 := fun e => by
   obtain ⟨e1, e2⟩ := h2.1 e
   rcases h with h | ⟨-, h⟩
   ·rw [e1] at h; exact List.lt_irrefl _ h
   ·omega
  omega
 ·intro h
  have h3 : ¬ (a.o.data.toList < o.data.toList ∨ (a.o = o ∧ a.r < r)) := fun e => by have := h1.2 e; omega
  have h4 : ¬ (a.o = o ∧ a.r = r) := fun e => by have := h2.2 e; omega
  by_cases ho : a.o = o
  ·exact .inr ⟨ho, by
    have h5 : ¬ a.r < r := fun e => h3 (.inr ⟨ho, e⟩)
    have h6 : ¬ a.r = r := fun e => h4 ⟨ho, e⟩
    omega⟩
  ·left
   rcases Ka a.o.data.toList o.data.toList with ⟨-, e⟩ | ⟨-, e⟩ | ⟨-, e⟩
   ·exact absurd (.inl e) h3
   ·exact absurd (ByteArray.ext (Array.ext' e)) ho
   ·exact e
theorem YC {S : Sta} (hS : SOk S) {o : ByteArray} {r v : Int} {k : Nat} {b : Bool} (h : GW S.T (J5 o r) k b) : (b = true → ∃ hk : k < S.T.length, Jv S.T o r v = S.T.set k { S.T[k] with n := (S.T[k].n + v) % 1000000 }) ∧ (b = false → Jv S.T o r v = S.T.take k ++ ⟨o, r, v⟩ :: S.T.drop k) := by
 constructor
 ·intro hb
  obtain ⟨hk, e⟩ := h.2.2.2.1 hb
  refine ⟨hk, Vg _ _ _ _ k hk (fun i hi hik => ?_) ?_⟩
  ·have := h.2.1 i hi hik
   unfold Z1
   rw [decide_eq_false]
   intro e2
   have := Kz.2 e2
   omega
  ·unfold Z1
   exact decide_eq_true (Kz.1 e)
 ·intro hb
  rw [G8 _ _ _ _ (fun i hi => ?_)]
  ·exact KM h hb _ (fun a _ => JdG o r a) _
  ·unfold Z1
   rw [decide_eq_false]
   intro e2
   have h0 := Kz.2 e2
   have h5 : ¬ i < k := fun hik => by have := h.2.1 i hi hik; omega
   by_cases hik : i = k
   ·subst hik
    have := h.2.2.2.2 ⟨hi, h0⟩
    rw [hb] at this; cases this
   ·have hkl : k < S.T.length := by omega
    have hlt := List.pairwise_iff_getElem.1 hS.pairT k i hkl hi (by omega)
    obtain ⟨e3, e4⟩ := e2
    have h6 : J5 o r S.T[k] < 0 := (Up o r _).2 (by
     unfold Z3 at hlt ⊢
     rw [e3, e4] at hlt
     exact hlt)
    exact h.2.2.1 k hkl (Nat.le_refl _) h6
theorem Jd7 {α : Type} (l : List α) (k : Nat) (x : α) (h : k ≤ l.length) : (l.take k ++ x :: l.drop k)[k]'(by simp; omega) = x := by
 rw [List.getElem_append_right (by rw [List.length_take]; omega)]
 simp [List.length_take, Nat.min_eq_left h]
theorem Jd9 {α : Type} (l : List α) (k : Nat) (x y : α) (h : k ≤ l.length) : (l.take k ++ x :: l.drop k).set k y = l.take k ++ y :: l.drop k := by
 have hl : (l.take k).length = k := by rw [List.length_take]; omega
 rw [List.set_append_right _ _ (by omega), hl, Nat.sub_self, List.set_cons_zero]
theorem Jai {w : World} {g : Nat} {cs : Array Value} {T : TypeId} (h : Row w g cs T) : Row w.drew g cs T := h
theorem Jag {w : World} {B n cap g k : Nat} {M : List Ta} (h : w.ownsRow B 86 3 (.slice (some ⟨g, 0, none⟩) n cap) n (taV M)) (hk : k < M.length) (hl : M.length = n) : w.cell? ⟨g, k * 3 + 2, none⟩ = some (int i64 M[k].n) ∧ w.frozen? ⟨g, k * 3 + 2, none⟩ = false ∧ B ≤ g ∧ g < w.heap.size := by
 obtain ⟨aa, ca, e, hga⟩ := TaAt.own h hl
 obtain ⟨rfl, -, -⟩ : (some ⟨g, 0, none⟩ : Option Addr) = aa ∧ n = M.length ∧ cap = ca := by simpa using e
 obtain ⟨g2, f2, e3, -, hcc⟩ := hga (by omega)
 obtain ⟨rfl, rfl⟩ : g = g2 ∧ 0 = f2 := by simpa using e3
 have h2 := (hcc k hk).2.2
 rw [Nat.zero_add] at h2
 exact ⟨h2, h.frozenAt _, h.lt g rfl⟩
theorem Vn (S : Sta) (a0 a1 a2 a3 : Option Addr) (n0 n2 n3 c0 c1 c2 c3 : Nat) (A : Ac) (aa : Option Addr) (ca : Nat) (w : World) (hS : SOk S) (hv : 0 ≤ A.v ∧ A.v ≤ 999999) (h : TaAt w (.slice a1 S.T.length c1) S.T) (hal : A.l.length ≤ 1048576 ∧ A.o.size ≤ 1048576 ∧ A.y.size ≤ 1048576) :
  Calls Tryz.prog 122 #[.agg #[.slice a0 n0 c0, .slice a1 S.T.length c1, .slice a2 n2 c2, .slice a3 n3 c3], .agg #[int i64 A.r, int i64 A.s, int i64 A.t, .slice aa A.l.length ca, int i64 A.k, .string A.o, .string A.y, int i64 A.v, int i64 A.x, int i64 A.z]] w fun e w' => ∃ q, e = .returned (.agg #[.slice a0 n0 c0, q, .slice a2 n2 c2, .slice a3 n3 c3]) ∧ w'.ownsRow w.heap.size 86 3 q (Jv S.T A.o A.r A.v).length (taV (Jv S.T A.o A.r A.v)) ∧ Below w.heap.size w w' := by
 obtain ⟨W, hW⟩ : ∃ W, W = ((w.alloc (.cells #[.slice a0 n0 c0, .slice a1 S.T.length c1, .slice a2 n2 c2, .slice a3 n3 c3] 29)).alloc (.cells #[int i64 A.r, int i64 A.s, int i64 A.t, .slice aa A.l.length ca, int i64 A.k, .string A.o, .string A.y, int i64 A.v, int i64 A.x, int i64 A.z] 44)).alloc (.cells #[.slice none 0 0, .slice none 0 0, .slice none 0 0, .slice none 0 0] 29) := ⟨_, rfl⟩
 have hWs : W.heap.size = w.heap.size + 1 + 1 + 1 := by rw [hW]; simp
 have hB0 : Below w.heap.size w W := by rw [hW]; exact (((Below.refl _ _).alloc (Nat.le_refl _) _).alloc (by simp) _).alloc (by simp; omega) _
 have hR1 : Row W w.heap.size #[.slice a0 n0 c0, .slice a1 S.T.length c1, .slice a2 n2 c2, .slice a3 n3 c3] 29 := by rw [hW]; exact ((Jb w _ _ rfl).alloc _).alloc _
 have hR2 : Row W (w.heap.size + 1) #[int i64 A.r, int i64 A.s, int i64 A.t, .slice aa A.l.length ca, int i64 A.k, .string A.o, .string A.y, int i64 A.v, int i64 A.x, int i64 A.z] 44 := by rw [hW]; exact (Jb _ _ _ (by simp)).alloc _
 have hR3 : Row W (w.heap.size + 1 + 1) #[.slice none 0 0, .slice none 0 0, .slice none 0 0, .slice none 0 0] 29 := by rw [hW]; exact Jb _ _ _ (by simp)
 have HWW : Hid (((w.alloc (.cells #[.slice a0 n0 c0, .slice a1 S.T.length c1, .slice a2 n2 c2, .slice a3 n3 c3] 29)).alloc (.cells #[int i64 A.r, int i64 A.s, int i64 A.t, .slice aa A.l.length ca, int i64 A.k, .string A.o, .string A.y, int i64 A.v, int i64 A.x, int i64 A.z] 44)).alloc (.cells #[.slice none 0 0, .slice none 0 0, .slice none 0 0, .slice none 0 0] 29) = W) := hW.symm
 have hlen := hS.len.2.1
 have ho := hal.2.1
 have HCO : Hid (∀ wx, Calls Tryz.prog 94 #[.string A.o] wx fun e w' => e = .returned (.string A.o) ∧ Below wx.heap.size wx w') := fun wx => ZM A.o wx (by omega)
 have HRK : Hid (∀ wx, Calls Tryz.prog 135 #[.iface 86 (.agg #[.string A.o, int i64 A.r, int i64 0])] wx fun e w' => e = .returned (.agg #[.string A.o, int i64 A.r, int i64 0]) ∧ Below wx.heap.size wx w') := fun wx => Gg ⟨A.o, A.r, 0⟩ wx
 have HPL : Hid (∀ wx, Below W.heap.size W wx → Calls Tryz.prog 141 #[.slice a1 S.T.length c1, .agg #[.string A.o, int i64 A.r, int i64 0]] wx fun e w' => JT e S.T (J5 A.o A.r) ∧ Below wx.heap.size wx w') := fun wx hb => YJ S.T _ A.o A.r wx (by omega) (JeL hS.pairT _ _) (h.below (hB0.trans (hb.mono hB0.size)))
 have HCL : Hid (∀ wx, Below W.heap.size W wx → Calls Tryz.prog 91 #[.slice a1 S.T.length c1] wx fun e w' => ∃ q, e = .returned q ∧ w'.ownsRow wx.heap.size 86 3 q S.T.length (taV S.T) ∧ Below wx.heap.size wx w') := fun wx hb => VE S.T _ wx (by omega) (h.below (hB0.trans (hb.mono hB0.size)))
 have HPT : Hid (∀ k b, GW S.T (J5 A.o A.r) k b → (b = true → ∃ hk : k < S.T.length, Jv S.T A.o A.r A.v = S.T.set k { S.T[k] with n := (S.T[k].n + A.v) % 1000000 }) ∧ (b = false → Jv S.T A.o A.r A.v = S.T.take k ++ ⟨A.o, A.r, A.v⟩ :: S.T.drop k)) := fun k b hq => YC hS hq
 have HTN : Hid (∀ t ∈ S.T, 0 ≤ t.n ∧ t.n ≤ 999999) := fun t ht => (hS.2.1.2.mem t ht).2.2
 have HB0 := Ja hB0
 have HR1 : Hid (∀ wx, Below W.heap.size W wx → Row wx w.heap.size #[.slice a0 n0 c0, .slice a1 S.T.length c1, .slice a2 n2 c2, .slice a3 n3 c3] 29) := fun wx h => hR1.next h
 have HR2 : Hid (∀ wx, Below W.heap.size W wx → Row wx (w.heap.size + 1) #[int i64 A.r, int i64 A.s, int i64 A.t, .slice aa A.l.length ca, int i64 A.k, .string A.o, .string A.y, int i64 A.v, int i64 A.x, int i64 A.z] 44) := fun wx h => hR2.next h
 have HR3 : Hid (∀ wx, Below W.heap.size W wx → Row wx (w.heap.size + 1 + 1) #[.slice none 0 0, .slice none 0 0, .slice none 0 0, .slice none 0 0] 29) := fun wx h => hR3.next h
 generalize Jv S.T A.o A.r A.v = LT at *
 clear hW h hB0 hR1 hR3 hS hal ho
 go_enter Tryz.func122, Tryz.ntmps122
 go_wp2
 rw [HWW.out]
 clear HWW
 have HS : Hid (∀ wx, Below W.heap.size W wx → wx.cell? ⟨w.heap.size + 1, 0, none⟩ = some (int i64 A.r) ∧ wx.cell? ⟨w.heap.size + 1, 1, none⟩ = some (int i64 A.s) ∧ wx.cell? ⟨w.heap.size + 1, 2, none⟩ = some (int i64 A.t) ∧ wx.cell? ⟨w.heap.size + 1, 3, none⟩ = some (.slice aa A.l.length ca) ∧ wx.cell? ⟨w.heap.size + 1, 4, none⟩ = some (int i64 A.k) ∧ wx.cell? ⟨w.heap.size + 1, 5, none⟩ = some (.string A.o) ∧ wx.cell? ⟨w.heap.size + 1, 6, none⟩ = some (.string A.y) ∧ wx.cell? ⟨w.heap.size + 1, 7, none⟩ = some (int i64 A.v) ∧ wx.cell? ⟨w.heap.size + 1, 8, none⟩ = some (int i64 A.x) ∧ wx.cell? ⟨w.heap.size + 1, 9, none⟩ = some (int i64 A.z)) := fun wx h => Row.ten (hR2.next h)
 have hBc : Below W.heap.size W W := Below.refl _ _
 have HWS := Ja hWs
 clear hWs
 replace hBc := hBc.drew
 have hs := Ja (HS.out _ hBc)
 refine wph HS hBc 9 ?_
 generalize W.drew = wn at *
 refine tQ 0 lt0 ?_; refine tQ 1 lt1 ?_; refine tQ 3 lt3 ?_; refine tQ 4 lt4 ?_; refine tQ 5 lt5 ?_
 refine wpAnyH_ready (rs := [2, 7]) (by as_aux_lemma => kernel_rfl) (by simp) ?_
 refine AllReadyH.cons (o := lt2) rfl (fun K hK => ?_) (AllReadyH.cons (o := lt7) rfl (fun K hK => ?_) AllReadyH.nil)
 case' refine_2 =>
  have HG := Ja (Jb wn #[.string ⟨#[]⟩, int i64 0, int i64 0] 86 rfl)
  have HGL := Ja hBc.size
  replace hBc := hBc.alloc hBc.size (.cells #[.string ⟨#[]⟩, int i64 0, int i64 0] 86)
  replace hs := Ja (HS.out _ hBc)
  go_simp
  refine hK.out _ _ hs.out (fun hx => ?_)
  clear hx hK K
  try simp only [s1, s2, s3]
  generalize wn.alloc (.cells #[.string ⟨#[]⟩, int i64 0, int i64 0] 86) = wq at *
  generalize wn.heap.size = gq at *
  refine rd 2 lt2 (fun K hK => ?_)
  go_simp
  refine (HCO.out _).mono ?_
  rintro e wn ⟨rfl, hbn⟩
  replace HG := Ja (HG.out.next hbn)
  replace hBc := nx hBc hbn
  clear hbn
  try go_wp2_with fail
  replace hs := Ja (HS.out _ hBc)
  refine hK.out _ _ hs.out (fun hx => ?_)
  clear hx hK K
  try simp only [s1, s2, s3]
  refine tQ 6 lt6 ?_
 case' refine_1 =>
  go_simp
  refine (HCO.out _).mono ?_
  rintro e wn ⟨rfl, hbn⟩
  replace hBc := nx hBc hbn
  clear hbn
  try go_wp2_with fail
  replace hs := Ja (HS.out _ hBc)
  refine hK.out _ _ hs.out (fun hx => ?_)
  clear hx hK K
  try simp only [s1, s2, s3]
  refine tQ 6 lt6 ?_
  refine rd 7 lt7 (fun K hK => ?_)
  have HG := Ja (Jb wn #[.string ⟨#[]⟩, int i64 0, int i64 0] 86 rfl)
  have HGL := Ja hBc.size
  replace hBc := hBc.alloc hBc.size (.cells #[.string ⟨#[]⟩, int i64 0, int i64 0] 86)
  replace hs := Ja (HS.out _ hBc)
  go_simp
  refine hK.out _ _ hs.out (fun hx => ?_)
  clear hx hK K
  try simp only [s1, s2, s3]
  generalize wn.alloc (.cells #[.string ⟨#[]⟩, int i64 0, int i64 0] 86) = wq at *
  generalize wn.heap.size = gq at *
 all_goals
  rename World => wz
  refine rd 8 lt8 (fun K hK => ?_)
  have z0 := HG.out.cell 0 rfl
  have z1 := HG.out.cell 1 rfl
  have z2 := HG.out.cell 2 rfl
  have fz0 := HG.out.free 0
  have fz1 := HG.out.free 1
  have fz2 := HG.out.free 2
  have HBN : Hid (Below W.heap.size W (((wz.setCell ⟨gq, 0, none⟩ (.string A.o)).setCell ⟨gq, 1, none⟩ (int i64 A.r)).setCell ⟨gq, 2, none⟩ (int i64 0))) := (((hBc.setCell (p := ⟨gq, 0, none⟩) HGL.out _).setCell (p := ⟨gq, 1, none⟩) HGL.out _).setCell (p := ⟨gq, 2, none⟩) HGL.out _)
  have HGN : Hid (Row (((wz.setCell ⟨gq, 0, none⟩ (.string A.o)).setCell ⟨gq, 1, none⟩ (int i64 A.r)).setCell ⟨gq, 2, none⟩ (int i64 0)) gq #[.string A.o, int i64 A.r, int i64 0] 86) := by show Row _ _ _ _; exact (((HG.out.setL 0 (.string A.o)).setL 1 (int i64 A.r)).setL 2 (int i64 0))
  replace hs := Ja (HS.out _ HBN.out)
  go_simp
  refine hK.out _ _ hs.out (fun hx => ?_)
  clear hx hK K
  try simp only [s1, s2, s3]
  refine wpd ?_
  replace HG := HGN
  replace hBc := HBN.out
  clear HGN HBN z0 z1 z2 fz0 fz1 fz2 hs
  generalize (((wz.setCell ⟨gq, 0, none⟩ (.string A.o)).setCell ⟨gq, 1, none⟩ (int i64 A.r)).setCell ⟨gq, 2, none⟩ (int i64 0)) = wy at *
  have HGW : Hid (∀ wx, Below wy.heap.size wy wx → Row wx gq #[.string A.o, int i64 A.r, int i64 0] 86) := fun wx h => HG.out.next h
  obtain ⟨e0, e1, e2, e3⟩ := Row.four (HR1.out wy hBc)
  have z0 := HG.out.cell 0 rfl
  have z1 := HG.out.cell 1 rfl
  have z2 := HG.out.cell 2 rfl
  have HBC := Ja hBc
  clear hBc
  have HS2 : Hid (∀ wx, Below wy.heap.size wy wx → wx.cell? ⟨w.heap.size, 1, none⟩ = some (.slice a1 S.T.length c1) ∧ wx.cell? ⟨gq, 0, none⟩ = some (.string A.o) ∧ wx.cell? ⟨gq, 1, none⟩ = some (int i64 A.r) ∧ wx.cell? ⟨gq, 2, none⟩ = some (int i64 0)) := fun wx h => ⟨(HR1.out wx (HBC.out.trans (h.mono HBC.out.size))).cell 1 rfl, (HGW.out wx h).cell 0 rfl, (HGW.out wx h).cell 1 rfl, (HGW.out wx h).cell 2 rfl⟩
  have hBc : Below wy.heap.size wy wy := Below.refl _ _
  go_wp2
  replace hBc := hBc.drew
  have hs := Ja (HS2.out _ hBc)
  refine wph HS2 hBc 11 ?_
  refine tQ 0 lu0 ?_; refine tQ 1 lu1 ?_; refine tQ 2 lu2 ?_; refine tQ 3 lu3 ?_
  refine rd 4 lu4 (fun K hK => ?_)
  go_simp
  refine (HRK.out _).mono ?_
  rintro e wn ⟨rfl, hbn⟩
  replace hBc := nx hBc hbn
  clear hbn
  try go_wp2_with fail
  replace hs := Ja (HS2.out _ hBc)
  refine hK.out _ _ hs.out (fun hx => ?_)
  clear hx hK K
  try simp only [s1, s2, s3]
  refine rd 5 lu5 (fun K hK => ?_)
  go_simp
  refine (HPL.out _ (HBC.out.trans (hBc.mono HBC.out.size))).mono ?_
  rintro e wn ⟨⟨k, b, rfl, hq⟩, hbn⟩
  have hkl := hq.1
  have HQ := Ja (HPT.out k b hq)
  clear hq
  replace hBc := nx hBc hbn
  clear hbn
  try go_wp2_with fail
  replace hs := Ja (HS2.out _ hBc)
  refine hK.out _ _ hs.out (fun hx => ?_)
  clear hx hK K
  try simp only [s1, s2, s3]
  refine tQ 6 lu6 ?_; refine tQ 7 lu7 ?_; refine tQ 8 lu8 ?_; refine tQ 9 lu9 ?_; refine tQ 10 Jjc ?_
  refine wpd ?_
  have HG5 := Ja hBc
  have HB5 := Ja (HBC.out.trans (hBc.mono HBC.out.size))
  clear hs hBc HS2 HRK HPL HPT z0 z1 z2 e0 e1 e2 e3
  rename World => w5
  obtain ⟨e0, e1, e2, e3⟩ := Row.four (HR1.out w5 HB5.out)
  go_wp2_with fail
  refine (HCL.out w5 HB5.out).mono ?_
  rintro e w6 ⟨q, rfl, hoq, hb6⟩
  obtain ⟨aq, cq, rfl⟩ := JN hoq
  have HB6 := Ja (HB5.out.trans (hb6.mono HB5.out.size))
  have HG6 := Ja (HG5.out.trans (hb6.mono HG5.out.size))
  have HOQ := Ja hoq
  have HOQ6 := Ja hb6.size
  have HQB : Hid (∀ j, (Value.slice aq S.T.length cq).ownBlock = some j → w5.heap.size ≤ j ∧ j < w6.heap.size) := fun j hj => hoq.lt j hj
  have hr1 := HR1.out w6 HB6.out
  obtain ⟨e0, e1, e2, e3⟩ := Row.four hr1
  have fe1 := hr1.free 1
  obtain ⟨V, hV⟩ : ∃ V, V = w6.setCell ⟨w.heap.size, 1, none⟩ (.slice aq S.T.length cq) := ⟨_, rfl⟩
  have HPV : Hid (Row V w.heap.size #[.slice a0 n0 c0, .slice aq S.T.length cq, .slice a2 n2 c2, .slice a3 n3 c3] 29) := by show Row _ _ _ _; rw [hV]; exact hr1.setL (l := [_, _, _, _]) 1 _
  have HVV : Hid (w6.setCell ⟨w.heap.size, 1, none⟩ (.slice aq S.T.length cq) = V) := hV.symm
  have HAV : Hid (Row V (w.heap.size + 1) #[int i64 A.r, int i64 A.s, int i64 A.t, .slice aa A.l.length ca, int i64 A.k, .string A.o, .string A.y, int i64 A.v, int i64 A.x, int i64 A.z] 44) := by show Row _ _ _ _; rw [hV]; exact Ju (HR2.out w6 HB6.out) (by omega)
  have HZV : Hid (Row V (w.heap.size + 1 + 1) #[.slice none 0 0, .slice none 0 0, .slice none 0 0, .slice none 0 0] 29) := by show Row _ _ _ _; rw [hV]; exact Ju (HR3.out w6 HB6.out) (by omega)
  have hws : w.heap.size + 1 + 1 < w5.heap.size := by have h1 := HWS.out; have h2 := HB5.out.size; omega
  have HOV : Hid (V.ownsRow w5.heap.size 86 3 (.slice aq S.T.length cq) S.T.length (taV S.T)) := by show World.ownsRow _ _ _ _ _ _ _; rw [hV]; exact JB HOQ.out (by omega)
  have HBV : Hid (Below w.heap.size w V) := by show Below _ _ _; rw [hV]; exact (HB0.out.trans (HB6.out.mono HB0.out.size)).setCell (p := ⟨w.heap.size, 1, none⟩) (Nat.le_refl _) _
  have HGV : Hid (Row V gq #[.string A.o, int i64 A.r, int i64 0] 86) := by show Row _ _ _ _; rw [hV]; exact Ju (HGW.out w6 HG6.out) (by have h1 := HGL.out; have h2 := HWS.out; omega)
  have HVE : Hid (V.heap.size = w6.heap.size) := by show _ = _; rw [hV]; simp [World.setCell]
  have HVS : Hid (w5.heap.size ≤ V.heap.size) := by show _ ≤ _; rw [hV]; simp only [World.setCell, Array.size_modify]; exact HOQ6.out
  clear hoq hb6 hV HR1 HR2 HR3 HS HCL HGW HG5 HG6 HB5 HB6 HOQ HG HCO HBC
  cases b with
  | true =>
   obtain ⟨hk, hLT⟩ := HQ.out.1 rfl
   have hn := HTN.out _ (List.getElem_mem hk)
   have HLT := Ja hLT
   clear HQ hLT HTN
   go_wp2
   rw [HVV.out]
   clear HVV e0 e1 e2 e3 fe1 hr1
   have HLM : Hid (S.T.length = S.T.length) := rfl
   have HSE := Ja (YW S.T k hk ((S.T[k].n + A.v) % 1000000))
   obtain ⟨g, rfl⟩ : ∃ g, aq = some ⟨g, 0, none⟩ := by
    rcases HOV.out.2 with ⟨-, e⟩ | ⟨g, cap, cur, e, -⟩
    ·omega
    ·injection e with e1; exact ⟨g, e1⟩
   obtain ⟨t0, t1, t2, t3⟩ := Jag HOV.out hk HLM.out
   have hgp : w.heap.size + 1 + 1 < g := by omega
   have hgn : ¬ (g = w.heap.size) := by omega
   have hgn' : ¬ (w.heap.size = g) := by omega
   have hgm : ¬ (g = w.heap.size + 1) := by omega
   have hgm' : ¬ (w.heap.size + 1 = g) := by omega
   have hgr : ¬ (g = w.heap.size + 1 + 1) := by omega
   have hgr' : ¬ (w.heap.size + 1 + 1 = g) := by omega
   have hk0 : (0 : Int) ≤ k := by omega
   have hk1 : (k : Int) < S.T.length := by have := HLM.out; omega
   have HRF : Hid (Row (((((V.setCell ⟨g, k * 3 + 2, none⟩ (int i64 ((S.T[k].n + A.v) % 1000000))).setCell ⟨w.heap.size + 1 + 1, 0, none⟩ (.slice a0 n0 c0)).setCell ⟨w.heap.size + 1 + 1, 1, none⟩ (.slice (some ⟨g, 0, none⟩) S.T.length cq)).setCell ⟨w.heap.size + 1 + 1, 2, none⟩ (.slice a2 n2 c2)).setCell ⟨w.heap.size + 1 + 1, 3, none⟩ (.slice a3 n3 c3)).drew (w.heap.size + 1 + 1) #[.slice a0 n0 c0, .slice (some ⟨g, 0, none⟩) S.T.length cq, .slice a2 n2 c2, .slice a3 n3 c3] 29) := Jai (ZK (Ju (w := V) HZV.out hgr'))
   have HOF : Hid ((((((V.setCell ⟨g, k * 3 + 2, none⟩ (int i64 ((S.T[k].n + A.v) % 1000000))).setCell ⟨w.heap.size + 1 + 1, 0, none⟩ (.slice a0 n0 c0)).setCell ⟨w.heap.size + 1 + 1, 1, none⟩ (.slice (some ⟨g, 0, none⟩) S.T.length cq)).setCell ⟨w.heap.size + 1 + 1, 2, none⟩ (.slice a2 n2 c2)).setCell ⟨w.heap.size + 1 + 1, 3, none⟩ (.slice a3 n3 c3)).drew.ownsRow w5.heap.size 86 3 (.slice (some ⟨g, 0, none⟩) S.T.length cq) S.T.length (taV LT)) := by
    show World.ownsRow _ _ _ _ _ _ _
    rw [HLT.out, ← HSE.out]
    exact World.ownsRow.drew (Vx (KL (w := V) HOV.out (by rw [show (taV S.T).length = S.T.length * 3 from HOV.out.1]; have := HLM.out; omega)) hws)
   have HBF : Hid (Below w.heap.size w (((((V.setCell ⟨g, k * 3 + 2, none⟩ (int i64 ((S.T[k].n + A.v) % 1000000))).setCell ⟨w.heap.size + 1 + 1, 0, none⟩ (.slice a0 n0 c0)).setCell ⟨w.heap.size + 1 + 1, 1, none⟩ (.slice (some ⟨g, 0, none⟩) S.T.length cq)).setCell ⟨w.heap.size + 1 + 1, 2, none⟩ (.slice a2 n2 c2)).setCell ⟨w.heap.size + 1 + 1, 3, none⟩ (.slice a3 n3 c3)).drew) := (JS ((HBV.out).setCell (p := ⟨g, k * 3 + 2, none⟩) (show w.heap.size ≤ g by omega) _) (show w.heap.size ≤ w.heap.size + 1 + 1 by omega)).drew
   generalize S.T[k].n = yn at *
   have hwr1 : IntKind.i64.wrap (yn + A.v) = yn + A.v := by rw [IntKind.wrap_i64] <;> omega
   have hmod : (yn + A.v).tmod 1000000 = (yn + A.v) % 1000000 := Int.tmod_eq_emod_of_nonneg (by omega)
   obtain ⟨e0, e1, e2, e3⟩ := Row.four HPV.out
   obtain ⟨m0, m1, m2, m3, m4, m5, m6, m7, m8, m9⟩ := Row.ten HAV.out
   obtain ⟨r0, r1, r2, r3⟩ := Row.four HZV.out
   have fr0 := HZV.out.free 0
   have fr1 := HZV.out.free 1
   have fr2 := HZV.out.free 2
   have fr3 := HZV.out.free 3
   go_region
   go_wp2
   refine bodyPost_ret (ZQ rfl rfl rfl HRF.out) rfl ⟨_, rfl, ?_, HBF.out⟩
   rw [HLT.out, List.length_set]
   rw [HLT.out] at HOF
   exact Jk HOF.out (by omega)
  | false =>
   obtain ⟨M, hM⟩ : ∃ M, M = S.T.take k ++ (⟨A.o, A.r, 0⟩ : Ta) :: S.T.drop k := ⟨_, rfl⟩
   have hk : k < M.length := by rw [hM, Ur _ _ _ hkl]; omega
   have hMk : M[k] = (⟨A.o, A.r, 0⟩ : Ta) := by subst hM; exact Jd7 S.T k _ hkl
   have hn : 0 ≤ M[k].n ∧ M[k].n ≤ 999999 := by rw [hMk]; exact ⟨Int.le_refl _, by simp⟩
   have HLT : Hid (LT = M.set k { M[k] with n := (M[k].n + A.v) % 1000000 }) := by
    show _ = _
    rw [HQ.out.2 rfl, hMk]
    subst hM
    rw [Jd9 S.T k _ _ hkl]
    simp only [Int.zero_add]
    rw [Int.emod_eq_of_lt hv.1 (by omega)]
   have HIN : Hid (Calls Tryz.prog 142 #[.slice aq S.T.length cq, int i64 k, .slice (some ⟨w6.heap.size, 0, none⟩) 1 1] (V.alloc (.cells #[.string A.o, int i64 A.r, int i64 0] 86)) fun e w' => ∃ u, e = .returned u ∧ w'.ownsRow w5.heap.size 86 3 u M.length (taV M) ∧ Below w5.heap.size V w') := by
    rw [← HVE.out]
    refine (Vj S.T _ k ⟨A.o, A.r, 0⟩ V.heap.size _ w5.heap.size hkl (by omega) (HOV.out.alloc _) (Jb V _ _ rfl) (fun b hb e => by have := (HOV.out.lt b hb).2; omega) (by have := HVS.out; simp; omega)).mono ?_
    rintro e w' ⟨u, rfl, h1, h2⟩
    rw [← hM] at h1
    exact ⟨u, rfl, h1, ((Below.refl w5.heap.size V).alloc HVS.out _).grown h2 (by have := HVS.out; simp; omega) (fun j hj => (HOV.out.lt j hj).1)⟩
   clear hM hMk HQ HTN
   have y0 := HGV.out.cell 0 rfl
   have y1 := HGV.out.cell 1 rfl
   have y2 := HGV.out.cell 2 rfl
   obtain ⟨j0, j1, j2, j3⟩ := Row.four HPV.out
   rw [← HVV.out] at y0 y1 y2 j0 j1 j2 j3
   clear e0 e1 e2 e3
   obtain ⟨e0, e1, e2, e3⟩ := Row.four hr1
   clear hr1
   go_wp2_with fail
   rw [HVV.out]
   refine HIN.out.mono ?_
   rintro e w8 ⟨u, rfl, hou, hb8⟩
   obtain ⟨au, cu, rfl⟩ := JN hou
   clear HVV y0 y1 y2 j0 j1 j2 j3 e0 e1 e2 e3 fe1 HIN HGV
   have hp8 := HPV.out.below hb8 (by omega)
   have ha8 := HAV.out.below hb8 (by omega)
   have hz8 := HZV.out.below hb8 (by omega)
   obtain ⟨e0, e1, e2, e3⟩ := Row.four hp8
   have fe1 := hp8.free 1
   obtain ⟨U, hU⟩ : ∃ U, U = w8.setCell ⟨w.heap.size, 1, none⟩ (.slice au M.length cu) := ⟨_, rfl⟩
   have HUU : Hid (w8.setCell ⟨w.heap.size, 1, none⟩ (.slice au M.length cu) = U) := hU.symm
   replace HPV : Hid (Row U w.heap.size #[.slice a0 n0 c0, .slice au M.length cu, .slice a2 n2 c2, .slice a3 n3 c3] 29) := by show Row _ _ _ _; rw [hU]; exact hp8.setL (l := [_, _, _, _]) 1 _
   replace HAV : Hid (Row U (w.heap.size + 1) #[int i64 A.r, int i64 A.s, int i64 A.t, .slice aa A.l.length ca, int i64 A.k, .string A.o, .string A.y, int i64 A.v, int i64 A.x, int i64 A.z] 44) := by show Row _ _ _ _; rw [hU]; exact Ju ha8 (by omega)
   replace HZV : Hid (Row U (w.heap.size + 1 + 1) #[.slice none 0 0, .slice none 0 0, .slice none 0 0, .slice none 0 0] 29) := by show Row _ _ _ _; rw [hU]; exact Ju hz8 (by omega)
   replace HOV : Hid (U.ownsRow w5.heap.size 86 3 (.slice au M.length cu) M.length (taV M)) := by show World.ownsRow _ _ _ _ _ _ _; rw [hU]; exact JB hou (by omega)
   replace HBV : Hid (Below w.heap.size w U) := by show Below _ _ _; rw [hU]; exact (HBV.out.trans (hb8.mono (by omega))).setCell (p := ⟨w.heap.size, 1, none⟩) (Nat.le_refl _) _
   clear hp8 ha8 hz8 hou hb8 hU
   go_wp2
   rw [HUU.out]
   clear HUU e0 e1 e2 e3 fe1
   have HLM : Hid (M.length = M.length) := rfl
   have HSE := Ja (YW M k hk ((M[k].n + A.v) % 1000000))
   obtain ⟨g, rfl⟩ : ∃ g, au = some ⟨g, 0, none⟩ := by
    rcases HOV.out.2 with ⟨-, e⟩ | ⟨g, cap, cur, e, -⟩
    ·omega
    ·injection e with e1; exact ⟨g, e1⟩
   obtain ⟨t0, t1, t2, t3⟩ := Jag HOV.out hk HLM.out
   have hgp : w.heap.size + 1 + 1 < g := by omega
   have hgn : ¬ (g = w.heap.size) := by omega
   have hgn' : ¬ (w.heap.size = g) := by omega
   have hgm : ¬ (g = w.heap.size + 1) := by omega
   have hgm' : ¬ (w.heap.size + 1 = g) := by omega
   have hgr : ¬ (g = w.heap.size + 1 + 1) := by omega
   have hgr' : ¬ (w.heap.size + 1 + 1 = g) := by omega
   have hk0 : (0 : Int) ≤ k := by omega
   have hk1 : (k : Int) < M.length := by have := HLM.out; omega
   have HRF : Hid (Row (((((U.setCell ⟨g, k * 3 + 2, none⟩ (int i64 ((M[k].n + A.v) % 1000000))).setCell ⟨w.heap.size + 1 + 1, 0, none⟩ (.slice a0 n0 c0)).setCell ⟨w.heap.size + 1 + 1, 1, none⟩ (.slice (some ⟨g, 0, none⟩) M.length cu)).setCell ⟨w.heap.size + 1 + 1, 2, none⟩ (.slice a2 n2 c2)).setCell ⟨w.heap.size + 1 + 1, 3, none⟩ (.slice a3 n3 c3)).drew (w.heap.size + 1 + 1) #[.slice a0 n0 c0, .slice (some ⟨g, 0, none⟩) M.length cu, .slice a2 n2 c2, .slice a3 n3 c3] 29) := Jai (ZK (Ju (w := U) HZV.out hgr'))
   have HOF : Hid ((((((U.setCell ⟨g, k * 3 + 2, none⟩ (int i64 ((M[k].n + A.v) % 1000000))).setCell ⟨w.heap.size + 1 + 1, 0, none⟩ (.slice a0 n0 c0)).setCell ⟨w.heap.size + 1 + 1, 1, none⟩ (.slice (some ⟨g, 0, none⟩) M.length cu)).setCell ⟨w.heap.size + 1 + 1, 2, none⟩ (.slice a2 n2 c2)).setCell ⟨w.heap.size + 1 + 1, 3, none⟩ (.slice a3 n3 c3)).drew.ownsRow w5.heap.size 86 3 (.slice (some ⟨g, 0, none⟩) M.length cu) M.length (taV LT)) := by
    show World.ownsRow _ _ _ _ _ _ _
    rw [HLT.out, ← HSE.out]
    exact World.ownsRow.drew (Vx (KL (w := U) HOV.out (by rw [show (taV M).length = M.length * 3 from HOV.out.1]; have := HLM.out; omega)) hws)
   have HBF : Hid (Below w.heap.size w (((((U.setCell ⟨g, k * 3 + 2, none⟩ (int i64 ((M[k].n + A.v) % 1000000))).setCell ⟨w.heap.size + 1 + 1, 0, none⟩ (.slice a0 n0 c0)).setCell ⟨w.heap.size + 1 + 1, 1, none⟩ (.slice (some ⟨g, 0, none⟩) M.length cu)).setCell ⟨w.heap.size + 1 + 1, 2, none⟩ (.slice a2 n2 c2)).setCell ⟨w.heap.size + 1 + 1, 3, none⟩ (.slice a3 n3 c3)).drew) := (JS ((HBV.out).setCell (p := ⟨g, k * 3 + 2, none⟩) (show w.heap.size ≤ g by omega) _) (show w.heap.size ≤ w.heap.size + 1 + 1 by omega)).drew
   generalize M[k].n = yn at *
   have hwr1 : IntKind.i64.wrap (yn + A.v) = yn + A.v := by rw [IntKind.wrap_i64] <;> omega
   have hmod : (yn + A.v).tmod 1000000 = (yn + A.v) % 1000000 := Int.tmod_eq_emod_of_nonneg (by omega)
   obtain ⟨e0, e1, e2, e3⟩ := Row.four HPV.out
   obtain ⟨m0, m1, m2, m3, m4, m5, m6, m7, m8, m9⟩ := Row.ten HAV.out
   obtain ⟨r0, r1, r2, r3⟩ := Row.four HZV.out
   have fr0 := HZV.out.free 0
   have fr1 := HZV.out.free 1
   have fr2 := HZV.out.free 2
   have fr3 := HZV.out.free 3
   go_region
   go_wp2
   refine bodyPost_ret (ZQ rfl rfl rfl HRF.out) rfl ⟨_, rfl, ?_, HBF.out⟩
   rw [HLT.out, List.length_set]
   rw [HLT.out] at HOF
   exact Jk HOF.out (by omega)
theorem OwnS.offN {w : World} {B : Nat} {S : Sta} {v0 v1 v2 v3 : Value} (h : OwnS w B S v0 v1 v2 v3) : ZX w.heap.size v0 v1 v2 v3 :=
 ⟨fun k hk e => by have := (World.ownsRow.lt h.1.1 k hk).2; omega, fun k hk e => by have := (World.ownsRow.lt h.1.2.1 k hk).2; omega, fun k hk e => by have := (World.ownsRow.lt h.1.2.2.1 k hk).2; omega, fun k hk e => by have := (World.ownsRow.lt h.1.2.2.2 k hk).2; omega⟩
theorem OwnS.newT {w w' : World} {B : Nat} {S : Sta} {v0 v1 v2 v3 v : Value} {T : List Ta} (h : OwnS w B S v0 v1 v2 v3) (hb : Below w.heap.size w w') (hB : B ≤ w.heap.size) (ho : w'.ownsRow w.heap.size 86 3 v T.length (taV T)) : OwnS w' B ⟨S.l, T, S.L, S.C⟩ v0 v v2 v3 :=
 Own4.swap2 (q := ⟨v, 86, 3, T.length, taV T⟩) (p := w.heap.size) h h.offN (fun k hk _ _ => hb.block k hk) (Jk ho hB) (fun k hk => .inr (ho.lt k hk).1)
theorem OwnS.newL {w w' : World} {B : Nat} {S : Sta} {v0 v1 v2 v3 v : Value} {L : List Li} (h : OwnS w B S v0 v1 v2 v3) (hb : Below w.heap.size w w') (hB : B ≤ w.heap.size) (ho : w'.ownsRow w.heap.size 88 6 v L.length (liV L)) : OwnS w' B ⟨S.l, S.T, L, S.C⟩ v0 v1 v v3 :=
 Own4.swap3 (q := ⟨v, 88, 6, L.length, liV L⟩) (p := w.heap.size) h h.offN (fun k hk _ _ => hb.block k hk) (Jk ho hB) (fun k hk => .inr (ho.lt k hk).1)
theorem OwnS.newC {w w' : World} {B : Nat} {S : Sta} {v0 v1 v2 v3 v : Value} {C : List Ce} (h : OwnS w B S v0 v1 v2 v3) (hb : Below w.heap.size w w') (hB : B ≤ w.heap.size) (ho : w'.ownsRow w.heap.size 90 8 v C.length (ceV C)) : OwnS w' B ⟨S.l, S.T, S.L, C⟩ v0 v1 v2 v :=
 Own4.swap4 (q := ⟨v, 90, 8, C.length, ceV C⟩) (p := w.heap.size) h h.offN (fun k hk _ _ => hb.block k hk) (Jk ho hB) (fun k hk => .inr (ho.lt k hk).1)
theorem OwnS.newK {w w' : World} {B : Nat} {S : Sta} {v0 v1 v2 v3 v : Value} {l : List Int} (h : OwnS w B S v0 v1 v2 v3) (hb : Below w.heap.size w w') (hB : B ≤ w.heap.size) (ho : w'.ownsRow w.heap.size 3 1 v l.length (Je l)) : OwnS w' B ⟨l, S.T, S.L, S.C⟩ v v1 v2 v3 :=
 Own4.swap1 (q := ⟨v, 3, 1, l.length, Je l⟩) (p := w.heap.size) h h.offN (fun k hk _ _ => hb.block k hk) (Jk ho hB) (fun k hk => .inr (ho.lt k hk).1)
def Jl (S : Sta) (A : Ac) : Sta := ⟨S.l, (doS S A).T, (doS S A).L, (doS S A).C⟩
def JbD (k : Int) (f : Nat) : Prop := (k = 1 ∧ f = 122) ∨ (k = 2 ∧ f = 123) ∨ (k = 3 ∧ f = 124) ∨ (k = 4 ∧ f = 125) ∨ (k = 5 ∧ f = 126) ∨ (k = 6 ∧ f = 127) ∨ (k = 7 ∧ f = 128)
theorem Jd0 {A : Ac} (hA : AOk A) : ∃ f, JbD A.k f := by
 have h := hA.2.2.2.2.1.1
 have hc : A.k = 1 ∨ A.k = 2 ∨ A.k = 3 ∨ A.k = 4 ∨ A.k = 5 ∨ A.k = 6 ∨ A.k = 7 := by omega
 unfold JbD
 rcases hc with e | e | e | e | e | e | e
 ·exact ⟨_, .inl ⟨e, rfl⟩⟩
 ·exact ⟨_, .inr (.inl ⟨e, rfl⟩)⟩
 ·exact ⟨_, .inr (.inr (.inl ⟨e, rfl⟩))⟩
 ·exact ⟨_, .inr (.inr (.inr (.inl ⟨e, rfl⟩)))⟩
 ·exact ⟨_, .inr (.inr (.inr (.inr (.inl ⟨e, rfl⟩))))⟩
 ·exact ⟨_, .inr (.inr (.inr (.inr (.inr (.inl ⟨e, rfl⟩)))))⟩
 ·exact ⟨_, .inr (.inr (.inr (.inr (.inr (.inr ⟨e, rfl⟩)))))⟩
theorem Ja7 (S : Sta) (a0 a1 a2 a3 : Option Addr) (c0 c1 c2 c3 : Nat) (A : Ac) (aa : Option Addr) (ca f : Nat) (w : World) (B : Nat) (hS : SOk S) (hA : AOk A) (hk : ¬ Jf S.l A.r A.s = true) (hr : Jt S A) (hf : JbD A.k f) (hO : OwnS w B S (.slice a0 S.l.length c0) (.slice a1 S.T.length c1) (.slice a2 S.L.length c2) (.slice a3 S.C.length c3)) (hB : B ≤ w.heap.size) (hu : IntsAt w (.slice aa A.l.length ca) A.l) (hal : A.l.length ≤ 1048576 ∧ A.o.size ≤ 1048576 ∧ A.y.size ≤ 1048576) :
  Calls Tryz.prog f #[.agg #[.slice a0 S.l.length c0, .slice a1 S.T.length c1, .slice a2 S.L.length c2, .slice a3 S.C.length c3], .agg #[int i64 A.r, int i64 A.s, int i64 A.t, .slice aa A.l.length ca, int i64 A.k, .string A.o, .string A.y, int i64 A.v, int i64 A.x, int i64 A.z]] w fun e w' => ∃ v1 v2 v3, e = .returned (.agg #[.slice a0 S.l.length c0, v1, v2, v3]) ∧ OwnS w' B (Jl S A) (.slice a0 S.l.length c0) v1 v2 v3 ∧ Below w.heap.size w w' := by
 obtain ⟨-, hT, hL, hC⟩ := hO.at
 have hp := hA.2.2.2.2.1
 unfold Jl doS
 rcases hf with ⟨e, rfl⟩ | ⟨e, rfl⟩ | ⟨e, rfl⟩ | ⟨e, rfl⟩ | ⟨e, rfl⟩ | ⟨e, rfl⟩ | ⟨e, rfl⟩
 ·have hv := Z0 hp (.inl e)
  refine (Vn S a0 a1 a2 a3 _ _ _ c0 c1 c2 c3 A aa ca w hS hv hT hal).mono ?_
  rintro e' w' ⟨q, rfl, hq, hb⟩
  rw [if_pos e]
  exact ⟨_, _, _, rfl, hO.newT hb hB hq, hb⟩
 ·have hv : A.v = 0 := by
   have h2 := hp.2.2.2
   unfold Zk at h2
   rw [if_neg (by omega)] at h2; exact h2
  refine (JaF S a0 a1 a2 a3 _ _ _ c0 c1 c2 c3 A aa ca w hS hk hL hu hal).mono ?_
  rintro e' w' ⟨q, rfl, hq, hb⟩
  rw [if_neg (by omega), if_pos e]
  rw [hv] at hq
  exact ⟨_, _, _, rfl, hO.newL hb hB hq, hb⟩
 ·refine (Vs S a0 a1 a2 a3 _ _ _ c0 c1 c2 c3 A aa ca w hS hk hL hu hal).mono ?_
  rintro e' w' ⟨q, rfl, hq, hb⟩
  rw [if_neg (by omega), if_neg (by omega), if_pos e]
  exact ⟨_, _, _, rfl, hO.newL hb hB hq, hb⟩
 ·refine (JbX S a0 a1 a2 a3 _ _ _ c0 c1 c2 c3 A aa ca w hS hk hL hu hal).mono ?_
  rintro e' w' ⟨q, rfl, hq, hb⟩
  rw [if_neg (by omega), if_neg (by omega), if_neg (by omega), if_pos e]
  exact ⟨_, _, _, rfl, hO.newL hb hB hq, hb⟩
 ·refine (Vi S a0 a1 a2 a3 _ _ _ c0 c1 c2 c3 A aa ca w hS hk hL hu hal).mono ?_
  rintro e' w' ⟨q, rfl, hq, hb⟩
  rw [if_neg (by omega), if_neg (by omega), if_neg (by omega), if_neg (by omega), if_pos e]
  exact ⟨_, _, _, rfl, hO.newL hb hB hq, hb⟩
 ·refine (UY S a0 a1 a2 a3 _ _ _ c0 c1 c2 c3 A aa ca w hS hk hC hal).mono ?_
  rintro e' w' ⟨q, rfl, hq, hb⟩
  rw [if_neg (by omega), if_neg (by omega), if_neg (by omega), if_neg (by omega), if_neg (by omega), if_pos e]
  exact ⟨_, _, _, rfl, hO.newC hb hB hq, hb⟩
 ·have hx : ∃ j, ∃ _ : j < S.C.length, cellAt S.C A.x A.z 0 = (j : Int) := by
   rcases hr with ⟨h1, -⟩ | ⟨j, hj, h1, -⟩
   ·exact absurd e h1
   ·exact ⟨j, hj, h1⟩
  refine (Jb6 S a0 a1 a2 a3 _ _ _ c0 c1 c2 c3 A aa ca w hS hx hC).mono ?_
  rintro e' w' ⟨q, rfl, hq, hb⟩
  rw [if_neg (by omega), if_neg (by omega), if_neg (by omega), if_neg (by omega), if_neg (by omega), if_neg (by omega)]
  exact ⟨_, _, _, rfl, hO.newC hb hB hq, hb⟩
set_option linter.unusedSimpArgs false
theorem VF (a0 a1 a2 a3 : Option Addr) (n0 n1 n2 n3 c0 c1 c2 c3 : Nat) (w : World) :
  Calls Tryz.prog 73 #[.agg #[.slice a0 n0 c0, .slice a1 n1 c1, .slice a2 n2 c2, .slice a3 n3 c3]] w fun e w' => e = .returned (.bool (decide (n1 ≤ 120 ∧ n2 ≤ 120 ∧ n3 ≤ 120))) ∧ Below w.heap.size w w' := by
 obtain ⟨W, hW⟩ : ∃ W, W = w.alloc (.cells #[.slice a0 n0 c0, .slice a1 n1 c1, .slice a2 n2 c2, .slice a3 n3 c3] 29) := ⟨_, rfl⟩
 have HBW : Hid (Below w.heap.size w W) := by rw [hW]; exact (Below.refl _ _).alloc (Nat.le_refl _) _
 have HWW : Hid (w.alloc (.cells #[.slice a0 n0 c0, .slice a1 n1 c1, .slice a2 n2 c2, .slice a3 n3 c3] 29) = W) := hW.symm
 clear hW
 by_cases h1 : n1 ≤ 120
 ·by_cases h2 : n2 ≤ 120
  ·by_cases h3 : n3 ≤ 120
   all_goals
    have HQ : Hid (∃ q, q = decide (n1 ≤ 120 ∧ n2 ≤ 120 ∧ n3 ≤ 120)) := ⟨_, rfl⟩
    have d1 : (n1 : Int) ≤ 120 := by omega
    have d2 : (n2 : Int) ≤ 120 := by omega
    first
     | have d3 : (n3 : Int) ≤ 120 := by omega
     | have d3 : ¬ ((n3 : Int) ≤ 120) := by omega
    go_enter Tryz.func73, Tryz.ntmps73
    go_wp2
    rw [HWW.out]
    go_ret
    exact ⟨by simp [h1, h2, h3], HBW.out⟩
  ·have d1 : (n1 : Int) ≤ 120 := by omega
   have d2 : ¬ ((n2 : Int) ≤ 120) := by omega
   go_enter Tryz.func73, Tryz.ntmps73
   go_wp2
   rw [HWW.out]
   go_ret
   exact ⟨by simp [h1, h2], HBW.out⟩
 ·have d1 : ¬ ((n1 : Int) ≤ 120) := by omega
  go_enter Tryz.func73, Tryz.ntmps73
  go_wp2
  rw [HWW.out]
  go_ret
  exact ⟨by simp [h1], HBW.out⟩
theorem st1 {w : World} {g i : Nat} {v old : Value} (h1 : v.oneCell' = true) (hc : w.cell? ⟨g, i, none⟩ = some old) (hf : w.frozen? ⟨g, i, none⟩ = false) : (store ⟨g, i, none⟩ v).run Tryz.prog w = .ok () (w.setCell ⟨g, i, none⟩ v) := by
 rw [run_store Tryz.prog w _ v _ h1, hc]
 simp [hf]
theorem st2 {w : World} {i : Nat} {cs cs' : Array Value} {T : TypeId} {v old : Value} (h1 : v.oneCell' = true) (hc : cs[i]? = some old) (hs : cs.setIfInBounds i v = cs') : (store ⟨w.heap.size, i, none⟩ v).run Tryz.prog (w.alloc (.cells cs T)) = .ok () (w.alloc (.cells cs' T)) := by
 rw [st1 h1 ((Jb w cs T rfl).cell i hc) ((Jb w cs T rfl).free i)]
 congr 1
 rw [World.setCell_alloc_at _ _ _ _ _ rfl, hs]
theorem YD (k : Int) (f : Nat) (w : World) (hk : (k = 1 ∧ f = 122) ∨ (k = 2 ∧ f = 123) ∨ (k = 3 ∧ f = 124) ∨ (k = 4 ∧ f = 125) ∨ (k = 5 ∧ f = 126) ∨ (k = 6 ∧ f = 127) ∨ (k = 7 ∧ f = 128)) :
  Calls Tryz.prog 72 #[int i64 k] w fun e w' => e = .returned (.func (.func f) #[] #[]) ∧ Below w.heap.size w w' := by
 have s0 : (store ⟨w.heap.size, 0, none⟩ (Value.nilFunc)).run Tryz.prog (w.alloc (.cells #[Value.nilFunc, Value.nilFunc, Value.nilFunc, Value.nilFunc, Value.nilFunc, Value.nilFunc, Value.nilFunc, Value.nilFunc] 152)) = .ok () (w.alloc (.cells #[Value.nilFunc, Value.nilFunc, Value.nilFunc, Value.nilFunc, Value.nilFunc, Value.nilFunc, Value.nilFunc, Value.nilFunc] 152)) := st2 rfl rfl rfl
 have s1' : (store ⟨w.heap.size, 1, none⟩ (Value.func (.func 122) #[] #[])).run Tryz.prog (w.alloc (.cells #[Value.nilFunc, Value.nilFunc, Value.nilFunc, Value.nilFunc, Value.nilFunc, Value.nilFunc, Value.nilFunc, Value.nilFunc] 152)) = .ok () (w.alloc (.cells #[Value.nilFunc, Value.func (.func 122) #[] #[], Value.nilFunc, Value.nilFunc, Value.nilFunc, Value.nilFunc, Value.nilFunc, Value.nilFunc] 152)) := st2 rfl rfl rfl
 have s2' : (store ⟨w.heap.size, 2, none⟩ (Value.func (.func 123) #[] #[])).run Tryz.prog (w.alloc (.cells #[Value.nilFunc, Value.func (.func 122) #[] #[], Value.nilFunc, Value.nilFunc, Value.nilFunc, Value.nilFunc, Value.nilFunc, Value.nilFunc] 152)) = .ok () (w.alloc (.cells #[Value.nilFunc, Value.func (.func 122) #[] #[], Value.func (.func 123) #[] #[], Value.nilFunc, Value.nilFunc, Value.nilFunc, Value.nilFunc, Value.nilFunc] 152)) := st2 rfl rfl rfl
 have s3' : (store ⟨w.heap.size, 3, none⟩ (Value.func (.func 124) #[] #[])).run Tryz.prog (w.alloc (.cells #[Value.nilFunc, Value.func (.func 122) #[] #[], Value.func (.func 123) #[] #[], Value.nilFunc, Value.nilFunc, Value.nilFunc, Value.nilFunc, Value.nilFunc] 152)) = .ok () (w.alloc (.cells #[Value.nilFunc, Value.func (.func 122) #[] #[], Value.func (.func 123) #[] #[], Value.func (.func 124) #[] #[], Value.nilFunc, Value.nilFunc, Value.nilFunc, Value.nilFunc] 152)) := st2 rfl rfl rfl
 have s4 : (store ⟨w.heap.size, 4, none⟩ (Value.func (.func 125) #[] #[])).run Tryz.prog (w.alloc (.cells #[Value.nilFunc, Value.func (.func 122) #[] #[], Value.func (.func 123) #[] #[], Value.func (.func 124) #[] #[], Value.nilFunc, Value.nilFunc, Value.nilFunc, Value.nilFunc] 152)) = .ok () (w.alloc (.cells #[Value.nilFunc, Value.func (.func 122) #[] #[], Value.func (.func 123) #[] #[], Value.func (.func 124) #[] #[], Value.func (.func 125) #[] #[], Value.nilFunc, Value.nilFunc, Value.nilFunc] 152)) := st2 rfl rfl rfl
 have s5 : (store ⟨w.heap.size, 5, none⟩ (Value.func (.func 126) #[] #[])).run Tryz.prog (w.alloc (.cells #[Value.nilFunc, Value.func (.func 122) #[] #[], Value.func (.func 123) #[] #[], Value.func (.func 124) #[] #[], Value.func (.func 125) #[] #[], Value.nilFunc, Value.nilFunc, Value.nilFunc] 152)) = .ok () (w.alloc (.cells #[Value.nilFunc, Value.func (.func 122) #[] #[], Value.func (.func 123) #[] #[], Value.func (.func 124) #[] #[], Value.func (.func 125) #[] #[], Value.func (.func 126) #[] #[], Value.nilFunc, Value.nilFunc] 152)) := st2 rfl rfl rfl
 have s6 : (store ⟨w.heap.size, 6, none⟩ (Value.func (.func 127) #[] #[])).run Tryz.prog (w.alloc (.cells #[Value.nilFunc, Value.func (.func 122) #[] #[], Value.func (.func 123) #[] #[], Value.func (.func 124) #[] #[], Value.func (.func 125) #[] #[], Value.func (.func 126) #[] #[], Value.nilFunc, Value.nilFunc] 152)) = .ok () (w.alloc (.cells #[Value.nilFunc, Value.func (.func 122) #[] #[], Value.func (.func 123) #[] #[], Value.func (.func 124) #[] #[], Value.func (.func 125) #[] #[], Value.func (.func 126) #[] #[], Value.func (.func 127) #[] #[], Value.nilFunc] 152)) := st2 rfl rfl rfl
 have s7 : (store ⟨w.heap.size, 7, none⟩ (Value.func (.func 128) #[] #[])).run Tryz.prog (w.alloc (.cells #[Value.nilFunc, Value.func (.func 122) #[] #[], Value.func (.func 123) #[] #[], Value.func (.func 124) #[] #[], Value.func (.func 125) #[] #[], Value.func (.func 126) #[] #[], Value.func (.func 127) #[] #[], Value.nilFunc] 152)) = .ok () (w.alloc (.cells #[Value.nilFunc, Value.func (.func 122) #[] #[], Value.func (.func 123) #[] #[], Value.func (.func 124) #[] #[], Value.func (.func 125) #[] #[], Value.func (.func 126) #[] #[], Value.func (.func 127) #[] #[], Value.func (.func 128) #[] #[]] 152)) := st2 rfl rfl rfl
 have hr : Row (w.alloc (.cells #[Value.nilFunc, Value.func (.func 122) #[] #[], Value.func (.func 123) #[] #[], Value.func (.func 124) #[] #[], Value.func (.func 125) #[] #[], Value.func (.func 126) #[] #[], Value.func (.func 127) #[] #[], Value.func (.func 128) #[] #[]] 152)) w.heap.size #[Value.nilFunc, Value.func (.func 122) #[] #[], Value.func (.func 123) #[] #[], Value.func (.func 124) #[] #[], Value.func (.func 125) #[] #[], Value.func (.func 126) #[] #[], Value.func (.func 127) #[] #[], Value.func (.func 128) #[] #[]] 152 := Jb w _ _ rfl
 have c1 := hr.cell 1 rfl
 have c2 := hr.cell 2 rfl
 have c3 := hr.cell 3 rfl
 have c4 := hr.cell 4 rfl
 have c5 := hr.cell 5 rfl
 have c6 := hr.cell 6 rfl
 have c7 := hr.cell 7 rfl
 have HB : Hid (Below w.heap.size w (w.alloc (.cells #[Value.nilFunc, Value.func (.func 122) #[] #[], Value.func (.func 123) #[] #[], Value.func (.func 124) #[] #[], Value.func (.func 125) #[] #[], Value.func (.func 126) #[] #[], Value.func (.func 127) #[] #[], Value.func (.func 128) #[] #[]] 152))) := (Below.refl _ _).alloc (Nat.le_refl _) _
 clear hr
 rcases hk with ⟨rfl, rfl⟩ | ⟨rfl, rfl⟩ | ⟨rfl, rfl⟩ | ⟨rfl, rfl⟩ | ⟨rfl, rfl⟩ | ⟨rfl, rfl⟩ | ⟨rfl, rfl⟩
 all_goals
  go_enter Tryz.func72, Tryz.ntmps72
  go_wp2
  go_ret
  exact ⟨rfl, HB.out⟩
end Go.Proofs.YtepfinenocpneaaGreat
