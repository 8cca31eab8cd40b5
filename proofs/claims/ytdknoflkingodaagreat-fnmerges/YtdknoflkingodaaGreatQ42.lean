/- Both lists, gone through in their order: the program's walk. -/
import Derived.Great.BuildSlice
import Derived.Test.YtdknoflkingodaaGreatQ37
set_option maxHeartbeats 16000000
namespace Go.Proofs.YtdknoflkingodaaGreat
open Value (int)
open IntKind (i64)
set_option maxRecDepth 100000
set_option linter.unusedVariables false
open Go.RowKit
attribute [-simp] Tryz.isAgg212 Tryz.sizeOf212 Tryz.isAgg217 Tryz.sizeOf217 Tryz.isAgg222 Tryz.sizeOf222
def ZC (x : Value) : Prop := ∀ a n c, x = .slice a n c → n ≤ c
theorem Jc {w : World} {B n g i : Nat} {e : TypeId} {s : Nat} {u x : Value} {xs : List Value} (h : w.ownsRow B e s u n xs) (hg : ∀ j, u.ownBlock = some j → j ≠ g) : (w.setCell ⟨g, i, none⟩ x).ownsRow B e s u n xs := by
 refine h.kept (row := some g) ⟨rfl, rfl, rfl, by simp [World.setCell], fun k hk hne => Below.heap_setCell w _ x k (fun e => hne (by rw [e]))⟩ ?_
 cases hv : u.ownBlock with
 | none => exact .inl rfl
 | some j => exact .inr (fun e => hg j hv (by injection e))
theorem V6 (w : World) (o : Obj) : (w.alloc o).heap[w.heap.size]? = some o := by unfold World.alloc; simp only [Array.getElem?_push_size]
def Ky : Value → Nat
 | .slice _ n _ => n
 | _ => 0
theorem JaY : (Tryz.prog.info? 212).map (fun i => (i.zero, i.size, i.bytes)) = some (some (.agg #[.string ⟨#[]⟩, int i64 0, int i64 0, .string ⟨#[]⟩, int i64 0, int i64 0, .bool false, .bool false]), 8, 72) := by kernel_rfl
theorem Jgv (w : World) (n : Nat) (hn : n ≤ 2000) : ∃ cells : Array Value, cells.size = n * 8 ∧ (Instr.makeSlice 246 (int i64 0) (int i64 (n : Int))).run Tryz.prog w = .ok (.slice (some ⟨w.heap.size, 0, none⟩) 0 n) (w.alloc (.cells cells 212)) := by
 obtain ⟨i0, hi, hz0, hz1, hz2⟩ := info_parts JaY
 have hr := run_make (P := Tryz.prog) w 246 212 i0 (.agg #[.string ⟨#[]⟩, int i64 0, int i64 0, .string ⟨#[]⟩, int i64 0, int i64 0, .bool false, .bool false]) Tryz.underlying246 hi hz0 .i64 .i64 0 n (by omega) (by omega) (by rw [hz2]; omega) (by omega)
 simp only [Int.toNat_natCast, hz1] at hr
 exact ⟨_, size_madeCells _ _, hr⟩
def Y6 (w : World) (x : Value) (A : List Ta) : Prop := (∀ wx, Below w.heap.size w wx → TaAt wx x A) ∧ ZC x
theorem KZ {w : World} {ax : Option Addr} {cx : Nat} {x : Ta} {A : List Ta} (h : Y6 w (.slice ax (A.length + 1) cx) (x :: A)) : ∃ g f, ax = some ⟨g, f, none⟩ ∧ (∀ wx, Below w.heap.size w wx → taC wx g f x) ∧ Y6 w (.slice (if cx = 1 then some ⟨g, f, none⟩ else some ⟨g, f + 3, none⟩) A.length (cx - 1)) A := by
 obtain ⟨h, hcap⟩ := h
 obtain ⟨aa, ca, e, hG⟩ := h w (Below.refl _ _)
 simp only [Value.slice.injEq] at e
 obtain ⟨g, f, e2, hg, hc⟩ := hG (by simp)
 have e3 : ax = some ⟨g, f, none⟩ := by rw [e.1]; exact e2
 have hcx := hcap _ _ _ rfl
 refine ⟨g, f, e3, fun wx hx => ?_, fun wx hx => ⟨_, _, rfl, fun h0 => ⟨g, f + 3, by rw [if_neg (by omega)], Nat.lt_of_lt_of_le hg hx.size, fun j hj => ?_⟩⟩, fun a n c e => ?_⟩
 ·have := (hc 0 (by simp)).below hx hg
  simpa using this
 ·have := (hc (j + 1) (by simp; omega)).below hx hg
  rw [show f + 3 + j * 3 = f + (j + 1) * 3 by omega]
  simpa using this
 ·simp only [Value.slice.injEq] at e; omega
theorem Gr (q : Bo Ta) : ∀ v ∈ ZW Ta.cs q, v.oneCell' = true := fun v hv => by
 unfold ZW Ta.cs at hv
 simp only [List.mem_append, List.mem_cons, List.not_mem_nil, or_false] at hv
 rcases hv with ((hv | hv) | hv) <;> rcases hv with rfl | rfl | rfl <;> rfl
theorem Z8 (D : List (Bo Ta)) (q : Bo Ta) : boV Ta.cs (D ++ [q]) = boV Ta.cs D ++ ZW Ta.cs q := by unfold boV; simp
theorem JaT (A B : List Ta) (u v : Value) (w : World) (hA : TaAt w u A) (hB : TaAt w v B) (hcu : ZC u) (hcv : ZC v) (hn : A.length ≤ 1000) (hm : B.length ≤ 1000) :
  Calls Tryz.prog 209 #[u, v] w fun e w' => ∃ q, e = .returned q ∧ w'.ownsRow w.heap.size 212 8 q (Jg zTa JY A B).length (boV Ta.cs (Jg zTa JY A B)) ∧ Below w.heap.size w w' := by
 have HA : Hid (Y6 w u A) := ⟨fun wx h => hA.below h, hcu⟩
 have HB : Hid (Y6 w v B) := ⟨fun wx h => hB.below h, hcv⟩
 obtain ⟨aa, ca, rfl, -⟩ := hA
 obtain ⟨ab, cb, rfl, -⟩ := hB
 obtain ⟨full, hfu⟩ : ∃ full, full = Jg zTa JY A B := ⟨_, rfl⟩
 have HFU := Ja hfu
 rw [← hfu]
 obtain ⟨na, hna⟩ : ∃ n, n = A.length := ⟨_, rfl⟩
 obtain ⟨nb, hnb⟩ : ∃ n, n = B.length := ⟨_, rfl⟩
 obtain ⟨cells, hcz, hmk⟩ := Jgv w (na + nb) (by omega)
 have HLE : Hid (([] : List (Bo Ta)).length + A.length + B.length ≤ 2000) := by show _ ≤ _; simp; omega
 obtain ⟨X, hX⟩ : ∃ X, X = w.alloc (.cells cells 212) := ⟨_, rfl⟩
 have HO : Hid (X.ownsRow w.heap.size 212 8 (.slice (some ⟨w.heap.size, 0, none⟩) 0 (na + nb)) ([] : List (Bo Ta)).length (boV Ta.cs [])) := by
  show World.ownsRow _ _ _ _ _ _ _
  rw [hX]
  exact ⟨by simp [boV], .inr ⟨w.heap.size, na + nb, cells, rfl, Nat.le_refl _, V6 w _, Nat.zero_le _, by unfold maxLen; omega, hcz, by simp [boV]⟩⟩
 have HBX : Hid (Below w.heap.size w X) := by rw [hX]; exact (Below.refl _ _).alloc (Nat.le_refl _) _
 have HX : Hid (w.alloc (.cells cells 212) = X) := hX.symm
 have hw1 : IntKind.i64.wrap ((na : Int) + nb) = (na : Int) + nb := by rw [IntKind.wrap_i64] <;> omega
 have hmk2 : (Instr.makeSlice 246 (int i64 0) (int i64 ((na : Int) + nb))).run Tryz.prog w = .ok (.slice (some ⟨w.heap.size, 0, none⟩) 0 (na + nb)) (w.alloc (.cells cells 212)) := by have := hmk; rwa [show ((na + nb : Nat) : Int) = (na : Int) + nb by omega] at this
 rw [← hna, ← hnb]
 rw [← hna] at HA
 rw [← hnb] at HB
 obtain ⟨i0, hi, hz0, hz1, hz2⟩ := info_parts JaY
 clear hfu hX hmk hna hnb hn hm hcz hcu hcv
 go_enter Tryz.func209, Tryz.ntmps209
 go_wp2
 rw [HX.out]
 clear HX hmk2 hw1
 go_loopw [0, 1, 5] (fun x y q wr => ∃ (A' B' : List Ta) (D : List (Bo Ta)), Y6 w x A' ∧ Y6 w y B' ∧ wr.ownsRow w.heap.size 212 8 q D.length (boV Ta.cs D) ∧ full = D ++ Jg zTa JY A' B' ∧ D.length + A'.length + B'.length ≤ 2000 ∧ Below w.heap.size w wr) (fun x y _ _ => Ky x + Ky y)
 case atStart => exact ⟨A, B, [], HA.out, HB.out, HO.out, HFU.out, HLE.out, HBX.out⟩
 case round =>
  clear HA HB HO HFU HLE HBX
  obtain ⟨A', B', D, hx, hy, hown, hful, hlen, hbel⟩ := hrel
  have HX := Ja hx
  have HY := Ja hy
  have HOW := Ja hown
  have HFU := Ja hful
  have HBE := Ja hbel
  have hsz := hbel.size
  obtain ⟨ax, cx, rfl, -⟩ := hx.1 w (Below.refl _ _)
  obtain ⟨ay, cy, rfl, -⟩ := hy.1 w (Below.refl _ _)
  clear hx hy hown hful

  match A', B', HX, HY, HFU, hlen with
  | [], [], HX, HY, HFU, hlen =>
   have HE : Hid (full = D) := by
    have := HFU.out
    rw [show Jg zTa JY ([] : List Ta) [] = [] by unfold Jg; rfl, List.append_nil] at this
    exact this
   have HOE : Hid (wr.ownsRow w.heap.size 212 8 u5 full.length (boV Ta.cs full)) := by show World.ownsRow _ _ _ _ _ _ _; rw [HE.out]; exact HOW.out
   clear HOW hbel
   go_wp2
   go_ret
   exact ⟨_, rfl, HOE.out, HBE.out⟩
  | x :: A2, [], HX, HY, HFU, hlen =>
   obtain ⟨WW, hWW⟩ : ∃ WW, WW = wr.alloc (.cells #[.string ⟨#[]⟩, int i64 0, int i64 0, .string ⟨#[]⟩, int i64 0, int i64 0, .bool false, .bool false] 212) := ⟨_, rfl⟩
   have hRW : Row WW wr.heap.size #[.string ⟨#[]⟩, int i64 0, int i64 0, .string ⟨#[]⟩, int i64 0, int i64 0, .bool false, .bool false] 212 := by rw [hWW]; exact Jb wr _ _ rfl
   have HBA : Hid (Below w.heap.size w WW) := by rw [hWW]; exact HBE.out.alloc hsz _
   have HOA : Hid (WW.ownsRow w.heap.size 212 8 u5 D.length (boV Ta.cs D)) := by rw [hWW]; exact HOW.out.alloc _
   have HWW : Hid (wr.alloc (.cells #[.string ⟨#[]⟩, int i64 0, int i64 0, .string ⟨#[]⟩, int i64 0, int i64 0, .bool false, .bool false] 212) = WW) := hWW.symm
   have HFO := Ja (KA (x :: A2) ([]) _ _ WW (HX.out.1 WW HBA.out) (HY.out.1 WW HBA.out))
   simp only [List.length_cons, List.length_nil] at HX HY HFO hlen ⊢
   have HOBL : Hid (∀ j, u5.ownBlock = some j → w.heap.size ≤ j ∧ j < wr.heap.size) := fun j hj => HOW.out.lt j hj
   have HNE : Hid (∀ j, u5.ownBlock = some j → j ≠ wr.heap.size) := fun j hj => by have := (HOBL.out j hj).2; omega
   clear hWW HOW hbel
   obtain ⟨g, f, rfl, hcx, htl⟩ := KZ HX.out
   have HTL := Ja htl
   rw [show GL JY (x :: A2) [] = -1 from rfl] at HFO
   have HE : Hid (full = (D ++ [(⟨x, zTa, true, false⟩ : Bo Ta)]) ++ Jg zTa JY A2 []) := by
    show _ = _
    rw [HFU.out, show Jg zTa JY (x :: A2) [] = ⟨x, zTa, true, false⟩ :: Jg zTa JY A2 [] by rw [Jg]]; simp
   obtain ⟨n, hn⟩ : ∃ n, n = A2.length := ⟨_, rfl⟩
   have hn2 : 0 < n + 1 := by omega
   rw [← hn] at HX HFO HTL hlen ⊢
   have HN := Ja hn
   clear hn htl
   go_wp2_with fail
   rw [HWW.out]
   refine HFO.out.mono ?_
   rintro e w2 ⟨rfl, hb2⟩
   have HB2 : Hid (Below w.heap.size w w2) := HBA.out.trans (hb2.mono HBA.out.size)
   have HO2 := Ja (Jf HOA.out hb2)
   have HP2 := Ja (hRW.next hb2)
   have HWS : Hid (w.heap.size ≤ wr.heap.size) := hsz
   have hx2 := hcx w2 HB2.out
   unfold taC at hx2
   obtain ⟨xq0, xq1, xq2⟩ := hx2
   obtain ⟨d0, d1, d2, d3, d4, d5, d6, d7⟩ := ZF HP2.out
   obtain ⟨e0, e1, e2, e3, e4, e5, e6, e7⟩ := Uk HP2.out
   clear HWW HFO hb2 hRW HOA HBA
   go_wp2
   go_region
   obtain ⟨AX, hAX⟩ : ∃ a : Option Addr, a = if cx = 1 then some ⟨g, f, none⟩ else some ⟨g, f + 3, none⟩ := ⟨_, rfl⟩
   rw [← hAX] at HTL ⊢
   clear hAX
   clear d0 e0 d1 e1 d2 e2 d3 e3 d4 e4 d5 e5 d6 e6 d7 e7
   obtain ⟨w3, hw⟩ : ∃ W, W = ((((w2.setCell ⟨wr.heap.size, 0, none⟩ (.string x.o)).setCell ⟨wr.heap.size, 1, none⟩ (int i64 x.r)).setCell ⟨wr.heap.size, 2, none⟩ (int i64 x.n)).setCell ⟨wr.heap.size, 6, none⟩ (.bool true)).drew := ⟨_, rfl⟩
   rw [← hw]
   have HP3 : Hid (Row w3 wr.heap.size #[.string x.o, int i64 x.r, int i64 x.n, .string ⟨#[]⟩, int i64 0, int i64 0, .bool true, .bool false] 212) := by rw [hw]; exact ((((HP2.out.setL 0 _).setL 1 _).setL 2 _).setL 6 _).next (Below.drew (Below.refl _ _))
   have HO3 : Hid (w3.ownsRow w.heap.size 212 8 u5 D.length (boV Ta.cs D)) := by rw [hw]; exact World.ownsRow.drew (Jc (Jc (Jc (Jc HO2.out HNE.out) HNE.out) HNE.out) HNE.out)
   have HB3 : Hid (Below w.heap.size w w3) := by rw [hw]; exact ((((HB2.out.setCell (p := ⟨wr.heap.size, 0, none⟩) HWS.out _).setCell (p := ⟨wr.heap.size, 1, none⟩) HWS.out _).setCell (p := ⟨wr.heap.size, 2, none⟩) HWS.out _).setCell (p := ⟨wr.heap.size, 6, none⟩) HWS.out _).drew
   clear hw HP2 HO2 HB2
   clear xq0 xq1 xq2
   have HLD : Hid ((loadCellsFrom ⟨wr.heap.size, 0, none⟩ 0 8 #[]).run Tryz.prog w3 = .ok #[.string x.o, int i64 x.r, int i64 x.n, .string ⟨#[]⟩, int i64 0, int i64 0, .bool true, .bool false] w3) := Jq HP3.out rfl
   go_wp2_with fail
   simp only [Tryz.isAgg212, Tryz.sizeOf212, Result.andThen_ok, if_true, HLD.out]
   clear HLD
   rename_i KK hKK
   refine hKK _ _ ?_
   refine wpList_buildSlice rfl 246 212 1 _ rfl #[.string x.o, int i64 x.r, int i64 x.n, .string ⟨#[]⟩, int i64 0, int i64 0, .bool true, .bool false] i0 (.agg #[.string ⟨#[]⟩, int i64 0, int i64 0, .string ⟨#[]⟩, int i64 0, int i64 0, .bool false, .bool false]) Tryz.underlying246 hi hz0 (by rw [hz1]; decide) (by rw [hz1]; decide) (by rw [hz1]; kernel_rfl) ?_
   have HOWN := Ja (HO3.out.alloc (.cells #[.string x.o, int i64 x.r, int i64 x.n, .string ⟨#[]⟩, int i64 0, int i64 0, .bool true, .bool false] 212))
   have HNN := Ja (Ji w3 [.string x.o, int i64 x.r, int i64 x.n, .string ⟨#[]⟩, int i64 0, int i64 0, .bool true, .bool false] 212 rfl)
   have HSZ : Hid (w.heap.size ≤ (w3.alloc (.cells #[.string x.o, int i64 x.r, int i64 x.n, .string ⟨#[]⟩, int i64 0, int i64 0, .bool true, .bool false] 212)).heap.size) := by show _ ≤ _; have := HB3.out.size; simp; omega
   have HBb := Ja (HB3.out.alloc HB3.out.size (.cells #[.string x.o, int i64 x.r, int i64 x.n, .string ⟨#[]⟩, int i64 0, int i64 0, .bool true, .bool false] 212))
   clear HO3
   go_wp2_with (at_builtin; refine wpList_append_own _ rfl _ _ 246 rfl w.heap.size 212 i0 (.agg #[.string ⟨#[]⟩, int i64 0, int i64 0, .string ⟨#[]⟩, int i64 0, int i64 0, .bool false, .bool false]) 8 72 Tryz.underlying246 hi hz0 hz1 hz2 rfl (by decide) _ _ _ rfl HOWN.out ⟨w3.heap.size, 0, none⟩ 1 1 [.string x.o, int i64 x.r, int i64 x.n, .string ⟨#[]⟩, int i64 0, int i64 0, .bool true, .bool false] rfl rfl HNN.out (Gr ((⟨x, zTa, true, false⟩ : Bo Ta) : Bo Ta)) (by unfold maxLen; omega) (by omega) HSZ.out ?_)
   intro v2 w9 hown9 hgrow hne2
   have HB9 := Ja (HBb.out.grown hgrow HSZ.out (fun j hj => (HOBL.out j hj).1))
   have HO9 : Hid (w9.ownsRow w.heap.size 212 8 v2 (D ++ [(⟨x, zTa, true, false⟩ : Bo Ta)]).length (boV Ta.cs (D ++ [(⟨x, zTa, true, false⟩ : Bo Ta)]))) := by
    show World.ownsRow _ _ _ _ _ _ _
    rw [Z8, List.length_append]; exact hown9
   clear hown9 hgrow hne2 HOWN HNN HSZ HBb
   go_wp2
   go_roundw
   case rel =>
    refine ⟨A2, [], D ++ [⟨x, zTa, true, false⟩], ?_, ?_, ?_, ?_, ?_, ?_⟩
    ·exact HTL.out
    ·exact HY.out
    ·exact HO9.out
    ·exact HE.out
    ·exact by have := HN.out; simp; omega
    ·exact HB9.out
   case measure => simp [Ky]; try omega
  | [], y :: B2, HX, HY, HFU, hlen =>
   obtain ⟨WW, hWW⟩ : ∃ WW, WW = wr.alloc (.cells #[.string ⟨#[]⟩, int i64 0, int i64 0, .string ⟨#[]⟩, int i64 0, int i64 0, .bool false, .bool false] 212) := ⟨_, rfl⟩
   have hRW : Row WW wr.heap.size #[.string ⟨#[]⟩, int i64 0, int i64 0, .string ⟨#[]⟩, int i64 0, int i64 0, .bool false, .bool false] 212 := by rw [hWW]; exact Jb wr _ _ rfl
   have HBA : Hid (Below w.heap.size w WW) := by rw [hWW]; exact HBE.out.alloc hsz _
   have HOA : Hid (WW.ownsRow w.heap.size 212 8 u5 D.length (boV Ta.cs D)) := by rw [hWW]; exact HOW.out.alloc _
   have HWW : Hid (wr.alloc (.cells #[.string ⟨#[]⟩, int i64 0, int i64 0, .string ⟨#[]⟩, int i64 0, int i64 0, .bool false, .bool false] 212) = WW) := hWW.symm
   have HFO := Ja (KA ([]) (y :: B2) _ _ WW (HX.out.1 WW HBA.out) (HY.out.1 WW HBA.out))
   simp only [List.length_cons, List.length_nil] at HX HY HFO hlen ⊢
   have HOBL : Hid (∀ j, u5.ownBlock = some j → w.heap.size ≤ j ∧ j < wr.heap.size) := fun j hj => HOW.out.lt j hj
   have HNE : Hid (∀ j, u5.ownBlock = some j → j ≠ wr.heap.size) := fun j hj => by have := (HOBL.out j hj).2; omega
   clear hWW HOW hbel
   obtain ⟨g, f, rfl, hcy, htl⟩ := KZ HY.out
   have HTL := Ja htl
   rw [show GL JY [] (y :: B2) = 1 from rfl] at HFO
   have HE : Hid (full = (D ++ [(⟨zTa, y, false, true⟩ : Bo Ta)]) ++ Jg zTa JY [] B2) := by
    show _ = _
    rw [HFU.out, show Jg zTa JY [] (y :: B2) = ⟨zTa, y, false, true⟩ :: Jg zTa JY [] B2 by rw [Jg]]; simp
   obtain ⟨n, hn⟩ : ∃ n, n = B2.length := ⟨_, rfl⟩
   have hn2 : 0 < n + 1 := by omega
   rw [← hn] at HY HFO HTL hlen ⊢
   have HN := Ja hn
   clear hn htl
   go_wp2_with fail
   rw [HWW.out]
   refine HFO.out.mono ?_
   rintro e w2 ⟨rfl, hb2⟩
   have HB2 : Hid (Below w.heap.size w w2) := HBA.out.trans (hb2.mono HBA.out.size)
   have HO2 := Ja (Jf HOA.out hb2)
   have HP2 := Ja (hRW.next hb2)
   have HWS : Hid (w.heap.size ≤ wr.heap.size) := hsz
   have hy2 := hcy w2 HB2.out
   unfold taC at hy2
   obtain ⟨yq0, yq1, yq2⟩ := hy2
   obtain ⟨d0, d1, d2, d3, d4, d5, d6, d7⟩ := ZF HP2.out
   obtain ⟨e0, e1, e2, e3, e4, e5, e6, e7⟩ := Uk HP2.out
   clear HWW HFO hb2 hRW HOA HBA
   go_wp2
   go_region
   obtain ⟨AX, hAX⟩ : ∃ a : Option Addr, a = if cy = 1 then some ⟨g, f, none⟩ else some ⟨g, f + 3, none⟩ := ⟨_, rfl⟩
   rw [← hAX] at HTL ⊢
   clear hAX
   clear d0 e0 d1 e1 d2 e2 d3 e3 d4 e4 d5 e5 d6 e6 d7 e7
   obtain ⟨w3, hw⟩ : ∃ W, W = ((((w2.setCell ⟨wr.heap.size, 3, none⟩ (.string y.o)).setCell ⟨wr.heap.size, 4, none⟩ (int i64 y.r)).setCell ⟨wr.heap.size, 5, none⟩ (int i64 y.n)).setCell ⟨wr.heap.size, 7, none⟩ (.bool true)).drew := ⟨_, rfl⟩
   rw [← hw]
   have HP3 : Hid (Row w3 wr.heap.size #[.string ⟨#[]⟩, int i64 0, int i64 0, .string y.o, int i64 y.r, int i64 y.n, .bool false, .bool true] 212) := by rw [hw]; exact ((((HP2.out.setL 3 _).setL 4 _).setL 5 _).setL 7 _).next (Below.drew (Below.refl _ _))
   have HO3 : Hid (w3.ownsRow w.heap.size 212 8 u5 D.length (boV Ta.cs D)) := by rw [hw]; exact World.ownsRow.drew (Jc (Jc (Jc (Jc HO2.out HNE.out) HNE.out) HNE.out) HNE.out)
   have HB3 : Hid (Below w.heap.size w w3) := by rw [hw]; exact ((((HB2.out.setCell (p := ⟨wr.heap.size, 3, none⟩) HWS.out _).setCell (p := ⟨wr.heap.size, 4, none⟩) HWS.out _).setCell (p := ⟨wr.heap.size, 5, none⟩) HWS.out _).setCell (p := ⟨wr.heap.size, 7, none⟩) HWS.out _).drew
   clear hw HP2 HO2 HB2
   clear yq0 yq1 yq2
   have HLD : Hid ((loadCellsFrom ⟨wr.heap.size, 0, none⟩ 0 8 #[]).run Tryz.prog w3 = .ok #[.string ⟨#[]⟩, int i64 0, int i64 0, .string y.o, int i64 y.r, int i64 y.n, .bool false, .bool true] w3) := Jq HP3.out rfl
   go_wp2_with fail
   simp only [Tryz.isAgg212, Tryz.sizeOf212, Result.andThen_ok, if_true, HLD.out]
   clear HLD
   rename_i KK hKK
   refine hKK _ _ ?_
   refine wpList_buildSlice rfl 246 212 1 _ rfl #[.string ⟨#[]⟩, int i64 0, int i64 0, .string y.o, int i64 y.r, int i64 y.n, .bool false, .bool true] i0 (.agg #[.string ⟨#[]⟩, int i64 0, int i64 0, .string ⟨#[]⟩, int i64 0, int i64 0, .bool false, .bool false]) Tryz.underlying246 hi hz0 (by rw [hz1]; decide) (by rw [hz1]; decide) (by rw [hz1]; kernel_rfl) ?_
   have HOWN := Ja (HO3.out.alloc (.cells #[.string ⟨#[]⟩, int i64 0, int i64 0, .string y.o, int i64 y.r, int i64 y.n, .bool false, .bool true] 212))
   have HNN := Ja (Ji w3 [.string ⟨#[]⟩, int i64 0, int i64 0, .string y.o, int i64 y.r, int i64 y.n, .bool false, .bool true] 212 rfl)
   have HSZ : Hid (w.heap.size ≤ (w3.alloc (.cells #[.string ⟨#[]⟩, int i64 0, int i64 0, .string y.o, int i64 y.r, int i64 y.n, .bool false, .bool true] 212)).heap.size) := by show _ ≤ _; have := HB3.out.size; simp; omega
   have HBb := Ja (HB3.out.alloc HB3.out.size (.cells #[.string ⟨#[]⟩, int i64 0, int i64 0, .string y.o, int i64 y.r, int i64 y.n, .bool false, .bool true] 212))
   clear HO3
   go_wp2_with (at_builtin; refine wpList_append_own _ rfl _ _ 246 rfl w.heap.size 212 i0 (.agg #[.string ⟨#[]⟩, int i64 0, int i64 0, .string ⟨#[]⟩, int i64 0, int i64 0, .bool false, .bool false]) 8 72 Tryz.underlying246 hi hz0 hz1 hz2 rfl (by decide) _ _ _ rfl HOWN.out ⟨w3.heap.size, 0, none⟩ 1 1 [.string ⟨#[]⟩, int i64 0, int i64 0, .string y.o, int i64 y.r, int i64 y.n, .bool false, .bool true] rfl rfl HNN.out (Gr ((⟨zTa, y, false, true⟩ : Bo Ta) : Bo Ta)) (by unfold maxLen; omega) (by omega) HSZ.out ?_)
   intro v2 w9 hown9 hgrow hne2
   have HB9 := Ja (HBb.out.grown hgrow HSZ.out (fun j hj => (HOBL.out j hj).1))
   have HO9 : Hid (w9.ownsRow w.heap.size 212 8 v2 (D ++ [(⟨zTa, y, false, true⟩ : Bo Ta)]).length (boV Ta.cs (D ++ [(⟨zTa, y, false, true⟩ : Bo Ta)]))) := by
    show World.ownsRow _ _ _ _ _ _ _
    rw [Z8, List.length_append]; exact hown9
   clear hown9 hgrow hne2 HOWN HNN HSZ HBb
   go_wp2
   go_roundw
   case rel =>
    refine ⟨[], B2, D ++ [⟨zTa, y, false, true⟩], ?_, ?_, ?_, ?_, ?_, ?_⟩
    ·exact HX.out
    ·exact HTL.out
    ·exact HO9.out
    ·exact HE.out
    ·exact by have := HN.out; simp; omega
    ·exact HB9.out
   case measure => simp [Ky]; try omega
  | x :: A2, y :: B2, HX, HY, HFU, hlen =>
   obtain ⟨WW, hWW⟩ : ∃ WW, WW = wr.alloc (.cells #[.string ⟨#[]⟩, int i64 0, int i64 0, .string ⟨#[]⟩, int i64 0, int i64 0, .bool false, .bool false] 212) := ⟨_, rfl⟩
   have hRW : Row WW wr.heap.size #[.string ⟨#[]⟩, int i64 0, int i64 0, .string ⟨#[]⟩, int i64 0, int i64 0, .bool false, .bool false] 212 := by rw [hWW]; exact Jb wr _ _ rfl
   have HBA : Hid (Below w.heap.size w WW) := by rw [hWW]; exact HBE.out.alloc hsz _
   have HOA : Hid (WW.ownsRow w.heap.size 212 8 u5 D.length (boV Ta.cs D)) := by rw [hWW]; exact HOW.out.alloc _
   have HWW : Hid (wr.alloc (.cells #[.string ⟨#[]⟩, int i64 0, int i64 0, .string ⟨#[]⟩, int i64 0, int i64 0, .bool false, .bool false] 212) = WW) := hWW.symm
   have HFO := Ja (KA (x :: A2) (y :: B2) _ _ WW (HX.out.1 WW HBA.out) (HY.out.1 WW HBA.out))
   simp only [List.length_cons] at HX HY HFO hlen ⊢
   have HOBL : Hid (∀ j, u5.ownBlock = some j → w.heap.size ≤ j ∧ j < wr.heap.size) := fun j hj => HOW.out.lt j hj
   have HNE : Hid (∀ j, u5.ownBlock = some j → j ≠ wr.heap.size) := fun j hj => by have := (HOBL.out j hj).2; omega
   clear hWW HOW hbel
   obtain ⟨g, f, rfl, hcx, htx⟩ := KZ HX.out
   obtain ⟨g2, f2, rfl, hcy, hty⟩ := KZ HY.out
   have HTX := Ja htx
   have HTY := Ja hty
   obtain ⟨R, hR⟩ : ∃ R, R = JY x y := ⟨_, rfl⟩
   rw [show GL JY (x :: A2) (y :: B2) = JY x y from rfl, ← hR] at HFO
   have HE1 : Hid (R < 0 → full = (D ++ [(⟨x, zTa, true, false⟩ : Bo Ta)]) ++ Jg zTa JY A2 (y :: B2)) := fun h => by
    rw [HFU.out, show Jg zTa JY (x :: A2) (y :: B2) = ⟨x, zTa, true, false⟩ :: Jg zTa JY A2 (y :: B2) by rw [Jg, if_pos (by rw [← hR]; exact h)]]; simp
   have HE2 : Hid (R = 0 → full = (D ++ [(⟨x, y, true, true⟩ : Bo Ta)]) ++ Jg zTa JY A2 B2) := fun h => by
    rw [HFU.out, show Jg zTa JY (x :: A2) (y :: B2) = ⟨x, y, true, true⟩ :: Jg zTa JY A2 B2 by rw [Jg, if_neg (by rw [← hR]; omega), if_pos (by rw [← hR]; exact h)]]; simp
   have HE3 : Hid (0 < R → full = (D ++ [(⟨zTa, y, false, true⟩ : Bo Ta)]) ++ Jg zTa JY (x :: A2) B2) := fun h => by
    rw [HFU.out, show Jg zTa JY (x :: A2) (y :: B2) = ⟨zTa, y, false, true⟩ :: Jg zTa JY (x :: A2) B2 by rw [Jg, if_neg (by rw [← hR]; omega), if_neg (by rw [← hR]; omega)]]; simp
   obtain ⟨n, hn⟩ : ∃ n, n = A2.length := ⟨_, rfl⟩
   obtain ⟨m, hm⟩ : ∃ m, m = B2.length := ⟨_, rfl⟩
   have hn2 : 0 < n + 1 := by omega
   have hm2 : 0 < m + 1 := by omega
   rw [← hn] at HX HFO HTX hlen ⊢
   rw [← hm] at HY HFO HTY hlen ⊢
   have HN := Ja hn
   have HM := Ja hm
   clear hn hm htx hty hR
   go_wp2_with fail
   rw [HWW.out]
   refine HFO.out.mono ?_
   rintro e w2 ⟨rfl, hb2⟩
   have HB2 : Hid (Below w.heap.size w w2) := HBA.out.trans (hb2.mono HBA.out.size)
   have HO2 := Ja (Jf HOA.out hb2)
   have HP2 := Ja (hRW.next hb2)
   have HWS : Hid (w.heap.size ≤ wr.heap.size) := hsz
   have hx2 := hcx w2 HB2.out
   unfold taC at hx2
   obtain ⟨xq0, xq1, xq2⟩ := hx2
   have hy2 := hcy w2 HB2.out
   unfold taC at hy2
   obtain ⟨yq0, yq1, yq2⟩ := hy2
   obtain ⟨d0, d1, d2, d3, d4, d5, d6, d7⟩ := ZF HP2.out
   obtain ⟨e0, e1, e2, e3, e4, e5, e6, e7⟩ := Uk HP2.out
   clear HWW HFO hb2 hRW HOA HBA
   rcases Int.lt_trichotomy R 0 with hr | hr | hr
   ·have HE := Ja (HE1.out hr)
    have hr1 : R ≤ 0 := by omega
    have hr2 : ¬ 0 ≤ R := by omega
    clear HE1 HE2 HE3 HTY
    go_wp2
    go_region
    obtain ⟨AX, hAX⟩ : ∃ a : Option Addr, a = if cx = 1 then some ⟨g, f, none⟩ else some ⟨g, f + 3, none⟩ := ⟨_, rfl⟩
    rw [← hAX] at HTX ⊢
    clear hAX
    clear d0 e0 d1 e1 d2 e2 d3 e3 d4 e4 d5 e5 d6 e6 d7 e7
    obtain ⟨w3, hw⟩ : ∃ W, W = ((((w2.setCell ⟨wr.heap.size, 0, none⟩ (.string x.o)).setCell ⟨wr.heap.size, 1, none⟩ (int i64 x.r)).setCell ⟨wr.heap.size, 2, none⟩ (int i64 x.n)).setCell ⟨wr.heap.size, 6, none⟩ (.bool true)).drew := ⟨_, rfl⟩
    rw [← hw]
    have HP3 : Hid (Row w3 wr.heap.size #[.string x.o, int i64 x.r, int i64 x.n, .string ⟨#[]⟩, int i64 0, int i64 0, .bool true, .bool false] 212) := by rw [hw]; exact ((((HP2.out.setL 0 _).setL 1 _).setL 2 _).setL 6 _).next (Below.drew (Below.refl _ _))
    have HO3 : Hid (w3.ownsRow w.heap.size 212 8 u5 D.length (boV Ta.cs D)) := by rw [hw]; exact World.ownsRow.drew (Jc (Jc (Jc (Jc HO2.out HNE.out) HNE.out) HNE.out) HNE.out)
    have HB3 : Hid (Below w.heap.size w w3) := by rw [hw]; exact ((((HB2.out.setCell (p := ⟨wr.heap.size, 0, none⟩) HWS.out _).setCell (p := ⟨wr.heap.size, 1, none⟩) HWS.out _).setCell (p := ⟨wr.heap.size, 2, none⟩) HWS.out _).setCell (p := ⟨wr.heap.size, 6, none⟩) HWS.out _).drew
    clear hw HP2 HO2 HB2
    clear xq0 yq0 xq1 yq1 xq2 yq2
    have HLD : Hid ((loadCellsFrom ⟨wr.heap.size, 0, none⟩ 0 8 #[]).run Tryz.prog w3 = .ok #[.string x.o, int i64 x.r, int i64 x.n, .string ⟨#[]⟩, int i64 0, int i64 0, .bool true, .bool false] w3) := Jq HP3.out rfl
    go_wp2_with fail
    simp only [Tryz.isAgg212, Tryz.sizeOf212, Result.andThen_ok, if_true, HLD.out]
    clear HLD
    rename_i KK hKK
    refine hKK _ _ ?_
    refine wpList_buildSlice rfl 246 212 1 _ rfl #[.string x.o, int i64 x.r, int i64 x.n, .string ⟨#[]⟩, int i64 0, int i64 0, .bool true, .bool false] i0 (.agg #[.string ⟨#[]⟩, int i64 0, int i64 0, .string ⟨#[]⟩, int i64 0, int i64 0, .bool false, .bool false]) Tryz.underlying246 hi hz0 (by rw [hz1]; decide) (by rw [hz1]; decide) (by rw [hz1]; kernel_rfl) ?_
    have HOWN := Ja (HO3.out.alloc (.cells #[.string x.o, int i64 x.r, int i64 x.n, .string ⟨#[]⟩, int i64 0, int i64 0, .bool true, .bool false] 212))
    have HNN := Ja (Ji w3 [.string x.o, int i64 x.r, int i64 x.n, .string ⟨#[]⟩, int i64 0, int i64 0, .bool true, .bool false] 212 rfl)
    have HSZ : Hid (w.heap.size ≤ (w3.alloc (.cells #[.string x.o, int i64 x.r, int i64 x.n, .string ⟨#[]⟩, int i64 0, int i64 0, .bool true, .bool false] 212)).heap.size) := by show _ ≤ _; have := HB3.out.size; simp; omega
    have HBb := Ja (HB3.out.alloc HB3.out.size (.cells #[.string x.o, int i64 x.r, int i64 x.n, .string ⟨#[]⟩, int i64 0, int i64 0, .bool true, .bool false] 212))
    clear HO3
    go_wp2_with (at_builtin; refine wpList_append_own _ rfl _ _ 246 rfl w.heap.size 212 i0 (.agg #[.string ⟨#[]⟩, int i64 0, int i64 0, .string ⟨#[]⟩, int i64 0, int i64 0, .bool false, .bool false]) 8 72 Tryz.underlying246 hi hz0 hz1 hz2 rfl (by decide) _ _ _ rfl HOWN.out ⟨w3.heap.size, 0, none⟩ 1 1 [.string x.o, int i64 x.r, int i64 x.n, .string ⟨#[]⟩, int i64 0, int i64 0, .bool true, .bool false] rfl rfl HNN.out (Gr ((⟨x, zTa, true, false⟩ : Bo Ta) : Bo Ta)) (by unfold maxLen; omega) (by omega) HSZ.out ?_)
    intro v2 w9 hown9 hgrow hne2
    have HB9 := Ja (HBb.out.grown hgrow HSZ.out (fun j hj => (HOBL.out j hj).1))
    have HO9 : Hid (w9.ownsRow w.heap.size 212 8 v2 (D ++ [(⟨x, zTa, true, false⟩ : Bo Ta)]).length (boV Ta.cs (D ++ [(⟨x, zTa, true, false⟩ : Bo Ta)]))) := by
     show World.ownsRow _ _ _ _ _ _ _
     rw [Z8, List.length_append]; exact hown9
    clear hown9 hgrow hne2 HOWN HNN HSZ HBb
    go_wp2
    go_roundw
    case rel =>
     refine ⟨A2, y :: B2, D ++ [⟨x, zTa, true, false⟩], ?_, ?_, ?_, ?_, ?_, ?_⟩
     ·exact HTX.out
     ·exact by simpa only [List.length_cons, HM.out] using HY.out
     ·exact HO9.out
     ·exact HE.out
     ·exact by have := HN.out; have := HM.out; simp; omega
     ·exact HB9.out
    case measure => simp [Ky]; try omega
   ·have HE := Ja (HE2.out hr)
    have hr1 : R ≤ 0 := by omega
    have hr2 : 0 ≤ R := by omega
    clear HE1 HE2 HE3 hr
    go_wp2
    go_region
    obtain ⟨AX, hAX⟩ : ∃ a : Option Addr, a = if cx = 1 then some ⟨g, f, none⟩ else some ⟨g, f + 3, none⟩ := ⟨_, rfl⟩
    rw [← hAX] at HTX ⊢
    clear hAX
    clear d0 e0 d1 e1 d2 e2 d3 e3 d4 e4 d5 e5 d6 e6 d7 e7
    obtain ⟨w3, hw⟩ : ∃ W, W = ((((w2.setCell ⟨wr.heap.size, 0, none⟩ (.string x.o)).setCell ⟨wr.heap.size, 1, none⟩ (int i64 x.r)).setCell ⟨wr.heap.size, 2, none⟩ (int i64 x.n)).setCell ⟨wr.heap.size, 6, none⟩ (.bool true)).drew := ⟨_, rfl⟩
    rw [← hw]
    have HP3 : Hid (Row w3 wr.heap.size #[.string x.o, int i64 x.r, int i64 x.n, .string ⟨#[]⟩, int i64 0, int i64 0, .bool true, .bool false] 212) := by rw [hw]; exact ((((HP2.out.setL 0 _).setL 1 _).setL 2 _).setL 6 _).next (Below.drew (Below.refl _ _))
    have HO3 : Hid (w3.ownsRow w.heap.size 212 8 u5 D.length (boV Ta.cs D)) := by rw [hw]; exact World.ownsRow.drew (Jc (Jc (Jc (Jc HO2.out HNE.out) HNE.out) HNE.out) HNE.out)
    have HB3 : Hid (Below w.heap.size w w3) := by rw [hw]; exact ((((HB2.out.setCell (p := ⟨wr.heap.size, 0, none⟩) HWS.out _).setCell (p := ⟨wr.heap.size, 1, none⟩) HWS.out _).setCell (p := ⟨wr.heap.size, 2, none⟩) HWS.out _).setCell (p := ⟨wr.heap.size, 6, none⟩) HWS.out _).drew
    clear hw HP2 HO2 HB2
    clear xq0 yq0 xq1 yq1 xq2 yq2
    have hy3 := hcy w3 HB3.out
    unfold taC at hy3
    obtain ⟨yq0, yq1, yq2⟩ := hy3
    obtain ⟨d0, d1, d2, d3, d4, d5, d6, d7⟩ := ZF HP3.out
    obtain ⟨e0, e1, e2, e3, e4, e5, e6, e7⟩ := Uk HP3.out
    go_wp2
    go_region
    obtain ⟨AY, hAX⟩ : ∃ a : Option Addr, a = if cy = 1 then some ⟨g2, f2, none⟩ else some ⟨g2, f2 + 3, none⟩ := ⟨_, rfl⟩
    rw [← hAX] at HTY ⊢
    clear hAX
    clear d0 e0 d1 e1 d2 e2 d3 e3 d4 e4 d5 e5 d6 e6 d7 e7
    obtain ⟨w4, hw⟩ : ∃ W, W = ((((w3.setCell ⟨wr.heap.size, 3, none⟩ (.string y.o)).setCell ⟨wr.heap.size, 4, none⟩ (int i64 y.r)).setCell ⟨wr.heap.size, 5, none⟩ (int i64 y.n)).setCell ⟨wr.heap.size, 7, none⟩ (.bool true)).drew := ⟨_, rfl⟩
    rw [← hw]
    have HP4 : Hid (Row w4 wr.heap.size #[.string x.o, int i64 x.r, int i64 x.n, .string y.o, int i64 y.r, int i64 y.n, .bool true, .bool true] 212) := by rw [hw]; exact ((((HP3.out.setL 3 _).setL 4 _).setL 5 _).setL 7 _).next (Below.drew (Below.refl _ _))
    have HO4 : Hid (w4.ownsRow w.heap.size 212 8 u5 D.length (boV Ta.cs D)) := by rw [hw]; exact World.ownsRow.drew (Jc (Jc (Jc (Jc HO3.out HNE.out) HNE.out) HNE.out) HNE.out)
    have HB4 : Hid (Below w.heap.size w w4) := by rw [hw]; exact ((((HB3.out.setCell (p := ⟨wr.heap.size, 3, none⟩) HWS.out _).setCell (p := ⟨wr.heap.size, 4, none⟩) HWS.out _).setCell (p := ⟨wr.heap.size, 5, none⟩) HWS.out _).setCell (p := ⟨wr.heap.size, 7, none⟩) HWS.out _).drew
    clear hw HP3 HO3 HB3
    clear yq0 yq1 yq2
    have HLD : Hid ((loadCellsFrom ⟨wr.heap.size, 0, none⟩ 0 8 #[]).run Tryz.prog w4 = .ok #[.string x.o, int i64 x.r, int i64 x.n, .string y.o, int i64 y.r, int i64 y.n, .bool true, .bool true] w4) := Jq HP4.out rfl
    go_wp2_with fail
    simp only [Tryz.isAgg212, Tryz.sizeOf212, Result.andThen_ok, if_true, HLD.out]
    clear HLD
    rename_i KK hKK
    refine hKK _ _ ?_
    refine wpList_buildSlice rfl 246 212 1 _ rfl #[.string x.o, int i64 x.r, int i64 x.n, .string y.o, int i64 y.r, int i64 y.n, .bool true, .bool true] i0 (.agg #[.string ⟨#[]⟩, int i64 0, int i64 0, .string ⟨#[]⟩, int i64 0, int i64 0, .bool false, .bool false]) Tryz.underlying246 hi hz0 (by rw [hz1]; decide) (by rw [hz1]; decide) (by rw [hz1]; kernel_rfl) ?_
    have HOWN := Ja (HO4.out.alloc (.cells #[.string x.o, int i64 x.r, int i64 x.n, .string y.o, int i64 y.r, int i64 y.n, .bool true, .bool true] 212))
    have HNN := Ja (Ji w4 [.string x.o, int i64 x.r, int i64 x.n, .string y.o, int i64 y.r, int i64 y.n, .bool true, .bool true] 212 rfl)
    have HSZ : Hid (w.heap.size ≤ (w4.alloc (.cells #[.string x.o, int i64 x.r, int i64 x.n, .string y.o, int i64 y.r, int i64 y.n, .bool true, .bool true] 212)).heap.size) := by show _ ≤ _; have := HB4.out.size; simp; omega
    have HBb := Ja (HB4.out.alloc HB4.out.size (.cells #[.string x.o, int i64 x.r, int i64 x.n, .string y.o, int i64 y.r, int i64 y.n, .bool true, .bool true] 212))
    clear HO4
    go_wp2_with (at_builtin; refine wpList_append_own _ rfl _ _ 246 rfl w.heap.size 212 i0 (.agg #[.string ⟨#[]⟩, int i64 0, int i64 0, .string ⟨#[]⟩, int i64 0, int i64 0, .bool false, .bool false]) 8 72 Tryz.underlying246 hi hz0 hz1 hz2 rfl (by decide) _ _ _ rfl HOWN.out ⟨w4.heap.size, 0, none⟩ 1 1 [.string x.o, int i64 x.r, int i64 x.n, .string y.o, int i64 y.r, int i64 y.n, .bool true, .bool true] rfl rfl HNN.out (Gr ((⟨x, y, true, true⟩ : Bo Ta) : Bo Ta)) (by unfold maxLen; omega) (by omega) HSZ.out ?_)
    intro v2 w9 hown9 hgrow hne2
    have HB9 := Ja (HBb.out.grown hgrow HSZ.out (fun j hj => (HOBL.out j hj).1))
    have HO9 : Hid (w9.ownsRow w.heap.size 212 8 v2 (D ++ [(⟨x, y, true, true⟩ : Bo Ta)]).length (boV Ta.cs (D ++ [(⟨x, y, true, true⟩ : Bo Ta)]))) := by
     show World.ownsRow _ _ _ _ _ _ _
     rw [Z8, List.length_append]; exact hown9
    clear hown9 hgrow hne2 HOWN HNN HSZ HBb
    go_wp2
    go_roundw
    case rel =>
     refine ⟨A2, B2, D ++ [⟨x, y, true, true⟩], ?_, ?_, ?_, ?_, ?_, ?_⟩
     ·exact HTX.out
     ·exact HTY.out
     ·exact HO9.out
     ·exact HE.out
     ·exact by have := HN.out; have := HM.out; simp; omega
     ·exact HB9.out
    case measure => simp [Ky]; try omega
   ·have HE := Ja (HE3.out hr)
    have hr1 : ¬ R ≤ 0 := by omega
    have hr2 : 0 ≤ R := by omega
    clear HE1 HE2 HE3 HTX
    go_wp2
    go_region
    obtain ⟨AY, hAX⟩ : ∃ a : Option Addr, a = if cy = 1 then some ⟨g2, f2, none⟩ else some ⟨g2, f2 + 3, none⟩ := ⟨_, rfl⟩
    rw [← hAX] at HTY ⊢
    clear hAX
    clear d0 e0 d1 e1 d2 e2 d3 e3 d4 e4 d5 e5 d6 e6 d7 e7
    obtain ⟨w3, hw⟩ : ∃ W, W = ((((w2.setCell ⟨wr.heap.size, 3, none⟩ (.string y.o)).setCell ⟨wr.heap.size, 4, none⟩ (int i64 y.r)).setCell ⟨wr.heap.size, 5, none⟩ (int i64 y.n)).setCell ⟨wr.heap.size, 7, none⟩ (.bool true)).drew := ⟨_, rfl⟩
    rw [← hw]
    have HP3 : Hid (Row w3 wr.heap.size #[.string ⟨#[]⟩, int i64 0, int i64 0, .string y.o, int i64 y.r, int i64 y.n, .bool false, .bool true] 212) := by rw [hw]; exact ((((HP2.out.setL 3 _).setL 4 _).setL 5 _).setL 7 _).next (Below.drew (Below.refl _ _))
    have HO3 : Hid (w3.ownsRow w.heap.size 212 8 u5 D.length (boV Ta.cs D)) := by rw [hw]; exact World.ownsRow.drew (Jc (Jc (Jc (Jc HO2.out HNE.out) HNE.out) HNE.out) HNE.out)
    have HB3 : Hid (Below w.heap.size w w3) := by rw [hw]; exact ((((HB2.out.setCell (p := ⟨wr.heap.size, 3, none⟩) HWS.out _).setCell (p := ⟨wr.heap.size, 4, none⟩) HWS.out _).setCell (p := ⟨wr.heap.size, 5, none⟩) HWS.out _).setCell (p := ⟨wr.heap.size, 7, none⟩) HWS.out _).drew
    clear hw HP2 HO2 HB2
    clear xq0 yq0 xq1 yq1 xq2 yq2
    have HLD : Hid ((loadCellsFrom ⟨wr.heap.size, 0, none⟩ 0 8 #[]).run Tryz.prog w3 = .ok #[.string ⟨#[]⟩, int i64 0, int i64 0, .string y.o, int i64 y.r, int i64 y.n, .bool false, .bool true] w3) := Jq HP3.out rfl
    go_wp2_with fail
    simp only [Tryz.isAgg212, Tryz.sizeOf212, Result.andThen_ok, if_true, HLD.out]
    clear HLD
    rename_i KK hKK
    refine hKK _ _ ?_
    refine wpList_buildSlice rfl 246 212 1 _ rfl #[.string ⟨#[]⟩, int i64 0, int i64 0, .string y.o, int i64 y.r, int i64 y.n, .bool false, .bool true] i0 (.agg #[.string ⟨#[]⟩, int i64 0, int i64 0, .string ⟨#[]⟩, int i64 0, int i64 0, .bool false, .bool false]) Tryz.underlying246 hi hz0 (by rw [hz1]; decide) (by rw [hz1]; decide) (by rw [hz1]; kernel_rfl) ?_
    have HOWN := Ja (HO3.out.alloc (.cells #[.string ⟨#[]⟩, int i64 0, int i64 0, .string y.o, int i64 y.r, int i64 y.n, .bool false, .bool true] 212))
    have HNN := Ja (Ji w3 [.string ⟨#[]⟩, int i64 0, int i64 0, .string y.o, int i64 y.r, int i64 y.n, .bool false, .bool true] 212 rfl)
    have HSZ : Hid (w.heap.size ≤ (w3.alloc (.cells #[.string ⟨#[]⟩, int i64 0, int i64 0, .string y.o, int i64 y.r, int i64 y.n, .bool false, .bool true] 212)).heap.size) := by show _ ≤ _; have := HB3.out.size; simp; omega
    have HBb := Ja (HB3.out.alloc HB3.out.size (.cells #[.string ⟨#[]⟩, int i64 0, int i64 0, .string y.o, int i64 y.r, int i64 y.n, .bool false, .bool true] 212))
    clear HO3
    go_wp2_with (at_builtin; refine wpList_append_own _ rfl _ _ 246 rfl w.heap.size 212 i0 (.agg #[.string ⟨#[]⟩, int i64 0, int i64 0, .string ⟨#[]⟩, int i64 0, int i64 0, .bool false, .bool false]) 8 72 Tryz.underlying246 hi hz0 hz1 hz2 rfl (by decide) _ _ _ rfl HOWN.out ⟨w3.heap.size, 0, none⟩ 1 1 [.string ⟨#[]⟩, int i64 0, int i64 0, .string y.o, int i64 y.r, int i64 y.n, .bool false, .bool true] rfl rfl HNN.out (Gr ((⟨zTa, y, false, true⟩ : Bo Ta) : Bo Ta)) (by unfold maxLen; omega) (by omega) HSZ.out ?_)
    intro v2 w9 hown9 hgrow hne2
    have HB9 := Ja (HBb.out.grown hgrow HSZ.out (fun j hj => (HOBL.out j hj).1))
    have HO9 : Hid (w9.ownsRow w.heap.size 212 8 v2 (D ++ [(⟨zTa, y, false, true⟩ : Bo Ta)]).length (boV Ta.cs (D ++ [(⟨zTa, y, false, true⟩ : Bo Ta)]))) := by
     show World.ownsRow _ _ _ _ _ _ _
     rw [Z8, List.length_append]; exact hown9
    clear hown9 hgrow hne2 HOWN HNN HSZ HBb
    go_wp2
    go_roundw
    case rel =>
     refine ⟨x :: A2, B2, D ++ [⟨zTa, y, false, true⟩], ?_, ?_, ?_, ?_, ?_, ?_⟩
     ·exact by simpa only [List.length_cons, HN.out] using HX.out
     ·exact HTY.out
     ·exact HO9.out
     ·exact HE.out
     ·exact by have := HN.out; have := HM.out; simp; omega
     ·exact HB9.out
    case measure => simp [Ky]; try omega
theorem JbU : (Tryz.prog.info? 217).map (fun i => (i.zero, i.size, i.bytes)) = some (some (.agg #[.bool false, .string ⟨#[]⟩, .string ⟨#[]⟩, int i64 0, int i64 0, int i64 0, .bool false, .string ⟨#[]⟩, .string ⟨#[]⟩, int i64 0, int i64 0, int i64 0, .bool false, .bool false]), 14, 136) := by kernel_rfl
theorem Jhq (w : World) (n : Nat) (hn : n ≤ 2000) : ∃ cells : Array Value, cells.size = n * 14 ∧ (Instr.makeSlice 249 (int i64 0) (int i64 (n : Int))).run Tryz.prog w = .ok (.slice (some ⟨w.heap.size, 0, none⟩) 0 n) (w.alloc (.cells cells 217)) := by
 obtain ⟨i0, hi, hz0, hz1, hz2⟩ := info_parts JbU
 have hr := run_make (P := Tryz.prog) w 249 217 i0 (.agg #[.bool false, .string ⟨#[]⟩, .string ⟨#[]⟩, int i64 0, int i64 0, int i64 0, .bool false, .string ⟨#[]⟩, .string ⟨#[]⟩, int i64 0, int i64 0, int i64 0, .bool false, .bool false]) Tryz.underlying249 hi hz0 .i64 .i64 0 n (by omega) (by omega) (by rw [hz2]; omega) (by omega)
 simp only [Int.toNat_natCast, hz1] at hr
 exact ⟨_, size_madeCells _ _, hr⟩
def YP (w : World) (x : Value) (A : List Li) : Prop := (∀ wx, Below w.heap.size w wx → LiAt wx x A) ∧ ZC x
theorem KQ {w : World} {ax : Option Addr} {cx : Nat} {x : Li} {A : List Li} (h : YP w (.slice ax (A.length + 1) cx) (x :: A)) : ∃ g f, ax = some ⟨g, f, none⟩ ∧ (∀ wx, Below w.heap.size w wx → liC wx g f x) ∧ YP w (.slice (if cx = 1 then some ⟨g, f, none⟩ else some ⟨g, f + 6, none⟩) A.length (cx - 1)) A := by
 obtain ⟨h, hcap⟩ := h
 obtain ⟨aa, ca, e, hG⟩ := h w (Below.refl _ _)
 simp only [Value.slice.injEq] at e
 obtain ⟨g, f, e2, hg, hc⟩ := hG (by simp)
 have e3 : ax = some ⟨g, f, none⟩ := by rw [e.1]; exact e2
 have hcx := hcap _ _ _ rfl
 refine ⟨g, f, e3, fun wx hx => ?_, fun wx hx => ⟨_, _, rfl, fun h0 => ⟨g, f + 6, by rw [if_neg (by omega)], Nat.lt_of_lt_of_le hg hx.size, fun j hj => ?_⟩⟩, fun a n c e => ?_⟩
 ·have := (hc 0 (by simp)).below hx hg
  simpa using this
 ·have := (hc (j + 1) (by simp; omega)).below hx hg
  rw [show f + 6 + j * 6 = f + (j + 1) * 6 by omega]
  simpa using this
 ·simp only [Value.slice.injEq] at e; omega
theorem Gt (q : Bo Li) : ∀ v ∈ ZW Li.cs q, v.oneCell' = true := fun v hv => by
 unfold ZW Li.cs at hv
 simp only [List.mem_append, List.mem_cons, List.not_mem_nil, or_false] at hv
 rcases hv with ((hv | hv) | hv) <;> rcases hv with rfl | rfl | rfl | rfl | rfl | rfl <;> rfl
theorem Kj (D : List (Bo Li)) (q : Bo Li) : boV Li.cs (D ++ [q]) = boV Li.cs D ++ ZW Li.cs q := by unfold boV; simp
theorem Jau (A B : List Li) (u v : Value) (w : World) (hA : LiAt w u A) (hB : LiAt w v B) (hcu : ZC u) (hcv : ZC v) (hn : A.length ≤ 1000) (hm : B.length ≤ 1000) :
  Calls Tryz.prog 211 #[u, v] w fun e w' => ∃ q, e = .returned q ∧ w'.ownsRow w.heap.size 217 14 q (Jg zLi Zi A B).length (boV Li.cs (Jg zLi Zi A B)) ∧ Below w.heap.size w w' := by
 have HA : Hid (YP w u A) := ⟨fun wx h => hA.below h, hcu⟩
 have HB : Hid (YP w v B) := ⟨fun wx h => hB.below h, hcv⟩
 obtain ⟨aa, ca, rfl, -⟩ := hA
 obtain ⟨ab, cb, rfl, -⟩ := hB
 obtain ⟨full, hfu⟩ : ∃ full, full = Jg zLi Zi A B := ⟨_, rfl⟩
 have HFU := Ja hfu
 rw [← hfu]
 obtain ⟨na, hna⟩ : ∃ n, n = A.length := ⟨_, rfl⟩
 obtain ⟨nb, hnb⟩ : ∃ n, n = B.length := ⟨_, rfl⟩
 obtain ⟨cells, hcz, hmk⟩ := Jhq w (na + nb) (by omega)
 have HLE : Hid (([] : List (Bo Li)).length + A.length + B.length ≤ 2000) := by show _ ≤ _; simp; omega
 obtain ⟨X, hX⟩ : ∃ X, X = w.alloc (.cells cells 217) := ⟨_, rfl⟩
 have HO : Hid (X.ownsRow w.heap.size 217 14 (.slice (some ⟨w.heap.size, 0, none⟩) 0 (na + nb)) ([] : List (Bo Li)).length (boV Li.cs [])) := by
  show World.ownsRow _ _ _ _ _ _ _
  rw [hX]
  exact ⟨by simp [boV], .inr ⟨w.heap.size, na + nb, cells, rfl, Nat.le_refl _, V6 w _, Nat.zero_le _, by unfold maxLen; omega, hcz, by simp [boV]⟩⟩
 have HBX : Hid (Below w.heap.size w X) := by rw [hX]; exact (Below.refl _ _).alloc (Nat.le_refl _) _
 have HX : Hid (w.alloc (.cells cells 217) = X) := hX.symm
 have hw1 : IntKind.i64.wrap ((na : Int) + nb) = (na : Int) + nb := by rw [IntKind.wrap_i64] <;> omega
 have hmk2 : (Instr.makeSlice 249 (int i64 0) (int i64 ((na : Int) + nb))).run Tryz.prog w = .ok (.slice (some ⟨w.heap.size, 0, none⟩) 0 (na + nb)) (w.alloc (.cells cells 217)) := by have := hmk; rwa [show ((na + nb : Nat) : Int) = (na : Int) + nb by omega] at this
 rw [← hna, ← hnb]
 rw [← hna] at HA
 rw [← hnb] at HB
 obtain ⟨i0, hi, hz0, hz1, hz2⟩ := info_parts JbU
 clear hfu hX hmk hna hnb hn hm hcz hcu hcv
 go_enter Tryz.func211, Tryz.ntmps211
 go_wp2
 rw [HX.out]
 clear HX hmk2 hw1
 go_loopw [0, 1, 5] (fun x y q wr => ∃ (A' B' : List Li) (D : List (Bo Li)), YP w x A' ∧ YP w y B' ∧ wr.ownsRow w.heap.size 217 14 q D.length (boV Li.cs D) ∧ full = D ++ Jg zLi Zi A' B' ∧ D.length + A'.length + B'.length ≤ 2000 ∧ Below w.heap.size w wr) (fun x y _ _ => Ky x + Ky y)
 case atStart => exact ⟨A, B, [], HA.out, HB.out, HO.out, HFU.out, HLE.out, HBX.out⟩
 case round =>
  clear HA HB HO HFU HLE HBX
  obtain ⟨A', B', D, hx, hy, hown, hful, hlen, hbel⟩ := hrel
  have HX := Ja hx
  have HY := Ja hy
  have HOW := Ja hown
  have HFU := Ja hful
  have HBE := Ja hbel
  have hsz := hbel.size
  obtain ⟨ax, cx, rfl, -⟩ := hx.1 w (Below.refl _ _)
  obtain ⟨ay, cy, rfl, -⟩ := hy.1 w (Below.refl _ _)
  clear hx hy hown hful

  match A', B', HX, HY, HFU, hlen with
  | [], [], HX, HY, HFU, hlen =>
   have HE : Hid (full = D) := by
    have := HFU.out
    rw [show Jg zLi Zi ([] : List Li) [] = [] by unfold Jg; rfl, List.append_nil] at this
    exact this
   have HOE : Hid (wr.ownsRow w.heap.size 217 14 u5 full.length (boV Li.cs full)) := by show World.ownsRow _ _ _ _ _ _ _; rw [HE.out]; exact HOW.out
   clear HOW hbel
   go_wp2
   go_ret
   exact ⟨_, rfl, HOE.out, HBE.out⟩
  | x :: A2, [], HX, HY, HFU, hlen =>
   obtain ⟨WW, hWW⟩ : ∃ WW, WW = wr.alloc (.cells #[.bool false, .string ⟨#[]⟩, .string ⟨#[]⟩, int i64 0, int i64 0, int i64 0, .bool false, .string ⟨#[]⟩, .string ⟨#[]⟩, int i64 0, int i64 0, int i64 0, .bool false, .bool false] 217) := ⟨_, rfl⟩
   have hRW : Row WW wr.heap.size #[.bool false, .string ⟨#[]⟩, .string ⟨#[]⟩, int i64 0, int i64 0, int i64 0, .bool false, .string ⟨#[]⟩, .string ⟨#[]⟩, int i64 0, int i64 0, int i64 0, .bool false, .bool false] 217 := by rw [hWW]; exact Jb wr _ _ rfl
   have HBA : Hid (Below w.heap.size w WW) := by rw [hWW]; exact HBE.out.alloc hsz _
   have HOA : Hid (WW.ownsRow w.heap.size 217 14 u5 D.length (boV Li.cs D)) := by rw [hWW]; exact HOW.out.alloc _
   have HWW : Hid (wr.alloc (.cells #[.bool false, .string ⟨#[]⟩, .string ⟨#[]⟩, int i64 0, int i64 0, int i64 0, .bool false, .string ⟨#[]⟩, .string ⟨#[]⟩, int i64 0, int i64 0, int i64 0, .bool false, .bool false] 217) = WW) := hWW.symm
   have HFO := Ja (KB (x :: A2) ([]) _ _ WW (HX.out.1 WW HBA.out) (HY.out.1 WW HBA.out))
   simp only [List.length_cons, List.length_nil] at HX HY HFO hlen ⊢
   have HOBL : Hid (∀ j, u5.ownBlock = some j → w.heap.size ≤ j ∧ j < wr.heap.size) := fun j hj => HOW.out.lt j hj
   have HNE : Hid (∀ j, u5.ownBlock = some j → j ≠ wr.heap.size) := fun j hj => by have := (HOBL.out j hj).2; omega
   clear hWW HOW hbel
   obtain ⟨g, f, rfl, hcx, htl⟩ := KQ HX.out
   have HTL := Ja htl
   rw [show GL Zi (x :: A2) [] = -1 from rfl] at HFO
   have HE : Hid (full = (D ++ [(⟨x, zLi, true, false⟩ : Bo Li)]) ++ Jg zLi Zi A2 []) := by
    show _ = _
    rw [HFU.out, show Jg zLi Zi (x :: A2) [] = ⟨x, zLi, true, false⟩ :: Jg zLi Zi A2 [] by rw [Jg]]; simp
   obtain ⟨n, hn⟩ : ∃ n, n = A2.length := ⟨_, rfl⟩
   have hn2 : 0 < n + 1 := by omega
   rw [← hn] at HX HFO HTL hlen ⊢
   have HN := Ja hn
   clear hn htl
   go_wp2_with fail
   rw [HWW.out]
   refine HFO.out.mono ?_
   rintro e w2 ⟨rfl, hb2⟩
   have HB2 : Hid (Below w.heap.size w w2) := HBA.out.trans (hb2.mono HBA.out.size)
   have HO2 := Ja (Jf HOA.out hb2)
   have HP2 := Ja (hRW.next hb2)
   have HWS : Hid (w.heap.size ≤ wr.heap.size) := hsz
   have hx2 := hcx w2 HB2.out
   unfold liC at hx2
   obtain ⟨xq0, xq1, xq2, xq3, xq4, xq5⟩ := hx2
   obtain ⟨d0, d1, d2, d3, d4, d5, d6, d7, d8, d9, d10, d11, d12, d13⟩ := Vv HP2.out
   obtain ⟨e0, e1, e2, e3, e4, e5, e6, e7, e8, e9, e10, e11, e12, e13⟩ := VP HP2.out
   clear HWW HFO hb2 hRW HOA HBA
   go_wp2
   go_region
   obtain ⟨AX, hAX⟩ : ∃ a : Option Addr, a = if cx = 1 then some ⟨g, f, none⟩ else some ⟨g, f + 6, none⟩ := ⟨_, rfl⟩
   rw [← hAX] at HTL ⊢
   clear hAX
   clear d0 e0 d1 e1 d2 e2 d3 e3 d4 e4 d5 e5 d6 e6 d7 e7 d8 e8 d9 e9 d10 e10 d11 e11 d12 e12 d13 e13
   obtain ⟨w3, hw⟩ : ∃ W, W = (((((((w2.setCell ⟨wr.heap.size, 0, none⟩ (.bool x.m)).setCell ⟨wr.heap.size, 1, none⟩ (.string x.o)).setCell ⟨wr.heap.size, 2, none⟩ (.string x.y)).setCell ⟨wr.heap.size, 3, none⟩ (int i64 x.v)).setCell ⟨wr.heap.size, 4, none⟩ (int i64 x.r)).setCell ⟨wr.heap.size, 5, none⟩ (int i64 x.s)).setCell ⟨wr.heap.size, 12, none⟩ (.bool true)).drew := ⟨_, rfl⟩
   rw [← hw]
   have HP3 : Hid (Row w3 wr.heap.size #[.bool x.m, .string x.o, .string x.y, int i64 x.v, int i64 x.r, int i64 x.s, .bool false, .string ⟨#[]⟩, .string ⟨#[]⟩, int i64 0, int i64 0, int i64 0, .bool true, .bool false] 217) := by rw [hw]; exact (((((((HP2.out.setL 0 _).setL 1 _).setL 2 _).setL 3 _).setL 4 _).setL 5 _).setL 12 _).next (Below.drew (Below.refl _ _))
   have HO3 : Hid (w3.ownsRow w.heap.size 217 14 u5 D.length (boV Li.cs D)) := by rw [hw]; exact World.ownsRow.drew (Jc (Jc (Jc (Jc (Jc (Jc (Jc HO2.out HNE.out) HNE.out) HNE.out) HNE.out) HNE.out) HNE.out) HNE.out)
   have HB3 : Hid (Below w.heap.size w w3) := by rw [hw]; exact (((((((HB2.out.setCell (p := ⟨wr.heap.size, 0, none⟩) HWS.out _).setCell (p := ⟨wr.heap.size, 1, none⟩) HWS.out _).setCell (p := ⟨wr.heap.size, 2, none⟩) HWS.out _).setCell (p := ⟨wr.heap.size, 3, none⟩) HWS.out _).setCell (p := ⟨wr.heap.size, 4, none⟩) HWS.out _).setCell (p := ⟨wr.heap.size, 5, none⟩) HWS.out _).setCell (p := ⟨wr.heap.size, 12, none⟩) HWS.out _).drew
   clear hw HP2 HO2 HB2
   clear xq0 xq1 xq2 xq3 xq4 xq5
   have HLD : Hid ((loadCellsFrom ⟨wr.heap.size, 0, none⟩ 0 14 #[]).run Tryz.prog w3 = .ok #[.bool x.m, .string x.o, .string x.y, int i64 x.v, int i64 x.r, int i64 x.s, .bool false, .string ⟨#[]⟩, .string ⟨#[]⟩, int i64 0, int i64 0, int i64 0, .bool true, .bool false] w3) := Jq HP3.out rfl
   go_wp2_with fail
   simp only [Tryz.isAgg217, Tryz.sizeOf217, Result.andThen_ok, if_true, HLD.out]
   clear HLD
   rename_i KK hKK
   refine hKK _ _ ?_
   refine wpList_buildSlice rfl 249 217 1 _ rfl #[.bool x.m, .string x.o, .string x.y, int i64 x.v, int i64 x.r, int i64 x.s, .bool false, .string ⟨#[]⟩, .string ⟨#[]⟩, int i64 0, int i64 0, int i64 0, .bool true, .bool false] i0 (.agg #[.bool false, .string ⟨#[]⟩, .string ⟨#[]⟩, int i64 0, int i64 0, int i64 0, .bool false, .string ⟨#[]⟩, .string ⟨#[]⟩, int i64 0, int i64 0, int i64 0, .bool false, .bool false]) Tryz.underlying249 hi hz0 (by rw [hz1]; decide) (by rw [hz1]; decide) (by rw [hz1]; kernel_rfl) ?_
   have HOWN := Ja (HO3.out.alloc (.cells #[.bool x.m, .string x.o, .string x.y, int i64 x.v, int i64 x.r, int i64 x.s, .bool false, .string ⟨#[]⟩, .string ⟨#[]⟩, int i64 0, int i64 0, int i64 0, .bool true, .bool false] 217))
   have HNN := Ja (Ji w3 [.bool x.m, .string x.o, .string x.y, int i64 x.v, int i64 x.r, int i64 x.s, .bool false, .string ⟨#[]⟩, .string ⟨#[]⟩, int i64 0, int i64 0, int i64 0, .bool true, .bool false] 217 rfl)
   have HSZ : Hid (w.heap.size ≤ (w3.alloc (.cells #[.bool x.m, .string x.o, .string x.y, int i64 x.v, int i64 x.r, int i64 x.s, .bool false, .string ⟨#[]⟩, .string ⟨#[]⟩, int i64 0, int i64 0, int i64 0, .bool true, .bool false] 217)).heap.size) := by show _ ≤ _; have := HB3.out.size; simp; omega
   have HBb := Ja (HB3.out.alloc HB3.out.size (.cells #[.bool x.m, .string x.o, .string x.y, int i64 x.v, int i64 x.r, int i64 x.s, .bool false, .string ⟨#[]⟩, .string ⟨#[]⟩, int i64 0, int i64 0, int i64 0, .bool true, .bool false] 217))
   clear HO3
   go_wp2_with (at_builtin; refine wpList_append_own _ rfl _ _ 249 rfl w.heap.size 217 i0 (.agg #[.bool false, .string ⟨#[]⟩, .string ⟨#[]⟩, int i64 0, int i64 0, int i64 0, .bool false, .string ⟨#[]⟩, .string ⟨#[]⟩, int i64 0, int i64 0, int i64 0, .bool false, .bool false]) 14 136 Tryz.underlying249 hi hz0 hz1 hz2 rfl (by decide) _ _ _ rfl HOWN.out ⟨w3.heap.size, 0, none⟩ 1 1 [.bool x.m, .string x.o, .string x.y, int i64 x.v, int i64 x.r, int i64 x.s, .bool false, .string ⟨#[]⟩, .string ⟨#[]⟩, int i64 0, int i64 0, int i64 0, .bool true, .bool false] rfl rfl HNN.out (Gt ((⟨x, zLi, true, false⟩ : Bo Li) : Bo Li)) (by unfold maxLen; omega) (by omega) HSZ.out ?_)
   intro v2 w9 hown9 hgrow hne2
   have HB9 := Ja (HBb.out.grown hgrow HSZ.out (fun j hj => (HOBL.out j hj).1))
   have HO9 : Hid (w9.ownsRow w.heap.size 217 14 v2 (D ++ [(⟨x, zLi, true, false⟩ : Bo Li)]).length (boV Li.cs (D ++ [(⟨x, zLi, true, false⟩ : Bo Li)]))) := by
    show World.ownsRow _ _ _ _ _ _ _
    rw [Kj, List.length_append]; exact hown9
   clear hown9 hgrow hne2 HOWN HNN HSZ HBb
   go_wp2
   go_roundw
   case rel =>
    refine ⟨A2, [], D ++ [⟨x, zLi, true, false⟩], ?_, ?_, ?_, ?_, ?_, ?_⟩
    ·exact HTL.out
    ·exact HY.out
    ·exact HO9.out
    ·exact HE.out
    ·exact by have := HN.out; simp; omega
    ·exact HB9.out
   case measure => simp [Ky]; try omega
  | [], y :: B2, HX, HY, HFU, hlen =>
   obtain ⟨WW, hWW⟩ : ∃ WW, WW = wr.alloc (.cells #[.bool false, .string ⟨#[]⟩, .string ⟨#[]⟩, int i64 0, int i64 0, int i64 0, .bool false, .string ⟨#[]⟩, .string ⟨#[]⟩, int i64 0, int i64 0, int i64 0, .bool false, .bool false] 217) := ⟨_, rfl⟩
   have hRW : Row WW wr.heap.size #[.bool false, .string ⟨#[]⟩, .string ⟨#[]⟩, int i64 0, int i64 0, int i64 0, .bool false, .string ⟨#[]⟩, .string ⟨#[]⟩, int i64 0, int i64 0, int i64 0, .bool false, .bool false] 217 := by rw [hWW]; exact Jb wr _ _ rfl
   have HBA : Hid (Below w.heap.size w WW) := by rw [hWW]; exact HBE.out.alloc hsz _
   have HOA : Hid (WW.ownsRow w.heap.size 217 14 u5 D.length (boV Li.cs D)) := by rw [hWW]; exact HOW.out.alloc _
   have HWW : Hid (wr.alloc (.cells #[.bool false, .string ⟨#[]⟩, .string ⟨#[]⟩, int i64 0, int i64 0, int i64 0, .bool false, .string ⟨#[]⟩, .string ⟨#[]⟩, int i64 0, int i64 0, int i64 0, .bool false, .bool false] 217) = WW) := hWW.symm
   have HFO := Ja (KB ([]) (y :: B2) _ _ WW (HX.out.1 WW HBA.out) (HY.out.1 WW HBA.out))
   simp only [List.length_cons, List.length_nil] at HX HY HFO hlen ⊢
   have HOBL : Hid (∀ j, u5.ownBlock = some j → w.heap.size ≤ j ∧ j < wr.heap.size) := fun j hj => HOW.out.lt j hj
   have HNE : Hid (∀ j, u5.ownBlock = some j → j ≠ wr.heap.size) := fun j hj => by have := (HOBL.out j hj).2; omega
   clear hWW HOW hbel
   obtain ⟨g, f, rfl, hcy, htl⟩ := KQ HY.out
   have HTL := Ja htl
   rw [show GL Zi [] (y :: B2) = 1 from rfl] at HFO
   have HE : Hid (full = (D ++ [(⟨zLi, y, false, true⟩ : Bo Li)]) ++ Jg zLi Zi [] B2) := by
    show _ = _
    rw [HFU.out, show Jg zLi Zi [] (y :: B2) = ⟨zLi, y, false, true⟩ :: Jg zLi Zi [] B2 by rw [Jg]]; simp
   obtain ⟨n, hn⟩ : ∃ n, n = B2.length := ⟨_, rfl⟩
   have hn2 : 0 < n + 1 := by omega
   rw [← hn] at HY HFO HTL hlen ⊢
   have HN := Ja hn
   clear hn htl
   go_wp2_with fail
   rw [HWW.out]
   refine HFO.out.mono ?_
   rintro e w2 ⟨rfl, hb2⟩
   have HB2 : Hid (Below w.heap.size w w2) := HBA.out.trans (hb2.mono HBA.out.size)
   have HO2 := Ja (Jf HOA.out hb2)
   have HP2 := Ja (hRW.next hb2)
   have HWS : Hid (w.heap.size ≤ wr.heap.size) := hsz
   have hy2 := hcy w2 HB2.out
   unfold liC at hy2
   obtain ⟨yq0, yq1, yq2, yq3, yq4, yq5⟩ := hy2
   obtain ⟨d0, d1, d2, d3, d4, d5, d6, d7, d8, d9, d10, d11, d12, d13⟩ := Vv HP2.out
   obtain ⟨e0, e1, e2, e3, e4, e5, e6, e7, e8, e9, e10, e11, e12, e13⟩ := VP HP2.out
   clear HWW HFO hb2 hRW HOA HBA
   go_wp2
   go_region
   obtain ⟨AX, hAX⟩ : ∃ a : Option Addr, a = if cy = 1 then some ⟨g, f, none⟩ else some ⟨g, f + 6, none⟩ := ⟨_, rfl⟩
   rw [← hAX] at HTL ⊢
   clear hAX
   clear d0 e0 d1 e1 d2 e2 d3 e3 d4 e4 d5 e5 d6 e6 d7 e7 d8 e8 d9 e9 d10 e10 d11 e11 d12 e12 d13 e13
   obtain ⟨w3, hw⟩ : ∃ W, W = (((((((w2.setCell ⟨wr.heap.size, 6, none⟩ (.bool y.m)).setCell ⟨wr.heap.size, 7, none⟩ (.string y.o)).setCell ⟨wr.heap.size, 8, none⟩ (.string y.y)).setCell ⟨wr.heap.size, 9, none⟩ (int i64 y.v)).setCell ⟨wr.heap.size, 10, none⟩ (int i64 y.r)).setCell ⟨wr.heap.size, 11, none⟩ (int i64 y.s)).setCell ⟨wr.heap.size, 13, none⟩ (.bool true)).drew := ⟨_, rfl⟩
   rw [← hw]
   have HP3 : Hid (Row w3 wr.heap.size #[.bool false, .string ⟨#[]⟩, .string ⟨#[]⟩, int i64 0, int i64 0, int i64 0, .bool y.m, .string y.o, .string y.y, int i64 y.v, int i64 y.r, int i64 y.s, .bool false, .bool true] 217) := by rw [hw]; exact (((((((HP2.out.setL 6 _).setL 7 _).setL 8 _).setL 9 _).setL 10 _).setL 11 _).setL 13 _).next (Below.drew (Below.refl _ _))
   have HO3 : Hid (w3.ownsRow w.heap.size 217 14 u5 D.length (boV Li.cs D)) := by rw [hw]; exact World.ownsRow.drew (Jc (Jc (Jc (Jc (Jc (Jc (Jc HO2.out HNE.out) HNE.out) HNE.out) HNE.out) HNE.out) HNE.out) HNE.out)
   have HB3 : Hid (Below w.heap.size w w3) := by rw [hw]; exact (((((((HB2.out.setCell (p := ⟨wr.heap.size, 6, none⟩) HWS.out _).setCell (p := ⟨wr.heap.size, 7, none⟩) HWS.out _).setCell (p := ⟨wr.heap.size, 8, none⟩) HWS.out _).setCell (p := ⟨wr.heap.size, 9, none⟩) HWS.out _).setCell (p := ⟨wr.heap.size, 10, none⟩) HWS.out _).setCell (p := ⟨wr.heap.size, 11, none⟩) HWS.out _).setCell (p := ⟨wr.heap.size, 13, none⟩) HWS.out _).drew
   clear hw HP2 HO2 HB2
   clear yq0 yq1 yq2 yq3 yq4 yq5
   have HLD : Hid ((loadCellsFrom ⟨wr.heap.size, 0, none⟩ 0 14 #[]).run Tryz.prog w3 = .ok #[.bool false, .string ⟨#[]⟩, .string ⟨#[]⟩, int i64 0, int i64 0, int i64 0, .bool y.m, .string y.o, .string y.y, int i64 y.v, int i64 y.r, int i64 y.s, .bool false, .bool true] w3) := Jq HP3.out rfl
   go_wp2_with fail
   simp only [Tryz.isAgg217, Tryz.sizeOf217, Result.andThen_ok, if_true, HLD.out]
   clear HLD
   rename_i KK hKK
   refine hKK _ _ ?_
   refine wpList_buildSlice rfl 249 217 1 _ rfl #[.bool false, .string ⟨#[]⟩, .string ⟨#[]⟩, int i64 0, int i64 0, int i64 0, .bool y.m, .string y.o, .string y.y, int i64 y.v, int i64 y.r, int i64 y.s, .bool false, .bool true] i0 (.agg #[.bool false, .string ⟨#[]⟩, .string ⟨#[]⟩, int i64 0, int i64 0, int i64 0, .bool false, .string ⟨#[]⟩, .string ⟨#[]⟩, int i64 0, int i64 0, int i64 0, .bool false, .bool false]) Tryz.underlying249 hi hz0 (by rw [hz1]; decide) (by rw [hz1]; decide) (by rw [hz1]; kernel_rfl) ?_
   have HOWN := Ja (HO3.out.alloc (.cells #[.bool false, .string ⟨#[]⟩, .string ⟨#[]⟩, int i64 0, int i64 0, int i64 0, .bool y.m, .string y.o, .string y.y, int i64 y.v, int i64 y.r, int i64 y.s, .bool false, .bool true] 217))
   have HNN := Ja (Ji w3 [.bool false, .string ⟨#[]⟩, .string ⟨#[]⟩, int i64 0, int i64 0, int i64 0, .bool y.m, .string y.o, .string y.y, int i64 y.v, int i64 y.r, int i64 y.s, .bool false, .bool true] 217 rfl)
   have HSZ : Hid (w.heap.size ≤ (w3.alloc (.cells #[.bool false, .string ⟨#[]⟩, .string ⟨#[]⟩, int i64 0, int i64 0, int i64 0, .bool y.m, .string y.o, .string y.y, int i64 y.v, int i64 y.r, int i64 y.s, .bool false, .bool true] 217)).heap.size) := by show _ ≤ _; have := HB3.out.size; simp; omega
   have HBb := Ja (HB3.out.alloc HB3.out.size (.cells #[.bool false, .string ⟨#[]⟩, .string ⟨#[]⟩, int i64 0, int i64 0, int i64 0, .bool y.m, .string y.o, .string y.y, int i64 y.v, int i64 y.r, int i64 y.s, .bool false, .bool true] 217))
   clear HO3
   go_wp2_with (at_builtin; refine wpList_append_own _ rfl _ _ 249 rfl w.heap.size 217 i0 (.agg #[.bool false, .string ⟨#[]⟩, .string ⟨#[]⟩, int i64 0, int i64 0, int i64 0, .bool false, .string ⟨#[]⟩, .string ⟨#[]⟩, int i64 0, int i64 0, int i64 0, .bool false, .bool false]) 14 136 Tryz.underlying249 hi hz0 hz1 hz2 rfl (by decide) _ _ _ rfl HOWN.out ⟨w3.heap.size, 0, none⟩ 1 1 [.bool false, .string ⟨#[]⟩, .string ⟨#[]⟩, int i64 0, int i64 0, int i64 0, .bool y.m, .string y.o, .string y.y, int i64 y.v, int i64 y.r, int i64 y.s, .bool false, .bool true] rfl rfl HNN.out (Gt ((⟨zLi, y, false, true⟩ : Bo Li) : Bo Li)) (by unfold maxLen; omega) (by omega) HSZ.out ?_)
   intro v2 w9 hown9 hgrow hne2
   have HB9 := Ja (HBb.out.grown hgrow HSZ.out (fun j hj => (HOBL.out j hj).1))
   have HO9 : Hid (w9.ownsRow w.heap.size 217 14 v2 (D ++ [(⟨zLi, y, false, true⟩ : Bo Li)]).length (boV Li.cs (D ++ [(⟨zLi, y, false, true⟩ : Bo Li)]))) := by
    show World.ownsRow _ _ _ _ _ _ _
    rw [Kj, List.length_append]; exact hown9
   clear hown9 hgrow hne2 HOWN HNN HSZ HBb
   go_wp2
   go_roundw
   case rel =>
    refine ⟨[], B2, D ++ [⟨zLi, y, false, true⟩], ?_, ?_, ?_, ?_, ?_, ?_⟩
    ·exact HX.out
    ·exact HTL.out
    ·exact HO9.out
    ·exact HE.out
    ·exact by have := HN.out; simp; omega
    ·exact HB9.out
   case measure => simp [Ky]; try omega
  | x :: A2, y :: B2, HX, HY, HFU, hlen =>
   obtain ⟨WW, hWW⟩ : ∃ WW, WW = wr.alloc (.cells #[.bool false, .string ⟨#[]⟩, .string ⟨#[]⟩, int i64 0, int i64 0, int i64 0, .bool false, .string ⟨#[]⟩, .string ⟨#[]⟩, int i64 0, int i64 0, int i64 0, .bool false, .bool false] 217) := ⟨_, rfl⟩
   have hRW : Row WW wr.heap.size #[.bool false, .string ⟨#[]⟩, .string ⟨#[]⟩, int i64 0, int i64 0, int i64 0, .bool false, .string ⟨#[]⟩, .string ⟨#[]⟩, int i64 0, int i64 0, int i64 0, .bool false, .bool false] 217 := by rw [hWW]; exact Jb wr _ _ rfl
   have HBA : Hid (Below w.heap.size w WW) := by rw [hWW]; exact HBE.out.alloc hsz _
   have HOA : Hid (WW.ownsRow w.heap.size 217 14 u5 D.length (boV Li.cs D)) := by rw [hWW]; exact HOW.out.alloc _
   have HWW : Hid (wr.alloc (.cells #[.bool false, .string ⟨#[]⟩, .string ⟨#[]⟩, int i64 0, int i64 0, int i64 0, .bool false, .string ⟨#[]⟩, .string ⟨#[]⟩, int i64 0, int i64 0, int i64 0, .bool false, .bool false] 217) = WW) := hWW.symm
   have HFO := Ja (KB (x :: A2) (y :: B2) _ _ WW (HX.out.1 WW HBA.out) (HY.out.1 WW HBA.out))
   simp only [List.length_cons] at HX HY HFO hlen ⊢
   have HOBL : Hid (∀ j, u5.ownBlock = some j → w.heap.size ≤ j ∧ j < wr.heap.size) := fun j hj => HOW.out.lt j hj
   have HNE : Hid (∀ j, u5.ownBlock = some j → j ≠ wr.heap.size) := fun j hj => by have := (HOBL.out j hj).2; omega
   clear hWW HOW hbel
   obtain ⟨g, f, rfl, hcx, htx⟩ := KQ HX.out
   obtain ⟨g2, f2, rfl, hcy, hty⟩ := KQ HY.out
   have HTX := Ja htx
   have HTY := Ja hty
   obtain ⟨R, hR⟩ : ∃ R, R = Zi x y := ⟨_, rfl⟩
   rw [show GL Zi (x :: A2) (y :: B2) = Zi x y from rfl, ← hR] at HFO
   have HE1 : Hid (R < 0 → full = (D ++ [(⟨x, zLi, true, false⟩ : Bo Li)]) ++ Jg zLi Zi A2 (y :: B2)) := fun h => by
    rw [HFU.out, show Jg zLi Zi (x :: A2) (y :: B2) = ⟨x, zLi, true, false⟩ :: Jg zLi Zi A2 (y :: B2) by rw [Jg, if_pos (by rw [← hR]; exact h)]]; simp
   have HE2 : Hid (R = 0 → full = (D ++ [(⟨x, y, true, true⟩ : Bo Li)]) ++ Jg zLi Zi A2 B2) := fun h => by
    rw [HFU.out, show Jg zLi Zi (x :: A2) (y :: B2) = ⟨x, y, true, true⟩ :: Jg zLi Zi A2 B2 by rw [Jg, if_neg (by rw [← hR]; omega), if_pos (by rw [← hR]; exact h)]]; simp
   have HE3 : Hid (0 < R → full = (D ++ [(⟨zLi, y, false, true⟩ : Bo Li)]) ++ Jg zLi Zi (x :: A2) B2) := fun h => by
    rw [HFU.out, show Jg zLi Zi (x :: A2) (y :: B2) = ⟨zLi, y, false, true⟩ :: Jg zLi Zi (x :: A2) B2 by rw [Jg, if_neg (by rw [← hR]; omega), if_neg (by rw [← hR]; omega)]]; simp
   obtain ⟨n, hn⟩ : ∃ n, n = A2.length := ⟨_, rfl⟩
   obtain ⟨m, hm⟩ : ∃ m, m = B2.length := ⟨_, rfl⟩
   have hn2 : 0 < n + 1 := by omega
   have hm2 : 0 < m + 1 := by omega
   rw [← hn] at HX HFO HTX hlen ⊢
   rw [← hm] at HY HFO HTY hlen ⊢
   have HN := Ja hn
   have HM := Ja hm
   clear hn hm htx hty hR
   go_wp2_with fail
   rw [HWW.out]
   refine HFO.out.mono ?_
   rintro e w2 ⟨rfl, hb2⟩
   have HB2 : Hid (Below w.heap.size w w2) := HBA.out.trans (hb2.mono HBA.out.size)
   have HO2 := Ja (Jf HOA.out hb2)
   have HP2 := Ja (hRW.next hb2)
   have HWS : Hid (w.heap.size ≤ wr.heap.size) := hsz
   have hx2 := hcx w2 HB2.out
   unfold liC at hx2
   obtain ⟨xq0, xq1, xq2, xq3, xq4, xq5⟩ := hx2
   have hy2 := hcy w2 HB2.out
   unfold liC at hy2
   obtain ⟨yq0, yq1, yq2, yq3, yq4, yq5⟩ := hy2
   obtain ⟨d0, d1, d2, d3, d4, d5, d6, d7, d8, d9, d10, d11, d12, d13⟩ := Vv HP2.out
   obtain ⟨e0, e1, e2, e3, e4, e5, e6, e7, e8, e9, e10, e11, e12, e13⟩ := VP HP2.out
   clear HWW HFO hb2 hRW HOA HBA
   rcases Int.lt_trichotomy R 0 with hr | hr | hr
   ·have HE := Ja (HE1.out hr)
    have hr1 : R ≤ 0 := by omega
    have hr2 : ¬ 0 ≤ R := by omega
    clear HE1 HE2 HE3 HTY
    go_wp2
    go_region
    obtain ⟨AX, hAX⟩ : ∃ a : Option Addr, a = if cx = 1 then some ⟨g, f, none⟩ else some ⟨g, f + 6, none⟩ := ⟨_, rfl⟩
    rw [← hAX] at HTX ⊢
    clear hAX
    clear d0 e0 d1 e1 d2 e2 d3 e3 d4 e4 d5 e5 d6 e6 d7 e7 d8 e8 d9 e9 d10 e10 d11 e11 d12 e12 d13 e13
    obtain ⟨w3, hw⟩ : ∃ W, W = (((((((w2.setCell ⟨wr.heap.size, 0, none⟩ (.bool x.m)).setCell ⟨wr.heap.size, 1, none⟩ (.string x.o)).setCell ⟨wr.heap.size, 2, none⟩ (.string x.y)).setCell ⟨wr.heap.size, 3, none⟩ (int i64 x.v)).setCell ⟨wr.heap.size, 4, none⟩ (int i64 x.r)).setCell ⟨wr.heap.size, 5, none⟩ (int i64 x.s)).setCell ⟨wr.heap.size, 12, none⟩ (.bool true)).drew := ⟨_, rfl⟩
    rw [← hw]
    have HP3 : Hid (Row w3 wr.heap.size #[.bool x.m, .string x.o, .string x.y, int i64 x.v, int i64 x.r, int i64 x.s, .bool false, .string ⟨#[]⟩, .string ⟨#[]⟩, int i64 0, int i64 0, int i64 0, .bool true, .bool false] 217) := by rw [hw]; exact (((((((HP2.out.setL 0 _).setL 1 _).setL 2 _).setL 3 _).setL 4 _).setL 5 _).setL 12 _).next (Below.drew (Below.refl _ _))
    have HO3 : Hid (w3.ownsRow w.heap.size 217 14 u5 D.length (boV Li.cs D)) := by rw [hw]; exact World.ownsRow.drew (Jc (Jc (Jc (Jc (Jc (Jc (Jc HO2.out HNE.out) HNE.out) HNE.out) HNE.out) HNE.out) HNE.out) HNE.out)
    have HB3 : Hid (Below w.heap.size w w3) := by rw [hw]; exact (((((((HB2.out.setCell (p := ⟨wr.heap.size, 0, none⟩) HWS.out _).setCell (p := ⟨wr.heap.size, 1, none⟩) HWS.out _).setCell (p := ⟨wr.heap.size, 2, none⟩) HWS.out _).setCell (p := ⟨wr.heap.size, 3, none⟩) HWS.out _).setCell (p := ⟨wr.heap.size, 4, none⟩) HWS.out _).setCell (p := ⟨wr.heap.size, 5, none⟩) HWS.out _).setCell (p := ⟨wr.heap.size, 12, none⟩) HWS.out _).drew
    clear hw HP2 HO2 HB2
    clear xq0 yq0 xq1 yq1 xq2 yq2 xq3 yq3 xq4 yq4 xq5 yq5
    have HLD : Hid ((loadCellsFrom ⟨wr.heap.size, 0, none⟩ 0 14 #[]).run Tryz.prog w3 = .ok #[.bool x.m, .string x.o, .string x.y, int i64 x.v, int i64 x.r, int i64 x.s, .bool false, .string ⟨#[]⟩, .string ⟨#[]⟩, int i64 0, int i64 0, int i64 0, .bool true, .bool false] w3) := Jq HP3.out rfl
    go_wp2_with fail
    simp only [Tryz.isAgg217, Tryz.sizeOf217, Result.andThen_ok, if_true, HLD.out]
    clear HLD
    rename_i KK hKK
    refine hKK _ _ ?_
    refine wpList_buildSlice rfl 249 217 1 _ rfl #[.bool x.m, .string x.o, .string x.y, int i64 x.v, int i64 x.r, int i64 x.s, .bool false, .string ⟨#[]⟩, .string ⟨#[]⟩, int i64 0, int i64 0, int i64 0, .bool true, .bool false] i0 (.agg #[.bool false, .string ⟨#[]⟩, .string ⟨#[]⟩, int i64 0, int i64 0, int i64 0, .bool false, .string ⟨#[]⟩, .string ⟨#[]⟩, int i64 0, int i64 0, int i64 0, .bool false, .bool false]) Tryz.underlying249 hi hz0 (by rw [hz1]; decide) (by rw [hz1]; decide) (by rw [hz1]; kernel_rfl) ?_
    have HOWN := Ja (HO3.out.alloc (.cells #[.bool x.m, .string x.o, .string x.y, int i64 x.v, int i64 x.r, int i64 x.s, .bool false, .string ⟨#[]⟩, .string ⟨#[]⟩, int i64 0, int i64 0, int i64 0, .bool true, .bool false] 217))
    have HNN := Ja (Ji w3 [.bool x.m, .string x.o, .string x.y, int i64 x.v, int i64 x.r, int i64 x.s, .bool false, .string ⟨#[]⟩, .string ⟨#[]⟩, int i64 0, int i64 0, int i64 0, .bool true, .bool false] 217 rfl)
    have HSZ : Hid (w.heap.size ≤ (w3.alloc (.cells #[.bool x.m, .string x.o, .string x.y, int i64 x.v, int i64 x.r, int i64 x.s, .bool false, .string ⟨#[]⟩, .string ⟨#[]⟩, int i64 0, int i64 0, int i64 0, .bool true, .bool false] 217)).heap.size) := by show _ ≤ _; have := HB3.out.size; simp; omega
    have HBb := Ja (HB3.out.alloc HB3.out.size (.cells #[.bool x.m, .string x.o, .string x.y, int i64 x.v, int i64 x.r, int i64 x.s, .bool false, .string ⟨#[]⟩, .string ⟨#[]⟩, int i64 0, int i64 0, int i64 0, .bool true, .bool false] 217))
    clear HO3
    go_wp2_with (at_builtin; refine wpList_append_own _ rfl _ _ 249 rfl w.heap.size 217 i0 (.agg #[.bool false, .string ⟨#[]⟩, .string ⟨#[]⟩, int i64 0, int i64 0, int i64 0, .bool false, .string ⟨#[]⟩, .string ⟨#[]⟩, int i64 0, int i64 0, int i64 0, .bool false, .bool false]) 14 136 Tryz.underlying249 hi hz0 hz1 hz2 rfl (by decide) _ _ _ rfl HOWN.out ⟨w3.heap.size, 0, none⟩ 1 1 [.bool x.m, .string x.o, .string x.y, int i64 x.v, int i64 x.r, int i64 x.s, .bool false, .string ⟨#[]⟩, .string ⟨#[]⟩, int i64 0, int i64 0, int i64 0, .bool true, .bool false] rfl rfl HNN.out (Gt ((⟨x, zLi, true, false⟩ : Bo Li) : Bo Li)) (by unfold maxLen; omega) (by omega) HSZ.out ?_)
    intro v2 w9 hown9 hgrow hne2
    have HB9 := Ja (HBb.out.grown hgrow HSZ.out (fun j hj => (HOBL.out j hj).1))
    have HO9 : Hid (w9.ownsRow w.heap.size 217 14 v2 (D ++ [(⟨x, zLi, true, false⟩ : Bo Li)]).length (boV Li.cs (D ++ [(⟨x, zLi, true, false⟩ : Bo Li)]))) := by
     show World.ownsRow _ _ _ _ _ _ _
     rw [Kj, List.length_append]; exact hown9
    clear hown9 hgrow hne2 HOWN HNN HSZ HBb
    go_wp2
    go_roundw
    case rel =>
     refine ⟨A2, y :: B2, D ++ [⟨x, zLi, true, false⟩], ?_, ?_, ?_, ?_, ?_, ?_⟩
     ·exact HTX.out
     ·exact by simpa only [List.length_cons, HM.out] using HY.out
     ·exact HO9.out
     ·exact HE.out
     ·exact by have := HN.out; have := HM.out; simp; omega
     ·exact HB9.out
    case measure => simp [Ky]; try omega
   ·have HE := Ja (HE2.out hr)
    have hr1 : R ≤ 0 := by omega
    have hr2 : 0 ≤ R := by omega
    clear HE1 HE2 HE3 hr
    go_wp2
    go_region
    obtain ⟨AX, hAX⟩ : ∃ a : Option Addr, a = if cx = 1 then some ⟨g, f, none⟩ else some ⟨g, f + 6, none⟩ := ⟨_, rfl⟩
    rw [← hAX] at HTX ⊢
    clear hAX
    clear d0 e0 d1 e1 d2 e2 d3 e3 d4 e4 d5 e5 d6 e6 d7 e7 d8 e8 d9 e9 d10 e10 d11 e11 d12 e12 d13 e13
    obtain ⟨w3, hw⟩ : ∃ W, W = (((((((w2.setCell ⟨wr.heap.size, 0, none⟩ (.bool x.m)).setCell ⟨wr.heap.size, 1, none⟩ (.string x.o)).setCell ⟨wr.heap.size, 2, none⟩ (.string x.y)).setCell ⟨wr.heap.size, 3, none⟩ (int i64 x.v)).setCell ⟨wr.heap.size, 4, none⟩ (int i64 x.r)).setCell ⟨wr.heap.size, 5, none⟩ (int i64 x.s)).setCell ⟨wr.heap.size, 12, none⟩ (.bool true)).drew := ⟨_, rfl⟩
    rw [← hw]
    have HP3 : Hid (Row w3 wr.heap.size #[.bool x.m, .string x.o, .string x.y, int i64 x.v, int i64 x.r, int i64 x.s, .bool false, .string ⟨#[]⟩, .string ⟨#[]⟩, int i64 0, int i64 0, int i64 0, .bool true, .bool false] 217) := by rw [hw]; exact (((((((HP2.out.setL 0 _).setL 1 _).setL 2 _).setL 3 _).setL 4 _).setL 5 _).setL 12 _).next (Below.drew (Below.refl _ _))
    have HO3 : Hid (w3.ownsRow w.heap.size 217 14 u5 D.length (boV Li.cs D)) := by rw [hw]; exact World.ownsRow.drew (Jc (Jc (Jc (Jc (Jc (Jc (Jc HO2.out HNE.out) HNE.out) HNE.out) HNE.out) HNE.out) HNE.out) HNE.out)
    have HB3 : Hid (Below w.heap.size w w3) := by rw [hw]; exact (((((((HB2.out.setCell (p := ⟨wr.heap.size, 0, none⟩) HWS.out _).setCell (p := ⟨wr.heap.size, 1, none⟩) HWS.out _).setCell (p := ⟨wr.heap.size, 2, none⟩) HWS.out _).setCell (p := ⟨wr.heap.size, 3, none⟩) HWS.out _).setCell (p := ⟨wr.heap.size, 4, none⟩) HWS.out _).setCell (p := ⟨wr.heap.size, 5, none⟩) HWS.out _).setCell (p := ⟨wr.heap.size, 12, none⟩) HWS.out _).drew
    clear hw HP2 HO2 HB2
    clear xq0 yq0 xq1 yq1 xq2 yq2 xq3 yq3 xq4 yq4 xq5 yq5
    have hy3 := hcy w3 HB3.out
    unfold liC at hy3
    obtain ⟨yq0, yq1, yq2, yq3, yq4, yq5⟩ := hy3
    obtain ⟨d0, d1, d2, d3, d4, d5, d6, d7, d8, d9, d10, d11, d12, d13⟩ := Vv HP3.out
    obtain ⟨e0, e1, e2, e3, e4, e5, e6, e7, e8, e9, e10, e11, e12, e13⟩ := VP HP3.out
    go_wp2
    go_region
    obtain ⟨AY, hAX⟩ : ∃ a : Option Addr, a = if cy = 1 then some ⟨g2, f2, none⟩ else some ⟨g2, f2 + 6, none⟩ := ⟨_, rfl⟩
    rw [← hAX] at HTY ⊢
    clear hAX
    clear d0 e0 d1 e1 d2 e2 d3 e3 d4 e4 d5 e5 d6 e6 d7 e7 d8 e8 d9 e9 d10 e10 d11 e11 d12 e12 d13 e13
    obtain ⟨w4, hw⟩ : ∃ W, W = (((((((w3.setCell ⟨wr.heap.size, 6, none⟩ (.bool y.m)).setCell ⟨wr.heap.size, 7, none⟩ (.string y.o)).setCell ⟨wr.heap.size, 8, none⟩ (.string y.y)).setCell ⟨wr.heap.size, 9, none⟩ (int i64 y.v)).setCell ⟨wr.heap.size, 10, none⟩ (int i64 y.r)).setCell ⟨wr.heap.size, 11, none⟩ (int i64 y.s)).setCell ⟨wr.heap.size, 13, none⟩ (.bool true)).drew := ⟨_, rfl⟩
    rw [← hw]
    have HP4 : Hid (Row w4 wr.heap.size #[.bool x.m, .string x.o, .string x.y, int i64 x.v, int i64 x.r, int i64 x.s, .bool y.m, .string y.o, .string y.y, int i64 y.v, int i64 y.r, int i64 y.s, .bool true, .bool true] 217) := by rw [hw]; exact (((((((HP3.out.setL 6 _).setL 7 _).setL 8 _).setL 9 _).setL 10 _).setL 11 _).setL 13 _).next (Below.drew (Below.refl _ _))
    have HO4 : Hid (w4.ownsRow w.heap.size 217 14 u5 D.length (boV Li.cs D)) := by rw [hw]; exact World.ownsRow.drew (Jc (Jc (Jc (Jc (Jc (Jc (Jc HO3.out HNE.out) HNE.out) HNE.out) HNE.out) HNE.out) HNE.out) HNE.out)
    have HB4 : Hid (Below w.heap.size w w4) := by rw [hw]; exact (((((((HB3.out.setCell (p := ⟨wr.heap.size, 6, none⟩) HWS.out _).setCell (p := ⟨wr.heap.size, 7, none⟩) HWS.out _).setCell (p := ⟨wr.heap.size, 8, none⟩) HWS.out _).setCell (p := ⟨wr.heap.size, 9, none⟩) HWS.out _).setCell (p := ⟨wr.heap.size, 10, none⟩) HWS.out _).setCell (p := ⟨wr.heap.size, 11, none⟩) HWS.out _).setCell (p := ⟨wr.heap.size, 13, none⟩) HWS.out _).drew
    clear hw HP3 HO3 HB3
    clear yq0 yq1 yq2 yq3 yq4 yq5
    have HLD : Hid ((loadCellsFrom ⟨wr.heap.size, 0, none⟩ 0 14 #[]).run Tryz.prog w4 = .ok #[.bool x.m, .string x.o, .string x.y, int i64 x.v, int i64 x.r, int i64 x.s, .bool y.m, .string y.o, .string y.y, int i64 y.v, int i64 y.r, int i64 y.s, .bool true, .bool true] w4) := Jq HP4.out rfl
    go_wp2_with fail
    simp only [Tryz.isAgg217, Tryz.sizeOf217, Result.andThen_ok, if_true, HLD.out]
    clear HLD
    rename_i KK hKK
    refine hKK _ _ ?_
    refine wpList_buildSlice rfl 249 217 1 _ rfl #[.bool x.m, .string x.o, .string x.y, int i64 x.v, int i64 x.r, int i64 x.s, .bool y.m, .string y.o, .string y.y, int i64 y.v, int i64 y.r, int i64 y.s, .bool true, .bool true] i0 (.agg #[.bool false, .string ⟨#[]⟩, .string ⟨#[]⟩, int i64 0, int i64 0, int i64 0, .bool false, .string ⟨#[]⟩, .string ⟨#[]⟩, int i64 0, int i64 0, int i64 0, .bool false, .bool false]) Tryz.underlying249 hi hz0 (by rw [hz1]; decide) (by rw [hz1]; decide) (by rw [hz1]; kernel_rfl) ?_
    have HOWN := Ja (HO4.out.alloc (.cells #[.bool x.m, .string x.o, .string x.y, int i64 x.v, int i64 x.r, int i64 x.s, .bool y.m, .string y.o, .string y.y, int i64 y.v, int i64 y.r, int i64 y.s, .bool true, .bool true] 217))
    have HNN := Ja (Ji w4 [.bool x.m, .string x.o, .string x.y, int i64 x.v, int i64 x.r, int i64 x.s, .bool y.m, .string y.o, .string y.y, int i64 y.v, int i64 y.r, int i64 y.s, .bool true, .bool true] 217 rfl)
    have HSZ : Hid (w.heap.size ≤ (w4.alloc (.cells #[.bool x.m, .string x.o, .string x.y, int i64 x.v, int i64 x.r, int i64 x.s, .bool y.m, .string y.o, .string y.y, int i64 y.v, int i64 y.r, int i64 y.s, .bool true, .bool true] 217)).heap.size) := by show _ ≤ _; have := HB4.out.size; simp; omega
    have HBb := Ja (HB4.out.alloc HB4.out.size (.cells #[.bool x.m, .string x.o, .string x.y, int i64 x.v, int i64 x.r, int i64 x.s, .bool y.m, .string y.o, .string y.y, int i64 y.v, int i64 y.r, int i64 y.s, .bool true, .bool true] 217))
    clear HO4
    go_wp2_with (at_builtin; refine wpList_append_own _ rfl _ _ 249 rfl w.heap.size 217 i0 (.agg #[.bool false, .string ⟨#[]⟩, .string ⟨#[]⟩, int i64 0, int i64 0, int i64 0, .bool false, .string ⟨#[]⟩, .string ⟨#[]⟩, int i64 0, int i64 0, int i64 0, .bool false, .bool false]) 14 136 Tryz.underlying249 hi hz0 hz1 hz2 rfl (by decide) _ _ _ rfl HOWN.out ⟨w4.heap.size, 0, none⟩ 1 1 [.bool x.m, .string x.o, .string x.y, int i64 x.v, int i64 x.r, int i64 x.s, .bool y.m, .string y.o, .string y.y, int i64 y.v, int i64 y.r, int i64 y.s, .bool true, .bool true] rfl rfl HNN.out (Gt ((⟨x, y, true, true⟩ : Bo Li) : Bo Li)) (by unfold maxLen; omega) (by omega) HSZ.out ?_)
    intro v2 w9 hown9 hgrow hne2
    have HB9 := Ja (HBb.out.grown hgrow HSZ.out (fun j hj => (HOBL.out j hj).1))
    have HO9 : Hid (w9.ownsRow w.heap.size 217 14 v2 (D ++ [(⟨x, y, true, true⟩ : Bo Li)]).length (boV Li.cs (D ++ [(⟨x, y, true, true⟩ : Bo Li)]))) := by
     show World.ownsRow _ _ _ _ _ _ _
     rw [Kj, List.length_append]; exact hown9
    clear hown9 hgrow hne2 HOWN HNN HSZ HBb
    go_wp2
    go_roundw
    case rel =>
     refine ⟨A2, B2, D ++ [⟨x, y, true, true⟩], ?_, ?_, ?_, ?_, ?_, ?_⟩
     ·exact HTX.out
     ·exact HTY.out
     ·exact HO9.out
     ·exact HE.out
     ·exact by have := HN.out; have := HM.out; simp; omega
     ·exact HB9.out
    case measure => simp [Ky]; try omega
   ·have HE := Ja (HE3.out hr)
    have hr1 : ¬ R ≤ 0 := by omega
    have hr2 : 0 ≤ R := by omega
    clear HE1 HE2 HE3 HTX
    go_wp2
    go_region
    obtain ⟨AY, hAX⟩ : ∃ a : Option Addr, a = if cy = 1 then some ⟨g2, f2, none⟩ else some ⟨g2, f2 + 6, none⟩ := ⟨_, rfl⟩
    rw [← hAX] at HTY ⊢
    clear hAX
    clear d0 e0 d1 e1 d2 e2 d3 e3 d4 e4 d5 e5 d6 e6 d7 e7 d8 e8 d9 e9 d10 e10 d11 e11 d12 e12 d13 e13
    obtain ⟨w3, hw⟩ : ∃ W, W = (((((((w2.setCell ⟨wr.heap.size, 6, none⟩ (.bool y.m)).setCell ⟨wr.heap.size, 7, none⟩ (.string y.o)).setCell ⟨wr.heap.size, 8, none⟩ (.string y.y)).setCell ⟨wr.heap.size, 9, none⟩ (int i64 y.v)).setCell ⟨wr.heap.size, 10, none⟩ (int i64 y.r)).setCell ⟨wr.heap.size, 11, none⟩ (int i64 y.s)).setCell ⟨wr.heap.size, 13, none⟩ (.bool true)).drew := ⟨_, rfl⟩
    rw [← hw]
    have HP3 : Hid (Row w3 wr.heap.size #[.bool false, .string ⟨#[]⟩, .string ⟨#[]⟩, int i64 0, int i64 0, int i64 0, .bool y.m, .string y.o, .string y.y, int i64 y.v, int i64 y.r, int i64 y.s, .bool false, .bool true] 217) := by rw [hw]; exact (((((((HP2.out.setL 6 _).setL 7 _).setL 8 _).setL 9 _).setL 10 _).setL 11 _).setL 13 _).next (Below.drew (Below.refl _ _))
    have HO3 : Hid (w3.ownsRow w.heap.size 217 14 u5 D.length (boV Li.cs D)) := by rw [hw]; exact World.ownsRow.drew (Jc (Jc (Jc (Jc (Jc (Jc (Jc HO2.out HNE.out) HNE.out) HNE.out) HNE.out) HNE.out) HNE.out) HNE.out)
    have HB3 : Hid (Below w.heap.size w w3) := by rw [hw]; exact (((((((HB2.out.setCell (p := ⟨wr.heap.size, 6, none⟩) HWS.out _).setCell (p := ⟨wr.heap.size, 7, none⟩) HWS.out _).setCell (p := ⟨wr.heap.size, 8, none⟩) HWS.out _).setCell (p := ⟨wr.heap.size, 9, none⟩) HWS.out _).setCell (p := ⟨wr.heap.size, 10, none⟩) HWS.out _).setCell (p := ⟨wr.heap.size, 11, none⟩) HWS.out _).setCell (p := ⟨wr.heap.size, 13, none⟩) HWS.out _).drew
    clear hw HP2 HO2 HB2
    clear xq0 yq0 xq1 yq1 xq2 yq2 xq3 yq3 xq4 yq4 xq5 yq5
    have HLD : Hid ((loadCellsFrom ⟨wr.heap.size, 0, none⟩ 0 14 #[]).run Tryz.prog w3 = .ok #[.bool false, .string ⟨#[]⟩, .string ⟨#[]⟩, int i64 0, int i64 0, int i64 0, .bool y.m, .string y.o, .string y.y, int i64 y.v, int i64 y.r, int i64 y.s, .bool false, .bool true] w3) := Jq HP3.out rfl
    go_wp2_with fail
    simp only [Tryz.isAgg217, Tryz.sizeOf217, Result.andThen_ok, if_true, HLD.out]
    clear HLD
    rename_i KK hKK
    refine hKK _ _ ?_
    refine wpList_buildSlice rfl 249 217 1 _ rfl #[.bool false, .string ⟨#[]⟩, .string ⟨#[]⟩, int i64 0, int i64 0, int i64 0, .bool y.m, .string y.o, .string y.y, int i64 y.v, int i64 y.r, int i64 y.s, .bool false, .bool true] i0 (.agg #[.bool false, .string ⟨#[]⟩, .string ⟨#[]⟩, int i64 0, int i64 0, int i64 0, .bool false, .string ⟨#[]⟩, .string ⟨#[]⟩, int i64 0, int i64 0, int i64 0, .bool false, .bool false]) Tryz.underlying249 hi hz0 (by rw [hz1]; decide) (by rw [hz1]; decide) (by rw [hz1]; kernel_rfl) ?_
    have HOWN := Ja (HO3.out.alloc (.cells #[.bool false, .string ⟨#[]⟩, .string ⟨#[]⟩, int i64 0, int i64 0, int i64 0, .bool y.m, .string y.o, .string y.y, int i64 y.v, int i64 y.r, int i64 y.s, .bool false, .bool true] 217))
    have HNN := Ja (Ji w3 [.bool false, .string ⟨#[]⟩, .string ⟨#[]⟩, int i64 0, int i64 0, int i64 0, .bool y.m, .string y.o, .string y.y, int i64 y.v, int i64 y.r, int i64 y.s, .bool false, .bool true] 217 rfl)
    have HSZ : Hid (w.heap.size ≤ (w3.alloc (.cells #[.bool false, .string ⟨#[]⟩, .string ⟨#[]⟩, int i64 0, int i64 0, int i64 0, .bool y.m, .string y.o, .string y.y, int i64 y.v, int i64 y.r, int i64 y.s, .bool false, .bool true] 217)).heap.size) := by show _ ≤ _; have := HB3.out.size; simp; omega
    have HBb := Ja (HB3.out.alloc HB3.out.size (.cells #[.bool false, .string ⟨#[]⟩, .string ⟨#[]⟩, int i64 0, int i64 0, int i64 0, .bool y.m, .string y.o, .string y.y, int i64 y.v, int i64 y.r, int i64 y.s, .bool false, .bool true] 217))
    clear HO3
    go_wp2_with (at_builtin; refine wpList_append_own _ rfl _ _ 249 rfl w.heap.size 217 i0 (.agg #[.bool false, .string ⟨#[]⟩, .string ⟨#[]⟩, int i64 0, int i64 0, int i64 0, .bool false, .string ⟨#[]⟩, .string ⟨#[]⟩, int i64 0, int i64 0, int i64 0, .bool false, .bool false]) 14 136 Tryz.underlying249 hi hz0 hz1 hz2 rfl (by decide) _ _ _ rfl HOWN.out ⟨w3.heap.size, 0, none⟩ 1 1 [.bool false, .string ⟨#[]⟩, .string ⟨#[]⟩, int i64 0, int i64 0, int i64 0, .bool y.m, .string y.o, .string y.y, int i64 y.v, int i64 y.r, int i64 y.s, .bool false, .bool true] rfl rfl HNN.out (Gt ((⟨zLi, y, false, true⟩ : Bo Li) : Bo Li)) (by unfold maxLen; omega) (by omega) HSZ.out ?_)
    intro v2 w9 hown9 hgrow hne2
    have HB9 := Ja (HBb.out.grown hgrow HSZ.out (fun j hj => (HOBL.out j hj).1))
    have HO9 : Hid (w9.ownsRow w.heap.size 217 14 v2 (D ++ [(⟨zLi, y, false, true⟩ : Bo Li)]).length (boV Li.cs (D ++ [(⟨zLi, y, false, true⟩ : Bo Li)]))) := by
     show World.ownsRow _ _ _ _ _ _ _
     rw [Kj, List.length_append]; exact hown9
    clear hown9 hgrow hne2 HOWN HNN HSZ HBb
    go_wp2
    go_roundw
    case rel =>
     refine ⟨x :: A2, B2, D ++ [⟨zLi, y, false, true⟩], ?_, ?_, ?_, ?_, ?_, ?_⟩
     ·exact by simpa only [List.length_cons, HN.out] using HX.out
     ·exact HTY.out
     ·exact HO9.out
     ·exact HE.out
     ·exact by have := HN.out; have := HM.out; simp; omega
     ·exact HB9.out
    case measure => simp [Ky]; try omega
theorem Ja3 : (Tryz.prog.info? 222).map (fun i => (i.zero, i.size, i.bytes)) = some (some (.agg #[.string ⟨#[]⟩, int i64 0, int i64 0, int i64 0, int i64 0, int i64 0, int i64 0, .bool false, .string ⟨#[]⟩, int i64 0, int i64 0, int i64 0, int i64 0, int i64 0, int i64 0, .bool false, .bool false, .bool false]), 18, 152) := by kernel_rfl
theorem Jhn (w : World) (n : Nat) (hn : n ≤ 2000) : ∃ cells : Array Value, cells.size = n * 18 ∧ (Instr.makeSlice 252 (int i64 0) (int i64 (n : Int))).run Tryz.prog w = .ok (.slice (some ⟨w.heap.size, 0, none⟩) 0 n) (w.alloc (.cells cells 222)) := by
 obtain ⟨i0, hi, hz0, hz1, hz2⟩ := info_parts Ja3
 have hr := run_make (P := Tryz.prog) w 252 222 i0 (.agg #[.string ⟨#[]⟩, int i64 0, int i64 0, int i64 0, int i64 0, int i64 0, int i64 0, .bool false, .string ⟨#[]⟩, int i64 0, int i64 0, int i64 0, int i64 0, int i64 0, int i64 0, .bool false, .bool false, .bool false]) Tryz.underlying252 hi hz0 .i64 .i64 0 n (by omega) (by omega) (by rw [hz2]; omega) (by omega)
 simp only [Int.toNat_natCast, hz1] at hr
 exact ⟨_, size_madeCells _ _, hr⟩
def Yv (w : World) (x : Value) (A : List Ce) : Prop := (∀ wx, Below w.heap.size w wx → CeAt wx x A) ∧ ZC x
theorem KX {w : World} {ax : Option Addr} {cx : Nat} {x : Ce} {A : List Ce} (h : Yv w (.slice ax (A.length + 1) cx) (x :: A)) : ∃ g f, ax = some ⟨g, f, none⟩ ∧ (∀ wx, Below w.heap.size w wx → ceC wx g f x) ∧ Yv w (.slice (if cx = 1 then some ⟨g, f, none⟩ else some ⟨g, f + 8, none⟩) A.length (cx - 1)) A := by
 obtain ⟨h, hcap⟩ := h
 obtain ⟨aa, ca, e, hG⟩ := h w (Below.refl _ _)
 simp only [Value.slice.injEq] at e
 obtain ⟨g, f, e2, hg, hc⟩ := hG (by simp)
 have e3 : ax = some ⟨g, f, none⟩ := by rw [e.1]; exact e2
 have hcx := hcap _ _ _ rfl
 refine ⟨g, f, e3, fun wx hx => ?_, fun wx hx => ⟨_, _, rfl, fun h0 => ⟨g, f + 8, by rw [if_neg (by omega)], Nat.lt_of_lt_of_le hg hx.size, fun j hj => ?_⟩⟩, fun a n c e => ?_⟩
 ·have := (hc 0 (by simp)).below hx hg
  simpa using this
 ·have := (hc (j + 1) (by simp; omega)).below hx hg
  rw [show f + 8 + j * 8 = f + (j + 1) * 8 by omega]
  simpa using this
 ·simp only [Value.slice.injEq] at e; omega
theorem Gl (q : Bo Ce) : ∀ v ∈ ZW Ce.cs q, v.oneCell' = true := fun v hv => by
 unfold ZW Ce.cs at hv
 simp only [List.mem_append, List.mem_cons, List.not_mem_nil, or_false] at hv
 rcases hv with ((hv | hv) | hv) <;> rcases hv with rfl | rfl | rfl | rfl | rfl | rfl | rfl | rfl <;> rfl
theorem Kk (D : List (Bo Ce)) (q : Bo Ce) : boV Ce.cs (D ++ [q]) = boV Ce.cs D ++ ZW Ce.cs q := by unfold boV; simp
theorem JaG (A B : List Ce) (u v : Value) (w : World) (hA : CeAt w u A) (hB : CeAt w v B) (hcu : ZC u) (hcv : ZC v) (hn : A.length ≤ 1000) (hm : B.length ≤ 1000) :
  Calls Tryz.prog 212 #[u, v] w fun e w' => ∃ q, e = .returned q ∧ w'.ownsRow w.heap.size 222 18 q (Jg zCe Zf A B).length (boV Ce.cs (Jg zCe Zf A B)) ∧ Below w.heap.size w w' := by
 have HA : Hid (Yv w u A) := ⟨fun wx h => hA.below h, hcu⟩
 have HB : Hid (Yv w v B) := ⟨fun wx h => hB.below h, hcv⟩
 obtain ⟨aa, ca, rfl, -⟩ := hA
 obtain ⟨ab, cb, rfl, -⟩ := hB
 obtain ⟨full, hfu⟩ : ∃ full, full = Jg zCe Zf A B := ⟨_, rfl⟩
 have HFU := Ja hfu
 rw [← hfu]
 obtain ⟨na, hna⟩ : ∃ n, n = A.length := ⟨_, rfl⟩
 obtain ⟨nb, hnb⟩ : ∃ n, n = B.length := ⟨_, rfl⟩
 obtain ⟨cells, hcz, hmk⟩ := Jhn w (na + nb) (by omega)
 have HLE : Hid (([] : List (Bo Ce)).length + A.length + B.length ≤ 2000) := by show _ ≤ _; simp; omega
 obtain ⟨X, hX⟩ : ∃ X, X = w.alloc (.cells cells 222) := ⟨_, rfl⟩
 have HO : Hid (X.ownsRow w.heap.size 222 18 (.slice (some ⟨w.heap.size, 0, none⟩) 0 (na + nb)) ([] : List (Bo Ce)).length (boV Ce.cs [])) := by
  show World.ownsRow _ _ _ _ _ _ _
  rw [hX]
  exact ⟨by simp [boV], .inr ⟨w.heap.size, na + nb, cells, rfl, Nat.le_refl _, V6 w _, Nat.zero_le _, by unfold maxLen; omega, hcz, by simp [boV]⟩⟩
 have HBX : Hid (Below w.heap.size w X) := by rw [hX]; exact (Below.refl _ _).alloc (Nat.le_refl _) _
 have HX : Hid (w.alloc (.cells cells 222) = X) := hX.symm
 have hw1 : IntKind.i64.wrap ((na : Int) + nb) = (na : Int) + nb := by rw [IntKind.wrap_i64] <;> omega
 have hmk2 : (Instr.makeSlice 252 (int i64 0) (int i64 ((na : Int) + nb))).run Tryz.prog w = .ok (.slice (some ⟨w.heap.size, 0, none⟩) 0 (na + nb)) (w.alloc (.cells cells 222)) := by have := hmk; rwa [show ((na + nb : Nat) : Int) = (na : Int) + nb by omega] at this
 rw [← hna, ← hnb]
 rw [← hna] at HA
 rw [← hnb] at HB
 obtain ⟨i0, hi, hz0, hz1, hz2⟩ := info_parts Ja3
 clear hfu hX hmk hna hnb hn hm hcz hcu hcv
 go_enter Tryz.func212, Tryz.ntmps212
 go_wp2
 rw [HX.out]
 clear HX hmk2 hw1
 go_loopw [0, 1, 5] (fun x y q wr => ∃ (A' B' : List Ce) (D : List (Bo Ce)), Yv w x A' ∧ Yv w y B' ∧ wr.ownsRow w.heap.size 222 18 q D.length (boV Ce.cs D) ∧ full = D ++ Jg zCe Zf A' B' ∧ D.length + A'.length + B'.length ≤ 2000 ∧ Below w.heap.size w wr) (fun x y _ _ => Ky x + Ky y)
 case atStart => exact ⟨A, B, [], HA.out, HB.out, HO.out, HFU.out, HLE.out, HBX.out⟩
 case round =>
  clear HA HB HO HFU HLE HBX
  obtain ⟨A', B', D, hx, hy, hown, hful, hlen, hbel⟩ := hrel
  have HX := Ja hx
  have HY := Ja hy
  have HOW := Ja hown
  have HFU := Ja hful
  have HBE := Ja hbel
  have hsz := hbel.size
  obtain ⟨ax, cx, rfl, -⟩ := hx.1 w (Below.refl _ _)
  obtain ⟨ay, cy, rfl, -⟩ := hy.1 w (Below.refl _ _)
  clear hx hy hown hful

  match A', B', HX, HY, HFU, hlen with
  | [], [], HX, HY, HFU, hlen =>
   have HE : Hid (full = D) := by
    have := HFU.out
    rw [show Jg zCe Zf ([] : List Ce) [] = [] by unfold Jg; rfl, List.append_nil] at this
    exact this
   have HOE : Hid (wr.ownsRow w.heap.size 222 18 u5 full.length (boV Ce.cs full)) := by show World.ownsRow _ _ _ _ _ _ _; rw [HE.out]; exact HOW.out
   clear HOW hbel
   go_wp2
   go_ret
   exact ⟨_, rfl, HOE.out, HBE.out⟩
  | x :: A2, [], HX, HY, HFU, hlen =>
   obtain ⟨WW, hWW⟩ : ∃ WW, WW = wr.alloc (.cells #[.string ⟨#[]⟩, int i64 0, int i64 0, int i64 0, int i64 0, int i64 0, int i64 0, .bool false, .string ⟨#[]⟩, int i64 0, int i64 0, int i64 0, int i64 0, int i64 0, int i64 0, .bool false, .bool false, .bool false] 222) := ⟨_, rfl⟩
   have hRW : Row WW wr.heap.size #[.string ⟨#[]⟩, int i64 0, int i64 0, int i64 0, int i64 0, int i64 0, int i64 0, .bool false, .string ⟨#[]⟩, int i64 0, int i64 0, int i64 0, int i64 0, int i64 0, int i64 0, .bool false, .bool false, .bool false] 222 := by rw [hWW]; exact Jb wr _ _ rfl
   have HBA : Hid (Below w.heap.size w WW) := by rw [hWW]; exact HBE.out.alloc hsz _
   have HOA : Hid (WW.ownsRow w.heap.size 222 18 u5 D.length (boV Ce.cs D)) := by rw [hWW]; exact HOW.out.alloc _
   have HWW : Hid (wr.alloc (.cells #[.string ⟨#[]⟩, int i64 0, int i64 0, int i64 0, int i64 0, int i64 0, int i64 0, .bool false, .string ⟨#[]⟩, int i64 0, int i64 0, int i64 0, int i64 0, int i64 0, int i64 0, .bool false, .bool false, .bool false] 222) = WW) := hWW.symm
   have HFO := Ja (Kz (x :: A2) ([]) _ _ WW (HX.out.1 WW HBA.out) (HY.out.1 WW HBA.out))
   simp only [List.length_cons, List.length_nil] at HX HY HFO hlen ⊢
   have HOBL : Hid (∀ j, u5.ownBlock = some j → w.heap.size ≤ j ∧ j < wr.heap.size) := fun j hj => HOW.out.lt j hj
   have HNE : Hid (∀ j, u5.ownBlock = some j → j ≠ wr.heap.size) := fun j hj => by have := (HOBL.out j hj).2; omega
   clear hWW HOW hbel
   obtain ⟨g, f, rfl, hcx, htl⟩ := KX HX.out
   have HTL := Ja htl
   rw [show GL Zf (x :: A2) [] = -1 from rfl] at HFO
   have HE : Hid (full = (D ++ [(⟨x, zCe, true, false⟩ : Bo Ce)]) ++ Jg zCe Zf A2 []) := by
    show _ = _
    rw [HFU.out, show Jg zCe Zf (x :: A2) [] = ⟨x, zCe, true, false⟩ :: Jg zCe Zf A2 [] by rw [Jg]]; simp
   obtain ⟨n, hn⟩ : ∃ n, n = A2.length := ⟨_, rfl⟩
   have hn2 : 0 < n + 1 := by omega
   rw [← hn] at HX HFO HTL hlen ⊢
   have HN := Ja hn
   clear hn htl
   go_wp2_with fail
   rw [HWW.out]
   refine HFO.out.mono ?_
   rintro e w2 ⟨rfl, hb2⟩
   have HB2 : Hid (Below w.heap.size w w2) := HBA.out.trans (hb2.mono HBA.out.size)
   have HO2 := Ja (Jf HOA.out hb2)
   have HP2 := Ja (hRW.next hb2)
   have HWS : Hid (w.heap.size ≤ wr.heap.size) := hsz
   have hx2 := hcx w2 HB2.out
   unfold ceC at hx2
   obtain ⟨xq0, xq1, xq2, xq3, xq4, xq5, xq6, xq7⟩ := hx2
   obtain ⟨d0, d1, d2, d3, d4, d5, d6, d7, d8, d9, d10, d11, d12, d13, d14, d15, d16, d17⟩ := VZ HP2.out
   obtain ⟨e0, e1, e2, e3, e4, e5, e6, e7, e8, e9, e10, e11, e12, e13, e14, e15, e16, e17⟩ := VW HP2.out
   clear HWW HFO hb2 hRW HOA HBA
   go_wp2
   go_region
   obtain ⟨AX, hAX⟩ : ∃ a : Option Addr, a = if cx = 1 then some ⟨g, f, none⟩ else some ⟨g, f + 8, none⟩ := ⟨_, rfl⟩
   rw [← hAX] at HTL ⊢
   clear hAX
   clear d0 e0 d1 e1 d2 e2 d3 e3 d4 e4 d5 e5 d6 e6 d7 e7 d8 e8 d9 e9 d10 e10 d11 e11 d12 e12 d13 e13 d14 e14 d15 e15 d16 e16 d17 e17
   obtain ⟨w3, hw⟩ : ∃ W, W = (((((((((w2.setCell ⟨wr.heap.size, 0, none⟩ (.string x.o)).setCell ⟨wr.heap.size, 1, none⟩ (int i64 x.r)).setCell ⟨wr.heap.size, 2, none⟩ (int i64 x.s)).setCell ⟨wr.heap.size, 3, none⟩ (int i64 x.t)).setCell ⟨wr.heap.size, 4, none⟩ (int i64 x.x)).setCell ⟨wr.heap.size, 5, none⟩ (int i64 x.z)).setCell ⟨wr.heap.size, 6, none⟩ (int i64 x.v)).setCell ⟨wr.heap.size, 7, none⟩ (.bool x.g)).setCell ⟨wr.heap.size, 16, none⟩ (.bool true)).drew := ⟨_, rfl⟩
   rw [← hw]
   have HP3 : Hid (Row w3 wr.heap.size #[.string x.o, int i64 x.r, int i64 x.s, int i64 x.t, int i64 x.x, int i64 x.z, int i64 x.v, .bool x.g, .string ⟨#[]⟩, int i64 0, int i64 0, int i64 0, int i64 0, int i64 0, int i64 0, .bool false, .bool true, .bool false] 222) := by rw [hw]; exact (((((((((HP2.out.setL 0 _).setL 1 _).setL 2 _).setL 3 _).setL 4 _).setL 5 _).setL 6 _).setL 7 _).setL 16 _).next (Below.drew (Below.refl _ _))
   have HO3 : Hid (w3.ownsRow w.heap.size 222 18 u5 D.length (boV Ce.cs D)) := by rw [hw]; exact World.ownsRow.drew (Jc (Jc (Jc (Jc (Jc (Jc (Jc (Jc (Jc HO2.out HNE.out) HNE.out) HNE.out) HNE.out) HNE.out) HNE.out) HNE.out) HNE.out) HNE.out)
   have HB3 : Hid (Below w.heap.size w w3) := by rw [hw]; exact (((((((((HB2.out.setCell (p := ⟨wr.heap.size, 0, none⟩) HWS.out _).setCell (p := ⟨wr.heap.size, 1, none⟩) HWS.out _).setCell (p := ⟨wr.heap.size, 2, none⟩) HWS.out _).setCell (p := ⟨wr.heap.size, 3, none⟩) HWS.out _).setCell (p := ⟨wr.heap.size, 4, none⟩) HWS.out _).setCell (p := ⟨wr.heap.size, 5, none⟩) HWS.out _).setCell (p := ⟨wr.heap.size, 6, none⟩) HWS.out _).setCell (p := ⟨wr.heap.size, 7, none⟩) HWS.out _).setCell (p := ⟨wr.heap.size, 16, none⟩) HWS.out _).drew
   clear hw HP2 HO2 HB2
   clear xq0 xq1 xq2 xq3 xq4 xq5 xq6 xq7
   have HLD : Hid ((loadCellsFrom ⟨wr.heap.size, 0, none⟩ 0 18 #[]).run Tryz.prog w3 = .ok #[.string x.o, int i64 x.r, int i64 x.s, int i64 x.t, int i64 x.x, int i64 x.z, int i64 x.v, .bool x.g, .string ⟨#[]⟩, int i64 0, int i64 0, int i64 0, int i64 0, int i64 0, int i64 0, .bool false, .bool true, .bool false] w3) := Jq HP3.out rfl
   go_wp2_with fail
   simp only [Tryz.isAgg222, Tryz.sizeOf222, Result.andThen_ok, if_true, HLD.out]
   clear HLD
   rename_i KK hKK
   refine hKK _ _ ?_
   refine wpList_buildSlice rfl 252 222 1 _ rfl #[.string x.o, int i64 x.r, int i64 x.s, int i64 x.t, int i64 x.x, int i64 x.z, int i64 x.v, .bool x.g, .string ⟨#[]⟩, int i64 0, int i64 0, int i64 0, int i64 0, int i64 0, int i64 0, .bool false, .bool true, .bool false] i0 (.agg #[.string ⟨#[]⟩, int i64 0, int i64 0, int i64 0, int i64 0, int i64 0, int i64 0, .bool false, .string ⟨#[]⟩, int i64 0, int i64 0, int i64 0, int i64 0, int i64 0, int i64 0, .bool false, .bool false, .bool false]) Tryz.underlying252 hi hz0 (by rw [hz1]; decide) (by rw [hz1]; decide) (by rw [hz1]; kernel_rfl) ?_
   have HOWN := Ja (HO3.out.alloc (.cells #[.string x.o, int i64 x.r, int i64 x.s, int i64 x.t, int i64 x.x, int i64 x.z, int i64 x.v, .bool x.g, .string ⟨#[]⟩, int i64 0, int i64 0, int i64 0, int i64 0, int i64 0, int i64 0, .bool false, .bool true, .bool false] 222))
   have HNN := Ja (Ji w3 [.string x.o, int i64 x.r, int i64 x.s, int i64 x.t, int i64 x.x, int i64 x.z, int i64 x.v, .bool x.g, .string ⟨#[]⟩, int i64 0, int i64 0, int i64 0, int i64 0, int i64 0, int i64 0, .bool false, .bool true, .bool false] 222 rfl)
   have HSZ : Hid (w.heap.size ≤ (w3.alloc (.cells #[.string x.o, int i64 x.r, int i64 x.s, int i64 x.t, int i64 x.x, int i64 x.z, int i64 x.v, .bool x.g, .string ⟨#[]⟩, int i64 0, int i64 0, int i64 0, int i64 0, int i64 0, int i64 0, .bool false, .bool true, .bool false] 222)).heap.size) := by show _ ≤ _; have := HB3.out.size; simp; omega
   have HBb := Ja (HB3.out.alloc HB3.out.size (.cells #[.string x.o, int i64 x.r, int i64 x.s, int i64 x.t, int i64 x.x, int i64 x.z, int i64 x.v, .bool x.g, .string ⟨#[]⟩, int i64 0, int i64 0, int i64 0, int i64 0, int i64 0, int i64 0, .bool false, .bool true, .bool false] 222))
   clear HO3
   go_wp2_with (at_builtin; refine wpList_append_own _ rfl _ _ 252 rfl w.heap.size 222 i0 (.agg #[.string ⟨#[]⟩, int i64 0, int i64 0, int i64 0, int i64 0, int i64 0, int i64 0, .bool false, .string ⟨#[]⟩, int i64 0, int i64 0, int i64 0, int i64 0, int i64 0, int i64 0, .bool false, .bool false, .bool false]) 18 152 Tryz.underlying252 hi hz0 hz1 hz2 rfl (by decide) _ _ _ rfl HOWN.out ⟨w3.heap.size, 0, none⟩ 1 1 [.string x.o, int i64 x.r, int i64 x.s, int i64 x.t, int i64 x.x, int i64 x.z, int i64 x.v, .bool x.g, .string ⟨#[]⟩, int i64 0, int i64 0, int i64 0, int i64 0, int i64 0, int i64 0, .bool false, .bool true, .bool false] rfl rfl HNN.out (Gl ((⟨x, zCe, true, false⟩ : Bo Ce) : Bo Ce)) (by unfold maxLen; omega) (by omega) HSZ.out ?_)
   intro v2 w9 hown9 hgrow hne2
   have HB9 := Ja (HBb.out.grown hgrow HSZ.out (fun j hj => (HOBL.out j hj).1))
   have HO9 : Hid (w9.ownsRow w.heap.size 222 18 v2 (D ++ [(⟨x, zCe, true, false⟩ : Bo Ce)]).length (boV Ce.cs (D ++ [(⟨x, zCe, true, false⟩ : Bo Ce)]))) := by
    show World.ownsRow _ _ _ _ _ _ _
    rw [Kk, List.length_append]; exact hown9
   clear hown9 hgrow hne2 HOWN HNN HSZ HBb
   go_wp2
   go_roundw
   case rel =>
    refine ⟨A2, [], D ++ [⟨x, zCe, true, false⟩], ?_, ?_, ?_, ?_, ?_, ?_⟩
    ·exact HTL.out
    ·exact HY.out
    ·exact HO9.out
    ·exact HE.out
    ·exact by have := HN.out; simp; omega
    ·exact HB9.out
   case measure => simp [Ky]; try omega
  | [], y :: B2, HX, HY, HFU, hlen =>
   obtain ⟨WW, hWW⟩ : ∃ WW, WW = wr.alloc (.cells #[.string ⟨#[]⟩, int i64 0, int i64 0, int i64 0, int i64 0, int i64 0, int i64 0, .bool false, .string ⟨#[]⟩, int i64 0, int i64 0, int i64 0, int i64 0, int i64 0, int i64 0, .bool false, .bool false, .bool false] 222) := ⟨_, rfl⟩
   have hRW : Row WW wr.heap.size #[.string ⟨#[]⟩, int i64 0, int i64 0, int i64 0, int i64 0, int i64 0, int i64 0, .bool false, .string ⟨#[]⟩, int i64 0, int i64 0, int i64 0, int i64 0, int i64 0, int i64 0, .bool false, .bool false, .bool false] 222 := by rw [hWW]; exact Jb wr _ _ rfl
   have HBA : Hid (Below w.heap.size w WW) := by rw [hWW]; exact HBE.out.alloc hsz _
   have HOA : Hid (WW.ownsRow w.heap.size 222 18 u5 D.length (boV Ce.cs D)) := by rw [hWW]; exact HOW.out.alloc _
   have HWW : Hid (wr.alloc (.cells #[.string ⟨#[]⟩, int i64 0, int i64 0, int i64 0, int i64 0, int i64 0, int i64 0, .bool false, .string ⟨#[]⟩, int i64 0, int i64 0, int i64 0, int i64 0, int i64 0, int i64 0, .bool false, .bool false, .bool false] 222) = WW) := hWW.symm
   have HFO := Ja (Kz ([]) (y :: B2) _ _ WW (HX.out.1 WW HBA.out) (HY.out.1 WW HBA.out))
   simp only [List.length_cons, List.length_nil] at HX HY HFO hlen ⊢
   have HOBL : Hid (∀ j, u5.ownBlock = some j → w.heap.size ≤ j ∧ j < wr.heap.size) := fun j hj => HOW.out.lt j hj
   have HNE : Hid (∀ j, u5.ownBlock = some j → j ≠ wr.heap.size) := fun j hj => by have := (HOBL.out j hj).2; omega
   clear hWW HOW hbel
   obtain ⟨g, f, rfl, hcy, htl⟩ := KX HY.out
   have HTL := Ja htl
   rw [show GL Zf [] (y :: B2) = 1 from rfl] at HFO
   have HE : Hid (full = (D ++ [(⟨zCe, y, false, true⟩ : Bo Ce)]) ++ Jg zCe Zf [] B2) := by
    show _ = _
    rw [HFU.out, show Jg zCe Zf [] (y :: B2) = ⟨zCe, y, false, true⟩ :: Jg zCe Zf [] B2 by rw [Jg]]; simp
   obtain ⟨n, hn⟩ : ∃ n, n = B2.length := ⟨_, rfl⟩
   have hn2 : 0 < n + 1 := by omega
   rw [← hn] at HY HFO HTL hlen ⊢
   have HN := Ja hn
   clear hn htl
   go_wp2_with fail
   rw [HWW.out]
   refine HFO.out.mono ?_
   rintro e w2 ⟨rfl, hb2⟩
   have HB2 : Hid (Below w.heap.size w w2) := HBA.out.trans (hb2.mono HBA.out.size)
   have HO2 := Ja (Jf HOA.out hb2)
   have HP2 := Ja (hRW.next hb2)
   have HWS : Hid (w.heap.size ≤ wr.heap.size) := hsz
   have hy2 := hcy w2 HB2.out
   unfold ceC at hy2
   obtain ⟨yq0, yq1, yq2, yq3, yq4, yq5, yq6, yq7⟩ := hy2
   obtain ⟨d0, d1, d2, d3, d4, d5, d6, d7, d8, d9, d10, d11, d12, d13, d14, d15, d16, d17⟩ := VZ HP2.out
   obtain ⟨e0, e1, e2, e3, e4, e5, e6, e7, e8, e9, e10, e11, e12, e13, e14, e15, e16, e17⟩ := VW HP2.out
   clear HWW HFO hb2 hRW HOA HBA
   go_wp2
   go_region
   obtain ⟨AX, hAX⟩ : ∃ a : Option Addr, a = if cy = 1 then some ⟨g, f, none⟩ else some ⟨g, f + 8, none⟩ := ⟨_, rfl⟩
   rw [← hAX] at HTL ⊢
   clear hAX
   clear d0 e0 d1 e1 d2 e2 d3 e3 d4 e4 d5 e5 d6 e6 d7 e7 d8 e8 d9 e9 d10 e10 d11 e11 d12 e12 d13 e13 d14 e14 d15 e15 d16 e16 d17 e17
   obtain ⟨w3, hw⟩ : ∃ W, W = (((((((((w2.setCell ⟨wr.heap.size, 8, none⟩ (.string y.o)).setCell ⟨wr.heap.size, 9, none⟩ (int i64 y.r)).setCell ⟨wr.heap.size, 10, none⟩ (int i64 y.s)).setCell ⟨wr.heap.size, 11, none⟩ (int i64 y.t)).setCell ⟨wr.heap.size, 12, none⟩ (int i64 y.x)).setCell ⟨wr.heap.size, 13, none⟩ (int i64 y.z)).setCell ⟨wr.heap.size, 14, none⟩ (int i64 y.v)).setCell ⟨wr.heap.size, 15, none⟩ (.bool y.g)).setCell ⟨wr.heap.size, 17, none⟩ (.bool true)).drew := ⟨_, rfl⟩
   rw [← hw]
   have HP3 : Hid (Row w3 wr.heap.size #[.string ⟨#[]⟩, int i64 0, int i64 0, int i64 0, int i64 0, int i64 0, int i64 0, .bool false, .string y.o, int i64 y.r, int i64 y.s, int i64 y.t, int i64 y.x, int i64 y.z, int i64 y.v, .bool y.g, .bool false, .bool true] 222) := by rw [hw]; exact (((((((((HP2.out.setL 8 _).setL 9 _).setL 10 _).setL 11 _).setL 12 _).setL 13 _).setL 14 _).setL 15 _).setL 17 _).next (Below.drew (Below.refl _ _))
   have HO3 : Hid (w3.ownsRow w.heap.size 222 18 u5 D.length (boV Ce.cs D)) := by rw [hw]; exact World.ownsRow.drew (Jc (Jc (Jc (Jc (Jc (Jc (Jc (Jc (Jc HO2.out HNE.out) HNE.out) HNE.out) HNE.out) HNE.out) HNE.out) HNE.out) HNE.out) HNE.out)
   have HB3 : Hid (Below w.heap.size w w3) := by rw [hw]; exact (((((((((HB2.out.setCell (p := ⟨wr.heap.size, 8, none⟩) HWS.out _).setCell (p := ⟨wr.heap.size, 9, none⟩) HWS.out _).setCell (p := ⟨wr.heap.size, 10, none⟩) HWS.out _).setCell (p := ⟨wr.heap.size, 11, none⟩) HWS.out _).setCell (p := ⟨wr.heap.size, 12, none⟩) HWS.out _).setCell (p := ⟨wr.heap.size, 13, none⟩) HWS.out _).setCell (p := ⟨wr.heap.size, 14, none⟩) HWS.out _).setCell (p := ⟨wr.heap.size, 15, none⟩) HWS.out _).setCell (p := ⟨wr.heap.size, 17, none⟩) HWS.out _).drew
   clear hw HP2 HO2 HB2
   clear yq0 yq1 yq2 yq3 yq4 yq5 yq6 yq7
   have HLD : Hid ((loadCellsFrom ⟨wr.heap.size, 0, none⟩ 0 18 #[]).run Tryz.prog w3 = .ok #[.string ⟨#[]⟩, int i64 0, int i64 0, int i64 0, int i64 0, int i64 0, int i64 0, .bool false, .string y.o, int i64 y.r, int i64 y.s, int i64 y.t, int i64 y.x, int i64 y.z, int i64 y.v, .bool y.g, .bool false, .bool true] w3) := Jq HP3.out rfl
   go_wp2_with fail
   simp only [Tryz.isAgg222, Tryz.sizeOf222, Result.andThen_ok, if_true, HLD.out]
   clear HLD
   rename_i KK hKK
   refine hKK _ _ ?_
   refine wpList_buildSlice rfl 252 222 1 _ rfl #[.string ⟨#[]⟩, int i64 0, int i64 0, int i64 0, int i64 0, int i64 0, int i64 0, .bool false, .string y.o, int i64 y.r, int i64 y.s, int i64 y.t, int i64 y.x, int i64 y.z, int i64 y.v, .bool y.g, .bool false, .bool true] i0 (.agg #[.string ⟨#[]⟩, int i64 0, int i64 0, int i64 0, int i64 0, int i64 0, int i64 0, .bool false, .string ⟨#[]⟩, int i64 0, int i64 0, int i64 0, int i64 0, int i64 0, int i64 0, .bool false, .bool false, .bool false]) Tryz.underlying252 hi hz0 (by rw [hz1]; decide) (by rw [hz1]; decide) (by rw [hz1]; kernel_rfl) ?_
   have HOWN := Ja (HO3.out.alloc (.cells #[.string ⟨#[]⟩, int i64 0, int i64 0, int i64 0, int i64 0, int i64 0, int i64 0, .bool false, .string y.o, int i64 y.r, int i64 y.s, int i64 y.t, int i64 y.x, int i64 y.z, int i64 y.v, .bool y.g, .bool false, .bool true] 222))
   have HNN := Ja (Ji w3 [.string ⟨#[]⟩, int i64 0, int i64 0, int i64 0, int i64 0, int i64 0, int i64 0, .bool false, .string y.o, int i64 y.r, int i64 y.s, int i64 y.t, int i64 y.x, int i64 y.z, int i64 y.v, .bool y.g, .bool false, .bool true] 222 rfl)
   have HSZ : Hid (w.heap.size ≤ (w3.alloc (.cells #[.string ⟨#[]⟩, int i64 0, int i64 0, int i64 0, int i64 0, int i64 0, int i64 0, .bool false, .string y.o, int i64 y.r, int i64 y.s, int i64 y.t, int i64 y.x, int i64 y.z, int i64 y.v, .bool y.g, .bool false, .bool true] 222)).heap.size) := by show _ ≤ _; have := HB3.out.size; simp; omega
   have HBb := Ja (HB3.out.alloc HB3.out.size (.cells #[.string ⟨#[]⟩, int i64 0, int i64 0, int i64 0, int i64 0, int i64 0, int i64 0, .bool false, .string y.o, int i64 y.r, int i64 y.s, int i64 y.t, int i64 y.x, int i64 y.z, int i64 y.v, .bool y.g, .bool false, .bool true] 222))
   clear HO3
   go_wp2_with (at_builtin; refine wpList_append_own _ rfl _ _ 252 rfl w.heap.size 222 i0 (.agg #[.string ⟨#[]⟩, int i64 0, int i64 0, int i64 0, int i64 0, int i64 0, int i64 0, .bool false, .string ⟨#[]⟩, int i64 0, int i64 0, int i64 0, int i64 0, int i64 0, int i64 0, .bool false, .bool false, .bool false]) 18 152 Tryz.underlying252 hi hz0 hz1 hz2 rfl (by decide) _ _ _ rfl HOWN.out ⟨w3.heap.size, 0, none⟩ 1 1 [.string ⟨#[]⟩, int i64 0, int i64 0, int i64 0, int i64 0, int i64 0, int i64 0, .bool false, .string y.o, int i64 y.r, int i64 y.s, int i64 y.t, int i64 y.x, int i64 y.z, int i64 y.v, .bool y.g, .bool false, .bool true] rfl rfl HNN.out (Gl ((⟨zCe, y, false, true⟩ : Bo Ce) : Bo Ce)) (by unfold maxLen; omega) (by omega) HSZ.out ?_)
   intro v2 w9 hown9 hgrow hne2
   have HB9 := Ja (HBb.out.grown hgrow HSZ.out (fun j hj => (HOBL.out j hj).1))
   have HO9 : Hid (w9.ownsRow w.heap.size 222 18 v2 (D ++ [(⟨zCe, y, false, true⟩ : Bo Ce)]).length (boV Ce.cs (D ++ [(⟨zCe, y, false, true⟩ : Bo Ce)]))) := by
    show World.ownsRow _ _ _ _ _ _ _
    rw [Kk, List.length_append]; exact hown9
   clear hown9 hgrow hne2 HOWN HNN HSZ HBb
   go_wp2
   go_roundw
   case rel =>
    refine ⟨[], B2, D ++ [⟨zCe, y, false, true⟩], ?_, ?_, ?_, ?_, ?_, ?_⟩
    ·exact HX.out
    ·exact HTL.out
    ·exact HO9.out
    ·exact HE.out
    ·exact by have := HN.out; simp; omega
    ·exact HB9.out
   case measure => simp [Ky]; try omega
  | x :: A2, y :: B2, HX, HY, HFU, hlen =>
   obtain ⟨WW, hWW⟩ : ∃ WW, WW = wr.alloc (.cells #[.string ⟨#[]⟩, int i64 0, int i64 0, int i64 0, int i64 0, int i64 0, int i64 0, .bool false, .string ⟨#[]⟩, int i64 0, int i64 0, int i64 0, int i64 0, int i64 0, int i64 0, .bool false, .bool false, .bool false] 222) := ⟨_, rfl⟩
   have hRW : Row WW wr.heap.size #[.string ⟨#[]⟩, int i64 0, int i64 0, int i64 0, int i64 0, int i64 0, int i64 0, .bool false, .string ⟨#[]⟩, int i64 0, int i64 0, int i64 0, int i64 0, int i64 0, int i64 0, .bool false, .bool false, .bool false] 222 := by rw [hWW]; exact Jb wr _ _ rfl
   have HBA : Hid (Below w.heap.size w WW) := by rw [hWW]; exact HBE.out.alloc hsz _
   have HOA : Hid (WW.ownsRow w.heap.size 222 18 u5 D.length (boV Ce.cs D)) := by rw [hWW]; exact HOW.out.alloc _
   have HWW : Hid (wr.alloc (.cells #[.string ⟨#[]⟩, int i64 0, int i64 0, int i64 0, int i64 0, int i64 0, int i64 0, .bool false, .string ⟨#[]⟩, int i64 0, int i64 0, int i64 0, int i64 0, int i64 0, int i64 0, .bool false, .bool false, .bool false] 222) = WW) := hWW.symm
   have HFO := Ja (Kz (x :: A2) (y :: B2) _ _ WW (HX.out.1 WW HBA.out) (HY.out.1 WW HBA.out))
   simp only [List.length_cons] at HX HY HFO hlen ⊢
   have HOBL : Hid (∀ j, u5.ownBlock = some j → w.heap.size ≤ j ∧ j < wr.heap.size) := fun j hj => HOW.out.lt j hj
   have HNE : Hid (∀ j, u5.ownBlock = some j → j ≠ wr.heap.size) := fun j hj => by have := (HOBL.out j hj).2; omega
   clear hWW HOW hbel
   obtain ⟨g, f, rfl, hcx, htx⟩ := KX HX.out
   obtain ⟨g2, f2, rfl, hcy, hty⟩ := KX HY.out
   have HTX := Ja htx
   have HTY := Ja hty
   obtain ⟨R, hR⟩ : ∃ R, R = Zf x y := ⟨_, rfl⟩
   rw [show GL Zf (x :: A2) (y :: B2) = Zf x y from rfl, ← hR] at HFO
   have HE1 : Hid (R < 0 → full = (D ++ [(⟨x, zCe, true, false⟩ : Bo Ce)]) ++ Jg zCe Zf A2 (y :: B2)) := fun h => by
    rw [HFU.out, show Jg zCe Zf (x :: A2) (y :: B2) = ⟨x, zCe, true, false⟩ :: Jg zCe Zf A2 (y :: B2) by rw [Jg, if_pos (by rw [← hR]; exact h)]]; simp
   have HE2 : Hid (R = 0 → full = (D ++ [(⟨x, y, true, true⟩ : Bo Ce)]) ++ Jg zCe Zf A2 B2) := fun h => by
    rw [HFU.out, show Jg zCe Zf (x :: A2) (y :: B2) = ⟨x, y, true, true⟩ :: Jg zCe Zf A2 B2 by rw [Jg, if_neg (by rw [← hR]; omega), if_pos (by rw [← hR]; exact h)]]; simp
   have HE3 : Hid (0 < R → full = (D ++ [(⟨zCe, y, false, true⟩ : Bo Ce)]) ++ Jg zCe Zf (x :: A2) B2) := fun h => by
    rw [HFU.out, show Jg zCe Zf (x :: A2) (y :: B2) = ⟨zCe, y, false, true⟩ :: Jg zCe Zf (x :: A2) B2 by rw [Jg, if_neg (by rw [← hR]; omega), if_neg (by rw [← hR]; omega)]]; simp
   obtain ⟨n, hn⟩ : ∃ n, n = A2.length := ⟨_, rfl⟩
   obtain ⟨m, hm⟩ : ∃ m, m = B2.length := ⟨_, rfl⟩
   have hn2 : 0 < n + 1 := by omega
   have hm2 : 0 < m + 1 := by omega
   rw [← hn] at HX HFO HTX hlen ⊢
   rw [← hm] at HY HFO HTY hlen ⊢
   have HN := Ja hn
   have HM := Ja hm
   clear hn hm htx hty hR
   go_wp2_with fail
   rw [HWW.out]
   refine HFO.out.mono ?_
   rintro e w2 ⟨rfl, hb2⟩
   have HB2 : Hid (Below w.heap.size w w2) := HBA.out.trans (hb2.mono HBA.out.size)
   have HO2 := Ja (Jf HOA.out hb2)
   have HP2 := Ja (hRW.next hb2)
   have HWS : Hid (w.heap.size ≤ wr.heap.size) := hsz
   have hx2 := hcx w2 HB2.out
   unfold ceC at hx2
   obtain ⟨xq0, xq1, xq2, xq3, xq4, xq5, xq6, xq7⟩ := hx2
   have hy2 := hcy w2 HB2.out
   unfold ceC at hy2
   obtain ⟨yq0, yq1, yq2, yq3, yq4, yq5, yq6, yq7⟩ := hy2
   obtain ⟨d0, d1, d2, d3, d4, d5, d6, d7, d8, d9, d10, d11, d12, d13, d14, d15, d16, d17⟩ := VZ HP2.out
   obtain ⟨e0, e1, e2, e3, e4, e5, e6, e7, e8, e9, e10, e11, e12, e13, e14, e15, e16, e17⟩ := VW HP2.out
   clear HWW HFO hb2 hRW HOA HBA
   rcases Int.lt_trichotomy R 0 with hr | hr | hr
   ·have HE := Ja (HE1.out hr)
    have hr1 : R ≤ 0 := by omega
    have hr2 : ¬ 0 ≤ R := by omega
    clear HE1 HE2 HE3 HTY
    go_wp2
    go_region
    obtain ⟨AX, hAX⟩ : ∃ a : Option Addr, a = if cx = 1 then some ⟨g, f, none⟩ else some ⟨g, f + 8, none⟩ := ⟨_, rfl⟩
    rw [← hAX] at HTX ⊢
    clear hAX
    clear d0 e0 d1 e1 d2 e2 d3 e3 d4 e4 d5 e5 d6 e6 d7 e7 d8 e8 d9 e9 d10 e10 d11 e11 d12 e12 d13 e13 d14 e14 d15 e15 d16 e16 d17 e17
    obtain ⟨w3, hw⟩ : ∃ W, W = (((((((((w2.setCell ⟨wr.heap.size, 0, none⟩ (.string x.o)).setCell ⟨wr.heap.size, 1, none⟩ (int i64 x.r)).setCell ⟨wr.heap.size, 2, none⟩ (int i64 x.s)).setCell ⟨wr.heap.size, 3, none⟩ (int i64 x.t)).setCell ⟨wr.heap.size, 4, none⟩ (int i64 x.x)).setCell ⟨wr.heap.size, 5, none⟩ (int i64 x.z)).setCell ⟨wr.heap.size, 6, none⟩ (int i64 x.v)).setCell ⟨wr.heap.size, 7, none⟩ (.bool x.g)).setCell ⟨wr.heap.size, 16, none⟩ (.bool true)).drew := ⟨_, rfl⟩
    rw [← hw]
    have HP3 : Hid (Row w3 wr.heap.size #[.string x.o, int i64 x.r, int i64 x.s, int i64 x.t, int i64 x.x, int i64 x.z, int i64 x.v, .bool x.g, .string ⟨#[]⟩, int i64 0, int i64 0, int i64 0, int i64 0, int i64 0, int i64 0, .bool false, .bool true, .bool false] 222) := by rw [hw]; exact (((((((((HP2.out.setL 0 _).setL 1 _).setL 2 _).setL 3 _).setL 4 _).setL 5 _).setL 6 _).setL 7 _).setL 16 _).next (Below.drew (Below.refl _ _))
    have HO3 : Hid (w3.ownsRow w.heap.size 222 18 u5 D.length (boV Ce.cs D)) := by rw [hw]; exact World.ownsRow.drew (Jc (Jc (Jc (Jc (Jc (Jc (Jc (Jc (Jc HO2.out HNE.out) HNE.out) HNE.out) HNE.out) HNE.out) HNE.out) HNE.out) HNE.out) HNE.out)
    have HB3 : Hid (Below w.heap.size w w3) := by rw [hw]; exact (((((((((HB2.out.setCell (p := ⟨wr.heap.size, 0, none⟩) HWS.out _).setCell (p := ⟨wr.heap.size, 1, none⟩) HWS.out _).setCell (p := ⟨wr.heap.size, 2, none⟩) HWS.out _).setCell (p := ⟨wr.heap.size, 3, none⟩) HWS.out _).setCell (p := ⟨wr.heap.size, 4, none⟩) HWS.out _).setCell (p := ⟨wr.heap.size, 5, none⟩) HWS.out _).setCell (p := ⟨wr.heap.size, 6, none⟩) HWS.out _).setCell (p := ⟨wr.heap.size, 7, none⟩) HWS.out _).setCell (p := ⟨wr.heap.size, 16, none⟩) HWS.out _).drew
    clear hw HP2 HO2 HB2
    clear xq0 yq0 xq1 yq1 xq2 yq2 xq3 yq3 xq4 yq4 xq5 yq5 xq6 yq6 xq7 yq7
    have HLD : Hid ((loadCellsFrom ⟨wr.heap.size, 0, none⟩ 0 18 #[]).run Tryz.prog w3 = .ok #[.string x.o, int i64 x.r, int i64 x.s, int i64 x.t, int i64 x.x, int i64 x.z, int i64 x.v, .bool x.g, .string ⟨#[]⟩, int i64 0, int i64 0, int i64 0, int i64 0, int i64 0, int i64 0, .bool false, .bool true, .bool false] w3) := Jq HP3.out rfl
    go_wp2_with fail
    simp only [Tryz.isAgg222, Tryz.sizeOf222, Result.andThen_ok, if_true, HLD.out]
    clear HLD
    rename_i KK hKK
    refine hKK _ _ ?_
    refine wpList_buildSlice rfl 252 222 1 _ rfl #[.string x.o, int i64 x.r, int i64 x.s, int i64 x.t, int i64 x.x, int i64 x.z, int i64 x.v, .bool x.g, .string ⟨#[]⟩, int i64 0, int i64 0, int i64 0, int i64 0, int i64 0, int i64 0, .bool false, .bool true, .bool false] i0 (.agg #[.string ⟨#[]⟩, int i64 0, int i64 0, int i64 0, int i64 0, int i64 0, int i64 0, .bool false, .string ⟨#[]⟩, int i64 0, int i64 0, int i64 0, int i64 0, int i64 0, int i64 0, .bool false, .bool false, .bool false]) Tryz.underlying252 hi hz0 (by rw [hz1]; decide) (by rw [hz1]; decide) (by rw [hz1]; kernel_rfl) ?_
    have HOWN := Ja (HO3.out.alloc (.cells #[.string x.o, int i64 x.r, int i64 x.s, int i64 x.t, int i64 x.x, int i64 x.z, int i64 x.v, .bool x.g, .string ⟨#[]⟩, int i64 0, int i64 0, int i64 0, int i64 0, int i64 0, int i64 0, .bool false, .bool true, .bool false] 222))
    have HNN := Ja (Ji w3 [.string x.o, int i64 x.r, int i64 x.s, int i64 x.t, int i64 x.x, int i64 x.z, int i64 x.v, .bool x.g, .string ⟨#[]⟩, int i64 0, int i64 0, int i64 0, int i64 0, int i64 0, int i64 0, .bool false, .bool true, .bool false] 222 rfl)
    have HSZ : Hid (w.heap.size ≤ (w3.alloc (.cells #[.string x.o, int i64 x.r, int i64 x.s, int i64 x.t, int i64 x.x, int i64 x.z, int i64 x.v, .bool x.g, .string ⟨#[]⟩, int i64 0, int i64 0, int i64 0, int i64 0, int i64 0, int i64 0, .bool false, .bool true, .bool false] 222)).heap.size) := by show _ ≤ _; have := HB3.out.size; simp; omega
    have HBb := Ja (HB3.out.alloc HB3.out.size (.cells #[.string x.o, int i64 x.r, int i64 x.s, int i64 x.t, int i64 x.x, int i64 x.z, int i64 x.v, .bool x.g, .string ⟨#[]⟩, int i64 0, int i64 0, int i64 0, int i64 0, int i64 0, int i64 0, .bool false, .bool true, .bool false] 222))
    clear HO3
    go_wp2_with (at_builtin; refine wpList_append_own _ rfl _ _ 252 rfl w.heap.size 222 i0 (.agg #[.string ⟨#[]⟩, int i64 0, int i64 0, int i64 0, int i64 0, int i64 0, int i64 0, .bool false, .string ⟨#[]⟩, int i64 0, int i64 0, int i64 0, int i64 0, int i64 0, int i64 0, .bool false, .bool false, .bool false]) 18 152 Tryz.underlying252 hi hz0 hz1 hz2 rfl (by decide) _ _ _ rfl HOWN.out ⟨w3.heap.size, 0, none⟩ 1 1 [.string x.o, int i64 x.r, int i64 x.s, int i64 x.t, int i64 x.x, int i64 x.z, int i64 x.v, .bool x.g, .string ⟨#[]⟩, int i64 0, int i64 0, int i64 0, int i64 0, int i64 0, int i64 0, .bool false, .bool true, .bool false] rfl rfl HNN.out (Gl ((⟨x, zCe, true, false⟩ : Bo Ce) : Bo Ce)) (by unfold maxLen; omega) (by omega) HSZ.out ?_)
    intro v2 w9 hown9 hgrow hne2
    have HB9 := Ja (HBb.out.grown hgrow HSZ.out (fun j hj => (HOBL.out j hj).1))
    have HO9 : Hid (w9.ownsRow w.heap.size 222 18 v2 (D ++ [(⟨x, zCe, true, false⟩ : Bo Ce)]).length (boV Ce.cs (D ++ [(⟨x, zCe, true, false⟩ : Bo Ce)]))) := by
     show World.ownsRow _ _ _ _ _ _ _
     rw [Kk, List.length_append]; exact hown9
    clear hown9 hgrow hne2 HOWN HNN HSZ HBb
    go_wp2
    go_roundw
    case rel =>
     refine ⟨A2, y :: B2, D ++ [⟨x, zCe, true, false⟩], ?_, ?_, ?_, ?_, ?_, ?_⟩
     ·exact HTX.out
     ·exact by simpa only [List.length_cons, HM.out] using HY.out
     ·exact HO9.out
     ·exact HE.out
     ·exact by have := HN.out; have := HM.out; simp; omega
     ·exact HB9.out
    case measure => simp [Ky]; try omega
   ·have HE := Ja (HE2.out hr)
    have hr1 : R ≤ 0 := by omega
    have hr2 : 0 ≤ R := by omega
    clear HE1 HE2 HE3 hr
    go_wp2
    go_region
    obtain ⟨AX, hAX⟩ : ∃ a : Option Addr, a = if cx = 1 then some ⟨g, f, none⟩ else some ⟨g, f + 8, none⟩ := ⟨_, rfl⟩
    rw [← hAX] at HTX ⊢
    clear hAX
    clear d0 e0 d1 e1 d2 e2 d3 e3 d4 e4 d5 e5 d6 e6 d7 e7 d8 e8 d9 e9 d10 e10 d11 e11 d12 e12 d13 e13 d14 e14 d15 e15 d16 e16 d17 e17
    obtain ⟨w3, hw⟩ : ∃ W, W = (((((((((w2.setCell ⟨wr.heap.size, 0, none⟩ (.string x.o)).setCell ⟨wr.heap.size, 1, none⟩ (int i64 x.r)).setCell ⟨wr.heap.size, 2, none⟩ (int i64 x.s)).setCell ⟨wr.heap.size, 3, none⟩ (int i64 x.t)).setCell ⟨wr.heap.size, 4, none⟩ (int i64 x.x)).setCell ⟨wr.heap.size, 5, none⟩ (int i64 x.z)).setCell ⟨wr.heap.size, 6, none⟩ (int i64 x.v)).setCell ⟨wr.heap.size, 7, none⟩ (.bool x.g)).setCell ⟨wr.heap.size, 16, none⟩ (.bool true)).drew := ⟨_, rfl⟩
    rw [← hw]
    have HP3 : Hid (Row w3 wr.heap.size #[.string x.o, int i64 x.r, int i64 x.s, int i64 x.t, int i64 x.x, int i64 x.z, int i64 x.v, .bool x.g, .string ⟨#[]⟩, int i64 0, int i64 0, int i64 0, int i64 0, int i64 0, int i64 0, .bool false, .bool true, .bool false] 222) := by rw [hw]; exact (((((((((HP2.out.setL 0 _).setL 1 _).setL 2 _).setL 3 _).setL 4 _).setL 5 _).setL 6 _).setL 7 _).setL 16 _).next (Below.drew (Below.refl _ _))
    have HO3 : Hid (w3.ownsRow w.heap.size 222 18 u5 D.length (boV Ce.cs D)) := by rw [hw]; exact World.ownsRow.drew (Jc (Jc (Jc (Jc (Jc (Jc (Jc (Jc (Jc HO2.out HNE.out) HNE.out) HNE.out) HNE.out) HNE.out) HNE.out) HNE.out) HNE.out) HNE.out)
    have HB3 : Hid (Below w.heap.size w w3) := by rw [hw]; exact (((((((((HB2.out.setCell (p := ⟨wr.heap.size, 0, none⟩) HWS.out _).setCell (p := ⟨wr.heap.size, 1, none⟩) HWS.out _).setCell (p := ⟨wr.heap.size, 2, none⟩) HWS.out _).setCell (p := ⟨wr.heap.size, 3, none⟩) HWS.out _).setCell (p := ⟨wr.heap.size, 4, none⟩) HWS.out _).setCell (p := ⟨wr.heap.size, 5, none⟩) HWS.out _).setCell (p := ⟨wr.heap.size, 6, none⟩) HWS.out _).setCell (p := ⟨wr.heap.size, 7, none⟩) HWS.out _).setCell (p := ⟨wr.heap.size, 16, none⟩) HWS.out _).drew
    clear hw HP2 HO2 HB2
    clear xq0 yq0 xq1 yq1 xq2 yq2 xq3 yq3 xq4 yq4 xq5 yq5 xq6 yq6 xq7 yq7
    have hy3 := hcy w3 HB3.out
    unfold ceC at hy3
    obtain ⟨yq0, yq1, yq2, yq3, yq4, yq5, yq6, yq7⟩ := hy3
    obtain ⟨d0, d1, d2, d3, d4, d5, d6, d7, d8, d9, d10, d11, d12, d13, d14, d15, d16, d17⟩ := VZ HP3.out
    obtain ⟨e0, e1, e2, e3, e4, e5, e6, e7, e8, e9, e10, e11, e12, e13, e14, e15, e16, e17⟩ := VW HP3.out
    go_wp2
    go_region
    obtain ⟨AY, hAX⟩ : ∃ a : Option Addr, a = if cy = 1 then some ⟨g2, f2, none⟩ else some ⟨g2, f2 + 8, none⟩ := ⟨_, rfl⟩
    rw [← hAX] at HTY ⊢
    clear hAX
    clear d0 e0 d1 e1 d2 e2 d3 e3 d4 e4 d5 e5 d6 e6 d7 e7 d8 e8 d9 e9 d10 e10 d11 e11 d12 e12 d13 e13 d14 e14 d15 e15 d16 e16 d17 e17
    obtain ⟨w4, hw⟩ : ∃ W, W = (((((((((w3.setCell ⟨wr.heap.size, 8, none⟩ (.string y.o)).setCell ⟨wr.heap.size, 9, none⟩ (int i64 y.r)).setCell ⟨wr.heap.size, 10, none⟩ (int i64 y.s)).setCell ⟨wr.heap.size, 11, none⟩ (int i64 y.t)).setCell ⟨wr.heap.size, 12, none⟩ (int i64 y.x)).setCell ⟨wr.heap.size, 13, none⟩ (int i64 y.z)).setCell ⟨wr.heap.size, 14, none⟩ (int i64 y.v)).setCell ⟨wr.heap.size, 15, none⟩ (.bool y.g)).setCell ⟨wr.heap.size, 17, none⟩ (.bool true)).drew := ⟨_, rfl⟩
    rw [← hw]
    have HP4 : Hid (Row w4 wr.heap.size #[.string x.o, int i64 x.r, int i64 x.s, int i64 x.t, int i64 x.x, int i64 x.z, int i64 x.v, .bool x.g, .string y.o, int i64 y.r, int i64 y.s, int i64 y.t, int i64 y.x, int i64 y.z, int i64 y.v, .bool y.g, .bool true, .bool true] 222) := by rw [hw]; exact (((((((((HP3.out.setL 8 _).setL 9 _).setL 10 _).setL 11 _).setL 12 _).setL 13 _).setL 14 _).setL 15 _).setL 17 _).next (Below.drew (Below.refl _ _))
    have HO4 : Hid (w4.ownsRow w.heap.size 222 18 u5 D.length (boV Ce.cs D)) := by rw [hw]; exact World.ownsRow.drew (Jc (Jc (Jc (Jc (Jc (Jc (Jc (Jc (Jc HO3.out HNE.out) HNE.out) HNE.out) HNE.out) HNE.out) HNE.out) HNE.out) HNE.out) HNE.out)
    have HB4 : Hid (Below w.heap.size w w4) := by rw [hw]; exact (((((((((HB3.out.setCell (p := ⟨wr.heap.size, 8, none⟩) HWS.out _).setCell (p := ⟨wr.heap.size, 9, none⟩) HWS.out _).setCell (p := ⟨wr.heap.size, 10, none⟩) HWS.out _).setCell (p := ⟨wr.heap.size, 11, none⟩) HWS.out _).setCell (p := ⟨wr.heap.size, 12, none⟩) HWS.out _).setCell (p := ⟨wr.heap.size, 13, none⟩) HWS.out _).setCell (p := ⟨wr.heap.size, 14, none⟩) HWS.out _).setCell (p := ⟨wr.heap.size, 15, none⟩) HWS.out _).setCell (p := ⟨wr.heap.size, 17, none⟩) HWS.out _).drew
    clear hw HP3 HO3 HB3
    clear yq0 yq1 yq2 yq3 yq4 yq5 yq6 yq7
    have HLD : Hid ((loadCellsFrom ⟨wr.heap.size, 0, none⟩ 0 18 #[]).run Tryz.prog w4 = .ok #[.string x.o, int i64 x.r, int i64 x.s, int i64 x.t, int i64 x.x, int i64 x.z, int i64 x.v, .bool x.g, .string y.o, int i64 y.r, int i64 y.s, int i64 y.t, int i64 y.x, int i64 y.z, int i64 y.v, .bool y.g, .bool true, .bool true] w4) := Jq HP4.out rfl
    go_wp2_with fail
    simp only [Tryz.isAgg222, Tryz.sizeOf222, Result.andThen_ok, if_true, HLD.out]
    clear HLD
    rename_i KK hKK
    refine hKK _ _ ?_
    refine wpList_buildSlice rfl 252 222 1 _ rfl #[.string x.o, int i64 x.r, int i64 x.s, int i64 x.t, int i64 x.x, int i64 x.z, int i64 x.v, .bool x.g, .string y.o, int i64 y.r, int i64 y.s, int i64 y.t, int i64 y.x, int i64 y.z, int i64 y.v, .bool y.g, .bool true, .bool true] i0 (.agg #[.string ⟨#[]⟩, int i64 0, int i64 0, int i64 0, int i64 0, int i64 0, int i64 0, .bool false, .string ⟨#[]⟩, int i64 0, int i64 0, int i64 0, int i64 0, int i64 0, int i64 0, .bool false, .bool false, .bool false]) Tryz.underlying252 hi hz0 (by rw [hz1]; decide) (by rw [hz1]; decide) (by rw [hz1]; kernel_rfl) ?_
    have HOWN := Ja (HO4.out.alloc (.cells #[.string x.o, int i64 x.r, int i64 x.s, int i64 x.t, int i64 x.x, int i64 x.z, int i64 x.v, .bool x.g, .string y.o, int i64 y.r, int i64 y.s, int i64 y.t, int i64 y.x, int i64 y.z, int i64 y.v, .bool y.g, .bool true, .bool true] 222))
    have HNN := Ja (Ji w4 [.string x.o, int i64 x.r, int i64 x.s, int i64 x.t, int i64 x.x, int i64 x.z, int i64 x.v, .bool x.g, .string y.o, int i64 y.r, int i64 y.s, int i64 y.t, int i64 y.x, int i64 y.z, int i64 y.v, .bool y.g, .bool true, .bool true] 222 rfl)
    have HSZ : Hid (w.heap.size ≤ (w4.alloc (.cells #[.string x.o, int i64 x.r, int i64 x.s, int i64 x.t, int i64 x.x, int i64 x.z, int i64 x.v, .bool x.g, .string y.o, int i64 y.r, int i64 y.s, int i64 y.t, int i64 y.x, int i64 y.z, int i64 y.v, .bool y.g, .bool true, .bool true] 222)).heap.size) := by show _ ≤ _; have := HB4.out.size; simp; omega
    have HBb := Ja (HB4.out.alloc HB4.out.size (.cells #[.string x.o, int i64 x.r, int i64 x.s, int i64 x.t, int i64 x.x, int i64 x.z, int i64 x.v, .bool x.g, .string y.o, int i64 y.r, int i64 y.s, int i64 y.t, int i64 y.x, int i64 y.z, int i64 y.v, .bool y.g, .bool true, .bool true] 222))
    clear HO4
    go_wp2_with (at_builtin; refine wpList_append_own _ rfl _ _ 252 rfl w.heap.size 222 i0 (.agg #[.string ⟨#[]⟩, int i64 0, int i64 0, int i64 0, int i64 0, int i64 0, int i64 0, .bool false, .string ⟨#[]⟩, int i64 0, int i64 0, int i64 0, int i64 0, int i64 0, int i64 0, .bool false, .bool false, .bool false]) 18 152 Tryz.underlying252 hi hz0 hz1 hz2 rfl (by decide) _ _ _ rfl HOWN.out ⟨w4.heap.size, 0, none⟩ 1 1 [.string x.o, int i64 x.r, int i64 x.s, int i64 x.t, int i64 x.x, int i64 x.z, int i64 x.v, .bool x.g, .string y.o, int i64 y.r, int i64 y.s, int i64 y.t, int i64 y.x, int i64 y.z, int i64 y.v, .bool y.g, .bool true, .bool true] rfl rfl HNN.out (Gl ((⟨x, y, true, true⟩ : Bo Ce) : Bo Ce)) (by unfold maxLen; omega) (by omega) HSZ.out ?_)
    intro v2 w9 hown9 hgrow hne2
    have HB9 := Ja (HBb.out.grown hgrow HSZ.out (fun j hj => (HOBL.out j hj).1))
    have HO9 : Hid (w9.ownsRow w.heap.size 222 18 v2 (D ++ [(⟨x, y, true, true⟩ : Bo Ce)]).length (boV Ce.cs (D ++ [(⟨x, y, true, true⟩ : Bo Ce)]))) := by
     show World.ownsRow _ _ _ _ _ _ _
     rw [Kk, List.length_append]; exact hown9
    clear hown9 hgrow hne2 HOWN HNN HSZ HBb
    go_wp2
    go_roundw
    case rel =>
     refine ⟨A2, B2, D ++ [⟨x, y, true, true⟩], ?_, ?_, ?_, ?_, ?_, ?_⟩
     ·exact HTX.out
     ·exact HTY.out
     ·exact HO9.out
     ·exact HE.out
     ·exact by have := HN.out; have := HM.out; simp; omega
     ·exact HB9.out
    case measure => simp [Ky]; try omega
   ·have HE := Ja (HE3.out hr)
    have hr1 : ¬ R ≤ 0 := by omega
    have hr2 : 0 ≤ R := by omega
    clear HE1 HE2 HE3 HTX
    go_wp2
    go_region
    obtain ⟨AY, hAX⟩ : ∃ a : Option Addr, a = if cy = 1 then some ⟨g2, f2, none⟩ else some ⟨g2, f2 + 8, none⟩ := ⟨_, rfl⟩
    rw [← hAX] at HTY ⊢
    clear hAX
    clear d0 e0 d1 e1 d2 e2 d3 e3 d4 e4 d5 e5 d6 e6 d7 e7 d8 e8 d9 e9 d10 e10 d11 e11 d12 e12 d13 e13 d14 e14 d15 e15 d16 e16 d17 e17
    obtain ⟨w3, hw⟩ : ∃ W, W = (((((((((w2.setCell ⟨wr.heap.size, 8, none⟩ (.string y.o)).setCell ⟨wr.heap.size, 9, none⟩ (int i64 y.r)).setCell ⟨wr.heap.size, 10, none⟩ (int i64 y.s)).setCell ⟨wr.heap.size, 11, none⟩ (int i64 y.t)).setCell ⟨wr.heap.size, 12, none⟩ (int i64 y.x)).setCell ⟨wr.heap.size, 13, none⟩ (int i64 y.z)).setCell ⟨wr.heap.size, 14, none⟩ (int i64 y.v)).setCell ⟨wr.heap.size, 15, none⟩ (.bool y.g)).setCell ⟨wr.heap.size, 17, none⟩ (.bool true)).drew := ⟨_, rfl⟩
    rw [← hw]
    have HP3 : Hid (Row w3 wr.heap.size #[.string ⟨#[]⟩, int i64 0, int i64 0, int i64 0, int i64 0, int i64 0, int i64 0, .bool false, .string y.o, int i64 y.r, int i64 y.s, int i64 y.t, int i64 y.x, int i64 y.z, int i64 y.v, .bool y.g, .bool false, .bool true] 222) := by rw [hw]; exact (((((((((HP2.out.setL 8 _).setL 9 _).setL 10 _).setL 11 _).setL 12 _).setL 13 _).setL 14 _).setL 15 _).setL 17 _).next (Below.drew (Below.refl _ _))
    have HO3 : Hid (w3.ownsRow w.heap.size 222 18 u5 D.length (boV Ce.cs D)) := by rw [hw]; exact World.ownsRow.drew (Jc (Jc (Jc (Jc (Jc (Jc (Jc (Jc (Jc HO2.out HNE.out) HNE.out) HNE.out) HNE.out) HNE.out) HNE.out) HNE.out) HNE.out) HNE.out)
    have HB3 : Hid (Below w.heap.size w w3) := by rw [hw]; exact (((((((((HB2.out.setCell (p := ⟨wr.heap.size, 8, none⟩) HWS.out _).setCell (p := ⟨wr.heap.size, 9, none⟩) HWS.out _).setCell (p := ⟨wr.heap.size, 10, none⟩) HWS.out _).setCell (p := ⟨wr.heap.size, 11, none⟩) HWS.out _).setCell (p := ⟨wr.heap.size, 12, none⟩) HWS.out _).setCell (p := ⟨wr.heap.size, 13, none⟩) HWS.out _).setCell (p := ⟨wr.heap.size, 14, none⟩) HWS.out _).setCell (p := ⟨wr.heap.size, 15, none⟩) HWS.out _).setCell (p := ⟨wr.heap.size, 17, none⟩) HWS.out _).drew
    clear hw HP2 HO2 HB2
    clear xq0 yq0 xq1 yq1 xq2 yq2 xq3 yq3 xq4 yq4 xq5 yq5 xq6 yq6 xq7 yq7
    have HLD : Hid ((loadCellsFrom ⟨wr.heap.size, 0, none⟩ 0 18 #[]).run Tryz.prog w3 = .ok #[.string ⟨#[]⟩, int i64 0, int i64 0, int i64 0, int i64 0, int i64 0, int i64 0, .bool false, .string y.o, int i64 y.r, int i64 y.s, int i64 y.t, int i64 y.x, int i64 y.z, int i64 y.v, .bool y.g, .bool false, .bool true] w3) := Jq HP3.out rfl
    go_wp2_with fail
    simp only [Tryz.isAgg222, Tryz.sizeOf222, Result.andThen_ok, if_true, HLD.out]
    clear HLD
    rename_i KK hKK
    refine hKK _ _ ?_
    refine wpList_buildSlice rfl 252 222 1 _ rfl #[.string ⟨#[]⟩, int i64 0, int i64 0, int i64 0, int i64 0, int i64 0, int i64 0, .bool false, .string y.o, int i64 y.r, int i64 y.s, int i64 y.t, int i64 y.x, int i64 y.z, int i64 y.v, .bool y.g, .bool false, .bool true] i0 (.agg #[.string ⟨#[]⟩, int i64 0, int i64 0, int i64 0, int i64 0, int i64 0, int i64 0, .bool false, .string ⟨#[]⟩, int i64 0, int i64 0, int i64 0, int i64 0, int i64 0, int i64 0, .bool false, .bool false, .bool false]) Tryz.underlying252 hi hz0 (by rw [hz1]; decide) (by rw [hz1]; decide) (by rw [hz1]; kernel_rfl) ?_
    have HOWN := Ja (HO3.out.alloc (.cells #[.string ⟨#[]⟩, int i64 0, int i64 0, int i64 0, int i64 0, int i64 0, int i64 0, .bool false, .string y.o, int i64 y.r, int i64 y.s, int i64 y.t, int i64 y.x, int i64 y.z, int i64 y.v, .bool y.g, .bool false, .bool true] 222))
    have HNN := Ja (Ji w3 [.string ⟨#[]⟩, int i64 0, int i64 0, int i64 0, int i64 0, int i64 0, int i64 0, .bool false, .string y.o, int i64 y.r, int i64 y.s, int i64 y.t, int i64 y.x, int i64 y.z, int i64 y.v, .bool y.g, .bool false, .bool true] 222 rfl)
    have HSZ : Hid (w.heap.size ≤ (w3.alloc (.cells #[.string ⟨#[]⟩, int i64 0, int i64 0, int i64 0, int i64 0, int i64 0, int i64 0, .bool false, .string y.o, int i64 y.r, int i64 y.s, int i64 y.t, int i64 y.x, int i64 y.z, int i64 y.v, .bool y.g, .bool false, .bool true] 222)).heap.size) := by show _ ≤ _; have := HB3.out.size; simp; omega
    have HBb := Ja (HB3.out.alloc HB3.out.size (.cells #[.string ⟨#[]⟩, int i64 0, int i64 0, int i64 0, int i64 0, int i64 0, int i64 0, .bool false, .string y.o, int i64 y.r, int i64 y.s, int i64 y.t, int i64 y.x, int i64 y.z, int i64 y.v, .bool y.g, .bool false, .bool true] 222))
    clear HO3
    go_wp2_with (at_builtin; refine wpList_append_own _ rfl _ _ 252 rfl w.heap.size 222 i0 (.agg #[.string ⟨#[]⟩, int i64 0, int i64 0, int i64 0, int i64 0, int i64 0, int i64 0, .bool false, .string ⟨#[]⟩, int i64 0, int i64 0, int i64 0, int i64 0, int i64 0, int i64 0, .bool false, .bool false, .bool false]) 18 152 Tryz.underlying252 hi hz0 hz1 hz2 rfl (by decide) _ _ _ rfl HOWN.out ⟨w3.heap.size, 0, none⟩ 1 1 [.string ⟨#[]⟩, int i64 0, int i64 0, int i64 0, int i64 0, int i64 0, int i64 0, .bool false, .string y.o, int i64 y.r, int i64 y.s, int i64 y.t, int i64 y.x, int i64 y.z, int i64 y.v, .bool y.g, .bool false, .bool true] rfl rfl HNN.out (Gl ((⟨zCe, y, false, true⟩ : Bo Ce) : Bo Ce)) (by unfold maxLen; omega) (by omega) HSZ.out ?_)
    intro v2 w9 hown9 hgrow hne2
    have HB9 := Ja (HBb.out.grown hgrow HSZ.out (fun j hj => (HOBL.out j hj).1))
    have HO9 : Hid (w9.ownsRow w.heap.size 222 18 v2 (D ++ [(⟨zCe, y, false, true⟩ : Bo Ce)]).length (boV Ce.cs (D ++ [(⟨zCe, y, false, true⟩ : Bo Ce)]))) := by
     show World.ownsRow _ _ _ _ _ _ _
     rw [Kk, List.length_append]; exact hown9
    clear hown9 hgrow hne2 HOWN HNN HSZ HBb
    go_wp2
    go_roundw
    case rel =>
     refine ⟨x :: A2, B2, D ++ [⟨zCe, y, false, true⟩], ?_, ?_, ?_, ?_, ?_, ?_⟩
     ·exact by simpa only [List.length_cons, HN.out] using HX.out
     ·exact HTY.out
     ·exact HO9.out
     ·exact HE.out
     ·exact by have := HN.out; have := HM.out; simp; omega
     ·exact HB9.out
    case measure => simp [Ky]; try omega
end Go.Proofs.YtdknoflkingodaaGreat
