/- What is chosen of what two lists have: the program's walk. -/
import Derived.Test.YtdknoflkingodaaGreatQ38
import Derived.Test.YtdknoflkingodaaGreatQ42
set_option maxHeartbeats 16000000
namespace Go.Proofs.YtdknoflkingodaaGreat
open Value (int)
open IntKind (i64)
set_option maxRecDepth 100000
set_option linter.unusedVariables false
open Go.RowKit
attribute [-simp] Tryz.isAgg212 Tryz.sizeOf212 Tryz.isAgg38 Tryz.sizeOf38 Tryz.isAgg217 Tryz.sizeOf217 Tryz.isAgg40 Tryz.sizeOf40 Tryz.isAgg222 Tryz.sizeOf222 Tryz.isAgg35 Tryz.sizeOf35
theorem UO {w : World} {g off : Nat} {cs : List Value} {n : Nat} (hn : cs.length = n) (h : ∀ i x, cs[i]? = some x → w.cell? ⟨g, off + i, none⟩ = some x) : (loadCellsFrom ⟨g, off, none⟩ 0 n #[]).run Tryz.prog w = .ok cs.toArray w := by
 subst hn
 have := run_loadCells_list (P := Tryz.prog) w ⟨g, off, none⟩ cs (fun j v hv => by
  have hadd : (⟨g, off, none⟩ : Addr).add j = ⟨g, off + j, none⟩ := by unfold Addr.add; split <;> simp_all
  rw [hadd]
  exact h j v hv)
 simpa [loadCells] using this
theorem ZP {w w' : World} {g : Nat} (h : w'.heap[g]? = w.heap[g]?) (i : Nat) : w'.cell? ⟨g, i, none⟩ = w.cell? ⟨g, i, none⟩ := by unfold World.cell?; simp only [h]
theorem ZS {w : World} {g j i : Nat} {x : Value} (h : g ≠ j) : (w.setCell ⟨j, i, none⟩ x).heap[g]? = w.heap[g]? := Below.heap_setCell w _ x g (fun e => h (by rw [e]))
theorem JeO (l : List (Bo Ta)) : Yc 8 (l.map (ZW Ta.cs)) := by intro r h; obtain ⟨a, -, rfl⟩ := List.mem_map.1 h; rfl
theorem Jel (l : List Ta) (x : Ta) : taV (l ++ [x]) = taV l ++ x.cs := by unfold taV; simp
theorem JeG (x : Ta) : ∀ v ∈ x.cs, v.oneCell' = true := fun v hv => by
 unfold Ta.cs at hv
 simp only [List.mem_cons, List.not_mem_nil, or_false] at hv
 rcases hv with rfl | rfl | rfl <;> rfl
theorem VT (A B : List Ta) (u v : Value) (f : Nat) (bx : Array Value) (pick : Bo Ta → Option Ta) (w : World) (hA : TaAt w u A) (hB : TaAt w v B) (hcu : ZC u) (hcv : ZC v) (hn : A.length ≤ 1000) (hm : B.length ≤ 1000)
  (hcf : ∀ (args : Array Value) (wx : World), (callFunc f args).run Tryz.prog wx = .ok (.enter f args) wx)
  (hch : ∀ wx, Below w.heap.size w wx → ∀ q ∈ Jg zTa JY A B, Calls Tryz.prog f (#[.agg #[.string q.a.o, int i64 q.a.r, int i64 q.a.n, .string q.b.o, int i64 q.b.r, int i64 q.b.n, .bool q.ia, .bool q.ib]] ++ bx) wx fun e w' => Uw Je2 e (pick q) ∧ Below wx.heap.size wx w') :
  Calls Tryz.prog 179 #[u, v, .func (.func f) #[] bx] w fun e w' => ∃ q, e = .returned q ∧ w'.ownsRow w.heap.size 38 3 q ((Jg zTa JY A B).filterMap pick).length (taV ((Jg zTa JY A B).filterMap pick)) ∧ Below w.heap.size w w' := by
 have HCH := Ja hch
 have hbl := Zm zTa JY _ A B (Nat.le_refl _)
 obtain ⟨full, hfu⟩ : ∃ full, full = Jg zTa JY A B := ⟨_, rfl⟩
 obtain ⟨W, hW⟩ : ∃ W, W = w.alloc (.cells #[] 38) := ⟨_, rfl⟩
 have HBO := Ja (JaT A B u v W (by rw [hW]; exact hA.alloc _) (by rw [hW]; exact hB.alloc _) hcu hcv hn hm)
 rw [← hfu] at HBO HCH hbl
 have HBL : Hid (full.length ≤ 2000) := by show _ ≤ _; omega
 rw [← hfu]
 have HOW : Hid (W.ownsRow w.heap.size 38 3 (.slice (some ⟨w.heap.size, 0, none⟩) 0 0) ([] : List Ta).length (taV [])) := by show World.ownsRow _ _ _ _ _ _ _; rw [hW]; exact Jy w _ _ rfl (Nat.le_refl _)
 have HBW : Hid (Below w.heap.size w W) := by rw [hW]; exact (Below.refl _ _).alloc (Nat.le_refl _) _
 have HWZ : Hid (W.heap.size = w.heap.size + 1) := by show _ = _; rw [hW]; simp
 have HWE : Hid (w.alloc (.cells #[] 38) = W) := hW.symm
 obtain ⟨i0, hi, hz0, hz1, hz2⟩ := info_parts ZJ
 clear hch hfu hW hA hB hcu hcv hn hm hbl
 go_enter Tryz.func179, Tryz.ntmps179
 have hso := Tryz.sizeOf38
 go_wp2_with fail
 rw [HWE.out]
 clear HWE hso
 refine HBO.out.mono ?_
 rintro e w2 ⟨qq, rfl, hoq, hb2⟩
 have hfq := Flat.own (JeO full) (by simp) hoq
 obtain ⟨aa, cq, rfl, hfg⟩ := hfq
 have HB2 : Hid (Below w.heap.size w w2) := HBW.out.trans (hb2.mono HBW.out.size)
 have HO2 := Ja (Jf HOW.out hb2)
 obtain ⟨n, hnn⟩ : ∃ n, n = full.length := ⟨_, rfl⟩
 have hlm : (full.map (ZW Ta.cs)).length = n := by rw [List.length_map, hnn]
 have hqb : ∀ gq off, aa = some ⟨gq, off, none⟩ → gq ≠ w.heap.size := fun gq off e => by
  have h1 : ∀ j, (Value.slice aa (full.map (ZW Ta.cs)).length cq).ownBlock = some j → W.heap.size ≤ j := fun j hj => (hoq.lt j hj).1
  rw [e] at h1
  have := h1 gq rfl
  rw [HWZ.out] at this
  omega
 have HGQ : Hid (∃ gq off, (0 < n → aa = some ⟨gq, off, none⟩ ∧ gq < w2.heap.size) ∧ gq ≠ w.heap.size ∧ ∀ j (h : j < full.length) i x, (ZW Ta.cs full[j])[i]? = some x → w2.cell? ⟨gq, off + j * 8 + i, none⟩ = some x) := by
  by_cases h0 : 0 < n
  ·obtain ⟨gq, off, e, h1, h2⟩ := hfg (by rw [hlm]; exact h0)
   refine ⟨gq, off, fun _ => ⟨e, h1⟩, hqb gq off e, fun j h i x hx => ?_⟩
   have := h2 j (by simpa using h) i x
   rw [List.getElem_map] at this
   exact this hx
  ·exact ⟨w.heap.size + 1, 0, fun h => absurd h h0, by omega, fun j h => by omega⟩
 obtain ⟨gq, off, hgq, hqn, hqc⟩ := HGQ.out
 have HQC := Ja hqc
 have HQN := Ja hqn
 have HGA := Ja hgq
 rw [hlm]
 have HN := Ja hnn
 rw [← hnn] at HBL
 clear HGQ hgq hqn hqc hqb hlm hfg hoq hnn hb2 HBO HBW HOW HWZ
 go_wp2
 go_loopw [17, 7] (fun kk q wr => ∃ (k : Nat) (D : List Ta), k ≤ n ∧ kk = int i64 k ∧ D = (full.take k).filterMap pick ∧ D.length ≤ k ∧ wr.ownsRow w.heap.size 38 3 q D.length (taV D) ∧ wr.heap[gq]? = w2.heap[gq]? ∧ (∀ j, q.ownBlock = some j → j ≠ gq) ∧ w2.heap.size ≤ wr.heap.size ∧ Below w.heap.size w wr) (fun kk _ _ => n - (intOf kk).toNat)
 case atStart =>
  refine ⟨0, [], Nat.zero_le _, rfl, rfl, Nat.zero_le _, HO2.out, rfl, fun j hj => ?_, Nat.le_refl _, HB2.out⟩
  have : j = w.heap.size := by injection hj with hj; exact hj.symm
  rw [this]; exact fun e => HQN.out e.symm
 case round =>
  clear HO2 HB2 HQN
  obtain ⟨k, D, hk, rfl, hD, hDl, hown, hsame, hap, hsz2, hbel⟩ := hrel
  have HDD := Ja hD
  have HOW := Ja hown
  have HSM := Ja hsame
  have HAP := Ja hap
  have HS2 := Ja hsz2
  have HBE := Ja hbel
  have hsz := hbel.size
  clear hD hown hsame hap hsz2 hbel
  by_cases hkn : k < n
  ·have hkf : k < full.length := by rw [← HN.out]; exact hkn
   have h1 : (k : Int) < n := by omega
   have hn2 : n ≤ 2000 := HBL.out
   obtain ⟨rfl, hgl⟩ := HGA.out (by omega)
   have HGL := Ja hgl
   obtain ⟨q, hq⟩ : ∃ q, q = full[k] := ⟨_, rfl⟩
   have HCQ : Hid (∀ wx, Below w.heap.size w wx → Calls Tryz.prog f (#[.agg #[.string q.a.o, int i64 q.a.r, int i64 q.a.n, .string q.b.o, int i64 q.b.r, int i64 q.b.n, .bool q.ia, .bool q.ib]] ++ bx) wx fun e w' => Uw Je2 e (pick q) ∧ Below wx.heap.size wx w') := fun wx hx => HCH.out wx hx q (by rw [hq]; exact List.getElem_mem hkf)
   have HLD : Hid ((loadCellsFrom ⟨gq, off + k * 8, none⟩ 0 8 #[]).run Tryz.prog wr = .ok #[.string q.a.o, int i64 q.a.r, int i64 q.a.n, .string q.b.o, int i64 q.b.r, int i64 q.b.n, .bool q.ia, .bool q.ib] wr) := UO (cs := ZW Ta.cs q) rfl (fun i x hx => by rw [ZP HSM.out]; exact HQC.out k hkf i x (by rw [← hq]; exact hx))
   have HTK : Hid ((full.take (k + 1)).filterMap pick = D ++ (match pick q with | some x => [x] | none => [])) := by
    show _ = _
    rw [HDD.out, List.take_succ_eq_append_getElem hkf, List.filterMap_append, ← hq]
    cases hp : pick q <;> simp [hp]
   clear HCH hkf hgl hq HQC
   obtain ⟨W3, hW3⟩ : ∃ W, W = wr.alloc (.cells #[.string ⟨#[]⟩, int i64 0, int i64 0, .string ⟨#[]⟩, int i64 0, int i64 0, .bool false, .bool false] 212) := ⟨_, rfl⟩
   have HW3 : Hid (wr.alloc (.cells #[.string ⟨#[]⟩, int i64 0, int i64 0, .string ⟨#[]⟩, int i64 0, int i64 0, .bool false, .bool false] 212) = W3) := hW3.symm
   have HR3 : Hid (Row W3 wr.heap.size #[.string ⟨#[]⟩, int i64 0, int i64 0, .string ⟨#[]⟩, int i64 0, int i64 0, .bool false, .bool false] 212) := by show Row _ _ _ _; rw [hW3]; exact Jb wr _ _ rfl
   have HR : Hid (Below wr.heap.size wr W3) := by rw [hW3]; exact (Below.refl _ _).alloc (Nat.le_refl _) _
   have HOB : Hid (∀ j, u7.ownBlock = some j → w.heap.size ≤ j ∧ j < wr.heap.size) := fun j hj => HOW.out.lt j hj
   clear hW3
   go_wp2_with fail
   simp only [Tryz.sizeOf212, Result.andThen_ok]
   go_wp2_with fail
   simp only [Tryz.isAgg212, Tryz.sizeOf212, Result.andThen_ok, if_true, HLD.out]
   clear HLD
   go_wp2_with fail
   rw [HW3.out]
   clear HW3
   obtain ⟨d0, d1, d2, d3, d4, d5, d6, d7⟩ := ZF HR3.out
   obtain ⟨fd0, fd1, fd2, fd3, fd4, fd5, fd6, fd7⟩ := Uk HR3.out
   have hsb := Tryz.sizeOf212
   simp only [hsb]
   go_simp
   clear hsb
   obtain ⟨W4, hW4⟩ : ∃ W, W = (((((((W3.setCell ⟨wr.heap.size, 0, none⟩ (.string q.a.o)).setCell ⟨wr.heap.size, 1, none⟩ (int i64 q.a.r)).setCell ⟨wr.heap.size, 2, none⟩ (int i64 q.a.n)).setCell ⟨wr.heap.size, 3, none⟩ (.string q.b.o)).setCell ⟨wr.heap.size, 4, none⟩ (int i64 q.b.r)).setCell ⟨wr.heap.size, 5, none⟩ (int i64 q.b.n)).setCell ⟨wr.heap.size, 6, none⟩ (.bool q.ia)).setCell ⟨wr.heap.size, 7, none⟩ (.bool q.ib) := ⟨_, rfl⟩
   have HR4 : Hid (Row W4 wr.heap.size #[.string q.a.o, int i64 q.a.r, int i64 q.a.n, .string q.b.o, int i64 q.b.r, int i64 q.b.n, .bool q.ia, .bool q.ib] 212) := by show Row _ _ _ _; rw [hW4]; exact ((((((((HR3.out.setL 0 _).setL 1 _).setL 2 _).setL 3 _).setL 4 _).setL 5 _).setL 6 _).setL 7 _)
   replace HR : Hid (Below wr.heap.size wr W4) := by rw [hW4]; exact ((((((((HR.out.setCell (p := ⟨wr.heap.size, 0, none⟩) (Nat.le_refl _) _).setCell (p := ⟨wr.heap.size, 1, none⟩) (Nat.le_refl _) _).setCell (p := ⟨wr.heap.size, 2, none⟩) (Nat.le_refl _) _).setCell (p := ⟨wr.heap.size, 3, none⟩) (Nat.le_refl _) _).setCell (p := ⟨wr.heap.size, 4, none⟩) (Nat.le_refl _) _).setCell (p := ⟨wr.heap.size, 5, none⟩) (Nat.le_refl _) _).setCell (p := ⟨wr.heap.size, 6, none⟩) (Nat.le_refl _) _).setCell (p := ⟨wr.heap.size, 7, none⟩) (Nat.le_refl _) _)
   rw [← hW4]
   clear hW4 HR3
   clear d0 fd0 d1 fd1 d2 fd2 d3 fd3 d4 fd4 d5 fd5 d6 fd6 d7 fd7
   have HLD : Hid ((loadCellsFrom ⟨wr.heap.size, 0, none⟩ 0 8 #[]).run Tryz.prog W4 = .ok #[.string q.a.o, int i64 q.a.r, int i64 q.a.n, .string q.b.o, int i64 q.b.r, int i64 q.b.n, .bool q.ia, .bool q.ib] W4) := Jq HR4.out rfl
   have HCL := Ja (HCQ.out W4 (HBE.out.trans (HR.out.mono hsz)))
   clear HCQ
   go_wp2_with fail
   simp only [Tryz.isAgg212, Tryz.sizeOf212, Result.andThen_ok, if_true, HLD.out]
   clear HLD
   go_wp2_with fail
   refine HCL.out.mono ?_
   clear HCL
   rintro e w5 ⟨⟨zz, bb, rfl, hz⟩, hb5⟩
   replace HR : Hid (Below wr.heap.size wr w5) := HR.out.trans (hb5.mono HR.out.size)
   rw [hz] at HTK
   clear hb5 HR4 hz
   unfold Je2
   obtain ⟨gz, hgz⟩ : ∃ g, g = w5.heap.size := ⟨_, rfl⟩
   have HGZ : Hid (wr.heap.size ≤ gz) := by show _ ≤ _; rw [hgz]; exact HR.out.size
   obtain ⟨W6, hW6⟩ : ∃ W, W = w5.alloc (.cells #[.string ⟨#[]⟩, int i64 0, int i64 0] 38) := ⟨_, rfl⟩
   have HW6 : Hid (w5.alloc (.cells #[.string ⟨#[]⟩, int i64 0, int i64 0] 38) = W6) := hW6.symm
   have HZ6 : Hid (Row W6 gz #[.string ⟨#[]⟩, int i64 0, int i64 0] 38) := by show Row _ _ _ _; rw [hW6, hgz]; exact Jb _ _ _ rfl
   replace HR : Hid (Below wr.heap.size wr W6) := by rw [hW6]; exact HR.out.alloc HR.out.size _
   clear hW6
   go_wp2_with fail
   rw [HW6.out, ← hgz]
   clear HW6 hgz
   have z0 : W6.cell? ⟨gz, 0, none⟩ = some (.string ⟨#[]⟩) := HZ6.out.cell 0 rfl
   have fz0 := HZ6.out.free 0
   have z1 : W6.cell? ⟨gz, 1, none⟩ = some (int i64 0) := HZ6.out.cell 1 rfl
   have fz1 := HZ6.out.free 1
   have z2 : W6.cell? ⟨gz, 2, none⟩ = some (int i64 0) := HZ6.out.cell 2 rfl
   have fz2 := HZ6.out.free 2
   have hso := Tryz.sizeOf38
   simp only [hso]
   go_simp
   clear hso
   obtain ⟨W7, hW7⟩ : ∃ W, W = ((W6.setCell ⟨gz, 0, none⟩ (.string zz.o)).setCell ⟨gz, 1, none⟩ (int i64 zz.r)).setCell ⟨gz, 2, none⟩ (int i64 zz.n) := ⟨_, rfl⟩
   have HZ7 : Hid (Row W7 gz #[.string zz.o, int i64 zz.r, int i64 zz.n] 38) := by show Row _ _ _ _; rw [hW7]; exact (((HZ6.out.setL 0 _).setL 1 _).setL 2 _)
   replace HR : Hid (Below wr.heap.size wr W7) := by rw [hW7]; exact (((HR.out.setCell (p := ⟨gz, 0, none⟩) HGZ.out _).setCell (p := ⟨gz, 1, none⟩) HGZ.out _).setCell (p := ⟨gz, 2, none⟩) HGZ.out _)
   rw [← hW7]
   clear hW7 HZ6
   clear z0 fz0 z1 fz1 z2 fz2
   have HB7 : Hid (Below w.heap.size w W7) := HBE.out.trans (HR.out.mono hsz)
   have HO7 : Hid (W7.ownsRow w.heap.size 38 3 u7 D.length (taV D)) := Jf HOW.out HR.out
   have HH7 : Hid (W7.heap[gq]? = w2.heap[gq]?) := (HR.out.block gq (by have := HGL.out; have := HS2.out; omega)).trans HSM.out
   have HS7 : Hid (w2.heap.size ≤ W7.heap.size) := Nat.le_trans HS2.out HR.out.size
   clear HR HOW HSM HBE
   cases bb with
   | false =>
    go_wp2
    go_roundw
    case rel => exact ⟨k + 1, D, by omega, by go_num, by rw [HTK.out]; simp, by omega, HO7.out, HH7.out, HAP.out, HS7.out, HB7.out⟩
    case measure => simp [intOf]; omega
   | true =>
    have HLD : Hid ((loadCellsFrom ⟨gz, 0, none⟩ 0 3 #[]).run Tryz.prog W7 = .ok #[.string zz.o, int i64 zz.r, int i64 zz.n] W7) := Jq HZ7.out rfl
    go_wp2_with fail
    simp only [Tryz.isAgg38, Tryz.sizeOf38, Result.andThen_ok, if_true, HLD.out]
    clear HLD
    rename_i KK hKK
    refine hKK _ _ ?_
    refine wpList_buildSlice rfl 25 38 1 _ rfl #[.string zz.o, int i64 zz.r, int i64 zz.n] i0 (.agg #[.string ⟨#[]⟩, int i64 0, int i64 0]) Tryz.underlying25 hi hz0 (by rw [hz1]; decide) (by rw [hz1]; decide) (by rw [hz1]; kernel_rfl) ?_
    have HOWN := Ja (HO7.out.alloc (.cells #[.string zz.o, int i64 zz.r, int i64 zz.n] 38))
    have HNN := Ja (Ji W7 [.string zz.o, int i64 zz.r, int i64 zz.n] 38 rfl)
    have HSZ : Hid (w.heap.size ≤ (W7.alloc (.cells #[.string zz.o, int i64 zz.r, int i64 zz.n] 38)).heap.size) := by show _ ≤ _; have := HB7.out.size; simp; omega
    have HBb := Ja (HB7.out.alloc HB7.out.size (.cells #[.string zz.o, int i64 zz.r, int i64 zz.n] 38))
    clear HO7
    go_wp2_with (at_builtin; refine wpList_append_own_at _ rfl _ _ 25 rfl w.heap.size 38 i0 (.agg #[.string ⟨#[]⟩, int i64 0, int i64 0]) 3 32 Tryz.underlying25 hi hz0 hz1 hz2 rfl (by decide) _ _ _ rfl HOWN.out ⟨W7.heap.size, 0, none⟩ 1 1 [.string zz.o, int i64 zz.r, int i64 zz.n] rfl rfl HNN.out (JeG zz) (by unfold maxLen; omega) (by omega) HSZ.out ?_)
    intro v2 w9 hown9 hgrow hne2 hat
    have HB9 := Ja (HBb.out.grown hgrow HSZ.out (fun j hj => (HOB.out j hj).1))
    have HO9 : Hid (w9.ownsRow w.heap.size 38 3 v2 (D ++ [zz]).length (taV (D ++ [zz]))) := by
     show World.ownsRow _ _ _ _ _ _ _
     rw [Jel, List.length_append]; exact hown9
    have hlt : gq < (W7.alloc (.cells #[.string zz.o, int i64 zz.r, int i64 zz.n] 38)).heap.size := by have := HGL.out; have := HS7.out; show gq < (W7.heap.push _).size; rw [Array.size_push]; omega
    have HA9 : Hid (∀ j, v2.ownBlock = some j → j ≠ gq) := fun j hj => by
     rcases hat with e | e
     ·exact HAP.out j (by rw [← e]; exact hj)
     ·rw [e] at hj; injection hj with hj; have := HGL.out; have := HS7.out; omega
    have HH9 : Hid (w9.heap[gq]? = w2.heap[gq]?) := by
     have h1 := hgrow.block gq hlt (fun e => HAP.out gq e.symm rfl)
     rw [Below.heap_alloc W7 _ gq (by have := HGL.out; have := HS7.out; omega)] at h1
     exact h1.trans HH7.out
    have HS9 : Hid (w2.heap.size ≤ w9.heap.size) := Nat.le_trans (Nat.le_trans HS7.out (by simp)) hgrow.size
    have HT9 : Hid (D ++ [zz] = (full.take (k + 1)).filterMap pick) := by show _ = _; rw [HTK.out]; simp
    clear hown9 hgrow hne2 hat HOWN HNN HSZ HBb HB7 HH7 HS7 HTK
    go_wp2
    go_roundw
    case rel => exact ⟨k + 1, D ++ [zz], by omega, by go_num, HT9.out, by simp; omega, HO9.out, HH9.out, HA9.out, HS9.out, HB9.out⟩
    case measure => simp [intOf]; omega
  ·have hk1 : ¬ ((k : Int) < n) := by omega
   have hkn2 : k = n := by omega
   have HRR : Hid (wr.ownsRow w.heap.size 38 3 u7 (full.filterMap pick).length (taV (full.filterMap pick))) := by
    have e : D = full.filterMap pick := by rw [HDD.out, hkn2, HN.out, List.take_length]
    rw [← e]; exact HOW.out
   clear HDD HOW
   go_wp2
   go_ret
   exact ⟨_, rfl, HRR.out, HBE.out⟩
theorem JeZ (l : List (Bo Li)) : Yc 14 (l.map (ZW Li.cs)) := by intro r h; obtain ⟨a, -, rfl⟩ := List.mem_map.1 h; rfl
theorem Jew (l : List Li) (x : Li) : liV (l ++ [x]) = liV l ++ x.cs := by unfold liV; simp
theorem JeY (x : Li) : ∀ v ∈ x.cs, v.oneCell' = true := fun v hv => by
 unfold Li.cs at hv
 simp only [List.mem_cons, List.not_mem_nil, or_false] at hv
 rcases hv with rfl | rfl | rfl | rfl | rfl | rfl <;> rfl
theorem VX (A B : List Li) (u v : Value) (f : Nat) (bx : Array Value) (pick : Bo Li → Option Li) (w : World) (hA : LiAt w u A) (hB : LiAt w v B) (hcu : ZC u) (hcv : ZC v) (hn : A.length ≤ 1000) (hm : B.length ≤ 1000)
  (hcf : ∀ (args : Array Value) (wx : World), (callFunc f args).run Tryz.prog wx = .ok (.enter f args) wx)
  (hch : ∀ wx, Below w.heap.size w wx → ∀ q ∈ Jg zLi Zi A B, Calls Tryz.prog f (#[.agg #[.bool q.a.m, .string q.a.o, .string q.a.y, int i64 q.a.v, int i64 q.a.r, int i64 q.a.s, .bool q.b.m, .string q.b.o, .string q.b.y, int i64 q.b.v, int i64 q.b.r, int i64 q.b.s, .bool q.ia, .bool q.ib]] ++ bx) wx fun e w' => Uw JeQ e (pick q) ∧ Below wx.heap.size wx w') :
  Calls Tryz.prog 183 #[u, v, .func (.func f) #[] bx] w fun e w' => ∃ q, e = .returned q ∧ w'.ownsRow w.heap.size 40 6 q ((Jg zLi Zi A B).filterMap pick).length (liV ((Jg zLi Zi A B).filterMap pick)) ∧ Below w.heap.size w w' := by
 have HCH := Ja hch
 have hbl := Zm zLi Zi _ A B (Nat.le_refl _)
 obtain ⟨full, hfu⟩ : ∃ full, full = Jg zLi Zi A B := ⟨_, rfl⟩
 obtain ⟨W, hW⟩ : ∃ W, W = w.alloc (.cells #[] 40) := ⟨_, rfl⟩
 have HBO := Ja (Jau A B u v W (by rw [hW]; exact hA.alloc _) (by rw [hW]; exact hB.alloc _) hcu hcv hn hm)
 rw [← hfu] at HBO HCH hbl
 have HBL : Hid (full.length ≤ 2000) := by show _ ≤ _; omega
 rw [← hfu]
 have HOW : Hid (W.ownsRow w.heap.size 40 6 (.slice (some ⟨w.heap.size, 0, none⟩) 0 0) ([] : List Li).length (liV [])) := by show World.ownsRow _ _ _ _ _ _ _; rw [hW]; exact Jy w _ _ rfl (Nat.le_refl _)
 have HBW : Hid (Below w.heap.size w W) := by rw [hW]; exact (Below.refl _ _).alloc (Nat.le_refl _) _
 have HWZ : Hid (W.heap.size = w.heap.size + 1) := by show _ = _; rw [hW]; simp
 have HWE : Hid (w.alloc (.cells #[] 40) = W) := hW.symm
 obtain ⟨i0, hi, hz0, hz1, hz2⟩ := info_parts KJ
 clear hch hfu hW hA hB hcu hcv hn hm hbl
 go_enter Tryz.func183, Tryz.ntmps183
 have hso := Tryz.sizeOf40
 go_wp2_with fail
 rw [HWE.out]
 clear HWE hso
 refine HBO.out.mono ?_
 rintro e w2 ⟨qq, rfl, hoq, hb2⟩
 have hfq := Flat.own (JeZ full) (by simp) hoq
 obtain ⟨aa, cq, rfl, hfg⟩ := hfq
 have HB2 : Hid (Below w.heap.size w w2) := HBW.out.trans (hb2.mono HBW.out.size)
 have HO2 := Ja (Jf HOW.out hb2)
 obtain ⟨n, hnn⟩ : ∃ n, n = full.length := ⟨_, rfl⟩
 have hlm : (full.map (ZW Li.cs)).length = n := by rw [List.length_map, hnn]
 have hqb : ∀ gq off, aa = some ⟨gq, off, none⟩ → gq ≠ w.heap.size := fun gq off e => by
  have h1 : ∀ j, (Value.slice aa (full.map (ZW Li.cs)).length cq).ownBlock = some j → W.heap.size ≤ j := fun j hj => (hoq.lt j hj).1
  rw [e] at h1
  have := h1 gq rfl
  rw [HWZ.out] at this
  omega
 have HGQ : Hid (∃ gq off, (0 < n → aa = some ⟨gq, off, none⟩ ∧ gq < w2.heap.size) ∧ gq ≠ w.heap.size ∧ ∀ j (h : j < full.length) i x, (ZW Li.cs full[j])[i]? = some x → w2.cell? ⟨gq, off + j * 14 + i, none⟩ = some x) := by
  by_cases h0 : 0 < n
  ·obtain ⟨gq, off, e, h1, h2⟩ := hfg (by rw [hlm]; exact h0)
   refine ⟨gq, off, fun _ => ⟨e, h1⟩, hqb gq off e, fun j h i x hx => ?_⟩
   have := h2 j (by simpa using h) i x
   rw [List.getElem_map] at this
   exact this hx
  ·exact ⟨w.heap.size + 1, 0, fun h => absurd h h0, by omega, fun j h => by omega⟩
 obtain ⟨gq, off, hgq, hqn, hqc⟩ := HGQ.out
 have HQC := Ja hqc
 have HQN := Ja hqn
 have HGA := Ja hgq
 rw [hlm]
 have HN := Ja hnn
 rw [← hnn] at HBL
 clear HGQ hgq hqn hqc hqb hlm hfg hoq hnn hb2 HBO HBW HOW HWZ
 go_wp2
 go_loopw [17, 7] (fun kk q wr => ∃ (k : Nat) (D : List Li), k ≤ n ∧ kk = int i64 k ∧ D = (full.take k).filterMap pick ∧ D.length ≤ k ∧ wr.ownsRow w.heap.size 40 6 q D.length (liV D) ∧ wr.heap[gq]? = w2.heap[gq]? ∧ (∀ j, q.ownBlock = some j → j ≠ gq) ∧ w2.heap.size ≤ wr.heap.size ∧ Below w.heap.size w wr) (fun kk _ _ => n - (intOf kk).toNat)
 case atStart =>
  refine ⟨0, [], Nat.zero_le _, rfl, rfl, Nat.zero_le _, HO2.out, rfl, fun j hj => ?_, Nat.le_refl _, HB2.out⟩
  have : j = w.heap.size := by injection hj with hj; exact hj.symm
  rw [this]; exact fun e => HQN.out e.symm
 case round =>
  clear HO2 HB2 HQN
  obtain ⟨k, D, hk, rfl, hD, hDl, hown, hsame, hap, hsz2, hbel⟩ := hrel
  have HDD := Ja hD
  have HOW := Ja hown
  have HSM := Ja hsame
  have HAP := Ja hap
  have HS2 := Ja hsz2
  have HBE := Ja hbel
  have hsz := hbel.size
  clear hD hown hsame hap hsz2 hbel
  by_cases hkn : k < n
  ·have hkf : k < full.length := by rw [← HN.out]; exact hkn
   have h1 : (k : Int) < n := by omega
   have hn2 : n ≤ 2000 := HBL.out
   obtain ⟨rfl, hgl⟩ := HGA.out (by omega)
   have HGL := Ja hgl
   obtain ⟨q, hq⟩ : ∃ q, q = full[k] := ⟨_, rfl⟩
   have HCQ : Hid (∀ wx, Below w.heap.size w wx → Calls Tryz.prog f (#[.agg #[.bool q.a.m, .string q.a.o, .string q.a.y, int i64 q.a.v, int i64 q.a.r, int i64 q.a.s, .bool q.b.m, .string q.b.o, .string q.b.y, int i64 q.b.v, int i64 q.b.r, int i64 q.b.s, .bool q.ia, .bool q.ib]] ++ bx) wx fun e w' => Uw JeQ e (pick q) ∧ Below wx.heap.size wx w') := fun wx hx => HCH.out wx hx q (by rw [hq]; exact List.getElem_mem hkf)
   have HLD : Hid ((loadCellsFrom ⟨gq, off + k * 14, none⟩ 0 14 #[]).run Tryz.prog wr = .ok #[.bool q.a.m, .string q.a.o, .string q.a.y, int i64 q.a.v, int i64 q.a.r, int i64 q.a.s, .bool q.b.m, .string q.b.o, .string q.b.y, int i64 q.b.v, int i64 q.b.r, int i64 q.b.s, .bool q.ia, .bool q.ib] wr) := UO (cs := ZW Li.cs q) rfl (fun i x hx => by rw [ZP HSM.out]; exact HQC.out k hkf i x (by rw [← hq]; exact hx))
   have HTK : Hid ((full.take (k + 1)).filterMap pick = D ++ (match pick q with | some x => [x] | none => [])) := by
    show _ = _
    rw [HDD.out, List.take_succ_eq_append_getElem hkf, List.filterMap_append, ← hq]
    cases hp : pick q <;> simp [hp]
   clear HCH hkf hgl hq HQC
   obtain ⟨W3, hW3⟩ : ∃ W, W = wr.alloc (.cells #[.bool false, .string ⟨#[]⟩, .string ⟨#[]⟩, int i64 0, int i64 0, int i64 0, .bool false, .string ⟨#[]⟩, .string ⟨#[]⟩, int i64 0, int i64 0, int i64 0, .bool false, .bool false] 217) := ⟨_, rfl⟩
   have HW3 : Hid (wr.alloc (.cells #[.bool false, .string ⟨#[]⟩, .string ⟨#[]⟩, int i64 0, int i64 0, int i64 0, .bool false, .string ⟨#[]⟩, .string ⟨#[]⟩, int i64 0, int i64 0, int i64 0, .bool false, .bool false] 217) = W3) := hW3.symm
   have HR3 : Hid (Row W3 wr.heap.size #[.bool false, .string ⟨#[]⟩, .string ⟨#[]⟩, int i64 0, int i64 0, int i64 0, .bool false, .string ⟨#[]⟩, .string ⟨#[]⟩, int i64 0, int i64 0, int i64 0, .bool false, .bool false] 217) := by show Row _ _ _ _; rw [hW3]; exact Jb wr _ _ rfl
   have HR : Hid (Below wr.heap.size wr W3) := by rw [hW3]; exact (Below.refl _ _).alloc (Nat.le_refl _) _
   have HOB : Hid (∀ j, u7.ownBlock = some j → w.heap.size ≤ j ∧ j < wr.heap.size) := fun j hj => HOW.out.lt j hj
   clear hW3
   go_wp2_with fail
   simp only [Tryz.sizeOf217, Result.andThen_ok]
   go_wp2_with fail
   simp only [Tryz.isAgg217, Tryz.sizeOf217, Result.andThen_ok, if_true, HLD.out]
   clear HLD
   go_wp2_with fail
   rw [HW3.out]
   clear HW3
   obtain ⟨d0, d1, d2, d3, d4, d5, d6, d7, d8, d9, d10, d11, d12, d13⟩ := Vv HR3.out
   obtain ⟨fd0, fd1, fd2, fd3, fd4, fd5, fd6, fd7, fd8, fd9, fd10, fd11, fd12, fd13⟩ := VP HR3.out
   have hsb := Tryz.sizeOf217
   simp only [hsb]
   go_simp
   clear hsb
   obtain ⟨W4, hW4⟩ : ∃ W, W = (((((((((((((W3.setCell ⟨wr.heap.size, 0, none⟩ (.bool q.a.m)).setCell ⟨wr.heap.size, 1, none⟩ (.string q.a.o)).setCell ⟨wr.heap.size, 2, none⟩ (.string q.a.y)).setCell ⟨wr.heap.size, 3, none⟩ (int i64 q.a.v)).setCell ⟨wr.heap.size, 4, none⟩ (int i64 q.a.r)).setCell ⟨wr.heap.size, 5, none⟩ (int i64 q.a.s)).setCell ⟨wr.heap.size, 6, none⟩ (.bool q.b.m)).setCell ⟨wr.heap.size, 7, none⟩ (.string q.b.o)).setCell ⟨wr.heap.size, 8, none⟩ (.string q.b.y)).setCell ⟨wr.heap.size, 9, none⟩ (int i64 q.b.v)).setCell ⟨wr.heap.size, 10, none⟩ (int i64 q.b.r)).setCell ⟨wr.heap.size, 11, none⟩ (int i64 q.b.s)).setCell ⟨wr.heap.size, 12, none⟩ (.bool q.ia)).setCell ⟨wr.heap.size, 13, none⟩ (.bool q.ib) := ⟨_, rfl⟩
   have HR4 : Hid (Row W4 wr.heap.size #[.bool q.a.m, .string q.a.o, .string q.a.y, int i64 q.a.v, int i64 q.a.r, int i64 q.a.s, .bool q.b.m, .string q.b.o, .string q.b.y, int i64 q.b.v, int i64 q.b.r, int i64 q.b.s, .bool q.ia, .bool q.ib] 217) := by show Row _ _ _ _; rw [hW4]; exact ((((((((((((((HR3.out.setL 0 _).setL 1 _).setL 2 _).setL 3 _).setL 4 _).setL 5 _).setL 6 _).setL 7 _).setL 8 _).setL 9 _).setL 10 _).setL 11 _).setL 12 _).setL 13 _)
   replace HR : Hid (Below wr.heap.size wr W4) := by rw [hW4]; exact ((((((((((((((HR.out.setCell (p := ⟨wr.heap.size, 0, none⟩) (Nat.le_refl _) _).setCell (p := ⟨wr.heap.size, 1, none⟩) (Nat.le_refl _) _).setCell (p := ⟨wr.heap.size, 2, none⟩) (Nat.le_refl _) _).setCell (p := ⟨wr.heap.size, 3, none⟩) (Nat.le_refl _) _).setCell (p := ⟨wr.heap.size, 4, none⟩) (Nat.le_refl _) _).setCell (p := ⟨wr.heap.size, 5, none⟩) (Nat.le_refl _) _).setCell (p := ⟨wr.heap.size, 6, none⟩) (Nat.le_refl _) _).setCell (p := ⟨wr.heap.size, 7, none⟩) (Nat.le_refl _) _).setCell (p := ⟨wr.heap.size, 8, none⟩) (Nat.le_refl _) _).setCell (p := ⟨wr.heap.size, 9, none⟩) (Nat.le_refl _) _).setCell (p := ⟨wr.heap.size, 10, none⟩) (Nat.le_refl _) _).setCell (p := ⟨wr.heap.size, 11, none⟩) (Nat.le_refl _) _).setCell (p := ⟨wr.heap.size, 12, none⟩) (Nat.le_refl _) _).setCell (p := ⟨wr.heap.size, 13, none⟩) (Nat.le_refl _) _)
   rw [← hW4]
   clear hW4 HR3
   clear d0 fd0 d1 fd1 d2 fd2 d3 fd3 d4 fd4 d5 fd5 d6 fd6 d7 fd7 d8 fd8 d9 fd9 d10 fd10 d11 fd11 d12 fd12 d13 fd13
   have HLD : Hid ((loadCellsFrom ⟨wr.heap.size, 0, none⟩ 0 14 #[]).run Tryz.prog W4 = .ok #[.bool q.a.m, .string q.a.o, .string q.a.y, int i64 q.a.v, int i64 q.a.r, int i64 q.a.s, .bool q.b.m, .string q.b.o, .string q.b.y, int i64 q.b.v, int i64 q.b.r, int i64 q.b.s, .bool q.ia, .bool q.ib] W4) := Jq HR4.out rfl
   have HCL := Ja (HCQ.out W4 (HBE.out.trans (HR.out.mono hsz)))
   clear HCQ
   go_wp2_with fail
   simp only [Tryz.isAgg217, Tryz.sizeOf217, Result.andThen_ok, if_true, HLD.out]
   clear HLD
   go_wp2_with fail
   refine HCL.out.mono ?_
   clear HCL
   rintro e w5 ⟨⟨zz, bb, rfl, hz⟩, hb5⟩
   replace HR : Hid (Below wr.heap.size wr w5) := HR.out.trans (hb5.mono HR.out.size)
   rw [hz] at HTK
   clear hb5 HR4 hz
   unfold JeQ
   obtain ⟨gz, hgz⟩ : ∃ g, g = w5.heap.size := ⟨_, rfl⟩
   have HGZ : Hid (wr.heap.size ≤ gz) := by show _ ≤ _; rw [hgz]; exact HR.out.size
   obtain ⟨W6, hW6⟩ : ∃ W, W = w5.alloc (.cells #[.bool false, .string ⟨#[]⟩, .string ⟨#[]⟩, int i64 0, int i64 0, int i64 0] 40) := ⟨_, rfl⟩
   have HW6 : Hid (w5.alloc (.cells #[.bool false, .string ⟨#[]⟩, .string ⟨#[]⟩, int i64 0, int i64 0, int i64 0] 40) = W6) := hW6.symm
   have HZ6 : Hid (Row W6 gz #[.bool false, .string ⟨#[]⟩, .string ⟨#[]⟩, int i64 0, int i64 0, int i64 0] 40) := by show Row _ _ _ _; rw [hW6, hgz]; exact Jb _ _ _ rfl
   replace HR : Hid (Below wr.heap.size wr W6) := by rw [hW6]; exact HR.out.alloc HR.out.size _
   clear hW6
   go_wp2_with fail
   rw [HW6.out, ← hgz]
   clear HW6 hgz
   obtain ⟨z0, z1, z2, z3, z4, z5⟩ := ZT HZ6.out
   obtain ⟨fz0, fz1, fz2, fz3, fz4, fz5⟩ := Jfo HZ6.out
   have hso := Tryz.sizeOf40
   simp only [hso]
   go_simp
   clear hso
   obtain ⟨W7, hW7⟩ : ∃ W, W = (((((W6.setCell ⟨gz, 0, none⟩ (.bool zz.m)).setCell ⟨gz, 1, none⟩ (.string zz.o)).setCell ⟨gz, 2, none⟩ (.string zz.y)).setCell ⟨gz, 3, none⟩ (int i64 zz.v)).setCell ⟨gz, 4, none⟩ (int i64 zz.r)).setCell ⟨gz, 5, none⟩ (int i64 zz.s) := ⟨_, rfl⟩
   have HZ7 : Hid (Row W7 gz #[.bool zz.m, .string zz.o, .string zz.y, int i64 zz.v, int i64 zz.r, int i64 zz.s] 40) := by show Row _ _ _ _; rw [hW7]; exact ((((((HZ6.out.setL 0 _).setL 1 _).setL 2 _).setL 3 _).setL 4 _).setL 5 _)
   replace HR : Hid (Below wr.heap.size wr W7) := by rw [hW7]; exact ((((((HR.out.setCell (p := ⟨gz, 0, none⟩) HGZ.out _).setCell (p := ⟨gz, 1, none⟩) HGZ.out _).setCell (p := ⟨gz, 2, none⟩) HGZ.out _).setCell (p := ⟨gz, 3, none⟩) HGZ.out _).setCell (p := ⟨gz, 4, none⟩) HGZ.out _).setCell (p := ⟨gz, 5, none⟩) HGZ.out _)
   rw [← hW7]
   clear hW7 HZ6
   clear z0 fz0 z1 fz1 z2 fz2 z3 fz3 z4 fz4 z5 fz5
   have HB7 : Hid (Below w.heap.size w W7) := HBE.out.trans (HR.out.mono hsz)
   have HO7 : Hid (W7.ownsRow w.heap.size 40 6 u7 D.length (liV D)) := Jf HOW.out HR.out
   have HH7 : Hid (W7.heap[gq]? = w2.heap[gq]?) := (HR.out.block gq (by have := HGL.out; have := HS2.out; omega)).trans HSM.out
   have HS7 : Hid (w2.heap.size ≤ W7.heap.size) := Nat.le_trans HS2.out HR.out.size
   clear HR HOW HSM HBE
   cases bb with
   | false =>
    go_wp2
    go_roundw
    case rel => exact ⟨k + 1, D, by omega, by go_num, by rw [HTK.out]; simp, by omega, HO7.out, HH7.out, HAP.out, HS7.out, HB7.out⟩
    case measure => simp [intOf]; omega
   | true =>
    have HLD : Hid ((loadCellsFrom ⟨gz, 0, none⟩ 0 6 #[]).run Tryz.prog W7 = .ok #[.bool zz.m, .string zz.o, .string zz.y, int i64 zz.v, int i64 zz.r, int i64 zz.s] W7) := Jq HZ7.out rfl
    go_wp2_with fail
    simp only [Tryz.isAgg40, Tryz.sizeOf40, Result.andThen_ok, if_true, HLD.out]
    clear HLD
    rename_i KK hKK
    refine hKK _ _ ?_
    refine wpList_buildSlice rfl 26 40 1 _ rfl #[.bool zz.m, .string zz.o, .string zz.y, int i64 zz.v, int i64 zz.r, int i64 zz.s] i0 (.agg #[.bool false, .string ⟨#[]⟩, .string ⟨#[]⟩, int i64 0, int i64 0, int i64 0]) Tryz.underlying26 hi hz0 (by rw [hz1]; decide) (by rw [hz1]; decide) (by rw [hz1]; kernel_rfl) ?_
    have HOWN := Ja (HO7.out.alloc (.cells #[.bool zz.m, .string zz.o, .string zz.y, int i64 zz.v, int i64 zz.r, int i64 zz.s] 40))
    have HNN := Ja (Ji W7 [.bool zz.m, .string zz.o, .string zz.y, int i64 zz.v, int i64 zz.r, int i64 zz.s] 40 rfl)
    have HSZ : Hid (w.heap.size ≤ (W7.alloc (.cells #[.bool zz.m, .string zz.o, .string zz.y, int i64 zz.v, int i64 zz.r, int i64 zz.s] 40)).heap.size) := by show _ ≤ _; have := HB7.out.size; simp; omega
    have HBb := Ja (HB7.out.alloc HB7.out.size (.cells #[.bool zz.m, .string zz.o, .string zz.y, int i64 zz.v, int i64 zz.r, int i64 zz.s] 40))
    clear HO7
    go_wp2_with (at_builtin; refine wpList_append_own_at _ rfl _ _ 26 rfl w.heap.size 40 i0 (.agg #[.bool false, .string ⟨#[]⟩, .string ⟨#[]⟩, int i64 0, int i64 0, int i64 0]) 6 64 Tryz.underlying26 hi hz0 hz1 hz2 rfl (by decide) _ _ _ rfl HOWN.out ⟨W7.heap.size, 0, none⟩ 1 1 [.bool zz.m, .string zz.o, .string zz.y, int i64 zz.v, int i64 zz.r, int i64 zz.s] rfl rfl HNN.out (JeY zz) (by unfold maxLen; omega) (by omega) HSZ.out ?_)
    intro v2 w9 hown9 hgrow hne2 hat
    have HB9 := Ja (HBb.out.grown hgrow HSZ.out (fun j hj => (HOB.out j hj).1))
    have HO9 : Hid (w9.ownsRow w.heap.size 40 6 v2 (D ++ [zz]).length (liV (D ++ [zz]))) := by
     show World.ownsRow _ _ _ _ _ _ _
     rw [Jew, List.length_append]; exact hown9
    have hlt : gq < (W7.alloc (.cells #[.bool zz.m, .string zz.o, .string zz.y, int i64 zz.v, int i64 zz.r, int i64 zz.s] 40)).heap.size := by have := HGL.out; have := HS7.out; show gq < (W7.heap.push _).size; rw [Array.size_push]; omega
    have HA9 : Hid (∀ j, v2.ownBlock = some j → j ≠ gq) := fun j hj => by
     rcases hat with e | e
     ·exact HAP.out j (by rw [← e]; exact hj)
     ·rw [e] at hj; injection hj with hj; have := HGL.out; have := HS7.out; omega
    have HH9 : Hid (w9.heap[gq]? = w2.heap[gq]?) := by
     have h1 := hgrow.block gq hlt (fun e => HAP.out gq e.symm rfl)
     rw [Below.heap_alloc W7 _ gq (by have := HGL.out; have := HS7.out; omega)] at h1
     exact h1.trans HH7.out
    have HS9 : Hid (w2.heap.size ≤ w9.heap.size) := Nat.le_trans (Nat.le_trans HS7.out (by simp)) hgrow.size
    have HT9 : Hid (D ++ [zz] = (full.take (k + 1)).filterMap pick) := by show _ = _; rw [HTK.out]; simp
    clear hown9 hgrow hne2 hat HOWN HNN HSZ HBb HB7 HH7 HS7 HTK
    go_wp2
    go_roundw
    case rel => exact ⟨k + 1, D ++ [zz], by omega, by go_num, HT9.out, by simp; omega, HO9.out, HH9.out, HA9.out, HS9.out, HB9.out⟩
    case measure => simp [intOf]; omega
  ·have hk1 : ¬ ((k : Int) < n) := by omega
   have hkn2 : k = n := by omega
   have HRR : Hid (wr.ownsRow w.heap.size 40 6 u7 (full.filterMap pick).length (liV (full.filterMap pick))) := by
    have e : D = full.filterMap pick := by rw [HDD.out, hkn2, HN.out, List.take_length]
    rw [← e]; exact HOW.out
   clear HDD HOW
   go_wp2
   go_ret
   exact ⟨_, rfl, HRR.out, HBE.out⟩
theorem JeP (l : List (Bo Ce)) : Yc 18 (l.map (ZW Ce.cs)) := by intro r h; obtain ⟨a, -, rfl⟩ := List.mem_map.1 h; rfl
theorem Jer (l : List Ce) (x : Ce) : ceV (l ++ [x]) = ceV l ++ x.cs := by unfold ceV; simp
theorem JeM (x : Ce) : ∀ v ∈ x.cs, v.oneCell' = true := fun v hv => by
 unfold Ce.cs at hv
 simp only [List.mem_cons, List.not_mem_nil, or_false] at hv
 rcases hv with rfl | rfl | rfl | rfl | rfl | rfl | rfl | rfl <;> rfl
theorem V4 (A B : List Ce) (u v : Value) (f : Nat) (bx : Array Value) (pick : Bo Ce → Option Ce) (w : World) (hA : CeAt w u A) (hB : CeAt w v B) (hcu : ZC u) (hcv : ZC v) (hn : A.length ≤ 1000) (hm : B.length ≤ 1000)
  (hcf : ∀ (args : Array Value) (wx : World), (callFunc f args).run Tryz.prog wx = .ok (.enter f args) wx)
  (hch : ∀ wx, Below w.heap.size w wx → ∀ q ∈ Jg zCe Zf A B, Calls Tryz.prog f (#[.agg #[.string q.a.o, int i64 q.a.r, int i64 q.a.s, int i64 q.a.t, int i64 q.a.x, int i64 q.a.z, int i64 q.a.v, .bool q.a.g, .string q.b.o, int i64 q.b.r, int i64 q.b.s, int i64 q.b.t, int i64 q.b.x, int i64 q.b.z, int i64 q.b.v, .bool q.b.g, .bool q.ia, .bool q.ib]] ++ bx) wx fun e w' => Uw JeL e (pick q) ∧ Below wx.heap.size wx w') :
  Calls Tryz.prog 186 #[u, v, .func (.func f) #[] bx] w fun e w' => ∃ q, e = .returned q ∧ w'.ownsRow w.heap.size 35 8 q ((Jg zCe Zf A B).filterMap pick).length (ceV ((Jg zCe Zf A B).filterMap pick)) ∧ Below w.heap.size w w' := by
 have HCH := Ja hch
 have hbl := Zm zCe Zf _ A B (Nat.le_refl _)
 obtain ⟨full, hfu⟩ : ∃ full, full = Jg zCe Zf A B := ⟨_, rfl⟩
 obtain ⟨W, hW⟩ : ∃ W, W = w.alloc (.cells #[] 35) := ⟨_, rfl⟩
 have HBO := Ja (JaG A B u v W (by rw [hW]; exact hA.alloc _) (by rw [hW]; exact hB.alloc _) hcu hcv hn hm)
 rw [← hfu] at HBO HCH hbl
 have HBL : Hid (full.length ≤ 2000) := by show _ ≤ _; omega
 rw [← hfu]
 have HOW : Hid (W.ownsRow w.heap.size 35 8 (.slice (some ⟨w.heap.size, 0, none⟩) 0 0) ([] : List Ce).length (ceV [])) := by show World.ownsRow _ _ _ _ _ _ _; rw [hW]; exact Jy w _ _ rfl (Nat.le_refl _)
 have HBW : Hid (Below w.heap.size w W) := by rw [hW]; exact (Below.refl _ _).alloc (Nat.le_refl _) _
 have HWZ : Hid (W.heap.size = w.heap.size + 1) := by show _ = _; rw [hW]; simp
 have HWE : Hid (w.alloc (.cells #[] 35) = W) := hW.symm
 obtain ⟨i0, hi, hz0, hz1, hz2⟩ := info_parts Gs
 clear hch hfu hW hA hB hcu hcv hn hm hbl
 go_enter Tryz.func186, Tryz.ntmps186
 have hso := Tryz.sizeOf35
 go_wp2_with fail
 rw [HWE.out]
 clear HWE hso
 refine HBO.out.mono ?_
 rintro e w2 ⟨qq, rfl, hoq, hb2⟩
 have hfq := Flat.own (JeP full) (by simp) hoq
 obtain ⟨aa, cq, rfl, hfg⟩ := hfq
 have HB2 : Hid (Below w.heap.size w w2) := HBW.out.trans (hb2.mono HBW.out.size)
 have HO2 := Ja (Jf HOW.out hb2)
 obtain ⟨n, hnn⟩ : ∃ n, n = full.length := ⟨_, rfl⟩
 have hlm : (full.map (ZW Ce.cs)).length = n := by rw [List.length_map, hnn]
 have hqb : ∀ gq off, aa = some ⟨gq, off, none⟩ → gq ≠ w.heap.size := fun gq off e => by
  have h1 : ∀ j, (Value.slice aa (full.map (ZW Ce.cs)).length cq).ownBlock = some j → W.heap.size ≤ j := fun j hj => (hoq.lt j hj).1
  rw [e] at h1
  have := h1 gq rfl
  rw [HWZ.out] at this
  omega
 have HGQ : Hid (∃ gq off, (0 < n → aa = some ⟨gq, off, none⟩ ∧ gq < w2.heap.size) ∧ gq ≠ w.heap.size ∧ ∀ j (h : j < full.length) i x, (ZW Ce.cs full[j])[i]? = some x → w2.cell? ⟨gq, off + j * 18 + i, none⟩ = some x) := by
  by_cases h0 : 0 < n
  ·obtain ⟨gq, off, e, h1, h2⟩ := hfg (by rw [hlm]; exact h0)
   refine ⟨gq, off, fun _ => ⟨e, h1⟩, hqb gq off e, fun j h i x hx => ?_⟩
   have := h2 j (by simpa using h) i x
   rw [List.getElem_map] at this
   exact this hx
  ·exact ⟨w.heap.size + 1, 0, fun h => absurd h h0, by omega, fun j h => by omega⟩
 obtain ⟨gq, off, hgq, hqn, hqc⟩ := HGQ.out
 have HQC := Ja hqc
 have HQN := Ja hqn
 have HGA := Ja hgq
 rw [hlm]
 have HN := Ja hnn
 rw [← hnn] at HBL
 clear HGQ hgq hqn hqc hqb hlm hfg hoq hnn hb2 HBO HBW HOW HWZ
 go_wp2
 go_loopw [17, 7] (fun kk q wr => ∃ (k : Nat) (D : List Ce), k ≤ n ∧ kk = int i64 k ∧ D = (full.take k).filterMap pick ∧ D.length ≤ k ∧ wr.ownsRow w.heap.size 35 8 q D.length (ceV D) ∧ wr.heap[gq]? = w2.heap[gq]? ∧ (∀ j, q.ownBlock = some j → j ≠ gq) ∧ w2.heap.size ≤ wr.heap.size ∧ Below w.heap.size w wr) (fun kk _ _ => n - (intOf kk).toNat)
 case atStart =>
  refine ⟨0, [], Nat.zero_le _, rfl, rfl, Nat.zero_le _, HO2.out, rfl, fun j hj => ?_, Nat.le_refl _, HB2.out⟩
  have : j = w.heap.size := by injection hj with hj; exact hj.symm
  rw [this]; exact fun e => HQN.out e.symm
 case round =>
  clear HO2 HB2 HQN
  obtain ⟨k, D, hk, rfl, hD, hDl, hown, hsame, hap, hsz2, hbel⟩ := hrel
  have HDD := Ja hD
  have HOW := Ja hown
  have HSM := Ja hsame
  have HAP := Ja hap
  have HS2 := Ja hsz2
  have HBE := Ja hbel
  have hsz := hbel.size
  clear hD hown hsame hap hsz2 hbel
  by_cases hkn : k < n
  ·have hkf : k < full.length := by rw [← HN.out]; exact hkn
   have h1 : (k : Int) < n := by omega
   have hn2 : n ≤ 2000 := HBL.out
   obtain ⟨rfl, hgl⟩ := HGA.out (by omega)
   have HGL := Ja hgl
   obtain ⟨q, hq⟩ : ∃ q, q = full[k] := ⟨_, rfl⟩
   have HCQ : Hid (∀ wx, Below w.heap.size w wx → Calls Tryz.prog f (#[.agg #[.string q.a.o, int i64 q.a.r, int i64 q.a.s, int i64 q.a.t, int i64 q.a.x, int i64 q.a.z, int i64 q.a.v, .bool q.a.g, .string q.b.o, int i64 q.b.r, int i64 q.b.s, int i64 q.b.t, int i64 q.b.x, int i64 q.b.z, int i64 q.b.v, .bool q.b.g, .bool q.ia, .bool q.ib]] ++ bx) wx fun e w' => Uw JeL e (pick q) ∧ Below wx.heap.size wx w') := fun wx hx => HCH.out wx hx q (by rw [hq]; exact List.getElem_mem hkf)
   have HLD : Hid ((loadCellsFrom ⟨gq, off + k * 18, none⟩ 0 18 #[]).run Tryz.prog wr = .ok #[.string q.a.o, int i64 q.a.r, int i64 q.a.s, int i64 q.a.t, int i64 q.a.x, int i64 q.a.z, int i64 q.a.v, .bool q.a.g, .string q.b.o, int i64 q.b.r, int i64 q.b.s, int i64 q.b.t, int i64 q.b.x, int i64 q.b.z, int i64 q.b.v, .bool q.b.g, .bool q.ia, .bool q.ib] wr) := UO (cs := ZW Ce.cs q) rfl (fun i x hx => by rw [ZP HSM.out]; exact HQC.out k hkf i x (by rw [← hq]; exact hx))
   have HTK : Hid ((full.take (k + 1)).filterMap pick = D ++ (match pick q with | some x => [x] | none => [])) := by
    show _ = _
    rw [HDD.out, List.take_succ_eq_append_getElem hkf, List.filterMap_append, ← hq]
    cases hp : pick q <;> simp [hp]
   clear HCH hkf hgl hq HQC
   obtain ⟨W3, hW3⟩ : ∃ W, W = wr.alloc (.cells #[.string ⟨#[]⟩, int i64 0, int i64 0, int i64 0, int i64 0, int i64 0, int i64 0, .bool false, .string ⟨#[]⟩, int i64 0, int i64 0, int i64 0, int i64 0, int i64 0, int i64 0, .bool false, .bool false, .bool false] 222) := ⟨_, rfl⟩
   have HW3 : Hid (wr.alloc (.cells #[.string ⟨#[]⟩, int i64 0, int i64 0, int i64 0, int i64 0, int i64 0, int i64 0, .bool false, .string ⟨#[]⟩, int i64 0, int i64 0, int i64 0, int i64 0, int i64 0, int i64 0, .bool false, .bool false, .bool false] 222) = W3) := hW3.symm
   have HR3 : Hid (Row W3 wr.heap.size #[.string ⟨#[]⟩, int i64 0, int i64 0, int i64 0, int i64 0, int i64 0, int i64 0, .bool false, .string ⟨#[]⟩, int i64 0, int i64 0, int i64 0, int i64 0, int i64 0, int i64 0, .bool false, .bool false, .bool false] 222) := by show Row _ _ _ _; rw [hW3]; exact Jb wr _ _ rfl
   have HR : Hid (Below wr.heap.size wr W3) := by rw [hW3]; exact (Below.refl _ _).alloc (Nat.le_refl _) _
   have HOB : Hid (∀ j, u7.ownBlock = some j → w.heap.size ≤ j ∧ j < wr.heap.size) := fun j hj => HOW.out.lt j hj
   clear hW3
   go_wp2_with fail
   simp only [Tryz.sizeOf222, Result.andThen_ok]
   go_wp2_with fail
   simp only [Tryz.isAgg222, Tryz.sizeOf222, Result.andThen_ok, if_true, HLD.out]
   clear HLD
   go_wp2_with fail
   rw [HW3.out]
   clear HW3
   obtain ⟨d0, d1, d2, d3, d4, d5, d6, d7, d8, d9, d10, d11, d12, d13, d14, d15, d16, d17⟩ := VZ HR3.out
   obtain ⟨fd0, fd1, fd2, fd3, fd4, fd5, fd6, fd7, fd8, fd9, fd10, fd11, fd12, fd13, fd14, fd15, fd16, fd17⟩ := VW HR3.out
   have hsb := Tryz.sizeOf222
   simp only [hsb]
   go_simp
   clear hsb
   obtain ⟨W4, hW4⟩ : ∃ W, W = (((((((((((((((((W3.setCell ⟨wr.heap.size, 0, none⟩ (.string q.a.o)).setCell ⟨wr.heap.size, 1, none⟩ (int i64 q.a.r)).setCell ⟨wr.heap.size, 2, none⟩ (int i64 q.a.s)).setCell ⟨wr.heap.size, 3, none⟩ (int i64 q.a.t)).setCell ⟨wr.heap.size, 4, none⟩ (int i64 q.a.x)).setCell ⟨wr.heap.size, 5, none⟩ (int i64 q.a.z)).setCell ⟨wr.heap.size, 6, none⟩ (int i64 q.a.v)).setCell ⟨wr.heap.size, 7, none⟩ (.bool q.a.g)).setCell ⟨wr.heap.size, 8, none⟩ (.string q.b.o)).setCell ⟨wr.heap.size, 9, none⟩ (int i64 q.b.r)).setCell ⟨wr.heap.size, 10, none⟩ (int i64 q.b.s)).setCell ⟨wr.heap.size, 11, none⟩ (int i64 q.b.t)).setCell ⟨wr.heap.size, 12, none⟩ (int i64 q.b.x)).setCell ⟨wr.heap.size, 13, none⟩ (int i64 q.b.z)).setCell ⟨wr.heap.size, 14, none⟩ (int i64 q.b.v)).setCell ⟨wr.heap.size, 15, none⟩ (.bool q.b.g)).setCell ⟨wr.heap.size, 16, none⟩ (.bool q.ia)).setCell ⟨wr.heap.size, 17, none⟩ (.bool q.ib) := ⟨_, rfl⟩
   have HR4 : Hid (Row W4 wr.heap.size #[.string q.a.o, int i64 q.a.r, int i64 q.a.s, int i64 q.a.t, int i64 q.a.x, int i64 q.a.z, int i64 q.a.v, .bool q.a.g, .string q.b.o, int i64 q.b.r, int i64 q.b.s, int i64 q.b.t, int i64 q.b.x, int i64 q.b.z, int i64 q.b.v, .bool q.b.g, .bool q.ia, .bool q.ib] 222) := by show Row _ _ _ _; rw [hW4]; exact ((((((((((((((((((HR3.out.setL 0 _).setL 1 _).setL 2 _).setL 3 _).setL 4 _).setL 5 _).setL 6 _).setL 7 _).setL 8 _).setL 9 _).setL 10 _).setL 11 _).setL 12 _).setL 13 _).setL 14 _).setL 15 _).setL 16 _).setL 17 _)
   replace HR : Hid (Below wr.heap.size wr W4) := by rw [hW4]; exact ((((((((((((((((((HR.out.setCell (p := ⟨wr.heap.size, 0, none⟩) (Nat.le_refl _) _).setCell (p := ⟨wr.heap.size, 1, none⟩) (Nat.le_refl _) _).setCell (p := ⟨wr.heap.size, 2, none⟩) (Nat.le_refl _) _).setCell (p := ⟨wr.heap.size, 3, none⟩) (Nat.le_refl _) _).setCell (p := ⟨wr.heap.size, 4, none⟩) (Nat.le_refl _) _).setCell (p := ⟨wr.heap.size, 5, none⟩) (Nat.le_refl _) _).setCell (p := ⟨wr.heap.size, 6, none⟩) (Nat.le_refl _) _).setCell (p := ⟨wr.heap.size, 7, none⟩) (Nat.le_refl _) _).setCell (p := ⟨wr.heap.size, 8, none⟩) (Nat.le_refl _) _).setCell (p := ⟨wr.heap.size, 9, none⟩) (Nat.le_refl _) _).setCell (p := ⟨wr.heap.size, 10, none⟩) (Nat.le_refl _) _).setCell (p := ⟨wr.heap.size, 11, none⟩) (Nat.le_refl _) _).setCell (p := ⟨wr.heap.size, 12, none⟩) (Nat.le_refl _) _).setCell (p := ⟨wr.heap.size, 13, none⟩) (Nat.le_refl _) _).setCell (p := ⟨wr.heap.size, 14, none⟩) (Nat.le_refl _) _).setCell (p := ⟨wr.heap.size, 15, none⟩) (Nat.le_refl _) _).setCell (p := ⟨wr.heap.size, 16, none⟩) (Nat.le_refl _) _).setCell (p := ⟨wr.heap.size, 17, none⟩) (Nat.le_refl _) _)
   rw [← hW4]
   clear hW4 HR3
   clear d0 fd0 d1 fd1 d2 fd2 d3 fd3 d4 fd4 d5 fd5 d6 fd6 d7 fd7 d8 fd8 d9 fd9 d10 fd10 d11 fd11 d12 fd12 d13 fd13 d14 fd14 d15 fd15 d16 fd16 d17 fd17
   have HLD : Hid ((loadCellsFrom ⟨wr.heap.size, 0, none⟩ 0 18 #[]).run Tryz.prog W4 = .ok #[.string q.a.o, int i64 q.a.r, int i64 q.a.s, int i64 q.a.t, int i64 q.a.x, int i64 q.a.z, int i64 q.a.v, .bool q.a.g, .string q.b.o, int i64 q.b.r, int i64 q.b.s, int i64 q.b.t, int i64 q.b.x, int i64 q.b.z, int i64 q.b.v, .bool q.b.g, .bool q.ia, .bool q.ib] W4) := Jq HR4.out rfl
   have HCL := Ja (HCQ.out W4 (HBE.out.trans (HR.out.mono hsz)))
   clear HCQ
   go_wp2_with fail
   simp only [Tryz.isAgg222, Tryz.sizeOf222, Result.andThen_ok, if_true, HLD.out]
   clear HLD
   go_wp2_with fail
   refine HCL.out.mono ?_
   clear HCL
   rintro e w5 ⟨⟨zz, bb, rfl, hz⟩, hb5⟩
   replace HR : Hid (Below wr.heap.size wr w5) := HR.out.trans (hb5.mono HR.out.size)
   rw [hz] at HTK
   clear hb5 HR4 hz
   unfold JeL
   obtain ⟨gz, hgz⟩ : ∃ g, g = w5.heap.size := ⟨_, rfl⟩
   have HGZ : Hid (wr.heap.size ≤ gz) := by show _ ≤ _; rw [hgz]; exact HR.out.size
   obtain ⟨W6, hW6⟩ : ∃ W, W = w5.alloc (.cells #[.string ⟨#[]⟩, int i64 0, int i64 0, int i64 0, int i64 0, int i64 0, int i64 0, .bool false] 35) := ⟨_, rfl⟩
   have HW6 : Hid (w5.alloc (.cells #[.string ⟨#[]⟩, int i64 0, int i64 0, int i64 0, int i64 0, int i64 0, int i64 0, .bool false] 35) = W6) := hW6.symm
   have HZ6 : Hid (Row W6 gz #[.string ⟨#[]⟩, int i64 0, int i64 0, int i64 0, int i64 0, int i64 0, int i64 0, .bool false] 35) := by show Row _ _ _ _; rw [hW6, hgz]; exact Jb _ _ _ rfl
   replace HR : Hid (Below wr.heap.size wr W6) := by rw [hW6]; exact HR.out.alloc HR.out.size _
   clear hW6
   go_wp2_with fail
   rw [HW6.out, ← hgz]
   clear HW6 hgz
   obtain ⟨z0, z1, z2, z3, z4, z5, z6, z7⟩ := ZF HZ6.out
   obtain ⟨fz0, fz1, fz2, fz3, fz4, fz5, fz6, fz7⟩ := Uk HZ6.out
   have hso := Tryz.sizeOf35
   simp only [hso]
   go_simp
   clear hso
   obtain ⟨W7, hW7⟩ : ∃ W, W = (((((((W6.setCell ⟨gz, 0, none⟩ (.string zz.o)).setCell ⟨gz, 1, none⟩ (int i64 zz.r)).setCell ⟨gz, 2, none⟩ (int i64 zz.s)).setCell ⟨gz, 3, none⟩ (int i64 zz.t)).setCell ⟨gz, 4, none⟩ (int i64 zz.x)).setCell ⟨gz, 5, none⟩ (int i64 zz.z)).setCell ⟨gz, 6, none⟩ (int i64 zz.v)).setCell ⟨gz, 7, none⟩ (.bool zz.g) := ⟨_, rfl⟩
   have HZ7 : Hid (Row W7 gz #[.string zz.o, int i64 zz.r, int i64 zz.s, int i64 zz.t, int i64 zz.x, int i64 zz.z, int i64 zz.v, .bool zz.g] 35) := by show Row _ _ _ _; rw [hW7]; exact ((((((((HZ6.out.setL 0 _).setL 1 _).setL 2 _).setL 3 _).setL 4 _).setL 5 _).setL 6 _).setL 7 _)
   replace HR : Hid (Below wr.heap.size wr W7) := by rw [hW7]; exact ((((((((HR.out.setCell (p := ⟨gz, 0, none⟩) HGZ.out _).setCell (p := ⟨gz, 1, none⟩) HGZ.out _).setCell (p := ⟨gz, 2, none⟩) HGZ.out _).setCell (p := ⟨gz, 3, none⟩) HGZ.out _).setCell (p := ⟨gz, 4, none⟩) HGZ.out _).setCell (p := ⟨gz, 5, none⟩) HGZ.out _).setCell (p := ⟨gz, 6, none⟩) HGZ.out _).setCell (p := ⟨gz, 7, none⟩) HGZ.out _)
   rw [← hW7]
   clear hW7 HZ6
   clear z0 fz0 z1 fz1 z2 fz2 z3 fz3 z4 fz4 z5 fz5 z6 fz6 z7 fz7
   have HB7 : Hid (Below w.heap.size w W7) := HBE.out.trans (HR.out.mono hsz)
   have HO7 : Hid (W7.ownsRow w.heap.size 35 8 u7 D.length (ceV D)) := Jf HOW.out HR.out
   have HH7 : Hid (W7.heap[gq]? = w2.heap[gq]?) := (HR.out.block gq (by have := HGL.out; have := HS2.out; omega)).trans HSM.out
   have HS7 : Hid (w2.heap.size ≤ W7.heap.size) := Nat.le_trans HS2.out HR.out.size
   clear HR HOW HSM HBE
   cases bb with
   | false =>
    go_wp2
    go_roundw
    case rel => exact ⟨k + 1, D, by omega, by go_num, by rw [HTK.out]; simp, by omega, HO7.out, HH7.out, HAP.out, HS7.out, HB7.out⟩
    case measure => simp [intOf]; omega
   | true =>
    have HLD : Hid ((loadCellsFrom ⟨gz, 0, none⟩ 0 8 #[]).run Tryz.prog W7 = .ok #[.string zz.o, int i64 zz.r, int i64 zz.s, int i64 zz.t, int i64 zz.x, int i64 zz.z, int i64 zz.v, .bool zz.g] W7) := Jq HZ7.out rfl
    go_wp2_with fail
    simp only [Tryz.isAgg35, Tryz.sizeOf35, Result.andThen_ok, if_true, HLD.out]
    clear HLD
    rename_i KK hKK
    refine hKK _ _ ?_
    refine wpList_buildSlice rfl 27 35 1 _ rfl #[.string zz.o, int i64 zz.r, int i64 zz.s, int i64 zz.t, int i64 zz.x, int i64 zz.z, int i64 zz.v, .bool zz.g] i0 (.agg #[.string ⟨#[]⟩, int i64 0, int i64 0, int i64 0, int i64 0, int i64 0, int i64 0, .bool false]) Tryz.underlying27 hi hz0 (by rw [hz1]; decide) (by rw [hz1]; decide) (by rw [hz1]; kernel_rfl) ?_
    have HOWN := Ja (HO7.out.alloc (.cells #[.string zz.o, int i64 zz.r, int i64 zz.s, int i64 zz.t, int i64 zz.x, int i64 zz.z, int i64 zz.v, .bool zz.g] 35))
    have HNN := Ja (Ji W7 [.string zz.o, int i64 zz.r, int i64 zz.s, int i64 zz.t, int i64 zz.x, int i64 zz.z, int i64 zz.v, .bool zz.g] 35 rfl)
    have HSZ : Hid (w.heap.size ≤ (W7.alloc (.cells #[.string zz.o, int i64 zz.r, int i64 zz.s, int i64 zz.t, int i64 zz.x, int i64 zz.z, int i64 zz.v, .bool zz.g] 35)).heap.size) := by show _ ≤ _; have := HB7.out.size; simp; omega
    have HBb := Ja (HB7.out.alloc HB7.out.size (.cells #[.string zz.o, int i64 zz.r, int i64 zz.s, int i64 zz.t, int i64 zz.x, int i64 zz.z, int i64 zz.v, .bool zz.g] 35))
    clear HO7
    go_wp2_with (at_builtin; refine wpList_append_own_at _ rfl _ _ 27 rfl w.heap.size 35 i0 (.agg #[.string ⟨#[]⟩, int i64 0, int i64 0, int i64 0, int i64 0, int i64 0, int i64 0, .bool false]) 8 72 Tryz.underlying27 hi hz0 hz1 hz2 rfl (by decide) _ _ _ rfl HOWN.out ⟨W7.heap.size, 0, none⟩ 1 1 [.string zz.o, int i64 zz.r, int i64 zz.s, int i64 zz.t, int i64 zz.x, int i64 zz.z, int i64 zz.v, .bool zz.g] rfl rfl HNN.out (JeM zz) (by unfold maxLen; omega) (by omega) HSZ.out ?_)
    intro v2 w9 hown9 hgrow hne2 hat
    have HB9 := Ja (HBb.out.grown hgrow HSZ.out (fun j hj => (HOB.out j hj).1))
    have HO9 : Hid (w9.ownsRow w.heap.size 35 8 v2 (D ++ [zz]).length (ceV (D ++ [zz]))) := by
     show World.ownsRow _ _ _ _ _ _ _
     rw [Jer, List.length_append]; exact hown9
    have hlt : gq < (W7.alloc (.cells #[.string zz.o, int i64 zz.r, int i64 zz.s, int i64 zz.t, int i64 zz.x, int i64 zz.z, int i64 zz.v, .bool zz.g] 35)).heap.size := by have := HGL.out; have := HS7.out; show gq < (W7.heap.push _).size; rw [Array.size_push]; omega
    have HA9 : Hid (∀ j, v2.ownBlock = some j → j ≠ gq) := fun j hj => by
     rcases hat with e | e
     ·exact HAP.out j (by rw [← e]; exact hj)
     ·rw [e] at hj; injection hj with hj; have := HGL.out; have := HS7.out; omega
    have HH9 : Hid (w9.heap[gq]? = w2.heap[gq]?) := by
     have h1 := hgrow.block gq hlt (fun e => HAP.out gq e.symm rfl)
     rw [Below.heap_alloc W7 _ gq (by have := HGL.out; have := HS7.out; omega)] at h1
     exact h1.trans HH7.out
    have HS9 : Hid (w2.heap.size ≤ w9.heap.size) := Nat.le_trans (Nat.le_trans HS7.out (by simp)) hgrow.size
    have HT9 : Hid (D ++ [zz] = (full.take (k + 1)).filterMap pick) := by show _ = _; rw [HTK.out]; simp
    clear hown9 hgrow hne2 hat HOWN HNN HSZ HBb HB7 HH7 HS7 HTK
    go_wp2
    go_roundw
    case rel => exact ⟨k + 1, D ++ [zz], by omega, by go_num, HT9.out, by simp; omega, HO9.out, HH9.out, HA9.out, HS9.out, HB9.out⟩
    case measure => simp [intOf]; omega
  ·have hk1 : ¬ ((k : Int) < n) := by omega
   have hkn2 : k = n := by omega
   have HRR : Hid (wr.ownsRow w.heap.size 35 8 u7 (full.filterMap pick).length (ceV (full.filterMap pick))) := by
    have e : D = full.filterMap pick := by rw [HDD.out, hkn2, HN.out, List.take_length]
    rw [← e]; exact HOW.out
   clear HDD HOW
   go_wp2
   go_ret
   exact ⟨_, rfl, HRR.out, HBE.out⟩
end Go.Proofs.YtdknoflkingodaaGreat
namespace Go.Proofs.YtdknoflkingodaaGreat
open Value (int)
open IntKind (i64)
set_option maxRecDepth 100000
set_option linter.unusedVariables false
open Go.RowKit
def Kl (u1 u2 u3 : Value) : Prop := ZC u1 ∧ ZC u2 ∧ ZC u3
theorem JaR {w : World} {B n s : Nat} {e : TypeId} {v : Value} {xs : List Value} (h : w.ownsRow B e s v n xs) : ZC v := fun a m c e => by
 rcases h.2 with ⟨rfl, -⟩ | ⟨g, cap, cur, rfl, -, -, hle, -⟩
 ·injection e with e1 e2 e3; omega
 ·injection e with e1 e2 e3; omega
theorem OwnS.cap {w : World} {B : Nat} {S : Sta} {v0 v1 v2 v3 : Value} (h : OwnS w B S v0 v1 v2 v3) : Kl v1 v2 v3 := ⟨JaR h.1.2.1, JaR h.1.2.2.1, JaR h.1.2.2.2⟩
theorem Vd (S R : Sta) (u0 u1 u2 u3 v0 v1 v2 v3 : Value) (w : World) (hS : SOk S) (hR : SOk R) (hu : StAt w S u0 u1 u2 u3) (hv : StAt w R v0 v1 v2 v3) (cu : Kl u1 u2 u3) (cv : Kl v1 v2 v3) :
  Calls Tryz.prog 132 #[.agg #[u0, u1, u2, u3], .agg #[v0, v1, v2, v3]] w fun e w' => ∃ q, e = .returned q ∧ w'.ownsRow w.heap.size 38 3 q (JX S.l R.l S.T R.T).length (taV (JX S.l R.l S.T R.T)) ∧ Below w.heap.size w w' := by
 obtain ⟨W, hW⟩ : ∃ W, W = (w.alloc (.cells #[u0, u1, u2, u3] 29)).alloc (.cells #[v0, v1, v2, v3] 29) := ⟨_, rfl⟩
 have hP : Row W w.heap.size #[u0, u1, u2, u3] 29 := by rw [hW]; exact (Jb w _ _ rfl).alloc _
 have hQ : Row W (w.heap.size + 1) #[v0, v1, v2, v3] 29 := by rw [hW]; exact Jb _ _ _ (by simp)
 have HB : Hid (Below w.heap.size w W) := by rw [hW]; exact ((Below.refl _ _).alloc (Nat.le_refl _) _).alloc (by simp) _
 have huW : StAt W S u0 u1 u2 u3 := by rw [hW]; exact (hu.alloc _).alloc _
 have hvW : StAt W R v0 v1 v2 v3 := by rw [hW]; exact (hv.alloc _).alloc _
 have HW : Hid ((w.alloc (.cells #[u0, u1, u2, u3] 29)).alloc (.cells #[v0, v1, v2, v3] 29) = W) := hW.symm
 have HM := Ja (VT S.T R.T u1 v1 180 #[.pointer (some ⟨w.heap.size + 1, 0, none⟩), .pointer (some ⟨w.heap.size, 0, none⟩)] (Zj S.l R.l) W huW.2.1 hvW.2.1 cu.1 cv.1 (by have := hS.2.1.1; omega) (by have := hR.2.1.1; omega) (fun args wx => by go_simp) (fun wx hx q hq => by
  have hin := (JN rkTa_R zTa _ S.T R.T (Nat.le_refl _) hS.pT hR.pT q).1 hq
  have hr : 0 ≤ (JI q).r ∧ (JI q).r < 3 := by
   rcases hin.fst with h | h
   ·have := hS.rT _ h; omega
   ·have := hR.rT _ h; omega
  exact Jbp q.a q.b q.ia q.ib S.l R.l u0 v0 w.heap.size (w.heap.size + 1) wx (huW.1.below hx) (hvW.1.below hx) hS.1.1 hR.1.1 ⟨(hP.next hx).lt, (hP.next hx).cell 0 rfl⟩ ⟨(hQ.next hx).lt, (hQ.next hx).cell 0 rfl⟩ hr))
 have p1 : W.cell? ⟨w.heap.size, 1, none⟩ = some u1 := hP.cell 1 rfl
 have q1 : W.cell? ⟨w.heap.size + 1, 1, none⟩ = some v1 := hQ.cell 1 rfl
 clear hW hP hQ huW hvW hu hv cu cv
 go_enter Tryz.func132, Tryz.ntmps132
 go_wp2_with fail
 rw [HW.out]
 clear HW
 go_wp2_with fail
 refine HM.out.mono ?_
 rintro e w2 ⟨q, rfl, ho, hb⟩
 have HR : Hid (w2.ownsRow w.heap.size 38 3 q (JX S.l R.l S.T R.T).length (taV (JX S.l R.l S.T R.T))) := Jo ho HB.out.size
 have HBB : Hid (Below w.heap.size w w2) := HB.out.trans (hb.mono HB.out.size)
 clear ho hb HM HB p1 q1
 go_wp2
 go_ret
 exact ⟨_, rfl, HR.out, HBB.out⟩
theorem Vn (S R : Sta) (u0 u1 u2 u3 v0 v1 v2 v3 : Value) (w : World) (hS : SOk S) (hR : SOk R) (hu : StAt w S u0 u1 u2 u3) (hv : StAt w R v0 v1 v2 v3) (cu : Kl u1 u2 u3) (cv : Kl v1 v2 v3) :
  Calls Tryz.prog 133 #[.agg #[u0, u1, u2, u3], .agg #[v0, v1, v2, v3]] w fun e w' => ∃ q, e = .returned q ∧ w'.ownsRow w.heap.size 40 6 q (J3 (J1 S.l R.l) S.L R.L).length (liV (J3 (J1 S.l R.l) S.L R.L)) ∧ Below w.heap.size w w' := by
 obtain ⟨W, hW⟩ : ∃ W, W = (w.alloc (.cells #[u0, u1, u2, u3] 29)).alloc (.cells #[v0, v1, v2, v3] 29) := ⟨_, rfl⟩
 have hP : Row W w.heap.size #[u0, u1, u2, u3] 29 := by rw [hW]; exact (Jb w _ _ rfl).alloc _
 have hQ : Row W (w.heap.size + 1) #[v0, v1, v2, v3] 29 := by rw [hW]; exact Jb _ _ _ (by simp)
 have HB : Hid (Below w.heap.size w W) := by rw [hW]; exact ((Below.refl _ _).alloc (Nat.le_refl _) _).alloc (by simp) _
 have huW : StAt W S u0 u1 u2 u3 := by rw [hW]; exact (hu.alloc _).alloc _
 have hvW : StAt W R v0 v1 v2 v3 := by rw [hW]; exact (hv.alloc _).alloc _
 have HW : Hid ((w.alloc (.cells #[u0, u1, u2, u3] 29)).alloc (.cells #[v0, v1, v2, v3] 29) = W) := hW.symm
 have HKM := Ja (Yf S.l R.l u0 v0 W huW.1 hvW.1)
 have HP := Ja hP
 have HQ := Ja hQ
 have HU := Ja huW
 have HV := Ja hvW
 have p0 : W.cell? ⟨w.heap.size, 0, none⟩ = some u0 := hP.cell 0 rfl
 have q0 : W.cell? ⟨w.heap.size + 1, 0, none⟩ = some v0 := hQ.cell 0 rfl
 clear hW hP hQ huW hvW hu hv
 go_enter Tryz.func133, Tryz.ntmps133
 go_wp2_with fail
 rw [HW.out]
 clear HW
 go_wp2_with fail
 refine HKM.out.mono ?_
 rintro e w2 ⟨cm, rfl, hoc, hb2⟩
 have HB2 : Hid (Below w.heap.size w w2) := HB.out.trans (hb2.mono HB.out.size)
 have hic : IntsAt w2 cm (J1 S.l R.l) := IntsAt.own hoc rfl
 have hsh := hic
 obtain ⟨ca, cc, rfl, -⟩ := hsh
 obtain ⟨W3, hW3⟩ : ∃ W3, W3 = w2.alloc (.cells #[.slice ca (J1 S.l R.l).length cc] 24) := ⟨_, rfl⟩
 have hrc : Row W3 w2.heap.size #[.slice ca (J1 S.l R.l).length cc] 24 := by rw [hW3]; exact Jb w2 _ _ rfl
 have hbx : Below W.heap.size W W3 := by rw [hW3]; exact hb2.alloc hb2.size _
 have hic3 : IntsAt W3 (.slice ca (J1 S.l R.l).length cc) (J1 S.l R.l) := by rw [hW3]; exact hic.alloc _
 have HW3 : Hid (w2.alloc (.cells #[.slice ca (J1 S.l R.l).length cc] 24) = W3) := hW3.symm
 have HM := Ja (VX S.L R.L u2 v2 184 #[.pointer (some ⟨w2.heap.size, 0, none⟩)] (KT (J1 S.l R.l)) W3 (HU.out.below hbx).2.2.1 (HV.out.below hbx).2.2.1 cu.2.1 cv.2.1 (by have := hS.2.2.1.1; omega) (by have := hR.2.2.1.1; omega) (fun args wx => by go_simp) (fun wx hx q hq => JbJ q.a q.b q.ia q.ib (J1 S.l R.l) (.slice ca (J1 S.l R.l).length cc) w2.heap.size wx (hic3.below hx) ⟨(hrc.next hx).lt, (hrc.next hx).cell 0 rfl⟩))
 have HB3 : Hid (Below w.heap.size w W3) := HB.out.trans (hbx.mono HB.out.size)
 have p2 : (w2.alloc (.cells #[.slice ca (J1 S.l R.l).length cc] 24)).cell? ⟨w.heap.size, 2, none⟩ = some u2 := by rw [HW3.out]; exact (HP.out.next hbx).cell 2 rfl
 have q2 : (w2.alloc (.cells #[.slice ca (J1 S.l R.l).length cc] 24)).cell? ⟨w.heap.size + 1, 2, none⟩ = some v2 := by rw [HW3.out]; exact (HQ.out.next hbx).cell 2 rfl
 clear hW3 hrc hbx hic3 hic hoc hb2 HKM HP HQ HU HV cu cv p0 q0 HB2 HB
 go_wp2_with fail
 rw [HW3.out]
 clear HW3
 refine HM.out.mono ?_
 rintro e w4 ⟨q, rfl, ho, hb⟩
 have HR : Hid (w4.ownsRow w.heap.size 40 6 q (J3 (J1 S.l R.l) S.L R.L).length (liV (J3 (J1 S.l R.l) S.L R.L))) := Jo ho HB3.out.size
 have HBB : Hid (Below w.heap.size w w4) := HB3.out.trans (hb.mono HB3.out.size)
 clear ho hb HM HB3 p2 q2
 go_wp2
 go_ret
 exact ⟨_, rfl, HR.out, HBB.out⟩
theorem Vh (S R : Sta) (u0 u1 u2 u3 v0 v1 v2 v3 : Value) (w : World) (hS : SOk S) (hR : SOk R) (hu : StAt w S u0 u1 u2 u3) (hv : StAt w R v0 v1 v2 v3) (cu : Kl u1 u2 u3) (cv : Kl v1 v2 v3) :
  Calls Tryz.prog 134 #[.agg #[u0, u1, u2, u3], .agg #[v0, v1, v2, v3]] w fun e w' => ∃ q, e = .returned q ∧ w'.ownsRow w.heap.size 35 8 q (JR S.C R.C).length (ceV (JR S.C R.C)) ∧ Below w.heap.size w w' := by
 obtain ⟨W, hW⟩ : ∃ W, W = (w.alloc (.cells #[u0, u1, u2, u3] 29)).alloc (.cells #[v0, v1, v2, v3] 29) := ⟨_, rfl⟩
 have hP : Row W w.heap.size #[u0, u1, u2, u3] 29 := by rw [hW]; exact (Jb w _ _ rfl).alloc _
 have hQ : Row W (w.heap.size + 1) #[v0, v1, v2, v3] 29 := by rw [hW]; exact Jb _ _ _ (by simp)
 have HB : Hid (Below w.heap.size w W) := by rw [hW]; exact ((Below.refl _ _).alloc (Nat.le_refl _) _).alloc (by simp) _
 have huW : StAt W S u0 u1 u2 u3 := by rw [hW]; exact (hu.alloc _).alloc _
 have hvW : StAt W R v0 v1 v2 v3 := by rw [hW]; exact (hv.alloc _).alloc _
 have HW : Hid ((w.alloc (.cells #[u0, u1, u2, u3] 29)).alloc (.cells #[v0, v1, v2, v3] 29) = W) := hW.symm
 have HM := Ja (V4 S.C R.C u3 v3 187 #[] Ke W huW.2.2.2 hvW.2.2.2 cu.2.2 cv.2.2 (by have := hS.2.2.2.1.1; omega) (by have := hR.2.2.2.1.1; omega) (fun args wx => by go_simp) (fun wx hx q hq => JbQ q.a q.b q.ia q.ib wx))
 have p3 : W.cell? ⟨w.heap.size, 3, none⟩ = some u3 := hP.cell 3 rfl
 have q3 : W.cell? ⟨w.heap.size + 1, 3, none⟩ = some v3 := hQ.cell 3 rfl
 clear hW hP hQ huW hvW hu hv cu cv
 go_enter Tryz.func134, Tryz.ntmps134
 go_wp2_with fail
 rw [HW.out]
 clear HW
 go_wp2_with fail
 refine HM.out.mono ?_
 rintro e w2 ⟨q, rfl, ho, hb⟩
 have HR : Hid (w2.ownsRow w.heap.size 35 8 q (JR S.C R.C).length (ceV (JR S.C R.C))) := Jo ho HB.out.size
 have HBB : Hid (Below w.heap.size w w2) := HB.out.trans (hb.mono HB.out.size)
 clear ho hb HM HB p3 q3
 go_wp2
 go_ret
 exact ⟨_, rfl, HR.out, HBB.out⟩
end Go.Proofs.YtdknoflkingodaaGreat
