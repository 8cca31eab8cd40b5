/- One more is put into a row of one's own (Live). -/
import Derived.Deep.RegionLaw
import Derived.Laws.Externs
import Derived.Lib.AppendZerosOnto
import Derived.Test.YtepfinenocpneaaGreatQ31
set_option maxHeartbeats 16000000
namespace Go.Proofs.YtepfinenocpneaaGreat
open Value (int)
open IntKind (i64)
set_option maxRecDepth 100000
set_option linter.unusedVariables false
open Go.RowKit
theorem Jcp (w : World) (a b : Addr) (la ca lb cb : Nat) (hne : a.block ≠ b.block) (cA cB : Array Value) (hA : Row w a.block cA 88) (hB : Row w b.block cB 88) (hs : cB.size ≠ 0) :
  (callFunc 171 #[.slice (some a) la ca, .slice (some b) lb cb]).run Tryz.prog w = .ok (.value (.bool false)) w := by
 have hsz : ∀ w, (Go.sizeOf 88).run Tryz.prog w = .ok 6 w := Tryz.sizeOf88
 rw [run_callFunc_extern Tryz.func171 (by kernel_rfl) (by kernel_rfl) (by kernel_rfl) (e := Extern.SlicesOverlaps.overlaps #[26, 26] #[4]) (by kernel_rfl),
  Lib.run_overlaps_apart w 26 4 88 Tryz.underlying26 6 hsz a b la ca lb cb hne 88 88 cA.size cB.size (by unfold Row at hA; simp [World.shape?, hA]) (by unfold Row at hB; simp [World.shape?, hB]) hs (by unfold Row at hA; simp [World.frozen?, hA]) (by unfold Row at hA; simp [World.frozen?, hA])]
 rfl
theorem JaH (n i : Nat) (v : Value) (xs ys : List Value) (gx : Nat) (w : World) (B : Nat) (hi : i ≤ n) (hn : n ≤ 1000) (h : w.ownsRow B 88 6 v n xs) (hx : Row w gx ys.toArray 88) (hys : ys.length = 6) (hne : ∀ b, v.ownBlock = some b → b ≠ gx) (h1x : ∀ u ∈ xs, u.oneCell' = true) (h1y : ∀ u ∈ ys, u.oneCell' = true) (hB : B ≤ w.heap.size) :
  Calls Tryz.prog 163 #[v, int i64 i, .slice (some ⟨gx, 0, none⟩) 1 1] w fun e w' => ∃ u, e = .returned u ∧ w'.ownsRow B 88 6 u (n + 1) (xs.take (i * 6) ++ (ys ++ xs.drop (i * 6))) ∧ w.grownBy w' v.ownBlock := by
 have hlx := h.1
 obtain ⟨i0, hi0, hz0, hz1, hz2⟩ := info_parts ZF
 have HY : Hid (∀ j u, ys[j]? = some u → w.cell? (Addr.add ⟨gx, 0, none⟩ j) = some u) := fun j u hu => by
  rw [Jw]
  exact hx.cell j (by simpa using hu)
 by_cases hin : i = n
 ·subst hin
  have HE : Hid (xs.take (i * 6) ++ (ys ++ xs.drop (i * 6)) = xs ++ ys) := by show _ = _; rw [List.take_of_length_le (by omega), List.drop_of_length_le (by omega), List.append_nil]
  have HOW := Ja h
  have HB := Ja hB
  clear hne hlx hx
  rcases h.2 with ⟨rfl, h0⟩ | ⟨g, cap, cur, rfl, hbg, hg, hnc, hcm, hcs, htake⟩
  ·subst h0
   clear h
   go_enter Tryz.func163, Tryz.ntmps163
   go_wp2_with (at_builtin; refine wpList_append_own _ rfl _ _ 26 rfl B 88 i0 (.agg #[.bool false, .string ⟨#[]⟩, .string ⟨#[]⟩, int i64 0, int i64 0, int i64 0]) 6 64 Tryz.underlying26 hi0 hz0 hz1 hz2 rfl (by decide) _ _ _ rfl HOW.out ⟨gx, 0, none⟩ 1 1 ys rfl (by rw [hys]) HY.out h1y (by unfold maxLen; omega) (by omega) HB.out ?_)
   intro v2 w3 hown3 hgrow _
   have HR : Hid (w3.ownsRow B 88 6 v2 (0 + 1) (xs.take (0 * 6) ++ (ys ++ xs.drop (0 * 6)))) := by
    show World.ownsRow _ _ _ _ _ _ _
    rw [HE.out]; exact hown3
   have HG := Ja hgrow
   clear hown3 hgrow HE HOW HY
   go_wp2
   go_ret
   exact ⟨_, rfl, HR.out, HG.out⟩
  ·clear h
   go_enter Tryz.func163, Tryz.ntmps163
   go_wp2_with (at_builtin; refine wpList_append_own _ rfl _ _ 26 rfl B 88 i0 (.agg #[.bool false, .string ⟨#[]⟩, .string ⟨#[]⟩, int i64 0, int i64 0, int i64 0]) 6 64 Tryz.underlying26 hi0 hz0 hz1 hz2 rfl (by decide) _ _ _ rfl HOW.out ⟨gx, 0, none⟩ 1 1 ys rfl (by rw [hys]) HY.out h1y (by unfold maxLen; omega) (by omega) HB.out ?_)
   all_goals
    intro v2 w3 hown3 hgrow _
    have HR : Hid (w3.ownsRow B 88 6 v2 (i + 1) (xs.take (i * 6) ++ (ys ++ xs.drop (i * 6)))) := by
     show World.ownsRow _ _ _ _ _ _ _
     rw [HE.out]; exact hown3
    have HG := Ja hgrow
    clear hown3 hgrow HE HOW HY
    go_wp2
    go_ret
    exact ⟨_, rfl, HR.out, HG.out⟩
 ·have hil : i < n := by omega
  rcases h.2 with ⟨rfl, h0⟩ | ⟨g, cap, cur, rfl, hbg, hg, hnc, hcm, hcs, htake⟩
  ·omega
  have hgx : gx ≠ g := fun e => hne g rfl e.symm
  have HOV : Hid (∀ off lb cb, (callFunc 171 #[.slice (some ⟨gx, 0, none⟩) 1 1, .slice (some ⟨g, off, none⟩) lb cb]).run Tryz.prog w = .ok (.value (.bool false)) w) := fun off lb cb => Jcp w ⟨gx, 0, none⟩ ⟨g, off, none⟩ 1 1 lb cb hgx ys.toArray cur hx hg (by have := hcs; omega)
  have hni : ¬ ((i : Int) = (n : Int)) := by omega
  have hw1 : IntKind.i64.wrap ((i : Int) + 1) = (i : Int) + 1 := by rw [IntKind.wrap_i64] <;> omega
  have hw2 : IntKind.i64.wrap ((n : Int) + 1) = (n : Int) + 1 := by rw [IntKind.wrap_i64] <;> omega
  have hb1 : (0 : Int) ≤ (i : Int) + 1 := by omega
  have htn : ((i : Int) + 1).toNat = i + 1 := by omega
  have htm : ((n : Int) + 1).toNat = n + 1 := by omega
  have hb3 : (i : Int) ≤ (n : Int) + 1 := by omega
  have hb5 : (i : Int) ≤ (n : Int) := by omega
  by_cases hroom : n + 1 ≤ cap
  ·have hc63 : cap ≤ 9223372036854775807 := by unfold maxLen at hcm; omega
   have hb2 : ¬ (cap = i + 1) := by omega
   have hb4 : ¬ (cap = i) := by omega
   have hb6 : ¬ ((cap : Int) < (n : Int) + 1) := by omega
   have hb7 : (n : Int) + 1 ≤ (cap : Int) := by omega
   have hsz1 : (Tryz.prog.info? 88).map (·.size) = some 6 := by rw [hi0]; simp [hz1]
   have hld : (xs.drop (i * 6)).length = (n - i) * 6 := by rw [List.length_drop, hlx, Nat.sub_mul]
   have hcur : cur.size = cap * 6 := hcs
   obtain ⟨C1, hC1⟩ : ∃ C1, C1 = (splice cur.toList ((i + 1) * 6) (xs.drop (i * 6))).toArray := ⟨_, rfl⟩
   obtain ⟨C2, hC2⟩ : ∃ C2, C2 = (splice C1.toList (i * 6) ys).toArray := ⟨_, rfl⟩
   have hs1 : C1.size = cur.size := by rw [hC1, List.size_toArray, length_splice _ _ _ (show (i + 1) * 6 + (xs.drop (i * 6)).length ≤ cur.toList.length by rw [hld, Array.length_toList, hcur]; omega), Array.length_toList]
   have hs2 : C2.size = cur.size := by rw [hC2, List.size_toArray, length_splice _ _ _ (show i * 6 + ys.length ≤ C1.toList.length by rw [hys, Array.length_toList, hs1, hcur]; omega), Array.length_toList, hs1]
   have hq : C2.toList.take ((n + 1) * 6) = xs.take (i * 6) ++ (ys ++ xs.drop (i * 6)) := by
    rw [hC2, hC1]
    have := Uv cur.toList xs ys (i * 6) 6 (by rw [hlx]; exact htake) (by rw [hlx]; omega) hys (by rw [hlx, Array.length_toList, hcur]; omega)
    rw [hlx] at this
    rw [show (n + 1) * 6 = n * 6 + 6 by omega, show (i + 1) * 6 = i * 6 + 6 by omega]
    simpa using this
   obtain ⟨W1, hW1⟩ : ∃ W1, W1 = w.drew.setRow g C1 := ⟨_, rfl⟩
   have hr1 : Row W1 g C1 88 := by rw [hW1]; exact setRow_heap w.drew g cur _ _ (0, 0) hg
   have HC1 : Hid (∀ ty dc sc, (Builtin.copy_ #[26, 26] ty #[.slice (some ⟨g, (i + 1) * 6, none⟩) (n - i) dc, .slice (some ⟨g, i * 6, none⟩) (n + 1 - i) sc]).run Tryz.prog w.drew = .ok (goInt (Nat.min (n + 1 - i) (n - i))) W1) := fun ty dc sc => by
    rw [hW1, hC1]
    exact Jy w.drew 26 26 ty 88 6 g ((i + 1) * 6) _ dc ⟨g, i * 6, none⟩ _ sc cur 88 (xs.drop (i * 6)) Tryz.underlying26 hsz1 hg (by rw [hld]; congr 1; simp only [Nat.min_def]; split <;> omega)
     (fun j u hu => by rw [List.getElem?_drop] at hu; have := h.cells (g := g) rfl (i * 6 + j) u hu; rw [Jw] at this; rw [Addr.add_lit]; exact this) (by rw [hld, hcur]; omega) (fun u hu => h1x u (List.mem_of_mem_drop hu))
   have HC2 : Hid (∀ ty dc, (Builtin.copy_ #[26, 26] ty #[.slice (some ⟨g, i * 6, none⟩) (n + 1 - i) dc, .slice (some ⟨gx, 0, none⟩) 1 1]).run Tryz.prog W1 = .ok (goInt (Nat.min 1 (n + 1 - i))) (W1.setRow g C2)) := fun ty dc => by
    rw [hC2]
    exact Jy W1 26 26 ty 88 6 g (i * 6) _ dc ⟨gx, 0, none⟩ 1 1 C1 88 ys Tryz.underlying26 hsz1 hr1 (by rw [hys]; simp only [Nat.min_def]; split <;> omega)
     (fun j u hu => by
      have := HY.out j u hu
      rw [Jw] at this ⊢
      rw [hW1, World.cell?]
      rw [World.cell?] at this
      rw [setRow_other w.drew g gx C1 hgx]
      exact this) (by rw [hys, hs1, hcur]; omega) h1y
   have HR : Hid ((W1.setRow g C2).ownsRow B 88 6 (.slice (some ⟨g, 0, none⟩) (n + 1) cap) (n + 1) (xs.take (i * 6) ++ (ys ++ xs.drop (i * 6)))) :=
    ⟨by simp [hld, hys, hlx]; omega, .inr ⟨g, cap, C2, rfl, hbg, setRow_heap W1 g C1 _ _ (0, 0) hr1, hroom, hcm, by rw [hs2]; exact hcur, hq⟩⟩
   have HGR : Hid (w.grownBy (W1.setRow g C2) (Value.slice (some ⟨g, 0, none⟩) n cap).ownBlock) := by
    have h0 : w.grownBy w.drew (some g) := ⟨rfl, rfl, rfl, Nat.le_refl _, fun _ _ _ => rfl⟩
    have h1 : w.grownBy W1 (some g) := by rw [hW1]; exact J7 C1 h0 rfl
    exact J7 C2 h1 rfl
   clear hC1 hC2 hs1 hs2 hq hW1 hr1 hcs htake hg hcur hne hx hlx h hld
   go_enter Tryz.func163, Tryz.ntmps163
   go_wp2_with (simp only [HOV.out])
   go_region_law (refine ZS (.tmp 73) (.tmp 76) 26 26 rfl rfl (.slice (some ⟨g, (i + 1) * 6, none⟩) (n - i) (cap - (i + 1))) (.slice (some ⟨g, i * 6, none⟩) (n + 1 - i) (cap - i)) (by simp [Act.eval, Act.put]) (by simp [Act.eval, Act.put]) (HC1.out _ _ _) ?_)
   go_wp2_with (refine ZU _ _ 26 26 rfl rfl (.slice (some ⟨g, i * 6, none⟩) (n + 1 - i) (cap - i)) (.slice (some ⟨gx, 0, none⟩) 1 1) rfl rfl (HC2.out _ _) ?_)
   go_ret
   exact ⟨_, rfl, HR.out, HGR.out⟩
  ·have hcn : cap = n := by omega
   subst hcn
   have hsz1 : (Tryz.prog.info? 88).map (·.size) = some 6 := by rw [hi0]; simp [hz1]
   have hld : (xs.drop (i * 6)).length = (cap - i) * 6 := by rw [List.length_drop, hlx, Nat.sub_mul]
   have hlt : (xs.take (i * 6)).length = i * 6 := by rw [List.length_take, hlx]; omega
   have hgl : g < w.heap.size := (Array.getElem?_eq_some_iff.1 hg).1
   have hxl : gx < w.heap.size := (Array.getElem?_eq_some_iff.1 hx).1
   obtain ⟨G, hG⟩ : ∃ G, G = grownCap w (cap + 1) cap 88 := ⟨_, rfl⟩
   have hGn : cap + 1 ≤ G := by rw [hG]; exact grownCap_ge w _ _ _
   have hGm : G ≤ maxLen := by rw [hG]; exact grownCap_le_maxLen w (cap + 1) cap 88 (by unfold maxLen; omega)
   obtain ⟨R0, hR0⟩ : ∃ R0 : Array Value, R0 = (xs.take (i * 6)).toArray ++ Builtin.zeroCells (Value.cells (.agg #[.bool false, .string ⟨#[]⟩, .string ⟨#[]⟩, int i64 0, int i64 0, int i64 0])) (cap + 1 - i) ++ Builtin.zeroCells (Value.cells (.agg #[.bool false, .string ⟨#[]⟩, .string ⟨#[]⟩, int i64 0, int i64 0, int i64 0])) (G - (cap + 1)) := ⟨_, rfl⟩
   have hR0s : R0.size = G * 6 := by
    rw [hR0]
    simp only [Array.size_append, List.size_toArray, size_zeroCells, hlt, show (Value.cells (.agg #[.bool false, .string ⟨#[]⟩, .string ⟨#[]⟩, int i64 0, int i64 0, int i64 0])).size = 6 from rfl]
    omega
   have hR0t : R0.toList.take (i * 6) = xs.take (i * 6) := by
    rw [hR0]
    simp only [Array.toList_append, List.append_assoc]
    rw [List.take_append_of_le_length (by rw [hlt]; exact Nat.le_refl _), List.take_of_length_le (by rw [hlt]; exact Nat.le_refl _)]
   obtain ⟨WA, hWA⟩ : ∃ WA, WA = w.drew.alloc (.cells R0 88) := ⟨_, rfl⟩
   have HRZ : Hid (∀ ty, (Builtin.append_ #[26, 3] ty #[.slice (some ⟨g, 0, none⟩) i cap, int i64 ((cap : Int) + 1 - (i : Int))]).run Tryz.prog w = .ok (.slice (some ⟨w.heap.size, 0, none⟩) (cap + 1) G) WA) := fun ty => by
    have hik : i + (cap + 1 - i) = cap + 1 := by omega
    have hold : (Builtin.firstCells i0.size i (.slice (some ⟨g, 0, none⟩) i cap)).run Tryz.prog w.drew = .ok (xs.take (i * 6)).toArray w.drew := by
     rw [hz1]
     exact run_firstCells_some w.drew 6 i ⟨g, 0, none⟩ i cap (xs.take (i * 6)) hlt (fun j u hu => by
      rw [List.getElem?_take] at hu
      split at hu
      ·exact h.cells (g := g) rfl j u hu
      ·cases hu)
    have hr := Lib.run_append_grow_zeros w 26 3 ty 88 i0 _ .i64 .i64 Tryz.underlying26 Tryz.underlying3 hi0 hz0 (some ⟨g, 0, none⟩) i cap (xs.take (i * 6)) hold (cap + 1 - i) (by omega) (by omega) (by omega) (by omega) (by rw [hz2]; omega) (by rw [hz2, hik]; exact growslice_fits (by omega) (by omega))
    rw [hik, ← hG] at hr
    rw [show (cap : Int) + 1 - (i : Int) = ((cap + 1 - i : Nat) : Int) by omega, hWA, hR0]
    exact hr
   obtain ⟨C1, hC1⟩ : ∃ C1, C1 = (splice R0.toList (i * 6) ys).toArray := ⟨_, rfl⟩
   obtain ⟨C2, hC2⟩ : ∃ C2, C2 = (splice C1.toList ((i + 1) * 6) (xs.drop (i * 6))).toArray := ⟨_, rfl⟩
   have hs1 : C1.size = R0.size := by rw [hC1, List.size_toArray, length_splice _ _ _ (show i * 6 + ys.length ≤ R0.toList.length by rw [hys, Array.length_toList, hR0s]; omega), Array.length_toList]
   have hs2 : C2.size = R0.size := by rw [hC2, List.size_toArray, length_splice _ _ _ (show (i + 1) * 6 + (xs.drop (i * 6)).length ≤ C1.toList.length by rw [hld, Array.length_toList, hs1, hR0s]; omega), Array.length_toList, hs1]
   have hq : C2.toList.take ((cap + 1) * 6) = xs.take (i * 6) ++ (ys ++ xs.drop (i * 6)) := by
    rw [hC2, hC1]
    have := GV R0.toList xs ys (i * 6) 6 hR0t (by rw [hlx]; omega) hys (by rw [hlx, Array.length_toList, hR0s]; omega)
    rw [hlx] at this
    rw [show (cap + 1) * 6 = cap * 6 + 6 by omega, show (i + 1) * 6 = i * 6 + 6 by omega]
    simpa using this
   have hrA : Row WA w.heap.size R0 88 := by rw [hWA]; exact Jb w.drew _ _ rfl
   have hnew : ∀ k, k < w.heap.size → WA.heap[k]? = w.heap[k]? := fun k hk => by rw [hWA]; exact heap_alloc_old w.drew _ hk
   obtain ⟨W1, hW1⟩ : ∃ W1, W1 = WA.setRow w.heap.size C1 := ⟨_, rfl⟩
   have hr1 : Row W1 w.heap.size C1 88 := by rw [hW1]; exact setRow_heap WA _ R0 _ _ (0, 0) hrA
   have hnew1 : ∀ k, k < w.heap.size → W1.heap[k]? = w.heap[k]? := fun k hk => by rw [hW1, setRow_other WA _ k C1 (by omega)]; exact hnew k hk
   have HC1 : Hid (∀ ty dc, (Builtin.copy_ #[26, 26] ty #[.slice (some ⟨w.heap.size, i * 6, none⟩) (cap + 1 - i) dc, .slice (some ⟨gx, 0, none⟩) 1 1]).run Tryz.prog WA = .ok (goInt (Nat.min 1 (cap + 1 - i))) W1) := fun ty dc => by
    rw [hW1, hC1]
    exact Jy WA 26 26 ty 88 6 w.heap.size (i * 6) _ dc ⟨gx, 0, none⟩ 1 1 R0 88 ys Tryz.underlying26 hsz1 hrA (by rw [hys]; simp only [Nat.min_def]; split <;> omega)
     (fun j u hu => by
      have := HY.out j u hu
      rw [Jw] at this ⊢
      rw [World.cell?] at this ⊢
      rw [hnew gx hxl]
      exact this) (by rw [hys, hR0s]; omega) h1y
   have HC2 : Hid (∀ ty dc sc, (Builtin.copy_ #[26, 26] ty #[.slice (some ⟨w.heap.size, (i + 1) * 6, none⟩) (cap - i) dc, .slice (some ⟨g, i * 6, none⟩) (cap - i) sc]).run Tryz.prog W1.drew = .ok (goInt (Nat.min (cap - i) (cap - i))) (W1.drew.setRow w.heap.size C2)) := fun ty dc sc => by
    rw [hC2]
    exact Jy W1.drew 26 26 ty 88 6 w.heap.size ((i + 1) * 6) _ dc ⟨g, i * 6, none⟩ _ sc C1 88 (xs.drop (i * 6)) Tryz.underlying26 hsz1 hr1 (by rw [hld]; simp)
     (fun j u hu => by
      rw [List.getElem?_drop] at hu
      have := h.cells (g := g) rfl (i * 6 + j) u hu
      rw [Jw, World.cell?] at this
      rw [Addr.add_lit, World.cell?]
      show (match W1.heap[g]? with | some (.cells cs _ _) => cs[i * 6 + j]? | _ => none) = some u
      rw [hnew1 g hgl]
      exact this) (by rw [hld, hs1, hR0s]; omega) (fun u hu => h1x u (List.mem_of_mem_drop hu))
   have HR : Hid ((W1.drew.setRow w.heap.size C2).ownsRow B 88 6 (.slice (some ⟨w.heap.size, 0, none⟩) (cap + 1) G) (cap + 1) (xs.take (i * 6) ++ (ys ++ xs.drop (i * 6)))) :=
    ⟨by simp [hld, hys, hlx]; omega, .inr ⟨w.heap.size, G, C2, rfl, hB, setRow_heap W1.drew _ C1 _ _ (0, 0) hr1, hGn, hGm, by rw [hs2]; exact hR0s, hq⟩⟩
   have HGR : Hid (w.grownBy (W1.drew.setRow w.heap.size C2) (Value.slice (some ⟨g, 0, none⟩) cap cap).ownBlock) :=
    ⟨by rw [show (W1.drew.setRow w.heap.size C2).os = W1.os from rfl, hW1, hWA]; rfl, by rw [show (W1.drew.setRow w.heap.size C2).tape = W1.tape from rfl, hW1, hWA]; rfl, by rw [show (W1.drew.setRow w.heap.size C2).output = W1.output from rfl, hW1, hWA]; rfl, by rw [hW1, hWA]; simp [World.setRow], fun k hk _ => by rw [setRow_other W1.drew _ k C2 (by omega)]; exact hnew1 k hk⟩
   have hw3 : IntKind.i64.wrap ((cap : Int) + 1 - i) = (cap : Int) + 1 - i := by rw [IntKind.wrap_i64] <;> omega
   have hb2 : ¬ (cap = i) := by omega
   have hb4 : ¬ (G = i) := by omega
   have hb6 : ¬ (G = i + 1) := by omega
   have hb7 : (cap : Int) < (cap : Int) + 1 := by omega
   have hb8 : (i : Int) ≤ (cap : Int) := by omega
   clear hC1 hC2 hs1 hs2 hq hW1 hr1 hcs htake hg hne hx hlx h hld hlt hG hR0 hR0s hR0t hWA hrA hnew hnew1 hroom
   go_enter Tryz.func163, Tryz.ntmps163
   go_wp2_with (first
    | (at_builtin; refine Lib.wpList_append_run _ rfl _ _ _ _ rfl _ _ rfl rfl _ _ (HRZ.out _) ?_)
    | (refine ZU _ _ 26 26 rfl rfl (.slice (some ⟨w.heap.size, i * 6, none⟩) (cap + 1 - i) (G - i)) (.slice (some ⟨gx, 0, none⟩) 1 1) rfl rfl (HC1.out _ _) ?_))
   go_region_law (refine ZS (.tmp 50) (.tmp 53) 26 26 rfl rfl (.slice (some ⟨w.heap.size, (i + 1) * 6, none⟩) (cap - i) (G - (i + 1))) (.slice (some ⟨g, i * 6, none⟩) (cap - i) (cap - i)) (by simp [Act.eval, Act.put]) (by simp [Act.eval, Act.put]) (HC2.out _ _ _) ?_)
   go_wp2
   go_ret
   exact ⟨_, rfl, HR.out, HGR.out⟩
theorem Jbv (a : Li) : ∀ v ∈ a.cs, v.oneCell' = true := by
 intro v hv
 simp only [Li.cs, List.mem_cons, List.not_mem_nil, or_false] at hv
 rcases hv with rfl | rfl | rfl | rfl | rfl | rfl <;> rfl
theorem Vh (l : List Li) (v : Value) (i : Nat) (x : Li) (gx : Nat) (w : World) (B : Nat) (hi : i ≤ l.length) (hn : l.length ≤ 1000) (h : w.ownsRow B 88 6 v l.length (liV l)) (hx : Row w gx #[.bool x.m, .string x.o, .string x.y, int i64 x.v, int i64 x.r, int i64 x.s] 88) (hne : ∀ b, v.ownBlock = some b → b ≠ gx) (hB : B ≤ w.heap.size) :
  Calls Tryz.prog 163 #[v, int i64 i, .slice (some ⟨gx, 0, none⟩) 1 1] w fun e w' => ∃ u, e = .returned u ∧ w'.ownsRow B 88 6 u (l.take i ++ x :: l.drop i).length (liV (l.take i ++ x :: l.drop i)) ∧ w.grownBy w' v.ownBlock := by
 refine (JaH l.length i v (liV l) x.cs gx w B hi hn h hx rfl hne (UK _ Jbv l) (Jbv x) hB).mono ?_
 rintro e w' ⟨u, rfl, h1, h2⟩
 refine ⟨u, rfl, ?_, h2⟩
 rw [Ur l i x hi]
 unfold liV at h1 ⊢
 rw [UR Li.cs Zq l i x]
 exact h1
theorem Jb8 (w : World) (a b : Addr) (la ca lb cb : Nat) (hne : a.block ≠ b.block) (cA cB : Array Value) (hA : Row w a.block cA 90) (hB : Row w b.block cB 90) (hs : cB.size ≠ 0) :
  (callFunc 165 #[.slice (some a) la ca, .slice (some b) lb cb]).run Tryz.prog w = .ok (.value (.bool false)) w := by
 have hsz : ∀ w, (Go.sizeOf 90).run Tryz.prog w = .ok 8 w := Tryz.sizeOf90
 rw [run_callFunc_extern Tryz.func165 (by kernel_rfl) (by kernel_rfl) (by kernel_rfl) (e := Extern.SlicesOverlaps.overlaps #[27, 27] #[4]) (by kernel_rfl),
  Lib.run_overlaps_apart w 27 4 90 Tryz.underlying27 8 hsz a b la ca lb cb hne 90 90 cA.size cB.size (by unfold Row at hA; simp [World.shape?, hA]) (by unfold Row at hB; simp [World.shape?, hB]) hs (by unfold Row at hA; simp [World.frozen?, hA]) (by unfold Row at hA; simp [World.frozen?, hA])]
 rfl
theorem JaP (n i : Nat) (v : Value) (xs ys : List Value) (gx : Nat) (w : World) (B : Nat) (hi : i ≤ n) (hn : n ≤ 1000) (h : w.ownsRow B 90 8 v n xs) (hx : Row w gx ys.toArray 90) (hys : ys.length = 8) (hne : ∀ b, v.ownBlock = some b → b ≠ gx) (h1x : ∀ u ∈ xs, u.oneCell' = true) (h1y : ∀ u ∈ ys, u.oneCell' = true) (hB : B ≤ w.heap.size) :
  Calls Tryz.prog 157 #[v, int i64 i, .slice (some ⟨gx, 0, none⟩) 1 1] w fun e w' => ∃ u, e = .returned u ∧ w'.ownsRow B 90 8 u (n + 1) (xs.take (i * 8) ++ (ys ++ xs.drop (i * 8))) ∧ w.grownBy w' v.ownBlock := by
 have hlx := h.1
 obtain ⟨i0, hi0, hz0, hz1, hz2⟩ := info_parts KX
 have HY : Hid (∀ j u, ys[j]? = some u → w.cell? (Addr.add ⟨gx, 0, none⟩ j) = some u) := fun j u hu => by
  rw [Jw]
  exact hx.cell j (by simpa using hu)
 by_cases hin : i = n
 ·subst hin
  have HE : Hid (xs.take (i * 8) ++ (ys ++ xs.drop (i * 8)) = xs ++ ys) := by show _ = _; rw [List.take_of_length_le (by omega), List.drop_of_length_le (by omega), List.append_nil]
  have HOW := Ja h
  have HB := Ja hB
  clear hne hlx hx
  rcases h.2 with ⟨rfl, h0⟩ | ⟨g, cap, cur, rfl, hbg, hg, hnc, hcm, hcs, htake⟩
  ·subst h0
   clear h
   go_enter Tryz.func157, Tryz.ntmps157
   go_wp2_with (at_builtin; refine wpList_append_own _ rfl _ _ 27 rfl B 90 i0 (.agg #[.string ⟨#[]⟩, int i64 0, int i64 0, int i64 0, int i64 0, int i64 0, int i64 0, .bool false]) 8 72 Tryz.underlying27 hi0 hz0 hz1 hz2 rfl (by decide) _ _ _ rfl HOW.out ⟨gx, 0, none⟩ 1 1 ys rfl (by rw [hys]) HY.out h1y (by unfold maxLen; omega) (by omega) HB.out ?_)
   intro v2 w3 hown3 hgrow _
   have HR : Hid (w3.ownsRow B 90 8 v2 (0 + 1) (xs.take (0 * 8) ++ (ys ++ xs.drop (0 * 8)))) := by
    show World.ownsRow _ _ _ _ _ _ _
    rw [HE.out]; exact hown3
   have HG := Ja hgrow
   clear hown3 hgrow HE HOW HY
   go_wp2
   go_ret
   exact ⟨_, rfl, HR.out, HG.out⟩
  ·clear h
   go_enter Tryz.func157, Tryz.ntmps157
   go_wp2_with (at_builtin; refine wpList_append_own _ rfl _ _ 27 rfl B 90 i0 (.agg #[.string ⟨#[]⟩, int i64 0, int i64 0, int i64 0, int i64 0, int i64 0, int i64 0, .bool false]) 8 72 Tryz.underlying27 hi0 hz0 hz1 hz2 rfl (by decide) _ _ _ rfl HOW.out ⟨gx, 0, none⟩ 1 1 ys rfl (by rw [hys]) HY.out h1y (by unfold maxLen; omega) (by omega) HB.out ?_)
   all_goals
    intro v2 w3 hown3 hgrow _
    have HR : Hid (w3.ownsRow B 90 8 v2 (i + 1) (xs.take (i * 8) ++ (ys ++ xs.drop (i * 8)))) := by
     show World.ownsRow _ _ _ _ _ _ _
     rw [HE.out]; exact hown3
    have HG := Ja hgrow
    clear hown3 hgrow HE HOW HY
    go_wp2
    go_ret
    exact ⟨_, rfl, HR.out, HG.out⟩
 ·have hil : i < n := by omega
  rcases h.2 with ⟨rfl, h0⟩ | ⟨g, cap, cur, rfl, hbg, hg, hnc, hcm, hcs, htake⟩
  ·omega
  have hgx : gx ≠ g := fun e => hne g rfl e.symm
  have HOV : Hid (∀ off lb cb, (callFunc 165 #[.slice (some ⟨gx, 0, none⟩) 1 1, .slice (some ⟨g, off, none⟩) lb cb]).run Tryz.prog w = .ok (.value (.bool false)) w) := fun off lb cb => Jb8 w ⟨gx, 0, none⟩ ⟨g, off, none⟩ 1 1 lb cb hgx ys.toArray cur hx hg (by have := hcs; omega)
  have hni : ¬ ((i : Int) = (n : Int)) := by omega
  have hw1 : IntKind.i64.wrap ((i : Int) + 1) = (i : Int) + 1 := by rw [IntKind.wrap_i64] <;> omega
  have hw2 : IntKind.i64.wrap ((n : Int) + 1) = (n : Int) + 1 := by rw [IntKind.wrap_i64] <;> omega
  have hb1 : (0 : Int) ≤ (i : Int) + 1 := by omega
  have htn : ((i : Int) + 1).toNat = i + 1 := by omega
  have htm : ((n : Int) + 1).toNat = n + 1 := by omega
  have hb3 : (i : Int) ≤ (n : Int) + 1 := by omega
  have hb5 : (i : Int) ≤ (n : Int) := by omega
  by_cases hroom : n + 1 ≤ cap
  ·have hc63 : cap ≤ 9223372036854775807 := by unfold maxLen at hcm; omega
   have hb2 : ¬ (cap = i + 1) := by omega
   have hb4 : ¬ (cap = i) := by omega
   have hb6 : ¬ ((cap : Int) < (n : Int) + 1) := by omega
   have hb7 : (n : Int) + 1 ≤ (cap : Int) := by omega
   have hsz1 : (Tryz.prog.info? 90).map (·.size) = some 8 := by rw [hi0]; simp [hz1]
   have hld : (xs.drop (i * 8)).length = (n - i) * 8 := by rw [List.length_drop, hlx, Nat.sub_mul]
   have hcur : cur.size = cap * 8 := hcs
   obtain ⟨C1, hC1⟩ : ∃ C1, C1 = (splice cur.toList ((i + 1) * 8) (xs.drop (i * 8))).toArray := ⟨_, rfl⟩
   obtain ⟨C2, hC2⟩ : ∃ C2, C2 = (splice C1.toList (i * 8) ys).toArray := ⟨_, rfl⟩
   have hs1 : C1.size = cur.size := by rw [hC1, List.size_toArray, length_splice _ _ _ (show (i + 1) * 8 + (xs.drop (i * 8)).length ≤ cur.toList.length by rw [hld, Array.length_toList, hcur]; omega), Array.length_toList]
   have hs2 : C2.size = cur.size := by rw [hC2, List.size_toArray, length_splice _ _ _ (show i * 8 + ys.length ≤ C1.toList.length by rw [hys, Array.length_toList, hs1, hcur]; omega), Array.length_toList, hs1]
   have hq : C2.toList.take ((n + 1) * 8) = xs.take (i * 8) ++ (ys ++ xs.drop (i * 8)) := by
    rw [hC2, hC1]
    have := Uv cur.toList xs ys (i * 8) 8 (by rw [hlx]; exact htake) (by rw [hlx]; omega) hys (by rw [hlx, Array.length_toList, hcur]; omega)
    rw [hlx] at this
    rw [show (n + 1) * 8 = n * 8 + 8 by omega, show (i + 1) * 8 = i * 8 + 8 by omega]
    simpa using this
   obtain ⟨W1, hW1⟩ : ∃ W1, W1 = w.drew.setRow g C1 := ⟨_, rfl⟩
   have hr1 : Row W1 g C1 90 := by rw [hW1]; exact setRow_heap w.drew g cur _ _ (0, 0) hg
   have HC1 : Hid (∀ ty dc sc, (Builtin.copy_ #[27, 27] ty #[.slice (some ⟨g, (i + 1) * 8, none⟩) (n - i) dc, .slice (some ⟨g, i * 8, none⟩) (n + 1 - i) sc]).run Tryz.prog w.drew = .ok (goInt (Nat.min (n + 1 - i) (n - i))) W1) := fun ty dc sc => by
    rw [hW1, hC1]
    exact Jy w.drew 27 27 ty 90 8 g ((i + 1) * 8) _ dc ⟨g, i * 8, none⟩ _ sc cur 90 (xs.drop (i * 8)) Tryz.underlying27 hsz1 hg (by rw [hld]; congr 1; simp only [Nat.min_def]; split <;> omega)
     (fun j u hu => by rw [List.getElem?_drop] at hu; have := h.cells (g := g) rfl (i * 8 + j) u hu; rw [Jw] at this; rw [Addr.add_lit]; exact this) (by rw [hld, hcur]; omega) (fun u hu => h1x u (List.mem_of_mem_drop hu))
   have HC2 : Hid (∀ ty dc, (Builtin.copy_ #[27, 27] ty #[.slice (some ⟨g, i * 8, none⟩) (n + 1 - i) dc, .slice (some ⟨gx, 0, none⟩) 1 1]).run Tryz.prog W1 = .ok (goInt (Nat.min 1 (n + 1 - i))) (W1.setRow g C2)) := fun ty dc => by
    rw [hC2]
    exact Jy W1 27 27 ty 90 8 g (i * 8) _ dc ⟨gx, 0, none⟩ 1 1 C1 90 ys Tryz.underlying27 hsz1 hr1 (by rw [hys]; simp only [Nat.min_def]; split <;> omega)
     (fun j u hu => by
      have := HY.out j u hu
      rw [Jw] at this ⊢
      rw [hW1, World.cell?]
      rw [World.cell?] at this
      rw [setRow_other w.drew g gx C1 hgx]
      exact this) (by rw [hys, hs1, hcur]; omega) h1y
   have HR : Hid ((W1.setRow g C2).ownsRow B 90 8 (.slice (some ⟨g, 0, none⟩) (n + 1) cap) (n + 1) (xs.take (i * 8) ++ (ys ++ xs.drop (i * 8)))) :=
    ⟨by simp [hld, hys, hlx]; omega, .inr ⟨g, cap, C2, rfl, hbg, setRow_heap W1 g C1 _ _ (0, 0) hr1, hroom, hcm, by rw [hs2]; exact hcur, hq⟩⟩
   have HGR : Hid (w.grownBy (W1.setRow g C2) (Value.slice (some ⟨g, 0, none⟩) n cap).ownBlock) := by
    have h0 : w.grownBy w.drew (some g) := ⟨rfl, rfl, rfl, Nat.le_refl _, fun _ _ _ => rfl⟩
    have h1 : w.grownBy W1 (some g) := by rw [hW1]; exact J7 C1 h0 rfl
    exact J7 C2 h1 rfl
   clear hC1 hC2 hs1 hs2 hq hW1 hr1 hcs htake hg hcur hne hx hlx h hld
   go_enter Tryz.func157, Tryz.ntmps157
   go_wp2_with (simp only [HOV.out])
   go_region_law (refine ZS (.tmp 73) (.tmp 76) 27 27 rfl rfl (.slice (some ⟨g, (i + 1) * 8, none⟩) (n - i) (cap - (i + 1))) (.slice (some ⟨g, i * 8, none⟩) (n + 1 - i) (cap - i)) (by simp [Act.eval, Act.put]) (by simp [Act.eval, Act.put]) (HC1.out _ _ _) ?_)
   go_wp2_with (refine ZU _ _ 27 27 rfl rfl (.slice (some ⟨g, i * 8, none⟩) (n + 1 - i) (cap - i)) (.slice (some ⟨gx, 0, none⟩) 1 1) rfl rfl (HC2.out _ _) ?_)
   go_ret
   exact ⟨_, rfl, HR.out, HGR.out⟩
  ·have hcn : cap = n := by omega
   subst hcn
   have hsz1 : (Tryz.prog.info? 90).map (·.size) = some 8 := by rw [hi0]; simp [hz1]
   have hld : (xs.drop (i * 8)).length = (cap - i) * 8 := by rw [List.length_drop, hlx, Nat.sub_mul]
   have hlt : (xs.take (i * 8)).length = i * 8 := by rw [List.length_take, hlx]; omega
   have hgl : g < w.heap.size := (Array.getElem?_eq_some_iff.1 hg).1
   have hxl : gx < w.heap.size := (Array.getElem?_eq_some_iff.1 hx).1
   obtain ⟨G, hG⟩ : ∃ G, G = grownCap w (cap + 1) cap 90 := ⟨_, rfl⟩
   have hGn : cap + 1 ≤ G := by rw [hG]; exact grownCap_ge w _ _ _
   have hGm : G ≤ maxLen := by rw [hG]; exact grownCap_le_maxLen w (cap + 1) cap 90 (by unfold maxLen; omega)
   obtain ⟨R0, hR0⟩ : ∃ R0 : Array Value, R0 = (xs.take (i * 8)).toArray ++ Builtin.zeroCells (Value.cells (.agg #[.string ⟨#[]⟩, int i64 0, int i64 0, int i64 0, int i64 0, int i64 0, int i64 0, .bool false])) (cap + 1 - i) ++ Builtin.zeroCells (Value.cells (.agg #[.string ⟨#[]⟩, int i64 0, int i64 0, int i64 0, int i64 0, int i64 0, int i64 0, .bool false])) (G - (cap + 1)) := ⟨_, rfl⟩
   have hR0s : R0.size = G * 8 := by
    rw [hR0]
    simp only [Array.size_append, List.size_toArray, size_zeroCells, hlt, show (Value.cells (.agg #[.string ⟨#[]⟩, int i64 0, int i64 0, int i64 0, int i64 0, int i64 0, int i64 0, .bool false])).size = 8 from rfl]
    omega
   have hR0t : R0.toList.take (i * 8) = xs.take (i * 8) := by
    rw [hR0]
    simp only [Array.toList_append, List.append_assoc]
    rw [List.take_append_of_le_length (by rw [hlt]; exact Nat.le_refl _), List.take_of_length_le (by rw [hlt]; exact Nat.le_refl _)]
   obtain ⟨WA, hWA⟩ : ∃ WA, WA = w.drew.alloc (.cells R0 90) := ⟨_, rfl⟩
   have HRZ : Hid (∀ ty, (Builtin.append_ #[27, 3] ty #[.slice (some ⟨g, 0, none⟩) i cap, int i64 ((cap : Int) + 1 - (i : Int))]).run Tryz.prog w = .ok (.slice (some ⟨w.heap.size, 0, none⟩) (cap + 1) G) WA) := fun ty => by
    have hik : i + (cap + 1 - i) = cap + 1 := by omega
    have hold : (Builtin.firstCells i0.size i (.slice (some ⟨g, 0, none⟩) i cap)).run Tryz.prog w.drew = .ok (xs.take (i * 8)).toArray w.drew := by
     rw [hz1]
     exact run_firstCells_some w.drew 8 i ⟨g, 0, none⟩ i cap (xs.take (i * 8)) hlt (fun j u hu => by
      rw [List.getElem?_take] at hu
      split at hu
      ·exact h.cells (g := g) rfl j u hu
      ·cases hu)
    have hr := Lib.run_append_grow_zeros w 27 3 ty 90 i0 _ .i64 .i64 Tryz.underlying27 Tryz.underlying3 hi0 hz0 (some ⟨g, 0, none⟩) i cap (xs.take (i * 8)) hold (cap + 1 - i) (by omega) (by omega) (by omega) (by omega) (by rw [hz2]; omega) (by rw [hz2, hik]; exact growslice_fits (by omega) (by omega))
    rw [hik, ← hG] at hr
    rw [show (cap : Int) + 1 - (i : Int) = ((cap + 1 - i : Nat) : Int) by omega, hWA, hR0]
    exact hr
   obtain ⟨C1, hC1⟩ : ∃ C1, C1 = (splice R0.toList (i * 8) ys).toArray := ⟨_, rfl⟩
   obtain ⟨C2, hC2⟩ : ∃ C2, C2 = (splice C1.toList ((i + 1) * 8) (xs.drop (i * 8))).toArray := ⟨_, rfl⟩
   have hs1 : C1.size = R0.size := by rw [hC1, List.size_toArray, length_splice _ _ _ (show i * 8 + ys.length ≤ R0.toList.length by rw [hys, Array.length_toList, hR0s]; omega), Array.length_toList]
   have hs2 : C2.size = R0.size := by rw [hC2, List.size_toArray, length_splice _ _ _ (show (i + 1) * 8 + (xs.drop (i * 8)).length ≤ C1.toList.length by rw [hld, Array.length_toList, hs1, hR0s]; omega), Array.length_toList, hs1]
   have hq : C2.toList.take ((cap + 1) * 8) = xs.take (i * 8) ++ (ys ++ xs.drop (i * 8)) := by
    rw [hC2, hC1]
    have := GV R0.toList xs ys (i * 8) 8 hR0t (by rw [hlx]; omega) hys (by rw [hlx, Array.length_toList, hR0s]; omega)
    rw [hlx] at this
    rw [show (cap + 1) * 8 = cap * 8 + 8 by omega, show (i + 1) * 8 = i * 8 + 8 by omega]
    simpa using this
   have hrA : Row WA w.heap.size R0 90 := by rw [hWA]; exact Jb w.drew _ _ rfl
   have hnew : ∀ k, k < w.heap.size → WA.heap[k]? = w.heap[k]? := fun k hk => by rw [hWA]; exact heap_alloc_old w.drew _ hk
   obtain ⟨W1, hW1⟩ : ∃ W1, W1 = WA.setRow w.heap.size C1 := ⟨_, rfl⟩
   have hr1 : Row W1 w.heap.size C1 90 := by rw [hW1]; exact setRow_heap WA _ R0 _ _ (0, 0) hrA
   have hnew1 : ∀ k, k < w.heap.size → W1.heap[k]? = w.heap[k]? := fun k hk => by rw [hW1, setRow_other WA _ k C1 (by omega)]; exact hnew k hk
   have HC1 : Hid (∀ ty dc, (Builtin.copy_ #[27, 27] ty #[.slice (some ⟨w.heap.size, i * 8, none⟩) (cap + 1 - i) dc, .slice (some ⟨gx, 0, none⟩) 1 1]).run Tryz.prog WA = .ok (goInt (Nat.min 1 (cap + 1 - i))) W1) := fun ty dc => by
    rw [hW1, hC1]
    exact Jy WA 27 27 ty 90 8 w.heap.size (i * 8) _ dc ⟨gx, 0, none⟩ 1 1 R0 90 ys Tryz.underlying27 hsz1 hrA (by rw [hys]; simp only [Nat.min_def]; split <;> omega)
     (fun j u hu => by
      have := HY.out j u hu
      rw [Jw] at this ⊢
      rw [World.cell?] at this ⊢
      rw [hnew gx hxl]
      exact this) (by rw [hys, hR0s]; omega) h1y
   have HC2 : Hid (∀ ty dc sc, (Builtin.copy_ #[27, 27] ty #[.slice (some ⟨w.heap.size, (i + 1) * 8, none⟩) (cap - i) dc, .slice (some ⟨g, i * 8, none⟩) (cap - i) sc]).run Tryz.prog W1.drew = .ok (goInt (Nat.min (cap - i) (cap - i))) (W1.drew.setRow w.heap.size C2)) := fun ty dc sc => by
    rw [hC2]
    exact Jy W1.drew 27 27 ty 90 8 w.heap.size ((i + 1) * 8) _ dc ⟨g, i * 8, none⟩ _ sc C1 90 (xs.drop (i * 8)) Tryz.underlying27 hsz1 hr1 (by rw [hld]; simp)
     (fun j u hu => by
      rw [List.getElem?_drop] at hu
      have := h.cells (g := g) rfl (i * 8 + j) u hu
      rw [Jw, World.cell?] at this
      rw [Addr.add_lit, World.cell?]
      show (match W1.heap[g]? with | some (.cells cs _ _) => cs[i * 8 + j]? | _ => none) = some u
      rw [hnew1 g hgl]
      exact this) (by rw [hld, hs1, hR0s]; omega) (fun u hu => h1x u (List.mem_of_mem_drop hu))
   have HR : Hid ((W1.drew.setRow w.heap.size C2).ownsRow B 90 8 (.slice (some ⟨w.heap.size, 0, none⟩) (cap + 1) G) (cap + 1) (xs.take (i * 8) ++ (ys ++ xs.drop (i * 8)))) :=
    ⟨by simp [hld, hys, hlx]; omega, .inr ⟨w.heap.size, G, C2, rfl, hB, setRow_heap W1.drew _ C1 _ _ (0, 0) hr1, hGn, hGm, by rw [hs2]; exact hR0s, hq⟩⟩
   have HGR : Hid (w.grownBy (W1.drew.setRow w.heap.size C2) (Value.slice (some ⟨g, 0, none⟩) cap cap).ownBlock) :=
    ⟨by rw [show (W1.drew.setRow w.heap.size C2).os = W1.os from rfl, hW1, hWA]; rfl, by rw [show (W1.drew.setRow w.heap.size C2).tape = W1.tape from rfl, hW1, hWA]; rfl, by rw [show (W1.drew.setRow w.heap.size C2).output = W1.output from rfl, hW1, hWA]; rfl, by rw [hW1, hWA]; simp [World.setRow], fun k hk _ => by rw [setRow_other W1.drew _ k C2 (by omega)]; exact hnew1 k hk⟩
   have hw3 : IntKind.i64.wrap ((cap : Int) + 1 - i) = (cap : Int) + 1 - i := by rw [IntKind.wrap_i64] <;> omega
   have hb2 : ¬ (cap = i) := by omega
   have hb4 : ¬ (G = i) := by omega
   have hb6 : ¬ (G = i + 1) := by omega
   have hb7 : (cap : Int) < (cap : Int) + 1 := by omega
   have hb8 : (i : Int) ≤ (cap : Int) := by omega
   clear hC1 hC2 hs1 hs2 hq hW1 hr1 hcs htake hg hne hx hlx h hld hlt hG hR0 hR0s hR0t hWA hrA hnew hnew1 hroom
   go_enter Tryz.func157, Tryz.ntmps157
   go_wp2_with (first
    | (at_builtin; refine Lib.wpList_append_run _ rfl _ _ _ _ rfl _ _ rfl rfl _ _ (HRZ.out _) ?_)
    | (refine ZU _ _ 27 27 rfl rfl (.slice (some ⟨w.heap.size, i * 8, none⟩) (cap + 1 - i) (G - i)) (.slice (some ⟨gx, 0, none⟩) 1 1) rfl rfl (HC1.out _ _) ?_))
   go_region_law (refine ZS (.tmp 50) (.tmp 53) 27 27 rfl rfl (.slice (some ⟨w.heap.size, (i + 1) * 8, none⟩) (cap - i) (G - (i + 1))) (.slice (some ⟨g, i * 8, none⟩) (cap - i) (cap - i)) (by simp [Act.eval, Act.put]) (by simp [Act.eval, Act.put]) (HC2.out _ _ _) ?_)
   go_wp2
   go_ret
   exact ⟨_, rfl, HR.out, HGR.out⟩
theorem Jbf (a : Ce) : ∀ v ∈ a.cs, v.oneCell' = true := by
 intro v hv
 simp only [Ce.cs, List.mem_cons, List.not_mem_nil, or_false] at hv
 rcases hv with rfl | rfl | rfl | rfl | rfl | rfl | rfl | rfl <;> rfl
theorem VA (l : List Ce) (v : Value) (i : Nat) (x : Ce) (gx : Nat) (w : World) (B : Nat) (hi : i ≤ l.length) (hn : l.length ≤ 1000) (h : w.ownsRow B 90 8 v l.length (ceV l)) (hx : Row w gx #[.string x.o, int i64 x.r, int i64 x.s, int i64 x.t, int i64 x.x, int i64 x.z, int i64 x.v, .bool x.g] 90) (hne : ∀ b, v.ownBlock = some b → b ≠ gx) (hB : B ≤ w.heap.size) :
  Calls Tryz.prog 157 #[v, int i64 i, .slice (some ⟨gx, 0, none⟩) 1 1] w fun e w' => ∃ u, e = .returned u ∧ w'.ownsRow B 90 8 u (l.take i ++ x :: l.drop i).length (ceV (l.take i ++ x :: l.drop i)) ∧ w.grownBy w' v.ownBlock := by
 refine (JaP l.length i v (ceV l) x.cs gx w B hi hn h hx rfl hne (UK _ Jbf l) (Jbf x) hB).mono ?_
 rintro e w' ⟨u, rfl, h1, h2⟩
 refine ⟨u, rfl, ?_, h2⟩
 rw [Ur l i x hi]
 unfold ceV at h1 ⊢
 rw [UR Ce.cs Ky l i x]
 exact h1
theorem JbO (w : World) (a b : Addr) (la ca lb cb : Nat) (hne : a.block ≠ b.block) (cA cB : Array Value) (hA : Row w a.block cA 86) (hB : Row w b.block cB 86) (hs : cB.size ≠ 0) :
  (callFunc 152 #[.slice (some a) la ca, .slice (some b) lb cb]).run Tryz.prog w = .ok (.value (.bool false)) w := by
 have hsz : ∀ w, (Go.sizeOf 86).run Tryz.prog w = .ok 3 w := Tryz.sizeOf86
 rw [run_callFunc_extern Tryz.func152 (by kernel_rfl) (by kernel_rfl) (by kernel_rfl) (e := Extern.SlicesOverlaps.overlaps #[25, 25] #[4]) (by kernel_rfl),
  Lib.run_overlaps_apart w 25 4 86 Tryz.underlying25 3 hsz a b la ca lb cb hne 86 86 cA.size cB.size (by unfold Row at hA; simp [World.shape?, hA]) (by unfold Row at hB; simp [World.shape?, hB]) hs (by unfold Row at hA; simp [World.frozen?, hA]) (by unfold Row at hA; simp [World.frozen?, hA])]
 rfl
theorem JaN (n i : Nat) (v : Value) (xs ys : List Value) (gx : Nat) (w : World) (B : Nat) (hi : i ≤ n) (hn : n ≤ 1000) (h : w.ownsRow B 86 3 v n xs) (hx : Row w gx ys.toArray 86) (hys : ys.length = 3) (hne : ∀ b, v.ownBlock = some b → b ≠ gx) (h1x : ∀ u ∈ xs, u.oneCell' = true) (h1y : ∀ u ∈ ys, u.oneCell' = true) (hB : B ≤ w.heap.size) :
  Calls Tryz.prog 142 #[v, int i64 i, .slice (some ⟨gx, 0, none⟩) 1 1] w fun e w' => ∃ u, e = .returned u ∧ w'.ownsRow B 86 3 u (n + 1) (xs.take (i * 3) ++ (ys ++ xs.drop (i * 3))) ∧ w.grownBy w' v.ownBlock := by
 have hlx := h.1
 obtain ⟨i0, hi0, hz0, hz1, hz2⟩ := info_parts Zn
 have HY : Hid (∀ j u, ys[j]? = some u → w.cell? (Addr.add ⟨gx, 0, none⟩ j) = some u) := fun j u hu => by
  rw [Jw]
  exact hx.cell j (by simpa using hu)
 by_cases hin : i = n
 ·subst hin
  have HE : Hid (xs.take (i * 3) ++ (ys ++ xs.drop (i * 3)) = xs ++ ys) := by show _ = _; rw [List.take_of_length_le (by omega), List.drop_of_length_le (by omega), List.append_nil]
  have HOW := Ja h
  have HB := Ja hB
  clear hne hlx hx
  rcases h.2 with ⟨rfl, h0⟩ | ⟨g, cap, cur, rfl, hbg, hg, hnc, hcm, hcs, htake⟩
  ·subst h0
   clear h
   go_enter Tryz.func142, Tryz.ntmps142
   go_wp2_with (at_builtin; refine wpList_append_own _ rfl _ _ 25 rfl B 86 i0 (.agg #[.string ⟨#[]⟩, int i64 0, int i64 0]) 3 32 Tryz.underlying25 hi0 hz0 hz1 hz2 rfl (by decide) _ _ _ rfl HOW.out ⟨gx, 0, none⟩ 1 1 ys rfl (by rw [hys]) HY.out h1y (by unfold maxLen; omega) (by omega) HB.out ?_)
   intro v2 w3 hown3 hgrow _
   have HR : Hid (w3.ownsRow B 86 3 v2 (0 + 1) (xs.take (0 * 3) ++ (ys ++ xs.drop (0 * 3)))) := by
    show World.ownsRow _ _ _ _ _ _ _
    rw [HE.out]; exact hown3
   have HG := Ja hgrow
   clear hown3 hgrow HE HOW HY
   go_wp2
   go_ret
   exact ⟨_, rfl, HR.out, HG.out⟩
  ·clear h
   go_enter Tryz.func142, Tryz.ntmps142
   go_wp2_with (at_builtin; refine wpList_append_own _ rfl _ _ 25 rfl B 86 i0 (.agg #[.string ⟨#[]⟩, int i64 0, int i64 0]) 3 32 Tryz.underlying25 hi0 hz0 hz1 hz2 rfl (by decide) _ _ _ rfl HOW.out ⟨gx, 0, none⟩ 1 1 ys rfl (by rw [hys]) HY.out h1y (by unfold maxLen; omega) (by omega) HB.out ?_)
   all_goals
    intro v2 w3 hown3 hgrow _
    have HR : Hid (w3.ownsRow B 86 3 v2 (i + 1) (xs.take (i * 3) ++ (ys ++ xs.drop (i * 3)))) := by
     show World.ownsRow _ _ _ _ _ _ _
     rw [HE.out]; exact hown3
    have HG := Ja hgrow
    clear hown3 hgrow HE HOW HY
    go_wp2
    go_ret
    exact ⟨_, rfl, HR.out, HG.out⟩
 ·have hil : i < n := by omega
  rcases h.2 with ⟨rfl, h0⟩ | ⟨g, cap, cur, rfl, hbg, hg, hnc, hcm, hcs, htake⟩
  ·omega
  have hgx : gx ≠ g := fun e => hne g rfl e.symm
  have HOV : Hid (∀ off lb cb, (callFunc 152 #[.slice (some ⟨gx, 0, none⟩) 1 1, .slice (some ⟨g, off, none⟩) lb cb]).run Tryz.prog w = .ok (.value (.bool false)) w) := fun off lb cb => JbO w ⟨gx, 0, none⟩ ⟨g, off, none⟩ 1 1 lb cb hgx ys.toArray cur hx hg (by have := hcs; omega)
  have hni : ¬ ((i : Int) = (n : Int)) := by omega
  have hw1 : IntKind.i64.wrap ((i : Int) + 1) = (i : Int) + 1 := by rw [IntKind.wrap_i64] <;> omega
  have hw2 : IntKind.i64.wrap ((n : Int) + 1) = (n : Int) + 1 := by rw [IntKind.wrap_i64] <;> omega
  have hb1 : (0 : Int) ≤ (i : Int) + 1 := by omega
  have htn : ((i : Int) + 1).toNat = i + 1 := by omega
  have htm : ((n : Int) + 1).toNat = n + 1 := by omega
  have hb3 : (i : Int) ≤ (n : Int) + 1 := by omega
  have hb5 : (i : Int) ≤ (n : Int) := by omega
  by_cases hroom : n + 1 ≤ cap
  ·have hc63 : cap ≤ 9223372036854775807 := by unfold maxLen at hcm; omega
   have hb2 : ¬ (cap = i + 1) := by omega
   have hb4 : ¬ (cap = i) := by omega
   have hb6 : ¬ ((cap : Int) < (n : Int) + 1) := by omega
   have hb7 : (n : Int) + 1 ≤ (cap : Int) := by omega
   have hsz1 : (Tryz.prog.info? 86).map (·.size) = some 3 := by rw [hi0]; simp [hz1]
   have hld : (xs.drop (i * 3)).length = (n - i) * 3 := by rw [List.length_drop, hlx, Nat.sub_mul]
   have hcur : cur.size = cap * 3 := hcs
   obtain ⟨C1, hC1⟩ : ∃ C1, C1 = (splice cur.toList ((i + 1) * 3) (xs.drop (i * 3))).toArray := ⟨_, rfl⟩
   obtain ⟨C2, hC2⟩ : ∃ C2, C2 = (splice C1.toList (i * 3) ys).toArray := ⟨_, rfl⟩
   have hs1 : C1.size = cur.size := by rw [hC1, List.size_toArray, length_splice _ _ _ (show (i + 1) * 3 + (xs.drop (i * 3)).length ≤ cur.toList.length by rw [hld, Array.length_toList, hcur]; omega), Array.length_toList]
   have hs2 : C2.size = cur.size := by rw [hC2, List.size_toArray, length_splice _ _ _ (show i * 3 + ys.length ≤ C1.toList.length by rw [hys, Array.length_toList, hs1, hcur]; omega), Array.length_toList, hs1]
   have hq : C2.toList.take ((n + 1) * 3) = xs.take (i * 3) ++ (ys ++ xs.drop (i * 3)) := by
    rw [hC2, hC1]
    have := Uv cur.toList xs ys (i * 3) 3 (by rw [hlx]; exact htake) (by rw [hlx]; omega) hys (by rw [hlx, Array.length_toList, hcur]; omega)
    rw [hlx] at this
    rw [show (n + 1) * 3 = n * 3 + 3 by omega, show (i + 1) * 3 = i * 3 + 3 by omega]
    simpa using this
   obtain ⟨W1, hW1⟩ : ∃ W1, W1 = w.drew.setRow g C1 := ⟨_, rfl⟩
   have hr1 : Row W1 g C1 86 := by rw [hW1]; exact setRow_heap w.drew g cur _ _ (0, 0) hg
   have HC1 : Hid (∀ ty dc sc, (Builtin.copy_ #[25, 25] ty #[.slice (some ⟨g, (i + 1) * 3, none⟩) (n - i) dc, .slice (some ⟨g, i * 3, none⟩) (n + 1 - i) sc]).run Tryz.prog w.drew = .ok (goInt (Nat.min (n + 1 - i) (n - i))) W1) := fun ty dc sc => by
    rw [hW1, hC1]
    exact Jy w.drew 25 25 ty 86 3 g ((i + 1) * 3) _ dc ⟨g, i * 3, none⟩ _ sc cur 86 (xs.drop (i * 3)) Tryz.underlying25 hsz1 hg (by rw [hld]; congr 1; simp only [Nat.min_def]; split <;> omega)
     (fun j u hu => by rw [List.getElem?_drop] at hu; have := h.cells (g := g) rfl (i * 3 + j) u hu; rw [Jw] at this; rw [Addr.add_lit]; exact this) (by rw [hld, hcur]; omega) (fun u hu => h1x u (List.mem_of_mem_drop hu))
   have HC2 : Hid (∀ ty dc, (Builtin.copy_ #[25, 25] ty #[.slice (some ⟨g, i * 3, none⟩) (n + 1 - i) dc, .slice (some ⟨gx, 0, none⟩) 1 1]).run Tryz.prog W1 = .ok (goInt (Nat.min 1 (n + 1 - i))) (W1.setRow g C2)) := fun ty dc => by
    rw [hC2]
    exact Jy W1 25 25 ty 86 3 g (i * 3) _ dc ⟨gx, 0, none⟩ 1 1 C1 86 ys Tryz.underlying25 hsz1 hr1 (by rw [hys]; simp only [Nat.min_def]; split <;> omega)
     (fun j u hu => by
      have := HY.out j u hu
      rw [Jw] at this ⊢
      rw [hW1, World.cell?]
      rw [World.cell?] at this
      rw [setRow_other w.drew g gx C1 hgx]
      exact this) (by rw [hys, hs1, hcur]; omega) h1y
   have HR : Hid ((W1.setRow g C2).ownsRow B 86 3 (.slice (some ⟨g, 0, none⟩) (n + 1) cap) (n + 1) (xs.take (i * 3) ++ (ys ++ xs.drop (i * 3)))) :=
    ⟨by simp [hld, hys, hlx]; omega, .inr ⟨g, cap, C2, rfl, hbg, setRow_heap W1 g C1 _ _ (0, 0) hr1, hroom, hcm, by rw [hs2]; exact hcur, hq⟩⟩
   have HGR : Hid (w.grownBy (W1.setRow g C2) (Value.slice (some ⟨g, 0, none⟩) n cap).ownBlock) := by
    have h0 : w.grownBy w.drew (some g) := ⟨rfl, rfl, rfl, Nat.le_refl _, fun _ _ _ => rfl⟩
    have h1 : w.grownBy W1 (some g) := by rw [hW1]; exact J7 C1 h0 rfl
    exact J7 C2 h1 rfl
   clear hC1 hC2 hs1 hs2 hq hW1 hr1 hcs htake hg hcur hne hx hlx h hld
   go_enter Tryz.func142, Tryz.ntmps142
   go_wp2_with (simp only [HOV.out])
   go_region_law (refine ZS (.tmp 73) (.tmp 76) 25 25 rfl rfl (.slice (some ⟨g, (i + 1) * 3, none⟩) (n - i) (cap - (i + 1))) (.slice (some ⟨g, i * 3, none⟩) (n + 1 - i) (cap - i)) (by simp [Act.eval, Act.put]) (by simp [Act.eval, Act.put]) (HC1.out _ _ _) ?_)
   go_wp2_with (refine ZU _ _ 25 25 rfl rfl (.slice (some ⟨g, i * 3, none⟩) (n + 1 - i) (cap - i)) (.slice (some ⟨gx, 0, none⟩) 1 1) rfl rfl (HC2.out _ _) ?_)
   go_ret
   exact ⟨_, rfl, HR.out, HGR.out⟩
  ·have hcn : cap = n := by omega
   subst hcn
   have hsz1 : (Tryz.prog.info? 86).map (·.size) = some 3 := by rw [hi0]; simp [hz1]
   have hld : (xs.drop (i * 3)).length = (cap - i) * 3 := by rw [List.length_drop, hlx, Nat.sub_mul]
   have hlt : (xs.take (i * 3)).length = i * 3 := by rw [List.length_take, hlx]; omega
   have hgl : g < w.heap.size := (Array.getElem?_eq_some_iff.1 hg).1
   have hxl : gx < w.heap.size := (Array.getElem?_eq_some_iff.1 hx).1
   obtain ⟨G, hG⟩ : ∃ G, G = grownCap w (cap + 1) cap 86 := ⟨_, rfl⟩
   have hGn : cap + 1 ≤ G := by rw [hG]; exact grownCap_ge w _ _ _
   have hGm : G ≤ maxLen := by rw [hG]; exact grownCap_le_maxLen w (cap + 1) cap 86 (by unfold maxLen; omega)
   obtain ⟨R0, hR0⟩ : ∃ R0 : Array Value, R0 = (xs.take (i * 3)).toArray ++ Builtin.zeroCells (Value.cells (.agg #[.string ⟨#[]⟩, int i64 0, int i64 0])) (cap + 1 - i) ++ Builtin.zeroCells (Value.cells (.agg #[.string ⟨#[]⟩, int i64 0, int i64 0])) (G - (cap + 1)) := ⟨_, rfl⟩
   have hR0s : R0.size = G * 3 := by
    rw [hR0]
    simp only [Array.size_append, List.size_toArray, size_zeroCells, hlt, show (Value.cells (.agg #[.string ⟨#[]⟩, int i64 0, int i64 0])).size = 3 from rfl]
    omega
   have hR0t : R0.toList.take (i * 3) = xs.take (i * 3) := by
    rw [hR0]
    simp only [Array.toList_append, List.append_assoc]
    rw [List.take_append_of_le_length (by rw [hlt]; exact Nat.le_refl _), List.take_of_length_le (by rw [hlt]; exact Nat.le_refl _)]
   obtain ⟨WA, hWA⟩ : ∃ WA, WA = w.drew.alloc (.cells R0 86) := ⟨_, rfl⟩
   have HRZ : Hid (∀ ty, (Builtin.append_ #[25, 3] ty #[.slice (some ⟨g, 0, none⟩) i cap, int i64 ((cap : Int) + 1 - (i : Int))]).run Tryz.prog w = .ok (.slice (some ⟨w.heap.size, 0, none⟩) (cap + 1) G) WA) := fun ty => by
    have hik : i + (cap + 1 - i) = cap + 1 := by omega
    have hold : (Builtin.firstCells i0.size i (.slice (some ⟨g, 0, none⟩) i cap)).run Tryz.prog w.drew = .ok (xs.take (i * 3)).toArray w.drew := by
     rw [hz1]
     exact run_firstCells_some w.drew 3 i ⟨g, 0, none⟩ i cap (xs.take (i * 3)) hlt (fun j u hu => by
      rw [List.getElem?_take] at hu
      split at hu
      ·exact h.cells (g := g) rfl j u hu
      ·cases hu)
    have hr := Lib.run_append_grow_zeros w 25 3 ty 86 i0 _ .i64 .i64 Tryz.underlying25 Tryz.underlying3 hi0 hz0 (some ⟨g, 0, none⟩) i cap (xs.take (i * 3)) hold (cap + 1 - i) (by omega) (by omega) (by omega) (by omega) (by rw [hz2]; omega) (by rw [hz2, hik]; exact growslice_fits (by omega) (by omega))
    rw [hik, ← hG] at hr
    rw [show (cap : Int) + 1 - (i : Int) = ((cap + 1 - i : Nat) : Int) by omega, hWA, hR0]
    exact hr
   obtain ⟨C1, hC1⟩ : ∃ C1, C1 = (splice R0.toList (i * 3) ys).toArray := ⟨_, rfl⟩
   obtain ⟨C2, hC2⟩ : ∃ C2, C2 = (splice C1.toList ((i + 1) * 3) (xs.drop (i * 3))).toArray := ⟨_, rfl⟩
   have hs1 : C1.size = R0.size := by rw [hC1, List.size_toArray, length_splice _ _ _ (show i * 3 + ys.length ≤ R0.toList.length by rw [hys, Array.length_toList, hR0s]; omega), Array.length_toList]
   have hs2 : C2.size = R0.size := by rw [hC2, List.size_toArray, length_splice _ _ _ (show (i + 1) * 3 + (xs.drop (i * 3)).length ≤ C1.toList.length by rw [hld, Array.length_toList, hs1, hR0s]; omega), Array.length_toList, hs1]
   have hq : C2.toList.take ((cap + 1) * 3) = xs.take (i * 3) ++ (ys ++ xs.drop (i * 3)) := by
    rw [hC2, hC1]
    have := GV R0.toList xs ys (i * 3) 3 hR0t (by rw [hlx]; omega) hys (by rw [hlx, Array.length_toList, hR0s]; omega)
    rw [hlx] at this
    rw [show (cap + 1) * 3 = cap * 3 + 3 by omega, show (i + 1) * 3 = i * 3 + 3 by omega]
    simpa using this
   have hrA : Row WA w.heap.size R0 86 := by rw [hWA]; exact Jb w.drew _ _ rfl
   have hnew : ∀ k, k < w.heap.size → WA.heap[k]? = w.heap[k]? := fun k hk => by rw [hWA]; exact heap_alloc_old w.drew _ hk
   obtain ⟨W1, hW1⟩ : ∃ W1, W1 = WA.setRow w.heap.size C1 := ⟨_, rfl⟩
   have hr1 : Row W1 w.heap.size C1 86 := by rw [hW1]; exact setRow_heap WA _ R0 _ _ (0, 0) hrA
   have hnew1 : ∀ k, k < w.heap.size → W1.heap[k]? = w.heap[k]? := fun k hk => by rw [hW1, setRow_other WA _ k C1 (by omega)]; exact hnew k hk
   have HC1 : Hid (∀ ty dc, (Builtin.copy_ #[25, 25] ty #[.slice (some ⟨w.heap.size, i * 3, none⟩) (cap + 1 - i) dc, .slice (some ⟨gx, 0, none⟩) 1 1]).run Tryz.prog WA = .ok (goInt (Nat.min 1 (cap + 1 - i))) W1) := fun ty dc => by
    rw [hW1, hC1]
    exact Jy WA 25 25 ty 86 3 w.heap.size (i * 3) _ dc ⟨gx, 0, none⟩ 1 1 R0 86 ys Tryz.underlying25 hsz1 hrA (by rw [hys]; simp only [Nat.min_def]; split <;> omega)
     (fun j u hu => by
      have := HY.out j u hu
      rw [Jw] at this ⊢
      rw [World.cell?] at this ⊢
      rw [hnew gx hxl]
      exact this) (by rw [hys, hR0s]; omega) h1y
   have HC2 : Hid (∀ ty dc sc, (Builtin.copy_ #[25, 25] ty #[.slice (some ⟨w.heap.size, (i + 1) * 3, none⟩) (cap - i) dc, .slice (some ⟨g, i * 3, none⟩) (cap - i) sc]).run Tryz.prog W1.drew = .ok (goInt (Nat.min (cap - i) (cap - i))) (W1.drew.setRow w.heap.size C2)) := fun ty dc sc => by
    rw [hC2]
    exact Jy W1.drew 25 25 ty 86 3 w.heap.size ((i + 1) * 3) _ dc ⟨g, i * 3, none⟩ _ sc C1 86 (xs.drop (i * 3)) Tryz.underlying25 hsz1 hr1 (by rw [hld]; simp)
     (fun j u hu => by
      rw [List.getElem?_drop] at hu
      have := h.cells (g := g) rfl (i * 3 + j) u hu
      rw [Jw, World.cell?] at this
      rw [Addr.add_lit, World.cell?]
      show (match W1.heap[g]? with | some (.cells cs _ _) => cs[i * 3 + j]? | _ => none) = some u
      rw [hnew1 g hgl]
      exact this) (by rw [hld, hs1, hR0s]; omega) (fun u hu => h1x u (List.mem_of_mem_drop hu))
   have HR : Hid ((W1.drew.setRow w.heap.size C2).ownsRow B 86 3 (.slice (some ⟨w.heap.size, 0, none⟩) (cap + 1) G) (cap + 1) (xs.take (i * 3) ++ (ys ++ xs.drop (i * 3)))) :=
    ⟨by simp [hld, hys, hlx]; omega, .inr ⟨w.heap.size, G, C2, rfl, hB, setRow_heap W1.drew _ C1 _ _ (0, 0) hr1, hGn, hGm, by rw [hs2]; exact hR0s, hq⟩⟩
   have HGR : Hid (w.grownBy (W1.drew.setRow w.heap.size C2) (Value.slice (some ⟨g, 0, none⟩) cap cap).ownBlock) :=
    ⟨by rw [show (W1.drew.setRow w.heap.size C2).os = W1.os from rfl, hW1, hWA]; rfl, by rw [show (W1.drew.setRow w.heap.size C2).tape = W1.tape from rfl, hW1, hWA]; rfl, by rw [show (W1.drew.setRow w.heap.size C2).output = W1.output from rfl, hW1, hWA]; rfl, by rw [hW1, hWA]; simp [World.setRow], fun k hk _ => by rw [setRow_other W1.drew _ k C2 (by omega)]; exact hnew1 k hk⟩
   have hw3 : IntKind.i64.wrap ((cap : Int) + 1 - i) = (cap : Int) + 1 - i := by rw [IntKind.wrap_i64] <;> omega
   have hb2 : ¬ (cap = i) := by omega
   have hb4 : ¬ (G = i) := by omega
   have hb6 : ¬ (G = i + 1) := by omega
   have hb7 : (cap : Int) < (cap : Int) + 1 := by omega
   have hb8 : (i : Int) ≤ (cap : Int) := by omega
   clear hC1 hC2 hs1 hs2 hq hW1 hr1 hcs htake hg hne hx hlx h hld hlt hG hR0 hR0s hR0t hWA hrA hnew hnew1 hroom
   go_enter Tryz.func142, Tryz.ntmps142
   go_wp2_with (first
    | (at_builtin; refine Lib.wpList_append_run _ rfl _ _ _ _ rfl _ _ rfl rfl _ _ (HRZ.out _) ?_)
    | (refine ZU _ _ 25 25 rfl rfl (.slice (some ⟨w.heap.size, i * 3, none⟩) (cap + 1 - i) (G - i)) (.slice (some ⟨gx, 0, none⟩) 1 1) rfl rfl (HC1.out _ _) ?_))
   go_region_law (refine ZS (.tmp 50) (.tmp 53) 25 25 rfl rfl (.slice (some ⟨w.heap.size, (i + 1) * 3, none⟩) (cap - i) (G - (i + 1))) (.slice (some ⟨g, i * 3, none⟩) (cap - i) (cap - i)) (by simp [Act.eval, Act.put]) (by simp [Act.eval, Act.put]) (HC2.out _ _ _) ?_)
   go_wp2
   go_ret
   exact ⟨_, rfl, HR.out, HGR.out⟩
theorem JbH (a : Ta) : ∀ v ∈ a.cs, v.oneCell' = true := by
 intro v hv
 simp only [Ta.cs, List.mem_cons, List.not_mem_nil, or_false] at hv
 rcases hv with rfl | rfl | rfl <;> rfl
theorem Vj (l : List Ta) (v : Value) (i : Nat) (x : Ta) (gx : Nat) (w : World) (B : Nat) (hi : i ≤ l.length) (hn : l.length ≤ 1000) (h : w.ownsRow B 86 3 v l.length (taV l)) (hx : Row w gx #[.string x.o, int i64 x.r, int i64 x.n] 86) (hne : ∀ b, v.ownBlock = some b → b ≠ gx) (hB : B ≤ w.heap.size) :
  Calls Tryz.prog 142 #[v, int i64 i, .slice (some ⟨gx, 0, none⟩) 1 1] w fun e w' => ∃ u, e = .returned u ∧ w'.ownsRow B 86 3 u (l.take i ++ x :: l.drop i).length (taV (l.take i ++ x :: l.drop i)) ∧ w.grownBy w' v.ownBlock := by
 refine (JaN l.length i v (taV l) x.cs gx w B hi hn h hx rfl hne (UK _ JbH l) (JbH x) hB).mono ?_
 rintro e w' ⟨u, rfl, h1, h2⟩
 refine ⟨u, rfl, ?_, h2⟩
 rw [Ur l i x hi]
 unfold taV at h1 ⊢
 rw [UR Ta.cs Ku l i x]
 exact h1
end Go.Proofs.YtepfinenocpneaaGreat
