/- What the two readers of the words of a line do. -/
import Derived.Test.YtjgakehacioagaaDoorLStr
import Derived.Test.YtjgakehacioagaaDoorPMath
import Derived.Test.YtjgakehacioagaaDoorShelf
import Derived.Deep.AppendLies
namespace Go.Proofs.YtjgakehacioagaaDoor
open Go.RowKit

theorem infoStr : (Tryd.prog.info? 9).map (fun i => (i.zero, i.size, i.bytes)) = some (some (.string ByteArray.empty), 1, 16) := by kernel_rfl
theorem own_emptyS (w : World) (B : Nat) (hB : B ≤ w.heap.size) : (w.alloc (.cells #[] 9)).ownsRow B 9 1 (.slice (some ⟨w.heap.size, 0, none⟩) 0 0) 0 (strC []) :=
  ⟨rfl, .inr ⟨w.heap.size, 0, #[], rfl, hB, (MapKept.heap_alloc w _).1, Nat.le_refl _, Nat.zero_le _, rfl, rfl⟩⟩

/-- The answer of PartsOf, in memory of its own. -/
def PartsPost (s : ByteArray) (w : World) (e : Ending) (w' : World) : Prop :=
  ∃ v, e = .returned (.tuple #[v, .bool (partsR s).2]) ∧ w'.ownsRow w.heap.size 9 1 v (partsR s).1.length (strC (partsR s).1) ∧ Below w.heap.size w w'

theorem partsR_no {s : ByteArray} (h : ¬ (s.size ≤ 600 ∧ allPlain s = true ∧ (Lib.fields s.data.toList).length ≤ 10)) : partsR s = ([], false) := by unfold partsR; rw [if_neg h]
theorem partsR_yes {s : ByteArray} (h : s.size ≤ 600 ∧ allPlain s = true ∧ (Lib.fields s.data.toList).length ≤ 10) : partsR s = (Lib.fields s.data.toList, true) := by unfold partsR; rw [if_pos h]

theorem own_word {w : World} {B : Nat} {v : Value} {out : List (List UInt8)} {x : ByteArray} (h : w.ownsRow B 9 1 v (out.length + 1) (strC out ++ [Value.string x])) :
    w.ownsRow B 9 1 v (out ++ [x.data.toList]).length (strC (out ++ [x.data.toList])) := by
  have e : strC (out ++ [x.data.toList]) = strC out ++ [Value.string x] := by unfold strC; rw [List.map_append]; simp
  rw [e, List.length_append]; exact h

theorem specParts_long (s : ByteArray) (hs : s.size ≤ maxLen) (h : 600 < s.size) (w : World) : Calls Tryd.prog 7 #[.string s] w (PartsPost s w) := by
  unfold maxLen at hs
  have HP : Hid (partsR s = ([], false)) := partsR_no (by omega)
  go_enter Tryd.func7, Tryd.ntmps7
  go_wp2
  go_ret2
  refine ⟨_, by rw [HP.out]; rfl, ?_, (Below.refl _ _).alloc (Nat.le_refl _) _⟩
  rw [HP.out]
  exact own_emptyS w _ (Nat.le_refl _)

set_option maxHeartbeats 2000000 in
set_option maxRecDepth 100000 in
theorem specParts (s : ByteArray) (hs : s.size ≤ 600) (w : World) : Calls Tryd.prog 7 #[.string s] w (PartsPost s w) := by
  obtain ⟨i0, hi, hz0, hz1, hz2⟩ := info_parts infoStr
  have hfl := fieldsGo_le s.data.toList []
  have hfl2 : (Lib.fields s.data.toList).length ≤ 601 := by unfold Lib.fields; simp at hfl; omega
  have HFL : Hid ((Lib.fields s.data.toList).length ≤ 601) := hfl2
  clear hfl hfl2
  go_enter Tryd.func7, Tryd.ntmps7
  go_wp2
  go_loopg [4, 5, 6] (s.size + 1) (fun gg v y z wr => ∃ (i b : Nat) (out : List (List UInt8)), i + gg = s.size + 1 ∧ b ≤ s.size + 1 ∧ y = .int .i64 b ∧ z = .int .i64 i ∧ partsAt s i b out ∧ (∀ j (hj : j < s.size), j < i → plainB s[j]) ∧ wr.ownsRow w.heap.size 9 1 v out.length (strC out) ∧ v ≠ .slice none 0 0 ∧ Below w.heap.size w wr)
  case atStart => exact ⟨0, 0, [], by omega, by omega, rfl, rfl, parts_start s, fun j _ h => absurd h (by omega), own_emptyS w _ (Nat.le_refl _), by simp, (Below.refl _ _).alloc (Nat.le_refl _) _⟩
  case round =>
    obtain ⟨i, b, out, hg, hb, rfl, rfl, hpa, hpl, hown, hnn, hbel⟩ := hrel
    have hsz := hbel.size
    have hol := parts_len hpa
    have hol2 : out.length ≤ 601 := by have := HFL.out; omega
    have HPA : Hid (partsAt s i b out) := hpa
    have HPL : Hid (∀ j (hj : j < s.size), j < i → plainB s[j]) := hpl
    have HNN : Hid (u4 ≠ .slice none 0 0) := hnn
    have HG : Hid (i + gk = s.size + 1) := hg
    clear hpa hpl hol hnn
    by_cases hile : i ≤ s.size
    · have hi1 : (i : Int) ≤ s.size := by omega
      clear hg
      by_cases hlt : i < s.size
      · have hi2 : (i : Int) < s.size := by omega
        have hb8 : (s[i].toNat : Int) < 256 := by have := s[i].toNat_lt; omega
        by_cases hpb : plainB s[i]
        · have hp1 : ¬ ((s[i].toNat : Int) < 32) := by have := hpb.1; omega
          have hp2 : ¬ ((126 : Int) < s[i].toNat) := by have := hpb.2; omega
          have HPB : Hid (plainB s[i]) := hpb
          clear hpb
          by_cases h32 : s[i].toNat = 32
          · have h32' : ((s[i].toNat : Int) != 32) = false := by simp; omega
            have HC : Hid ((b < i → partsAt s (i + 1) (i + 1) (out ++ [(s.extract b i).data.toList])) ∧ (¬ b < i → partsAt s (i + 1) (i + 1) out)) := parts_cut HPA.out hile (fun _ => ⟨HPB.out, h32⟩)
            have HPL2 : Hid (∀ j (hj : j < s.size), j < i + 1 → plainB s[j]) := fun j hj hji => by
              by_cases hji' : j = i
              · subst hji'; exact HPB.out
              · exact HPL.out j hj (by omega)
            by_cases hbi : (b : Int) < i
            · have HDum := trivial
              have hb0 : (0 : Int) ≤ b := by omega
              have hsl := fun wx => run_slice_string (P := Tryd.prog) wx 9 s .i64 .i64 (b : Int) (i : Int) Tryd.underlying9 hb0 (by omega) hi1
              go_wp2_with (at_builtin; refine wpList_append_own _ rfl _ _ 24 rfl w.heap.size 9 i0 (.string ByteArray.empty) 1 16 Tryd.underlying24 hi hz0 hz1 hz2 rfl (by decide) _ _ _ rfl (hown.alloc _) ⟨wr.heap.size, 0, none⟩ 1 1 [Value.string (s.extract b i)] rfl rfl (one_new _ _ _) (by intro u' hu'; simp at hu'; subst hu'; rfl) (by unfold maxLen; omega) (by omega) (by simp; omega) ?_)
              intro v2 w2 hown2 hgrow hnil
              have hnx : Below w.heap.size w w2 := (hbel.alloc hsz _).grown hgrow (by simp; omega) (fun k hk => (hown.lt k hk).1)
              have HV : Hid (v2 ≠ .slice none 0 0) := hnil
              have ho := own_word hown2
              have HX : Hid (partsAt s (i + 1) (i + 1) (out ++ [(s.extract b i).data.toList])) := HC.out.1 (by omega)
              clear hown hown2 hgrow hnil hbel hsl
              go_wp2
              go_roundg (s.size - i)
              case measure => have := HG.out; omega
              case rel => exact ⟨i + 1, i + 1, out ++ [(s.extract b i).data.toList], by omega, by omega, by go_num, by go_num, HX.out, HPL2.out, ho, HV.out, hnx⟩
            · have HDum := trivial
              have HX : Hid (partsAt s (i + 1) (i + 1) out) := HC.out.2 (by omega)
              have HO : Hid (wr.ownsRow w.heap.size 9 1 u4 out.length (strC out)) := hown
              clear hown
              go_wp2
              go_roundg (s.size - i)
              case measure => have := HG.out; omega
              case rel => exact ⟨i + 1, i + 1, out, by omega, by omega, by go_num, by go_num, HX.out, HPL2.out, HO.out, HNN.out, hbel⟩
          · have h32' : ((s[i].toNat : Int) != 32) = true := by simp; omega
            have HX : Hid (partsAt s (i + 1) b out) := parts_on HPA.out hlt HPB.out h32
            have HPL2 : Hid (∀ j (hj : j < s.size), j < i + 1 → plainB s[j]) := fun j hj hji => by
              by_cases hji' : j = i
              · subst hji'; exact HPB.out
              · exact HPL.out j hj (by omega)
            have HO : Hid (wr.ownsRow w.heap.size 9 1 u4 out.length (strC out)) := hown
            clear hown
            go_wp2
            go_roundg (s.size - i)
            case measure => have := HG.out; omega
            case rel => exact ⟨i + 1, b, out, by omega, by omega, by go_num, by go_num, HX.out, HPL2.out, HO.out, HNN.out, hbel⟩
        · have HB : Hid (partsR s = ([], false)) := partsR_no (by rw [not_allPlain hlt hpb]; simp)
          have hcase : (s[i].toNat : Int) < 32 ∨ (¬ (s[i].toNat : Int) < 32 ∧ (126 : Int) < s[i].toNat) := by
            unfold plainB at hpb; omega
          clear hpb hown
          rcases hcase with h1 | ⟨h1, h2⟩
          all_goals
            go_wp2
            go_ret2
            refine ⟨_, by rw [HB.out]; rfl, ?_, hbel.alloc hsz _⟩
            rw [HB.out]
            exact own_emptyS wr _ hsz
      · have hi2 : ¬ ((i : Int) < s.size) := by omega
        have HC : Hid ((b < i → partsAt s (i + 1) (i + 1) (out ++ [(s.extract b i).data.toList])) ∧ (¬ b < i → partsAt s (i + 1) (i + 1) out)) := parts_cut HPA.out hile (fun h => absurd h hlt)
        have HPL2 : Hid (∀ j (hj : j < s.size), j < i + 1 → plainB s[j]) := fun j hj hji => HPL.out j hj (by omega)
        by_cases hbi : (b : Int) < i
        · have HDum := trivial
          have hb0 : (0 : Int) ≤ b := by omega
          have hsl := fun wx => run_slice_string (P := Tryd.prog) wx 9 s .i64 .i64 (b : Int) (i : Int) Tryd.underlying9 hb0 (by omega) hi1
          go_wp2_with (at_builtin; refine wpList_append_own _ rfl _ _ 24 rfl w.heap.size 9 i0 (.string ByteArray.empty) 1 16 Tryd.underlying24 hi hz0 hz1 hz2 rfl (by decide) _ _ _ rfl (hown.alloc _) ⟨wr.heap.size, 0, none⟩ 1 1 [Value.string (s.extract b i)] rfl rfl (one_new _ _ _) (by intro u' hu'; simp at hu'; subst hu'; rfl) (by unfold maxLen; omega) (by omega) (by simp; omega) ?_)
          intro v2 w2 hown2 hgrow hnil
          have hnx : Below w.heap.size w w2 := (hbel.alloc hsz _).grown hgrow (by simp; omega) (fun k hk => (hown.lt k hk).1)
          have HV : Hid (v2 ≠ .slice none 0 0) := hnil
          have ho := own_word hown2
          have HX : Hid (partsAt s (i + 1) (i + 1) (out ++ [(s.extract b i).data.toList])) := HC.out.1 (by omega)
          clear hown hown2 hgrow hnil hbel hsl
          go_wp2
          go_roundg (s.size - i)
          case measure => have := HG.out; omega
          case rel => exact ⟨i + 1, i + 1, out ++ [(s.extract b i).data.toList], by omega, by omega, by go_num, by go_num, HX.out, HPL2.out, ho, HV.out, hnx⟩
        · have HDum := trivial
          have HX : Hid (partsAt s (i + 1) (i + 1) out) := HC.out.2 (by omega)
          have HO : Hid (wr.ownsRow w.heap.size 9 1 u4 out.length (strC out)) := hown
          clear hown
          go_wp2
          go_roundg (s.size - i)
          case measure => have := HG.out; omega
          case rel => exact ⟨i + 1, i + 1, out, by omega, by omega, by go_num, by go_num, HX.out, HPL2.out, HO.out, HNN.out, hbel⟩
    · have hi1 : ¬ ((i : Int) ≤ s.size) := by omega
      have HE : Hid (out = Lib.fields s.data.toList) := parts_end HPA.out (by omega)
      have HAP : Hid (allPlain s = true) := allPlain_of fun j hj => HPL.out j hj (by omega)
      obtain ⟨aa, ca, hsh, hoa⟩ := own_shape hown
      have HO : Hid (wr.ownsRow w.heap.size 9 1 u4 out.length (strC out)) := hown
      have HSH : Hid (u4 = .slice aa out.length ca) := hsh
      clear hown hoa hg
      subst hsh
      by_cases h10 : (10 : Int) < out.length
      · have HB : Hid (partsR s = ([], false)) := partsR_no (by rw [← HE.out]; omega)
        go_wp2
        go_ret2
        refine ⟨_, by rw [HB.out]; rfl, ?_, hbel.alloc hsz _⟩
        rw [HB.out]
        exact own_emptyS wr _ hsz
      · have HB : Hid (partsR s = (out, true)) := by show _ = _; rw [HE.out]; exact partsR_yes ⟨hs, HAP.out, by rw [← HE.out]; omega⟩
        go_wp2
        go_ret2
        refine ⟨_, by rw [HB.out]; rfl, ?_, hbel⟩
        rw [HB.out]
        exact HO.out

set_option maxHeartbeats 1000000 in
set_option maxRecDepth 100000 in
theorem isPlain_calls (s : ByteArray) (hs : s.size ≤ 600) (w : World) :
    Calls Tryd.prog 14 #[.string s] w fun e w' => e = .returned (.bool (allPlain s)) ∧ w' = w := by
  go_enter Tryd.func14, Tryd.ntmps14
  go_wp2
  go_loop [3] (fun z => ∃ i : Nat, i ≤ s.size ∧ z = .int .i64 i ∧ (∀ j (hj : j < s.size), j < i → plainB s[j])) (fun z => s.size - (intOf z).toNat)
  case atStart => exact ⟨0, Nat.zero_le _, rfl, fun j _ h => absurd h (by omega)⟩
  case round =>
    obtain ⟨i, hi, rfl, hpl⟩ := hrel
    have HPL : Hid (∀ j (hj : j < s.size), j < i → plainB s[j]) := hpl
    clear hpl
    by_cases hlt : i < s.size
    · have hi2 : (i : Int) < s.size := by omega
      have hb8 : (s[i].toNat : Int) < 256 := by have := s[i].toNat_lt; omega
      by_cases hpb : plainB s[i]
      · have hp1 : ¬ ((s[i].toNat : Int) < 32) := by have := hpb.1; omega
        have hp2 : ¬ ((126 : Int) < s[i].toNat) := by have := hpb.2; omega
        have HPL2 : Hid (∀ j (hj : j < s.size), j < i + 1 → plainB s[j]) := fun j hj hji => by
          by_cases hji' : j = i
          · subst hji'; exact hpb
          · exact HPL.out j hj (by omega)
        clear hpb
        go_wp2
        go_round
        case rel => exact ⟨i + 1, by omega, by go_num, HPL2.out⟩
        case measure => simp [intOf]; omega
      · have HF : Hid (allPlain s = false) := not_allPlain hlt hpb
        have hcase : (s[i].toNat : Int) < 32 ∨ (¬ (s[i].toNat : Int) < 32 ∧ (126 : Int) < s[i].toNat) := by
          unfold plainB at hpb; omega
        clear hpb
        rcases hcase with h1 | ⟨h1, h2⟩
        all_goals
          go_wp2
          go_ret
          exact ⟨by rw [HF.out]; rfl, rfl⟩
    · have hi2 : ¬ ((i : Int) < s.size) := by omega
      have HT : Hid (allPlain s = true) := allPlain_of fun j hj => HPL.out j hj (by omega)
      go_wp2
      go_ret
      exact ⟨by rw [HT.out]; rfl, rfl⟩

theorem implParts_long (s : ByteArray) (hs : s.size ≤ maxLen) (h : 600 < s.size) (w : World) : Calls Tryd.prog 8 #[.string s] w (PartsPost s w) := by
  unfold maxLen at hs
  have HP : Hid (partsR s = ([], false)) := partsR_no (by omega)
  go_enter Tryd.func8, Tryd.ntmps8
  go_wp2
  go_ret2
  refine ⟨_, by rw [HP.out]; rfl, ?_, Below.refl _ _⟩
  rw [HP.out]
  exact ⟨rfl, .inl ⟨rfl, rfl⟩⟩

theorem implParts_bad (s : ByteArray) (hs : s.size ≤ 600) (hb : allPlain s = false) (w : World) : Calls Tryd.prog 8 #[.string s] w (PartsPost s w) := by
  have HP : Hid (partsR s = ([], false)) := partsR_no (by rw [hb]; simp)
  have hc := fun wx => isPlain_calls s hs wx
  rw [hb] at hc
  clear hb
  go_enter Tryd.func8, Tryd.ntmps8
  go_wp2_with (go_at_call 14; refine (hc _).mono ?_; rintro e w1 ⟨rfl, rfl⟩)
  go_ret2
  refine ⟨_, by rw [HP.out]; rfl, ?_, Below.refl _ _⟩
  rw [HP.out]
  exact ⟨rfl, .inl ⟨rfl, rfl⟩⟩

theorem own_fields (w : World) (F : List (List UInt8)) (hF : F.length ≤ maxLen) :
    (w.alloc (.cells (F.map fun l => Value.string ⟨l.toArray⟩).toArray 9)).ownsRow w.heap.size 9 1 (.slice (some ⟨w.heap.size, 0, none⟩) F.length F.length) F.length (strC F) :=
  ⟨by simp [strC], .inr ⟨w.heap.size, F.length, (F.map fun l => Value.string ⟨l.toArray⟩).toArray, rfl, Nat.le_refl _, (MapKept.heap_alloc w _).1, Nat.le_refl _, hF, by simp, by simp [strC]; rw [List.take_of_length_le (by simp)]⟩⟩

theorem set_self (l : List (List UInt8)) (j : Nat) (h : j < l.length) : (strC l).set j (Value.string ⟨(l[j]).toArray⟩) = strC l := by
  have e : (Value.string ⟨(l[j]).toArray⟩) = (strC l)[j]'(by rw [strC_len]; exact h) := by simp [strC]
  rw [e, List.set_getElem_self]

theorem cloneS_calls (s : ByteArray) (w : World) (h : s.size ≤ 281474976710656) :
    Calls Tryd.prog 16 #[.string s] w fun e w' => e = .returned (.string s) ∧ Below w.heap.size w w' := by
  go_enter Tryd.func16, Tryd.ntmps16
  go_wp2_with (go_at_call 21; refine (Tryd.stringslite_Clone s _ h).mono ?_; rintro e w1 ⟨rfl, hb1⟩)
  go_ret
  exact ⟨rfl, hb1⟩

theorem fieldsGo_mem : ∀ (l cur : List UInt8) (x : List UInt8), x ∈ Lib.fieldsGo cur l → x.length ≤ cur.length + l.length
  | [], cur, x, h => by
    rw [Lib.fieldsGo] at h
    split at h
    · cases h
    · simp at h; subst h; simp
  | b :: l, cur, x, h => by
    rw [Lib.fieldsGo] at h
    split at h
    · split at h
      · have := fieldsGo_mem l [] x h; simp at this ⊢; omega
      · rcases List.mem_cons.1 h with rfl | h
        · simp
        · have := fieldsGo_mem l [] x h; simp at this ⊢; omega
    · have := fieldsGo_mem l (cur ++ [b]) x h; simp at this ⊢; omega

set_option maxHeartbeats 2000000 in
theorem implParts_plain (s : ByteArray) (hs : s.size ≤ 600) (hp : allPlain s = true) (w : World) (htab : Lib.TabIs Tryd.prog w "strings.asciiSpace" .u8 Lib.asciiSpaceTab) :
    Calls Tryd.prog 8 #[.string s] w (PartsPost s w) := by
  have hc := fun wx => isPlain_calls s hs wx
  rw [hp] at hc
  have hascii : ∀ (j : Nat) b, s.data.toList[j]? = some b → b.toNat < 128 := fun j b hj => by
    obtain ⟨hj1, rfl⟩ := List.getElem?_eq_some_iff.1 hj
    have := allPlain_at hp j (by simpa using hj1)
    have h2 := this.2
    have e : s.data.toList[j] = s[j]'(by simpa using hj1) := rfl
    rw [e]; omega
  have hfl : (Lib.fields s.data.toList).length ≤ 601 := by
    have := fieldsGo_le s.data.toList []
    unfold Lib.fields; simp at this; omega
  have hfm : ∀ x ∈ Lib.fields s.data.toList, x.length ≤ 600 := fun x hx => by
    have := fieldsGo_mem s.data.toList [] x hx
    simp at this; omega
  obtain ⟨F, hF⟩ : ∃ F, F = Lib.fields s.data.toList := ⟨_, rfl⟩
  have hfc := Tryd.strings_Fields s w (by omega) hascii htab
  have HR : Hid (partsR s = if F.length ≤ 10 then (F, true) else ([], false)) := by
    show _ = _
    rw [hF]; unfold partsR
    by_cases h10 : (Lib.fields s.data.toList).length ≤ 10
    · rw [if_pos ⟨hs, hp, h10⟩, if_pos h10]
    · rw [if_neg (fun h => h10 h.2.2), if_neg h10]
  rw [← hF] at hfc hfl hfm
  have hof := own_fields w F (by unfold maxLen; omega)
  have hfc2 : Calls Tryd.prog 15 #[.string s] w fun e w' => e = .returned (.slice (some ⟨w.heap.size, 0, none⟩) F.length F.length) ∧ w'.ownsRow w.heap.size 9 1 (.slice (some ⟨w.heap.size, 0, none⟩) F.length F.length) F.length (strC F) ∧ Below w.heap.size w w' := by
    refine hfc.mono ?_
    rintro e w' ⟨he, rfl⟩
    exact ⟨he, hof, (Below.refl _ _).alloc (Nat.le_refl _) _⟩
  have HFM : Hid (∀ x ∈ F, x.length ≤ 600) := hfm
  clear hfc hof hF hascii htab hp hfm
  go_enter Tryd.func8, Tryd.ntmps8
  by_cases h10 : (10 : Int) < F.length
  · have HB : Hid (partsR s = ([], false)) := by show _ = _; rw [HR.out, if_neg (by omega)]
    go_wp2_with (first | (go_at_call 14; refine (hc _).mono ?_; rintro e w1 ⟨rfl, hw1⟩; subst hw1) | (go_at_call 15; refine hfc2.mono ?_; rintro e w2 ⟨rfl, hown, hbel⟩))
    go_ret2
    refine ⟨_, by rw [HB.out]; rfl, ?_, hbel⟩
    rw [HB.out]
    exact ⟨rfl, .inl ⟨rfl, rfl⟩⟩
  · have HB : Hid (partsR s = (F, true)) := by show _ = _; rw [HR.out, if_pos (by omega)]
    go_wp2_with (first | (go_at_call 14; refine (hc _).mono ?_; rintro e w1 ⟨rfl, hw1⟩; subst hw1) | (go_at_call 15; refine hfc2.mono ?_; rintro e w2 ⟨rfl, hown, hbel⟩))
    go_loopw [22] (fun z wr => ∃ j : Nat, j ≤ F.length ∧ z = .int .i64 j ∧ wr.ownsRow w1.heap.size 9 1 (.slice (some ⟨w1.heap.size, 0, none⟩) F.length F.length) F.length (strC F) ∧ Below w1.heap.size w1 wr) (fun z _ => F.length - (intOf z).toNat)
    case atStart => exact ⟨0, Nat.zero_le _, rfl, hown, hbel⟩
    case round =>
      clear hown hbel hfc2 hc
      obtain ⟨j, hj, rfl, hown, hbel⟩ := hrel
      have hsz := hbel.size
      by_cases hlt : j < F.length
      · have hj1 : (j : Int) < F.length := by omega
        have hj0 : (0 : Int) ≤ j := by omega
        have hc1 : wr.cell? ⟨w1.heap.size, j, none⟩ = some (Value.string ⟨(F[j]).toArray⟩) := by rw [hown.cellAt j (by omega)]; exact strC_at F j hlt
        have hfx := HFM.out _ (List.getElem_mem hlt)
        have HSS := set_self F j hlt
        obtain ⟨S, hS⟩ : ∃ S : ByteArray, S = ⟨(F[j]).toArray⟩ := ⟨_, rfl⟩
        have hSz : S.size ≤ 281474976710656 := by rw [hS]; show (F[j]).toArray.size ≤ _; simp; omega
        rw [← hS] at hc1 HSS
        have HSet : Hid ((strC F).set j (Value.string S) = strC F) := HSS
        clear HSS hS hfx
        go_wp2_with fail
        refine (cloneS_calls S _ hSz).mono ?_
        rintro e w3 ⟨rfl, hb3⟩
        have hown3 := own_below hown hb3
        have hc3 : w3.cell? ⟨w1.heap.size, j, none⟩ = some (Value.string S) := (hb3.cell (p := ⟨w1.heap.size, j, none⟩) (by have := (hown.lt _ rfl).2; exact this)).trans hc1
        have hf3 := hown3.frozenAt j
        have hst := hown3.stored j (Value.string S)
        rw [HSet.out] at hst
        have hbel3 : Below w1.heap.size w1 w3 := hbel.trans (hb3.mono hsz)
        have HST : Hid ((w3.setCell ⟨w1.heap.size, j, none⟩ (Value.string S)).ownsRow w1.heap.size 9 1 (.slice (some ⟨w1.heap.size, 0, none⟩) F.length F.length) F.length (strC F) ∧ Below w1.heap.size w1 (w3.setCell ⟨w1.heap.size, j, none⟩ (Value.string S))) := ⟨hst.1, hbel3.setCell (Nat.le_refl _) _⟩
        clear hst hown hown3 hb3 hbel3 hbel
        go_wp2
        go_roundw
        case rel => exact ⟨j + 1, by omega, by go_num, HST.out.1, HST.out.2⟩
        case measure => simp [intOf]; omega
      · have hj1 : ¬ ((j : Int) < F.length) := by omega
        have HO : Hid (wr.ownsRow w1.heap.size 9 1 (.slice (some ⟨w1.heap.size, 0, none⟩) F.length F.length) F.length (strC F)) := hown
        clear hown
        go_wp2
        go_ret2
        refine ⟨_, by rw [HB.out]; rfl, ?_, hbel⟩
        rw [HB.out]
        exact HO.out

/-- The program's PartsOf, at every line. -/
theorem implParts (s : ByteArray) (hs : s.size ≤ maxLen) (w : World) (htab : Lib.TabIs Tryd.prog w "strings.asciiSpace" .u8 Lib.asciiSpaceTab) : Calls Tryd.prog 8 #[.string s] w (PartsPost s w) := by
  by_cases h : s.size ≤ 600
  · cases hp : allPlain s with
    | true => exact implParts_plain s h hp w htab
    | false => exact implParts_bad s h hp w
  · exact implParts_long s hs (by omega) w
theorem specPartsAll (s : ByteArray) (hs : s.size ≤ maxLen) (w : World) : Calls Tryd.prog 7 #[.string s] w (PartsPost s w) := by
  by_cases h : s.size ≤ 600
  · exact specParts s h w
  · exact specParts_long s hs (by omega) w
theorem partsR_len (s : ByteArray) : (partsR s).1.length ≤ 10 := by
  unfold partsR
  split
  · exact (‹_ ∧ _ ∧ _›).2.2
  · simp
end Go.Proofs.YtjgakehacioagaaDoor
