/- Texts that are drawn; what is drawn for the laws on acts. What is drawn for the laws on acts. -/
import Derived.Laws.IdiomStrings
import Derived.OwnWalk
import Derived.Test.YtahdgagipmpcgaaEDraw4
import Derived.Test.YtahdgagipmpcgaaCAll
import Derived.Test.YtahdgagipmpcgaaCBig
import Derived.Test.YtahdgagipmpcgaaAText5
namespace Go.Proofs.Ytahdgagipmpcgaa
set_option maxRecDepth 100000
set_option linter.unusedVariables false
open Go.RowKit

set_option maxHeartbeats 1000000 in
theorem textD (m : Nat) (hm : m ≤ 5000) (B p : Nat) (v : Value) (n : Nat) (hn : n ≤ 1048576) (w : World) (hB : B ≤ w.heap.size) (hc : Cur w B p v n) :
    Calls Try.prog 170 #[.pointer (some ⟨p, 0, none⟩), .int .i64 m] w fun e w' => ∃ L : List UInt8, L.length = m ∧ e = .returned (.string ⟨L.toArray⟩) ∧ Drew w w' B p v n := by
  have hm0 : ¬ ((5000 : Int) < m) := by omega
  have hp := hc.lt
  obtain ⟨i0, hi, hz0, hz1, hz2⟩ := info_parts infoByte
  have HB : Hid (∀ wx, Cur wx B p v n → Calls Try.prog 154 #[.pointer (some ⟨p, 0, none⟩)] wx fun e w' => ∃ x : Nat, e = .returned (.int .i64 x) ∧ x < 256 ∧ Drew wx w' B p v n) := fun wx h => byteD B p v n hn wx h
  go_enter Try.func170, Try.ntmps170
  go_wp2
  go_loopw [5, 6] (fun u z wr => ∃ (j : Nat) (d : List UInt8), j ≤ m ∧ d.length = j ∧ z = .int .i64 j ∧ u ≠ .slice none 0 0 ∧ wr.ownsRow w.heap.size 5 1 u j (Lib.byteCells d) ∧ Drew w wr B p v n) (fun _ z _ => m - (intOf z).toNat)
  case atStart => exact ⟨0, [], Nat.zero_le _, rfl, rfl, by simp, own_emptyK w 5, (Drew.refl hc).alloc hp hB _⟩
  case round =>
    obtain ⟨j, d, hj, hd, rfl, hne, hown, hdr⟩ := hrel
    by_cases hlt : j < m
    · have hlt1 : (j : Int) < m := by omega
      go_wp2_with fail
      refine (HB.out _ hdr.1).mono ?_
      rintro e w1 ⟨x, rfl, hx, hd1⟩
      have hown1 := hown.kept hd1.2 (by
        cases hv : u5.ownBlock with
        | none => exact .inl rfl
        | some g => exact .inr fun h => by have := (hown.lt g hv).1; cases h; omega)
      have hdr1 := hdr.trans hd1
      have hsz : w.heap.size ≤ w1.heap.size := hdr1.2.size
      clear hown hdr hd1
      go_wp2_with (at_builtin; refine wpList_append_own _ rfl _ _ 52 rfl w.heap.size 5 i0 (.int .u8 0) 1 1 Try.underlying52 hi hz0 hz1 hz2 rfl (by decide) _ _ _ rfl (hown1.alloc _) ⟨w1.heap.size, 0, none⟩ 1 1 [Value.int .u8 (x : Int)] rfl rfl (one_new _ _ _) (by intro u' hu'; simp at hu'; subst hu'; rfl) (by unfold maxLen; omega) (by omega) (by simp; omega) ?_)
      intro v2 w2 hown2 hgrow hne2
      have hdr2 : Drew w w2 B p v n := (hdr1.alloc hp hB _).kept hp hB hgrow (fun k hk => (hown1.lt k hk).1)
      have ho := own_snoc (d := d) (x := x) hx rfl (by rw [hd]; exact hown2)
      have hv2 : v2 ≠ .slice none 0 0 := by
        rcases hown2.2 with ⟨-, h⟩ | ⟨g, c, cur, rfl, -⟩
        · omega
        · simp
      clear hown1 hdr1 hgrow hown2
      go_wp2
      go_roundw
      case rel => exact ⟨j + 1, d ++ [UInt8.ofNat x], by omega, by simp [hd], by go_num, hv2, by rw [← hd]; simpa using ho, hdr2⟩
      case measure => simp [intOf]; omega
    · have hlt1 : ¬ ((j : Int) < m) := by omega
      obtain rfl : j = m := by omega
      rcases hown.2 with ⟨rfl, -⟩ | ⟨g, cap, cur, rfl, -, -, -, -, -, -⟩
      · exact absurd rfl hne
      · have hcv := run_convert_bytes_back (P := Try.prog) wr 52 9 5 ⟨g, 0, none⟩ cap d Try.underlying52 Try.underlying5 Try.underlying9 (fun q hq => hown.cells (g := g) rfl q _ (by simp [Lib.byteCells, hq]))
        rw [hd] at hcv
        clear hown hne
        go_wp2
        go_ret
        exact ⟨d, hd, rfl, hdr⟩

theorem onceD (m : Nat) (h0 : 0 < m) (hm : m ≤ 1000) (B p : Nat) (v : Value) (n : Nat) (hn : n ≤ 1048576) (w : World) (hc : Cur w B p v n) :
    Calls Try.prog 89 #[.pointer (some ⟨p, 0, none⟩), .int .i64 m] w fun e w' => ∃ b : Bool, e = .returned (.bool b) ∧ Drew w w' B p v n := by
  go_enter Try.func89, Try.ntmps89
  go_wp2_with fail
  refine (belowD m h0 (by omega) B p v n hn _ hc).mono ?_
  rintro e w1 ⟨x, rfl, hx, hd⟩
  go_wp2
  go_ret
  exact ⟨_, rfl, hd⟩

theorem add_str (a b : ByteArray) (h : a.size + b.size ≤ 1073741824) (w : World) : (Op.stringOp .add a b).run Try.prog w = .ok (.string (a ++ b)) w := by
  have := add_ba a.data.toList b.data.toList (by simpa using h) w
  rw [← ba_add, ba_of, ba_of] at this
  exact this

set_option maxHeartbeats 4000000 in
theorem spoiltD (s : ByteArray) (hs : s.size ≤ 1000000) (B p : Nat) (v : Value) (n : Nat) (hn : n ≤ 1048576) (w : World) (hB : B ≤ w.heap.size) (hc : Cur w B p v n) :
    Calls Try.prog 120 #[.pointer (some ⟨p, 0, none⟩), .string s] w fun e w' => ∃ t : ByteArray, t.size ≤ s.size + 1 ∧ e = .returned (.string t) ∧ Drew w w' B p v n := by
  have hp := hc.lt
  go_enter Try.func120, Try.ntmps120
  go_wp2_with fail
  refine (belowD 12 (by omega) (by omega) B p v n hn _ hc).mono ?_
  rintro e w1 ⟨k, rfl, hk, hd⟩
  have HD := hidI hd
  have s1 := hd.2.size
  clear hd
  have hKK : (k : Int) = 0 ∨ (k : Int) = 1 ∨ (k : Int) = 2 ∨ (k : Int) = 3 ∨ 4 ≤ (k : Int) := by omega
  generalize (k : Int) = K at *
  rcases hKK with rfl | rfl | rfl | rfl | hK
  · go_wp2_with fail
    refine (textD 1 (by omega) B p v n hn _ (by omega) HD.out.1).mono ?_
    rintro e w2 ⟨L, hL, rfl, hd⟩
    have hL1 : (ByteArray.mk L.toArray).size = 1 := by show L.toArray.size = 1; simp [hL]
    generalize ByteArray.mk L.toArray = tx at *
    have hadd := add_str s tx (by omega)
    have HF := hidI (HD.out.trans hd)
    clear hd
    have hsz : (s ++ tx).size ≤ s.size + 1 := by rw [ByteArray.size_append]; omega
    generalize s ++ tx = st at *
    go_wp2
    go_ret
    exact ⟨st, hsz, rfl, HF.out⟩
  · have hw1 : IntKind.i64.wrap ((s.size : Int) + 1) = (s.size : Int) + 1 := by rw [IntKind.wrap_i64] <;> omega
    have HC := hidI (belowD (s.size + 1) (by omega) (by omega) B p v n hn w1 HD.out.1)
    rw [show ((s.size + 1 : Nat) : Int) = (s.size : Int) + 1 by omega] at HC
    go_wp2_with fail
    refine HC.out.mono ?_
    rintro e w2 ⟨i, rfl, hi, hd⟩
    have HF := hidI (HD.out.trans hd)
    have i0 : (0 : Int) ≤ (i : Int) := by omega
    have i1 : (i : Int) ≤ (s.size : Int) := by omega
    clear hd
    go_wp2
    go_ret
    refine ⟨_, ?_, rfl, HF.out⟩
    simp only [ByteArray.size_extract]
    omega
  · by_cases h0 : (0 : Int) < s.size
    · have HC := hidI (belowD s.size (by omega) (by omega) B p v n hn w1 HD.out.1)
      go_wp2_with fail
      refine HC.out.mono ?_
      rintro e w2 ⟨i, rfl, hi, hd⟩
      have HF := hidI (HD.out.trans hd)
      have s2 := hd.2.size
      have i0 : (0 : Int) ≤ (i : Int) := by omega
      have i1 : (i : Int) < (s.size : Int) := by omega
      have hw2 : IntKind.i64.wrap ((i : Int) + 1) = (i : Int) + 1 := by rw [IntKind.wrap_i64] <;> omega
      have HT := hidI (fun wx (h : Cur wx B p v n) (hB' : B ≤ wx.heap.size) => textD 1 (by omega) B p v n hn wx hB' h)
      have hdr : Drew w w2.drew B p v n := ⟨HF.out.1, grownBy_trans HF.out.2 (grown_drew _ _)⟩
      have i2 : (i : Int) ≤ (s.size : Int) := by omega
      have i3 : (i : Int) + 1 ≤ (s.size : Int) := by omega
      have i4 : (0 : Int) ≤ (i : Int) + 1 := by omega
      have i5 : i ≤ s.size := by omega
      have i6 : i + 1 ≤ s.size := by omega
      have e1 : (s.extract 0 i).size = i := by rw [ByteArray.size_extract]; omega
      have e2 : (s.extract (i + 1) s.size).size = s.size - (i + 1) := by rw [ByteArray.size_extract]; omega
      have HF2 := hidI hdr
      clear hd HC hdr
      go_wp2
      go_region_held3 (fun _ => True) (trivial) ((go_at_call 170; refine (HT.out _ HF2.out.1 (by have := HF2.out.2.size; omega)).mono ?_; rintro e w3 ⟨Lx, hLx, rfl, hd3⟩; have hL1 : (ByteArray.mk Lx.toArray).size = 1 := (by show Lx.toArray.size = 1; simp [hLx]); generalize ByteArray.mk Lx.toArray = tx at *; have hadd1 := add_str (s.extract 0 i) tx (by omega); have hadd2 := add_str (s.extract 0 i ++ tx) (s.extract (i + 1) s.size) (by rw [ByteArray.size_append]; omega)))
      have HF3 := hidI (HF2.out.trans hd3)
      have hsz : (s.extract 0 i ++ tx ++ s.extract (i + 1) s.size).size ≤ s.size + 1 := by rw [ByteArray.size_append, ByteArray.size_append]; omega
      clear hd3
      go_wp2
      go_ret
      exact ⟨_, hsz, rfl, HF3.out⟩
    · go_wp2
      go_ret
      exact ⟨s, by omega, rfl, HD.out⟩
  · by_cases h0 : (0 : Int) < s.size
    · have HC := hidI (belowD s.size (by omega) (by omega) B p v n hn w1 HD.out.1)
      go_wp2_with fail
      refine HC.out.mono ?_
      rintro e w2 ⟨i, rfl, hi, hd⟩
      have HF := hidI (HD.out.trans hd)
      have s2 := hd.2.size
      have i0 : (0 : Int) ≤ (i : Int) := by omega
      have i1 : (i : Int) < (s.size : Int) := by omega
      have hw2 : IntKind.i64.wrap ((i : Int) + 1) = (i : Int) + 1 := by rw [IntKind.wrap_i64] <;> omega
      have HT := hidI (fun wx (h : Cur wx B p v n) (hB' : B ≤ wx.heap.size) => textD 1 (by omega) B p v n hn wx hB' h)
      have hdr : Drew w w2.drew B p v n := ⟨HF.out.1, grownBy_trans HF.out.2 (grown_drew _ _)⟩
      have i2 : (i : Int) ≤ (s.size : Int) := by omega
      have i3 : (i : Int) + 1 ≤ (s.size : Int) := by omega
      have i4 : (0 : Int) ≤ (i : Int) + 1 := by omega
      have i5 : i ≤ s.size := by omega
      have i6 : i + 1 ≤ s.size := by omega
      have e1 : (s.extract 0 i).size = i := by rw [ByteArray.size_extract]; omega
      have e2 : (s.extract (i + 1) s.size).size = s.size - (i + 1) := by rw [ByteArray.size_extract]; omega
      have HF2 := hidI hdr
      clear hd HC hdr
      go_wp2
      go_region_held3 (fun _ => True) (trivial) ((go_at_call 170; refine (HT.out _ HF2.out.1 (by have := HF2.out.2.size; omega)).mono ?_; rintro e w3 ⟨Lx, hLx, rfl, hd3⟩; have hL1 : (ByteArray.mk Lx.toArray).size = 1 := (by show Lx.toArray.size = 1; simp [hLx]); generalize ByteArray.mk Lx.toArray = tx at *; have hadd1 := add_str (s.extract 0 i) tx (by omega); have hadd2 := add_str (s.extract 0 i ++ tx) (s.extract (i + 1) s.size) (by rw [ByteArray.size_append]; omega)))
      have HF3 := hidI (HF2.out.trans hd3)
      have hsz : (s.extract 0 i ++ tx ++ s.extract (i + 1) s.size).size ≤ s.size + 1 := by rw [ByteArray.size_append, ByteArray.size_append]; omega
      clear hd3
      go_wp2
      go_ret
      exact ⟨_, hsz, rfl, HF3.out⟩
    · go_wp2
      go_ret
      exact ⟨s, by omega, rfl, HD.out⟩
  · have n0 : (K == 0) = false := by simp; omega
    have n1 : (K == 1) = false := by simp; omega
    have n2 : (K == 2) = false := by simp; omega
    have n3 : (K == 3) = false := by simp; omega
    go_wp2
    go_ret
    exact ⟨s, by omega, rfl, HD.out⟩


open Go.RowKit

/-- An act that was drawn: within bounds. -/
def Sm (A : Ac) : Prop := (0 < A.l.length ∧ A.l.length ≤ 4) ∧ A.o.size ≤ 9 ∧ A.y.size ≤ 9
theorem Sm.lim {A : Ac} (h : Sm A) : A.l.length ≤ 1048576 ∧ A.o.size ≤ 1048576 ∧ A.y.size ≤ 1048576 := by
  obtain ⟨⟨-, h1⟩, h2, h3⟩ := h
  omega
theorem actT_size (A : Ac) : (actT A).1.size ≤ 200 := by
  unfold actT
  split
  · rename_i h
    have hL := h.lim
    show (ba (actB A)).size ≤ 200
    rw [ba_size]
    unfold actB
    have e1 := varB_len5 (n := A.r.toNat) (by have := hL.r; omega)
    have e2 := varB_len5 (n := A.s.toNat) (by have := hL.s; omega)
    have e3 := varB_len5 (n := A.t.toNat) (by have := hL.t; omega)
    have e4 := varB_len5 (n := A.k.toNat) (by have := hL.k; omega)
    have e5 := varB_len5 (n := A.v.toNat) (by have := hL.v; omega)
    have e6 := varB_len5 (n := A.x.toNat) (by have := hL.x; omega)
    have e7 := varB_len5 (n := A.z.toNat) (by have := hL.z; omega)
    have e8 := varB_len5 (n := A.o.size) (by have := hL.o; omega)
    have e9 := varB_len5 (n := A.y.size) (by have := hL.y; omega)
    have e10 := numsB_len (xs := A.l) (fun x hx => by have := hL.l x hx; omega)
    have e11 := hL.n
    have e12 := hL.o
    have e13 := hL.y
    have e14 : A.o.data.toList.length = A.o.size := by simp
    have e15 : A.y.data.toList.length = A.y.size := by simp
    simp only [List.length_append]
    omega
  · show ByteArray.empty.size ≤ 200; decide

set_option maxHeartbeats 4000000 in
theorem drawActText_calls (B : Nat) (v : Value) (n : Nat) (hn : n ≤ 1048576) (w : World) (hB : B ≤ w.heap.size) (hc : CodeIs w B v n) :
    Calls Try.prog 46 #[v] w fun e w' => ∃ (A : Ac) (g ca : Nat), Sm A ∧ e = .returned (A.val (.slice (some ⟨g, 0, none⟩) A.l.length ca)) ∧ IntsAt w' (.slice (some ⟨g, 0, none⟩) A.l.length ca) A.l ∧ Below w.heap.size w w' := by
  obtain ⟨W, hW⟩ : ∃ W, W = w.alloc (.cells zAct 75) := ⟨_, rfl⟩
  have HO : Hid (Row W w.heap.size zAct 75) := by rw [hW]; exact row_new w _ _ rfl
  have hbW : Below w.heap.size w W := by rw [hW]; exact (Below.refl _ _).alloc (Nat.le_refl _) _
  have HC : Hid (CodeIs W B v n) := hc.below (hbW.mono hB)
  have hWs : w.heap.size + 1 ≤ W.heap.size := by rw [hW]; simp
  have HB : Hid (Below w.heap.size w W) := hbW
  have HW : Hid (w.alloc (.cells zAct 75) = W) := hW.symm
  unfold zAct at HW
  clear hW hbW hc
  go_enter Try.func46, Try.ntmps46
  go_wp2_with fail
  rw [HW.out]
  clear HW
  refine (new_calls B v n hn W (by omega) HC.out).mono ?_
  rintro e w1 ⟨rfl, hc1, hb⟩
  have s1 := hb.size
  have HCU := hidI hc1
  replace HO : Hid (Row w1 w.heap.size zAct 75) := HO.out.next hb
  replace HB : Hid (Below w.heap.size w w1) := HB.out.trans (hb.mono HB.out.size)
  clear hb hc1
  go_wp2_with fail
  refine (anyD B W.heap.size v n hn w1 (by omega) HCU.out).mono ?_
  rintro e w2 ⟨A, g, ca, hm, hob, hyb, rfl, ho, hd⟩
  have s2 := hd.2.size
  replace HO : Hid (Row w2 w.heap.size zAct 75) := HO.out.grown hd.2 (by simp; omega)
  replace HB : Hid (Below w.heap.size w w2) := HB.out.grown hd.2 (by omega) (fun k hk => by cases hk; omega)
  have HOW := hidI ho
  clear hd ho
  unfold Ac.val
  obtain ⟨o0, o1, o2, o3, o4, o5, o6, o7, o8, o9⟩ := Row.ten HO.out
  obtain ⟨g0, g1, g2, g3, g4, g5, g6, g7, g8, g9⟩ := HO.out.frees
  go_wp2
  rw [store10_eq]
  have HZ : ActAt (store10 w2 w.heap.size A (.slice (some ⟨g, 0, none⟩) A.l.length ca)) w.heap.size A (.slice (some ⟨g, 0, none⟩) A.l.length ca) := store10_at HO.out A _
  exact bodyPost_ret (ret_act rfl rfl HZ) rfl ⟨A, g, ca, ⟨hm, hob, hyb⟩, rfl, IntsAt.own (own_store10 HOW.out (by omega) A _) rfl, store10_below HB.out (Nat.le_refl _) A _⟩

set_option maxHeartbeats 4000000 in
theorem drawNameOk_calls (B : Nat) (v : Value) (n : Nat) (hn : n ≤ 1048576) (w : World) (hB : B ≤ w.heap.size) (hc : CodeIs w B v n) :
    Calls Try.prog 53 #[v] w fun e w' => ∃ z : ByteArray, z.size ≤ 9 ∧ e = .returned (.string z) ∧ Below w.heap.size w w' := by
  have HC := hidI hc
  go_enter Try.func53, Try.ntmps53
  go_wp2_with fail
  refine (new_calls B v n hn w hB HC.out).mono ?_
  rintro e w1 ⟨rfl, hc1, hb⟩
  have s1 := hb.size
  have hp := hc1.lt
  have HB := hidI hb
  obtain ⟨V, hV⟩ : ∃ V, V = w1.alloc (.cells #[.string { data := #[97] }, .string { data := #[] }, .string { data := #[97, 98, 99, 100, 101, 102, 103, 104] }, .string { data := #[97, 98, 99, 100, 101, 102, 103, 104, 105] }, .string { data := #[65] }, .string { data := #[97, 49] }] 9) := ⟨_, rfl⟩
  have hVr : Row V w1.heap.size #[.string { data := #[97] }, .string { data := #[] }, .string { data := #[97, 98, 99, 100, 101, 102, 103, 104] }, .string { data := #[97, 98, 99, 100, 101, 102, 103, 104, 105] }, .string { data := #[65] }, .string { data := #[97, 49] }] 9 := by rw [hV]; exact row_new _ _ _ rfl
  have hDV : Drew w1 V B w.heap.size v n := by rw [hV]; exact (Drew.refl hc1).alloc hp (by omega) _
  have HX : Hid (w1.alloc (.cells #[.string { data := #[97] }, .string { data := #[] }, .string { data := #[97, 98, 99, 100, 101, 102, 103, 104] }, .string { data := #[97, 98, 99, 100, 101, 102, 103, 104, 105] }, .string { data := #[65] }, .string { data := #[97, 49] }] 9) = V) := hV.symm
  have HDV := hidI hDV
  have HVR := hidI hVr
  clear hV hb hc1 hDV hVr
  go_wp2_with fail
  rw [HX.out]
  clear HX
  refine (pickS 6 w1.heap.size 6 (by omega) (by omega) B w.heap.size v n hn _ HDV.out.1 (by omega) (fun i hi => by match i, hi with | 0, _ => exact ⟨_, by decide, HVR.out.cell 0 rfl⟩ | 1, _ => exact ⟨_, by decide, HVR.out.cell 1 rfl⟩ | 2, _ => exact ⟨_, by decide, HVR.out.cell 2 rfl⟩ | 3, _ => exact ⟨_, by decide, HVR.out.cell 3 rfl⟩ | 4, _ => exact ⟨_, by decide, HVR.out.cell 4 rfl⟩ | 5, _ => exact ⟨_, by decide, HVR.out.cell 5 rfl⟩)).mono ?_
  rintro e w2 ⟨z, hz, -, rfl, hd⟩
  have HF := hidI (Drew.below HB.out (HDV.out.trans hd) (Nat.le_refl _))
  clear hd
  go_wp2
  go_ret
  exact ⟨z, hz, rfl, HF.out⟩

set_option maxHeartbeats 4000000 in
theorem drawReadAct_calls (B : Nat) (v : Value) (n : Nat) (hn : n ≤ 1048576) (w : World) (hB : B ≤ w.heap.size) (hc : CodeIs w B v n) :
    Calls Try.prog 49 #[v] w fun e w' => ∃ (t : ByteArray) (f : Int), t.size ≤ 1000 ∧ e = .returned (.tuple #[.string t, .int .i64 f]) ∧ Below w.heap.size w w' := by
  have HC := hidI hc
  go_enter Try.func49, Try.ntmps49
  go_wp2_with fail
  refine (new_calls B v n hn w hB HC.out).mono ?_
  rintro e w1 ⟨rfl, hc1, hb⟩
  have s1 := hb.size
  have hp := hc1.lt
  have HB := hidI hb
  have HCU := hidI hc1
  clear hb hc1
  go_wp2_with fail
  refine (belowD 6 (by omega) (by omega) B w.heap.size v n hn _ HCU.out).mono ?_
  rintro e w2 ⟨k, rfl, hk, hd⟩
  have s2 := hd.2.size
  have HD2 := hidI hd
  clear hd
  go_wp2_with fail
  refine (anyD B w.heap.size v n hn w2 (by omega) HD2.out.1).mono ?_
  rintro e w3 ⟨A, g, ca, hm, hob, hyb, rfl, ho, hd⟩
  have s3 := hd.2.size
  have HD3 := hidI (HD2.out.trans hd)
  have HI := hidI (IntsAt.own ho rfl)
  have hlim := Sm.lim (A := A) ⟨hm, hob, hyb⟩
  have hq := actT_size A
  clear hd ho HD2
  unfold Ac.val
  have HAT := hidI (specActText_calls A _ w3 hlim HI.out)
  unfold Ac.val at HAT
  generalize (actT A).1 = q1 at *
  generalize (actT A).2 = q2 at *
  go_wp2_with fail
  refine HAT.out.mono ?_
  rintro e w4 ⟨rfl, hb⟩
  have s4 := hb.size
  have HD4 := hidI (HD3.out.call hp (by omega) hb)
  clear hb HAT HI HD3
  have hKK : (k : Int) = 0 ∨ (k : Int) = 1 ∨ (k : Int) = 2 ∨ 3 ≤ (k : Int) := by omega
  generalize (k : Int) = K at *
  have ha1 := add_str { data := #[120, 121] } q1 (by have : ByteArray.size { data := #[120, 121] } = 2 := rfl; omega)
  have hz1 : (ByteArray.mk #[120, 121] ++ q1).size ≤ 300 := by rw [ByteArray.size_append]; have : ByteArray.size { data := #[120, 121] } = 2 := rfl; omega
  have ha2 := add_str (ByteArray.mk #[120, 121] ++ q1) { data := #[122] } (by have : ByteArray.size { data := #[122] } = 1 := rfl; omega)
  have hz2 : (ByteArray.mk #[120, 121] ++ q1 ++ ByteArray.mk #[122]).size ≤ 400 := by rw [ByteArray.size_append]; have : ByteArray.size { data := #[122] } = 1 := rfl; omega
  generalize ByteArray.mk #[120, 121] ++ q1 = q3 at *
  generalize q3 ++ ByteArray.mk #[122] = q4 at *
  rcases hKK with rfl | rfl | rfl | hK
  · go_wp2_with fail
    refine (spoiltD q1 (by omega) B w.heap.size v n hn w4 (by omega) HD4.out.1).mono ?_
    rintro e w5 ⟨t, ht, rfl, hd⟩
    have HF := hidI (Drew.below HB.out (HD4.out.trans hd) (Nat.le_refl _))
    clear hd
    go_wp2
    go_ret2
    exact ⟨t, 0, by omega, rfl, HF.out⟩
  · have HF := hidI (Drew.below HB.out HD4.out (Nat.le_refl _))
    go_wp2
    go_ret2
    exact ⟨q4, 2, by omega, rfl, HF.out⟩
  · go_wp2_with fail
    refine (belowD 5 (by omega) (by omega) B w.heap.size v n hn _ HD4.out.1).mono ?_
    rintro e w5 ⟨j, rfl, hj, hd⟩
    have HF := hidI (Drew.below HB.out (HD4.out.trans hd) (Nat.le_refl _))
    clear hd
    go_wp2
    go_ret2
    exact ⟨q1, _, by omega, rfl, HF.out⟩
  · have n0 : (K == 0) = false := by simp; omega
    have n1 : (K == 1) = false := by simp; omega
    have n2 : (K == 2) = false := by simp; omega
    have HF := hidI (Drew.below HB.out HD4.out (Nat.le_refl _))
    go_wp2
    go_ret2
    exact ⟨q1, 0, by omega, rfl, HF.out⟩


end Go.Proofs.Ytahdgagipmpcgaa
