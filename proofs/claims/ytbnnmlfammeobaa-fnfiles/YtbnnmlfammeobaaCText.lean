/- What is drawn off a cursor: a number below another, a text, twelve places. -/
import Derived.Test.YtbnnmlfammeobaaCDraw
import Derived.Deep.AppendLies
import Derived.WalkMore
namespace Go.Proofs.Ytbnnmlfammeobaa
open Go.RowKit

theorem grownBy_trans {a b c : World} {row : Option Nat} (h : a.grownBy b row) (k : b.grownBy c row) : a.grownBy c row :=
  ⟨k.os.trans h.os, k.tape.trans h.tape, k.output.trans h.output, Nat.le_trans h.size k.size, fun i hi hne => (k.block i (Nat.lt_of_lt_of_le hi h.size) hne).trans (h.block i hi hne)⟩

theorem Cur.lt {w : World} {B p : Nat} {v : Value} {n : Nat} (h : Cur w B p v n) : p < w.heap.size := by
  obtain ⟨-, -, i, x, -, -, -, hp⟩ := h
  rcases Nat.lt_or_ge p w.heap.size with h' | h'
  · exact h'
  · rw [Array.getElem?_eq_none h'] at hp; cases hp

/-- What a drawing leaves. -/
def Drew (w w' : World) (B p : Nat) (v : Value) (n : Nat) : Prop := Cur w' B p v n ∧ w.grownBy w' (some p)
theorem Drew.trans {a b c : World} {B p : Nat} {v : Value} {n : Nat} (h : Drew a b B p v n) (k : Drew b c B p v n) : Drew a c B p v n := ⟨k.1, grownBy_trans h.2 k.2⟩

theorem byteD (B p : Nat) (v : Value) (n : Nat) (hn : n ≤ 1048576) (w : World) (hc : Cur w B p v n) :
    Calls Try.prog 28 #[.pointer (some ⟨p, 0, none⟩)] w fun e w' => ∃ x : Nat, e = .returned (.int .i64 x) ∧ x < 256 ∧ Drew w w' B p v n := by
  refine (byte_calls B p v n hn w hc).mono ?_
  rintro e w' ⟨x, rfl, hx, h1, h2, -⟩
  exact ⟨x, rfl, hx, h1, h2⟩

set_option maxHeartbeats 1000000 in
theorem belowD (m : Nat) (h0 : 0 < m) (hm : m ≤ 4294967296) (B p : Nat) (v : Value) (n : Nat) (hn : n ≤ 1048576) (w : World) (hc : Cur w B p v n) :
    Calls Try.prog 29 #[.pointer (some ⟨p, 0, none⟩), .int .i64 m] w fun e w' => ∃ x : Nat, e = .returned (.int .i64 x) ∧ x < m ∧ Drew w w' B p v n := by
  have hm0 : ¬ ((m : Int) ≤ 0) := by omega
  have hmz : ¬ ((m : Int) = 0) := by omega
  have HB : Hid (∀ wx, Cur wx B p v n → Calls Try.prog 28 #[.pointer (some ⟨p, 0, none⟩)] wx fun e w' => ∃ x : Nat, e = .returned (.int .i64 x) ∧ x < 256 ∧ Drew wx w' B p v n) := fun wx h => byteD B p v n hn wx h
  by_cases h256 : (m : Int) ≤ 256
  · go_enter Try.func29, Try.ntmps29
    go_wp2_with (go_at_call 28; refine (HB.out _ hc).mono ?_; rintro e w1 ⟨x, rfl, hx, hd⟩)
    go_ret
    exact ⟨x % m, by go_num, Nat.mod_lt _ h0, hd⟩
  · go_enter Try.func29, Try.ntmps29
    go_wp2_with fail
    refine (HB.out _ hc).mono ?_
    rintro e w1 ⟨x1, rfl, hx1, hd1⟩
    go_wp2_with fail
    refine (HB.out _ hd1.1).mono ?_
    rintro e w2 ⟨x2, rfl, hx2, hd2⟩
    have hd2' := hd1.trans hd2
    clear hd1 hd2
    go_wp2_with fail
    refine (HB.out _ hd2'.1).mono ?_
    rintro e w3 ⟨x3, rfl, hx3, hd3⟩
    have hd3' := hd2'.trans hd3
    clear hd2' hd3
    go_wp2_with fail
    refine (HB.out _ hd3'.1).mono ?_
    rintro e w4 ⟨x4, rfl, hx4, hd4⟩
    have hd4' := hd3'.trans hd4
    clear hd3' hd4
    go_wp2
    go_ret
    exact ⟨(x1 * 16777216 + x2 * 65536 + x3 * 256 + x4) % m, by go_num, Nat.mod_lt _ h0, hd4'⟩

/-- A cursor stays where only other memory of ours was written. -/
theorem Cur.kept {w w' : World} {B p : Nat} {v : Value} {n : Nat} {row : Option Nat} (h : Cur w B p v n) (hg : w.grownBy w' row) (hr : ∀ k, row = some k → B ≤ k ∧ k ≠ p) : Cur w' B p v n := by
  have hp := h.lt
  obtain ⟨hB, hc, i, x, hi, h1, h2, hb⟩ := h
  refine ⟨hB, ?_, i, x, hi, h1, h2, ?_⟩
  · rcases hc with hc | ⟨b, off, cap, rfl, hbb, hx⟩
    · exact .inl hc
    · refine .inr ⟨b, off, cap, rfl, hbb, fun j hj => ?_⟩
      obtain ⟨y, hy1, hy2⟩ := hx j hj
      exact ⟨y, hy1, hg.cell hy2 (fun e => by have := (hr b e.symm).1; omega)⟩
  · rw [hg.block p hp (fun e => (hr p e.symm).2 rfl)]; exact hb
theorem Drew.kept {a w w' : World} {B p : Nat} {v : Value} {n : Nat} {row : Option Nat} (h : Drew a w B p v n) (hp : p < a.heap.size) (hB : B ≤ a.heap.size) (hg : w.grownBy w' row) (hr : ∀ k, row = some k → a.heap.size ≤ k) : Drew a w' B p v n :=
  ⟨h.1.kept hg (fun k hk => by have := hr k hk; omega), h.2.andThen hg (fun j hj => .inl (hr j hj))⟩
theorem Drew.alloc {a w : World} {B p : Nat} {v : Value} {n : Nat} (h : Drew a w B p v n) (hp : p < a.heap.size) (hB : B ≤ a.heap.size) (o : Obj) : Drew a (w.alloc o) B p v n :=
  h.kept (row := none) hp hB (let b := (Below.refl w.heap.size w).alloc (Nat.le_refl _) o; ⟨b.os, b.tape, b.output, b.size, fun k hk _ => b.block k hk⟩) (fun k hk => by cases hk)
theorem Drew.refl {w : World} {B p : Nat} {v : Value} {n : Nat} (h : Cur w B p v n) : Drew w w B p v n := ⟨h, World.grownBy.refl _ _⟩

theorem infoByte : (Try.prog.info? 5).map (fun i => (i.zero, i.size, i.bytes)) = some (some (.int .u8 0), 1, 1) := by kernel_rfl
theorem own_empty (w : World) (e : TypeId) : (w.alloc (.cells #[] e)).ownsRow w.heap.size e 1 (.slice (some ⟨w.heap.size, 0, none⟩) 0 0) 0 [] :=
  ⟨rfl, .inr ⟨w.heap.size, 0, #[], rfl, Nat.le_refl _, (MapKept.heap_alloc w _).1, Nat.le_refl _, Nat.zero_le _, rfl, rfl⟩⟩

set_option maxHeartbeats 1000000 in
theorem textD (m : Nat) (hm : m ≤ 5000) (B p : Nat) (v : Value) (n : Nat) (hn : n ≤ 1048576) (w : World) (hB : B ≤ w.heap.size) (hc : Cur w B p v n) :
    Calls Try.prog 38 #[.pointer (some ⟨p, 0, none⟩), .int .i64 m] w fun e w' => ∃ L : List UInt8, L.length = m ∧ e = .returned (.string ⟨L.toArray⟩) ∧ Drew w w' B p v n := by
  have hm0 : ¬ ((5000 : Int) < m) := by omega
  have hp := hc.lt
  obtain ⟨i0, hi, hz0, hz1, hz2⟩ := info_parts infoByte
  have HB : Hid (∀ wx, Cur wx B p v n → Calls Try.prog 28 #[.pointer (some ⟨p, 0, none⟩)] wx fun e w' => ∃ x : Nat, e = .returned (.int .i64 x) ∧ x < 256 ∧ Drew wx w' B p v n) := fun wx h => byteD B p v n hn wx h
  go_enter Try.func38, Try.ntmps38
  go_wp2
  go_loopw [5, 6] (fun u z wr => ∃ (j : Nat) (d : List UInt8), j ≤ m ∧ d.length = j ∧ z = .int .i64 j ∧ u ≠ .slice none 0 0 ∧ wr.ownsRow w.heap.size 5 1 u j (Lib.byteCells d) ∧ Drew w wr B p v n) (fun _ z _ => m - (intOf z).toNat)
  case atStart => exact ⟨0, [], Nat.zero_le _, rfl, rfl, by simp, own_empty w 5, (Drew.refl hc).alloc hp hB _⟩
  case round =>
    obtain ⟨j, d, hj, hd, rfl, hne, hown, hdr⟩ := hrel
    by_cases hlt : j < m
    · have hlt1 : (j : Int) < m := by omega
      go_wp2_with fail
      refine (HB.out _ hdr.1).mono ?_
      rintro e w1 ⟨x, rfl, hx, hd1⟩
      have hown1 := hown.kept hd1.2 (by
        cases hv : u5.ownBlock with
        | none => exact .inl rfl
        | some g => exact .inr fun h => by have := (hown.lt g hv).1; cases h; omega)
      have hdr1 := hdr.trans hd1
      have hsz : w.heap.size ≤ w1.heap.size := hdr1.2.size
      clear hown hdr hd1
      go_wp2_with (at_builtin; refine wpList_append_own _ rfl _ _ 22 rfl w.heap.size 5 i0 (.int .u8 0) 1 1 Try.underlying22 hi hz0 hz1 hz2 rfl (by decide) _ _ _ rfl (hown1.alloc _) ⟨w1.heap.size, 0, none⟩ 1 1 [Value.int .u8 (x : Int)] rfl rfl (one_new _ _ _) (by intro u' hu'; simp at hu'; subst hu'; rfl) (by unfold maxLen; omega) (by omega) (by simp; omega) ?_)
      intro v2 w2 hown2 hgrow hne2
      have hdr2 : Drew w w2 B p v n := (hdr1.alloc hp hB _).kept hp hB hgrow (fun k hk => (hown1.lt k hk).1)
      have ho := own_snoc (d := d) (x := x) hx rfl (by rw [hd]; exact hown2)
      have hv2 : v2 ≠ .slice none 0 0 := by
        rcases hown2.2 with ⟨-, h⟩ | ⟨g, c, cur, rfl, -⟩
        · omega
        · simp
      clear hown1 hdr1 hgrow hown2
      go_wp2
      go_roundw
      case rel => exact ⟨j + 1, d ++ [UInt8.ofNat x], by omega, by simp [hd], by go_num, hv2, by rw [← hd]; simpa using ho, hdr2⟩
      case measure => simp [intOf]; omega
    · have hlt1 : ¬ ((j : Int) < m) := by omega
      obtain rfl : j = m := by omega
      rcases hown.2 with ⟨rfl, -⟩ | ⟨g, cap, cur, rfl, -, -, -, -, -, -⟩
      · exact absurd rfl hne
      · have hcv := run_convert_bytes_back (P := Try.prog) wr 22 9 5 ⟨g, 0, none⟩ cap d Try.underlying22 Try.underlying5 Try.underlying9 (fun q hq => hown.cells (g := g) rfl q _ (by simp [Lib.byteCells, hq]))
        rw [hd] at hcv
        clear hown hne
        go_wp2
        go_ret
        exact ⟨d, hd, rfl, hdr⟩

theorem Drew.below {w w1 w2 : World} {B p : Nat} {v : Value} {n : Nat} (hb : Below w.heap.size w w1) (h : Drew w1 w2 B p v n) (hp : w.heap.size ≤ p) : Below w.heap.size w w2 :=
  hb.grown h.2 hb.size (fun k hk => by cases hk; exact hp)

theorem own_base {w : World} {b b' : Nat} {e : TypeId} {size : Nat} {v : Value} {n : Nat} {xs : List Value} (h : w.ownsRow b e size v n xs) (hb : b' ≤ b) : w.ownsRow b' e size v n xs := by
  refine ⟨h.1, ?_⟩
  rcases h.2 with h | ⟨g, cap, cur, h1, h2, h3⟩
  · exact .inl h
  · exact .inr ⟨g, cap, cur, h1, Nat.le_trans hb h2, h3⟩

def intC (d : List Nat) : List Value := d.map fun (x : Nat) => Value.int .i64 (x : Int)
theorem infoInt : (Try.prog.info? 3).map (fun i => (i.zero, i.size, i.bytes)) = some (some (.int .i64 0), 1, 8) := by kernel_rfl

set_option maxHeartbeats 1000000 in
theorem placesD (B : Nat) (v : Value) (n : Nat) (hn : n ≤ 1048576) (w : World) (hB : B ≤ w.heap.size) (hc : CodeIs w B v n) :
    Calls Try.prog 10 #[v] w fun e w' => ∃ (u : Value) (d : List Nat), d.length = 12 ∧ (∀ x ∈ d, x < 10000) ∧ e = .returned u ∧ w'.ownsRow w.heap.size 3 1 u 12 (intC d) ∧ Below w.heap.size w w' := by
  have HN : Hid (Calls Try.prog 27 #[v] w fun e w' => e = .returned (.pointer (some ⟨w.heap.size, 0, none⟩)) ∧ Cur w' B w.heap.size v n ∧ Below w.heap.size w w') := new_calls B v n hn w hB hc
  have HB : Hid (∀ wx, Cur wx B w.heap.size v n → Calls Try.prog 29 #[.pointer (some ⟨w.heap.size, 0, none⟩), .int .i64 10000] wx fun e w' => ∃ x : Nat, e = .returned (.int .i64 x) ∧ x < 10000 ∧ Drew wx w' B w.heap.size v n) := fun wx h => belowD 10000 (by omega) (by omega) B w.heap.size v n hn wx h
  obtain ⟨i0, hi, hz0, hz1, hz2⟩ := info_parts infoInt
  go_enter Try.func10, Try.ntmps10
  go_wp2_with fail
  refine HN.out.mono ?_
  rintro e w1 ⟨rfl, hc1, hb1⟩
  have hs1 := hb1.size
  have hp1 := hc1.lt
  go_wp2_with fail
  refine (byteD B w.heap.size v n hn _ hc1).mono ?_
  rintro e w2 ⟨x0, rfl, hx0, hd2⟩
  have hs2 := hd2.2.size
  have hb2 := Drew.below hb1 hd2 (Nat.le_refl _)
  have hc2 := hd2.1
  have hp2 := hc2.lt
  clear hd2 hc1 hb1
  go_wp2
  go_loopw [4, 5] (fun u z wr => ∃ (j : Nat) (d : List Nat), j ≤ 12 ∧ d.length = j ∧ (∀ x ∈ d, x < 10000) ∧ z = .int .i64 j ∧ wr.ownsRow w2.heap.size 3 1 u j (intC d) ∧ Drew w2 wr B w.heap.size v n) (fun _ z _ => 12 - (intOf z).toNat)
  case atStart => exact ⟨0, [], Nat.zero_le _, rfl, by simp, rfl, own_empty w2 3, (Drew.refl hc2).alloc hp2 (by omega) _⟩
  case round =>
    obtain ⟨j, d, hj, hd, hdx, rfl, hown, hdr⟩ := hrel
    by_cases hlt : j < 12
    · have hlt1 : (j : Int) < 12 := by omega
      go_wp2_with fail
      refine (HB.out _ hdr.1).mono ?_
      rintro e w3 ⟨x, rfl, hx, hd1⟩
      have hown1 := hown.kept hd1.2 (by
        cases hv : u4.ownBlock with
        | none => exact .inl rfl
        | some g => exact .inr fun h => by have := (hown.lt g hv).1; cases h; omega)
      have hdr1 := hdr.trans hd1
      have hsz : w2.heap.size ≤ w3.heap.size := hdr1.2.size
      clear hown hdr hd1
      have HX : Hid (∀ y ∈ d ++ [x], y < 10000) := by
        intro y hy
        rcases List.mem_append.1 hy with h | h
        · exact hdx y h
        · simp at h; omega
      clear hdx
      go_wp2_with (at_builtin; refine wpList_append_own _ rfl _ _ 27 rfl w2.heap.size 3 i0 (.int .i64 0) 1 8 Try.underlying27 hi hz0 hz1 hz2 rfl (by decide) _ _ _ rfl (hown1.alloc _) ⟨w3.heap.size, 0, none⟩ 1 1 [Value.int .i64 (x : Int)] rfl rfl (one_new _ _ _) (by intro u' hu'; simp at hu'; subst hu'; rfl) (by unfold maxLen; omega) (by omega) (by simp; omega) ?_)
      intro v2 w4 hown2 hgrow hne2
      have hdr2 : Drew w2 w4 B w.heap.size v n := (hdr1.alloc hp2 (by omega) _).kept hp2 (by omega) hgrow (fun k hk => (hown1.lt k hk).1)
      have ho : w4.ownsRow w2.heap.size 3 1 v2 (j + 1) (intC (d ++ [x])) := by
        unfold intC at hown2 ⊢; rw [List.map_append]; exact hown2
      clear hown1 hdr1 hgrow hown2
      go_wp2
      go_roundw
      case rel => exact ⟨j + 1, d ++ [x], by omega, by simp [hd], HX.out, by go_num, ho, hdr2⟩
      case measure => simp [intOf]; omega
    · have hlt1 : ¬ ((j : Int) < 12) := by omega
      obtain rfl : j = 12 := by omega
      go_wp2
      go_ret
      exact ⟨u4, d, hd, hdx, rfl, own_base hown (by omega), Drew.below hb2 hdr (Nat.le_refl _)⟩
end Go.Proofs.Ytbnnmlfammeobaa
