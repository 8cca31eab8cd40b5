/- How much there is in a state. -/
import Derived.Test.YtahdgagipmpcgaaTTo2
namespace Go.Proofs.Ytahdgagipmpcgaa
set_option maxRecDepth 100000
set_option linter.unusedVariables false
open Go.RowKit

theorem sum_take_succ {α : Type} (f : α → Nat) (l : List α) (j : Nat) (h : j < l.length) : ((l.take (j + 1)).map f).sum = ((l.take j).map f).sum + f l[j] := by
  rw [List.take_succ_eq_append_getElem h, List.map_append, List.sum_append]; simp
theorem sum_take_le {α : Type} (f : α → Nat) (l : List α) (j : Nat) : ((l.take j).map f).sum ≤ (l.map f).sum := by
  have := List.take_append_drop j l
  calc ((l.take j).map f).sum ≤ ((l.take j).map f).sum + ((l.drop j).map f).sum := Nat.le_add_right _ _
    _ = (l.map f).sum := by rw [← List.sum_append, ← List.map_append, this]

def Ta.sz (a : Ta) : Nat := a.o.size
set_option maxHeartbeats 1000000 in
theorem szTally_calls (a : Ta) (L : Int) (w : World) (h0 : 0 ≤ L) (h1 : L ≤ 1048576) (ho : a.o.size ≤ maxLen) :
    Calls Try.prog 133 #[.agg #[.string a.o, .int .i64 a.r, .int .i64 a.n], .int .i64 L] w fun e w' => e = .returned (.int .i64 (leftOf L a.sz)) ∧ Below w.heap.size w w' := by
  obtain ⟨R, hR⟩ : ∃ R, R = leftOf L a.sz := ⟨_, rfl⟩
  rw [← hR]
  have HR : Hid (R = leftOf L a.sz) := hR
  clear hR
  have hb : ∀ o1, Below w.heap.size w (w.alloc o1) := fun o1 => (Below.refl _ _).alloc (Nat.le_refl _) _
  unfold maxLen at ho
  have w1 : IntKind.i64.wrap (L - a.o.size) = L - a.o.size := by rw [IntKind.wrap_i64] <;> omega
  by_cases k1 : L - (a.o.size : Int) < 0
  case pos =>
    have HE : Hid (R = -1) := by show _ = _; rw [HR.out]; unfold leftOf Ta.sz; rw [if_neg (by omega)]
    clear HR
    go_enter Try.func133, Try.ntmps133
    go_wp2
    go_ret
    exact ⟨by rw [HE.out]; rfl, hb _⟩
  have HE : Hid (R = L - a.o.size) := by show _ = _; rw [HR.out]; unfold leftOf Ta.sz; rw [if_pos (by omega)]
  clear HR
  go_enter Try.func133, Try.ntmps133
  go_wp2
  go_ret
  exact ⟨by rw [HE.out]; rfl, hb _⟩

def taSz (l : List Ta) : Nat := (l.map Ta.sz).sum
set_option maxHeartbeats 2000000 in
theorem szTallyS_calls {v : Value} {l : List Ta} (L : Int) (w : World) (h0 : 0 ≤ L) (h1 : L ≤ 1048576) (ha : ArgTallys w v l) :
    Calls Try.prog 63 #[v, .int .i64 L] w fun e w' => e = .returned (.int .i64 (leftOf L ((l.length : Int) + taSz l))) ∧ Below w.heap.size w w' := by
  obtain ⟨hm, ⟨aa, ca, rfl, ga⟩, hst⟩ := ha
  have HGA : Hid (TaG w aa l) := ga
  have HST : Hid (∀ a ∈ l, a.o.size ≤ maxLen) := hst
  have HSUM : Hid (∀ j (h : j < l.length), taSz (l.take (j + 1)) = taSz (l.take j) + l[j].sz) := fun j h => sum_take_succ _ l j h
  have HLE : Hid (∀ j, taSz (l.take j) ≤ taSz l) := fun j => sum_take_le _ l j
  have HALL : Hid (taSz (l.take l.length) = taSz l) := by show _ = _; rw [List.take_length]
  have HNIL : Hid (taSz (l.take 0) = 0) := rfl
  obtain ⟨n, hl⟩ : ∃ n, n = l.length := ⟨_, rfl⟩
  obtain ⟨R, hR⟩ : ∃ R, R = leftOf L ((l.length : Int) + taSz l) := ⟨_, rfl⟩
  rw [← hR]
  have HR : Hid (R = leftOf L ((n : Int) + taSz l)) := by show _ = _; rw [hR, hl]
  rw [← hl]
  rw [← hl] at hm
  have HL : Hid (n = l.length) := hl
  clear ga hl hst hR
  unfold maxLen at hm
  have w1 : IntKind.i64.wrap (L - n) = L - n := by rw [IntKind.wrap_i64] <;> omega
  by_cases k1 : L - (n : Int) < 0
  case pos =>
    have HE : Hid (R = -1) := by show _ = _; rw [HR.out]; unfold leftOf; rw [if_neg (by omega)]
    clear HR
    go_enter Try.func63, Try.ntmps63
    go_wp2
    go_ret
    exact ⟨by rw [HE.out]; rfl, Below.refl _ _⟩
  go_enter Try.func63, Try.ntmps63
  go_wp2
  go_loopw [1, 5] (fun x z wr => ∃ (j : Nat) (cur : Int), j ≤ n ∧ z = .int .i64 j ∧ x = .int .i64 cur ∧ cur = L - n - (taSz (l.take j) : Int) ∧ 0 ≤ cur ∧ Below w.heap.size w wr) (fun _ z _ => n - (intOf z).toNat)
  case atStart => exact ⟨0, _, Nat.zero_le _, rfl, rfl, by rw [HNIL.out]; omega, by omega, Below.refl _ _⟩
  case round =>
    obtain ⟨j, cur, hj, rfl, rfl, hcur, hc0, hbel⟩ := hrel
    have HCUR : Hid (cur = L - n - (taSz (l.take j) : Int)) := hcur
    have hc1 : cur ≤ 1048576 := by omega
    have HB : Hid (Below w.heap.size w wr) := hbel
    clear hcur
    by_cases hlt : j < n
    · have hjl : j < l.length := by rw [← HL.out]; exact hlt
      obtain ⟨g, f, rfl, hg, hcc⟩ := HGA.out (by omega)
      have hj1 : (j : Int) < n := by omega
      have hj0 : (0 : Int) ≤ j := by omega
      have c1 := (hcc j hjl).below hbel hg
      have hs1 := HSUM.out j hjl
      have hs2 := HLE.out (j + 1)
      have hsz := HST.out l[j] (List.getElem_mem hjl)
      generalize l[j] = x at *
      unfold taC at c1
      obtain ⟨c10, c11, c12⟩ := c1
      clear hcc hbel
      have HNX : Hid (∀ q : Int, q = cur - x.sz → q = L - n - (taSz (l.take (j + 1)) : Int)) := fun q hq => by have := HCUR.out; omega
      have HNO : Hid (cur - (x.sz : Int) < 0 → R = -1) := fun hq => by
        have := HCUR.out
        rw [HR.out]; unfold leftOf; rw [if_neg (by omega)]
      clear hs1 hs2
      go_wp2_with fail
      refine (szTally_calls x cur wr hc0 hc1 hsz).mono ?_
      rintro e w1 ⟨rfl, hb⟩
      have HB1 : Hid (Below w.heap.size w w1) := HB.out.trans (hb.mono HB.out.size)
      clear hb HB hsz c10 c11 c12
      by_cases hk : (x.sz : Int) ≤ cur
      · rw [show leftOf cur x.sz = cur - x.sz by unfold leftOf; rw [if_pos hk]]
        have hq0 : ¬ (cur - (x.sz : Int) < 0) := by omega
        have HQ := HNX.out _ rfl
        obtain ⟨c2, hc2⟩ : ∃ c2, c2 = cur - (x.sz : Int) := ⟨_, rfl⟩
        rw [← hc2] at HQ hq0 ⊢
        have HQQ : Hid (c2 = L - n - (taSz (l.take (j + 1)) : Int)) := HQ
        clear hc2 HQ HNX HNO hk
        go_wp2
        go_roundw
        case rel => exact ⟨j + 1, c2, by omega, by go_num, rfl, HQQ.out, by omega, HB1.out⟩
        case measure => simp [intOf]; omega
      · rw [show leftOf cur x.sz = -1 by unfold leftOf; rw [if_neg hk]]
        have HE : Hid (R = -1) := HNO.out (by omega)
        clear HNX HNO hk
        go_wp2
        go_ret
        exact ⟨by rw [HE.out]; rfl, HB1.out⟩
    · have hj1 : ¬ ((j : Int) < n) := by omega
      have HE : Hid (R = cur) := by
        have hjn : j = l.length := by have := HL.out; omega
        have h3 := HCUR.out
        rw [hjn, HALL.out] at h3
        show _ = _
        rw [HR.out]; unfold leftOf; rw [if_pos (by omega)]; omega
      clear hbel
      go_wp2
      go_ret
      exact ⟨by rw [HE.out]; rfl, HB.out⟩

def Li.sz (a : Li) : Nat := a.o.size + a.y.size
set_option maxHeartbeats 1000000 in
theorem szLive_calls (a : Li) (L : Int) (w : World) (h0 : 0 ≤ L) (h1 : L ≤ 1048576) (ho : a.o.size ≤ maxLen) (hy : a.y.size ≤ maxLen) :
    Calls Try.prog 134 #[.agg #[.bool a.m, .string a.o, .string a.y, .int .i64 a.v, .int .i64 a.r, .int .i64 a.s], .int .i64 L] w fun e w' => e = .returned (.int .i64 (leftOf L a.sz)) ∧ Below w.heap.size w w' := by
  obtain ⟨R, hR⟩ : ∃ R, R = leftOf L a.sz := ⟨_, rfl⟩
  rw [← hR]
  have HR : Hid (R = leftOf L a.sz) := hR
  clear hR
  have hb : ∀ o1, Below w.heap.size w (w.alloc o1) := fun o1 => (Below.refl _ _).alloc (Nat.le_refl _) _
  unfold maxLen at ho hy
  have w1 : IntKind.i64.wrap (L - a.o.size) = L - a.o.size := by rw [IntKind.wrap_i64] <;> omega
  by_cases k1 : L - (a.o.size : Int) < 0
  case pos =>
    have HE : Hid (R = -1) := by show _ = _; rw [HR.out]; unfold leftOf Li.sz; rw [if_neg (by omega)]
    clear HR
    go_enter Try.func134, Try.ntmps134
    go_wp2
    go_ret
    exact ⟨by rw [HE.out]; rfl, hb _⟩
  have w2 : IntKind.i64.wrap (L - a.o.size - a.y.size) = L - a.o.size - a.y.size := by rw [IntKind.wrap_i64] <;> omega
  by_cases k2 : L - (a.o.size : Int) - a.y.size < 0
  case pos =>
    have HE : Hid (R = -1) := by show _ = _; rw [HR.out]; unfold leftOf Li.sz; rw [if_neg (by omega)]
    clear HR
    go_enter Try.func134, Try.ntmps134
    go_wp2
    go_ret
    exact ⟨by rw [HE.out]; rfl, hb _⟩
  have HE : Hid (R = L - a.o.size - a.y.size) := by show _ = _; rw [HR.out]; unfold leftOf Li.sz; rw [if_pos (by omega)]; omega
  clear HR
  go_enter Try.func134, Try.ntmps134
  go_wp2
  go_ret
  exact ⟨by rw [HE.out]; rfl, hb _⟩

def liSz (l : List Li) : Nat := (l.map Li.sz).sum
set_option maxHeartbeats 2000000 in
theorem szLiveS_calls {v : Value} {l : List Li} (L : Int) (w : World) (h0 : 0 ≤ L) (h1 : L ≤ 1048576) (ha : ArgLives w v l) :
    Calls Try.prog 64 #[v, .int .i64 L] w fun e w' => e = .returned (.int .i64 (leftOf L ((l.length : Int) + liSz l))) ∧ Below w.heap.size w w' := by
  obtain ⟨hm, ⟨aa, ca, rfl, ga⟩, hst⟩ := ha
  have HGA : Hid (LiG w aa l) := ga
  have HST : Hid (∀ a ∈ l, a.o.size ≤ maxLen ∧ a.y.size ≤ maxLen) := hst
  have HSUM : Hid (∀ j (h : j < l.length), liSz (l.take (j + 1)) = liSz (l.take j) + l[j].sz) := fun j h => sum_take_succ _ l j h
  have HLE : Hid (∀ j, liSz (l.take j) ≤ liSz l) := fun j => sum_take_le _ l j
  have HALL : Hid (liSz (l.take l.length) = liSz l) := by show _ = _; rw [List.take_length]
  have HNIL : Hid (liSz (l.take 0) = 0) := rfl
  obtain ⟨n, hl⟩ : ∃ n, n = l.length := ⟨_, rfl⟩
  obtain ⟨R, hR⟩ : ∃ R, R = leftOf L ((l.length : Int) + liSz l) := ⟨_, rfl⟩
  rw [← hR]
  have HR : Hid (R = leftOf L ((n : Int) + liSz l)) := by show _ = _; rw [hR, hl]
  rw [← hl]
  rw [← hl] at hm
  have HL : Hid (n = l.length) := hl
  clear ga hl hst hR
  unfold maxLen at hm
  have w1 : IntKind.i64.wrap (L - n) = L - n := by rw [IntKind.wrap_i64] <;> omega
  by_cases k1 : L - (n : Int) < 0
  case pos =>
    have HE : Hid (R = -1) := by show _ = _; rw [HR.out]; unfold leftOf; rw [if_neg (by omega)]
    clear HR
    go_enter Try.func64, Try.ntmps64
    go_wp2
    go_ret
    exact ⟨by rw [HE.out]; rfl, Below.refl _ _⟩
  go_enter Try.func64, Try.ntmps64
  go_wp2
  go_loopw [1, 5] (fun x z wr => ∃ (j : Nat) (cur : Int), j ≤ n ∧ z = .int .i64 j ∧ x = .int .i64 cur ∧ cur = L - n - (liSz (l.take j) : Int) ∧ 0 ≤ cur ∧ Below w.heap.size w wr) (fun _ z _ => n - (intOf z).toNat)
  case atStart => exact ⟨0, _, Nat.zero_le _, rfl, rfl, by rw [HNIL.out]; omega, by omega, Below.refl _ _⟩
  case round =>
    obtain ⟨j, cur, hj, rfl, rfl, hcur, hc0, hbel⟩ := hrel
    have HCUR : Hid (cur = L - n - (liSz (l.take j) : Int)) := hcur
    have hc1 : cur ≤ 1048576 := by omega
    have HB : Hid (Below w.heap.size w wr) := hbel
    clear hcur
    by_cases hlt : j < n
    · have hjl : j < l.length := by rw [← HL.out]; exact hlt
      obtain ⟨g, f, rfl, hg, hcc⟩ := HGA.out (by omega)
      have hj1 : (j : Int) < n := by omega
      have hj0 : (0 : Int) ≤ j := by omega
      have c1 := (hcc j hjl).below hbel hg
      have hs1 := HSUM.out j hjl
      have hs2 := HLE.out (j + 1)
      have hsz := HST.out l[j] (List.getElem_mem hjl)
      generalize l[j] = x at *
      unfold liC at c1
      obtain ⟨c10, c11, c12, c13, c14, c15⟩ := c1
      clear hcc hbel
      have HNX : Hid (∀ q : Int, q = cur - x.sz → q = L - n - (liSz (l.take (j + 1)) : Int)) := fun q hq => by have := HCUR.out; omega
      have HNO : Hid (cur - (x.sz : Int) < 0 → R = -1) := fun hq => by
        have := HCUR.out
        rw [HR.out]; unfold leftOf; rw [if_neg (by omega)]
      clear hs1 hs2
      go_wp2_with fail
      refine (szLive_calls x cur wr hc0 hc1 hsz.1 hsz.2).mono ?_
      rintro e w1 ⟨rfl, hb⟩
      have HB1 : Hid (Below w.heap.size w w1) := HB.out.trans (hb.mono HB.out.size)
      clear hb HB hsz c10 c11 c12 c13 c14 c15
      by_cases hk : (x.sz : Int) ≤ cur
      · rw [show leftOf cur x.sz = cur - x.sz by unfold leftOf; rw [if_pos hk]]
        have hq0 : ¬ (cur - (x.sz : Int) < 0) := by omega
        have HQ := HNX.out _ rfl
        obtain ⟨c2, hc2⟩ : ∃ c2, c2 = cur - (x.sz : Int) := ⟨_, rfl⟩
        rw [← hc2] at HQ hq0 ⊢
        have HQQ : Hid (c2 = L - n - (liSz (l.take (j + 1)) : Int)) := HQ
        clear hc2 HQ HNX HNO hk
        go_wp2
        go_roundw
        case rel => exact ⟨j + 1, c2, by omega, by go_num, rfl, HQQ.out, by omega, HB1.out⟩
        case measure => simp [intOf]; omega
      · rw [show leftOf cur x.sz = -1 by unfold leftOf; rw [if_neg hk]]
        have HE : Hid (R = -1) := HNO.out (by omega)
        clear HNX HNO hk
        go_wp2
        go_ret
        exact ⟨by rw [HE.out]; rfl, HB1.out⟩
    · have hj1 : ¬ ((j : Int) < n) := by omega
      have HE : Hid (R = cur) := by
        have hjn : j = l.length := by have := HL.out; omega
        have h3 := HCUR.out
        rw [hjn, HALL.out] at h3
        show _ = _
        rw [HR.out]; unfold leftOf; rw [if_pos (by omega)]; omega
      clear hbel
      go_wp2
      go_ret
      exact ⟨by rw [HE.out]; rfl, HB.out⟩

def Ce.sz (a : Ce) : Nat := a.o.size
set_option maxHeartbeats 1000000 in
theorem szCell_calls (a : Ce) (L : Int) (w : World) (h0 : 0 ≤ L) (h1 : L ≤ 1048576) (ho : a.o.size ≤ maxLen) :
    Calls Try.prog 135 #[.agg #[.string a.o, .int .i64 a.r, .int .i64 a.s, .int .i64 a.t, .int .i64 a.x, .int .i64 a.z, .int .i64 a.v, .bool a.g], .int .i64 L] w fun e w' => e = .returned (.int .i64 (leftOf L a.sz)) ∧ Below w.heap.size w w' := by
  obtain ⟨R, hR⟩ : ∃ R, R = leftOf L a.sz := ⟨_, rfl⟩
  rw [← hR]
  have HR : Hid (R = leftOf L a.sz) := hR
  clear hR
  have hb : ∀ o1, Below w.heap.size w (w.alloc o1) := fun o1 => (Below.refl _ _).alloc (Nat.le_refl _) _
  unfold maxLen at ho
  have w1 : IntKind.i64.wrap (L - a.o.size) = L - a.o.size := by rw [IntKind.wrap_i64] <;> omega
  by_cases k1 : L - (a.o.size : Int) < 0
  case pos =>
    have HE : Hid (R = -1) := by show _ = _; rw [HR.out]; unfold leftOf Ce.sz; rw [if_neg (by omega)]
    clear HR
    go_enter Try.func135, Try.ntmps135
    go_wp2
    go_ret
    exact ⟨by rw [HE.out]; rfl, hb _⟩
  have HE : Hid (R = L - a.o.size) := by show _ = _; rw [HR.out]; unfold leftOf Ce.sz; rw [if_pos (by omega)]
  clear HR
  go_enter Try.func135, Try.ntmps135
  go_wp2
  go_ret
  exact ⟨by rw [HE.out]; rfl, hb _⟩

def ceSz (l : List Ce) : Nat := (l.map Ce.sz).sum
set_option maxHeartbeats 2000000 in
theorem szCellS_calls {v : Value} {l : List Ce} (L : Int) (w : World) (h0 : 0 ≤ L) (h1 : L ≤ 1048576) (ha : ArgCells w v l) :
    Calls Try.prog 65 #[v, .int .i64 L] w fun e w' => e = .returned (.int .i64 (leftOf L ((l.length : Int) + ceSz l))) ∧ Below w.heap.size w w' := by
  obtain ⟨hm, ⟨aa, ca, rfl, ga⟩, hst⟩ := ha
  have HGA : Hid (CeG w aa l) := ga
  have HST : Hid (∀ a ∈ l, a.o.size ≤ maxLen) := hst
  have HSUM : Hid (∀ j (h : j < l.length), ceSz (l.take (j + 1)) = ceSz (l.take j) + l[j].sz) := fun j h => sum_take_succ _ l j h
  have HLE : Hid (∀ j, ceSz (l.take j) ≤ ceSz l) := fun j => sum_take_le _ l j
  have HALL : Hid (ceSz (l.take l.length) = ceSz l) := by show _ = _; rw [List.take_length]
  have HNIL : Hid (ceSz (l.take 0) = 0) := rfl
  obtain ⟨n, hl⟩ : ∃ n, n = l.length := ⟨_, rfl⟩
  obtain ⟨R, hR⟩ : ∃ R, R = leftOf L ((l.length : Int) + ceSz l) := ⟨_, rfl⟩
  rw [← hR]
  have HR : Hid (R = leftOf L ((n : Int) + ceSz l)) := by show _ = _; rw [hR, hl]
  rw [← hl]
  rw [← hl] at hm
  have HL : Hid (n = l.length) := hl
  clear ga hl hst hR
  unfold maxLen at hm
  have w1 : IntKind.i64.wrap (L - n) = L - n := by rw [IntKind.wrap_i64] <;> omega
  by_cases k1 : L - (n : Int) < 0
  case pos =>
    have HE : Hid (R = -1) := by show _ = _; rw [HR.out]; unfold leftOf; rw [if_neg (by omega)]
    clear HR
    go_enter Try.func65, Try.ntmps65
    go_wp2
    go_ret
    exact ⟨by rw [HE.out]; rfl, Below.refl _ _⟩
  go_enter Try.func65, Try.ntmps65
  go_wp2
  go_loopw [1, 5] (fun x z wr => ∃ (j : Nat) (cur : Int), j ≤ n ∧ z = .int .i64 j ∧ x = .int .i64 cur ∧ cur = L - n - (ceSz (l.take j) : Int) ∧ 0 ≤ cur ∧ Below w.heap.size w wr) (fun _ z _ => n - (intOf z).toNat)
  case atStart => exact ⟨0, _, Nat.zero_le _, rfl, rfl, by rw [HNIL.out]; omega, by omega, Below.refl _ _⟩
  case round =>
    obtain ⟨j, cur, hj, rfl, rfl, hcur, hc0, hbel⟩ := hrel
    have HCUR : Hid (cur = L - n - (ceSz (l.take j) : Int)) := hcur
    have hc1 : cur ≤ 1048576 := by omega
    have HB : Hid (Below w.heap.size w wr) := hbel
    clear hcur
    by_cases hlt : j < n
    · have hjl : j < l.length := by rw [← HL.out]; exact hlt
      obtain ⟨g, f, rfl, hg, hcc⟩ := HGA.out (by omega)
      have hj1 : (j : Int) < n := by omega
      have hj0 : (0 : Int) ≤ j := by omega
      have c1 := (hcc j hjl).below hbel hg
      have hs1 := HSUM.out j hjl
      have hs2 := HLE.out (j + 1)
      have hsz := HST.out l[j] (List.getElem_mem hjl)
      generalize l[j] = x at *
      unfold ceC at c1
      obtain ⟨c10, c11, c12, c13, c14, c15, c16, c17⟩ := c1
      clear hcc hbel
      have HNX : Hid (∀ q : Int, q = cur - x.sz → q = L - n - (ceSz (l.take (j + 1)) : Int)) := fun q hq => by have := HCUR.out; omega
      have HNO : Hid (cur - (x.sz : Int) < 0 → R = -1) := fun hq => by
        have := HCUR.out
        rw [HR.out]; unfold leftOf; rw [if_neg (by omega)]
      clear hs1 hs2
      go_wp2_with fail
      refine (szCell_calls x cur wr hc0 hc1 hsz).mono ?_
      rintro e w1 ⟨rfl, hb⟩
      have HB1 : Hid (Below w.heap.size w w1) := HB.out.trans (hb.mono HB.out.size)
      clear hb HB hsz c10 c11 c12 c13 c14 c15 c16 c17
      by_cases hk : (x.sz : Int) ≤ cur
      · rw [show leftOf cur x.sz = cur - x.sz by unfold leftOf; rw [if_pos hk]]
        have hq0 : ¬ (cur - (x.sz : Int) < 0) := by omega
        have HQ := HNX.out _ rfl
        obtain ⟨c2, hc2⟩ : ∃ c2, c2 = cur - (x.sz : Int) := ⟨_, rfl⟩
        rw [← hc2] at HQ hq0 ⊢
        have HQQ : Hid (c2 = L - n - (ceSz (l.take (j + 1)) : Int)) := HQ
        clear hc2 HQ HNX HNO hk
        go_wp2
        go_roundw
        case rel => exact ⟨j + 1, c2, by omega, by go_num, rfl, HQQ.out, by omega, HB1.out⟩
        case measure => simp [intOf]; omega
      · rw [show leftOf cur x.sz = -1 by unfold leftOf; rw [if_neg hk]]
        have HE : Hid (R = -1) := HNO.out (by omega)
        clear HNX HNO hk
        go_wp2
        go_ret
        exact ⟨by rw [HE.out]; rfl, HB1.out⟩
    · have hj1 : ¬ ((j : Int) < n) := by omega
      have HE : Hid (R = cur) := by
        have hjn : j = l.length := by have := HL.out; omega
        have h3 := HCUR.out
        rw [hjn, HALL.out] at h3
        show _ = _
        rw [HR.out]; unfold leftOf; rw [if_pos (by omega)]; omega
      clear hbel
      go_wp2
      go_ret
      exact ⟨by rw [HE.out]; rfl, HB.out⟩

/-- A state that was handed in. -/
def ArgState (w : World) (S : Sta) (v0 v1 v2 v3 : Value) : Prop := ArgInts w v0 S.l ∧ ArgTallys w v1 S.T ∧ ArgLives w v2 S.L ∧ ArgCells w v3 S.C
theorem ArgState.below {w w' : World} {S : Sta} {v0 v1 v2 v3 : Value} (h : ArgState w S v0 v1 v2 v3) (hb : Below w.heap.size w w') : ArgState w' S v0 v1 v2 v3 := ⟨h.1.below hb, h.2.1.below hb, h.2.2.1.below hb, h.2.2.2.below hb⟩
def Sta.sz (S : Sta) : Int := (S.l.length : Int) + ((S.T.length : Int) + taSz S.T) + ((S.L.length : Int) + liSz S.L) + ((S.C.length : Int) + ceSz S.C)
theorem leftOf_two (L a b : Int) (ha : 0 ≤ a) (hb : 0 ≤ b) (h : a ≤ L) : leftOf (leftOf L a) b = leftOf L (a + b) := by
  unfold leftOf
  rw [if_pos h]
  by_cases h2 : b ≤ L - a
  · rw [if_pos h2, if_pos (by omega)]; omega
  · rw [if_neg h2, if_neg (by omega)]
set_option maxHeartbeats 4000000 in
theorem szState_calls (S : Sta) (v0 v1 v2 v3 : Value) (L : Int) (w w0 : World) (h0 : 0 ≤ L) (h1 : L ≤ 1048576) (hA : ArgState w S v0 v1 v2 v3) :
    Calls Try.prog 9 #[.agg #[v0, v1, v2, v3], .int .i64 L] w fun e w' => e = .returned (.int .i64 (leftOf L S.sz)) ∧ Below w.heap.size w w' := by
  obtain ⟨R, hR⟩ : ∃ R, R = leftOf L S.sz := ⟨_, rfl⟩
  rw [← hR]
  have HR : Hid (R = leftOf L S.sz) := hR
  clear hR
  obtain ⟨W, hW⟩ : ∃ W, W = w.alloc (.cells #[v0, v1, v2, v3] 27) := ⟨_, rfl⟩
  have hbW : Below w.heap.size w W := by rw [hW]; exact (Below.refl _ _).alloc (Nat.le_refl _) _
  have HA : Hid (ArgState W S v0 v1 v2 v3) := hA.below hbW
  have HB : Hid (Below w.heap.size w W) := hbW
  have HP : Hid (Row W w.heap.size #[v0, v1, v2, v3] 27) := by rw [hW]; exact row_new w _ _ rfl
  have HW : Hid (w.alloc (.cells #[v0, v1, v2, v3] 27) = W) := hW.symm
  clear hW hbW hA
  obtain ⟨n0, hn0⟩ : ∃ n : Nat, n = S.l.length := ⟨_, rfl⟩
  obtain ⟨n1, hn1⟩ : ∃ n : Nat, n = S.T.length + taSz S.T := ⟨_, rfl⟩
  obtain ⟨n2, hn2⟩ : ∃ n : Nat, n = S.L.length + liSz S.L := ⟨_, rfl⟩
  obtain ⟨n3, hn3⟩ : ∃ n : Nat, n = S.C.length + ceSz S.C := ⟨_, rfl⟩
  have HRR : Hid (R = leftOf L ((n0 : Int) + n1 + n2 + n3)) := by
    show _ = _
    rw [HR.out, hn0, hn1, hn2, hn3]
    unfold Sta.sz
    congr 1
  have HC0 : Hid (∀ wx, Calls Try.prog 62 #[v0, .int .i64 L] wx fun e w' => e = .returned (.int .i64 (leftOf L n0)) ∧ Below wx.heap.size wx w') := fun wx => by
    obtain ⟨hm, aa, ca, rfl, -⟩ := HA.out.1
    rw [hn0]
    exact (szInts_calls aa _ ca L wx h0 h1 hm).mono (by rintro e w' ⟨rfl, rfl⟩; exact ⟨rfl, Below.refl _ _⟩)
  have HC1 : Hid (∀ wx K, Below W.heap.size W wx → 0 ≤ K → K ≤ 1048576 → Calls Try.prog 63 #[v1, .int .i64 K] wx fun e w' => e = .returned (.int .i64 (leftOf K n1)) ∧ Below wx.heap.size wx w') := fun wx K hb k0 k1 => by
    rw [hn1, Int.natCast_add]
    exact szTallyS_calls K wx k0 k1 (HA.out.2.1.below hb)
  have HC2 : Hid (∀ wx K, Below W.heap.size W wx → 0 ≤ K → K ≤ 1048576 → Calls Try.prog 64 #[v2, .int .i64 K] wx fun e w' => e = .returned (.int .i64 (leftOf K n2)) ∧ Below wx.heap.size wx w') := fun wx K hb k0 k1 => by
    rw [hn2, Int.natCast_add]
    exact szLiveS_calls K wx k0 k1 (HA.out.2.2.1.below hb)
  have HC3 : Hid (∀ wx K, Below W.heap.size W wx → 0 ≤ K → K ≤ 1048576 → Calls Try.prog 65 #[v3, .int .i64 K] wx fun e w' => e = .returned (.int .i64 (leftOf K n3)) ∧ Below wx.heap.size wx w') := fun wx K hb k0 k1 => by
    rw [hn3, Int.natCast_add]
    exact szCellS_calls K wx k0 k1 (HA.out.2.2.2.below hb)
  clear hn0 hn1 hn2 hn3 HR
  go_enter Try.func9, Try.ntmps9
  go_wp2_with fail
  rw [HW.out]
  clear HW
  refine (HC0.out _).mono ?_
  rintro e w1 ⟨rfl, hb1⟩
  have HX1 : Hid (Below W.heap.size W w1) := hb1
  clear hb1
  by_cases k0 : (n0 : Int) ≤ L
  case neg =>
    rw [show leftOf (L) n0 = -1 by unfold leftOf; rw [if_neg k0]]
    have HE : Hid (R = -1) := by show _ = _; rw [HRR.out]; unfold leftOf; rw [if_neg (by omega)]
    have HF : Hid (Below w.heap.size w w1) := HB.out.trans (HX1.out.mono HB.out.size)
    clear HRR k0
    go_wp2
    go_ret
    exact ⟨by rw [HE.out]; rfl, HF.out⟩
  rw [show leftOf (L) n0 = L - n0 by unfold leftOf; rw [if_pos k0]]
  have j0 : ¬ (L - (n0 : Int) < 0) := by omega
  have p1 := (HP.out.next HX1.out).cell 1 rfl
  go_wp2_with fail
  refine (HC1.out _ _ HX1.out (by omega) (by omega)).mono ?_
  rintro e w2 ⟨rfl, hb⟩
  have HX2 : Hid (Below W.heap.size W w2) := HX1.out.trans (hb.mono HX1.out.size)
  clear hb p1
  by_cases k1 : (n1 : Int) ≤ L - n0
  case neg =>
    rw [show leftOf (L - n0) n1 = -1 by unfold leftOf; rw [if_neg k1]]
    have HE : Hid (R = -1) := by show _ = _; rw [HRR.out]; unfold leftOf; rw [if_neg (by omega)]
    have HF : Hid (Below w.heap.size w w2) := HB.out.trans (HX2.out.mono HB.out.size)
    clear HRR k1
    go_wp2
    go_ret
    exact ⟨by rw [HE.out]; rfl, HF.out⟩
  rw [show leftOf (L - n0) n1 = L - n0 - n1 by unfold leftOf; rw [if_pos k1]]
  have j1 : ¬ (L - n0 - (n1 : Int) < 0) := by omega
  have p2 := (HP.out.next HX2.out).cell 2 rfl
  go_wp2_with fail
  refine (HC2.out _ _ HX2.out (by omega) (by omega)).mono ?_
  rintro e w3 ⟨rfl, hb⟩
  have HX3 : Hid (Below W.heap.size W w3) := HX2.out.trans (hb.mono HX2.out.size)
  clear hb p2
  by_cases k2 : (n2 : Int) ≤ L - n0 - n1
  case neg =>
    rw [show leftOf (L - n0 - n1) n2 = -1 by unfold leftOf; rw [if_neg k2]]
    have HE : Hid (R = -1) := by show _ = _; rw [HRR.out]; unfold leftOf; rw [if_neg (by omega)]
    have HF : Hid (Below w.heap.size w w3) := HB.out.trans (HX3.out.mono HB.out.size)
    clear HRR k2
    go_wp2
    go_ret
    exact ⟨by rw [HE.out]; rfl, HF.out⟩
  rw [show leftOf (L - n0 - n1) n2 = L - n0 - n1 - n2 by unfold leftOf; rw [if_pos k2]]
  have j2 : ¬ (L - n0 - n1 - (n2 : Int) < 0) := by omega
  have p3 := (HP.out.next HX3.out).cell 3 rfl
  go_wp2_with fail
  refine (HC3.out _ _ HX3.out (by omega) (by omega)).mono ?_
  rintro e w4 ⟨rfl, hb⟩
  have HX4 : Hid (Below W.heap.size W w4) := HX3.out.trans (hb.mono HX3.out.size)
  clear hb p3
  by_cases k3 : (n3 : Int) ≤ L - n0 - n1 - n2
  case neg =>
    rw [show leftOf (L - n0 - n1 - n2) n3 = -1 by unfold leftOf; rw [if_neg k3]]
    have HE : Hid (R = -1) := by show _ = _; rw [HRR.out]; unfold leftOf; rw [if_neg (by omega)]
    have HF : Hid (Below w.heap.size w w4) := HB.out.trans (HX4.out.mono HB.out.size)
    clear HRR k3
    go_wp2
    go_ret
    exact ⟨by rw [HE.out]; rfl, HF.out⟩
  rw [show leftOf (L - n0 - n1 - n2) n3 = L - n0 - n1 - n2 - n3 by unfold leftOf; rw [if_pos k3]]
  have j3 : ¬ (L - n0 - n1 - n2 - (n3 : Int) < 0) := by omega
  have HE : Hid (R = L - n0 - n1 - n2 - n3) := by show _ = _; rw [HRR.out]; unfold leftOf; rw [if_pos (by omega)]; omega
  have HF : Hid (Below w.heap.size w w4) := HB.out.trans (HX4.out.mono HB.out.size)
  clear HRR
  go_wp2
  go_ret
  exact ⟨by rw [HE.out]; rfl, HF.out⟩

end Go.Proofs.Ytahdgagipmpcgaa
