/- Marks in a whole state. -/
import Derived.Test.YtahdgagipmpcgaaTMark3
namespace Go.Proofs.Ytahdgagipmpcgaa
set_option maxRecDepth 100000
set_option linter.unusedVariables false
open Go.RowKit

/-- Nothing is written but into blocks between lo and hi. -/
structure Within (lo hi : Nat) (w w' : World) : Prop where
  os : w'.os = w.os
  tape : w'.tape = w.tape
  output : w'.output = w.output
  size : w.heap.size ≤ w'.heap.size
  block : ∀ k, k < w.heap.size → (k < lo ∨ hi ≤ k) → w'.heap[k]? = w.heap[k]?
theorem Within.trans {lo hi : Nat} {a b c : World} (h : Within lo hi a b) (k : Within lo hi b c) : Within lo hi a c :=
  ⟨k.os.trans h.os, k.tape.trans h.tape, k.output.trans h.output, Nat.le_trans h.size k.size, fun j hj hne => (k.block j (Nat.lt_of_lt_of_le hj h.size) hne).trans (h.block j hj hne)⟩
theorem Within.below {lo hi : Nat} {w w' : World} (h : Below w.heap.size w w') : Within lo hi w w' := ⟨h.os, h.tape, h.output, h.size, fun k hk _ => h.block k hk⟩
theorem Within.grown {lo hi : Nat} {w w' : World} {r : Option Nat} (h : w.grownBy w' r) (hr : ∀ k, r = some k → lo ≤ k ∧ k < hi) : Within lo hi w w' :=
  ⟨h.os, h.tape, h.output, h.size, fun k hk hne => h.block k hk (fun e => by have := hr k e.symm; omega)⟩
theorem Below.within {B lo hi : Nat} {w0 w w' : World} (h : Below B w0 w) (k : Within lo hi w w') (hB : B ≤ lo) (hs : B ≤ w.heap.size) : Below B w0 w' :=
  ⟨k.os.trans h.os, k.tape.trans h.tape, k.output.trans h.output, Nat.le_trans h.size k.size, fun j hj => (k.block j (by omega) (by omega)).trans (h.block j hj)⟩
theorem own_keep {w w' : World} {B n : Nat} {e : TypeId} {s : Nat} {u : Value} {xs : List Value} (h : w.ownsRow B e s u n xs) (hk : ∀ g, u.ownBlock = some g → w'.heap[g]? = w.heap[g]?) : w'.ownsRow B e s u n xs := by
  rcases h.2 with h0 | ⟨g, cap, cur, rfl, hb, hg, h1, h2, h3, h4⟩
  · exact ⟨h.1, .inl h0⟩
  · exact ⟨h.1, .inr ⟨g, cap, cur, rfl, hb, (hk g rfl).trans hg, h1, h2, h3, h4⟩⟩
theorem Rw.within {w w' : World} {lo hi lo' hi' : Nat} {e : TypeId} {sz n : Nat} {u : Value} {xs : List Value} (h : Rw w lo' hi' e sz u n xs) (k : Within lo hi w w') (hd : hi' ≤ lo ∨ hi ≤ lo') : Rw w' lo' hi' e sz u n xs :=
  ⟨own_keep h.1 (fun g hg => k.block g (h.1.lt g hg).2 (by have h1 := (h.1.lt g hg).1; have h2 := h.2 g hg; omega)), h.2⟩
theorem Row.within {w w' : World} {g lo hi : Nat} {cs : Array Value} {T : TypeId} (h : Row w g cs T) (k : Within lo hi w w') (hd : g < lo ∨ hi ≤ g) : Row w' g cs T := (k.block g h.lt hd).trans h

set_option maxHeartbeats 4000000 in
theorem markState_calls (S : Sta) (lo hi : Nat) (u0 u1 u2 u3 : Value) (w : World) (hn : S.l.length ≤ 1048576 ∧ S.T.length ≤ 1048576 ∧ S.L.length ≤ 1048576 ∧ S.C.length ≤ 1048576) (hh : hi ≤ w.heap.size) (hO : OwnSt w lo hi S u0 u1 u2 u3) :
    Calls Try.prog 15 #[.agg #[u0, u1, u2, u3], .int .i64 1] w fun e w' => e = .returned (.int .i64 (1 + (S.l.length : Int) + 3 * (S.T.length : Int) + 6 * (S.L.length : Int) + 8 * (S.C.length : Int))) ∧ IntsAt w' u0 (mkI 1 S.l.length) ∧ Within lo hi w w' := by
  obtain ⟨m1, m2, m3, o1, o2, o3, o4, r0, r1, r2, r3⟩ := hO
  obtain ⟨W, hW⟩ : ∃ W, W = w.alloc (.cells #[u0, u1, u2, u3] 35) := ⟨_, rfl⟩
  have hbW : Below w.heap.size w W := by rw [hW]; exact (Below.refl _ _).alloc (Nat.le_refl _) _
  have R0 := hidI (r0.below hbW)
  have R1 := hidI (r1.below hbW)
  have R2 := hidI (r2.below hbW)
  have R3 := hidI (r3.below hbW)
  have HP : Hid (Row W w.heap.size #[u0, u1, u2, u3] 35) := by rw [hW]; exact row_new w _ _ rfl
  have HI : Hid (Within lo hi w W) := Within.below hbW
  have HW : Hid (w.alloc (.cells #[u0, u1, u2, u3] 35) = W) := hW.symm
  clear hW hbW r0 r1 r2 r3
  go_enter Try.func15, Try.ntmps15
  go_wp2_with fail
  rw [HW.out]
  clear HW
  refine (markInts_calls (k := 1) hn.1 (by omega) W R0.out.1).mono ?_
  rintro e w1 ⟨rfl, ho, hg⟩
  have hb0 : ∀ k, u0.ownBlock = some k → lo ≤ k ∧ k < m1 := fun k hk => ⟨(R0.out.1.lt k hk).1, R0.out.2 k hk⟩
  have HI1 : Hid (Within lo hi w w1) := HI.out.trans (Within.grown hg (fun k hk => by have := hb0 k hk; omega))
  have HP1 : Hid (Row w1 w.heap.size #[u0, u1, u2, u3] 35) := HP.out.grown hg (fun e => by have := hb0 _ e; omega)
  have RA1 := hidI (R1.out.other R0.out (.inr (Nat.le_refl _)) hg)
  have RA2 := hidI (R2.out.other R0.out (.inr (by omega)) hg)
  have RA3 := hidI (R3.out.other R0.out (.inr (by omega)) hg)
  have RA0 : Hid (Rw w1 lo m1 3 1 u0 S.l.length (intV (mkI 1 S.l.length))) := ⟨ho, R0.out.2⟩
  clear ho hg R0 R1 R2 R3 HP HI hb0
  have p1 := HP1.out.cell 1 rfl
  have k1 : (((1 + S.l.length : Nat) : Int)) = 1 + (S.l.length : Int) := by omega
  have HM1 := hidI (markTallys_calls (k := 1 + S.l.length) hn.2.1 (by omega) (by omega) w1 RA1.out.1)
  rw [k1] at HM1
  go_wp2_with fail
  refine HM1.out.mono ?_
  rintro e w2 ⟨rfl, ho, hg⟩
  have hb1 : ∀ k, u1.ownBlock = some k → m1 ≤ k ∧ k < m2 := fun k hk => ⟨(RA1.out.1.lt k hk).1, RA1.out.2 k hk⟩
  have HI2 : Hid (Within lo hi w w2) := HI1.out.trans (Within.grown hg (fun k hk => by have := hb1 k hk; omega))
  have HP2 : Hid (Row w2 w.heap.size #[u0, u1, u2, u3] 35) := HP1.out.grown hg (fun e => by have := hb1 _ e; omega)
  have RB2 := hidI (RA2.out.other RA1.out (.inr (Nat.le_refl _)) hg)
  have RB3 := hidI (RA3.out.other RA1.out (.inr (by omega)) hg)
  have RB0 := hidI (RA0.out.other RA1.out (.inl (Nat.le_refl _)) hg)
  clear ho hg RA0 RA1 RA2 RA3 HP1 HI1 hb1 p1 HM1 k1
  have p2 := HP2.out.cell 2 rfl
  have k2 : (((1 + S.l.length + 3 * S.T.length : Nat) : Int)) = 1 + (S.l.length : Int) + 3 * (S.T.length : Int) := by omega
  have HM2 := hidI (markLives_calls (k := 1 + S.l.length + 3 * S.T.length) hn.2.2.1 (by omega) (by omega) w2 RB2.out.1)
  rw [k2] at HM2
  go_wp2_with fail
  refine HM2.out.mono ?_
  rintro e w3 ⟨rfl, ho, hg⟩
  have hb2 : ∀ k, u2.ownBlock = some k → m2 ≤ k ∧ k < m3 := fun k hk => ⟨(RB2.out.1.lt k hk).1, RB2.out.2 k hk⟩
  have HI3 : Hid (Within lo hi w w3) := HI2.out.trans (Within.grown hg (fun k hk => by have := hb2 k hk; omega))
  have HP3 : Hid (Row w3 w.heap.size #[u0, u1, u2, u3] 35) := HP2.out.grown hg (fun e => by have := hb2 _ e; omega)
  have RC3 := hidI (RB3.out.other RB2.out (.inr (Nat.le_refl _)) hg)
  have RC0 := hidI (RB0.out.other RB2.out (.inl (by omega)) hg)
  clear ho hg RB0 RB2 RB3 HP2 HI2 hb2 p2 HM2 k2
  have p3 := HP3.out.cell 3 rfl
  have k3 : (((1 + S.l.length + 3 * S.T.length + 6 * S.L.length : Nat) : Int)) = 1 + (S.l.length : Int) + 3 * (S.T.length : Int) + 6 * (S.L.length : Int) := by omega
  have HM3 := hidI (markCells_calls (k := 1 + S.l.length + 3 * S.T.length + 6 * S.L.length) hn.2.2.2 (by omega) (by omega) w3 RC3.out.1)
  rw [k3] at HM3
  go_wp2_with fail
  refine HM3.out.mono ?_
  rintro e w4 ⟨rfl, ho, hg⟩
  have hb3 : ∀ k, u3.ownBlock = some k → m3 ≤ k ∧ k < hi := fun k hk => ⟨(RC3.out.1.lt k hk).1, RC3.out.2 k hk⟩
  have HI4 : Hid (Within lo hi w w4) := HI3.out.trans (Within.grown hg (fun k hk => by have := hb3 k hk; omega))
  have RD0 := hidI (RC0.out.other RC3.out (.inl (by omega)) hg)
  have HIN : Hid (IntsAt w4 u0 (mkI 1 S.l.length)) := IntsAt.own RD0.out.1 (mkI_len _ _)
  clear ho hg RC0 RC3 HP3 HI3 hb3 p3 HM3 k3 RD0
  go_wp2
  go_ret
  exact ⟨rfl, HIN.out, HI4.out⟩

end Go.Proofs.Ytahdgagipmpcgaa
