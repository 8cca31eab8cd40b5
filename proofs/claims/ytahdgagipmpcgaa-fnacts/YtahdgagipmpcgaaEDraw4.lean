/- An act is drawn, right or not. -/
import Derived.Test.YtahdgagipmpcgaaEDraw3
namespace Go.Proofs.Ytahdgagipmpcgaa
set_option maxRecDepth 100000
set_option linter.unusedVariables false
open Go.RowKit

theorem own_other4 {w : World} {B n g i m : Nat} {e : TypeId} {s : Nat} {gg ca : Nat} {x : Value} {xs : List Value} (h : w.ownsRow B e s (.slice (some ⟨gg, 0, none⟩) m ca) n xs) (hg : gg ≠ g) : (w.setCell ⟨g, i, none⟩ x).ownsRow B e s (.slice (some ⟨gg, 0, none⟩) m ca) n xs := by
  refine h.kept (row := some g) ⟨rfl, rfl, rfl, by simp [World.setCell], fun k hk hne => Below.heap_setCell w _ x k (fun e => hne (by rw [e]))⟩ (.inr ?_)
  simpa [Value.ownBlock] using hg
theorem cells_new2 (w : World) (cs : List Value) (e : TypeId) {g : Nat} (hg : g = w.heap.size) : ∀ j u, cs[j]? = some u → (w.alloc (.cells cs.toArray e)).cell? (Addr.add ⟨g, 0, none⟩ j) = some u := by
  intro j u hj
  subst hg
  rw [addr_add]
  have h : Row (w.alloc (.cells cs.toArray e)) w.heap.size cs.toArray e := row_new _ _ _ rfl
  exact h.cell j (by simpa using hj)

set_option maxHeartbeats 16000000 in
theorem anyD (B p : Nat) (v : Value) (n : Nat) (hn : n ≤ 1048576) (w : World) (hB : B ≤ w.heap.size) (hc : Cur w B p v n) :
    Calls Try.prog 111 #[.pointer (some ⟨p, 0, none⟩)] w fun e w' => ∃ (A : Ac) (g ca : Nat), (0 < A.l.length ∧ A.l.length ≤ 4) ∧ A.o.size ≤ 9 ∧ A.y.size ≤ 9 ∧ e = .returned (A.val (.slice (some ⟨g, 0, none⟩) A.l.length ca)) ∧ w'.ownsRow w.heap.size 3 1 (.slice (some ⟨g, 0, none⟩) A.l.length ca) A.l.length (intV A.l) ∧ Drew w w' B p v n := by
  have hp := hc.lt
  obtain ⟨i0, hi, hz0, hz1, hz2⟩ := info_parts infoInt
  have HPN := hidI (show ∀ (q : Nat), w.heap.size ≤ q → (some p : Option Nat) ≠ some q from fun q hq e => by cases e; omega)
  obtain ⟨W, hW⟩ : ∃ W, W = w.alloc (.cells zAct 75) := ⟨_, rfl⟩
  have HO : Hid (Row W w.heap.size zAct 75) := by rw [hW]; exact row_new w _ _ rfl
  have HD : Hid (Drew w W B p v n) := by rw [hW]; exact (Drew.refl hc).alloc hp hB _
  have hWs : w.heap.size + 1 ≤ W.heap.size := by rw [hW]; simp
  have HW : Hid (w.alloc (.cells zAct 75) = W) := hW.symm
  unfold zAct at HW
  clear hW
  go_enter Try.func111, Try.ntmps111
  go_wp2_with fail
  rw [HW.out]
  clear HW
  refine (belowD 12 (by omega) (by omega) B p v n hn _ HD.out.1).mono ?_
  rintro e w1 ⟨k, rfl, hk, hd⟩
  have s1 := hd.2.size
  replace HO : Hid (Row w1 w.heap.size zAct 75) := HO.out.grown hd.2 (HPN.out _ (Nat.le_refl _))
  replace HD : Hid (Drew w w1 B p v n) := HD.out.trans hd
  clear hd
  go_wp2_with fail
  refine (belowD 60 (by omega) (by omega) B p v n hn _ HD.out.1).mono ?_
  rintro e w2 ⟨y, rfl, hy, hd⟩
  have s2 := hd.2.size
  replace HO : Hid (Row w2 w.heap.size zAct 75) := HO.out.grown hd.2 (HPN.out _ (Nat.le_refl _))
  replace HD : Hid (Drew w w2 B p v n) := HD.out.trans hd
  clear hd
  go_wp2_with fail
  refine (actD B p v n hn _ (by omega) HD.out.1).mono ?_
  rintro e w3 ⟨A, g, ca, hl3, hob, hyb, rfl, ho, hd⟩
  have s3 := hd.2.size
  replace HO : Hid (Row w3 w.heap.size zAct 75) := HO.out.grown hd.2 (HPN.out _ (Nat.le_refl _))
  replace HD : Hid (Drew w w3 B p v n) := HD.out.trans hd
  have HOW := hidI ho
  clear hd ho
  unfold Ac.val
  go_wp2_with fail
  refine (copyA A g ca w3 hl3 (IntsAt.own HOW.out hl3)).mono ?_
  rintro e w4 ⟨g', ca', rfl, ho, hb⟩
  have s4 := hb.size
  have hgb : w3.heap.size ≤ g' := (ho.lt g' rfl).1
  have hgl : g' < w4.heap.size := (ho.lt g' rfl).2
  replace HO : Hid (Row w4 w.heap.size zAct 75) := HO.out.next hb
  replace HD : Hid (Drew w w4 B p v n) := HD.out.call hp hB hb
  clear HOW hb
  unfold Ac.val
  have HW4 := hidI ho
  have hlt4 : w.heap.size < w4.heap.size := by omega
  clear ho
  have hKK : (k : Int) = 0 ∨ (k : Int) = 1 ∨ (k : Int) = 2 ∨ (k : Int) = 3 ∨ (k : Int) = 4 ∨ (k : Int) = 5 ∨ (k : Int) = 6 ∨ 7 ≤ (k : Int) := by omega
  generalize (k : Int) = K at *
  have HY3 : Hid ((y : Int) % 3 = 0 ∨ (y : Int) % 3 = 1 ∨ (y : Int) % 3 = 2) := by show _ ∨ _ ∨ _; omega
  have t3 : (y : Int).tmod 3 = (y : Int) % 3 := Int.tmod_eq_emod_of_nonneg (by omega)
  have t7' : (y : Int).tmod 7 = (y : Int) % 7 := Int.tmod_eq_emod_of_nonneg (by omega)
  have t10 : (y : Int).tmod 10 = (y : Int) % 10 := Int.tmod_eq_emod_of_nonneg (by omega)
  have t4' : (y : Int).tmod 4 = (y : Int) % 4 := Int.tmod_eq_emod_of_nonneg (by omega)
  generalize (y : Int) % 3 = y3 at *
  generalize (y : Int) % 7 = y7 at *
  generalize (y : Int) % 10 = y10 at *
  generalize (y : Int) % 4 = y4 at *
  obtain ⟨o0, o1, o2, o3, o4, o5, o6, o7, o8, o9⟩ := Row.ten HO.out
  obtain ⟨g0, g1, g2, g3, g4, g5, g6, g7, g8, g9⟩ := HO.out.frees
  rcases hKK with rfl | rfl | rfl | rfl | rfl | rfl | rfl | hK7
  · skip
    go_wp2
    rw [show _ = store10 w4 w.heap.size ⟨A.r, y7, A.t, A.k, A.v, A.x, A.z, A.o, A.y, A.l⟩ (.slice (some ⟨g', 0, none⟩) 3 ca') from store10_eq w4 w.heap.size ⟨A.r, y7, A.t, A.k, A.v, A.x, A.z, A.o, A.y, A.l⟩ (.slice (some ⟨g', 0, none⟩) 3 ca')]
    exact bodyPost_ret (ret_act rfl rfl ((show ActAt (store10 w4 w.heap.size ⟨A.r, y7, A.t, A.k, A.v, A.x, A.z, A.o, A.y, A.l⟩ (.slice (some ⟨g', 0, none⟩) 3 ca')) w.heap.size ⟨A.r, y7, A.t, A.k, A.v, A.x, A.z, A.o, A.y, A.l⟩ (.slice (some ⟨g', 0, none⟩) 3 ca') from store10_at HO.out ⟨A.r, y7, A.t, A.k, A.v, A.x, A.z, A.o, A.y, A.l⟩ _).alloc _)) rfl ⟨⟨A.r, y7, A.t, A.k, A.v, A.x, A.z, A.o, A.y, A.l⟩, g', ca', by show 0 < A.l.length ∧ A.l.length ≤ 4; omega, hob, hyb, by show _ = Ending.returned (Ac.val ⟨A.r, y7, A.t, A.k, A.v, A.x, A.z, A.o, A.y, A.l⟩ (.slice (some ⟨g', 0, none⟩) A.l.length ca')); rw [hl3], by show World.ownsRow _ _ _ _ (.slice (some ⟨g', 0, none⟩) A.l.length ca') A.l.length (intV A.l); rw [hl3]; exact own_base ((own_store10 HW4.out (by omega) ⟨A.r, y7, A.t, A.k, A.v, A.x, A.z, A.o, A.y, A.l⟩ _).alloc _) (by omega), (store10_drew HD.out hp hB (Nat.le_refl _) ⟨A.r, y7, A.t, A.k, A.v, A.x, A.z, A.o, A.y, A.l⟩ _).alloc hp hB _⟩
  · rcases HY3.out with rfl | rfl | rfl
    · skip
      go_wp2
      rw [show _ = store10 w4 w.heap.size ⟨A.r, A.s, 0, A.k, A.v, A.x, A.z, A.o, A.y, A.l⟩ (.slice (some ⟨g', 0, none⟩) 3 ca') from store10_eq w4 w.heap.size ⟨A.r, A.s, 0, A.k, A.v, A.x, A.z, A.o, A.y, A.l⟩ (.slice (some ⟨g', 0, none⟩) 3 ca')]
      exact bodyPost_ret (ret_act rfl rfl (((show ActAt (store10 w4 w.heap.size ⟨A.r, A.s, 0, A.k, A.v, A.x, A.z, A.o, A.y, A.l⟩ (.slice (some ⟨g', 0, none⟩) 3 ca')) w.heap.size ⟨A.r, A.s, 0, A.k, A.v, A.x, A.z, A.o, A.y, A.l⟩ (.slice (some ⟨g', 0, none⟩) 3 ca') from store10_at HO.out ⟨A.r, A.s, 0, A.k, A.v, A.x, A.z, A.o, A.y, A.l⟩ _).alloc _).alloc _)) rfl ⟨⟨A.r, A.s, 0, A.k, A.v, A.x, A.z, A.o, A.y, A.l⟩, g', ca', by show 0 < A.l.length ∧ A.l.length ≤ 4; omega, hob, hyb, by show _ = Ending.returned (Ac.val ⟨A.r, A.s, 0, A.k, A.v, A.x, A.z, A.o, A.y, A.l⟩ (.slice (some ⟨g', 0, none⟩) A.l.length ca')); rw [hl3], by show World.ownsRow _ _ _ _ (.slice (some ⟨g', 0, none⟩) A.l.length ca') A.l.length (intV A.l); rw [hl3]; exact own_base (((own_store10 HW4.out (by omega) ⟨A.r, A.s, 0, A.k, A.v, A.x, A.z, A.o, A.y, A.l⟩ _).alloc _).alloc _) (by omega), ((store10_drew HD.out hp hB (Nat.le_refl _) ⟨A.r, A.s, 0, A.k, A.v, A.x, A.z, A.o, A.y, A.l⟩ _).alloc hp hB _).alloc hp hB _⟩
    · skip
      go_wp2
      rw [show _ = store10 w4 w.heap.size ⟨A.r, A.s, 10000, A.k, A.v, A.x, A.z, A.o, A.y, A.l⟩ (.slice (some ⟨g', 0, none⟩) 3 ca') from store10_eq w4 w.heap.size ⟨A.r, A.s, 10000, A.k, A.v, A.x, A.z, A.o, A.y, A.l⟩ (.slice (some ⟨g', 0, none⟩) 3 ca')]
      exact bodyPost_ret (ret_act rfl rfl (((show ActAt (store10 w4 w.heap.size ⟨A.r, A.s, 10000, A.k, A.v, A.x, A.z, A.o, A.y, A.l⟩ (.slice (some ⟨g', 0, none⟩) 3 ca')) w.heap.size ⟨A.r, A.s, 10000, A.k, A.v, A.x, A.z, A.o, A.y, A.l⟩ (.slice (some ⟨g', 0, none⟩) 3 ca') from store10_at HO.out ⟨A.r, A.s, 10000, A.k, A.v, A.x, A.z, A.o, A.y, A.l⟩ _).alloc _).alloc _)) rfl ⟨⟨A.r, A.s, 10000, A.k, A.v, A.x, A.z, A.o, A.y, A.l⟩, g', ca', by show 0 < A.l.length ∧ A.l.length ≤ 4; omega, hob, hyb, by show _ = Ending.returned (Ac.val ⟨A.r, A.s, 10000, A.k, A.v, A.x, A.z, A.o, A.y, A.l⟩ (.slice (some ⟨g', 0, none⟩) A.l.length ca')); rw [hl3], by show World.ownsRow _ _ _ _ (.slice (some ⟨g', 0, none⟩) A.l.length ca') A.l.length (intV A.l); rw [hl3]; exact own_base (((own_store10 HW4.out (by omega) ⟨A.r, A.s, 10000, A.k, A.v, A.x, A.z, A.o, A.y, A.l⟩ _).alloc _).alloc _) (by omega), ((store10_drew HD.out hp hB (Nat.le_refl _) ⟨A.r, A.s, 10000, A.k, A.v, A.x, A.z, A.o, A.y, A.l⟩ _).alloc hp hB _).alloc hp hB _⟩
    · skip
      go_wp2
      rw [show _ = store10 w4 w.heap.size ⟨A.r, A.s, 10001, A.k, A.v, A.x, A.z, A.o, A.y, A.l⟩ (.slice (some ⟨g', 0, none⟩) 3 ca') from store10_eq w4 w.heap.size ⟨A.r, A.s, 10001, A.k, A.v, A.x, A.z, A.o, A.y, A.l⟩ (.slice (some ⟨g', 0, none⟩) 3 ca')]
      exact bodyPost_ret (ret_act rfl rfl (((show ActAt (store10 w4 w.heap.size ⟨A.r, A.s, 10001, A.k, A.v, A.x, A.z, A.o, A.y, A.l⟩ (.slice (some ⟨g', 0, none⟩) 3 ca')) w.heap.size ⟨A.r, A.s, 10001, A.k, A.v, A.x, A.z, A.o, A.y, A.l⟩ (.slice (some ⟨g', 0, none⟩) 3 ca') from store10_at HO.out ⟨A.r, A.s, 10001, A.k, A.v, A.x, A.z, A.o, A.y, A.l⟩ _).alloc _).alloc _)) rfl ⟨⟨A.r, A.s, 10001, A.k, A.v, A.x, A.z, A.o, A.y, A.l⟩, g', ca', by show 0 < A.l.length ∧ A.l.length ≤ 4; omega, hob, hyb, by show _ = Ending.returned (Ac.val ⟨A.r, A.s, 10001, A.k, A.v, A.x, A.z, A.o, A.y, A.l⟩ (.slice (some ⟨g', 0, none⟩) A.l.length ca')); rw [hl3], by show World.ownsRow _ _ _ _ (.slice (some ⟨g', 0, none⟩) A.l.length ca') A.l.length (intV A.l); rw [hl3]; exact own_base (((own_store10 HW4.out (by omega) ⟨A.r, A.s, 10001, A.k, A.v, A.x, A.z, A.o, A.y, A.l⟩ _).alloc _).alloc _) (by omega), ((store10_drew HD.out hp hB (Nat.le_refl _) ⟨A.r, A.s, 10001, A.k, A.v, A.x, A.z, A.o, A.y, A.l⟩ _).alloc hp hB _).alloc hp hB _⟩
  · skip
    go_wp2
    rw [show _ = store10 w4 w.heap.size ⟨A.r, A.s, A.t, y10, A.v, A.x, A.z, A.o, A.y, A.l⟩ (.slice (some ⟨g', 0, none⟩) 3 ca') from store10_eq w4 w.heap.size ⟨A.r, A.s, A.t, y10, A.v, A.x, A.z, A.o, A.y, A.l⟩ (.slice (some ⟨g', 0, none⟩) 3 ca')]
    exact bodyPost_ret (ret_act rfl rfl ((show ActAt (store10 w4 w.heap.size ⟨A.r, A.s, A.t, y10, A.v, A.x, A.z, A.o, A.y, A.l⟩ (.slice (some ⟨g', 0, none⟩) 3 ca')) w.heap.size ⟨A.r, A.s, A.t, y10, A.v, A.x, A.z, A.o, A.y, A.l⟩ (.slice (some ⟨g', 0, none⟩) 3 ca') from store10_at HO.out ⟨A.r, A.s, A.t, y10, A.v, A.x, A.z, A.o, A.y, A.l⟩ _).alloc _)) rfl ⟨⟨A.r, A.s, A.t, y10, A.v, A.x, A.z, A.o, A.y, A.l⟩, g', ca', by show 0 < A.l.length ∧ A.l.length ≤ 4; omega, hob, hyb, by show _ = Ending.returned (Ac.val ⟨A.r, A.s, A.t, y10, A.v, A.x, A.z, A.o, A.y, A.l⟩ (.slice (some ⟨g', 0, none⟩) A.l.length ca')); rw [hl3], by show World.ownsRow _ _ _ _ (.slice (some ⟨g', 0, none⟩) A.l.length ca') A.l.length (intV A.l); rw [hl3]; exact own_base ((own_store10 HW4.out (by omega) ⟨A.r, A.s, A.t, y10, A.v, A.x, A.z, A.o, A.y, A.l⟩ _).alloc _) (by omega), (store10_drew HD.out hp hB (Nat.le_refl _) ⟨A.r, A.s, A.t, y10, A.v, A.x, A.z, A.o, A.y, A.l⟩ _).alloc hp hB _⟩
  · rcases HY3.out with rfl | rfl | rfl
    · skip
      go_wp2
      rw [show _ = store10 w4 w.heap.size ⟨A.r, A.s, A.t, A.k, A.v, A.x, A.z, A.o, { data := #[] }, A.l⟩ (.slice (some ⟨g', 0, none⟩) 3 ca') from store10_eq w4 w.heap.size ⟨A.r, A.s, A.t, A.k, A.v, A.x, A.z, A.o, { data := #[] }, A.l⟩ (.slice (some ⟨g', 0, none⟩) 3 ca')]
      exact bodyPost_ret (ret_act rfl rfl (((show ActAt (store10 w4 w.heap.size ⟨A.r, A.s, A.t, A.k, A.v, A.x, A.z, A.o, { data := #[] }, A.l⟩ (.slice (some ⟨g', 0, none⟩) 3 ca')) w.heap.size ⟨A.r, A.s, A.t, A.k, A.v, A.x, A.z, A.o, { data := #[] }, A.l⟩ (.slice (some ⟨g', 0, none⟩) 3 ca') from store10_at HO.out ⟨A.r, A.s, A.t, A.k, A.v, A.x, A.z, A.o, { data := #[] }, A.l⟩ _).alloc _).alloc _)) rfl ⟨⟨A.r, A.s, A.t, A.k, A.v, A.x, A.z, A.o, { data := #[] }, A.l⟩, g', ca', by show 0 < A.l.length ∧ A.l.length ≤ 4; omega, hob, (by show ByteArray.size { data := #[] } ≤ 9; decide), by show _ = Ending.returned (Ac.val ⟨A.r, A.s, A.t, A.k, A.v, A.x, A.z, A.o, { data := #[] }, A.l⟩ (.slice (some ⟨g', 0, none⟩) A.l.length ca')); rw [hl3], by show World.ownsRow _ _ _ _ (.slice (some ⟨g', 0, none⟩) A.l.length ca') A.l.length (intV A.l); rw [hl3]; exact own_base (((own_store10 HW4.out (by omega) ⟨A.r, A.s, A.t, A.k, A.v, A.x, A.z, A.o, { data := #[] }, A.l⟩ _).alloc _).alloc _) (by omega), ((store10_drew HD.out hp hB (Nat.le_refl _) ⟨A.r, A.s, A.t, A.k, A.v, A.x, A.z, A.o, { data := #[] }, A.l⟩ _).alloc hp hB _).alloc hp hB _⟩
    · skip
      go_wp2
      rw [show _ = store10 w4 w.heap.size ⟨A.r, A.s, A.t, A.k, A.v, A.x, A.z, A.o, { data := #[120] }, A.l⟩ (.slice (some ⟨g', 0, none⟩) 3 ca') from store10_eq w4 w.heap.size ⟨A.r, A.s, A.t, A.k, A.v, A.x, A.z, A.o, { data := #[120] }, A.l⟩ (.slice (some ⟨g', 0, none⟩) 3 ca')]
      exact bodyPost_ret (ret_act rfl rfl (((show ActAt (store10 w4 w.heap.size ⟨A.r, A.s, A.t, A.k, A.v, A.x, A.z, A.o, { data := #[120] }, A.l⟩ (.slice (some ⟨g', 0, none⟩) 3 ca')) w.heap.size ⟨A.r, A.s, A.t, A.k, A.v, A.x, A.z, A.o, { data := #[120] }, A.l⟩ (.slice (some ⟨g', 0, none⟩) 3 ca') from store10_at HO.out ⟨A.r, A.s, A.t, A.k, A.v, A.x, A.z, A.o, { data := #[120] }, A.l⟩ _).alloc _).alloc _)) rfl ⟨⟨A.r, A.s, A.t, A.k, A.v, A.x, A.z, A.o, { data := #[120] }, A.l⟩, g', ca', by show 0 < A.l.length ∧ A.l.length ≤ 4; omega, hob, (by show ByteArray.size { data := #[120] } ≤ 9; decide), by show _ = Ending.returned (Ac.val ⟨A.r, A.s, A.t, A.k, A.v, A.x, A.z, A.o, { data := #[120] }, A.l⟩ (.slice (some ⟨g', 0, none⟩) A.l.length ca')); rw [hl3], by show World.ownsRow _ _ _ _ (.slice (some ⟨g', 0, none⟩) A.l.length ca') A.l.length (intV A.l); rw [hl3]; exact own_base (((own_store10 HW4.out (by omega) ⟨A.r, A.s, A.t, A.k, A.v, A.x, A.z, A.o, { data := #[120] }, A.l⟩ _).alloc _).alloc _) (by omega), ((store10_drew HD.out hp hB (Nat.le_refl _) ⟨A.r, A.s, A.t, A.k, A.v, A.x, A.z, A.o, { data := #[120] }, A.l⟩ _).alloc hp hB _).alloc hp hB _⟩
    · skip
      go_wp2
      rw [show _ = store10 w4 w.heap.size ⟨A.r, A.s, A.t, A.k, A.v, A.x, A.z, A.o, { data := #[88] }, A.l⟩ (.slice (some ⟨g', 0, none⟩) 3 ca') from store10_eq w4 w.heap.size ⟨A.r, A.s, A.t, A.k, A.v, A.x, A.z, A.o, { data := #[88] }, A.l⟩ (.slice (some ⟨g', 0, none⟩) 3 ca')]
      exact bodyPost_ret (ret_act rfl rfl (((show ActAt (store10 w4 w.heap.size ⟨A.r, A.s, A.t, A.k, A.v, A.x, A.z, A.o, { data := #[88] }, A.l⟩ (.slice (some ⟨g', 0, none⟩) 3 ca')) w.heap.size ⟨A.r, A.s, A.t, A.k, A.v, A.x, A.z, A.o, { data := #[88] }, A.l⟩ (.slice (some ⟨g', 0, none⟩) 3 ca') from store10_at HO.out ⟨A.r, A.s, A.t, A.k, A.v, A.x, A.z, A.o, { data := #[88] }, A.l⟩ _).alloc _).alloc _)) rfl ⟨⟨A.r, A.s, A.t, A.k, A.v, A.x, A.z, A.o, { data := #[88] }, A.l⟩, g', ca', by show 0 < A.l.length ∧ A.l.length ≤ 4; omega, hob, (by show ByteArray.size { data := #[88] } ≤ 9; decide), by show _ = Ending.returned (Ac.val ⟨A.r, A.s, A.t, A.k, A.v, A.x, A.z, A.o, { data := #[88] }, A.l⟩ (.slice (some ⟨g', 0, none⟩) A.l.length ca')); rw [hl3], by show World.ownsRow _ _ _ _ (.slice (some ⟨g', 0, none⟩) A.l.length ca') A.l.length (intV A.l); rw [hl3]; exact own_base (((own_store10 HW4.out (by omega) ⟨A.r, A.s, A.t, A.k, A.v, A.x, A.z, A.o, { data := #[88] }, A.l⟩ _).alloc _).alloc _) (by omega), ((store10_drew HD.out hp hB (Nat.le_refl _) ⟨A.r, A.s, A.t, A.k, A.v, A.x, A.z, A.o, { data := #[88] }, A.l⟩ _).alloc hp hB _).alloc hp hB _⟩
  · rcases HY3.out with rfl | rfl | rfl
    · skip
      go_wp2
      rw [show _ = store10 w4 w.heap.size ⟨A.r, A.s, A.t, A.k, (-1), A.x, A.z, A.o, A.y, A.l⟩ (.slice (some ⟨g', 0, none⟩) 3 ca') from store10_eq w4 w.heap.size ⟨A.r, A.s, A.t, A.k, (-1), A.x, A.z, A.o, A.y, A.l⟩ (.slice (some ⟨g', 0, none⟩) 3 ca')]
      exact bodyPost_ret (ret_act rfl rfl (((show ActAt (store10 w4 w.heap.size ⟨A.r, A.s, A.t, A.k, (-1), A.x, A.z, A.o, A.y, A.l⟩ (.slice (some ⟨g', 0, none⟩) 3 ca')) w.heap.size ⟨A.r, A.s, A.t, A.k, (-1), A.x, A.z, A.o, A.y, A.l⟩ (.slice (some ⟨g', 0, none⟩) 3 ca') from store10_at HO.out ⟨A.r, A.s, A.t, A.k, (-1), A.x, A.z, A.o, A.y, A.l⟩ _).alloc _).alloc _)) rfl ⟨⟨A.r, A.s, A.t, A.k, (-1), A.x, A.z, A.o, A.y, A.l⟩, g', ca', by show 0 < A.l.length ∧ A.l.length ≤ 4; omega, hob, hyb, by show _ = Ending.returned (Ac.val ⟨A.r, A.s, A.t, A.k, (-1), A.x, A.z, A.o, A.y, A.l⟩ (.slice (some ⟨g', 0, none⟩) A.l.length ca')); rw [hl3], by show World.ownsRow _ _ _ _ (.slice (some ⟨g', 0, none⟩) A.l.length ca') A.l.length (intV A.l); rw [hl3]; exact own_base (((own_store10 HW4.out (by omega) ⟨A.r, A.s, A.t, A.k, (-1), A.x, A.z, A.o, A.y, A.l⟩ _).alloc _).alloc _) (by omega), ((store10_drew HD.out hp hB (Nat.le_refl _) ⟨A.r, A.s, A.t, A.k, (-1), A.x, A.z, A.o, A.y, A.l⟩ _).alloc hp hB _).alloc hp hB _⟩
    · skip
      go_wp2
      rw [show _ = store10 w4 w.heap.size ⟨A.r, A.s, A.t, A.k, 5, A.x, A.z, A.o, A.y, A.l⟩ (.slice (some ⟨g', 0, none⟩) 3 ca') from store10_eq w4 w.heap.size ⟨A.r, A.s, A.t, A.k, 5, A.x, A.z, A.o, A.y, A.l⟩ (.slice (some ⟨g', 0, none⟩) 3 ca')]
      exact bodyPost_ret (ret_act rfl rfl (((show ActAt (store10 w4 w.heap.size ⟨A.r, A.s, A.t, A.k, 5, A.x, A.z, A.o, A.y, A.l⟩ (.slice (some ⟨g', 0, none⟩) 3 ca')) w.heap.size ⟨A.r, A.s, A.t, A.k, 5, A.x, A.z, A.o, A.y, A.l⟩ (.slice (some ⟨g', 0, none⟩) 3 ca') from store10_at HO.out ⟨A.r, A.s, A.t, A.k, 5, A.x, A.z, A.o, A.y, A.l⟩ _).alloc _).alloc _)) rfl ⟨⟨A.r, A.s, A.t, A.k, 5, A.x, A.z, A.o, A.y, A.l⟩, g', ca', by show 0 < A.l.length ∧ A.l.length ≤ 4; omega, hob, hyb, by show _ = Ending.returned (Ac.val ⟨A.r, A.s, A.t, A.k, 5, A.x, A.z, A.o, A.y, A.l⟩ (.slice (some ⟨g', 0, none⟩) A.l.length ca')); rw [hl3], by show World.ownsRow _ _ _ _ (.slice (some ⟨g', 0, none⟩) A.l.length ca') A.l.length (intV A.l); rw [hl3]; exact own_base (((own_store10 HW4.out (by omega) ⟨A.r, A.s, A.t, A.k, 5, A.x, A.z, A.o, A.y, A.l⟩ _).alloc _).alloc _) (by omega), ((store10_drew HD.out hp hB (Nat.le_refl _) ⟨A.r, A.s, A.t, A.k, 5, A.x, A.z, A.o, A.y, A.l⟩ _).alloc hp hB _).alloc hp hB _⟩
    · skip
      go_wp2
      rw [show _ = store10 w4 w.heap.size ⟨A.r, A.s, A.t, A.k, 1000000, A.x, A.z, A.o, A.y, A.l⟩ (.slice (some ⟨g', 0, none⟩) 3 ca') from store10_eq w4 w.heap.size ⟨A.r, A.s, A.t, A.k, 1000000, A.x, A.z, A.o, A.y, A.l⟩ (.slice (some ⟨g', 0, none⟩) 3 ca')]
      exact bodyPost_ret (ret_act rfl rfl (((show ActAt (store10 w4 w.heap.size ⟨A.r, A.s, A.t, A.k, 1000000, A.x, A.z, A.o, A.y, A.l⟩ (.slice (some ⟨g', 0, none⟩) 3 ca')) w.heap.size ⟨A.r, A.s, A.t, A.k, 1000000, A.x, A.z, A.o, A.y, A.l⟩ (.slice (some ⟨g', 0, none⟩) 3 ca') from store10_at HO.out ⟨A.r, A.s, A.t, A.k, 1000000, A.x, A.z, A.o, A.y, A.l⟩ _).alloc _).alloc _)) rfl ⟨⟨A.r, A.s, A.t, A.k, 1000000, A.x, A.z, A.o, A.y, A.l⟩, g', ca', by show 0 < A.l.length ∧ A.l.length ≤ 4; omega, hob, hyb, by show _ = Ending.returned (Ac.val ⟨A.r, A.s, A.t, A.k, 1000000, A.x, A.z, A.o, A.y, A.l⟩ (.slice (some ⟨g', 0, none⟩) A.l.length ca')); rw [hl3], by show World.ownsRow _ _ _ _ (.slice (some ⟨g', 0, none⟩) A.l.length ca') A.l.length (intV A.l); rw [hl3]; exact own_base (((own_store10 HW4.out (by omega) ⟨A.r, A.s, A.t, A.k, 1000000, A.x, A.z, A.o, A.y, A.l⟩ _).alloc _).alloc _) (by omega), ((store10_drew HD.out hp hB (Nat.le_refl _) ⟨A.r, A.s, A.t, A.k, 1000000, A.x, A.z, A.o, A.y, A.l⟩ _).alloc hp hB _).alloc hp hB _⟩
  · skip
    go_wp2
    rw [show _ = store10 w4 w.heap.size ⟨A.r, A.s, A.t, A.k, A.v, y4, y3, A.o, A.y, A.l⟩ (.slice (some ⟨g', 0, none⟩) 3 ca') from store10_eq w4 w.heap.size ⟨A.r, A.s, A.t, A.k, A.v, y4, y3, A.o, A.y, A.l⟩ (.slice (some ⟨g', 0, none⟩) 3 ca')]
    exact bodyPost_ret (ret_act rfl rfl ((show ActAt (store10 w4 w.heap.size ⟨A.r, A.s, A.t, A.k, A.v, y4, y3, A.o, A.y, A.l⟩ (.slice (some ⟨g', 0, none⟩) 3 ca')) w.heap.size ⟨A.r, A.s, A.t, A.k, A.v, y4, y3, A.o, A.y, A.l⟩ (.slice (some ⟨g', 0, none⟩) 3 ca') from store10_at HO.out ⟨A.r, A.s, A.t, A.k, A.v, y4, y3, A.o, A.y, A.l⟩ _).alloc _)) rfl ⟨⟨A.r, A.s, A.t, A.k, A.v, y4, y3, A.o, A.y, A.l⟩, g', ca', by show 0 < A.l.length ∧ A.l.length ≤ 4; omega, hob, hyb, by show _ = Ending.returned (Ac.val ⟨A.r, A.s, A.t, A.k, A.v, y4, y3, A.o, A.y, A.l⟩ (.slice (some ⟨g', 0, none⟩) A.l.length ca')); rw [hl3], by show World.ownsRow _ _ _ _ (.slice (some ⟨g', 0, none⟩) A.l.length ca') A.l.length (intV A.l); rw [hl3]; exact own_base ((own_store10 HW4.out (by omega) ⟨A.r, A.s, A.t, A.k, A.v, y4, y3, A.o, A.y, A.l⟩ _).alloc _) (by omega), (store10_drew HD.out hp hB (Nat.le_refl _) ⟨A.r, A.s, A.t, A.k, A.v, y4, y3, A.o, A.y, A.l⟩ _).alloc hp hB _⟩
  · have HOWN : Hid (((w4.alloc (.cells #[.int .i64 A.r, .int .i64 A.s, .int .i64 A.t, .slice (some ⟨g', 0, none⟩) 3 ca', .int .i64 A.k, .string A.o, .string A.y, .int .i64 A.v, .int .i64 A.x, .int .i64 A.z] 75)).alloc (.cells #[.int .i64 1] 3)).ownsRow w3.heap.size 3 1 (.slice (some ⟨g', 0, none⟩) 3 ca') 3 (intV A.l)) := (HW4.out.alloc _).alloc _
    have HNN : Hid (∀ j u, [Value.int .i64 1][j]? = some u → ((w4.alloc (.cells #[.int .i64 A.r, .int .i64 A.s, .int .i64 A.t, .slice (some ⟨g', 0, none⟩) 3 ca', .int .i64 A.k, .string A.o, .string A.y, .int .i64 A.v, .int .i64 A.x, .int .i64 A.z] 75)).alloc (.cells #[.int .i64 1] 3)).cell? (Addr.add ⟨w4.heap.size + 1, 0, none⟩ j) = some u) := cells_new2 (w4.alloc (.cells #[.int .i64 A.r, .int .i64 A.s, .int .i64 A.t, .slice (some ⟨g', 0, none⟩) 3 ca', .int .i64 A.k, .string A.o, .string A.y, .int .i64 A.v, .int .i64 A.x, .int .i64 A.z] 75)) [Value.int .i64 1] 3 (by simp)
    have hT : Row ((w4.alloc (.cells #[.int .i64 A.r, .int .i64 A.s, .int .i64 A.t, .slice (some ⟨g', 0, none⟩) 3 ca', .int .i64 A.k, .string A.o, .string A.y, .int .i64 A.v, .int .i64 A.x, .int .i64 A.z] 75)).alloc (.cells #[.int .i64 1] 3)) w4.heap.size #[.int .i64 A.r, .int .i64 A.s, .int .i64 A.t, .slice (some ⟨g', 0, none⟩) 3 ca', .int .i64 A.k, .string A.o, .string A.y, .int .i64 A.v, .int .i64 A.x, .int .i64 A.z] 75 := (row_new _ _ _ rfl).alloc _
    have hO : Row ((w4.alloc (.cells #[.int .i64 A.r, .int .i64 A.s, .int .i64 A.t, .slice (some ⟨g', 0, none⟩) 3 ca', .int .i64 A.k, .string A.o, .string A.y, .int .i64 A.v, .int .i64 A.x, .int .i64 A.z] 75)).alloc (.cells #[.int .i64 1] 3)) w.heap.size zAct 75 := (HO.out.alloc _).alloc _
    have hDD : Drew w ((w4.alloc (.cells #[.int .i64 A.r, .int .i64 A.s, .int .i64 A.t, .slice (some ⟨g', 0, none⟩) 3 ca', .int .i64 A.k, .string A.o, .string A.y, .int .i64 A.v, .int .i64 A.x, .int .i64 A.z] 75)).alloc (.cells #[.int .i64 1] 3)) B p v n := (HD.out.alloc hp hB _).alloc hp hB _
    have HTX := hidI hT
    have HOX := hidI hO
    have HDX := hidI hDD
    clear hT hO hDD
    go_wp2_with (at_builtin; refine wpList_append_own _ rfl _ _ 22 rfl w3.heap.size 3 i0 (.int .i64 0) 1 8 Try.underlying22 hi hz0 hz1 hz2 rfl (by decide) _ _ _ rfl HOWN.out ⟨w4.heap.size + 1, 0, none⟩ 1 1 [Value.int .i64 1] rfl rfl HNN.out (by intro u' hu'; simp at hu'; subst hu'; rfl) (by unfold maxLen; omega) (by omega) (by simp; omega) ?_)
    intro v2 w5 ho5 hgr hne
    have HT5 : Hid (Row w5 w4.heap.size #[.int .i64 A.r, .int .i64 A.s, .int .i64 A.t, .slice (some ⟨g', 0, none⟩) 3 ca', .int .i64 A.k, .string A.o, .string A.y, .int .i64 A.v, .int .i64 A.x, .int .i64 A.z] 75) := HTX.out.grown hgr (by simp [Value.ownBlock]; omega)
    have HO5 : Hid (Row w5 w.heap.size zAct 75) := HOX.out.grown hgr (by simp [Value.ownBlock]; omega)
    have HD5 : Hid (Drew w w5 B p v n) := HDX.out.kept hp hB hgr (fun k hk => by simp [Value.ownBlock] at hk; omega)
    have e4 : intV (A.l ++ [1]) = intV A.l ++ [Value.int .i64 1] := by simp [intV]
    have hl4 : (A.l ++ [1]).length = 4 := by simp [hl3]
    rw [← e4] at ho5
    obtain ⟨aa, ac, hv, hgg⟩ := IntsAt.own (l := A.l ++ [1]) (n := 3 + 1) ho5 hl4
    rw [hl4] at hv
    obtain ⟨gN, rfl, -, -⟩ := hgg (by omega)
    subst hv
    have hg5b : w3.heap.size ≤ gN := (ho5.lt gN rfl).1
    have HW5 : Hid (w5.ownsRow w3.heap.size 3 1 (.slice (some ⟨gN, 0, none⟩) 4 ac) 4 (intV (A.l ++ [1]))) := ho5
    have hg5n : gN ≠ w4.heap.size := fun e => by
      have h1 := HT5.out
      rcases ho5.2 with ⟨h0, -⟩ | ⟨gq, cap, cur, hv, -, hg, -⟩
      · cases h0
      · simp only [Value.slice.injEq, Option.some.injEq, Addr.mk.injEq] at hv
        obtain ⟨⟨rfl, -⟩, -⟩ := hv
        unfold Row at h1
        rw [← e, hg] at h1
        simp only [Option.some.injEq, Obj.cells.injEq] at h1
        exact absurd h1.2.1 (by decide)
    have hg5m : gN ≠ w.heap.size := by omega
    clear hgg ho5 hgr hne HOWN HNN HTX HOX HDX e4
    clear o0 g0 o1 g1 o2 g2 o3 g3 o4 g4 o5 g5 o6 g6 o7 g7 o8 g8 o9 g9
    obtain ⟨t0, t1, t2, t3, t4, t5, t6, t7, t8, t9⟩ := Row.ten HT5.out
    have f3 := HT5.out.free 3
    obtain ⟨o0, o1, o2, o3, o4, o5, o6, o7, o8, o9⟩ := Row.ten HO5.out
    obtain ⟨g0, g1, g2, g3, g4, g5, g6, g7, g8, g9⟩ := HO5.out.frees
    go_wp2
    rw [show _ = store10 (w5.setCell ⟨w4.heap.size, 3, none⟩ (.slice (some ⟨gN, 0, none⟩) 4 ac)) w.heap.size ⟨A.r, A.s, A.t, A.k, A.v, A.x, A.z, A.o, A.y, (A.l ++ [1])⟩ (.slice (some ⟨gN, 0, none⟩) 4 ac) from store10_eq _ w.heap.size ⟨A.r, A.s, A.t, A.k, A.v, A.x, A.z, A.o, A.y, (A.l ++ [1])⟩ (.slice (some ⟨gN, 0, none⟩) 4 ac)]
    have HR := HO5.out.other (p := ⟨w4.heap.size, 3, none⟩) (by simp; omega) (.slice (some ⟨gN, 0, none⟩) 4 ac)
    have HDr := HD5.out.set (b := w4.heap.size) hp hB (by omega) 3 (.slice (some ⟨gN, 0, none⟩) 4 ac)
    have HOr := own_other4 (i := 3) (x := .slice (some ⟨gN, 0, none⟩) 4 ac) HW5.out hg5n
    generalize w5.setCell ⟨w4.heap.size, 3, none⟩ (.slice (some ⟨gN, 0, none⟩) 4 ac) = w6 at *
    have HZ : ActAt (store10 w6 w.heap.size ⟨A.r, A.s, A.t, A.k, A.v, A.x, A.z, A.o, A.y, (A.l ++ [1])⟩ (.slice (some ⟨gN, 0, none⟩) 4 ac)) w.heap.size ⟨A.r, A.s, A.t, A.k, A.v, A.x, A.z, A.o, A.y, (A.l ++ [1])⟩ (.slice (some ⟨gN, 0, none⟩) 4 ac) := store10_at HR ⟨A.r, A.s, A.t, A.k, A.v, A.x, A.z, A.o, A.y, (A.l ++ [1])⟩ _
    exact bodyPost_ret (ret_act rfl rfl HZ) rfl ⟨⟨A.r, A.s, A.t, A.k, A.v, A.x, A.z, A.o, A.y, (A.l ++ [1])⟩, gN, ac, by show 0 < (A.l ++ [1]).length ∧ (A.l ++ [1]).length ≤ 4; omega, hob, hyb, by show _ = Ending.returned (Ac.val ⟨A.r, A.s, A.t, A.k, A.v, A.x, A.z, A.o, A.y, (A.l ++ [1])⟩ (.slice (some ⟨gN, 0, none⟩) (A.l ++ [1]).length ac)); rw [hl4], by show World.ownsRow _ _ _ _ (.slice (some ⟨gN, 0, none⟩) (A.l ++ [1]).length ac) (A.l ++ [1]).length (intV (A.l ++ [1])); rw [hl4]; exact own_base (own_store10 HOr (by omega) ⟨A.r, A.s, A.t, A.k, A.v, A.x, A.z, A.o, A.y, (A.l ++ [1])⟩ _) (by omega), store10_drew HDr hp hB (Nat.le_refl _) ⟨A.r, A.s, A.t, A.k, A.v, A.x, A.z, A.o, A.y, (A.l ++ [1])⟩ _⟩
  · have n0 : (K == 0) = false := by simp; omega
    have n1 : (K == 1) = false := by simp; omega
    have n2 : (K == 2) = false := by simp; omega
    have n3 : (K == 3) = false := by simp; omega
    have n4 : (K == 4) = false := by simp; omega
    have n5 : (K == 5) = false := by simp; omega
    have n6 : (K == 6) = false := by simp; omega
    go_wp2
    rw [show _ = store10 w4 w.heap.size ⟨A.r, A.s, A.t, A.k, A.v, A.x, A.z, A.o, A.y, A.l⟩ (.slice (some ⟨g', 0, none⟩) 3 ca') from store10_eq w4 w.heap.size ⟨A.r, A.s, A.t, A.k, A.v, A.x, A.z, A.o, A.y, A.l⟩ (.slice (some ⟨g', 0, none⟩) 3 ca')]
    exact bodyPost_ret (ret_act rfl rfl ((show ActAt (store10 w4 w.heap.size ⟨A.r, A.s, A.t, A.k, A.v, A.x, A.z, A.o, A.y, A.l⟩ (.slice (some ⟨g', 0, none⟩) 3 ca')) w.heap.size ⟨A.r, A.s, A.t, A.k, A.v, A.x, A.z, A.o, A.y, A.l⟩ (.slice (some ⟨g', 0, none⟩) 3 ca') from store10_at HO.out ⟨A.r, A.s, A.t, A.k, A.v, A.x, A.z, A.o, A.y, A.l⟩ _).alloc _)) rfl ⟨⟨A.r, A.s, A.t, A.k, A.v, A.x, A.z, A.o, A.y, A.l⟩, g', ca', by show 0 < A.l.length ∧ A.l.length ≤ 4; omega, hob, hyb, by show _ = Ending.returned (Ac.val ⟨A.r, A.s, A.t, A.k, A.v, A.x, A.z, A.o, A.y, A.l⟩ (.slice (some ⟨g', 0, none⟩) A.l.length ca')); rw [hl3], by show World.ownsRow _ _ _ _ (.slice (some ⟨g', 0, none⟩) A.l.length ca') A.l.length (intV A.l); rw [hl3]; exact own_base ((own_store10 HW4.out (by omega) ⟨A.r, A.s, A.t, A.k, A.v, A.x, A.z, A.o, A.y, A.l⟩ _).alloc _) (by omega), (store10_drew HD.out hp hB (Nat.le_refl _) ⟨A.r, A.s, A.t, A.k, A.v, A.x, A.z, A.o, A.y, A.l⟩ _).alloc hp hB _⟩

end Go.Proofs.Ytahdgagipmpcgaa
