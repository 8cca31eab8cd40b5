/- Plain facts on knowledges: the greatest, the least, what is within, the dots between. -/
import Derived.Test.YtpojipiagnbgjaaKDots
namespace Go.Proofs.Ytpojipiagnbgjaa

theorem KOk.mk {a b c : Int} (ha : 0 ≤ a ∧ a ≤ 1000) (hb : 0 ≤ b ∧ b ≤ 1000) (hc : 0 ≤ c ∧ c ≤ 1000) : KOk [a, b, c] := by
  refine ⟨rfl, fun x hx => ?_⟩
  simp only [List.mem_cons, List.not_mem_nil, or_false] at hx
  rcases hx with rfl | rfl | rfl
  · exact ha
  · exact hb
  · exact hc
theorem mx_le (a d : Int) : a ≤ mx a d ∧ d ≤ mx a d ∧ (mx a d = a ∨ mx a d = d) := by unfold mx; split <;> omega
theorem mn_le (a d : Int) : mn a d ≤ a ∧ mn a d ≤ d ∧ (mn a d = a ∨ mn a d = d) := by unfold mn; split <;> omega
theorem mx_comm (a d : Int) : mx a d = mx d a := by unfold mx; split <;> split <;> omega

theorem max_parts {l m : List Int} (hl : KOk l) (hm : KOk m) : ∃ a b c d e f : Int, l = [a, b, c] ∧ m = [d, e, f] ∧ (0 ≤ a ∧ a ≤ 1000) ∧ (0 ≤ b ∧ b ≤ 1000) ∧ (0 ≤ c ∧ c ≤ 1000) ∧ (0 ≤ d ∧ d ≤ 1000) ∧ (0 ≤ e ∧ e ≤ 1000) ∧ (0 ≤ f ∧ f ≤ 1000) ∧ kmax l m = [mx a d, mx b e, mx c f] ∧ kmin l m = [mn a d, mn b e, mn c f] := by
  obtain ⟨a, b, c, e1, h1⟩ := hl.split
  obtain ⟨d, e, f, e2, h2⟩ := hm.split
  refine ⟨a, b, c, d, e, f, e1, e2, ⟨h1.1, h1.2.1⟩, ⟨h1.2.2.1, h1.2.2.2.1⟩, ⟨h1.2.2.2.2.1, h1.2.2.2.2.2⟩, ⟨h2.1, h2.2.1⟩, ⟨h2.2.2.1, h2.2.2.2.1⟩, ⟨h2.2.2.2.2.1, h2.2.2.2.2.2⟩, ?_, ?_⟩
  · unfold kmax; rw [if_pos ⟨hl, hm⟩, e1, e2]; rfl
  · unfold kmin; rw [if_pos ⟨hl, hm⟩, e1, e2]; rfl

theorem kin_mk {a b c d e f : Int} (h1 : KOk [a, b, c]) (h2 : KOk [d, e, f]) (ha : a ≤ d) (hb : b ≤ e) (hc : c ≤ f) : kin [a, b, c] [d, e, f] = true := by
  rw [kin_ok h1 h2 rfl rfl]; simp [ha, hb, hc]

theorem max_facts {l m : List Int} (hl : KOk l) (hm : KOk m) : KOk (kmax l m) ∧ KOk (kmin l m) ∧ kin l (kmax l m) = true ∧ kin m (kmax l m) = true ∧ kin (kmin l m) l = true ∧ kin (kmin l m) m = true ∧ kmax m l = kmax l m ∧ kin [0, 0, 0] l = true := by
  have hx2 := max_parts hm hl
  obtain ⟨a, b, c, d, e, f, e1, e2, ha, hb, hc, hd, he, hf, em, en⟩ := max_parts hl hm
  have m1 := mx_le a d
  have m2 := mx_le b e
  have m3 := mx_le c f
  have n1 := mn_le a d
  have n2 := mn_le b e
  have n3 := mn_le c f
  have k1 : KOk [mx a d, mx b e, mx c f] := KOk.mk (by omega) (by omega) (by omega)
  have k2 : KOk [mn a d, mn b e, mn c f] := KOk.mk (by omega) (by omega) (by omega)
  have kz : KOk [0, 0, 0] := KOk.mk (by omega) (by omega) (by omega)
  rw [em, en]
  refine ⟨k1, k2, ?_, ?_, ?_, ?_, ?_, ?_⟩
  · rw [e1] at hl ⊢; exact kin_mk hl k1 m1.1 m2.1 m3.1
  · rw [e2] at hm ⊢; exact kin_mk hm k1 m1.2.1 m2.2.1 m3.2.1
  · rw [e1] at hl ⊢; exact kin_mk k2 hl n1.1 n2.1 n3.1
  · rw [e2] at hm ⊢; exact kin_mk k2 hm n1.2.1 n2.2.1 n3.2.1
  · obtain ⟨a', b', c', d', e', f', e1', e2', -, -, -, -, -, -, em', -⟩ := hx2
    rw [em']
    rw [e2] at e1'
    rw [e1] at e2'
    simp only [List.cons.injEq, and_true] at e1' e2'
    obtain ⟨rfl, rfl, rfl⟩ := e1'
    obtain ⟨rfl, rfl, rfl⟩ := e2'
    rw [mx_comm d a, mx_comm e b, mx_comm f c]
  · rw [e1] at hl ⊢; exact kin_mk kz hl ha.1 hb.1 hc.1

theorem dots_three {a b c d e f : Int} (h1 : KOk [a, b, c]) (h2 : KOk [d, e, f]) : dots [a, b, c] [d, e, f] = dotsOf 0 a d ++ (dotsOf 1 b e ++ dotsOf 2 c f) := by
  unfold dots
  rw [if_pos ⟨h1, h2⟩]
  simp [dotsTo, List.range, List.range.loop]

/-- One is within the other just where the other has no dot that it has not. -/
theorem kin_dots {l m : List Int} (hl : KOk l) (hm : KOk m) : kin l m = decide ((dots m l).length = 0) := by
  obtain ⟨a, b, c, rfl, -⟩ := hl.split
  obtain ⟨d, e, f, rfl, -⟩ := hm.split
  rw [kin_ok hl hm rfl rfl, dots_three hm hl, List.length_append, List.length_append]
  simp only [dotsOf, dotsN_len]
  rw [← Bool.decide_and, ← Bool.decide_and, decide_eq_decide]
  omega

theorem mem_dotsOf {i x y r s : Int} (h : (r, s) ∈ dotsOf i x y) : r = i ∧ x < s ∧ s ≤ y := by
  unfold dotsOf dotsN at h
  rw [List.mem_map] at h
  obtain ⟨j, hj, he⟩ := h
  rw [List.mem_range] at hj
  simp only [Prod.mk.injEq] at he
  omega

/-- Each dot from one to the greatest of both is not known by it, and known by the other. -/
theorem dots_each {l m : List Int} (hl : KOk l) (hm : KOk m) : ∀ p ∈ dots l (kmax l m), knows l p.1 p.2 = false ∧ knows m p.1 p.2 = true ∧ decide (DOk p.1 p.2) = true := by
  have hk := (max_facts hl hm).1
  obtain ⟨a, b, c, d, e, f, rfl, rfl, ha, hb, hc, hd, he, hf, em, -⟩ := max_parts hl hm
  rw [em] at hk ⊢
  have m1 := mx_le a d
  have m2 := mx_le b e
  have m3 := mx_le c f
  rw [dots_three hl hk]
  rintro ⟨r, s⟩ hp
  simp only [List.mem_append] at hp
  rcases hp with hp | hp | hp
  · obtain ⟨rfl, h1, h2⟩ := mem_dotsOf hp
    have hd : DOk 0 s := ⟨by omega, by omega, by omega, by omega⟩
    unfold knows
    rw [decide_eq_true hl, decide_eq_true hm, decide_eq_true hd]
    exact ⟨decide_eq_false (show ¬ s ≤ a by omega), decide_eq_true (show s ≤ d by omega), rfl⟩
  · obtain ⟨rfl, h1, h2⟩ := mem_dotsOf hp
    have hd : DOk 1 s := ⟨by omega, by omega, by omega, by omega⟩
    unfold knows
    rw [decide_eq_true hl, decide_eq_true hm, decide_eq_true hd]
    exact ⟨decide_eq_false (show ¬ s ≤ b by omega), decide_eq_true (show s ≤ e by omega), rfl⟩
  · obtain ⟨rfl, h1, h2⟩ := mem_dotsOf hp
    have hd : DOk 2 s := ⟨by omega, by omega, by omega, by omega⟩
    unfold knows
    rw [decide_eq_true hl, decide_eq_true hm, decide_eq_true hd]
    exact ⟨decide_eq_false (show ¬ s ≤ c by omega), decide_eq_true (show s ≤ f by omega), rfl⟩

end Go.Proofs.Ytpojipiagnbgjaa
