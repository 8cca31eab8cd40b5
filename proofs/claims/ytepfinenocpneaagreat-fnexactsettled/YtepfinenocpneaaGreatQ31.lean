/- A copy within rows of structs; what is put into a row. -/
import Derived.Deep.AppendSrc
import Derived.Lib.Overlaps
import Derived.Test.YtepfinenocpneaaGreatQ11
set_option maxHeartbeats 16000000
namespace Go.Proofs.YtepfinenocpneaaGreat
open Value (int)
open IntKind (i64)
set_option maxRecDepth 100000
set_option linter.unusedVariables false
open Go.RowKit
theorem Jy {P : Program} (w : World) (dT sT ty elem : TypeId) (size g o dLen dCap : Nat) (a : Addr) (sLen sCap : Nat) (cur : Array Value) (t : TypeId) (cs : List Value)
  (hu : P.underlying dT = some (.slice elem)) (hs : (P.info? elem).map (·.size) = some size)
  (hg : w.heap[g]? = some (.cells cur t (0, 0))) (hn : cs.length = Nat.min sLen dLen * size)
  (hsrc : ∀ j v, cs[j]? = some v → w.cell? (a.add j) = some v) (hfit : o + cs.length ≤ cur.size) (h1 : ∀ v ∈ cs, v.oneCell' = true) :
  (Builtin.copy_ #[dT, sT] ty #[.slice (some ⟨g, o, none⟩) dLen dCap, .slice (some a) sLen sCap]).run P w =
   .ok (goInt (Nat.min sLen dLen)) (w.setRow g (splice cur.toList o cs).toArray) := by
 have hl := run_loadCells_list (P := P) w a cs hsrc
 have hst := run_storeCells_at P g o t cs 0 cur w hg (by simpa using hfit) h1
 cases hq : P.info? elem with
 | none => simp [hq] at hs
 | some i =>
  have hi : i.size = size := by simpa [hq] using hs
  simp [Builtin.copy_, run_underlying hu, Builtin.lenOf, Builtin.firstCells, sizeOf, typeInfo, hq, hi, ← hn, hl, hst, splice]
theorem ZU {P : Program} {w : World} {ops : Array Oper} {rest : List Oper} {o : Oper} {a : Act} {Q : Exit → Act → World → Prop} (d s : Operand) (t t' : TypeId) (hgd : o.guard = none) (ho : o.op = .call { callee := .builtin .copy, args := #[d, s], argTypes := #[t, t'] })
  (vd vs : Value) (hd : a.eval d = vd) (hs : a.eval s = vs) {r : Value} {w' : World} (hr : (Builtin.copy_ #[t, t'] o.type #[vd, vs]).run P w = .ok r w') (h : wpList P ops Q rest (a.put o.dst r) w') : wpList P ops Q (o :: rest) a w :=
 wpList_plain hgd fun K hK => by
  unfold Oper.wp
  simp [execOp, ho, resolve, invoke, builtin, hd, hs, hr, Result.andThen]
  exact hK _ _ h
theorem ZS {P : Program} {ops : Array Oper} {o : Oper} {a : Act} {w : World} {K : Act → World → Prop} {Q : Exit → Act → World → Prop} {E : Prop} (d s : Operand) (t t' : TypeId) (hgd : o.guard = none) (ho : o.op = .call { callee := .builtin .copy, args := #[d, s], argTypes := #[t, t'] })
  (vd vs : Value) (hd : a.eval d = vd) (hs : a.eval s = vs) {r : Value} {w' : World} (hr : (Builtin.copy_ #[t, t'] o.type #[vd, vs]).run P w = .ok r w') (h : K (a.put o.dst r) w') : if Region.wanted o (yielded ops a.tmps) = true then Oper.wp P o a w K Q else E := by
 rw [if_pos (show Region.wanted o (yielded ops a.tmps) = true by simp [Region.wanted, hgd])]
 unfold Oper.wp
 simp [execOp, ho, resolve, invoke, builtin, hd, hs, hr, Result.andThen]
 exact h
theorem J7 {w w1 : World} {g : Nat} {row : Option Nat} (cs : Array Value) (h : w.grownBy w1 row) (hr : row = some g) : w.grownBy (w1.setRow g cs) row :=
 ⟨h.os, h.tape, h.output, by have := h.size; simpa [World.setRow] using this, fun k hk hne => by
  have e : k ≠ g := fun e => hne (by rw [hr, e])
  rw [setRow_other w1 g k cs e]; exact h.block k hk hne⟩
theorem JaE {α : Type} (L : List α) (off k : Nat) (cs : List α) (h : k ≤ off) (hl : off ≤ L.length) : (splice L off cs).take k = L.take k := by
 unfold splice
 rw [List.take_append_of_le_length (by rw [List.length_take]; omega), List.take_take, Nat.min_eq_left h]
theorem Uv {α : Type} (cur xs ys : List α) (a s : Nat) (hx : cur.take xs.length = xs) (ha : a ≤ xs.length) (hs : ys.length = s) (hl : xs.length + s ≤ cur.length) :
  (splice (splice cur (a + s) (xs.drop a)) a ys).take (xs.length + s) = xs.take a ++ (ys ++ xs.drop a) := by
 subst hs
 have h1 : splice cur (a + ys.length) (xs.drop a) = cur.take (a + ys.length) ++ (xs.drop a ++ cur.drop (xs.length + ys.length)) := by
  unfold splice
  rw [List.length_drop, show a + ys.length + (xs.length - a) = xs.length + ys.length by omega]
 have hxa : xs.take a = cur.take a := by
  have : (cur.take xs.length).take a = cur.take a := by rw [List.take_take, Nat.min_eq_left ha]
  rw [← this, hx]
 rw [h1]
 unfold splice
 have e1 : (cur.take (a + ys.length) ++ (xs.drop a ++ cur.drop (xs.length + ys.length))).take a = cur.take a := by
  rw [List.take_append_of_le_length (by rw [List.length_take]; omega), List.take_take, Nat.min_eq_left (by omega)]
 have e2 : (cur.take (a + ys.length) ++ (xs.drop a ++ cur.drop (xs.length + ys.length))).drop (a + ys.length) = xs.drop a ++ cur.drop (xs.length + ys.length) := by
  rw [List.drop_append_of_le_length (by rw [List.length_take]; omega), List.drop_of_length_le (by rw [List.length_take]; omega), List.nil_append]
 rw [e1, e2, ← hxa, ← List.append_assoc, ← List.append_assoc]
 rw [List.take_append_of_le_length (by simp; omega), List.take_of_length_le (by simp; omega), List.append_assoc]
theorem GV {α : Type} (cur xs ys : List α) (a s : Nat) (hx : cur.take a = xs.take a) (ha : a ≤ xs.length) (hs : ys.length = s) (hl : xs.length + s ≤ cur.length) :
  (splice (splice cur a ys) (a + s) (xs.drop a)).take (xs.length + s) = xs.take a ++ (ys ++ xs.drop a) := by
 subst hs
 have hla : (xs.take a).length = a := by rw [List.length_take]; omega
 have h1 : splice cur a ys = (xs.take a ++ ys) ++ cur.drop (a + ys.length) := by unfold splice; rw [hx, List.append_assoc]
 rw [h1]
 unfold splice
 have e1 : ((xs.take a ++ ys) ++ cur.drop (a + ys.length)).take (a + ys.length) = xs.take a ++ ys := by
  rw [List.take_append_of_le_length (by rw [List.length_append, hla]; omega), List.take_of_length_le (by rw [List.length_append, hla]; omega)]
 rw [e1, ← List.append_assoc, List.take_append_of_le_length (by simp; omega), List.take_of_length_le (by simp; omega), List.append_assoc]
theorem Kx {s : Nat} {rs : List (List Value)} (h : GR s rs) (i : Nat) : rs.flatten.take (i * s) = (rs.take i).flatten ∧ rs.flatten.drop (i * s) = (rs.drop i).flatten := by
 induction rs generalizing i with
 | nil => simp
 | cons r rs ih =>
  have h1 : r.length = s := h r (by simp)
  cases i with
  | zero => simp
  | succ i =>
   have h2 := ih (fun q hq => h q (by simp [hq])) i
   have e : (i + 1) * s = r.length + i * s := by rw [h1, Nat.add_mul]; omega
   simp only [List.flatten_cons, List.take_succ_cons, List.drop_succ_cons]
   rw [e, List.take_length_add_append, List.drop_length_add_append, h2.1, h2.2]
   exact ⟨rfl, rfl⟩
theorem UR {α : Type} {s : Nat} (f : α → List Value) (hw : ∀ l : List α, GR s (l.map f)) (l : List α) (i : Nat) (x : α) : ((l.take i ++ x :: l.drop i).map f).flatten = (l.map f).flatten.take (i * s) ++ (f x ++ (l.map f).flatten.drop (i * s)) := by
 obtain ⟨h1, h2⟩ := Kx (hw l) i
 rw [h1, h2]
 simp [List.map_take, List.map_drop]
theorem Ur {α : Type} (l : List α) (i : Nat) (x : α) (h : i ≤ l.length) : (l.take i ++ x :: l.drop i).length = l.length + 1 := by
 simp; omega
theorem UK {α : Type} (f : α → List Value) (hf : ∀ a, ∀ v ∈ f a, v.oneCell' = true) (l : List α) : ∀ v ∈ (l.map f).flatten, v.oneCell' = true := by
 intro v hv
 obtain ⟨r, hr, hv⟩ := List.mem_flatten.1 hv
 obtain ⟨a, -, rfl⟩ := List.mem_map.1 hr
 exact hf a v hv
end Go.Proofs.YtepfinenocpneaaGreat
