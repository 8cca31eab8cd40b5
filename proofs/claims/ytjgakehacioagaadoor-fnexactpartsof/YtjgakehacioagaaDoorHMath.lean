/- Plain facts on figures to the base 16, with nothing of the program in them. -/
import Derived.Test.YtjgakehacioagaaDoorWMath
namespace Go.Proofs.YtjgakehacioagaaDoor

/-- The byte of the figure x. -/
def figN (x : Nat) : Nat := if x < 10 then 48 + x else 87 + x
theorem figN_lt (x : Nat) (h : x < 16) : figN x < 256 := by unfold figN; split <;> omega

def hexB (l : List UInt8) : List UInt8 := l.flatMap fun b => [UInt8.ofNat (figN (b.toNat / 16)), UInt8.ofNat (figN (b.toNat % 16))]

theorem hexB_len (l : List UInt8) : (hexB l).length = 2 * l.length := by
  unfold hexB
  induction l with
  | nil => rfl
  | cons b r ih => rw [List.flatMap_cons, List.length_append, ih]; simp; omega

theorem take_snoc (s : ByteArray) (k : Nat) (h : k < s.size) : s.data.toList.take (k + 1) = s.data.toList.take k ++ [s[k]] := by
  rw [List.take_succ_eq_append_getElem (by simpa using h)]; rfl

theorem hexB_snoc (s : ByteArray) (k : Nat) (h : k < s.size) : hexB (s.data.toList.take (k + 1)) = hexB (s.data.toList.take k) ++ [UInt8.ofNat (figN (s[k].toNat / 16)), UInt8.ofNat (figN (s[k].toNat % 16))] := by
  rw [take_snoc s k h]; simp [hexB]

/-- Two bytes more are owned. -/
theorem own_two {w : World} {B : Nat} {v : Value} {n : Nat} {d d' : List UInt8} {x y : Nat} (hx : x < 256) (hy : y < 256) (hn : n + 2 = d'.length) (hd : d' = d ++ [UInt8.ofNat x, UInt8.ofNat y])
    (h : w.ownsRow B 5 1 v (n + 2) (Lib.byteCells d ++ [Value.int .u8 (x : Int), Value.int .u8 (y : Int)])) :
    w.ownsRow B 5 1 v d'.length (Lib.byteCells d') := by
  rw [← hn, hd, bc_app]
  have e : Lib.byteCells [UInt8.ofNat x, UInt8.ofNat y] = [Value.int .u8 (x : Int), Value.int .u8 (y : Int)] := by
    simp [Lib.byteCells, Nat.mod_eq_of_lt hx, Nat.mod_eq_of_lt hy]
  rw [e]; exact h

theorem two_new (w : World) (x y : Value) (e : TypeId) : ∀ j u, [x, y][j]? = some u → (w.alloc (.cells #[x, y] e)).cell? (Addr.add ⟨w.heap.size, 0, none⟩ j) = some u := by
  intro j u hj
  match j, hj with
  | 0, hj => simp at hj; subst hj; simp [Addr.add]
  | 1, hj => simp at hj; subst hj; simp [Addr.add]

open Go.RowKit in
/-- A round more of the writing of figures. -/
theorem rel_hex {s : ByteArray} {k : Nat} (hlt : k < s.size) {w wr w2 : World} {v v2 : Value} {o : Obj} {x y : Nat} (hx : x = figN (s[k].toNat / 16)) (hy : y = figN (s[k].toNat % 16))
    (hown : wr.ownsRow w.heap.size 5 1 v (2 * k) (Lib.byteCells (hexB (s.data.toList.take k)))) (hbel : Below w.heap.size w wr)
    (hown2 : w2.ownsRow w.heap.size 5 1 v2 (2 * k + 2) (Lib.byteCells (hexB (s.data.toList.take k)) ++ [Value.int .u8 (x : Int), Value.int .u8 (y : Int)]))
    (hgrow : ((wr.alloc o).drew).grownBy w2 v.ownBlock) :
    w2.ownsRow w.heap.size 5 1 v2 (hexB (s.data.toList.take (k + 1))).length (Lib.byteCells (hexB (s.data.toList.take (k + 1)))) ∧ Below w.heap.size w w2 := by
  have hb := s[k].toNat_lt
  refine ⟨own_two (by rw [hx]; exact figN_lt _ (by omega)) (by rw [hy]; exact figN_lt _ (by omega)) ?_ (by rw [hexB_snoc s k hlt, hx, hy]) hown2, ?_⟩
  · rw [hexB_len]; simp; omega
  · have hsz := hbel.size
    exact ((hbel.alloc hsz o).drew).grown hgrow (by simp; omega) (fun k hk => (hown.lt k hk).1)

def figs : ByteArray := ⟨#[48, 49, 50, 51, 52, 53, 54, 55, 56, 57, 97, 98, 99, 100, 101, 102]⟩
theorem figs_at (x : Nat) (h : x < 16) (h' : x < figs.size) : (figs[x]'h').toNat = figN x := by
  have : ∀ y : Fin 16, (figs[y.val]'(by have := y.isLt; show y.val < 16; omega)).toNat = figN y.val := by decide
  exact this ⟨x, h⟩

end Go.Proofs.YtjgakehacioagaaDoor
