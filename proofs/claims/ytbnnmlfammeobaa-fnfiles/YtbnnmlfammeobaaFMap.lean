/- A map of pointers under the keys 1 and 2, as its block stands: looked into, filled, and struck from. -/
import Derived.Test.YtbnnmlfammeobaaRows
import Derived.Maps.OwnSet
import Derived.WalkKit
import Derived.BigCall
import Derived.WalkSpells
namespace Go.Proofs.Ytbnnmlfammeobaa
open Go.RowKit
open Go.ChangeMaps (setBlock heap_setBlock_same heap_setBlock_other)

/-- One entry: its key, what it holds, when it came. -/
def ent (k : Int) (v : Value) (c : Nat) : MapEntry := { key := .int .i64 k, val := v, born := c }

theorem isKeyI (k : Int) : MapKept.IsKey (.int .i64) (.int .i64 k) := by simp [MapKept.IsKey]

theorem look_run {w : World} {b i : Nat} {es : Array MapEntry} {clock : Nat} {k : Int} {v : Value} (hb : w.heap[b]? = some (.map es clock)) (hf : Instr.findNow (.int .i64) (.int .i64 k) es.toList 0 = some (some (i, v))) :
    (Instr.lookup 52 (.map (some b)) (.int .i64 k) false).run Try.prog w = .ok v w := by
  simp [Instr.lookup, run_underlying Try.underlying52, MapKept.run_getObj_map hb, MapKept.run_checkKey Try.underlying3 (isKeyI k), MapKept.run_findKey Try.underlying3 hf, Result.andThen]
theorem look_ok_run {w : World} {b i : Nat} {es : Array MapEntry} {clock : Nat} {k : Int} {v : Value} (hb : w.heap[b]? = some (.map es clock)) (hf : Instr.findNow (.int .i64) (.int .i64 k) es.toList 0 = some (some (i, v))) :
    (Instr.lookup 52 (.map (some b)) (.int .i64 k) true).run Try.prog w = .ok (.tuple #[v, .bool true]) w := by
  simp [Instr.lookup, run_underlying Try.underlying52, MapKept.run_getObj_map hb, MapKept.run_checkKey Try.underlying3 (isKeyI k), MapKept.run_findKey Try.underlying3 hf, Result.andThen]
theorem look_none_run {w : World} {b : Nat} {es : Array MapEntry} {clock : Nat} {k : Int} (hb : w.heap[b]? = some (.map es clock)) (hf : Instr.findNow (.int .i64) (.int .i64 k) es.toList 0 = some none) :
    (Instr.lookup 52 (.map (some b)) (.int .i64 k) true).run Try.prog w = .ok (.tuple #[.pointer none, .bool false]) w := by
  simp [Instr.lookup, run_underlying Try.underlying52, MapKept.run_getObj_map hb, MapKept.run_checkKey Try.underlying3 (isKeyI k), MapKept.run_findKey Try.underlying3 hf, Result.andThen]
theorem put_run {w : World} {b : Nat} {es : Array MapEntry} {clock : Nat} {k : Int} {v : Value} (hb : w.heap[b]? = some (.map es clock)) (hf : Instr.findNow (.int .i64) (.int .i64 k) es.toList 0 = some none) :
    (Instr.mapUpdate 52 (.map (some b)) (.int .i64 k) v).run Try.prog w = .ok () (setBlock w b (.map (es.push (ent k v clock)) (clock + 1))) := by
  simp [Instr.mapUpdate, run_underlying Try.underlying52, MapKept.run_getObj_map hb, MapKept.run_checkKey Try.underlying3 (isKeyI k), MapKept.run_findKey Try.underlying3 hf, Result.andThen, MapKept.run_setObj_map _ hb, setBlock, ent]
theorem del_run {w : World} {b i : Nat} {es : Array MapEntry} {clock : Nat} {k : Int} {v : Value} {ty : TypeId} (hb : w.heap[b]? = some (.map es clock)) (hf : Instr.findNow (.int .i64) (.int .i64 k) es.toList 0 = some (some (i, v))) :
    (Builtin.delete_ #[52, 3] ty #[.map (some b), .int .i64 k]).run Try.prog w = .ok (.tuple #[]) (setBlock w b (.map (es.eraseIdxIfInBounds i) clock)) := by
  simp [Builtin.delete_, run_underlying Try.underlying52, MapKept.run_getObj_map hb, MapKept.run_checkKey Try.underlying3 (isKeyI k), MapKept.run_findKey Try.underlying3 hf, Result.andThen, MapKept.run_setObj_map _ hb, setBlock]

end Go.Proofs.Ytbnnmlfammeobaa
