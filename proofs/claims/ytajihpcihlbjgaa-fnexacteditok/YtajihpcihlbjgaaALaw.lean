/- What the laws' own helpers on acts do. -/
import Derived.Test.YtajihpcihlbjgaaARow
namespace Go.Proofs.Ytajihpcihlbjgaa
set_option maxRecDepth 100000
set_option linter.unusedVariables false
open Go.RowKit

/-- How much there is in an act. -/
def Ac.sz (A : Ac) : Int := (A.l.length : Int) + A.o.size + A.y.size
/-- What is left of L. -/
def leftOf (L n : Int) : Int := if n ≤ L then L - n else -1

def zAct : Array Value := #[.int .i64 0, .int .i64 0, .int .i64 0, .slice none 0 0, .int .i64 0, .string { data := #[] }, .string { data := #[] }, .int .i64 0, .int .i64 0, .int .i64 0]

end Go.Proofs.Ytajihpcihlbjgaa
