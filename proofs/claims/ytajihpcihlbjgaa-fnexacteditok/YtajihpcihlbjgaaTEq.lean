/- Two states that are the same are held alike by the laws. -/
import Derived.Test.YtajihpcihlbjgaaTBase
import Derived.Test.YtajihpcihlbjgaaALaw2
namespace Go.Proofs.Ytajihpcihlbjgaa
set_option maxRecDepth 100000
set_option linter.unusedVariables false
open Go.RowKit


end Go.Proofs.Ytajihpcihlbjgaa
