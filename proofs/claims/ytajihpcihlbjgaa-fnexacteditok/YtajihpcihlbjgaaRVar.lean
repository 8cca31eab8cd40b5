/- What the two readers of a number do. -/
import Derived.Test.YtajihpcihlbjgaaWVar
import Derived.Test.YtajihpcihlbjgaaRMath
import Derived.Deep.RegionWith
import Derived.Deep.QuietTactic
import Derived.BigQuiet
import Derived.Deep.RegionHeld3
import Derived.WalkSmall
namespace Go.Proofs.Ytajihpcihlbjgaa
set_option maxRecDepth 100000
set_option linter.unusedVariables false
open Go.RowKit

end Go.Proofs.Ytajihpcihlbjgaa
