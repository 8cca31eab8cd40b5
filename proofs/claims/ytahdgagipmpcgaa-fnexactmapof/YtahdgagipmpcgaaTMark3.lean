/- Marks that stand in lives are told to stand; marks in a whole state. -/
import Derived.Test.YtahdgagipmpcgaaTMark2
import Derived.Test.YtahdgagipmpcgaaTMark4
import Derived.Test.YtahdgagipmpcgaaTMark5
namespace Go.Proofs.Ytahdgagipmpcgaa
set_option maxRecDepth 100000
set_option linter.unusedVariables false
open Go.RowKit

end Go.Proofs.Ytahdgagipmpcgaa
