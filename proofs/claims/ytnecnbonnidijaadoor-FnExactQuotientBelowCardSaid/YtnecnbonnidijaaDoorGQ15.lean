/- Texts of this seat, joined: Rs -/
import Derived.Test.YtnecnbonnidijaaDoorGQ7
import Derived.Test.YtnecnbonnidijaaDoorGQ6
/- Roots of exact numbers from below, of the program and of the model. -/
namespace Go.Proofs.YtnecnbonnidijaaDoor
set_option maxRecDepth 100000
open Go.RowKit
set_option linter.unusedSimpArgs false
set_option linter.unusedVariables false

end Go.Proofs.YtnecnbonnidijaaDoor
