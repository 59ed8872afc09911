/- Texts of this seat, joined: Tf Pe Pf -/
import Derived.Test.YtnecnbonnidijaaGF2
import Derived.Test.YtnecnbonnidijaaGF1
import Derived.Test.YtnecnbonnidijaaGF10
import Derived.Test.YtnecnbonnidijaaGF8
import Derived.Test.YtnecnbonnidijaaGF4
import Derived.Test.YtnecnbonnidijaaGF6
/- The walk of the laws' toFloat32S: a copy in memory of its own. -/
namespace Go.Proofs.Ytnecnbonnidijaa
set_option maxRecDepth 100000
open Go.RowKit

end Go.Proofs.Ytnecnbonnidijaa
/- Exact sums of floats, of the program and of the model. -/
namespace Go.Proofs.Ytnecnbonnidijaa
set_option maxRecDepth 100000
open Go.RowKit
set_option linter.unusedSimpArgs false
set_option linter.unusedVariables false

def uS (l : List Nat) : Int := (l.map uI).sum
end Go.Proofs.Ytnecnbonnidijaa
/- Values of pairs and exact sums of floats, of the model. -/
namespace Go.Proofs.Ytnecnbonnidijaa
set_option maxRecDepth 100000
open Go.RowKit
set_option linter.unusedSimpArgs false
set_option linter.unusedVariables false

end Go.Proofs.Ytnecnbonnidijaa
