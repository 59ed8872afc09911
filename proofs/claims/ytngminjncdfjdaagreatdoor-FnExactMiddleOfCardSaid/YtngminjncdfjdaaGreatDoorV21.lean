/- Texts of this seat, joined: Fq Nx Iv Ih Is Ii Ij Ik Iq Il -/
import Derived.Test.YtngminjncdfjdaaGreatDoorY21
import Derived.Test.YtngminjncdfjdaaGreatDoorY2
import Derived.Test.YtngminjncdfjdaaGreatDoorY1
import Derived.Lib.SmallJoins
import Derived.Laws.StructEq
import Derived.Deep.RegionHeld3
import Derived.Deep.QuietTactic
import Derived.Deep.Cut
import Derived.Laws.Externs
/- The walks of FloatAtPlace, of the model and of the program. -/
namespace Go.Proofs.YtngminjncdfjdaaGreatDoor
set_option maxRecDepth 100000
open Go.RowKit

end Go.Proofs.YtngminjncdfjdaaGreatDoor
/- The walks of the neighbours: the model's step and the program's. -/
namespace Go.Proofs.YtngminjncdfjdaaGreatDoor
set_option maxRecDepth 100000
open Go.RowKit

end Go.Proofs.YtngminjncdfjdaaGreatDoor
/- Intervals: their ends as words, what an interval is, the lesser and the greater of two ends, the opposite. -/
namespace Go.Proofs.YtngminjncdfjdaaGreatDoor
set_option maxRecDepth 100000
open Go.RowKit
set_option linter.unusedSimpArgs false
set_option linter.unusedVariables false

end Go.Proofs.YtngminjncdfjdaaGreatDoor
/- Boxes of two floats (intervals); an interval of the laws: what came in, as the program takes it, compared. -/
namespace Go.Proofs.YtngminjncdfjdaaGreatDoor
set_option maxRecDepth 100000
open Go.RowKit
set_option linter.unusedSimpArgs false
set_option linter.unusedVariables false

theorem ret_fI {a b : Nat} (h : a = b) : Ending.returned (.float .f32 a) = .returned (.float .f32 b) := by rw [h]
section
open Go.ChangeShapes Go.WideShapes Go.ChangeAt Go.Deep
variable {H : Type} {enc : TypeId × Value → H}
end
end Go.Proofs.YtngminjncdfjdaaGreatDoor
/- The program's small functions on ends, and what an interval is, of the program and of the model. -/
namespace Go.Proofs.YtngminjncdfjdaaGreatDoor
set_option maxRecDepth 100000
open Go.RowKit
set_option linter.unusedSimpArgs false
set_option linter.unusedVariables false

end Go.Proofs.YtngminjncdfjdaaGreatDoor
/- What an interval is, of the program and of the model. -/
namespace Go.Proofs.YtngminjncdfjdaaGreatDoor
set_option maxRecDepth 100000
open Go.RowKit
set_option linter.unusedSimpArgs false
set_option linter.unusedVariables false

end Go.Proofs.YtngminjncdfjdaaGreatDoor
/- The operations on intervals that round nothing, of the program and of the model. -/
namespace Go.Proofs.YtngminjncdfjdaaGreatDoor
set_option maxRecDepth 100000
open Go.RowKit
set_option linter.unusedSimpArgs false
set_option linter.unusedVariables false

end Go.Proofs.YtngminjncdfjdaaGreatDoor
/- The meet of two intervals, of the model. -/
namespace Go.Proofs.YtngminjncdfjdaaGreatDoor
set_option maxRecDepth 100000
open Go.RowKit
set_option linter.unusedSimpArgs false
set_option linter.unusedVariables false

end Go.Proofs.YtngminjncdfjdaaGreatDoor
/- Functions of intervals with a code, of the program and of the model: not rounded ones. -/
namespace Go.Proofs.YtngminjncdfjdaaGreatDoor
set_option maxRecDepth 100000
open Go.RowKit
set_option linter.unusedSimpArgs false
set_option linter.unusedVariables false

end Go.Proofs.YtngminjncdfjdaaGreatDoor
