import Derived.Test.YtnkgbkkakokciacDoorGBWs
import Derived.Test.YtnkgbkkakokciacDoorGBTwin
import Derived.Deep.CutRange
namespace Go.Proofs.YtnkgbkkakokciacDoor.B
open Go.ChangeShapes Go.WideShapes Go.ChangeAt Go.RowKit
def firstErr:List Fl→Nat→Int × Int
 | [],_=>(0,0)
 | f::r,j=>if f.err≠0 then (f.err,j) else firstErr r (j+1)
end Go.Proofs.YtnkgbkkakokciacDoor.B
