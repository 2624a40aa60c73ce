import Derived.Test.YtcgncdpohaoejafDoorXD
import Derived.Test.YtcgncdpohaoejafDoorXR
namespace Go.Proofs.YtcgncdpohaoejafDoor
open Go.ChangeShapes Go.WideShapes Go.ChangeAt Go.RowKit


end Go.Proofs.YtcgncdpohaoejafDoor
