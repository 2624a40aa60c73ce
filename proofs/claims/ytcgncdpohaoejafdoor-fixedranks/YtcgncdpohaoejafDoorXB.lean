import Derived.Test.YtcgncdpohaoejafDoorXA
namespace Go.Proofs.YtcgncdpohaoejafDoor
open Go.ChangeShapes Go.WideShapes Go.ChangeAt Go.RowKit


end Go.Proofs.YtcgncdpohaoejafDoor
