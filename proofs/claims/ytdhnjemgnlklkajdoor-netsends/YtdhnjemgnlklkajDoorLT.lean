import Derived.Test.YtdhnjemgnlklkajDoorLA
namespace Go.Proofs.YtdhnjemgnlklkajDoor
open Go.ChangeShapes Go.WideShapes Go.ChangeAt Go.RowKit


end Go.Proofs.YtdhnjemgnlklkajDoor
