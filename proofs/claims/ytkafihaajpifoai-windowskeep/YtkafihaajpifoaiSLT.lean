import Derived.Test.YtkafihaajpifoaiSLA
namespace Go.Proofs.Ytkafihaajpifoai.S8
open Go.ChangeShapes Go.WideShapes Go.ChangeAt Go.RowKit


end Go.Proofs.Ytkafihaajpifoai.S8
