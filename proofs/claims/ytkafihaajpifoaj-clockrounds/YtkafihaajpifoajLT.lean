import Derived.Test.YtkafihaajpifoajLA
namespace Go.Proofs.Ytkafihaajpifoaj
open Go.ChangeShapes Go.WideShapes Go.ChangeAt Go.RowKit


end Go.Proofs.Ytkafihaajpifoaj
