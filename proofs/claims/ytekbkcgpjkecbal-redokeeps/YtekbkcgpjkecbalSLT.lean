import Derived.Test.YtekbkcgpjkecbalSLA
namespace Go.Proofs.Ytekbkcgpjkecbal.S8
open Go.ChangeShapes Go.WideShapes Go.ChangeAt Go.RowKit


end Go.Proofs.Ytekbkcgpjkecbal.S8
