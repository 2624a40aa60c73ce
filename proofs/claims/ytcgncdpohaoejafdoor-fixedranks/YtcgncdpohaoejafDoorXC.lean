import Derived.Test.YtcgncdpohaoejafDoorXB
namespace Go.Proofs.YtcgncdpohaoejafDoor
open Go.ChangeShapes Go.WideShapes Go.ChangeAt Go.RowKit

theorem worst_ends {w : World} {a : Act} {x y : Value} (h1 : a.tmps[8]?.getD undef = x) (h2 : a.tmps[9]?.getD undef = y) : (results Tryd.f32 a.tmps).run Tryd.prog w = .ok (.tuple #[x, y]) w := by
  simp [results, Tryd.results32, go_sem, h1, h2]
end Go.Proofs.YtcgncdpohaoejafDoor
