import Derived.Test.YtccoobcggbbciaiGreatDoorSLA
namespace Go.Proofs.YtccoobcggbbciaiGreatDoor.S8
open Go.ChangeShapes Go.WideShapes Go.ChangeAt Go.RowKit


end Go.Proofs.YtccoobcggbbciaiGreatDoor.S8
namespace Go.Proofs.YtccoobcggbbciaiGreatDoor.S8
open Go.ChangeShapes Go.WideShapes Go.ChangeAt Go.RowKit

/-- Where a walk stands. -/
def Phase (_ : Nat) : Prop := True

def noJ : Jb := ⟨-9, 0, 0, 0, 0⟩
end Go.Proofs.YtccoobcggbbciaiGreatDoor.S8
