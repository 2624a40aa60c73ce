import Derived.Test.YtccoobcggbbciahDoorTK
namespace Go.Proofs.YtccoobcggbbciahDoor
open Go.ChangeShapes Go.WideShapes Go.ChangeAt Go.RowKit

def noT : Ta := ⟨⟨#[63]⟩, -9, 0, 0, 0, 0, 0⟩

def threeL : List Ta := [⟨⟨#[97]⟩, 1, 4, 4, 0, 0, 3⟩, ⟨⟨#[98]⟩, 2, 6, 6, 0, 0, 2⟩, ⟨⟨#[99]⟩, 3, 12, 12, 0, 0, 1⟩]

theorem chk_three : chkF threeL = (0, 0) := by kernel_rfl

theorem chk_nil : chkF [] = (2, 0) := by kernel_rfl
end Go.Proofs.YtccoobcggbbciahDoor
