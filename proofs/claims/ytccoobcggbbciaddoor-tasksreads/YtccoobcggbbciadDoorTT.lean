import Derived.Test.YtccoobcggbbciadDoorTK
namespace Go.Proofs.YtccoobcggbbciadDoor
open Go.ChangeShapes Go.WideShapes Go.ChangeAt Go.RowKit

def noT : Ta := ⟨⟨#[63]⟩, -9, 0, 0, 0, 0, 0⟩
def threeL : List Ta := [⟨⟨#[97]⟩, 1, 4, 4, 0, 0, 3⟩, ⟨⟨#[98]⟩, 2, 6, 6, 0, 0, 2⟩, ⟨⟨#[99]⟩, 3, 12, 12, 0, 0, 1⟩]

theorem chk_three : chkF threeL = (0, 0) := by kernel_rfl
theorem chk_nil : chkF [] = (2, 0) := by kernel_rfl

set_option maxRecDepth 20000 in
theorem three_any (w : World) : Calls Tryd.prog 20 #[] w fun r w' => ∃ v, r = .returned v ∧ RowSl Ta.vals w' threeL v ∧ Below w.heap.size w w' := by
  go_enter Tryd.func20, Tryd.ntmps20
  go_wp2_with fail
  go_ret
  refine ⟨_, rfl, ⟨some ⟨w.heap.size, 0, none⟩, 3, rfl, (fun e => by cases e), Nat.le_refl _, .inr ⟨_, 0, rfl, fun q u hq => ?_⟩⟩, below_new _ _⟩
  rw [Nat.zero_add]
  exact (cells_of (l := threeL.flatMap Ta.vals) (heap_alloc_new _ _)).1 q u hq
end Go.Proofs.YtccoobcggbbciadDoor
