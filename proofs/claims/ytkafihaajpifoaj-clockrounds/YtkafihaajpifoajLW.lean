import Derived.Test.YtkafihaajpifoajLT
namespace Go.Proofs.Ytkafihaajpifoaj
open Go.ChangeShapes Go.WideShapes Go.ChangeAt Go.RowKit

/-- Where a walk stands. -/
def Phase (_ : Nat) : Prop := True

def noJ : Jb := ⟨-9, 0, 0, 0, 0⟩

theorem few_any (w : World) (n : Int) : Calls Try.prog 6 #[.int .i64 n] w fun r w' => r = .returned (.bool (decide (n ≤ 5000))) ∧ w' = w := by
  go_enter Try.func6, Try.ntmps6
  go_wp2_with fail
  go_ret
  exact ⟨rfl, rfl⟩
end Go.Proofs.Ytkafihaajpifoaj
