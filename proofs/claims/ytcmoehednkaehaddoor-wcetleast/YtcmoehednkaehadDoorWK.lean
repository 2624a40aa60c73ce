import Derived.Test.YtcmoehednkaehadDoorChkW
namespace Go.Proofs.YtcmoehednkaehadDoor
open Go.ChangeShapes Go.WideShapes Go.ChangeAt Go.RowKit

theorem Check_all (w : World) (l : List In) (iad : Option Addr) (ic : Nat) (hkk : KindsIn w) (h : InSl w l (.slice iad l.length ic)) (c k : Int) (hc : checkI l = (c, k)) : Calls Tryd.prog 32 #[.slice iad l.length ic] w fun r w' => r = .returned (.agg #[.int .i64 c, .int .i64 k]) ∧ Below w.heap.size w w' := by
  by_cases hl : l.length ≤ 2000
  · exact Check_walk w l iad ic hkk h hl c k hc
  · have e : checkI l = (2, 0) := by unfold checkI; rw [if_pos (by omega)]
    rw [e] at hc
    cases hc
    exact Check_many w l.length iad ic (by omega)

end Go.Proofs.YtcmoehednkaehadDoor
