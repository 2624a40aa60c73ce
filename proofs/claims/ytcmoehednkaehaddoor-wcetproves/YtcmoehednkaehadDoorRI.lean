import Derived.Test.YtcmoehednkaehadDoorRIa
import Derived.Test.YtcmoehednkaehadDoorRIb
import Derived.Test.YtcmoehednkaehadDoorRIc
import Derived.Test.YtcmoehednkaehadDoorRId
import Derived.Test.YtcmoehednkaehadDoorRIe
import Derived.Test.YtcmoehednkaehadDoorRIf
import Derived.Test.YtcmoehednkaehadDoorRIg
import Derived.Test.YtcmoehednkaehadDoorRIh
import Derived.Test.YtcmoehednkaehadDoorStF
import Derived.Test.YtcmoehednkaehadDoorRMany
namespace Go.Proofs.YtcmoehednkaehadDoor
open Go.ChangeShapes Go.WideShapes Go.ChangeAt Go.RowKit

theorem ReadImage_walk (hstk : ∀ (w : World) (l : List In) (iad : Option Addr) (ic : Nat) (_ : InSl w l (.slice iad l.length ic)) (_ : l.length ≤ 2000) (_ : ∀ j, j < l.length → formErr (l.getD j in0) = 0) (c k : Int) (_ : stackEnd l = (c, k)), Calls Tryd.prog 75 #[.slice iad l.length ic] w fun r w' => r = .returned (.agg #[.int .i64 c, .int .i64 k]) ∧ Below w.heap.size w w') (w : World) (l : List In) (iad : Option Addr) (ic : Nat) (h : InSl w l (.slice iad l.length ic)) (hl : l.length ≤ 2000) (c k : Int) (hc : docI l = (c, k)) :
    Calls Tryd.prog 37 #[.slice iad l.length ic] w fun r w' => RIpost w l c k r w' :=
  RIp.2.2.2.2.2.2.2.2.2.2.2.2.2.2.2.2.2.2.2.2.2.2.2.2.2 ⟨ri_e13⟩ ⟨ri_e16⟩ ⟨ri_e14⟩ ⟨ri_e17⟩ ⟨ri_e15⟩ ⟨ri_eo⟩ ⟨ri_f13n⟩ ⟨ri_f13y⟩ ⟨ri_f16n⟩ ⟨ri_f16y⟩ ⟨ri_f14d⟩ ⟨ri_f14c⟩ ⟨ri_f14b⟩ ⟨ri_f14a⟩ ⟨ri_f17d⟩ ⟨ri_f17b⟩ ⟨ri_f17a⟩ ⟨ri_f15n⟩ ⟨ri_f15y⟩ ⟨ri_fo⟩ ⟨ri_O9⟩ ⟨ri_O10⟩ ⟨ri_J11⟩ ⟨ri_J12⟩ ⟨ri_S⟩ hstk w l iad ic h hl c k hc

/-- What ReadImage answers. -/
theorem ReadImage_any (w : World) (l : List In) (iad : Option Addr) (ic : Nat) (h : InSl w l (.slice iad l.length ic)) (c k : Int) (hc : docI l = (c, k)) : Calls Tryd.prog 37 #[.slice iad l.length ic] w fun r w' => RIpost w l c k r w' := by
  by_cases hl : l.length ≤ 2000
  · exact ReadImage_walk (fun w l iad ic h hl hf c k hc => stackFault_any w l iad ic h hl hf c k hc) w l iad ic h hl c k hc
  · have e : docI l = (2, 0) := by unfold docI; rw [if_pos (by omega)]
    rw [e] at hc
    cases hc
    exact (ReadImage_many w l.length iad ic (by omega)).mono fun _ _ ⟨⟨p, h1⟩, h2⟩ => ⟨⟨p, h1, fun h0 => absurd h0 (by decide)⟩, h2⟩
end Go.Proofs.YtcmoehednkaehadDoor
