import Derived.Test.YtccoobcggbbciahDoorTN
import Derived.Test.YtccoobcggbbciahDoorJB
namespace Go.Proofs.YtccoobcggbbciahDoor
open Go.ChangeShapes Go.WideShapes Go.ChangeAt Go.RowKit

theorem info3 : (Tryd.prog.info? 3).map (fun i => (i.zero, i.size, i.bytes)) = some (some (.int .i64 0), 1, 8) := by kernel_rfl

theorem flatOneN {l : List Int} {u : Value} (h : u ∈ l.flatMap nuV) : u.oneCell' = true := by
  obtain ⟨x, h⟩ := flat_mem h
  simp only [nuV, List.mem_singleton] at h
  subst h
  rfl

theorem ownsRow_below {w w' : World} {B n size : Nat} {e : TypeId} {v : Value} {xs : List Value} (h : w.ownsRow B e size v n xs) (hb : Below w.heap.size w w') : w'.ownsRow B e size v n xs := ownsRow_same h (fun k _ hk => hb.block k hk)

end Go.Proofs.YtccoobcggbbciahDoor
