import Derived.Test.YtcgncdpohaoejafDoorXC
namespace Go.Proofs.YtcgncdpohaoejafDoor
open Go.ChangeShapes Go.WideShapes Go.ChangeAt Go.RowKit

theorem heap_new3 (w : World) (o o' o'' : Obj) : (((w.alloc o).alloc o').alloc o'').heap[w.heap.size + 1 + 1]? = some o'' := by
  have := heap_alloc_new ((w.alloc o).alloc o') o''
  rw [show ((w.alloc o).alloc o').heap.size = w.heap.size + 1 + 1 by simp] at this
  exact this

theorem respF_bad {l : List Ta} {i block : Int} (h : i < 0 ∨ (l.length : Int) ≤ i ∨ block < 0 ∨ 10000 < block) : respF l i block = (0, (3, 0)) := by
  unfold respF; rw [if_pos h]
end Go.Proofs.YtcgncdpohaoejafDoor
