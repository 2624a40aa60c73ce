import Derived.Test.YthhkmgafacmjpagDoorSB
import Derived.OwnWalk
namespace Go.Proofs.YthhkmgafacmjpagDoor
open Go.ChangeShapes Go.WideShapes Go.ChangeAt Go.RowKit

theorem info3 : (Tryd.prog.info? 3).map (fun i => (i.zero, i.size, i.bytes)) = some (some (.int .i64 0), 1, 8) := by kernel_rfl

theorem flatOneN {l : List Int} {u : Value} (h : u ∈ l.flatMap nuV) : u.oneCell' = true := by
  obtain ⟨x, h⟩ := flat_mem h
  simp only [nuV, List.mem_singleton] at h
  subst h
  rfl

theorem marks_cell (w : World) (m : Int) (j : Nat) (u : Value) (hj : [Value.int .i64 m, .int .i64 m, .int .i64 m][j]? = some u) : (w.alloc (.cells #[.int .i64 m, .int .i64 m, .int .i64 m] 3)).cell? ((⟨w.heap.size, 0, none⟩ : Addr).add j) = some u := by
  rw [Addr.add_lit]
  have := (cells_of (l := [_, _, _]) (heap_alloc_new w (.cells #[.int .i64 m, .int .i64 m, .int .i64 m] 3))).1 j u hj
  simpa using this

theorem lentOfN {w : World} {B g : Nat} {l : List Int} {m : Int} (h : w.ownsRow B 3 1 (.slice (some ⟨g, 0, none⟩) (l.length + 3) (l.length + 3)) (l.length + 3) (l.flatMap nuV ++ [.int .i64 m, .int .i64 m, .int .i64 m])) : Lent nuV w l m (.slice (some ⟨g, 0, none⟩) l.length (l.length + 3)) := by
  refine ⟨g, 0, l.length + 3, rfl, Nat.le_refl _, fun q u hq => ?_⟩
  rw [List.flatMap_append] at hq
  have hql := (List.getElem?_eq_some_iff.1 hq).1
  rw [List.length_append, flat_length nuV 1 nuV_len] at hql
  have h9 : ([m, m, m].flatMap nuV).length = 3 := rfl
  rw [Nat.zero_add]
  exact (h.cellAt q (by omega)).trans hq
end Go.Proofs.YthhkmgafacmjpagDoor
