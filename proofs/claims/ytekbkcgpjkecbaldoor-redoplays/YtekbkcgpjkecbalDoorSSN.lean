import Derived.Test.YtekbkcgpjkecbalDoorSSB
import Derived.OwnWalk
namespace Go.Proofs.YtekbkcgpjkecbalDoor.S8
open Go.ChangeShapes Go.WideShapes Go.ChangeAt Go.RowKit

theorem marks_cell (w : World) (m : Int) (j : Nat) (u : Value) (hj : [Value.int .i64 m, .int .i64 m, .int .i64 m][j]? = some u) : (w.alloc (.cells #[.int .i64 m, .int .i64 m, .int .i64 m] 3)).cell? ((⟨w.heap.size, 0, none⟩ : Addr).add j) = some u := by
  rw [Addr.add_lit]
  have := (cells_of (l := [_, _, _]) (heap_alloc_new w (.cells #[.int .i64 m, .int .i64 m, .int .i64 m] 3))).1 j u hj
  simpa using this

theorem lentOfN {w : World} {B g : Nat} {l : List Int} {m : Int} (h : w.ownsRow B 3 1 (.slice (some ⟨g, 0, none⟩) (l.length + 3) (l.length + 3)) (l.length + 3) (l.flatMap nuV ++ [.int .i64 m, .int .i64 m, .int .i64 m])) : Lent nuV w l m (.slice (some ⟨g, 0, none⟩) l.length (l.length + 3)) := by
  refine ⟨g, 0, l.length + 3, rfl, Nat.le_refl _, fun q u hq => ?_⟩
  rw [List.flatMap_append] at hq
  have hql := (List.getElem?_eq_some_iff.1 hq).1
  rw [List.length_append, flat_length nuV 1 nuV_len] at hql
  have h9 : ([m, m, m].flatMap nuV).length = 3 := rfl
  rw [Nat.zero_add]
  exact (h.cellAt q (by omega)).trans hq

theorem zero_cells1 (z : Value) (n : Nat) : ∀ u ∈ (Builtin.zeroCells #[z] n).toList, u = z := by
  intro u hu
  simp only [Builtin.zeroCells, Array.toList_map, List.mem_map] at hu
  obtain ⟨i, -, rfl⟩ := hu
  have : i % (#[z] : Array Value).size = 0 := by
    show i % 1 = 0
    omega
  rw [this]; rfl

theorem clear_one (w : World) (t e ty : TypeId) (z : Value) (ht : Tryd.prog.underlying t = some (.slice e)) (hv : ∀ w, (zeroValue e).run Tryd.prog w = .ok z w) (h1 : z.oneCell' = true) (b n c : Nat) (hn : 0 < n)
    (hc : ∀ j, j < n * 1 → (w.cell? ⟨b, 0 + j, none⟩).isSome = true) (hf : ∀ j, j < n * 1 → w.frozen? ⟨b, 0 + j, none⟩ = false) :
    ∃ l, (Builtin.clear_ #[t] ty #[.slice (some ⟨b, 0, none⟩) n c]).run Tryd.prog w = .ok (.tuple #[]) (w.setCells b 0 l) := by
  have hcell : z.cells = #[z] := by
    cases z <;> first | rfl | (simp [Value.oneCell'] at h1)
  have hlen : (Builtin.zeroCells #[z] n).toList.length = n * 1 := by simp [Builtin.zeroCells]
  have hst := run_storeCells_cells (P := Tryd.prog) b 0 (Builtin.zeroCells #[z] n).toList 0 w (by rw [hlen]; simpa using hc) (by rw [hlen]; simpa using hf) (by intro v hv'; rw [zero_cells1 z n v hv']; exact h1)
  refine ⟨(Builtin.zeroCells #[z] n).toList, ?_⟩
  obtain ⟨m, rfl⟩ : ∃ m, n = m + 1 := ⟨n - 1, by omega⟩
  simp only [Nat.add_zero] at hst
  simp [Builtin.clear_, run_underlying ht, hv, hcell, hst]
end Go.Proofs.YtekbkcgpjkecbalDoor.S8
