import Derived.Test.YtccoobcggbbciahDoorSPI
namespace Go.Proofs.YtccoobcggbbciahDoor.S8
open Go.ChangeShapes Go.WideShapes Go.ChangeAt Go.RowKit Go.Sort

/-- So many are laid, and room. -/
def runCells (n : Nat) (runs : List Int) : List Value := runs.map (Value.int .i64) ++ List.replicate (n - runs.length) (.int .i64 0)

theorem runCells_len {n : Nat} {runs : List Int} (h : runs.length ≤ n) : (runCells n runs).length = n := by simp [runCells]; omega

theorem runCells_snoc {n : Nat} {runs : List Int} {v : Int} (h : runs.length < n) : (runCells n runs).set runs.length (.int .i64 v) = runCells n (runs ++ [v]) := by
  unfold runCells
  rw [List.set_append_right _ _ (by simp)]
  obtain ⟨m, hm⟩ : ∃ m, n - runs.length = m + 1 := ⟨n - runs.length - 1, by omega⟩
  rw [hm, List.replicate_succ]
  simp [show n - (runs.length + 1) = m by omega]

theorem runCells_full {runs : List Int} : runCells runs.length runs = runs.map (Value.int .i64) := by simp [runCells]

theorem setCell_list {w : World} {g i : Nat} {cs : List Value} {t : TypeId} {fr : Nat × Nat} {u : Value} (h : w.heap[g]? = some (.cells cs.toArray t fr)) : (w.setCell ⟨g, i, none⟩ u).heap[g]? = some (.cells (cs.set i u).toArray t fr) := by
  rw [setCell_at h, List.setIfInBounds_toArray]

theorem set_grown (W : World) (g i : Nat) (u : Value) : W.grownBy (W.setCell ⟨g, i, none⟩ u) (some g) := by
  refine ⟨rfl, rfl, rfl, ?_, fun q hq hne => Below.heap_setCell _ _ _ _ (fun e => hne (by rw [show q = g from e]))⟩
  simp

theorem info3N : (Tryd.prog.info? 3).map (fun i => (i.zero, i.size, i.bytes)) = some (some (.int .i64 0), 1, 8) := by kernel_rfl

theorem made_rep (n : Nat) : madeCells (Value.int .i64 0).cells (n * 1) = (List.replicate n (Value.int .i64 0)).toArray := by
  apply Array.ext
  · simp [madeCells]
  · intro i h1 h2
    simp [madeCells, Value.cells, Nat.mod_one]

theorem make_ints (W : World) (n : Nat) (hn : n ≤ 1000000) : ∃ W', (Instr.makeSlice 28 (.int .i64 (n : Int)) (.int .i64 (n : Int))).run Tryd.prog W = .ok (.slice (some ⟨W.heap.size, 0, none⟩) n n) W' ∧ Below W.heap.size W W' ∧ W'.heap[W.heap.size]? = some (.cells (runCells n []).toArray 3 (0, 0)) := by
  obtain ⟨i0, hi0, hz0, hz1, hz2⟩ := info_parts info3N
  have h := run_make (P := Tryd.prog) W 28 3 i0 _ Tryd.underlying28 hi0 hz0 .i64 .i64 (n : Int) (n : Int) (by omega) (by omega) (by rw [hz2]; omega) (by omega)
  rw [Int.toNat_natCast, hz1, made_rep] at h
  exact ⟨_, h, below_new _ _, heap_alloc_new _ _⟩
end Go.Proofs.YtccoobcggbbciahDoor.S8
