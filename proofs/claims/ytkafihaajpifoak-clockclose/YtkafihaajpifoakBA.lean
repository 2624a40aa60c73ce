import Derived.Test.YtkafihaajpifoakSB
namespace Go.Proofs.Ytkafihaajpifoak
open Go.ChangeShapes Go.WideShapes Go.ChangeAt Go.RowKit

theorem ltH {W : World} {g : Nat} {o : Obj} (h : W.heap[g]? = some o) : g < W.heap.size := (Array.getElem?_eq_some_iff.1 h).1

/-- So many are laid, and room. -/
def runCells (n : Nat) (runs : List Int) : List Value := runs.map (Value.int .i64) ++ List.replicate (n - runs.length) (.int .i64 0)

theorem runCells_len {n : Nat} {runs : List Int} (h : runs.length ≤ n) : (runCells n runs).length = n := by simp [runCells]; omega

theorem runCells_snoc {n : Nat} {runs : List Int} {v : Int} (h : runs.length < n) : (runCells n runs).set runs.length (.int .i64 v) = runCells n (runs ++ [v]) := by
  unfold runCells
  rw [List.set_append_right _ _ (by simp)]
  obtain ⟨m, hm⟩ : ∃ m, n - runs.length = m + 1 := ⟨n - runs.length - 1, by omega⟩
  rw [hm, List.replicate_succ]
  simp [show n - (runs.length + 1) = m by omega]

theorem runCells_full {runs : List Int} : runCells runs.length runs = runs.map (Value.int .i64) := by simp [runCells]

theorem setCell_list {w : World} {g i : Nat} {cs : List Value} {t : TypeId} {fr : Nat × Nat} {u : Value} (h : w.heap[g]? = some (.cells cs.toArray t fr)) : (w.setCell ⟨g, i, none⟩ u).heap[g]? = some (.cells (cs.set i u).toArray t fr) := by
  rw [setCell_at h, List.setIfInBounds_toArray]

theorem set_grown (W : World) (g i : Nat) (u : Value) : W.grownBy (W.setCell ⟨g, i, none⟩ u) (some g) := by
  refine ⟨rfl, rfl, rfl, ?_, fun q hq hne => Below.heap_setCell _ _ _ _ (fun e => hne (by rw [show q = g from e]))⟩
  simp

theorem info3N : (Try.prog.info? 3).map (fun i => (i.zero, i.size, i.bytes)) = some (some (.int .i64 0), 1, 8) := by kernel_rfl

theorem made_rep (n : Nat) : madeCells (Value.int .i64 0).cells (n * 1) = (List.replicate n (Value.int .i64 0)).toArray := by
  apply Array.ext
  · simp [madeCells]
  · intro i h1 h2
    simp [madeCells, Value.cells, Nat.mod_one]

theorem make_ints (W : World) (n : Nat) (hn : n ≤ 1000000) : ∃ W', (Instr.makeSlice 22 (.int .i64 (n : Int)) (.int .i64 (n : Int))).run Try.prog W = .ok (.slice (some ⟨W.heap.size, 0, none⟩) n n) W' ∧ Below W.heap.size W W' ∧ W'.heap[W.heap.size]? = some (.cells (runCells n []).toArray 3 (0, 0)) := by
  obtain ⟨i0, hi0, hz0, hz1, hz2⟩ := info_parts info3N
  have h := run_make (P := Try.prog) W 22 3 i0 _ Try.underlying22 hi0 hz0 .i64 .i64 (n : Int) (n : Int) (by omega) (by omega) (by rw [hz2]; omega) (by omega)
  rw [Int.toNat_natCast, hz1, made_rep] at h
  exact ⟨_, h, below_new _ _, heap_alloc_new _ _⟩
theorem flat_nuN (xs : List Int) : xs.flatMap nuV = xs.map (Value.int .i64) := by
  induction xs with
  | nil => rfl
  | cons x r ih => rw [List.flatMap_cons, ih]; rfl

theorem row_ints {W : World} {G : Nat} {ts : List Int} (h : W.heap[G]? = some (.cells (ts.map (Value.int .i64)).toArray 3 (0, 0))) : RowSl nuV W ts (.slice (some ⟨G, 0, none⟩) ts.length ts.length) := by
  refine ⟨some ⟨G, 0, none⟩, ts.length, rfl, (fun h => by cases h), Nat.le_refl _, Or.inr ⟨G, 0, rfl, fun q u hq => ?_⟩⟩
  rw [Nat.zero_add]
  rw [flat_nuN] at hq
  exact (cells_of h).1 q u hq

/-- The fault's block, and the row of times. -/
structure TW (w W : World) (n g : Nat) (ts : List Int) : Prop where
  fb : FB w W w.heap.size
  row : W.heap[g]? = some (.cells (runCells n ts).toArray 3 (0, 0))
  low : w.heap.size < g

theorem TW.grow {w W W' : World} {n g : Nat} {ts : List Int} (h : TW w W n g ts) (hb : Below W.heap.size W W') : TW w W' n g ts :=
  ⟨h.fb.grow hb, (hb.block _ (ltH h.row)).trans h.row, h.low⟩

theorem TW.put {w W : World} {n g : Nat} {ts : List Int} (h : TW w W n g ts) {v : Int} (hn : ts.length < n) : TW w (W.setCell ⟨g, ts.length, none⟩ (.int .i64 v)) n g (ts ++ [v]) := by
  have hl := h.low
  refine ⟨⟨h.fb.bel.setCell (show w.heap.size ≤ g by omega) _, ?_, h.fb.low⟩, ?_, h.low⟩
  · rw [Below.heap_setCell _ _ _ _ (show w.heap.size ≠ g by omega)]; exact h.fb.res
  · rw [setCell_list h.row, runCells_snoc hn]

theorem withinN_any (w : World) (n a b : Int) : Calls Try.prog 14 #[.int .i64 n, .int .i64 a, .int .i64 b] w fun r w' => r = .returned (.bool (within n a b)) ∧ w' = w := by
  by_cases h : a ≤ n
  · by_cases h2 : n ≤ b
    · have e : within n a b = true := by simp [within, h, h2]
      rw [e]
      go_enter Try.func14, Try.ntmps14
      go_wp2_with fail
      go_ret
      exact ⟨rfl, rfl⟩
    · have e : within n a b = false := by simp [within, h2]
      rw [e]
      go_enter Try.func14, Try.ntmps14
      go_wp2_with fail
      go_ret
      exact ⟨rfl, rfl⟩
  · have e : within n a b = false := by simp [within, h]
    rw [e]
    go_enter Try.func14, Try.ntmps14
    go_wp2_with fail
    go_ret
    exact ⟨rfl, rfl⟩

theorem rowOfN_own {w : World} {B : Nat} {cs : List Int} {v : Value} (h : w.ownsRow B 3 1 v cs.length (cs.flatMap nuV)) : RowSl nuV w cs v := by
  have h' := h
  obtain ⟨hl, ⟨h1, h2⟩ | ⟨g, cap, cur, he, hb, hg, hr⟩⟩ := h
  · subst h1
    have : cs = [] := by
      cases cs with
      | nil => rfl
      | cons x r => simp_all
    subst this
    exact RowSl.nil _ _
  · subst he
    refine ⟨_, cap, rfl, (fun e => by cases e), by omega, .inr ⟨g, 0, rfl, fun q u hq => ?_⟩⟩
    have hql := (List.getElem?_eq_some_iff.1 hq).1
    rw [flat_length nuV 1 nuV_len] at hql
    rw [Nat.zero_add]
    exact (h'.cellAt q (by omega)).trans hq

end Go.Proofs.Ytkafihaajpifoak
