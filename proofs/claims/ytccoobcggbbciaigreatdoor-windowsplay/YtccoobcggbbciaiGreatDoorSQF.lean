import Derived.Test.YtccoobcggbbciaiGreatDoorSQE
namespace Go.Proofs.YtccoobcggbbciaiGreatDoor.S8
open Go.ChangeShapes Go.WideShapes Go.ChangeAt Go.RowKit

/-- Who ran, so far. -/
def oneCells (n : Nat) (runs : List Int) (j : Nat) : List Value := (runs.take j).map (Value.int .i64) ++ List.replicate (n - j) (.int .i64 0)

theorem one_len {n j : Nat} {runs : List Int} (hr : runs.length = n) (hj : j ≤ n) : (oneCells n runs j).length = n := by
  simp [oneCells]; omega

theorem one_set {n j : Nat} {runs : List Int} (hr : runs.length = n) (hj : j < runs.length) : (oneCells n runs j).set j (.int .i64 runs[j]) = oneCells n runs (j + 1) := by
  unfold oneCells
  obtain ⟨m, hm⟩ : ∃ m, n - j = m + 1 := ⟨n - j - 1, by omega⟩
  have e : (runs.take (j + 1)).map (Value.int .i64) = (runs.take j).map (Value.int .i64) ++ [Value.int .i64 runs[j]] := by rw [List.take_succ_eq_append_getElem hj, List.map_append]; rfl
  have e2 : ((runs.take j).map (Value.int .i64)).length = j := by rw [List.length_map, List.length_take]; omega
  rw [e, List.set_append_right _ _ (by omega), hm, List.replicate_succ, e2, Nat.sub_self, List.set_cons_zero, List.append_assoc, show n - (j + 1) = m by omega]
  rfl

set_option maxHeartbeats 2000000 in
theorem One_any (w W : World) (mb eb rb cnt n : Nat) (left ends runs : List Int) (vs : List Value) (h : RefW w W mb eb rb cnt n left ends runs vs) (hr : runs.length = n) (hn : n ≤ 20000) :
    Calls Tryz.prog 53 #[.slice (some ⟨rb, 0, none⟩) n n] W fun r W' => r = .returned (.slice (some ⟨W.heap.size, 0, none⟩) n n) ∧ Below W.heap.size W W' ∧ W'.heap[W.heap.size]? = some (.cells (runs.map (Value.int .i64)).toArray 3 (0, 0)) := by
  obtain ⟨w2, hmk, hb2, hh2⟩ := make_ex W n (by omega)
  have H0 : Hid (RefW w W mb eb rb cnt n left ends runs vs) := h
  have H2 : Hid (Below W.heap.size W w2 ∧ w2.heap[W.heap.size]? = some (.cells (oneCells n runs 0).toArray 3 (0, 0))) := ⟨hb2, by rw [hh2]; simp [oneCells, repCells]⟩
  clear h hb2 hh2
  go_enter Tryz.func53, Tryz.ntmps53
  go_wp2_with fail
  go_loopw [11] (fun i wr => ∃ j : Nat, j ≤ n ∧ i = .int .i64 j ∧ Below W.heap.size W wr ∧ wr.heap[W.heap.size]? = some (.cells (oneCells n runs j).toArray 3 (0, 0))) (fun i _ => n - (intOf i).toNat)
  case atStart => exact ⟨0, Nat.zero_le _, rfl, H2.out.1, H2.out.2⟩
  case round =>
    obtain ⟨j, hj, rfl, hb, hh⟩ := hrel
    by_cases hjl : j < n
    · have hjr : j < runs.length := by omega
      obtain ⟨v, hv, hent⟩ := H0.out.ent j runs[j] (List.getElem?_eq_getElem hjr)
      have cv : wr.cell? ⟨rb, j, none⟩ = some v := below_cell hb ((cells_of H0.out.rv).1 j v hv)
      obtain ⟨rc, rf, rl⟩ := cells_of hh
      have r0 := rc j _ (List.getElem?_eq_getElem (by rw [one_len hr hj]; exact hjl))
      have rf0 := rf j
      generalize (oneCells n runs j)[j]'(by rw [one_len hr hj]; exact hjl) = rold at r0
      have hh5 : (wr.setCell ⟨W.heap.size, j, none⟩ (.int .i64 (-1))).heap[W.heap.size]? = some (.cells ((oneCells n runs j).set j (.int .i64 (-1))).toArray 3 (0, 0)) := setCell_list hh
      have hb5 : Below W.heap.size W (wr.setCell ⟨W.heap.size, j, none⟩ (.int .i64 (-1))) := hb.setCell (Nat.le_refl _) _
      have hji : (j : Int) < (n : Int) := by omega
      have hone := one_set (n := n) hr hjr
      rcases hent with ⟨hb1, ead, ec, rfl⟩ | ⟨hb0, g, ec, rfl, cg, -⟩
      · rw [hb1] at hone
        rw [hone] at hh5
        have H5 : Hid (Below W.heap.size W (wr.setCell ⟨W.heap.size, j, none⟩ (.int .i64 (-1))) ∧ (wr.setCell ⟨W.heap.size, j, none⟩ (.int .i64 (-1))).heap[W.heap.size]? = some (.cells (oneCells n runs (j + 1)).toArray 3 (0, 0))) := ⟨hb5, hh5⟩
        clear hh5 hb5 hone hb1 rc rf hh hb hv
        go_wp2_with fail
        exact ⟨⟨j + 1, by omega, by simp, H5.out.1, H5.out.2⟩, by simp [intOf]; omega⟩
      · have hgl : g < W.heap.size := World.block_lt_of_cell? _ _ cg
        generalize runs[j] = b at *
        have cg5 := below_cell hb5 cg
        have hh6 : ((wr.setCell ⟨W.heap.size, j, none⟩ (.int .i64 (-1))).setCell ⟨W.heap.size, j, none⟩ (.int .i64 b)).heap[W.heap.size]? = some (.cells (((oneCells n runs j).set j (.int .i64 (-1))).set j (.int .i64 b)).toArray 3 (0, 0)) := setCell_list hh5
        rw [List.set_set, hone] at hh6
        obtain ⟨sc, sf, sl⟩ := cells_of hh5
        have s0 := sc j (.int .i64 (-1)) (by rw [List.getElem?_set, if_pos rfl, if_pos (by rw [one_len hr hj]; exact hjl)])
        have sf0 := sf j
        have H6 : Hid (Below W.heap.size W ((wr.setCell ⟨W.heap.size, j, none⟩ (.int .i64 (-1))).setCell ⟨W.heap.size, j, none⟩ (.int .i64 b)) ∧ ((wr.setCell ⟨W.heap.size, j, none⟩ (.int .i64 (-1))).setCell ⟨W.heap.size, j, none⟩ (.int .i64 b)).heap[W.heap.size]? = some (.cells (oneCells n runs (j + 1)).toArray 3 (0, 0))) := ⟨hb5.setCell (Nat.le_refl _) _, hh6⟩
        clear hh5 hb5 hh6 hone rc rf sc sf hh hb hv cg hgl
        go_wp2_with fail
        exact ⟨⟨j + 1, by omega, by simp, H6.out.1, H6.out.2⟩, by simp [intOf]; omega⟩
    · have hje : j = n := by omega
      subst hje
      have H7 : Hid (Below W.heap.size W wr ∧ wr.heap[W.heap.size]? = some (.cells (runs.map (Value.int .i64)).toArray 3 (0, 0))) := ⟨hb, by rw [hh]; simp [oneCells, List.take_of_length_le (Nat.le_of_eq hr)]⟩
      clear hb hh
      go_wp2_with fail
      go_ret
      exact ⟨rfl, H7.out.1, H7.out.2⟩
end Go.Proofs.YtccoobcggbbciaiGreatDoor.S8
