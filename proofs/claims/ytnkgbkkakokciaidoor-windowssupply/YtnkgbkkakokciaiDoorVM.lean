import Derived.Test.YtnkgbkkakokciaiDoorVL
namespace Go.Proofs.YtnkgbkkakokciaiDoor
open Go.ChangeShapes Go.WideShapes Go.ChangeAt Go.RowKit

/-- The law's own windows, in a world. -/
theorem wi6_made (w : World) : RowSl Wi.vals (w.alloc (.cells #[.int .i64 1, .int .i64 2, .int .i64 5, .int .i64 1] 27)) wi6 (.slice (some ⟨w.heap.size, 0, none⟩) 2 2) := by
  refine ⟨_, _, rfl, (fun e => by cases e), Nat.le_refl _, .inr ⟨w.heap.size, 0, rfl, fun q u hq => ?_⟩⟩
  rw [Nat.zero_add]
  exact (cells_of (l := [.int .i64 1, .int .i64 2, .int .i64 5, .int .i64 1]) (heap_alloc_new w (.cells #[.int .i64 1, .int .i64 2, .int .i64 5, .int .i64 1] 27))).1 q u hq

theorem sup27 : SupplyF 6 wi6 2 7 = (4, 0, 0) := by kernel_rfl
theorem lst3 : LeastF 6 wi6 3 = (1, 0, 0) := by kernel_rfl
theorem opn7 : (decide ((frmF 6 wi6).1 = 0) && decide ((0 : Int) ≤ 7) && thr 6 wi6 7) = true := by kernel_rfl
theorem opn6 : (decide ((frmF 6 wi6).1 = 0) && decide ((0 : Int) ≤ 6) && thr 6 wi6 6) = false := by kernel_rfl

set_option maxRecDepth 20000 in
set_option maxHeartbeats 4000000 in
theorem opens_any (w : World) : Calls Tryd.prog 4 #[] w fun r w' => r = .returned (.bool true) ∧ Below w.heap.size w w' := by
  have HW : Hid (RowSl Wi.vals (w.alloc (.cells #[.int .i64 1, .int .i64 2, .int .i64 5, .int .i64 1] 27)) wi6 (.slice (some ⟨w.heap.size, 0, none⟩) 2 2)) := wi6_made w
  have HB0 : Hid (Below w.heap.size w (w.alloc (.cells #[.int .i64 1, .int .i64 2, .int .i64 5, .int .i64 1] 27))) := below_new _ _
  generalize hW0 : w.alloc (.cells #[.int .i64 1, .int .i64 2, .int .i64 5, .int .i64 1] 27) = W0 at *
  have HS : Hid (∀ W, Below W0.heap.size W0 W → Calls Tryd.prog 11 #[.int .i64 6, .slice (some ⟨w.heap.size, 0, none⟩) 2 2, .int .i64 2, .int .i64 7] W fun r w' => r = .returned (.tuple #[.int .i64 4, .agg #[.int .i64 0, .int .i64 0]]) ∧ Below W.heap.size W w') := fun W hW => by
    have := Supply_any W 6 2 7 wi6 _ (HW.out.below hW)
    rw [sup27] at this
    exact this
  have HL : Hid (∀ W, Below W0.heap.size W0 W → Calls Tryd.prog 12 #[.int .i64 6, .slice (some ⟨w.heap.size, 0, none⟩) 2 2, .int .i64 3] W fun r w' => r = .returned (.tuple #[.int .i64 1, .agg #[.int .i64 0, .int .i64 0]]) ∧ Below W.heap.size W w') := fun W hW => by
    have := Least_any W 6 3 wi6 _ (HW.out.below hW)
    rw [lst3] at this
    exact this
  have HO : Hid (∀ W, Below W0.heap.size W0 W → Calls Tryd.prog 9 #[.int .i64 6, .slice (some ⟨w.heap.size, 0, none⟩) 2 2, .int .i64 7] W fun r w' => r = .returned (.bool true) ∧ Below W.heap.size W w') := fun W hW => by
    have := Open_any W 6 7 wi6 _ (HW.out.below hW)
    rw [opn7] at this
    exact this
  have HQ : Hid (∀ W, Below W0.heap.size W0 W → Calls Tryd.prog 9 #[.int .i64 6, .slice (some ⟨w.heap.size, 0, none⟩) 2 2, .int .i64 6] W fun r w' => r = .returned (.bool false) ∧ Below W.heap.size W w') := fun W hW => by
    have := Open_any W 6 6 wi6 _ (HW.out.below hW)
    rw [opn6] at this
    exact this
  have HT : Hid (∀ (W : World) (g : Nat), Below W0.heap.size W0 W → W.heap[g]? = some (.cells #[.string ⟨#[97]⟩, .int .i64 2, .int .i64 9, .int .i64 9, .int .i64 0, .int .i64 0, .int .i64 0] 44 (0, 0)) → Calls Tryd.prog 17 #[.slice (some ⟨g, 0, none⟩) 1 1, .int .i64 0, .int .i64 6, .slice (some ⟨w.heap.size, 0, none⟩) 2 2] W fun r w' => r = .returned (.tuple #[.int .i64 5, .agg #[.int .i64 0, .int .i64 0]]) ∧ Below W.heap.size W w') := fun W g hW hg => by
    refine Within_own W g 0 1 w.heap.size 0 2 (Nat.le_refl _) (fun q u hq => ?_) (HW.out.below hW)
    rw [Nat.zero_add]
    exact (cells_of (l := [_, _, _, _, _, _, _]) hg).1 q u hq
  go_enter Tryd.func4, Tryd.ntmps4
  go_wp2_with (go_at_call 11; refine (HS.out _ (Below.refl _ _)).mono ?_; rintro r w1 ⟨rfl, hb1⟩; have H1 : Hid (Below W0.heap.size W0 (w1.alloc (.cells #[.int .i64 0, .int .i64 0] 30))) := below_seq hb1 (below_new _ _); clear hb1)
  go_wp2_with (go_at_call 12; refine (HL.out _ H1.out).mono ?_; rintro r w2 ⟨rfl, hb2⟩; have p0 : w2.cell? ⟨w1.heap.size, 0, none⟩ = some (.int .i64 0) := below_cell hb2 (by go_simp); have l1 : w1.heap.size < w2.heap.size := World.block_lt_of_cell? _ _ p0; have H2 : Hid (Below W0.heap.size W0 (w2.alloc (.cells #[.int .i64 0, .int .i64 0] 30))) := below_seq (below_seq H1.out hb2) (below_new _ _); clear hb2)
  go_wp2_with (first
    | (go_at_call 9; refine (HQ.out _ (below_seq H3.out.2 H4.out)).mono ?_; rintro r w5 ⟨rfl, hb5⟩; have H5 : Hid (Below W0.heap.size W0 w5) := below_seq (below_seq H3.out.2 H4.out) hb5; clear hb5)
    | (go_at_call 9; refine (HO.out _ H3.out.2).mono ?_; rintro r w4 ⟨rfl, hb4⟩; have H4 : Hid (Below (w3.alloc (.cells #[.int .i64 0, .int .i64 0] 30)).heap.size (w3.alloc (.cells #[.int .i64 0, .int .i64 0] 30)) w4) := hb4; clear hb4)
    | (go_at_call 17; refine (HT.out ((w2.alloc (.cells #[.int .i64 0, .int .i64 0] 30)).alloc (.cells #[.string ⟨#[97]⟩, .int .i64 2, .int .i64 9, .int .i64 9, .int .i64 0, .int .i64 0, .int .i64 0] 44)) (w2.heap.size + 1) (below_seq H2.out (below_new _ _)) (by have := heap_alloc_new (w2.alloc (.cells #[.int .i64 0, .int .i64 0] 30)) (.cells #[.string ⟨#[97]⟩, .int .i64 2, .int .i64 9, .int .i64 9, .int .i64 0, .int .i64 0, .int .i64 0] 44); simpa using this)).mono ?_; rintro r w3 ⟨rfl, hb3⟩; have q0 : w3.cell? ⟨w1.heap.size, 0, none⟩ = some (.int .i64 0) := below_cell (below_seq (below_seq (below_new _ _) (below_new _ _)) hb3) p0; have q1 : w3.cell? ⟨w2.heap.size, 0, none⟩ = some (.int .i64 0) := below_cell hb3 (by go_simp); have l2 : w2.heap.size < w3.heap.size := World.block_lt_of_cell? _ _ q1; have l3 : w1.heap.size < w3.heap.size := World.block_lt_of_cell? _ _ q0; have H3 : Hid (True ∧ Below W0.heap.size W0 (w3.alloc (.cells #[.int .i64 0, .int .i64 0] 30))) := ⟨trivial, below_seq (below_seq (below_seq H2.out (below_new _ _)) hb3) (below_new _ _)⟩; clear hb3))
  go_ret
  exact ⟨rfl, below_seq HB0.out H5.out⟩
end Go.Proofs.YtnkgbkkakokciaiDoor
