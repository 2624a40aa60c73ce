import Derived.Test.YtkafihaajpifoafXE
import Derived.Test.YtkafihaajpifoafXS
import Derived.Test.YtkafihaajpifoafTT
namespace Go.Proofs.Ytkafihaajpifoaf
open Go.ChangeShapes Go.WideShapes Go.ChangeAt Go.RowKit

/-- A fault's block that stays. -/
def FL (W : World) (G : Nat) (z1 z2 : Int) : Prop := W.heap[G]? = some (.cells #[.int .i64 z1, .int .i64 z2] 29 (0, 0))
theorem FL.grow {W W' : World} {G : Nat} {z1 z2 : Int} (h : FL W G z1 z2) (hb : Below W.heap.size W W') : FL W' G z1 z2 := (hb.block G (Array.getElem?_eq_some_iff.1 h).1).trans h
theorem FL.new (W : World) (z1 z2 : Int) : FL (W.alloc (.cells #[.int .i64 z1, .int .i64 z2] 29)) W.heap.size z1 z2 := heap_alloc_new _ _
theorem FL.cells {W : World} {G : Nat} {z1 z2 : Int} (h : FL W G z1 z2) : W.cell? ⟨G, 0, none⟩ = some (.int .i64 z1) ∧ W.cell? ⟨G, 1, none⟩ = some (.int .i64 z2) ∧ G < W.heap.size := by
  obtain ⟨c1, f1, l1⟩ := cells_of (l := [_, _]) h
  exact ⟨c1 0 _ rfl, c1 1 _ rfl, l1⟩

set_option maxRecDepth 20000 in
set_option maxHeartbeats 4000000 in
theorem responds_any (w : World) : Calls Try.prog 6 #[] w fun r w' => r = .returned (.bool true) ∧ Below w.heap.size w w' := by
  go_enter Try.func6, Try.ntmps6
  go_wp2_with (go_at_call 20; refine (three_any _).mono ?_; rintro r w1 ⟨v1, rfl, hr1, hb1⟩; obtain ⟨a1, c1, rfl⟩ := hr1.len; have H1 : Hid (Below w.heap.size w (w1.alloc (.cells #[.int .i64 0, .int .i64 0, .int .i64 0] 3))) := below_seq hb1 (below_new _ _); have HR := Responses_any (w1.alloc (.cells #[.int .i64 0, .int .i64 0, .int .i64 0] 3)) threeL [0, 0, 0] _ (.slice (some ⟨w1.heap.size, 0, none⟩) 3 3) (by decide) (hr1.below (below_new _ _)) (row_new (f := nuV) w1 [0, 0, 0] 3 #[.int .i64 0, .int .i64 0, .int .i64 0] 3 rfl rfl); rw [resps_three] at HR; clear hr1 hb1)
  go_wp2_with (go_at_call 9; refine HR.mono ?_; rintro r w2 ⟨u2, rfl, hr2, hb2⟩; obtain ⟨a2, c2, rfl⟩ := hr2.len; have H2 : Hid (Below w.heap.size w w2 ∧ RowSl nuV w2 [1, 3, 10] (.slice a2 [(1 : Int), 3, 10].length c2)) := ⟨below_seq H1.out hb2, hr2⟩; clear hb2 hr2 HR H1)
  first
    | (go_wp2_with (go_at_call 21; refine (SameN_any _ [1, 3, 10] _ _ (by decide) (H2.out.2.below (by first | exact below_new _ _ | exact below_seq (below_new _ _) (below_new _ _))) (by first | exact row_new (f := nuV) _ [1, 3, 10] 3 #[.int .i64 1, .int .i64 3, .int .i64 10] 3 rfl rfl | (have := row_new (f := nuV) (w2.alloc (.cells #[.int .i64 0, .int .i64 0] 29)) [1, 3, 10] 3 #[.int .i64 1, .int .i64 3, .int .i64 10] 3 rfl rfl; simpa using this))).mono ?_; rintro r w3 ⟨rfl, hb3⟩)
       go_ret
       exact ⟨rfl, by first | exact below_seq (below_seq H2.out.1 (below_new _ _)) hb3 | exact below_seq (below_seq (below_seq H2.out.1 (below_new _ _)) (below_new _ _)) hb3⟩)
    | fail

end Go.Proofs.Ytkafihaajpifoaf
