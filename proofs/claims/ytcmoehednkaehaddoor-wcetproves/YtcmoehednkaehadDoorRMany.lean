import Derived.Test.YtcmoehednkaehadDoorGMOver
namespace Go.Proofs.YtcmoehednkaehadDoor
open Go.ChangeShapes Go.WideShapes Go.ChangeAt Go.RowKit

set_option maxRecDepth 20000 in
set_option maxHeartbeats 4000000 in
theorem ReadImage_many (w : World) (n : Nat) (iad : Option Addr) (ic : Nat) (hl : 2000 < n) : Calls Tryd.prog 37 #[.slice iad n ic] w fun r w' => (∃ p, r = .returned (.tuple #[p, .agg #[.int .i64 2, .int .i64 0]])) ∧ Below w.heap.size w w' := by
  have hg : (2000 : Int) < (n : Int) := by omega
  go_enter Tryd.func37, Tryd.ntmps37
  go_wp2_with (go_at_call 21; refine (F_any 2 0 _).mono ?_; rintro r w9 ⟨rfl, hb9⟩; have H9 : Hid (R1 w w9 (.slice iad n ic)) := (R1.start w (.slice iad n ic)).grow hb9; obtain ⟨rs9, rf9, rl9⟩ := cells_of (l := [_, _]) H9.out.res; have r90 := rs9 0 _ rfl; have r91 := rs9 1 _ rfl; clear hb9 rs9)
  exact bodyPost_ret (v := .tuple #[.pointer none, .agg #[.int .i64 2, .int .i64 0]]) (RI_ends (by simpa using setCell_at (i := 1) (u := .int .i64 0) (setCell_at (i := 0) (u := .int .i64 2) H9.out.res)) rfl rfl) rfl ⟨⟨_, rfl⟩, (H9.out.bel.setCell (by show w.heap.size ≤ w.heap.size + 1; omega) _).setCell (by show w.heap.size ≤ w.heap.size + 1; omega) _⟩
end Go.Proofs.YtcmoehednkaehadDoor
