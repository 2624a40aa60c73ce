import Derived.Test.YtikdidfgdiafoabDoorGRunC
import Derived.Test.YtikdidfgdiafoabDoorGStepA
import Derived.Test.YtikdidfgdiafoabDoorGFirst
namespace Go.Proofs.YtikdidfgdiafoabDoor
open Go.ChangeShapes Go.WideShapes Go.ChangeAt Go.RowKit

set_option maxRecDepth 20000 in
/-- Mean's two results. -/
theorem Mean_ends {w : World} {g : Nat} {x y z c k : Value} {a : Act} (h : Kept2 w g x y z c k) (h6 : a.tmps[6]?.getD undef = .pointer (some ⟨g, 0, none⟩)) (h7 : a.tmps[7]?.getD undef = .pointer (some ⟨g + 1, 0, none⟩)) :
    (results Tryd.f7 a.tmps).run Tryd.prog w = .ok (.tuple #[.agg #[x, y, z], .agg #[c, k]]) w := by
  obtain ⟨c1, f1, l1⟩ := cells_of (l := [_, _, _]) h.1
  obtain ⟨c2, f2, l2⟩ := cells_of (l := [_, _]) h.2
  have c10 := c1 0 _ rfl; have c11 := c1 1 _ rfl; have c12 := c1 2 _ rfl; have c20 := c2 0 _ rfl; have c21 := c2 1 _ rfl
  simp [results, Tryd.results7, go_sem, h6, h7, c10, c11, c12, c20, c21]

set_option maxRecDepth 20000 in
set_option maxHeartbeats 4000000 in
/-- Mean, of a body that is refused. -/
theorem Mean_bad (w : World) (v vv iv : Value) (c k : Int) (hc : c ≠ 0) (hC : ∀ W, Below w.heap.size w W → Calls Tryd.prog 21 #[v] W fun r w' => r = .returned (.agg #[.int .i64 c, .int .i64 k]) ∧ Below W.heap.size W w') :
    Calls Tryd.prog 7 #[v, vv, iv] w fun r w' => r = .returned (.tuple #[.agg #[.slice none 0 0, .slice none 0 0, .int .i64 0], .agg #[.int .i64 c, .int .i64 k]]) ∧ Below w.heap.size w w' := by
  have HC : Hid (∀ W, Below w.heap.size w W → Calls Tryd.prog 21 #[v] W fun r w' => r = .returned (.agg #[.int .i64 c, .int .i64 k]) ∧ Below W.heap.size W w') := hC
  clear hC
  go_enter Tryd.func7, Tryd.ntmps7
  go_wp2_with (go_at_call 21; refine (HC.out _ (((Below.refl _ w).alloc (Nat.le_refl _) _).alloc (by simp) _)).mono ?_; rintro r w3 ⟨rfl, hb3⟩; have HB : Hid (Kept2 w3 w.heap.size (.slice none 0 0) (.slice none 0 0) (.int .i64 0) (.int .i64 0) (.int .i64 0) ∧ Below w.heap.size w w3) := ⟨(Kept2.made w _ _ _ _ _).below hb3, below_seq (((Below.refl _ w).alloc (Nat.le_refl _) _).alloc (by simp) _) hb3⟩; clear hb3; obtain ⟨c1, f1, l1⟩ := cells_of (l := [_, _, _]) HB.out.1.1; obtain ⟨c2, f2, l2⟩ := cells_of (l := [_, _]) HB.out.1.2; have c10 := c1 0 _ rfl; have c11 := c1 1 _ rfl; have c12 := c1 2 _ rfl; have c20 := c2 0 _ rfl; have c21 := c2 1 _ rfl; clear c1 c2)
  go_region
  go_wp2
  exact bodyPost_ret (v := .tuple #[.agg #[.slice none 0 0, .slice none 0 0, .int .i64 0], .agg #[.int .i64 c, .int .i64 k]]) (Mean_ends ((HB.out.1.put _ _ _ _ _).alloc _).drew rfl rfl) rfl ⟨rfl, ((((((HB.out.2.setCell (Nat.le_refl _) _).setCell (Nat.le_refl _) _).setCell (Nat.le_refl _) _).setCell (Nat.le_succ _) _).setCell (Nat.le_succ _) _).alloc (by simp; omega) _).drew⟩
end Go.Proofs.YtikdidfgdiafoabDoor
namespace Go.Proofs.YtikdidfgdiafoabDoor
open Go.ChangeShapes Go.WideShapes Go.ChangeAt Go.RowKit

set_option maxRecDepth 20000 in
set_option maxHeartbeats 4000000 in
/-- Mean, of variables or inputs that are not eight and four. -/
theorem Mean_range (w : World) (v : Value) (va ia : Option Addr) (vn vc im ic : Nat) (hn : vn ≠ 8 ∨ im ≠ 4) (hC : ∀ W, Below w.heap.size w W → Calls Tryd.prog 21 #[v] W fun r w' => r = .returned (.agg #[.int .i64 0, .int .i64 0]) ∧ Below W.heap.size W w') :
    Calls Tryd.prog 7 #[v, .slice va vn vc, .slice ia im ic] w fun r w' => r = .returned (.tuple #[.agg #[.slice none 0 0, .slice none 0 0, .int .i64 0], .agg #[.int .i64 3, .int .i64 0]]) ∧ Below w.heap.size w w' := by
  have HC : Hid (∀ W, Below w.heap.size w W → Calls Tryd.prog 21 #[v] W fun r w' => r = .returned (.agg #[.int .i64 0, .int .i64 0]) ∧ Below W.heap.size W w') := hC
  clear hC
  go_enter Tryd.func7, Tryd.ntmps7
  go_wp2_with (first | (go_at_call 21; refine (HC.out _ (((Below.refl _ w).alloc (Nat.le_refl _) _).alloc (by simp) _)).mono ?_; rintro r w3 ⟨rfl, hb3⟩; have HB : Hid (Kept2 w3 w.heap.size (.slice none 0 0) (.slice none 0 0) (.int .i64 0) (.int .i64 0) (.int .i64 0) ∧ Below w.heap.size w w3) := ⟨(Kept2.made w _ _ _ _ _).below hb3, below_seq (((Below.refl _ w).alloc (Nat.le_refl _) _).alloc (by simp) _) hb3⟩; clear hb3; have HH : Hid (Kept2 (w3.alloc (.cells #[.int .i64 0, .int .i64 0] 31)) w.heap.size (.slice none 0 0) (.slice none 0 0) (.int .i64 0) (.int .i64 0) (.int .i64 0) ∧ Below w.heap.size w (w3.alloc (.cells #[.int .i64 0, .int .i64 0] 31))) := ⟨HB.out.1.alloc _, HB.out.2.alloc HB.out.2.size _⟩; clear HB) | (go_at_call 22; refine (F_any 3 0 _).mono ?_; rintro r wf ⟨rfl, hbf⟩; have HF : Hid (Kept2 wf w.heap.size (.slice none 0 0) (.slice none 0 0) (.int .i64 0) (.int .i64 0) (.int .i64 0) ∧ Below w.heap.size w wf) := ⟨HH.out.1.below hbf, HH.out.2.trans (hbf.mono HH.out.2.size)⟩; clear hbf; obtain ⟨c1, f1, l1⟩ := cells_of (l := [_, _, _]) HF.out.1.1; obtain ⟨c2, f2, l2⟩ := cells_of (l := [_, _]) HF.out.1.2; have c10 := c1 0 _ rfl; have c11 := c1 1 _ rfl; have c12 := c1 2 _ rfl; have c20 := c2 0 _ rfl; have c21 := c2 1 _ rfl; clear c1 c2))
  all_goals exact bodyPost_ret (v := .tuple #[.agg #[.slice none 0 0, .slice none 0 0, .int .i64 0], .agg #[.int .i64 3, .int .i64 0]]) (Mean_ends (HF.out.1.put _ _ _ _ _) rfl rfl) rfl ⟨rfl, (((((HF.out.2.setCell (Nat.le_refl _) _).setCell (Nat.le_refl _) _).setCell (Nat.le_refl _) _).setCell (Nat.le_succ _) _).setCell (Nat.le_succ _) _)⟩
end Go.Proofs.YtikdidfgdiafoabDoor
