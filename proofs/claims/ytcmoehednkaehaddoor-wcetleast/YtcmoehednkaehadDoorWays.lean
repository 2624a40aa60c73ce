import Derived.Test.YtcmoehednkaehadDoorBegins
namespace Go.Proofs.YtcmoehednkaehadDoor
open Go.ChangeShapes Go.WideShapes Go.ChangeAt Go.RowKit

/-- A slice of numbers, wherever. -/
def IntSl (w : World) (vs : List Int) (v : Value) : Prop := ∃ ad c, v = .slice ad vs.length c ∧ (vs = [] ∨ ∃ b o, ad = some ⟨b, o, none⟩ ∧ ∀ j, j < vs.length → w.cell? ⟨b, o + j, none⟩ = some (.int .i64 (vs.getD j 0)))

/-- Where an instruction may go on. -/
def waysOf (k : Nat) (x : In) : List Int := if x.op = 11 then [x.a] else if x.op = 12 then [x.a, (k : Int) + 1] else if x.op = 14 then [x.b, (k : Int) + 1] else [(k : Int) + 1]

theorem one_sl (w : World) (z : Int) : IntSl (w.alloc (.cells #[.int .i64 z] 3)) [z] (.slice (some ⟨w.heap.size, 0, none⟩) 1 1) := by
  refine ⟨_, _, rfl, .inr ⟨w.heap.size, 0, rfl, fun j hj => ?_⟩⟩
  have h := (cells_of (l := [.int .i64 z]) (heap_alloc_new w (.cells #[.int .i64 z] 3))).1
  have hj' : j < 1 := hj
  have : j = 0 := by omega
  subst this
  exact h 0 _ rfl

theorem two_sl (w : World) (z y : Int) : IntSl (w.alloc (.cells #[.int .i64 z, .int .i64 y] 3)) [z, y] (.slice (some ⟨w.heap.size, 0, none⟩) 2 2) := by
  refine ⟨_, _, rfl, .inr ⟨w.heap.size, 0, rfl, fun j hj => ?_⟩⟩
  have h := (cells_of (l := [.int .i64 z, .int .i64 y]) (heap_alloc_new w (.cells #[.int .i64 z, .int .i64 y] 3))).1
  have hj' : j < 2 := hj
  have : j = 0 ∨ j = 1 := by omega
  rcases this with rfl | rfl
  · exact h 0 _ rfl
  · exact h 1 _ rfl

theorem one_sl' (w : World) (o : Obj) (z : Int) : IntSl ((w.alloc o).alloc (.cells #[.int .i64 z] 3)) [z] (.slice (some ⟨w.heap.size + 1, 0, none⟩) 1 1) := by
  have := one_sl (w.alloc o) z
  rwa [show (w.alloc o).heap.size = w.heap.size + 1 by simp] at this
theorem two_sl' (w : World) (o : Obj) (z y : Int) : IntSl ((w.alloc o).alloc (.cells #[.int .i64 z, .int .i64 y] 3)) [z, y] (.slice (some ⟨w.heap.size + 1, 0, none⟩) 2 2) := by
  have := two_sl (w.alloc o) z y
  rwa [show (w.alloc o).heap.size = w.heap.size + 1 by simp] at this

set_option maxRecDepth 20000 in
set_option maxHeartbeats 4000000 in
/-- ways. -/
theorem ways_any (w : World) (k : Nat) (x : In) (hk : k ≤ 4194304) : Calls Tryd.prog 82 #[.int .i64 k, x.val] w fun r w' => (∃ v, r = .returned v ∧ IntSl w' (waysOf k x) v) ∧ Below w.heap.size w w' := by
  obtain ⟨op, a, b⟩ := x
  show Calls Tryd.prog 82 #[.int .i64 k, .agg #[.int .i64 op, .int .i64 a, .int .i64 b]] w _
  unfold waysOf
  dsimp only
  by_cases h1 : op = 11
  · subst h1
    rw [if_pos rfl]
    go_enter Tryd.func82, Tryd.ntmps82
    go_wp2_with fail
    go_ret
    exact ⟨⟨_, rfl, one_sl' _ _ _⟩, (below_new _ _).alloc (by simp) _⟩
  rw [if_neg h1]
  by_cases h2 : op = 12
  · subst h2
    rw [if_pos rfl]
    go_enter Tryd.func82, Tryd.ntmps82
    go_wp2_with fail
    go_ret
    exact ⟨⟨_, rfl, two_sl' _ _ _ _⟩, (below_new _ _).alloc (by simp) _⟩
  rw [if_neg h2]
  by_cases h3 : op = 14
  · subst h3
    rw [if_pos rfl]
    go_enter Tryd.func82, Tryd.ntmps82
    go_wp2_with fail
    go_ret
    exact ⟨⟨_, rfl, two_sl' _ _ _ _⟩, (below_new _ _).alloc (by simp) _⟩
  rw [if_neg h3]
  have f1 : (op == 11) = false := by simpa using h1
  have f2 : (op == 12) = false := by simpa using h2
  have f3 : (op == 14) = false := by simpa using h3
  go_enter Tryd.func82, Tryd.ntmps82
  go_wp2_with fail
  go_ret
  exact ⟨⟨_, rfl, one_sl' _ _ _⟩, (below_new _ _).alloc (by simp) _⟩
end Go.Proofs.YtcmoehednkaehadDoor
