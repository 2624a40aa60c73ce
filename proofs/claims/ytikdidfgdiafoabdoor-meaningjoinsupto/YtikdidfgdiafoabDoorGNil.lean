import Derived.Test.YtikdidfgdiafoabDoorGWhole
namespace Go.Proofs.YtikdidfgdiafoabDoor
open Go.ChangeShapes Go.WideShapes Go.ChangeAt Go.RowKit

set_option maxRecDepth 20000 in
set_option maxHeartbeats 4000000 in
/-- A list of nothing. -/
theorem list_nil (w : World) (p : Addr) :
    Calls Tryd.prog 37 #[.pointer (some p), .int .i64 0, .int .i64 0] w fun r w' => r = .returned (.tuple #[]) ∧ w' = w := by
  go_enter Tryd.func37, Tryd.ntmps37
  go_wp2_with fail
  go_loopw [6] (fun x wr => x = .int .i64 0 ∧ wr = w) (fun x _ => 0)
  case atStart => exact ⟨rfl, rfl⟩
  case round =>
    obtain ⟨rfl, rfl⟩ := hrel
    go_wp2_with fail
    go_end0
    exact ⟨rfl, rfl⟩

set_option maxRecDepth 20000 in
set_option maxHeartbeats 4000000 in
/-- All of a body with nothing in it. -/
theorem whole_nil (w : World) (rb vb B vc : Nat) (iv pv : Value) (s : Ms) (ad : Option Addr) (cap : Nat) (hr : Rn w rb vb B vc 67 iv (.slice ad 0 cap) pv s) :
    Calls Tryd.prog 28 #[.pointer (some ⟨rb, 0, none⟩)] w (WholePost rb vb B vc iv (.slice ad 0 cap) w pv (s, none)) := by
  obtain ⟨r0, r1, r2, r3, r4, rf, rl⟩ := hr.cells
  have hmf : ∀ (fn : Fn) (first cap : Array Value) (w : World), (Instr.makeFunc fn first cap).run Tryd.prog w = .ok (.func fn first cap) w := fun _ _ _ _ => rfl
  have HQ : Hid ((w.alloc (.cells #[.int .i64 0, .int .i64 0] 31)).heap[w.heap.size]? = some (.cells #[.int .i64 0, .int .i64 0] 31 (0, 0)) ∧ Rn (w.alloc (.cells #[.int .i64 0, .int .i64 0] 31)) rb vb B vc 67 iv (.slice ad 0 cap) pv s ∧ RR rb vb w (w.alloc (.cells #[.int .i64 0, .int .i64 0] 31)) pv pv ∧ (w.heap.size ≠ rb ∧ w.heap.size ≠ vb ∧ some w.heap.size ≠ pv.ownBlock)) :=
    ⟨heap_alloc_new w _, hr.below ((Below.refl _ _).alloc (Nat.le_refl _) _), RR.of_below ((Below.refl _ _).alloc (Nat.le_refl _) _), by omega, by have := hr.vcells.2.2; omega, fun e => by have := (hr.own_lt _ e.symm).2; omega⟩
  clear hr
  go_enter_defers Tryd.func28, Tryd.ntmps28
  go_wp2_with (go_at_call 37; refine (list_nil _ ⟨rb, 0, none⟩).mono ?_; rintro r w3 ⟨rfl, rfl⟩; have p0 : (w.alloc (.cells #[.int .i64 0, .int .i64 0] 31)).cell? ⟨w.heap.size, 0, none⟩ = some (.int .i64 0) := (by unfold World.cell?; rw [HQ.out.1]; rfl); have p1 : (w.alloc (.cells #[.int .i64 0, .int .i64 0] 31)).cell? ⟨w.heap.size, 1, none⟩ = some (.int .i64 0) := (by unfold World.cell?; rw [HQ.out.1]; rfl); have pf : ∀ j, (w.alloc (.cells #[.int .i64 0, .int .i64 0] 31)).frozen? ⟨w.heap.size, j, none⟩ = false := (by intro j; unfold World.frozen?; rw [HQ.out.1]; simp))
  refine leaves_cons (f := 36) (args := #[.pointer (some ⟨w.heap.size, 0, none⟩)]) (by simp) (by simp [go_sem]) ?_
  refine (catch_idle ⟨w.heap.size, 0, none⟩ _).mono ?_
  rintro e u' w'' ⟨rfl, rfl, rfl⟩
  simp [Leaves, settle, results, Tryd.results28, go_sem, p0, p1]
  exact ⟨rfl, pv, HQ.out.2.1, HQ.out.2.2.1⟩
end Go.Proofs.YtikdidfgdiafoabDoor
