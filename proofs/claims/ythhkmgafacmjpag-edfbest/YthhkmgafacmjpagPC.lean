import Derived.Test.YthhkmgafacmjpagPB
namespace Go.Proofs.Ythhkmgafacmjpag
open Go.ChangeShapes Go.WideShapes Go.ChangeAt Go.RowKit

set_option maxRecDepth 20000 in
set_option maxHeartbeats 2000000 in
/-- Who goes first. -/
theorem ahead_any (w : World) (pol : Int) (x y : En) : Calls Try.prog 28 #[.int .i64 pol, .agg #[.int .i64 x.j.k, .int .i64 x.j.a, .int .i64 x.j.c, .int .i64 x.j.d, .int .i64 x.j.p, .int .i64 x.n, .int .i64 x.l], .agg #[.int .i64 y.j.k, .int .i64 y.j.a, .int .i64 y.j.c, .int .i64 y.j.d, .int .i64 y.j.p, .int .i64 y.n, .int .i64 y.l]] w fun r w' => r = .returned (.int .i64 (cfA pol x y)) ∧ Grown w w' := by
  obtain ⟨⟨xk, xa, xc, xd, xp⟩, xn, xl⟩ := x
  obtain ⟨⟨yk, ya, yc, yd, yp⟩, yn, yl⟩ := y
  dsimp only
  by_cases hp : pol = 1
  · have hp' : (pol == 1) = true := by simpa using hp
    rw [show cfA pol ⟨⟨xk, xa, xc, xd, xp⟩, xn, xl⟩ ⟨⟨yk, ya, yc, yd, yp⟩, yn, yl⟩ = or3 (cmpI yp xp) (cmpI xa ya) (cmpI xn yn) by unfold cfA; rw [if_pos hp]]
    have HP : Hid (pol = 1) := hp
    clear hp
    go_enter Try.func28, Try.ntmps28
    go_wp2_with (go_at_call 16; refine (Compare_any _ _ _).mono ?_; rintro r w1 ⟨rfl, rfl⟩)
    have hG : Grown w ((w.alloc (.cells #[.int .i64 xk, .int .i64 xa, .int .i64 xc, .int .i64 xd, .int .i64 xp, .int .i64 xn, .int .i64 xl] 63)).alloc (.cells #[.int .i64 yk, .int .i64 ya, .int .i64 yc, .int .i64 yd, .int .i64 yp, .int .i64 yn, .int .i64 yl] 63)) := ((Grown.refl w).alloc _).alloc _
    have hS0 : (fun w' : World => w'.cell? ⟨w.heap.size, 1, none⟩ = some (.int .i64 xa) ∧ w'.cell? ⟨w.heap.size, 5, none⟩ = some (.int .i64 xn) ∧ w'.cell? ⟨w.heap.size + 1, 1, none⟩ = some (.int .i64 ya) ∧ w'.cell? ⟨w.heap.size + 1, 5, none⟩ = some (.int .i64 yn)) ((w.alloc (.cells #[.int .i64 xk, .int .i64 xa, .int .i64 xc, .int .i64 xd, .int .i64 xp, .int .i64 xn, .int .i64 xl] 63)).alloc (.cells #[.int .i64 yk, .int .i64 ya, .int .i64 yc, .int .i64 yd, .int .i64 yp, .int .i64 yn, .int .i64 yl] 63)).drew := by
      refine ⟨?_, ?_, ?_, ?_⟩ <;> go_simp
    generalize (w.alloc (.cells #[.int .i64 xk, .int .i64 xa, .int .i64 xc, .int .i64 xd, .int .i64 xp, .int .i64 xn, .int .i64 xl] 63)).alloc (.cells #[.int .i64 yk, .int .i64 ya, .int .i64 yc, .int .i64 yd, .int .i64 yp, .int .i64 yn, .int .i64 yl] 63) = W0 at *
    have HG : Hid (Grown w W0) := hG
    clear hG
    refine wp_region_noPanic ?_
    refine wp_region_held_drew (S := fun w' => w'.cell? ⟨w.heap.size, 1, none⟩ = some (.int .i64 xa) ∧ w'.cell? ⟨w.heap.size, 5, none⟩ = some (.int .i64 xn) ∧ w'.cell? ⟨w.heap.size + 1, 1, none⟩ = some (.int .i64 ya) ∧ w'.cell? ⟨w.heap.size + 1, 5, none⟩ = some (.int .i64 yn)) (by kernel_rfl) hS0 (fun hHeld => ?_)
    refine take_at (i := 0) (n := 24) (v := ?_) rfl rfl (by kernel_rfl) (by kernel_rfl) (by kernel_rfl) (fun _ _ _ h => h) (Or.inl ⟨by rfl, ?_⟩) (by assumption) ?_
    rotate_left 1
    · intro wz hSw
      obtain ⟨s0, s1, s2, s3⟩ := hSw
      first | (go_simp; done) | (go_simp; with_reducible rfl)
    simp only [List.set_cons_zero, List.set_cons_succ]
    refine take_at (i := 1) (n := 25) (v := ?_) rfl rfl (by kernel_rfl) (by kernel_rfl) (by kernel_rfl) (fun _ _ _ h => h) (Or.inl ⟨by rfl, ?_⟩) (by assumption) ?_
    rotate_left 1
    · intro wz hSw
      obtain ⟨s0, s1, s2, s3⟩ := hSw
      first | (go_simp; done) | (go_simp; with_reducible rfl)
    simp only [List.set_cons_zero, List.set_cons_succ]
    refine take_at (i := 2) (n := 26) (v := ?_) rfl rfl (by kernel_rfl) (by kernel_rfl) (by kernel_rfl) (fun _ _ _ h => h) (Or.inl ⟨by rfl, ?_⟩) (by assumption) ?_
    rotate_left 1
    · intro wz hSw
      obtain ⟨s0, s1, s2, s3⟩ := hSw
      first | (go_simp; done) | (go_simp; with_reducible rfl)
    simp only [List.set_cons_zero, List.set_cons_succ]
    refine take_at (i := 3) (n := 27) (v := ?_) rfl rfl (by kernel_rfl) (by kernel_rfl) (by kernel_rfl) (fun _ _ _ h => h) (Or.inl ⟨by rfl, ?_⟩) (by assumption) ?_
    rotate_left 1
    · intro wz hSw
      obtain ⟨s0, s1, s2, s3⟩ := hSw
      first | (go_simp; done) | (go_simp; with_reducible rfl)
    simp only [List.set_cons_zero, List.set_cons_succ]
    refine take_at (i := 4) (n := 28) (v := ?_) rfl rfl (by kernel_rfl) (by kernel_rfl) (by kernel_rfl) (fun _ _ _ h => h) (Or.inl ⟨by rfl, ?_⟩) (by assumption) ?_
    rotate_left 1
    · intro wz hSw
      obtain ⟨s0, s1, s2, s3⟩ := hSw
      first | (go_simp; done) | (go_simp; with_reducible rfl)
    simp only [List.set_cons_zero, List.set_cons_succ]
    refine take_at (i := 5) (n := 29) (v := ?_) rfl rfl (by kernel_rfl) (by kernel_rfl) (by kernel_rfl) (fun _ _ _ h => h) (Or.inl ⟨by rfl, ?_⟩) (by assumption) ?_
    rotate_left 1
    · intro wz hSw
      obtain ⟨s0, s1, s2, s3⟩ := hSw
      first | (go_simp; done) | (go_simp; with_reducible rfl)
    simp only [List.set_cons_zero, List.set_cons_succ]
    refine take_at (i := 6) (n := 30) (v := ?_) rfl rfl (by kernel_rfl) (by kernel_rfl) (by kernel_rfl) (fun _ _ _ h => h) (Or.inl ⟨by rfl, ?_⟩) (by assumption) ?_
    rotate_left 1
    · intro wz hSw
      obtain ⟨s0, s1, s2, s3⟩ := hSw
      first | (go_simp; done) | (go_simp; with_reducible rfl)
    simp only [List.set_cons_zero, List.set_cons_succ]
    refine take_at (i := 8) (n := 32) (v := ?_) rfl rfl (by kernel_rfl) (by kernel_rfl) (by kernel_rfl) (fun _ _ _ h => h) (Or.inl ⟨by rfl, ?_⟩) (by assumption) ?_
    rotate_left 1
    · intro wz hSw
      obtain ⟨s0, s1, s2, s3⟩ := hSw
      first | (go_simp; done) | (go_simp; with_reducible rfl)
    simp only [List.set_cons_zero, List.set_cons_succ]
    refine take_at (i := 9) (n := 33) (v := ?_) rfl rfl (by kernel_rfl) (by kernel_rfl) (by kernel_rfl) (fun _ _ _ h => h) (Or.inl ⟨by rfl, ?_⟩) (by assumption) ?_
    rotate_left 1
    · intro wz hSw
      obtain ⟨s0, s1, s2, s3⟩ := hSw
      first | (go_simp; done) | (go_simp; with_reducible rfl)
    simp only [List.set_cons_zero, List.set_cons_succ]
    refine take_at (i := 10) (n := 34) (v := ?_) rfl rfl (by kernel_rfl) (by kernel_rfl) (by kernel_rfl) (fun _ _ _ h => h) (Or.inl ⟨by rfl, ?_⟩) (by assumption) ?_
    rotate_left 1
    · intro wz hSw
      obtain ⟨s0, s1, s2, s3⟩ := hSw
      first | (go_simp; done) | (go_simp; with_reducible rfl)
    simp only [List.set_cons_zero, List.set_cons_succ]
    refine take_at (i := 11) (n := 35) (v := ?_) rfl rfl (by kernel_rfl) (by kernel_rfl) (by kernel_rfl) (fun _ _ _ h => h) (Or.inl ⟨by rfl, ?_⟩) (by assumption) ?_
    rotate_left 1
    · intro wz hSw
      obtain ⟨s0, s1, s2, s3⟩ := hSw
      first | (go_simp; done) | (go_simp; with_reducible rfl)
    simp only [List.set_cons_zero, List.set_cons_succ]
    have hS1 : (fun w' : World => w'.cell? ⟨w.heap.size, 1, none⟩ = some (.int .i64 xa) ∧ w'.cell? ⟨w.heap.size, 5, none⟩ = some (.int .i64 xn) ∧ w'.cell? ⟨w.heap.size + 1, 1, none⟩ = some (.int .i64 ya) ∧ w'.cell? ⟨w.heap.size + 1, 5, none⟩ = some (.int .i64 yn)) (W0.drew.alloc (.cells #[.int .i64 (cmpI yp xp), .int .i64 (cmpI xa ya), .int .i64 (cmpI xn yn)] 3)) := by
      obtain ⟨s0, s1, s2, s3⟩ := hS0
      exact ⟨below_cell (below_new _ _) s0, below_cell (below_new _ _) s1, below_cell (below_new _ _) s2, below_cell (below_new _ _) s3⟩
    obtain ⟨hcs, -, -⟩ := cells_of (l := [_, _, _]) (heap_alloc_new W0.drew (.cells #[.int .i64 (cmpI yp xp), .int .i64 (cmpI xa ya), .int .i64 (cmpI xn yn)] 3))
    have hc0 := hcs 0 _ rfl
    have hc1 := hcs 1 _ rfl
    have hc2 := hcs 2 _ rfl
    clear hcs
    rw [show W0.drew.heap.size = W0.heap.size from rfl] at hc0 hc1 hc2
    refine wpAnyH_ready (rs := [7]) (by kernel_rfl) (by simp) ?_
    refine AllReadyH.cons rfl (fun K hK => ?_) AllReadyH.nil
    go_simp
    go_wp2_with (go_at_call 16; refine (Compare_any _ xa ya).mono ?_; rintro r w1 ⟨rfl, rfl⟩)
    refine hK.out _ _ hS0 (fun hHeld => ?_)
    clear hK K
    refine wpAnyH_ready (rs := [12]) (by kernel_rfl) (by simp) ?_
    refine AllReadyH.cons rfl (fun K hK => ?_) AllReadyH.nil
    go_simp
    go_wp2_with (go_at_call 16; refine (Compare_any _ xn yn).mono ?_; rintro r w1 ⟨rfl, rfl⟩)
    refine hK.out _ _ hS0 (fun hHeld => ?_)
    clear hK K
    refine wpAnyH_ready (rs := [13]) (by kernel_rfl) (by simp) ?_
    refine AllReadyH.cons rfl (fun K hK => ?_) AllReadyH.nil
    go_simp
    refine hK.out _ _ hS1 (fun hHeld => ?_)
    clear hK K
    refine wpAnyH_ready (rs := [14]) (by kernel_rfl) (by simp) ?_
    refine AllReadyH.cons rfl (fun K hK => ?_) AllReadyH.nil
    go_simp
    go_wp2_with (go_at_call 47; refine (Or_any _ (cmpI yp xp) (cmpI xa ya) (cmpI xn yn) W0.heap.size hc0 hc1 hc2).mono ?_; rintro r w1 ⟨rfl, rfl⟩)
    refine hK.out _ _ hS1 (fun hHeld => ?_)
    clear hK K
    refine take_at (i := 15) (n := 6) (v := ?_) rfl rfl (by kernel_rfl) (by kernel_rfl) (by kernel_rfl) (fun _ _ _ h => h) (Or.inl ⟨by rfl, ?_⟩) (by assumption) ?_
    rotate_left 1
    · intro wz hSw
      obtain ⟨s0, s1, s2, s3⟩ := hSw
      first | (go_simp; done) | (go_simp; with_reducible rfl)
    simp only [List.set_cons_zero, List.set_cons_succ]
    refine wpAnyH_done (by kernel_rfl) ?_ _
    refine NoPanic.normal ?_
    go_wp2_with fail
    go_ret
    exact ⟨rfl, HG.out.drew.alloc _⟩
  · have hp' : (pol == 1) = false := by simpa using hp
    rw [show cfA pol ⟨⟨xk, xa, xc, xd, xp⟩, xn, xl⟩ ⟨⟨yk, ya, yc, yd, yp⟩, yn, yl⟩ = or3 (cmpI xd yd) (cmpI xa ya) (cmpI xn yn) by unfold cfA; rw [if_neg hp]]
    have HP : Hid (¬ pol = 1) := hp
    clear hp
    go_enter Try.func28, Try.ntmps28
    go_wp2_with (go_at_call 16; refine (Compare_any _ _ _).mono ?_; rintro r w1 ⟨rfl, rfl⟩)
    have hG : Grown w ((w.alloc (.cells #[.int .i64 xk, .int .i64 xa, .int .i64 xc, .int .i64 xd, .int .i64 xp, .int .i64 xn, .int .i64 xl] 63)).alloc (.cells #[.int .i64 yk, .int .i64 ya, .int .i64 yc, .int .i64 yd, .int .i64 yp, .int .i64 yn, .int .i64 yl] 63)) := ((Grown.refl w).alloc _).alloc _
    have hS0 : (fun w' : World => w'.cell? ⟨w.heap.size, 1, none⟩ = some (.int .i64 xa) ∧ w'.cell? ⟨w.heap.size, 5, none⟩ = some (.int .i64 xn) ∧ w'.cell? ⟨w.heap.size + 1, 1, none⟩ = some (.int .i64 ya) ∧ w'.cell? ⟨w.heap.size + 1, 5, none⟩ = some (.int .i64 yn)) ((w.alloc (.cells #[.int .i64 xk, .int .i64 xa, .int .i64 xc, .int .i64 xd, .int .i64 xp, .int .i64 xn, .int .i64 xl] 63)).alloc (.cells #[.int .i64 yk, .int .i64 ya, .int .i64 yc, .int .i64 yd, .int .i64 yp, .int .i64 yn, .int .i64 yl] 63)).drew := by
      refine ⟨?_, ?_, ?_, ?_⟩ <;> go_simp
    generalize (w.alloc (.cells #[.int .i64 xk, .int .i64 xa, .int .i64 xc, .int .i64 xd, .int .i64 xp, .int .i64 xn, .int .i64 xl] 63)).alloc (.cells #[.int .i64 yk, .int .i64 ya, .int .i64 yc, .int .i64 yd, .int .i64 yp, .int .i64 yn, .int .i64 yl] 63) = W0 at *
    have HG : Hid (Grown w W0) := hG
    clear hG
    refine wp_region_noPanic ?_
    refine wp_region_held_drew (S := fun w' => w'.cell? ⟨w.heap.size, 1, none⟩ = some (.int .i64 xa) ∧ w'.cell? ⟨w.heap.size, 5, none⟩ = some (.int .i64 xn) ∧ w'.cell? ⟨w.heap.size + 1, 1, none⟩ = some (.int .i64 ya) ∧ w'.cell? ⟨w.heap.size + 1, 5, none⟩ = some (.int .i64 yn)) (by kernel_rfl) hS0 (fun hHeld => ?_)
    refine take_at (i := 0) (n := 24) (v := ?_) rfl rfl (by kernel_rfl) (by kernel_rfl) (by kernel_rfl) (fun _ _ _ h => h) (Or.inl ⟨by rfl, ?_⟩) (by assumption) ?_
    rotate_left 1
    · intro wz hSw
      obtain ⟨s0, s1, s2, s3⟩ := hSw
      first | (go_simp; done) | (go_simp; with_reducible rfl)
    simp only [List.set_cons_zero, List.set_cons_succ]
    refine take_at (i := 1) (n := 25) (v := ?_) rfl rfl (by kernel_rfl) (by kernel_rfl) (by kernel_rfl) (fun _ _ _ h => h) (Or.inl ⟨by rfl, ?_⟩) (by assumption) ?_
    rotate_left 1
    · intro wz hSw
      obtain ⟨s0, s1, s2, s3⟩ := hSw
      first | (go_simp; done) | (go_simp; with_reducible rfl)
    simp only [List.set_cons_zero, List.set_cons_succ]
    refine take_at (i := 2) (n := 26) (v := ?_) rfl rfl (by kernel_rfl) (by kernel_rfl) (by kernel_rfl) (fun _ _ _ h => h) (Or.inl ⟨by rfl, ?_⟩) (by assumption) ?_
    rotate_left 1
    · intro wz hSw
      obtain ⟨s0, s1, s2, s3⟩ := hSw
      first | (go_simp; done) | (go_simp; with_reducible rfl)
    simp only [List.set_cons_zero, List.set_cons_succ]
    refine take_at (i := 3) (n := 27) (v := ?_) rfl rfl (by kernel_rfl) (by kernel_rfl) (by kernel_rfl) (fun _ _ _ h => h) (Or.inl ⟨by rfl, ?_⟩) (by assumption) ?_
    rotate_left 1
    · intro wz hSw
      obtain ⟨s0, s1, s2, s3⟩ := hSw
      first | (go_simp; done) | (go_simp; with_reducible rfl)
    simp only [List.set_cons_zero, List.set_cons_succ]
    refine take_at (i := 4) (n := 28) (v := ?_) rfl rfl (by kernel_rfl) (by kernel_rfl) (by kernel_rfl) (fun _ _ _ h => h) (Or.inl ⟨by rfl, ?_⟩) (by assumption) ?_
    rotate_left 1
    · intro wz hSw
      obtain ⟨s0, s1, s2, s3⟩ := hSw
      first | (go_simp; done) | (go_simp; with_reducible rfl)
    simp only [List.set_cons_zero, List.set_cons_succ]
    refine take_at (i := 5) (n := 29) (v := ?_) rfl rfl (by kernel_rfl) (by kernel_rfl) (by kernel_rfl) (fun _ _ _ h => h) (Or.inl ⟨by rfl, ?_⟩) (by assumption) ?_
    rotate_left 1
    · intro wz hSw
      obtain ⟨s0, s1, s2, s3⟩ := hSw
      first | (go_simp; done) | (go_simp; with_reducible rfl)
    simp only [List.set_cons_zero, List.set_cons_succ]
    refine take_at (i := 6) (n := 30) (v := ?_) rfl rfl (by kernel_rfl) (by kernel_rfl) (by kernel_rfl) (fun _ _ _ h => h) (Or.inl ⟨by rfl, ?_⟩) (by assumption) ?_
    rotate_left 1
    · intro wz hSw
      obtain ⟨s0, s1, s2, s3⟩ := hSw
      first | (go_simp; done) | (go_simp; with_reducible rfl)
    simp only [List.set_cons_zero, List.set_cons_succ]
    refine take_at (i := 8) (n := 32) (v := ?_) rfl rfl (by kernel_rfl) (by kernel_rfl) (by kernel_rfl) (fun _ _ _ h => h) (Or.inl ⟨by rfl, ?_⟩) (by assumption) ?_
    rotate_left 1
    · intro wz hSw
      obtain ⟨s0, s1, s2, s3⟩ := hSw
      first | (go_simp; done) | (go_simp; with_reducible rfl)
    simp only [List.set_cons_zero, List.set_cons_succ]
    refine take_at (i := 9) (n := 33) (v := ?_) rfl rfl (by kernel_rfl) (by kernel_rfl) (by kernel_rfl) (fun _ _ _ h => h) (Or.inl ⟨by rfl, ?_⟩) (by assumption) ?_
    rotate_left 1
    · intro wz hSw
      obtain ⟨s0, s1, s2, s3⟩ := hSw
      first | (go_simp; done) | (go_simp; with_reducible rfl)
    simp only [List.set_cons_zero, List.set_cons_succ]
    refine take_at (i := 10) (n := 34) (v := ?_) rfl rfl (by kernel_rfl) (by kernel_rfl) (by kernel_rfl) (fun _ _ _ h => h) (Or.inl ⟨by rfl, ?_⟩) (by assumption) ?_
    rotate_left 1
    · intro wz hSw
      obtain ⟨s0, s1, s2, s3⟩ := hSw
      first | (go_simp; done) | (go_simp; with_reducible rfl)
    simp only [List.set_cons_zero, List.set_cons_succ]
    refine take_at (i := 11) (n := 35) (v := ?_) rfl rfl (by kernel_rfl) (by kernel_rfl) (by kernel_rfl) (fun _ _ _ h => h) (Or.inl ⟨by rfl, ?_⟩) (by assumption) ?_
    rotate_left 1
    · intro wz hSw
      obtain ⟨s0, s1, s2, s3⟩ := hSw
      first | (go_simp; done) | (go_simp; with_reducible rfl)
    simp only [List.set_cons_zero, List.set_cons_succ]
    have hS1 : (fun w' : World => w'.cell? ⟨w.heap.size, 1, none⟩ = some (.int .i64 xa) ∧ w'.cell? ⟨w.heap.size, 5, none⟩ = some (.int .i64 xn) ∧ w'.cell? ⟨w.heap.size + 1, 1, none⟩ = some (.int .i64 ya) ∧ w'.cell? ⟨w.heap.size + 1, 5, none⟩ = some (.int .i64 yn)) (W0.drew.alloc (.cells #[.int .i64 (cmpI xd yd), .int .i64 (cmpI xa ya), .int .i64 (cmpI xn yn)] 3)) := by
      obtain ⟨s0, s1, s2, s3⟩ := hS0
      exact ⟨below_cell (below_new _ _) s0, below_cell (below_new _ _) s1, below_cell (below_new _ _) s2, below_cell (below_new _ _) s3⟩
    obtain ⟨hcs, -, -⟩ := cells_of (l := [_, _, _]) (heap_alloc_new W0.drew (.cells #[.int .i64 (cmpI xd yd), .int .i64 (cmpI xa ya), .int .i64 (cmpI xn yn)] 3))
    have hc0 := hcs 0 _ rfl
    have hc1 := hcs 1 _ rfl
    have hc2 := hcs 2 _ rfl
    clear hcs
    rw [show W0.drew.heap.size = W0.heap.size from rfl] at hc0 hc1 hc2
    refine wpAnyH_ready (rs := [7]) (by kernel_rfl) (by simp) ?_
    refine AllReadyH.cons rfl (fun K hK => ?_) AllReadyH.nil
    go_simp
    go_wp2_with (go_at_call 16; refine (Compare_any _ xa ya).mono ?_; rintro r w1 ⟨rfl, rfl⟩)
    refine hK.out _ _ hS0 (fun hHeld => ?_)
    clear hK K
    refine wpAnyH_ready (rs := [12]) (by kernel_rfl) (by simp) ?_
    refine AllReadyH.cons rfl (fun K hK => ?_) AllReadyH.nil
    go_simp
    go_wp2_with (go_at_call 16; refine (Compare_any _ xn yn).mono ?_; rintro r w1 ⟨rfl, rfl⟩)
    refine hK.out _ _ hS0 (fun hHeld => ?_)
    clear hK K
    refine wpAnyH_ready (rs := [13]) (by kernel_rfl) (by simp) ?_
    refine AllReadyH.cons rfl (fun K hK => ?_) AllReadyH.nil
    go_simp
    refine hK.out _ _ hS1 (fun hHeld => ?_)
    clear hK K
    refine wpAnyH_ready (rs := [14]) (by kernel_rfl) (by simp) ?_
    refine AllReadyH.cons rfl (fun K hK => ?_) AllReadyH.nil
    go_simp
    go_wp2_with (go_at_call 47; refine (Or_any _ (cmpI xd yd) (cmpI xa ya) (cmpI xn yn) W0.heap.size hc0 hc1 hc2).mono ?_; rintro r w1 ⟨rfl, rfl⟩)
    refine hK.out _ _ hS1 (fun hHeld => ?_)
    clear hK K
    refine take_at (i := 15) (n := 6) (v := ?_) rfl rfl (by kernel_rfl) (by kernel_rfl) (by kernel_rfl) (fun _ _ _ h => h) (Or.inl ⟨by rfl, ?_⟩) (by assumption) ?_
    rotate_left 1
    · intro wz hSw
      obtain ⟨s0, s1, s2, s3⟩ := hSw
      first | (go_simp; done) | (go_simp; with_reducible rfl)
    simp only [List.set_cons_zero, List.set_cons_succ]
    refine wpAnyH_done (by kernel_rfl) ?_ _
    refine NoPanic.normal ?_
    go_wp2_with fail
    go_ret
    exact ⟨rfl, HG.out.drew.alloc _⟩

set_option maxRecDepth 20000 in
/-- The closure that asks it: the policy lies in a box. -/
theorem aheadC_any (w : World) (pol : Int) (pb : Nat) (x y : En) (hp : w.cell? ⟨pb, 0, none⟩ = some (.int .i64 pol)) : Calls Try.prog 27 #[.agg #[.int .i64 x.j.k, .int .i64 x.j.a, .int .i64 x.j.c, .int .i64 x.j.d, .int .i64 x.j.p, .int .i64 x.n, .int .i64 x.l], .agg #[.int .i64 y.j.k, .int .i64 y.j.a, .int .i64 y.j.c, .int .i64 y.j.d, .int .i64 y.j.p, .int .i64 y.n, .int .i64 y.l], .pointer (some ⟨pb, 0, none⟩)] w fun r w' => r = .returned (.int .i64 (cfA pol x y)) ∧ Grown w w' := by
  obtain ⟨⟨xk, xa, xc, xd, xp⟩, xn, xl⟩ := x
  obtain ⟨⟨yk, ya, yc, yd, yp⟩, yn, yl⟩ := y
  dsimp only
  have hA := ahead_any ((w.alloc (.cells #[.int .i64 xk, .int .i64 xa, .int .i64 xc, .int .i64 xd, .int .i64 xp, .int .i64 xn, .int .i64 xl] 63)).alloc (.cells #[.int .i64 yk, .int .i64 ya, .int .i64 yc, .int .i64 yd, .int .i64 yp, .int .i64 yn, .int .i64 yl] 63)) pol ⟨⟨xk, xa, xc, xd, xp⟩, xn, xl⟩ ⟨⟨yk, ya, yc, yd, yp⟩, yn, yl⟩
  dsimp only at hA
  have lp : pb < w.heap.size := World.block_lt_of_cell? _ _ hp
  go_enter Try.func27, Try.ntmps27
  go_wp2_with (go_at_call 28; refine hA.mono ?_; rintro r w1 ⟨rfl, hg1⟩; have H1 : Hid (Grown w w1) := (((Grown.refl w).alloc _).alloc _).trans hg1; clear hg1 hA)
  go_ret
  exact ⟨rfl, H1.out⟩
end Go.Proofs.Ythhkmgafacmjpag
