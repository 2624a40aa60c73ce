import Derived.Test.YtcmoehednkaehahGOE
import Derived.Deep.RegionHeld3
import Derived.Test.YtcmoehednkaehahGLD
namespace Go.Proofs.Ytcmoehednkaehah
open Go.ChangeShapes Go.WideShapes Go.ChangeAt Go.RowKit

def ltr (b : Bool) : Int := if b = true then 0 else 1

set_option maxRecDepth 20000 in
set_option maxHeartbeats 2000000 in
/-- Which of two goes ahead. -/
theorem ahead_any (w : World) (J o q : Nat) (xa xv ya yv : Int) (xb yb : Bool) (h0 : w.cell? ⟨J, o, none⟩ = some (.int .i64 xa)) (h1 : w.cell? ⟨J, o + 5, none⟩ = some (.bool xb)) (h2 : w.cell? ⟨J, o + 7, none⟩ = some (.int .i64 xv)) (h3 : w.cell? ⟨J, q, none⟩ = some (.int .i64 ya)) (h4 : w.cell? ⟨J, q + 5, none⟩ = some (.bool yb)) (h5 : w.cell? ⟨J, q + 7, none⟩ = some (.int .i64 yv)) :
    Calls Try.prog 40 #[.pointer (some ⟨J, o, none⟩), .pointer (some ⟨J, q, none⟩)] w fun r w' => r = .returned (.int .i64 (or3 (cmpI yv xv) (ltr xb - ltr yb) (cmpI xa ya))) ∧ Below w.heap.size w w' := by
  have hw : IntKind.i64.wrap (ltr xb - ltr yb) = ltr xb - ltr yb := by cases xb <;> cases yb <;> rfl
  have HX : ∀ w : World, Calls Try.prog 47 #[.bool xb] w fun r w' => r = .returned (.int .i64 (ltr xb)) ∧ w' = w := fun w => later_any w xb
  have HY : ∀ w : World, Calls Try.prog 47 #[.bool yb] w fun r w' => r = .returned (.int .i64 (ltr yb)) ∧ w' = w := fun w => later_any w yb
  generalize ltr xb = lx1 at *
  generalize ltr yb = ly1 at *
  go_enter Try.func40, Try.ntmps40
  go_wp2_with fail

  have hS0 : (fun w' : World => w'.cell? ⟨J, o, none⟩ = some (.int .i64 xa) ∧ w'.cell? ⟨J, o + 5, none⟩ = some (.bool xb) ∧ w'.cell? ⟨J, o + 7, none⟩ = some (.int .i64 xv) ∧ w'.cell? ⟨J, q, none⟩ = some (.int .i64 ya) ∧ w'.cell? ⟨J, q + 5, none⟩ = some (.bool yb) ∧ w'.cell? ⟨J, q + 7, none⟩ = some (.int .i64 yv)) w.drew := ⟨h0, h1, h2, h3, h4, h5⟩
  refine wp_region_noPanic ?_
  refine wp_region_held_drew (S := fun w' => w'.cell? ⟨J, o, none⟩ = some (.int .i64 xa) ∧ w'.cell? ⟨J, o + 5, none⟩ = some (.bool xb) ∧ w'.cell? ⟨J, o + 7, none⟩ = some (.int .i64 xv) ∧ w'.cell? ⟨J, q, none⟩ = some (.int .i64 ya) ∧ w'.cell? ⟨J, q + 5, none⟩ = some (.bool yb) ∧ w'.cell? ⟨J, q + 7, none⟩ = some (.int .i64 yv)) (by kernel_rfl) hS0 (fun hHeld => ?_)
  refine take_at (i := 0) (n := 5) (v := ?_) rfl rfl (by kernel_rfl) (by kernel_rfl) (by kernel_rfl) (fun _ _ _ h => h) (Or.inl ⟨by rfl, ?_⟩) (by assumption) ?_
  rotate_left 1
  · intro wz hSw
    obtain ⟨s0, s1, s2, s3, s4, s5⟩ := hSw
    first | (go_simp; done) | (go_simp; with_reducible rfl)
  simp only [List.set_cons_zero, List.set_cons_succ]
  refine take_at (i := 1) (n := 6) (v := ?_) rfl rfl (by kernel_rfl) (by kernel_rfl) (by kernel_rfl) (fun _ _ _ h => h) (Or.inl ⟨by rfl, ?_⟩) (by assumption) ?_
  rotate_left 1
  · intro wz hSw
    obtain ⟨s0, s1, s2, s3, s4, s5⟩ := hSw
    first | (go_simp; done) | (go_simp; with_reducible rfl)
  simp only [List.set_cons_zero, List.set_cons_succ]
  refine take_at (i := 2) (n := 7) (v := ?_) rfl rfl (by kernel_rfl) (by kernel_rfl) (by kernel_rfl) (fun _ _ _ h => h) (Or.inl ⟨by rfl, ?_⟩) (by assumption) ?_
  rotate_left 1
  · intro wz hSw
    obtain ⟨s0, s1, s2, s3, s4, s5⟩ := hSw
    first | (go_simp; done) | (go_simp; with_reducible rfl)
  simp only [List.set_cons_zero, List.set_cons_succ]
  refine take_at (i := 3) (n := 8) (v := ?_) rfl rfl (by kernel_rfl) (by kernel_rfl) (by kernel_rfl) (fun _ _ _ h => h) (Or.inl ⟨by rfl, ?_⟩) (by assumption) ?_
  rotate_left 1
  · intro wz hSw
    obtain ⟨s0, s1, s2, s3, s4, s5⟩ := hSw
    first | (go_simp; done) | (go_simp; with_reducible rfl)
  simp only [List.set_cons_zero, List.set_cons_succ]
  refine take_at (i := 4) (n := 9) (v := ?_) rfl rfl (by kernel_rfl) (by kernel_rfl) (by kernel_rfl) (fun _ _ _ h => h) (Or.inl ⟨by rfl, ?_⟩) (by assumption) ?_
  rotate_left 1
  · intro wz hSw
    obtain ⟨s0, s1, s2, s3, s4, s5⟩ := hSw
    first | (go_simp; done) | (go_simp; with_reducible rfl)
  simp only [List.set_cons_zero, List.set_cons_succ]
  refine take_at (i := 5) (n := 10) (v := ?_) rfl rfl (by kernel_rfl) (by kernel_rfl) (by kernel_rfl) (fun _ _ _ h => h) (Or.inl ⟨by rfl, ?_⟩) (by assumption) ?_
  rotate_left 1
  · intro wz hSw
    obtain ⟨s0, s1, s2, s3, s4, s5⟩ := hSw
    first | (go_simp; done) | (go_simp; with_reducible rfl)
  simp only [List.set_cons_zero, List.set_cons_succ]
  refine take_at (i := 6) (n := 11) (v := ?_) rfl rfl (by kernel_rfl) (by kernel_rfl) (by kernel_rfl) (fun _ _ _ h => h) (Or.inl ⟨by rfl, ?_⟩) (by assumption) ?_
  rotate_left 1
  · intro wz hSw
    obtain ⟨s0, s1, s2, s3, s4, s5⟩ := hSw
    first | (go_simp; done) | (go_simp; with_reducible rfl)
  simp only [List.set_cons_zero, List.set_cons_succ]
  refine take_at (i := 7) (n := 12) (v := ?_) rfl rfl (by kernel_rfl) (by kernel_rfl) (by kernel_rfl) (fun _ _ _ h => h) (Or.inl ⟨by rfl, ?_⟩) (by assumption) ?_
  rotate_left 1
  · intro wz hSw
    obtain ⟨s0, s1, s2, s3, s4, s5⟩ := hSw
    first | (go_simp; done) | (go_simp; with_reducible rfl)
  simp only [List.set_cons_zero, List.set_cons_succ]
  refine take_at (i := 9) (n := 14) (v := ?_) rfl rfl (by kernel_rfl) (by kernel_rfl) (by kernel_rfl) (fun _ _ _ h => h) (Or.inl ⟨by rfl, ?_⟩) (by assumption) ?_
  rotate_left 1
  · intro wz hSw
    obtain ⟨s0, s1, s2, s3, s4, s5⟩ := hSw
    first | (go_simp; done) | (go_simp; with_reducible rfl)
  simp only [List.set_cons_zero, List.set_cons_succ]
  refine take_at (i := 10) (n := 15) (v := ?_) rfl rfl (by kernel_rfl) (by kernel_rfl) (by kernel_rfl) (fun _ _ _ h => h) (Or.inl ⟨by rfl, ?_⟩) (by assumption) ?_
  rotate_left 1
  · intro wz hSw
    obtain ⟨s0, s1, s2, s3, s4, s5⟩ := hSw
    first | (go_simp; done) | (go_simp; with_reducible rfl)
  simp only [List.set_cons_zero, List.set_cons_succ]
  refine take_at (i := 11) (n := 16) (v := ?_) rfl rfl (by kernel_rfl) (by kernel_rfl) (by kernel_rfl) (fun _ _ _ h => h) (Or.inl ⟨by rfl, ?_⟩) (by assumption) ?_
  rotate_left 1
  · intro wz hSw
    obtain ⟨s0, s1, s2, s3, s4, s5⟩ := hSw
    first | (go_simp; done) | (go_simp; with_reducible rfl)
  simp only [List.set_cons_zero, List.set_cons_succ]
  refine take_at (i := 12) (n := 17) (v := ?_) rfl rfl (by kernel_rfl) (by kernel_rfl) (by kernel_rfl) (fun _ _ _ h => h) (Or.inl ⟨by rfl, ?_⟩) (by assumption) ?_
  rotate_left 1
  · intro wz hSw
    obtain ⟨s0, s1, s2, s3, s4, s5⟩ := hSw
    first | (go_simp; done) | (go_simp; with_reducible rfl)
  simp only [List.set_cons_zero, List.set_cons_succ]
  refine take_at (i := 14) (n := 19) (v := ?_) rfl rfl (by kernel_rfl) (by kernel_rfl) (by kernel_rfl) (fun _ _ _ h => h) (Or.inl ⟨by rfl, ?_⟩) (by assumption) ?_
  rotate_left 1
  · intro wz hSw
    obtain ⟨s0, s1, s2, s3, s4, s5⟩ := hSw
    first | (go_simp; done) | (go_simp; with_reducible rfl)
  simp only [List.set_cons_zero, List.set_cons_succ]
  refine take_at (i := 15) (n := 20) (v := ?_) rfl rfl (by kernel_rfl) (by kernel_rfl) (by kernel_rfl) (fun _ _ _ h => h) (Or.inl ⟨by rfl, ?_⟩) (by assumption) ?_
  rotate_left 1
  · intro wz hSw
    obtain ⟨s0, s1, s2, s3, s4, s5⟩ := hSw
    first | (go_simp; done) | (go_simp; with_reducible rfl)
  simp only [List.set_cons_zero, List.set_cons_succ]
  refine take_at (i := 16) (n := 21) (v := ?_) rfl rfl (by kernel_rfl) (by kernel_rfl) (by kernel_rfl) (fun _ _ _ h => h) (Or.inl ⟨by rfl, ?_⟩) (by assumption) ?_
  rotate_left 1
  · intro wz hSw
    obtain ⟨s0, s1, s2, s3, s4, s5⟩ := hSw
    first | (go_simp; done) | (go_simp; with_reducible rfl)
  simp only [List.set_cons_zero, List.set_cons_succ]
  refine take_at (i := 17) (n := 22) (v := ?_) rfl rfl (by kernel_rfl) (by kernel_rfl) (by kernel_rfl) (fun _ _ _ h => h) (Or.inl ⟨by rfl, ?_⟩) (by assumption) ?_
  rotate_left 1
  · intro wz hSw
    obtain ⟨s0, s1, s2, s3, s4, s5⟩ := hSw
    first | (go_simp; done) | (go_simp; with_reducible rfl)
  simp only [List.set_cons_zero, List.set_cons_succ]
  refine take_at (i := 20) (n := 25) (v := ?_) rfl rfl (by kernel_rfl) (by kernel_rfl) (by kernel_rfl) (fun _ _ _ h => h) (Or.inl ⟨by rfl, ?_⟩) (by assumption) ?_
  rotate_left 1
  · intro wz hSw
    obtain ⟨s0, s1, s2, s3, s4, s5⟩ := hSw
    first | (go_simp; done) | (go_simp; with_reducible rfl)
  simp only [List.set_cons_zero, List.set_cons_succ]
  refine take_at (i := 21) (n := 26) (v := ?_) rfl rfl (by kernel_rfl) (by kernel_rfl) (by kernel_rfl) (fun _ _ _ h => h) (Or.inl ⟨by rfl, ?_⟩) (by assumption) ?_
  rotate_left 1
  · intro wz hSw
    obtain ⟨s0, s1, s2, s3, s4, s5⟩ := hSw
    first | (go_simp; done) | (go_simp; with_reducible rfl)
  simp only [List.set_cons_zero, List.set_cons_succ]
  refine take_at (i := 22) (n := 27) (v := ?_) rfl rfl (by kernel_rfl) (by kernel_rfl) (by kernel_rfl) (fun _ _ _ h => h) (Or.inl ⟨by rfl, ?_⟩) (by assumption) ?_
  rotate_left 1
  · intro wz hSw
    obtain ⟨s0, s1, s2, s3, s4, s5⟩ := hSw
    first | (go_simp; done) | (go_simp; with_reducible rfl)
  simp only [List.set_cons_zero, List.set_cons_succ]
  refine take_at (i := 23) (n := 28) (v := ?_) rfl rfl (by kernel_rfl) (by kernel_rfl) (by kernel_rfl) (fun _ _ _ h => h) (Or.inl ⟨by rfl, ?_⟩) (by assumption) ?_
  rotate_left 1
  · intro wz hSw
    obtain ⟨s0, s1, s2, s3, s4, s5⟩ := hSw
    first | (go_simp; done) | (go_simp; with_reducible rfl)
  simp only [List.set_cons_zero, List.set_cons_succ]
  refine take_at (i := 24) (n := 29) (v := ?_) rfl rfl (by kernel_rfl) (by kernel_rfl) (by kernel_rfl) (fun _ _ _ h => h) (Or.inl ⟨by rfl, ?_⟩) (by assumption) ?_
  rotate_left 1
  · intro wz hSw
    obtain ⟨s0, s1, s2, s3, s4, s5⟩ := hSw
    first | (go_simp; done) | (go_simp; with_reducible rfl)
  simp only [List.set_cons_zero, List.set_cons_succ]
  refine take_at (i := 25) (n := 30) (v := ?_) rfl rfl (by kernel_rfl) (by kernel_rfl) (by kernel_rfl) (fun _ _ _ h => h) (Or.inl ⟨by rfl, ?_⟩) (by assumption) ?_
  rotate_left 1
  · intro wz hSw
    obtain ⟨s0, s1, s2, s3, s4, s5⟩ := hSw
    first | (go_simp; done) | (go_simp; with_reducible rfl)
  simp only [List.set_cons_zero, List.set_cons_succ]
  refine take_at (i := 26) (n := 31) (v := ?_) rfl rfl (by kernel_rfl) (by kernel_rfl) (by kernel_rfl) (fun _ _ _ h => h) (Or.inl ⟨by rfl, ?_⟩) (by assumption) ?_
  rotate_left 1
  · intro wz hSw
    obtain ⟨s0, s1, s2, s3, s4, s5⟩ := hSw
    first | (go_simp; done) | (go_simp; with_reducible rfl)
  simp only [List.set_cons_zero, List.set_cons_succ]
  refine take_at (i := 27) (n := 32) (v := ?_) rfl rfl (by kernel_rfl) (by kernel_rfl) (by kernel_rfl) (fun _ _ _ h => h) (Or.inl ⟨by rfl, ?_⟩) (by assumption) ?_
  rotate_left 1
  · intro wz hSw
    obtain ⟨s0, s1, s2, s3, s4, s5⟩ := hSw
    first | (go_simp; done) | (go_simp; with_reducible rfl)
  simp only [List.set_cons_zero, List.set_cons_succ]
  refine take_at (i := 28) (n := 33) (v := ?_) rfl rfl (by kernel_rfl) (by kernel_rfl) (by kernel_rfl) (fun _ _ _ h => h) (Or.inl ⟨by rfl, ?_⟩) (by assumption) ?_
  rotate_left 1
  · intro wz hSw
    obtain ⟨s0, s1, s2, s3, s4, s5⟩ := hSw
    first | (go_simp; done) | (go_simp; with_reducible rfl)
  simp only [List.set_cons_zero, List.set_cons_succ]
  refine take_at (i := 29) (n := 34) (v := ?_) rfl rfl (by kernel_rfl) (by kernel_rfl) (by kernel_rfl) (fun _ _ _ h => h) (Or.inl ⟨by rfl, ?_⟩) (by assumption) ?_
  rotate_left 1
  · intro wz hSw
    obtain ⟨s0, s1, s2, s3, s4, s5⟩ := hSw
    first | (go_simp; done) | (go_simp; with_reducible rfl)
  simp only [List.set_cons_zero, List.set_cons_succ]
  have hS1 : (fun w' : World => w'.cell? ⟨J, o, none⟩ = some (.int .i64 xa) ∧ w'.cell? ⟨J, o + 5, none⟩ = some (.bool xb) ∧ w'.cell? ⟨J, o + 7, none⟩ = some (.int .i64 xv) ∧ w'.cell? ⟨J, q, none⟩ = some (.int .i64 ya) ∧ w'.cell? ⟨J, q + 5, none⟩ = some (.bool yb) ∧ w'.cell? ⟨J, q + 7, none⟩ = some (.int .i64 yv)) (w.drew.alloc (.cells #[.int .i64 (cmpI yv xv), .int .i64 (lx1 - ly1), .int .i64 (cmpI xa ya)] 3)) := by
    obtain ⟨s0, s1, s2, s3, s4, s5⟩ := hS0
    exact ⟨below_cell (below_new _ _) s0, below_cell (below_new _ _) s1, below_cell (below_new _ _) s2, below_cell (below_new _ _) s3, below_cell (below_new _ _) s4, below_cell (below_new _ _) s5⟩
  obtain ⟨hcs, -, -⟩ := cells_of (l := [_, _, _]) (heap_alloc_new w.drew (.cells #[.int .i64 (cmpI yv xv), .int .i64 (lx1 - ly1), .int .i64 (cmpI xa ya)] 3))
  have hc0 := hcs 0 _ rfl
  have hc1 := hcs 1 _ rfl
  have hc2 := hcs 2 _ rfl
  clear hcs
  rw [show w.drew.heap.size = w.heap.size from rfl] at hc0 hc1 hc2
  refine wpAnyH_ready (rs := [8]) (by kernel_rfl) (by simp) ?_
  refine AllReadyH.cons rfl (fun K hK => ?_) AllReadyH.nil
  go_simp
  go_wp2_with (go_at_call 46; refine (Compare_any _ yv xv).mono ?_; rintro r w1 ⟨rfl, rfl⟩)
  refine hK.out _ _ hS0 (fun hHeld => ?_)
  clear hK K
  refine wpAnyH_ready (rs := [13]) (by kernel_rfl) (by simp) ?_
  refine AllReadyH.cons rfl (fun K hK => ?_) AllReadyH.nil
  go_simp
  go_wp2_with (go_at_call 47; refine (HX _).mono ?_; rintro r w1 ⟨rfl, rfl⟩)
  refine hK.out _ _ hS0 (fun hHeld => ?_)
  clear hK K
  refine wpAnyH_ready (rs := [18]) (by kernel_rfl) (by simp) ?_
  refine AllReadyH.cons rfl (fun K hK => ?_) AllReadyH.nil
  go_simp
  go_wp2_with (go_at_call 47; refine (HY _).mono ?_; rintro r w1 ⟨rfl, rfl⟩)
  refine hK.out _ _ hS0 (fun hHeld => ?_)
  clear hK K
  refine take_at (i := 19) (n := 24) (v := ?_) rfl rfl (by kernel_rfl) (by kernel_rfl) (by kernel_rfl) (fun _ _ _ h => h) (Or.inl ⟨by rfl, ?_⟩) (by assumption) ?_
  rotate_left 1
  · intro wz hSw
    obtain ⟨s0, s1, s2, s3, s4, s5⟩ := hSw
    first | (go_simp; done) | (go_simp; with_reducible rfl)
  simp only [List.set_cons_zero, List.set_cons_succ]
  clear hw
  refine wpAnyH_ready (rs := [30]) (by kernel_rfl) (by simp) ?_
  refine AllReadyH.cons rfl (fun K hK => ?_) AllReadyH.nil
  go_simp
  go_wp2_with (go_at_call 46; refine (Compare_any _ xa ya).mono ?_; rintro r w1 ⟨rfl, rfl⟩)
  refine hK.out _ _ hS0 (fun hHeld => ?_)
  clear hK K
  refine wpAnyH_ready (rs := [31]) (by kernel_rfl) (by simp) ?_
  refine AllReadyH.cons rfl (fun K hK => ?_) AllReadyH.nil
  go_simp
  refine hK.out _ _ hS1 (fun hHeld => ?_)
  clear hK K
  refine wpAnyH_ready (rs := [32]) (by kernel_rfl) (by simp) ?_
  refine AllReadyH.cons rfl (fun K hK => ?_) AllReadyH.nil
  go_simp
  go_wp2_with (go_at_call 45; refine (Or_any _ (cmpI yv xv) (lx1 - ly1) (cmpI xa ya) w.heap.size hc0 hc1 hc2).mono ?_; rintro r w1 ⟨rfl, rfl⟩)
  refine hK.out _ _ hS1 (fun hHeld => ?_)
  clear hK K
  refine take_at (i := 33) (n := 4) (v := ?_) rfl rfl (by kernel_rfl) (by kernel_rfl) (by kernel_rfl) (fun _ _ _ h => h) (Or.inl ⟨by rfl, ?_⟩) (by assumption) ?_
  rotate_left 1
  · intro wz hSw
    obtain ⟨s0, s1, s2, s3, s4, s5⟩ := hSw
    first | (go_simp; done) | (go_simp; with_reducible rfl)
  simp only [List.set_cons_zero, List.set_cons_succ]
  refine wpAnyH_done (by kernel_rfl) ?_ _
  refine NoPanic.normal ?_
  go_wp2_with fail
  go_ret
  exact ⟨rfl, (Below.refl _ w).drew.alloc (Nat.le_refl _) _⟩
end Go.Proofs.Ytcmoehednkaehah
namespace Go.Proofs.Ytcmoehednkaehah.Once

/- The ceiling's argument, of numbers alone: nobody ever waits. -/
structure Sy where
  n : Nat
  a : Nat → Int
  p : Nat → Int
  top : Int → Int

structure Sx where
  bg : Nat → Prop
  dn : Nat → Prop
  hd : Nat → List Int

def actL (top : Int → Int) : List Int → Int → Int
  | [], z => z
  | L :: r, z => max (top L) (actL top r z)

def act (y : Sy) (s : Sx) (i : Nat) : Int := actL y.top (s.hd i) (y.p i)

theorem actL_ge (top : Int → Int) : ∀ (l : List Int) (z : Int), z ≤ actL top l z
  | [], _ => Int.le_refl _
  | L :: r, z => by have := actL_ge top r z; rw [actL]; omega

theorem actL_top (top : Int → Int) : ∀ (l : List Int) (z : Int) (L : Int), L ∈ l → top L ≤ actL top l z
  | [], _, _, h => by simp at h
  | M :: r, z, L, h => by
    rw [actL]
    rcases List.mem_cons.1 h with rfl | h
    · omega
    · have := actL_top top r z L h
      omega

theorem actL_is (top : Int → Int) : ∀ (l : List Int) (z : Int), actL top l z = z ∨ ∃ L ∈ l, actL top l z = top L
  | [], _ => .inl rfl
  | M :: r, z => by
    rw [actL]
    by_cases h : actL top r z ≤ top M
    · exact .inr ⟨M, List.mem_cons_self, by omega⟩
    · rcases actL_is top r z with e | ⟨L, h1, e⟩
      · exact .inl (by omega)
      · exact .inr ⟨L, List.mem_cons_of_mem _ h1, by omega⟩

theorem act_ge (y : Sy) (s : Sx) (i : Nat) : y.p i ≤ act y s i := actL_ge _ _ _
theorem act_top (y : Sy) (s : Sx) {i : Nat} {L : Int} (h : L ∈ s.hd i) : y.top L ≤ act y s i := actL_top _ _ _ _ h
theorem act_none (y : Sy) (s : Sx) {i : Nat} (h : s.hd i = []) : act y s i = y.p i := by unfold act; rw [h]; rfl
theorem act_is (y : Sy) (s : Sx) (i : Nat) : act y s i = y.p i ∨ ∃ L ∈ s.hd i, act y s i = y.top L := actL_is _ _ _

def lx (y : Sy) (i k : Nat) : Prop := y.a i < y.a k ∨ (y.a i = y.a k ∧ i < k)
def ah (y : Sy) (s : Sx) (i k : Nat) : Prop := act y s k < act y s i ∨ (act y s i = act y s k ∧ ((s.bg i ∧ ¬ s.bg k) ∨ ((s.bg i ↔ s.bg k) ∧ lx y i k)))
def There (y : Sy) (s : Sx) (now : Int) (i : Nat) : Prop := i < y.n ∧ y.a i ≤ now ∧ ¬ s.dn i
def Fm (y : Sy) (s : Sx) (now : Int) (i : Nat) : Prop := There y s now i ∧ ∀ k, There y s now k → k ≠ i → ah y s i k

structure Inv (y : Sy) (s : Sx) (now : Int) : Prop where
  bgt : ∀ i, s.bg i → i < y.n ∧ y.a i ≤ now
  held : ∀ i, s.hd i ≠ [] → s.bg i ∧ ¬ s.dn i
  own : ∀ i L, L ∈ s.hd i → y.p i ≤ y.top L
  i5 : ∀ i k, s.bg i → k < y.n → ¬ s.bg k → ¬ s.dn k → y.p i ≤ y.p k → lx y i k
  i6 : ∀ i k, s.hd i ≠ [] → k < y.n → k ≠ i → ¬ s.dn k → y.p i ≤ y.p k → lx y i k
  i4 : ∀ i k, i ≠ k → s.hd i ≠ [] → s.hd k ≠ [] → (∀ L ∈ s.hd i, y.top L < y.p k) ∨ (∀ L ∈ s.hd k, y.top L < y.p i)

theorem lx_asymm {y : Sy} {i k : Nat} (h : lx y i k) (h' : lx y k i) : False := by
  unfold lx at h h'
  omega

theorem Inv.there {y : Sy} {s : Sx} {now : Int} (v : Inv y s now) {i : Nat} (h : s.hd i ≠ []) : There y s now i :=
  ⟨(v.bgt i (v.held i h).1).1, (v.bgt i (v.held i h).1).2, (v.held i h).2⟩

/-- Who goes first, and holds none, has more than whoever holds some. -/
theorem Inv.more {y : Sy} {s : Sx} {now : Int} (v : Inv y s now) {i k : Nat} (hf : Fm y s now i) (hi : s.hd i = []) (hk : s.hd k ≠ []) : act y s k < y.p i := by
  have hne : k ≠ i := fun e => hk (e ▸ hi)
  have h := hf.2 k (v.there hk) hne
  have e := act_none y s hi
  have hg := act_ge y s k
  unfold ah at h
  rw [e] at h
  rcases h with h | ⟨h1, ⟨-, h2⟩ | ⟨-, h2⟩⟩
  · exact h
  · exact absurd (v.held k hk).1 h2
  · exact (lx_asymm h2 (v.i6 k i hk hf.1.1 (Ne.symm hne) hf.1.2.2 (by omega))).elim

/-- Who goes first, beside another that holds some, both holding some. -/
theorem Inv.less {y : Sy} {s : Sx} {now : Int} (v : Inv y s now) {i k : Nat} (hf : Fm y s now i) (hne : k ≠ i) (hi : s.hd i ≠ []) (hk : s.hd k ≠ []) : ∀ L ∈ s.hd k, y.top L < y.p i := by
  rcases v.i4 k i hne hk hi with h | h
  · exact h
  · exfalso
    have h1 : act y s i < act y s k := by
      have hg := act_ge y s k
      obtain ⟨M, hM⟩ := List.exists_mem_of_ne_nil _ hi
      have hp := v.own i M hM
      have hq := h M hM
      rcases act_is y s i with e | ⟨L, hL, e⟩
      · omega
      · have := h L hL
        omega
    have h2 := hf.2 k (v.there hk) hne
    unfold ah at h2
    omega

/-- Nobody else holds what the one that goes first takes. -/
theorem Inv.free {y : Sy} {s : Sx} {now : Int} (v : Inv y s now) {i k : Nat} {L : Int} (hf : Fm y s now i) (hL : y.p i ≤ y.top L) (hne : k ≠ i) : L ∉ s.hd k := by
  intro h
  have hk : s.hd k ≠ [] := fun e => by rw [e] at h; simp at h
  have ht := act_top y s h
  by_cases hi : s.hd i = []
  · have := v.more hf hi hk
    omega
  · have := v.less hf hne hi hk L h
    omega

def setP (f : Nat → Prop) (i : Nat) : Nat → Prop := fun k => k = i ∨ f k
def setH (f : Nat → List Int) (i : Nat) (l : List Int) : Nat → List Int := fun k => if k = i then l else f k
theorem setH_same (f : Nat → List Int) (i : Nat) (l : List Int) : setH f i l i = l := if_pos rfl
theorem setH_other (f : Nat → List Int) {i k : Nat} (l : List Int) (h : k ≠ i) : setH f i l k = f k := if_neg h

/-- One begins. -/
theorem Inv.begin {y : Sy} {s : Sx} {now : Int} (v : Inv y s now) {i : Nat} (hf : Fm y s now i) : Inv y ⟨setP s.bg i, s.dn, s.hd⟩ now := by
  refine ⟨fun k hk => ?_, fun k hk => ⟨.inr (v.held k hk).1, (v.held k hk).2⟩, v.own, fun k m hk hm hb hd hp => ?_, v.i6, v.i4⟩
  · rcases hk with rfl | hk
    · exact ⟨hf.1.1, hf.1.2.1⟩
    · exact v.bgt k hk
  · have hbm : ¬ s.bg m := fun h => hb (.inr h)
    have hmi : m ≠ i := fun e => hb (.inl e)
    by_cases hbk : s.bg k
    · exact v.i5 k m hbk hm hbm hd hp
    · rcases hk with rfl | hk
      · by_cases ht : y.a m ≤ now
        · have h := hf.2 m ⟨hm, ht, hd⟩ hmi
          have e1 := act_none y s (i := k) (Classical.byContradiction fun e => hbk (v.held k e).1)
          have e2 := act_ge y s m
          unfold ah at h
          rcases h with h | ⟨-, ⟨h1, -⟩ | ⟨-, h2⟩⟩
          · omega
          · exact absurd h1 hbk
          · exact h2
        · exact .inl (by have := hf.1.2.1; omega)
      · exact absurd hk hbk

theorem Fm.begin {y : Sy} {s : Sx} {now : Int} {i : Nat} (hf : Fm y s now i) : Fm y ⟨setP s.bg i, s.dn, s.hd⟩ now i := by
  refine ⟨hf.1, fun k hk hne => ?_⟩
  have h := hf.2 k hk hne
  unfold ah at h ⊢
  rcases h with h | ⟨h1, h⟩
  · exact .inl h
  · refine .inr ⟨h1, ?_⟩
    by_cases hb : s.bg k
    · rcases h with ⟨-, h⟩ | ⟨-, h⟩
      · exact absurd hb h
      · exact .inr ⟨⟨fun _ => .inr hb, fun _ => .inl rfl⟩, h⟩
    · exact .inl ⟨.inl rfl, fun h => h.elim hne hb⟩

/-- One that has begun takes a lock. -/
theorem Inv.take {y : Sy} {s : Sx} {now : Int} (v : Inv y s now) {i : Nat} {L : Int} (hf : Fm y s now i) (hb : s.bg i) (hL : y.p i ≤ y.top L) : Inv y ⟨s.bg, s.dn, setH s.hd i (L :: s.hd i)⟩ now := by
  have key : ∀ k, k ≠ i → s.hd k ≠ [] → ∀ M ∈ s.hd k, y.top M < y.p i := fun k hne hk M hM => by
    by_cases hi : s.hd i = []
    · have := v.more hf hi hk
      have := act_top y s hM
      omega
    · exact v.less hf hne hi hk M hM
  refine ⟨v.bgt, fun k hk => ?_, fun k M hM => ?_, v.i5, fun k m hk hm hne hd hp => ?_, fun k m hne hk hm => ?_⟩
  · by_cases e : k = i
    · subst e; exact ⟨hb, hf.1.2.2⟩
    · exact v.held k (by rw [← setH_other s.hd (L :: s.hd i) e]; exact hk)
  · by_cases e : k = i
    · subst e
      have hM' : M ∈ L :: s.hd k := by rw [← setH_same s.hd k (L :: s.hd k)]; exact hM
      rcases List.mem_cons.1 hM' with rfl | h
      · exact hL
      · exact v.own k M h
    · exact v.own k M (by rw [← setH_other s.hd (L :: s.hd i) e]; exact hM)
  · by_cases e : k = i
    · subst e
      by_cases hi : s.hd k = []
      · by_cases ht : y.a m ≤ now
        · have h := hf.2 m ⟨hm, ht, hd⟩ hne
          have e1 := act_none y s hi
          have e2 := act_ge y s m
          unfold ah at h
          rcases h with h | ⟨-, ⟨-, h2⟩ | ⟨-, h2⟩⟩
          · omega
          · exact v.i5 k m hb hm h2 hd hp
          · exact h2
        · exact .inl (by have := hf.1.2.1; omega)
      · exact v.i6 k m hi hm hne hd hp
    · exact v.i6 k m (by rw [← setH_other s.hd (L :: s.hd i) e]; exact hk) hm hne hd hp
  · by_cases e : k = i
    · subst e
      have e2 := setH_other s.hd (L :: s.hd k) (Ne.symm hne)
      right
      intro M hM
      have hM' : M ∈ s.hd m := by rw [← e2]; exact hM
      exact key m (Ne.symm hne) (by rw [← e2]; exact hm) M hM'
    · by_cases e' : m = i
      · subst e'
        have e2 := setH_other s.hd (L :: s.hd m) hne
        left
        intro M hM
        have hM' : M ∈ s.hd k := by rw [← e2]; exact hM
        exact key k hne (by rw [← e2]; exact hk) M hM'
      · have e1 := setH_other s.hd (L :: s.hd i) e
        have e2 := setH_other s.hd (L :: s.hd i) e'
        have := v.i4 k m hne (by rw [← e1]; exact hk) (by rw [← e2]; exact hm)
        show (∀ M ∈ setH s.hd i (L :: s.hd i) k, y.top M < y.p m) ∨ (∀ M ∈ setH s.hd i (L :: s.hd i) m, y.top M < y.p k)
        rw [e1, e2]
        exact this

/-- One gives the lock back that it took last. -/
theorem Inv.give {y : Sy} {s : Sx} {now : Int} (v : Inv y s now) {i : Nat} {L : Int} {r : List Int} (h : s.hd i = L :: r) : Inv y ⟨s.bg, s.dn, setH s.hd i r⟩ now := by
  have hs : ∀ k M, M ∈ setH s.hd i r k → M ∈ s.hd k := fun k M hM => by
    by_cases e : k = i
    · subst e
      rw [setH_same] at hM
      rw [h]
      exact List.mem_cons_of_mem _ hM
    · rw [setH_other _ _ e] at hM
      exact hM
  have hn : ∀ k, setH s.hd i r k ≠ [] → s.hd k ≠ [] := fun k hk e => by
    obtain ⟨M, hM⟩ := List.exists_mem_of_ne_nil _ hk
    have := hs k M hM
    rw [e] at this
    simp at this
  exact ⟨v.bgt, fun k hk => v.held k (hn k hk), fun k M hM => v.own k M (hs k M hM), v.i5, fun k m hk => v.i6 k m (hn k hk), fun k m hne hk hm => (v.i4 k m hne (hn k hk) (hn m hm)).imp (fun h M hM => h M (hs k M hM)) (fun h M hM => h M (hs m M hM))⟩

/-- One is done. -/
theorem Inv.done {y : Sy} {s : Sx} {now : Int} (v : Inv y s now) {i : Nat} (h : s.hd i = []) : Inv y ⟨s.bg, setP s.dn i, s.hd⟩ now :=
  ⟨v.bgt, fun k hk => ⟨(v.held k hk).1, fun hd => hd.elim (fun e => hk (e ▸ h)) (v.held k hk).2⟩, v.own, fun k m hb hm hbm hd => v.i5 k m hb hm hbm (fun h => hd (.inr h)), fun k m hk hm hne hd => v.i6 k m hk hm hne (fun h => hd (.inr h)), v.i4⟩

/-- Time goes on. -/
theorem Inv.later {y : Sy} {s : Sx} {now now' : Int} (v : Inv y s now) (h : now ≤ now') : Inv y s now' :=
  ⟨fun i hi => ⟨(v.bgt i hi).1, by have := (v.bgt i hi).2; omega⟩, v.held, v.own, v.i5, v.i6, v.i4⟩

/-- Ahead of the first tick. -/
theorem Inv.start (y : Sy) : Inv y ⟨fun _ => False, fun _ => False, fun _ => []⟩ 0 :=
  ⟨fun _ h => h.elim, fun _ h => absurd rfl h, fun _ _ h => by simp at h, fun _ _ h => h.elim, fun _ _ h => absurd rfl h, fun _ _ _ h => absurd rfl h⟩

/- How long one is held up. -/

/-- Whoever has less than j has, cannot come to run while j is there: what it holds stays as it is. -/
theorem Inv.below {y : Sy} {s : Sx} {now : Int} {i j : Nat} (hj : There y s now j) (hne : j ≠ i) (hl : act y s i < y.p j) : ¬ Fm y s now i := by
  intro hf
  have h := hf.2 j hj hne
  have := act_ge y s j
  unfold ah at h
  omega

/-- Of two that hold some and have less than j, one cannot run while j is there. -/
theorem Inv.one {y : Sy} {s : Sx} {now : Int} (v : Inv y s now) {i k j : Nat} (hne : i ≠ k) (hi : s.hd i ≠ []) (hk : s.hd k ≠ []) (hpi : y.p i < y.p j) (hpk : y.p k < y.p j) : act y s i < y.p j ∨ act y s k < y.p j := by
  rcases v.i4 i k hne hi hk with h | h
  · left
    rcases act_is y s i with e | ⟨L, hL, e⟩
    · omega
    · have := h L hL; omega
  · right
    rcases act_is y s k with e | ⟨L, hL, e⟩
    · omega
    · have := h L hL; omega
end Go.Proofs.Ytcmoehednkaehah.Once
namespace Go.Proofs.Ytcmoehednkaehah.Once

/-- How long j was held up so far (c), and how much longer it can be: lf is what is left to do of the stretch that one is in. -/
def Up (y : Sy) (s : Sx) (lf : Nat → Int) (j : Nat) (c most : Int) : Prop := c ≤ most ∧ ∀ r, y.p r < y.p j → y.p j ≤ act y s r → c + lf r ≤ most

theorem Up.start {y : Sy} {s : Sx} {lf : Nat → Int} {j : Nat} {most : Int} (h0 : 0 ≤ most) (h : ∀ r, y.p r < y.p j → s.hd r ≠ [] → lf r ≤ most) : Up y s lf j 0 most := by
  refine ⟨h0, fun r hr ha => ?_⟩
  have : s.hd r ≠ [] := fun e => by rw [act_none y s e] at ha; omega
  have := h r hr this
  omega

/-- One acts, and that takes no time. -/
theorem Up.step {y : Sy} {s s' : Sx} {lf lf' : Nat → Int} {j f : Nat} {c most now : Int} (u : Up y s lf j c most) (hj : There y s now j) (hf : Fm y s now f)
    (hd : ∀ r, r ≠ f → s'.hd r = s.hd r) (hl : ∀ r, r ≠ f → lf' r = lf r) (hs : s.hd f ≠ [] → s'.hd f ≠ [] → lf' f ≤ lf f) : Up y s' lf' j c most := by
  refine ⟨u.1, fun r hr ha => ?_⟩
  by_cases e : r = f
  · subst e
    have hne : j ≠ r := fun e => by subst e; omega
    by_cases hlow : act y s r < y.p j
    · exact absurd hf (Inv.below hj hne hlow)
    · have h1 := u.2 r hr (by omega)
      have h2 : s.hd r ≠ [] := fun e => by rw [act_none y s e] at hlow; omega
      have h3 : s'.hd r ≠ [] := fun e => by rw [act_none y s' e] at ha; omega
      have := hs h2 h3
      omega
  · have e1 : act y s' r = act y s r := by unfold act; rw [hd r e]
    rw [e1] at ha
    rw [hl r e]
    exact u.2 r hr ha

/-- One with more works for a tick, or j itself. -/
theorem Up.high {y : Sy} {s : Sx} {lf lf' : Nat → Int} {j f : Nat} {c most : Int} (u : Up y s lf j c most) (hp : y.p j ≤ y.p f) (hl : ∀ r, r ≠ f → lf' r = lf r) : Up y s lf' j c most :=
  ⟨u.1, fun r hr ha => by rw [hl r (fun e => by subst e; omega)]; exact u.2 r hr ha⟩

/-- One with less works for a tick: it holds some, and that much less is left. -/
theorem Up.low {y : Sy} {s : Sx} {lf lf' : Nat → Int} {j f : Nat} {c most now : Int} (v : Inv y s now) (u : Up y s lf j c most) (hj : There y s now j) (hf : Fm y s now f) (hp : y.p f < y.p j)
    (hl : ∀ r, r ≠ f → lf' r = lf r) (h0 : s.hd f ≠ [] → 0 ≤ lf' f ∧ lf' f + 1 ≤ lf f) : Up y s lf' j (c + 1) most := by
  have hne : j ≠ f := fun e => by subst e; omega
  have hhi : y.p j ≤ act y s f := by
    by_cases h : act y s f < y.p j
    · exact absurd hf (Inv.below hj hne h)
    · omega
  have hh : s.hd f ≠ [] := fun e => by rw [act_none y s e] at hhi; omega
  have h1 := u.2 f hp hhi
  obtain ⟨h2, h3⟩ := h0 hh
  refine ⟨by omega, fun r hr ha => ?_⟩
  by_cases e : r = f
  · subst e; omega
  · exfalso
    have hr' : s.hd r ≠ [] := fun e => by rw [act_none y s e] at ha; omega
    have := v.one e hr' hh hr hp
    omega
end Go.Proofs.Ytcmoehednkaehah.Once
