import Derived.Test.YtkafihaajpifoajNA
namespace Go.Proofs.Ytkafihaajpifoaj
open Go.ChangeShapes Go.WideShapes Go.ChangeAt Go.RowKit

theorem withinN_any (w : World) (n a b : Int) : Calls Try.prog 29 #[.int .i64 n, .int .i64 a, .int .i64 b] w fun r w' => r = .returned (.bool (within n a b)) ∧ w' = w := by
  by_cases h : a ≤ n
  · by_cases h2 : n ≤ b
    · have e : within n a b = true := by simp [within, h, h2]
      rw [e]
      go_enter Try.func29, Try.ntmps29
      go_wp2_with fail
      go_ret
      exact ⟨rfl, rfl⟩
    · have e : within n a b = false := by simp [within, h2]
      rw [e]
      go_enter Try.func29, Try.ntmps29
      go_wp2_with fail
      go_ret
      exact ⟨rfl, rfl⟩
  · have e : within n a b = false := by simp [within, h]
    rw [e]
    go_enter Try.func29, Try.ntmps29
    go_wp2_with fail
    go_ret
    exact ⟨rfl, rfl⟩

def isT (n : Int) : Bool := within n 1 10000

theorem isTime_any (w : World) (n : Int) : Calls Try.prog 50 #[.int .i64 n] w fun r w' => r = .returned (.bool (isT n)) ∧ w' = w := by
  unfold isT
  go_enter Try.func50, Try.ntmps50
  go_wp2_with (go_at_call 29; refine (withinN_any _ _ _ _).mono ?_; rintro r w1 ⟨rfl, hw1⟩; have hw2 := hw1.symm; subst hw2)
  go_ret
  exact ⟨rfl, rfl⟩

set_option maxRecDepth 20000 in
set_option maxHeartbeats 1000000 in
theorem wrong_any (w : World) (x : Fr) : Calls Try.prog 33 #[x.val] w fun r w' => r = .returned (.int .i64 (wrFr x)) ∧ Below w.heap.size w w' := by
  obtain ⟨c, t, d, j⟩ := x
  show Calls Try.prog 33 #[.agg #[.int .i64 c, .int .i64 t, .int .i64 d, .int .i64 j]] w _
  by_cases h1 : isT c = true
  rotate_left 1
  · have h1 : isT c = false := by simpa using h1
    have e : wrFr ⟨c, t, d, j⟩ = 3 := by unfold wrFr badFr; unfold isT within at *; simp at *; omega
    rw [e]
    go_enter Try.func33, Try.ntmps33
    go_wp2_with (first | (go_at_call 50; refine (isTime_any _ _).mono ?_; rintro r w1 ⟨rfl, hw1⟩; have hw2 := hw1.symm; subst hw2; first | rw [h1] | rw [h2] | rw [h3]) | (go_at_call 29; refine (withinN_any _ _ _ _).mono ?_; rintro r w1 ⟨rfl, hw1⟩; have hw2 := hw1.symm; subst hw2; rw [h4]))
    go_ret
    exact ⟨rfl, below_new _ _⟩
  by_cases h2 : isT t = true
  rotate_left 1
  · have h2 : isT t = false := by simpa using h2
    have e : wrFr ⟨c, t, d, j⟩ = 3 := by unfold wrFr badFr; unfold isT within at *; simp at *; omega
    rw [e]
    go_enter Try.func33, Try.ntmps33
    go_wp2_with (first | (go_at_call 50; refine (isTime_any _ _).mono ?_; rintro r w1 ⟨rfl, hw1⟩; have hw2 := hw1.symm; subst hw2; first | rw [h1] | rw [h2] | rw [h3]) | (go_at_call 29; refine (withinN_any _ _ _ _).mono ?_; rintro r w1 ⟨rfl, hw1⟩; have hw2 := hw1.symm; subst hw2; rw [h4]))
    go_ret
    exact ⟨rfl, below_new _ _⟩
  by_cases h3 : isT d = true
  rotate_left 1
  · have h3 : isT d = false := by simpa using h3
    have e : wrFr ⟨c, t, d, j⟩ = 3 := by unfold wrFr badFr; unfold isT within at *; simp at *; omega
    rw [e]
    go_enter Try.func33, Try.ntmps33
    go_wp2_with (first | (go_at_call 50; refine (isTime_any _ _).mono ?_; rintro r w1 ⟨rfl, hw1⟩; have hw2 := hw1.symm; subst hw2; first | rw [h1] | rw [h2] | rw [h3]) | (go_at_call 29; refine (withinN_any _ _ _ _).mono ?_; rintro r w1 ⟨rfl, hw1⟩; have hw2 := hw1.symm; subst hw2; rw [h4]))
    go_ret
    exact ⟨rfl, below_new _ _⟩
  by_cases h4 : within j 0 10000 = true
  rotate_left 1
  · have h4 : within j 0 10000 = false := by simpa using h4
    have e : wrFr ⟨c, t, d, j⟩ = 3 := by unfold wrFr badFr; unfold isT within at *; simp at *; omega
    rw [e]
    go_enter Try.func33, Try.ntmps33
    go_wp2_with (first | (go_at_call 50; refine (isTime_any _ _).mono ?_; rintro r w1 ⟨rfl, hw1⟩; have hw2 := hw1.symm; subst hw2; first | rw [h1] | rw [h2] | rw [h3]) | (go_at_call 29; refine (withinN_any _ _ _ _).mono ?_; rintro r w1 ⟨rfl, hw1⟩; have hw2 := hw1.symm; subst hw2; rw [h4]))
    go_ret
    exact ⟨rfl, below_new _ _⟩
  by_cases h5 : t < j
  · have e : wrFr ⟨c, t, d, j⟩ = 12 := by unfold wrFr badFr; unfold isT within at *; simp at *; omega
    rw [e]
    go_enter Try.func33, Try.ntmps33
    go_wp2_with (first | (go_at_call 50; refine (isTime_any _ _).mono ?_; rintro r w1 ⟨rfl, hw1⟩; have hw2 := hw1.symm; subst hw2; first | rw [h1] | rw [h2] | rw [h3]) | (go_at_call 29; refine (withinN_any _ _ _ _).mono ?_; rintro r w1 ⟨rfl, hw1⟩; have hw2 := hw1.symm; subst hw2; rw [h4]))
    go_ret
    exact ⟨rfl, below_new _ _⟩
  · have e : wrFr ⟨c, t, d, j⟩ = 0 := by unfold wrFr badFr; unfold isT within at *; simp at *; omega
    rw [e]
    go_enter Try.func33, Try.ntmps33
    go_wp2_with (first | (go_at_call 50; refine (isTime_any _ _).mono ?_; rintro r w1 ⟨rfl, hw1⟩; have hw2 := hw1.symm; subst hw2; first | rw [h1] | rw [h2] | rw [h3]) | (go_at_call 29; refine (withinN_any _ _ _ _).mono ?_; rintro r w1 ⟨rfl, hw1⟩; have hw2 := hw1.symm; subst hw2; rw [h4]))
    go_ret
    exact ⟨rfl, below_new _ _⟩
end Go.Proofs.Ytkafihaajpifoaj
