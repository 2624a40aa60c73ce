import Derived.Test.YtekbkcgpjkecbalDoorTK
namespace Go.Proofs.YtekbkcgpjkecbalDoor
open Go.ChangeShapes Go.WideShapes Go.ChangeAt Go.RowKit

theorem rwithin_any (w : World) (n a b : Int) : Calls Tryd.prog 23 #[.int .i64 n, .int .i64 a, .int .i64 b] w fun r w' => r = .returned (.bool (within n a b)) ∧ w' = w := by
  go_enter Tryd.func23, Tryd.ntmps23
  go_wp2_with fail
  all_goals
    go_ret
    refine ⟨?_, rfl⟩
    show Ending.returned (Value.bool _) = _
    congr 2
    unfold within
    first | (simp; done) | (simp; omega)

theorem isStep_any (w : World) (n : Int) : Calls Tryd.prog 24 #[.int .i64 n] w fun r w' => r = .returned (.bool (within n 0 10000)) ∧ w' = w := by
  go_enter Tryd.func24, Tryd.ntmps24
  go_wp2_with (go_at_call 23; refine (rwithin_any _ _ _ _).mono ?_; rintro r w1 ⟨rfl, rfl⟩)
  go_ret
  exact ⟨rfl, rfl⟩

theorem rroundUp_any (w : World) (a b : Int) (ha : 0 ≤ a ∧ a ≤ 1000000) (hb : 1 ≤ b ∧ b ≤ 1000000) : Calls Tryd.prog 29 #[.int .i64 a, .int .i64 b] w fun r w' => r = .returned (.int .i64 ((a + b - 1) / b)) ∧ w' = w := by
  have q1 : IntKind.i64.wrap (a + b) = a + b := by rw [IntKind.wrap_i64]; omega
  have q2 : IntKind.i64.wrap (a + b - 1) = a + b - 1 := by rw [IntKind.wrap_i64]; omega
  have q3 : (b == 0) = false := beq_eq_false_iff_ne.2 (by omega)
  have q4 : ¬ b = 0 := by omega
  have q5 : (a + b - 1).tdiv b = (a + b - 1) / b := Int.tdiv_eq_ediv_of_nonneg (by omega)
  have hq : 0 ≤ (a + b - 1) / b ∧ (a + b - 1) / b ≤ a + b - 1 := ⟨Int.ediv_nonneg (by omega) (by omega), Int.ediv_le_self _ (by omega)⟩
  have q6 : IntKind.i64.wrap ((a + b - 1) / b) = (a + b - 1) / b := by rw [IntKind.wrap_i64]; omega
  clear hq
  go_enter Tryd.func29, Tryd.ntmps29
  go_wp2_with fail
  go_ret
  exact ⟨rfl, rfl⟩

end Go.Proofs.YtekbkcgpjkecbalDoor
