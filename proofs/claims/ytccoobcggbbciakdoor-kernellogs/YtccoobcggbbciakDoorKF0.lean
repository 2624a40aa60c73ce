import Derived.Test.YtccoobcggbbciakDoorTB
import Derived.Test.YtccoobcggbbciakDoorKE0
namespace Go.Proofs.YtccoobcggbbciakDoor
open Go.ChangeShapes Go.WideShapes Go.ChangeAt Go.RowKit

def Ev.val (e : Ev) : Value := .agg #[.int .i64 e.at_, .int .i64 e.k, .int .i64 e.t, .int .i64 e.m, .int .i64 e.n]
def Ev.vals (e : Ev) : List Value := [.int .i64 e.at_, .int .i64 e.k, .int .i64 e.t, .int .i64 e.m, .int .i64 e.n]

def standsB (e : Ev) : Bool := within e.k 1 6 && within e.at_ 0 20000 && within e.t 0 7 && (if e.k = 6 then within e.m 0 3 else decide (e.m = 0) && within e.n 0 3999)
theorem standsB_is (e : Ev) : standsB e = decide (standsE e) := by
  rw [Bool.eq_iff_iff, decide_eq_true_iff]
  unfold standsB standsE within
  by_cases h : e.k = 6
  · rw [if_pos h]
    simp only [Bool.and_eq_true, decide_eq_true_eq]
    omega
  · rw [if_neg h]
    simp only [Bool.and_eq_true, decide_eq_true_eq]
    omega

set_option maxRecDepth 20000 in
theorem withinK_any (w : World) (n a b : Int) : Calls Tryd.prog 61 #[.int .i64 n, .int .i64 a, .int .i64 b] w fun r w' => r = .returned (.bool (within n a b)) ∧ w' = w := by
  go_enter Tryd.func61, Tryd.ntmps61
  go_wp2_with fail
  all_goals
    go_ret
    refine ⟨?_, rfl⟩
    show Ending.returned (Value.bool _) = _
    congr 2
    unfold within
    first | (simp; done) | (simp; omega)

set_option maxRecDepth 20000 in
set_option maxHeartbeats 4000000 in
theorem mayStandK_any (w : World) (e : Ev) : Calls Tryd.prog 45 #[e.val] w fun r w' => r = .returned (.bool (standsB e)) ∧ Below w.heap.size w w' := by
  obtain ⟨a, k, t, m, n⟩ := e
  unfold standsB Ev.val
  dsimp only
  have H1 := below_new w (.cells #[.int .i64 a, .int .i64 k, .int .i64 t, .int .i64 m, .int .i64 n] 24)
  obtain ⟨X, hX⟩ : ∃ X, (if k = 6 then within m 0 3 else decide (m = 0) && within n 0 3999) = X := ⟨_, rfl⟩
  rw [hX]
  have HX : Hid ((if k = 6 then within m 0 3 else decide (m = 0) && within n 0 3999) = X) := hX
  clear hX
  rcases h1 : within k 1 6 with _ | _
  · go_enter Tryd.func45, Tryd.ntmps45
    go_wp2_with (go_at_call 61; refine (withinK_any _ _ _ _).mono ?_; rintro r w1 ⟨rfl, rfl⟩; first | rw [h1] | rw [h2] | rw [h3] | skip)
    go_ret
    exact ⟨rfl, H1⟩
  rcases h2 : within a 0 20000 with _ | _
  · go_enter Tryd.func45, Tryd.ntmps45
    go_wp2_with (go_at_call 61; refine (withinK_any _ _ _ _).mono ?_; rintro r w1 ⟨rfl, rfl⟩; first | rw [h1] | rw [h2] | rw [h3] | skip)
    go_ret
    exact ⟨rfl, H1⟩
  rcases h3 : within t 0 7 with _ | _
  · go_enter Tryd.func45, Tryd.ntmps45
    go_wp2_with (go_at_call 61; refine (withinK_any _ _ _ _).mono ?_; rintro r w1 ⟨rfl, rfl⟩; first | rw [h1] | rw [h2] | rw [h3] | skip)
    go_ret
    exact ⟨rfl, H1⟩
  by_cases hk : k = 6
  · subst hk
    go_enter Tryd.func45, Tryd.ntmps45
    go_wp2_with (go_at_call 61; refine (withinK_any _ _ _ _).mono ?_; rintro r w1 ⟨rfl, rfl⟩; first | rw [h1] | rw [h2] | rw [h3] | skip)
    go_ret
    exact ⟨by rw [← HX.out, if_pos trivial]; rfl, H1⟩
  · by_cases hm : m = 0
    · subst hm
      go_enter Tryd.func45, Tryd.ntmps45
      go_wp2_with (go_at_call 61; refine (withinK_any _ _ _ _).mono ?_; rintro r w1 ⟨rfl, rfl⟩; first | rw [h1] | rw [h2] | rw [h3] | skip)
      go_ret
      exact ⟨by rw [← HX.out, if_neg hk]; rfl, H1⟩
    · have hm2 : (m == 0) = false := by simpa using hm
      go_enter Tryd.func45, Tryd.ntmps45
      go_wp2_with (go_at_call 61; refine (withinK_any _ _ _ _).mono ?_; rintro r w1 ⟨rfl, rfl⟩; first | rw [h1] | rw [h2] | rw [h3] | skip)
      go_ret
      exact ⟨by rw [← HX.out, if_neg hk]; simp [hm], H1⟩
end Go.Proofs.YtccoobcggbbciakDoor
