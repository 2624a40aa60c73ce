import Derived.Test.YtccoobcggbbciakDoorKF0
namespace Go.Proofs.YtccoobcggbbciakDoor
open Go.ChangeShapes Go.WideShapes Go.ChangeAt Go.RowKit

set_option maxRecDepth 20000 in
set_option maxHeartbeats 4000000 in
theorem rightEvent_any (w : World) (e : Ev) : Calls Tryd.prog 28 #[e.val] w fun r w' => r = .returned (.bool (standsB e)) ∧ Below w.heap.size w w' := by
  have HS : Hid (standsB e = decide (standsE e)) := standsB_is e
  obtain ⟨X, hX⟩ : ∃ X, standsB e = X := ⟨_, rfl⟩
  rw [hX] at HS ⊢
  clear hX
  obtain ⟨a, k, t, m, n⟩ := e
  unfold Ev.val
  dsimp only
  have H1 := below_new w (.cells #[.int .i64 a, .int .i64 k, .int .i64 t, .int .i64 m, .int .i64 n] 24)
  have key : ∀ b : Bool, (b = true ↔ standsE ⟨a, k, t, m, n⟩) → b = X := fun b hb => by
    rw [HS.out, Bool.eq_iff_iff, decide_eq_true_iff]
    exact hb
  unfold standsE at key
  dsimp only at key
  have HK : Hid (∀ b : Bool, (b = true ↔ (1 ≤ k ∧ k ≤ 6 ∧ 0 ≤ a ∧ a ≤ 20000 ∧ 0 ≤ t ∧ t ≤ 7 ∧ (k = 6 → 0 ≤ m ∧ m ≤ 3) ∧ (k ≠ 6 → m = 0 ∧ 0 ≤ n ∧ n ≤ 3999))) → b = X) := key
  clear key HS
  by_cases c1 : k < 1
  · go_enter Tryd.func28, Tryd.ntmps28
    go_wp2_with fail
    go_ret
    have hx : false = X := HK.out false ⟨(fun h => by cases h), (fun h => by omega)⟩
    exact ⟨by rw [← hx]; rfl, H1⟩
  by_cases c2 : 6 < k
  · go_enter Tryd.func28, Tryd.ntmps28
    go_wp2_with fail
    go_ret
    have hx : false = X := HK.out false ⟨(fun h => by cases h), (fun h => by omega)⟩
    exact ⟨by rw [← hx]; rfl, H1⟩
  by_cases c3 : a < 0
  · go_enter Tryd.func28, Tryd.ntmps28
    go_wp2_with fail
    go_ret
    have hx : false = X := HK.out false ⟨(fun h => by cases h), (fun h => by omega)⟩
    exact ⟨by rw [← hx]; rfl, H1⟩
  by_cases c4 : 20000 < a
  · go_enter Tryd.func28, Tryd.ntmps28
    go_wp2_with fail
    go_ret
    have hx : false = X := HK.out false ⟨(fun h => by cases h), (fun h => by omega)⟩
    exact ⟨by rw [← hx]; rfl, H1⟩
  by_cases c5 : t < 0
  · go_enter Tryd.func28, Tryd.ntmps28
    go_wp2_with fail
    go_ret
    have hx : false = X := HK.out false ⟨(fun h => by cases h), (fun h => by omega)⟩
    exact ⟨by rw [← hx]; rfl, H1⟩
  by_cases c6 : 7 < t
  · go_enter Tryd.func28, Tryd.ntmps28
    go_wp2_with fail
    go_ret
    have hx : false = X := HK.out false ⟨(fun h => by cases h), (fun h => by omega)⟩
    exact ⟨by rw [← hx]; rfl, H1⟩
  by_cases hk : k = 6
  · subst hk
    by_cases d1 : 0 ≤ m
    · by_cases d2 : m ≤ 3
      · have e : within m 0 3 = true := by unfold within; simp; omega
        go_enter Tryd.func28, Tryd.ntmps28
        go_wp2_with fail
        all_goals
          go_ret
          have hx : true = X := HK.out true ⟨(fun _ => by simp; omega), (fun _ => rfl)⟩
          exact ⟨by rw [← hx]; rfl, H1⟩
      · go_enter Tryd.func28, Tryd.ntmps28
        go_wp2_with fail
        all_goals
          go_ret
          have hx : false = X := HK.out false ⟨(fun h => by cases h), (fun h => by simp at h; omega)⟩
          exact ⟨by rw [← hx]; rfl, H1⟩
    · go_enter Tryd.func28, Tryd.ntmps28
      go_wp2_with fail
      all_goals
        go_ret
        have hx : false = X := HK.out false ⟨(fun h => by cases h), (fun h => by simp at h; omega)⟩
        exact ⟨by rw [← hx]; rfl, H1⟩
  · by_cases d0 : m = 0
    · subst d0
      by_cases d1 : 0 ≤ n
      · by_cases d2 : n ≤ 3999
        · go_enter Tryd.func28, Tryd.ntmps28
          go_wp2_with fail
          all_goals
            go_ret
            have hx : true = X := HK.out true ⟨(fun _ => by simp; omega), (fun _ => rfl)⟩
            exact ⟨by rw [← hx]; rfl, H1⟩
        · go_enter Tryd.func28, Tryd.ntmps28
          go_wp2_with fail
          all_goals
            go_ret
            have hx : false = X := HK.out false ⟨(fun h => by cases h), (fun h => by simp at h; omega)⟩
            exact ⟨by rw [← hx]; rfl, H1⟩
      · go_enter Tryd.func28, Tryd.ntmps28
        go_wp2_with fail
        all_goals
          go_ret
          have hx : false = X := HK.out false ⟨(fun h => by cases h), (fun h => by simp at h; omega)⟩
          exact ⟨by rw [← hx]; rfl, H1⟩
    · have d0b : (m == 0) = false := by simpa using d0
      go_enter Tryd.func28, Tryd.ntmps28
      go_wp2_with fail
      all_goals
        go_ret
        have hx : false = X := HK.out false ⟨(fun h => by cases h), (fun h => by simp at h; omega)⟩
        exact ⟨by rw [← hx]; rfl, H1⟩
end Go.Proofs.YtccoobcggbbciakDoor
