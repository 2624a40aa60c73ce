import Derived.Test.YtgemadoieielcacDoorGBegins
namespace Go.Proofs.YtgemadoieielcacDoor
open Go.ChangeShapes Go.WideShapes Go.ChangeAt Go.RowKit

theorem formErr_no (x : In) (h : x.op < 1 ∨ 18 < x.op) : formErr x = 6 := by unfold formErr; rw [if_pos h]

theorem formErr_bad (m : Nat) (a b : Int) (h1 : 1 ≤ m) (h2 : m ≤ 18) (h : a < lowA m ∨ highA m < a ∨ b < 0 ∨ highB m < b) : formErr ⟨m, a, b⟩ = 3 := by
  unfold formErr
  rw [if_neg (by simp only; omega), if_pos (by simpa using h)]

theorem formErr_ok (m : Nat) (a b : Int) (h1 : 1 ≤ m) (h2 : m ≤ 18) (h : ¬ (a < lowA m ∨ highA m < a ∨ b < 0 ∨ highB m < b)) : formErr ⟨m, a, b⟩ = 0 := by
  unfold formErr
  rw [if_neg (by simp only; omega), if_neg (by simpa using h)]

set_option maxRecDepth 20000 in
set_option maxHeartbeats 4000000 in
theorem form_yes (w : World) (hk : KindsIn w) (at_ : Value) (m : Nat) (a b : Int) (h1 : 1 ≤ m) (h2 : m ≤ 18) : Calls Tryd.prog 67 #[at_, .agg #[.int .i64 m, .int .i64 a, .int .i64 b]] w fun r w' => r = .returned (.int .i64 (formErr ⟨m, a, b⟩)) ∧ Below w.heap.size w w' := by
  have H0 : Hid (KindsIn w) := hk
  clear hk
  have HE : Hid ((a < lowA m ∨ highA m < a ∨ b < 0 ∨ highB m < b → formErr ⟨m, a, b⟩ = 3) ∧ (¬ (a < lowA m ∨ highA m < a ∨ b < 0 ∨ highB m < b) → formErr ⟨m, a, b⟩ = 0)) := ⟨formErr_bad m a b h1 h2, formErr_ok m a b h1 h2⟩
  go_enter Tryd.func67, Tryd.ntmps67
  go_wp2_with (go_at_call 58; refine (isIns_yes _ m a b (by omega) (by omega)).mono ?_; rintro r w1 ⟨rfl, hb1⟩; have H1 : Hid (Below w.heap.size w w1) := below_seq (below_new _ _) hb1; have c0 : w1.cell? ⟨w.heap.size, 0, none⟩ = some (.int .i64 m) := below_cell hb1 (by go_simp); have c1 : w1.cell? ⟨w.heap.size, 1, none⟩ = some (.int .i64 a) := below_cell hb1 (by go_simp); have c2 : w1.cell? ⟨w.heap.size, 2, none⟩ = some (.int .i64 b) := below_cell hb1 (by go_simp); have hK := (H0.out.below H1.out) m h1 h2; obtain ⟨k0, k1, k2, k3, k4, k5⟩ := hK; have l1 : w.heap.size < w1.heap.size := World.block_lt_of_cell? w1 _ c0; have H2 : Hid (Below w.heap.size w (w1.alloc (.cells #[.int .i64 (lowA m), .int .i64 (highA m), .int .i64 (highB m), .int .i64 (takesOf m), .int .i64 (putsOf m), .int .i64 (tickOf m)] 111))) := H1.out.alloc (by omega) _; clear hb1; generalize lowA m = q0 at *; generalize highA m = q1 at *; generalize highB m = q2 at *)
  all_goals first
    | (have e := HE.out.1 (by omega); go_ret; exact ⟨by rw [e]; rfl, H2.out⟩)
    | (have e := HE.out.2 (by omega); go_ret; exact ⟨by rw [e]; rfl, H2.out⟩)

set_option maxRecDepth 20000 in
set_option maxHeartbeats 4000000 in
theorem form_no (w : World) (at_ : Value) (op a b : Int) (h : op < 1 ∨ 18 < op) : Calls Tryd.prog 67 #[at_, .agg #[.int .i64 op, .int .i64 a, .int .i64 b]] w fun r w' => r = .returned (.int .i64 (formErr ⟨op, a, b⟩)) ∧ Below w.heap.size w w' := by
  rw [formErr_no ⟨op, a, b⟩ h]
  go_enter Tryd.func67, Tryd.ntmps67
  go_wp2_with (go_at_call 58; refine (isIns_no _ op a b h).mono ?_; rintro r w1 ⟨rfl, hb1⟩; have H1 : Hid (Below w.heap.size w w1) := below_seq (below_new _ _) hb1; clear hb1)
  go_ret
  exact ⟨rfl, H1.out⟩

/-- mach.form. -/
theorem form_any (w : World) (hk : KindsIn w) (at_ : Value) (x : In) : Calls Tryd.prog 67 #[at_, x.val] w fun r w' => r = .returned (.int .i64 (formErr x)) ∧ Below w.heap.size w w' := by
  obtain ⟨op, a, b⟩ := x
  by_cases h : op < 1 ∨ 18 < op
  · exact form_no w at_ op a b h
  · obtain ⟨m, rfl⟩ : ∃ m : Nat, op = m := ⟨op.toNat, by omega⟩
    exact form_yes w hk at_ m a b (by omega) (by omega)

theorem highA_at {m : Nat} (h : m ≤ 18) : (#[.int .i64 0, .int .i64 999999999, .int .i64 7, .int .i64 7, .int .i64 0, .int .i64 0, .int .i64 0, .int .i64 0, .int .i64 0, .int .i64 3, .int .i64 3, .int .i64 2000, .int .i64 2000, .int .i64 7, .int .i64 7, .int .i64 7, .int .i64 3, .int .i64 3, .int .i64 1000] : Array Value)[m]? = some (.int .i64 (highA m)) := by
  have : m = 0 ∨ m = 1 ∨ m = 2 ∨ m = 3 ∨ m = 4 ∨ m = 5 ∨ m = 6 ∨ m = 7 ∨ m = 8 ∨ m = 9 ∨ m = 10 ∨ m = 11 ∨ m = 12 ∨ m = 13 ∨ m = 14 ∨ m = 15 ∨ m = 16 ∨ m = 17 ∨ m = 18 := by omega
  rcases this with rfl | rfl | rfl | rfl | rfl | rfl | rfl | rfl | rfl | rfl | rfl | rfl | rfl | rfl | rfl | rfl | rfl | rfl | rfl <;> rfl

set_option maxRecDepth 20000 in
set_option maxHeartbeats 4000000 in
theorem wrongIns_no (w : World) (op a b : Int) (h : op < 1 ∨ 18 < op) : Calls Tryd.prog 54 #[.agg #[.int .i64 op, .int .i64 a, .int .i64 b]] w fun r w' => r = .returned (.int .i64 (formErr ⟨op, a, b⟩)) ∧ Below w.heap.size w w' := by
  rw [formErr_no ⟨op, a, b⟩ h]
  go_enter Tryd.func54, Tryd.ntmps54
  go_wp2_with fail
  all_goals first
    | (go_ret; exact ⟨rfl, below_new _ _⟩)
    | (exfalso; omega)

set_option maxRecDepth 20000 in
set_option maxHeartbeats 4000000 in
theorem wrongIns_yes (w : World) (m : Nat) (a b : Int) (h1 : 1 ≤ m) (h2 : m ≤ 18) : Calls Tryd.prog 54 #[.agg #[.int .i64 m, .int .i64 a, .int .i64 b]] w fun r w' => r = .returned (.int .i64 (formErr ⟨m, a, b⟩)) ∧ Below w.heap.size w w' := by
  have HE : Hid ((a < lowA m ∨ highA m < a ∨ b < 0 ∨ highB m < b → formErr ⟨m, a, b⟩ = 3) ∧ (¬ (a < lowA m ∨ highA m < a ∨ b < 0 ∨ highB m < b) → formErr ⟨m, a, b⟩ = 0)) := ⟨formErr_bad m a b h1 h2, formErr_ok m a b h1 h2⟩
  have hget := highA_at h2
  have HL : Hid (((m = 18 → lowA m = 1) ∧ (m ≠ 18 → lowA m = 0)) ∧ (m = 13 → highB m = 1000) ∧ (m = 14 → highB m = 2000) ∧ (m ≠ 13 → m ≠ 14 → highB m = 0)) := by
    refine ⟨⟨fun h => ?_, fun h => ?_⟩, fun h => ?_, fun h => ?_, fun h h' => ?_⟩
    · unfold lowA; rw [if_pos h]
    · unfold lowA; rw [if_neg h]
    · unfold highB; rw [if_pos h]
    · unfold highB; rw [if_neg (by omega), if_pos h]
    · unfold highB; rw [if_neg h, if_neg h']
  generalize lowA m = q0 at *
  generalize highB m = q2 at *
  generalize formErr ⟨m, a, b⟩ = fe at *
  have o1 : ¬ (m : Int) < 1 := by omega
  have o2 : ¬ (18 : Int) < (m : Int) := by omega
  by_cases h13 : m = 13
  · subst h13
    have hq : highA 13 = 7 := rfl
    generalize highA 13 = q1 at *
    subst hq
    have r0 := HL.out.1.2 (by decide)
    have r2 := HL.out.2.1 rfl
    clear HL
    subst r0 r2
    go_enter Tryd.func54, Tryd.ntmps54
    go_wp2_with fail
    all_goals first
      | (have e := HE.out.1 (by omega); subst e; go_ret; exact ⟨rfl, (below_new _ _).alloc (by simp) _⟩)
      | (have e := HE.out.2 (by omega); subst e; go_ret; exact ⟨rfl, (below_new _ _).alloc (by simp) _⟩)
  · by_cases h14 : m = 14
    · subst h14
      have hq : highA 14 = 7 := rfl
      generalize highA 14 = q1 at *
      subst hq
      have r0 := HL.out.1.2 (by decide)
      have r2 := HL.out.2.2.1 rfl
      clear HL
      subst r0 r2
      go_enter Tryd.func54, Tryd.ntmps54
      go_wp2_with fail
      all_goals first
        | (have e := HE.out.1 (by omega); subst e; go_ret; exact ⟨rfl, (below_new _ _).alloc (by simp) _⟩)
        | (have e := HE.out.2 (by omega); subst e; go_ret; exact ⟨rfl, (below_new _ _).alloc (by simp) _⟩)
    · have f13 : ((m : Int) == 13) = false := by simp; omega
      have f14 : ((m : Int) == 14) = false := by simp; omega
      have e13 : ¬ (m : Int) = 13 := by omega
      have e14 : ¬ (m : Int) = 14 := by omega
      by_cases h18 : m = 18
      · subst h18
        have hq : highA 18 = 1000 := rfl
        generalize highA 18 = q1 at *
        subst hq
        have r0 := HL.out.1.1 rfl
        have r2 := HL.out.2.2.2 (by decide) (by decide)
        clear HL
        subst r0 r2
        go_enter Tryd.func54, Tryd.ntmps54
        go_wp2_with fail
        all_goals first
          | (have e := HE.out.1 (by omega); subst e; go_ret; exact ⟨rfl, (below_new _ _).alloc (by simp) _⟩)
          | (have e := HE.out.2 (by omega); subst e; go_ret; exact ⟨rfl, (below_new _ _).alloc (by simp) _⟩)
      · have f18 : ((m : Int) == 18) = false := by simp; omega
        have e18 : ¬ (m : Int) = 18 := by omega
        generalize highA m = q1 at *
        have r0 := HL.out.1.2 h18
        have r2 := HL.out.2.2.2 h13 h14
        clear HL
        subst r0 r2
        go_enter Tryd.func54, Tryd.ntmps54
        go_wp2_with fail
        all_goals first
          | (have e := HE.out.1 (by omega); subst e; go_ret; exact ⟨rfl, (below_new _ _).alloc (by simp) _⟩)
          | (have e := HE.out.2 (by omega); subst e; go_ret; exact ⟨rfl, (below_new _ _).alloc (by simp) _⟩)

/-- The document's look at an instruction by itself. -/
theorem wrongIns_any (w : World) (x : In) : Calls Tryd.prog 54 #[x.val] w fun r w' => r = .returned (.int .i64 (formErr x)) ∧ Below w.heap.size w w' := by
  obtain ⟨op, a, b⟩ := x
  by_cases h : op < 1 ∨ 18 < op
  · exact wrongIns_no w op a b h
  · obtain ⟨m, rfl⟩ : ∃ m : Nat, op = m := ⟨op.toNat, by omega⟩
    exact wrongIns_yes w m a b (by omega) (by omega)
end Go.Proofs.YtgemadoieielcacDoor
