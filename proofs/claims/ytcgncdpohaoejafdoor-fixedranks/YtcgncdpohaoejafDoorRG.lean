import Derived.Test.YtcgncdpohaoejafDoorRF
import Derived.Test.YtcgncdpohaoejafDoorAU
namespace Go.Proofs.YtcgncdpohaoejafDoor
open Go.ChangeShapes Go.WideShapes Go.ChangeAt Go.RowKit

/-- What is the caller's: nothing, or a row behind B. -/
def OwnT (B : Nat) (W : World) (u : Value) : Prop := ∃ n xs, W.ownsRow B 30 7 u n xs

theorem OwnT.nil (B : Nat) (W : World) : OwnT B W (.slice none 0 0) := ⟨0, [], rfl, .inl ⟨rfl, rfl⟩⟩
theorem OwnT.hi {B : Nat} {W : World} {m : List Ta} {u : Value} (h : RowHi B W m u) : OwnT B W u := by
  obtain ⟨g, cap, rfl, hB, -, C, n, xs, h1, ⟨h2, -⟩ | ⟨g', cap', cur, e, h3, h4⟩⟩ := h
  · cases h2
  · cases e
    exact ⟨_, xs, h1, .inr ⟨g, cap, cur, rfl, hB, h4⟩⟩
theorem OwnT.grow {B : Nat} {W W' : World} {u : Value} (h : OwnT B W u) (hb : Below W.heap.size W W') : OwnT B W' u := by
  obtain ⟨n, xs, h⟩ := h
  exact ⟨n, xs, r_below h hb⟩

theorem rk_same (key : Ta → Int) (l : List Ta) : rkL key l l.length = rankR (fun k => key (Tk l k)) l := by
  unfold rkL
  rw [List.drop_length, List.append_nil]
  rfl

/-- What Rates and the document say of tasks. -/
theorem Rates_all (l : List Ta) (hS : ∀ x ∈ l, x.nm.size ≤ 9223372036854775807) : ∃ (z1 z2 : Int) (m : List Ta), m.length ≤ 8 ∧ (∀ W v, RowSl Ta.vals W l v → Calls Tryd.prog 4 #[v] W fun r w' => ∃ u, r = .returned (.tuple #[u, .agg #[.int .i64 z1, .int .i64 z2]]) ∧ RowSl Ta.vals w' m u ∧ OwnT W.heap.size w' u ∧ Below W.heap.size W w') ∧ (∀ W v, RowSl Ta.vals W l v → Calls Tryd.prog 8 #[v, .func (Fn.func 9) #[] #[]] W fun r w' => ∃ u, r = .returned (.tuple #[u, .agg #[.int .i64 z1, .int .i64 z2]]) ∧ RowSl Ta.vals w' m u ∧ Below W.heap.size W w') := by
  by_cases h : (chkF l).1 = 0
  · obtain ⟨-, h8, -⟩ := chkF_ok h
    refine ⟨0, 0, rkL (fun x : Ta => x.t) l l.length, by rw [rkL_len _ _ _ (Nat.le_refl _)]; exact h8, fun W v hv => ?_, fun W v hv => Ranked9_good W l v hS h hv⟩
    refine (DeadlinesR_good W l v h hv).mono ?_
    rintro r w' ⟨u, od, rfl, hin, hru, hb⟩
    rw [rk_eq hin] at hru
    rw [rk_same]
    exact ⟨u, rfl, hru.choose_spec.choose_spec.2.2.1, OwnT.hi hru, hb⟩
  · refine ⟨(chkF l).1, (chkF l).2, [], by simp, fun W v hv => ?_, fun W v hv => ?_⟩
    · refine (Rates_bad W l v h hv).mono ?_
      rintro r w' ⟨rfl, hb⟩
      exact ⟨_, rfl, RowSl.nil _ _, OwnT.nil _ _, hb⟩
    · refine (Ranked9_bad W l v hS h hv).mono ?_
      rintro r w' ⟨rfl, hb⟩
      exact ⟨_, rfl, RowSl.nil _ _, hb⟩

/-- What Deads and the document say of tasks. -/
theorem Deads_all (l : List Ta) (hS : ∀ x ∈ l, x.nm.size ≤ 9223372036854775807) : ∃ (z1 z2 : Int) (m : List Ta), m.length ≤ 8 ∧ (∀ W v, RowSl Ta.vals W l v → Calls Tryd.prog 12 #[v] W fun r w' => ∃ u, r = .returned (.tuple #[u, .agg #[.int .i64 z1, .int .i64 z2]]) ∧ RowSl Ta.vals w' m u ∧ OwnT W.heap.size w' u ∧ Below W.heap.size W w') ∧ (∀ W v, RowSl Ta.vals W l v → Calls Tryd.prog 8 #[v, .func (Fn.func 13) #[] #[]] W fun r w' => ∃ u, r = .returned (.tuple #[u, .agg #[.int .i64 z1, .int .i64 z2]]) ∧ RowSl Ta.vals w' m u ∧ Below W.heap.size W w') := by
  by_cases h : (chkF l).1 = 0
  · obtain ⟨-, h8, -⟩ := chkF_ok h
    refine ⟨0, 0, rkL (fun x : Ta => x.d) l l.length, by rw [rkL_len _ _ _ (Nat.le_refl _)]; exact h8, fun W v hv => ?_, fun W v hv => Ranked13_good W l v hS h hv⟩
    refine (Deadlines_good W l v h hv).mono ?_
    rintro r w' ⟨u, od, rfl, hin, hru, hb⟩
    rw [rk_eq hin] at hru
    rw [rk_same]
    exact ⟨u, rfl, hru.choose_spec.choose_spec.2.2.1, OwnT.hi hru, hb⟩
  · refine ⟨(chkF l).1, (chkF l).2, [], by simp, fun W v hv => ?_, fun W v hv => ?_⟩
    · refine (Deadlines_bad W l v h hv).mono ?_
      rintro r w' ⟨rfl, hb⟩
      exact ⟨_, rfl, RowSl.nil _ _, OwnT.nil _ _, hb⟩
    · refine (Ranked13_bad W l v hS h hv).mono ?_
      rintro r w' ⟨rfl, hb⟩
      exact ⟨_, rfl, RowSl.nil _ _, hb⟩

theorem asgF_len (l : List Ta) (bs : List Int) : ∀ (n : Nat) (left : List Nat) (out : List Ta) (p : Int) (m : List Ta), asgF l bs n left out p = some m → m.length = out.length
  | 0, _, out, _, m, h => by rw [asgF] at h; cases h; rfl
  | n + 1, left, out, p, m, h => by
    rw [asgF] at h
    cases hf : left.findIdx? (lastIn l bs left) with
    | none => rw [hf] at h; cases h
    | some a =>
      rw [hf] at h
      have := asgF_len l bs n _ _ _ m h
      rw [this]
      unfold setP
      simp

/-- What Assign and the document say of tasks. -/
theorem Assign_all (l : List Ta) (bs : List Int) (hS : ∀ x ∈ l, x.nm.size ≤ 9223372036854775807) (hl : l.length ≤ 1000000) (hbs : bs.length ≤ 1000000) : ∃ (z1 z2 : Int) (m : List Ta), m.length ≤ 8 ∧ (∀ W v vb, RowSl Ta.vals W l v → RowSl nuV W bs vb → Calls Tryd.prog 14 #[v, vb] W fun r w' => ∃ u, r = .returned (.tuple #[u, .agg #[.int .i64 z1, .int .i64 z2]]) ∧ RowSl Ta.vals w' m u ∧ OwnT W.heap.size w' u ∧ Below W.heap.size W w') ∧ (∀ W v vb, RowSl Ta.vals W l v → RowSl nuV W bs vb → Calls Tryd.prog 15 #[v, vb] W fun r w' => ∃ u, r = .returned (.tuple #[u, .agg #[.int .i64 z1, .int .i64 z2]]) ∧ RowSl Ta.vals w' m u ∧ Below W.heap.size W w') := by
  by_cases hX : (chkX l).1 = 0
  · by_cases hg : bs.length = l.length ∧ ∀ b ∈ bs, 0 ≤ b ∧ b ≤ 10000
    · obtain ⟨he, hb⟩ := hg
      obtain ⟨-, -, -, h8, -, -⟩ := chkX_ok hX
      cases hA : asgF l bs l.length (List.range l.length) l 0 with
      | none =>
        refine ⟨13, 0, [], by simp, fun W v vb hv hvb => ?_, fun W v vb hv hvb => ?_⟩
        · refine (Assign_good W l bs v vb hX he hb hv hvb).mono ?_
          rintro r w' ⟨u, z, rfl, ⟨-, rfl, rfl⟩ | ⟨m, h1, -⟩, hbl⟩
          · exact ⟨_, rfl, RowSl.nil _ _, OwnT.nil _ _, hbl⟩
          · rw [hA] at h1; cases h1
        · refine (Assigned_good W l v vb bs hS hX he hb hv hvb).mono ?_
          rintro r w' ⟨u, z, rfl, ⟨-, rfl, rfl⟩ | ⟨m, h1, -⟩, hbl⟩
          · exact ⟨_, rfl, RowSl.nil _ _, hbl⟩
          · rw [hA] at h1; cases h1
      | some m =>
        have hml : m.length ≤ 8 := by
          have := asgF_len l bs l.length (List.range l.length) l 0 m hA
          omega
        refine ⟨0, 0, m, hml, fun W v vb hv hvb => ?_, fun W v vb hv hvb => ?_⟩
        · refine (Assign_good W l bs v vb hX he hb hv hvb).mono ?_
          rintro r w' ⟨u, z, rfl, ⟨h1, -, -⟩ | ⟨m', h1, rfl, h2⟩, hbl⟩
          · rw [hA] at h1; cases h1
          · rw [hA] at h1
            cases h1
            exact ⟨_, rfl, h2.choose_spec.choose_spec.2.2.1, OwnT.hi h2, hbl⟩
        · refine (Assigned_good W l v vb bs hS hX he hb hv hvb).mono ?_
          rintro r w' ⟨u, z, rfl, ⟨h1, -, -⟩ | ⟨m', h1, rfl, h2⟩, hbl⟩
          · rw [hA] at h1; cases h1
          · rw [hA] at h1
            cases h1
            exact ⟨_, rfl, h2, hbl⟩
    · refine ⟨2, 0, [], by simp, fun W v vb hv hvb => ?_, fun W v vb hv hvb => ?_⟩
      · refine (Assign_blocks W l bs v vb hX hbs ?_ hv hvb).mono ?_
        · by_cases he : bs.length = l.length
          · right
            rcases idxI_find (P := fun n => !isTm n) bs 0 with ⟨h1, -⟩ | ⟨a, -, -, h3⟩
            · exfalso
              refine hg ⟨he, fun b hb => ?_⟩
              have := List.findIdx?_eq_none_iff.1 h1 b hb
              simp [isTm] at this
              exact this
            · rw [h3]; omega
          · exact .inl he
        · rintro r w' ⟨rfl, hb⟩
          exact ⟨_, rfl, RowSl.nil _ _, OwnT.nil _ _, hb⟩
      · by_cases he : bs.length = l.length
        · refine (Assigned_blocks W l v vb bs hS hX he ?_ hv hvb).mono ?_
          · false_or_by_contra
            rename_i hcon
            refine hg ⟨he, fun b hb => ?_⟩
            false_or_by_contra
            rename_i hc2
            exact hcon ⟨b, hb, by omega⟩
          · rintro r w' ⟨rfl, hb⟩
            exact ⟨_, rfl, RowSl.nil _ _, hb⟩
        · refine (Assigned_many W l v vb bs hS hX he hv hvb).mono ?_
          rintro r w' ⟨rfl, hb⟩
          exact ⟨_, rfl, RowSl.nil _ _, hb⟩
  · refine ⟨(chkX l).1, (chkX l).2, [], by simp, fun W v vb hv hvb => ?_, fun W v vb hv hvb => ?_⟩
    · refine (Assign_bad W l v vb bs hvb hl hX hv).mono ?_
      rintro r w' ⟨rfl, hb⟩
      exact ⟨_, rfl, RowSl.nil _ _, OwnT.nil _ _, hb⟩
    · refine (Assigned_bad W l v vb bs hS hX hv hvb).mono ?_
      rintro r w' ⟨rfl, hb⟩
      exact ⟨_, rfl, RowSl.nil _ _, hb⟩
end Go.Proofs.YtcgncdpohaoejafDoor
