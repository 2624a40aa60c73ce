import Derived.Test.YtkafihaajpifoajQH
namespace Go.Proofs.Ytkafihaajpifoaj
open Go.ChangeShapes Go.WideShapes Go.ChangeAt Go.RowKit

abbrev twoJ : List Jb := [⟨0, 0, 3, 9, 1⟩, ⟨0, 1, 1, 3, 2⟩]

theorem late_none : lateF twoJ 5 [4, 2] = ((0, 0), []) := by kernel_rfl

theorem best_two {left : List Int} {t : Int} {i : Nat} (hi : i < 2) (h1 : (J twoJ i).a ≤ t) (h2 : 0 < L left i) (h3 : ∀ j, j < 2 → (J twoJ j).a ≤ t → 0 < L left j → j ≠ i → lexJ 1 twoJ i j) : IsBest twoJ 1 left t (i : Int) := .inr ⟨i, rfl, hi, h1, h2, h3⟩

theorem plays_two : Plays twoJ 1 true 5 ⟨[0, 0], [4, 2], [0, 1, 0, 0, -1]⟩ := by
  have np : ∀ s : St, ¬ (true = false ∧ s.on) := fun s e => by cases e.1
  refine ⟨⟨[0, 0], [4, 2], [0, 1, 0, 0]⟩, -1, ⟨⟨[1, 0], [-1, 2], [0, 1, 0]⟩, ((0 : Nat) : Int), ⟨⟨[2, 0], [-1, 2], [0, 1]⟩, ((0 : Nat) : Int), ⟨⟨[2, 1], [-1, -1], [0]⟩, ((1 : Nat) : Int), ⟨St.init twoJ, ((0 : Nat) : Int), rfl, .inr ⟨np _, best_two (by decide) (by decide) (by decide) ?_⟩, rfl⟩, .inr ⟨np _, best_two (by decide) (by decide) (by decide) ?_⟩, rfl⟩, .inr ⟨np _, best_two (by decide) (by decide) (by decide) ?_⟩, rfl⟩, .inr ⟨np _, best_two (by decide) (by decide) (by decide) ?_⟩, rfl⟩, .inr ⟨np _, .inl ⟨rfl, ?_⟩⟩, rfl⟩
  case refine_5 =>
    intro i hi
    rcases i with _ | _ | i
    · decide
    · decide
    · simp at hi; omega
  all_goals
    intro j hj h1 h2 hne
    rcases j with _ | _ | j
    · first | exact absurd rfl hne | exact absurd h1 (by decide) | exact absurd h2 (by decide) | (unfold lexJ lex; decide)
    · first | exact absurd rfl hne | exact absurd h1 (by decide) | exact absurd h2 (by decide) | (unfold lexJ lex; decide)
    · omega

theorem res_two {z1 z2 : Int} {rs es : List Int} (h : PlRes twoJ 1 true 5 z1 z2 rs es) : z1 = 0 ∧ z2 = 0 ∧ rs = [0, 1, 0, 0, -1] ∧ es = [4, 2] :=
  plRes_unique h (.inr ⟨by kernel_rfl, rfl, rfl, _, plays_two, rfl, rfl⟩)

theorem Res.slices {w W : World} {rs es : List Int} {v1 v2 : Value} (h : Res w W rs es v1 v2) : ∃ a1 c1 a2 c2, v1 = .slice a1 rs.length c1 ∧ v2 = .slice a2 es.length c2 := by
  obtain ⟨-, -, -, o1, o2, h1, h2, -⟩ := h
  obtain ⟨a1, c1, e1⟩ := h1.row.len
  obtain ⟨a2, c2, e2⟩ := h2.row.len
  exact ⟨a1, c1, a2, c2, e1, e2⟩

theorem Res.rows {w W : World} {rs es : List Int} {v1 v2 : Value} (h : Res w W rs es v1 v2) : RowSl nuV W rs v1 ∧ RowSl nuV W es v2 := by
  obtain ⟨-, -, -, o1, o2, h1, h2, -⟩ := h
  exact ⟨h1.row, h2.row⟩
end Go.Proofs.Ytkafihaajpifoaj
