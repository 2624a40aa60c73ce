import Derived.Test.YtikdidfgdiafoabDoorGVal2
import Derived.Test.YtikdidfgdiafoabDoorGDoes
import Derived.Laws.AppendOwnNone
import Derived.Test.YtikdidfgdiafoabDoorGRuns
namespace Go.Proofs.YtikdidfgdiafoabDoor

/-- A run that is further on by so much. -/
def later (q : List (Int × Int)) (m : Nat) (s : Ms) : Ms := ⟨s.vars, q ++ s.puts, s.steps + m⟩

/-- A run that is further on ends alike, if there are steps enough. -/
def Sh (q : List (Int × Int)) (m : Nat) (r r' : Ms × Option Nat) : Prop := ∀ s', r = (s', none) → (s'.steps + m ≤ 20000 ∧ r' = (later q m s', none)) ∨ (20000 < s'.steps + m ∧ ∃ t z, r' = (t, some z))

theorem again_grow {c : Ms → Bool} {f : Ms → Ms × Option Nat} (hf : ∀ s, s.steps ≤ (f s).1.steps) : ∀ (n : Nat) (s : Ms), s.steps ≤ (again c f n s).1.steps
  | 0, s => Nat.le_refl _
  | n + 1, s => by
    unfold again
    by_cases hc : c s
    · rw [if_pos hc]
      have h1 := hf s
      rcases hr : f s with ⟨s', _ | z⟩
      · rw [hr] at h1
        exact Nat.le_trans h1 (again_grow (c := c) hf n s')
      · rw [hr] at h1
        exact h1
    · rw [if_neg hc]
      exact Nat.le_refl _

mutual
theorem St.run_grow (is : List Int) : ∀ (x : St) (i : Nat) (s : Ms), s.steps ≤ (St.run is x i s).1.steps ∧ ((St.run is x i s).2 = none → s.steps + 1 ≤ (St.run is x i s).1.steps)
  | .mk k n e ck ca cb b l, i, s => by
    unfold St.run
    by_cases h0 : s.steps = 20000
    · rw [if_pos h0]; exact ⟨Nat.le_refl _, fun h => by simp at h⟩
    rw [if_neg h0]
    have next : ∀ (r : Ms × Option Nat), s.steps + 1 ≤ r.1.steps → (s.steps ≤ r.1.steps ∧ (r.2 = none → s.steps + 1 ≤ r.1.steps)) := fun r h => ⟨by omega, fun _ => h⟩
    split
    · exact next _ (Nat.le_refl _)
    split
    · exact next _ (Nat.le_refl _)
    split
    · split
      · exact next _ (St.runAll_grow is b _ { s with steps := s.steps + 1 })
      · exact next _ (St.runAll_grow is l _ { s with steps := s.steps + 1 })
    split
    · exact next _ (again_grow (fun s => St.runAll_grow is b _ s) _ { s with steps := s.steps + 1 })
    split
    · exact next _ (again_grow (fun s => St.runAll_grow is b _ s) _ { s with steps := s.steps + 1 })
    split
    · exact next _ (St.runAll_grow is b _ { s with steps := s.steps + 1 })
    · exact next _ (Nat.le_refl _)
theorem St.runAll_grow (is : List Int) : ∀ (a : List St) (i : Nat) (s : Ms), s.steps ≤ (St.runAll is a i s).1.steps
  | [], i, s => by unfold St.runAll; exact Nat.le_refl _
  | x :: r, i, s => by
    have h1 := (St.run_grow is x i s).1
    unfold St.runAll
    rcases hr : St.run is x i s with ⟨s', _ | z⟩
    · rw [hr] at h1
      exact Nat.le_trans h1 (St.runAll_grow is r (i + x.count) s')
    · rw [hr] at h1
      exact h1
end

theorem again_shift {q : List (Int × Int)} {m : Nat} {c : Ms → Bool} {f g : Ms → Ms × Option Nat} (hc : ∀ s, c (later q m s) = c s) (hg : ∀ s, s.steps ≤ (f s).1.steps) (hf : ∀ s, s.steps + m ≤ 20000 → Sh q m (f s) (g (later q m s))) : ∀ (n : Nat) (s : Ms), s.steps + m ≤ 20000 → Sh q m (again c f n s) (again c g n (later q m s))
  | 0, s, h => by
    intro s' e
    cases e
    exact .inl ⟨h, rfl⟩
  | n + 1, s, h => by
    unfold again
    rw [hc s]
    by_cases hcs : c s
    · rw [if_pos hcs, if_pos hcs]
      have h1 := hf s h
      rcases hr : f s with ⟨s1, _ | z⟩
      · rcases h1 s1 hr with ⟨h2, h3⟩ | ⟨h2, t, z, h3⟩
        · rw [h3]
          exact again_shift hc hg hf n s1 h2
        · rw [h3]
          intro s' e
          have h4 := again_grow (c := c) hg n s1
          simp only at e
          rw [e] at h4
          exact .inr ⟨by simp only at h4; omega, t, z, rfl⟩
      · intro s' e
        cases e
    · rw [if_neg hcs, if_neg hcs]
      intro s' e
      cases e
      exact .inl ⟨h, rfl⟩

theorem condOf_later (is : List Int) (ck : Int) (ca cb : Ex) (q : List (Int × Int)) (m : Nat) (s : Ms) : condOf is ck ca cb (later q m s) = condOf is ck ca cb s := rfl

mutual
theorem St.run_shift (is : List Int) (q : List (Int × Int)) (m : Nat) : ∀ (x : St) (i j : Nat) (s : Ms), s.steps + m ≤ 20000 → Sh q m (St.run is x i s) (St.run is x j (later q m s))
  | .mk k n e ck ca cb b l, i, j, s, h => by
    have hgr := (St.run_grow is (.mk k n e ck ca cb b l) i s).2
    unfold St.run at hgr ⊢
    by_cases h0 : s.steps = 20000
    · rw [if_pos h0]; intro s' e; cases e
    rw [if_neg h0] at hgr ⊢
    by_cases h1 : (later q m s).steps = 20000
    · rw [if_pos h1]
      intro s' e
      rw [e] at hgr
      have h2 := hgr rfl
      have h3 : s.steps + m = 20000 := h1
      exact .inr ⟨by simp only at h2; omega, _, _, rfl⟩
    rw [if_neg h1]
    have h3 : ¬ s.steps + m = 20000 := h1
    clear hgr
    have es : ({ later q m s with steps := (later q m s).steps + 1 } : Ms) = later q m { s with steps := s.steps + 1 } := by
      unfold later; simp only [Ms.mk.injEq, true_and]; omega
    have hs : ({ s with steps := s.steps + 1 } : Ms).steps + m ≤ 20000 := by simp only; omega
    rw [es, condOf_later]
    split
    · intro s' e; cases e; exact .inl ⟨hs, by unfold later; simp only [Prod.mk.injEq, Ms.mk.injEq, true_and, and_true]; omega⟩
    split
    · intro s' e; cases e; exact .inl ⟨hs, by unfold later; simp only [Prod.mk.injEq, Ms.mk.injEq, true_and, and_true, List.append_assoc]; omega⟩
    split
    · split
      · exact St.runAll_shift is q m b _ _ _ hs
      · exact St.runAll_shift is q m l _ _ _ hs
    split
    · exact again_shift (fun _ => rfl) (fun s => St.runAll_grow is b _ s) (fun s hs => St.runAll_shift is q m b _ _ s hs) _ _ hs
    split
    · exact again_shift (condOf_later is ck ca cb q m) (fun s => St.runAll_grow is b _ s) (fun s hs => St.runAll_shift is q m b _ _ s hs) _ _ hs
    split
    · exact St.runAll_shift is q m b _ _ _ hs
    · intro s' e; cases e; exact .inl ⟨hs, rfl⟩
theorem St.runAll_shift (is : List Int) (q : List (Int × Int)) (m : Nat) : ∀ (a : List St) (i j : Nat) (s : Ms), s.steps + m ≤ 20000 → Sh q m (St.runAll is a i s) (St.runAll is a j (later q m s))
  | [], i, j, s, h => by
    unfold St.runAll
    intro s' e
    cases e
    exact .inl ⟨h, rfl⟩
  | x :: r, i, j, s, h => by
    have h1 := St.run_shift is q m x i j s h
    unfold St.runAll
    rcases hr : St.run is x i s with ⟨s1, _ | z⟩
    · rcases h1 s1 hr with ⟨h2, h3⟩ | ⟨h2, t, z, h3⟩
      · rw [h3]
        exact St.runAll_shift is q m r _ _ s1 h2
      · rw [h3]
        intro s' e
        have h4 := St.runAll_grow is r (i + x.count) s1
        simp only at e
        rw [e] at h4
        exact .inr ⟨by simp only at h4; omega, t, z, rfl⟩
    · intro s' e
      cases e
end
end Go.Proofs.YtikdidfgdiafoabDoor
namespace Go.Proofs.YtikdidfgdiafoabDoor
open Go.ChangeShapes Go.WideShapes Go.ChangeAt Go.RowKit

mutual
theorem St.chk_code : ∀ (x : St) (ar : List (Int × Int)) (i j : Int), (x.chk ar i).1 = (x.chk ar j).1
  | .mk k n e ck ca cb b l, ar, i, j => by
    unfold St.chk
    by_cases h1 : (St.mk k n e ck ca cb b l).perr ar ≠ 0
    · rw [if_pos h1, if_pos h1]
    rw [if_neg h1, if_neg h1]
    have hb := St.chkAll_code b (ar ++ [(k, n)]) (i + 1) (j + 1)
    by_cases h2 : (St.chkAll b (ar ++ [(k, n)]) (i + 1)).1 ≠ 0
    · rw [if_pos h2, if_pos (by rw [← hb]; exact h2)]
      exact hb
    · rw [if_neg h2, if_neg (by rw [← hb]; exact h2)]
      exact St.chkAll_code l _ _ _
theorem St.chkAll_code : ∀ (a : List St) (ar : List (Int × Int)) (i j : Int), (St.chkAll a ar i).1 = (St.chkAll a ar j).1
  | [], ar, i, j => by unfold St.chkAll; rfl
  | x :: r, ar, i, j => by
    unfold St.chkAll
    have hx := St.chk_code x ar i j
    by_cases h1 : (x.chk ar i).1 ≠ 0
    · rw [if_pos h1, if_pos (by rw [← hx]; exact h1)]
      exact hx
    · rw [if_neg h1, if_neg (by rw [← hx]; exact h1)]
      exact St.chkAll_code r ar _ _
end

theorem chkAll_append : ∀ (a b : List St) (ar : List (Int × Int)) (i j : Int), (St.chkAll a ar i).1 = 0 → (St.chkAll b ar j).1 = 0 → (St.chkAll (a ++ b) ar i).1 = 0
  | [], b, ar, i, j, _, h => by rw [List.nil_append, St.chkAll_code b ar i j]; exact h
  | x :: r, b, ar, i, j, h, h' => by
    rw [List.cons_append]
    unfold St.chkAll at h ⊢
    by_cases h1 : (x.chk ar i).1 ≠ 0
    · rw [if_pos h1] at h; exact absurd h h1
    rw [if_neg h1] at h ⊢
    exact chkAll_append r b ar _ j h h'

theorem countAll_append : ∀ (a b : List St), St.countAll (a ++ b) = St.countAll a + St.countAll b
  | [], b => by simp [St.countAll]
  | x :: r, b => by rw [List.cons_append, St.countAll, St.countAll, countAll_append r b]; omega

theorem bulkAll_append : ∀ (a b : List St), St.bulkAll (a ++ b) = St.bulkAll a + St.bulkAll b
  | [], b => by simp [St.bulkAll]
  | x :: r, b => by rw [List.cons_append, St.bulkAll, St.bulkAll, bulkAll_append r b]; omega

theorem checkV_code {a : List St} {cy : Int} (h : checkV a = .agg #[.int .i64 0, .int .i64 cy]) : (St.chkAll a [] (-1)).1 = 0 := by
  unfold checkV at h
  by_cases hc : 200 < St.countAll a
  · rw [if_pos hc] at h; simp at h
  rw [if_neg hc] at h
  simp at h
  have h1 := h.1
  rw [chk_body] at h1
  by_cases h2 : (St.chkAll a [] (-1)).1 ≠ 0
  · rw [if_pos h2] at h1; exact h1
  · simpa using h2

/-- What Check says of two bodies that it takes, one behind the other. -/
theorem checkV_append {a b : List St} {cy cy' : Int} (h : checkV a = .agg #[.int .i64 0, .int .i64 cy]) (h' : checkV b = .agg #[.int .i64 0, .int .i64 cy']) :
    (200 < St.countAll (a ++ b) ∧ checkV (a ++ b) = .agg #[.int .i64 2, .int .i64 0]) ∨ checkV (a ++ b) = .agg #[.int .i64 0, .int .i64 0] := by
  have h1 := chkAll_append a b [] (-1) (-1) (checkV_code h) (checkV_code h')
  unfold checkV
  by_cases hc : 200 < St.countAll (a ++ b)
  · rw [if_pos hc]; exact .inl ⟨hc, rfl⟩
  · rw [if_neg hc, chk_body, if_neg (by simpa using h1)]
    exact .inr rfl

theorem meanOf_ok {a : List St} {vs is : List Int} {cx cy k : Int} {s : Ms} (h : meanOf a vs is cx cy = ((0, k), s)) : cx = 0 ∧ vs.length = 8 ∧ is.length = 4 ∧ St.runAll is a 0 ⟨vs, [], 0⟩ = (s, none) := by
  unfold meanOf at h
  by_cases h0 : cx ≠ 0
  · rw [if_pos h0] at h
    simp at h
    exact absurd h.1.1 h0
  rw [if_neg h0] at h
  by_cases h1 : vs.length ≠ 8 ∨ is.length ≠ 4
  · rw [if_pos h1] at h
    simp at h
  rw [if_neg h1] at h
  refine ⟨by simpa using h0, by omega, by omega, ?_⟩
  rcases hz : St.runAll is a 0 ⟨vs, [], 0⟩ with ⟨s3, _ | z⟩
  · rw [hz] at h
    simp at h
    rw [h.2]
  · rw [hz] at h
    simp at h

/-- One body behind another is both. -/
theorem join_is {a b : List St} {vs is : List Int} {s1 s2 : Ms} {x x' k k' : Int} (h1 : meanOf a vs is x k = ((0, 0), s1)) (h2 : meanOf b s1.vars is x' k' = ((0, 0), s2)) :
    (∃ z : Nat, meanOf (a ++ b) vs is 0 0 = ((11, (z : Int)), ⟨[], [], 0⟩) ∧ 20000 < s1.steps + s2.steps) ∨ (meanOf (a ++ b) vs is 0 0 = ((0, 0), ⟨s2.vars, s1.puts ++ s2.puts, s2.steps + s1.steps⟩) ∧ s1.steps + s2.steps ≤ 20000) := by
  obtain ⟨-, l8, l4, r1⟩ := meanOf_ok h1
  obtain ⟨-, -, -, r2⟩ := meanOf_ok h2
  have hs : s1.steps ≤ 20000 := by
    have := (St.runAll_keep is a 0 ⟨vs, [], 0⟩ l8).2.1 (Nat.zero_le _)
    rw [r1] at this
    exact this
  have hsh := St.runAll_shift is s1.puts s1.steps b 0 (0 + St.countAll a) ⟨s1.vars, [], 0⟩ (by simpa using hs)
  have e : later s1.puts s1.steps ⟨s1.vars, [], 0⟩ = s1 := by
    unfold later
    simp
  rw [e] at hsh
  have ha : St.runAll is (a ++ b) 0 ⟨vs, [], 0⟩ = St.runAll is b (0 + St.countAll a) s1 := by rw [St.runAll_append, r1]
  have hm : meanOf (a ++ b) vs is 0 0 = match St.runAll is b (0 + St.countAll a) s1 with
    | (s, none) => ((0, 0), s)
    | (_, some z) => ((11, (z : Int)), ⟨[], [], 0⟩) := by
    unfold meanOf
    rw [if_neg (by simp), if_neg (by omega), ha]
    rcases St.runAll is b (0 + St.countAll a) s1 with ⟨s, _ | z⟩ <;> rfl
  rw [hm]
  rcases hsh s2 r2 with ⟨h3, h4⟩ | ⟨h3, t, z, h4⟩
  · rw [h4]
    exact .inr ⟨rfl, by omega⟩
  · rw [h4]
    exact .inl ⟨z, rfl, by omega⟩

/-- How both are done, where each is done. -/
theorem join_cases {a b : List St} {vs is : List Int} {s1 s2 : Ms} {x x' k k' : Int} (hx : checkV a = .agg #[.int .i64 x, .int .i64 k]) (hy : checkV b = .agg #[.int .i64 x', .int .i64 k']) (h1 : meanOf a vs is x k = ((0, 0), s1)) (h2 : meanOf b s1.vars is x' k' = ((0, 0), s2)) :
    (200 < St.countAll (a ++ b) ∧ checkV (a ++ b) = .agg #[.int .i64 2, .int .i64 0] ∧ meanOf (a ++ b) vs is 2 0 = ((2, 0), ⟨[], [], 0⟩)) ∨
    (∃ z : Nat, checkV (a ++ b) = .agg #[.int .i64 0, .int .i64 0] ∧ meanOf (a ++ b) vs is 0 0 = ((11, (z : Int)), ⟨[], [], 0⟩) ∧ 20000 < s1.steps + s2.steps) ∨
    (checkV (a ++ b) = .agg #[.int .i64 0, .int .i64 0] ∧ meanOf (a ++ b) vs is 0 0 = ((0, 0), ⟨s2.vars, s1.puts ++ s2.puts, s2.steps + s1.steps⟩) ∧ s1.steps + s2.steps ≤ 20000) := by
  have e1 := (meanOf_ok h1).1
  have e2 := (meanOf_ok h2).1
  subst e1 e2
  rcases checkV_append hx hy with ⟨hc, h⟩ | h
  · exact .inl ⟨hc, h, by unfold meanOf; rw [if_pos (by decide)]⟩
  · rcases join_is h1 h2 with ⟨z, h3, h4⟩ | ⟨h3, h4⟩
    · exact .inr (.inl ⟨z, h, h3, h4⟩)
    · exact .inr (.inr ⟨h, h3, h4⟩)
end Go.Proofs.YtikdidfgdiafoabDoor
namespace Go.Proofs.YtikdidfgdiafoabDoor
open Go.ChangeShapes Go.WideShapes Go.ChangeAt Go.RowKit

/-- An append of one slice of one's own to another. -/
theorem append_two {P : Program} (w : World) (base base' : Nat) (t ty e : TypeId) (i : TypeInfo) (z : Value) (size bytes : Nat) (ht : P.underlying t = some (.slice e)) (hi : P.info? e = some i) (hz : i.zero = some z)
    (hsize : i.size = size) (hby : i.bytes = bytes) (hzs : z.cells.size = size) (hsz : 0 < size) (v : Value) (n : Nat) (xs : List Value) (hown : w.ownsRow base e size v n xs)
    (x : Value) (m : Nat) (ys : List Value) (hx : w.ownsRow base' e size x m ys) (h1c : ∀ u ∈ ys, u.oneCell' = true) (b1 : n + m ≤ maxLen) (b2 : (n + m) * bytes ≤ 140737488355328) (hbase : base ≤ w.heap.size) :
    ∃ v' w', (Builtin.append_ #[t, t] ty #[v, x]).run P w = .ok v' w' ∧ w'.ownsRow base e size v' (n + m) (xs ++ ys) ∧ w.grownBy w' v.ownBlock ∧ (v'.ownBlock = v.ownBlock ∨ ∀ k, v'.ownBlock = some k → w.heap.size ≤ k) := by
  have up : ∀ (v' : Value) (w' : World), w'.ownsRow w.heap.size e size v' (n + m) (xs ++ ys) → w'.ownsRow base e size v' (n + m) (xs ++ ys) := by
    intro v' w' ho
    obtain ⟨q1, q2⟩ := ho
    refine ⟨q1, ?_⟩
    rcases q2 with q2 | ⟨g, cap, cur, hv, hb, r⟩
    · exact .inl q2
    · exact .inr ⟨g, cap, cur, hv, Nat.le_trans hbase hb, r⟩
  have hx' := hx
  rcases hx' with ⟨hl, ⟨rfl, rfl⟩ | ⟨g, cap, cur, rfl, hb, hgg, hcap, hcm, hcs, htk⟩⟩
  · have hys : ys = [] := List.eq_nil_of_length_eq_zero (by simpa using hl)
    subst hys
    refine ⟨v, w, run_append_owned_none w base t ty e i size ht hi v n xs hown, by simpa using hown, ⟨rfl, rfl, rfl, Nat.le_refl _, fun _ _ _ => rfl⟩, .inl rfl⟩
  · have hc := hx.cells rfl
    have hown' := hown
    rcases hown' with ⟨hl', ⟨rfl, rfl⟩ | ⟨g', cap', cur', rfl, hb', hgg', hcap', hcm', hcs', htk'⟩⟩
    · have hxs : xs = [] := List.eq_nil_of_length_eq_zero (by simpa using hl')
      subst hxs
      obtain ⟨v', w', r1, r2, r3, -⟩ := run_append_own (P := P) w w.heap.size t ty e i z size bytes ht hi hz hsize hby hzs hsz (.slice none 0 0) 0 [] (World.ownsRow_nil w _ e size) ⟨g, 0, none⟩ m cap ys hl hc h1c b1 b2 (Nat.le_refl _)
      exact ⟨v', w', r1, up v' w' r2, r3, .inr fun k hk => (r2.lt k hk).1⟩
    · by_cases hr : n + m ≤ cap'
      · obtain ⟨w', r1, r2, r3⟩ := run_append_fits (P := P) w base t ty e i size ht hi hsize g' n cap' xs hown ⟨g, 0, none⟩ m cap ys hl hc h1c hr
        exact ⟨_, w', r1, r2, r3, .inl rfl⟩
      · obtain ⟨v', w', r1, r2, r3⟩ := run_append_arg_grows (P := P) w t ty e i z size bytes ht hi hz hsize hby hzs hsz ⟨g', 0, none⟩ n cap' xs hl' (hown.cells rfl) ⟨g, 0, none⟩ m cap ys hl hc (by omega) b1 b2
        exact ⟨v', w', r1, up v' w' r2, ⟨r3.os, r3.tape, r3.output, r3.size, fun k hk _ => r3.block k hk (by simp)⟩, .inr fun k hk => (r2.lt k hk).1⟩

/-- An append whose run is known, for the walk. -/
theorem append_known {P : Program} {w : World} {ops : Array Oper} {rest : List Oper} {o : Oper} {a : Act} {Q : Exit → Act → World → Prop} (hgd : o.guard = none) (s x : Operand) (t : TypeId)
    (ho : o.op = .call { callee := .builtin .append, args := #[s, x], argTypes := #[t, t] }) {v u v' : Value} {w' : World} (hs : a.eval s = v) (hx : a.eval x = u)
    (hrun : (Builtin.append_ #[t, t] o.type #[v, u]).run P w = .ok v' w') (h : wpList P ops Q rest (a.put o.dst v') w') : wpList P ops Q (o :: rest) a w := by
  refine wpList_plain hgd fun K hK => ?_
  unfold Oper.wp
  simp [execOp, ho, resolve, invoke, builtin, hs, hx, hrun, Result.andThen]
  exact hK _ _ h

/-- An append whose run is known, as one step of a region that draws its order. -/
theorem region_append {P : Program} {ops : Array Oper} {o : Oper} {a : Act} {w : World} {K : Act → World → Prop} {Q : Exit → Act → World → Prop} {E : Prop} [Decidable (Region.wanted o (yielded ops a.tmps) = true)] (hgd : o.guard = none) (s x : Operand) (t : TypeId)
    (ho : o.op = .call { callee := .builtin .append, args := #[s, x], argTypes := #[t, t] }) {v u v' : Value} {w' : World} (hs : a.eval s = v) (hx : a.eval x = u)
    (hrun : (Builtin.append_ #[t, t] o.type #[v, u]).run P w = .ok v' w') (h : K (a.put o.dst v') w') : if Region.wanted o (yielded ops a.tmps) = true then Oper.wp P o a w K Q else E := by
  have hw : Region.wanted o (yielded ops a.tmps) = true := by simp [Region.wanted, hgd]
  rw [if_pos hw]
  unfold Oper.wp
  simp [execOp, ho, resolve, invoke, builtin, hs, hx, hrun, Result.andThen]
  exact h

theorem Cells_one {p : Nat → Prop} {w : World} : ∀ (a : List St) {xs : List Value} {bl : List Nat}, St.Cells p w a xs bl → ∀ u ∈ xs, u.oneCell' = true
  | [], xs, bl, h => by
    obtain ⟨rfl, -⟩ := h
    intro u hu
    cases hu
  | .mk k n e ck ca cb b l :: r, xs, bl, h => by
    obtain ⟨x, ys, q1, q2, rfl, -, h1, h2⟩ := h
    have ih := Cells_one r h2
    unfold St.InQ stVal at h1
    obtain ⟨e0, e1, e2, a0, a1, a2, b0, b1, b2, sb, sl, hv, i1, i2, i3, -, -, -, ⟨ad, c, rfl, -⟩, ⟨ad', c', rfl, -⟩⟩ := h1
    obtain ⟨k1, n1, ad1, m1, c1, g1⟩ := i1.shape
    obtain ⟨k2, n2, ad2, m2, c2, g2⟩ := i2.shape
    obtain ⟨k3, n3, ad3, m3, c3, g3⟩ := i3.shape
    simp only [Value.agg.injEq, Array.mk.injEq, List.cons.injEq, and_true] at hv g1 g2 g3
    obtain ⟨rfl, rfl, rfl⟩ := g1
    obtain ⟨rfl, rfl, rfl⟩ := g2
    obtain ⟨rfl, rfl, rfl⟩ := g3
    obtain ⟨v0, v1, v2, v3, v4, v5, v6, v7, v8, v9, v10, v11, v12, v13⟩ := hv
    intro u hu
    rw [List.mem_append] at hu
    rcases hu with hu | hu
    · simp only [v0, v1, v2, v3, v4, v5, v6, v7, v8, v9, v10, v11, v12, v13, List.mem_cons, List.not_mem_nil, or_false] at hu
      rcases hu with rfl | rfl | rfl | rfl | rfl | rfl | rfl | rfl | rfl | rfl | rfl | rfl | rfl | rfl <;> rfl
    · exact ih u hu

theorem Cells_append {p : Nat → Prop} {w : World} : ∀ (a b : List St) {xs ys : List Value} {bl bl' : List Nat}, St.Cells p w a xs bl → St.Cells p w b ys bl' → St.Cells p w (a ++ b) (xs ++ ys) (bl ++ bl')
  | [], b, xs, ys, bl, bl', h, h' => by
    obtain ⟨rfl, rfl⟩ := h
    exact h'
  | s :: r, b, xs, ys, bl, bl', h, h' => by
    obtain ⟨x, zs, q1, q2, rfl, rfl, h1, h2⟩ := h
    exact ⟨x, zs ++ ys, q1, q2 ++ bl', by simp, by simp, h1, Cells_append r b h2 h'⟩
end Go.Proofs.YtikdidfgdiafoabDoor
namespace Go.Proofs.YtikdidfgdiafoabDoor
open Go.ChangeShapes Go.WideShapes Go.ChangeAt Go.RowKit

theorem PutSl.len {w : World} {ps : List (Int × Int)} {ad : Option Addr} {n c : Nat} (h : PutSl w ps (.slice ad n c)) : n = ps.length := by
  obtain ⟨ad2, c2, e, -⟩ := h
  cases e
  rfl

theorem meanOf_not {a : List St} {vs is : List Int} {cx cy c k : Int} {s : Ms} (h : meanOf a vs is cx cy = ((c, k), s)) : (c ≠ 0 → s = ⟨[], [], 0⟩) ∧ (c = 0 → k = 0) := by
  unfold meanOf at h
  by_cases h0 : cx ≠ 0
  · rw [if_pos h0] at h
    simp at h
    exact ⟨fun _ => h.2.symm, fun e => absurd (h.1.1.trans e) h0⟩
  rw [if_neg h0] at h
  by_cases h1 : vs.length ≠ 8 ∨ is.length ≠ 4
  · rw [if_pos h1] at h
    simp at h
    exact ⟨fun _ => h.2.symm, fun e => by omega⟩
  rw [if_neg h1] at h
  rcases hz : St.runAll is a 0 ⟨vs, [], 0⟩ with ⟨s3, _ | z⟩
  · rw [hz] at h
    simp at h
    exact ⟨fun e => absurd h.1.1.symm e, fun _ => h.1.2.symm⟩
  · rw [hz] at h
    simp at h
    exact ⟨fun _ => h.2.symm, fun e => by omega⟩

set_option maxRecDepth 20000 in
set_option maxHeartbeats 4000000 in
/-- Where nothing is claimed. -/
theorem joins_idle (a b : List St) (vs is : List Int) (w : World) (ad bd va ia : Option Addr) (ac bc vc ic : Nat) (hr : Ready w) (hsa : St.Sl w a (.slice ad a.length ac)) (hsb : St.Sl w b (.slice bd b.length bc)) (hb : St.bulkAll a + St.bulkAll b ≤ 1048576)
    (hv : IntSl w vs (.slice va vs.length vc)) (hi : IntSl w is (.slice ia is.length ic)) (hno : ¬ ((decide (St.deepAll 0 a ≤ 300) && decide ((St.countAll a : Int) ≤ 2000)) = true ∧ (decide (St.deepAll 0 b ≤ 300) && decide ((St.countAll b : Int) ≤ 2000)) = true)) :
    Calls Tryd.prog 4 #[.slice ad a.length ac, .slice bd b.length bc, .slice va vs.length vc, .slice ia is.length ic] w fun r w' => r = .returned (.bool true) ∧ Below w.heap.size w w' := by
  obtain ⟨ca, hca⟩ : ∃ c, (decide (St.deepAll 0 a ≤ 300) && decide ((St.countAll a : Int) ≤ 2000)) = c := ⟨_, rfl⟩
  obtain ⟨cb, hcb⟩ : ∃ c, (decide (St.deepAll 0 b ≤ 300) && decide ((St.countAll b : Int) ≤ 2000)) = c := ⟨_, rfl⟩
  rw [hca, hcb] at hno
  have HA : Hid ((Ready w ∧ St.Sl w a (.slice ad a.length ac) ∧ St.Sl w b (.slice bd b.length bc)) ∧ (IntSl w vs (.slice va vs.length vc) ∧ IntSl w is (.slice ia is.length ic))) := ⟨⟨hr, hsa, hsb⟩, hv, hi⟩
  have HC : Hid ((decide (St.deepAll 0 a ≤ 300) && decide ((St.countAll a : Int) ≤ 2000)) = ca ∧ (decide (St.deepAll 0 b ≤ 300) && decide ((St.countAll b : Int) ≤ 2000)) = cb) := ⟨hca, hcb⟩
  clear hr hsa hsb hv hi hca hcb
  cases ca with
  | false =>
    go_enter Tryd.func4, Tryd.ntmps4
    go_wp2_with (go_at_call 5; refine (does_any w HA.out.1.1).mono ?_; rintro r w1 ⟨rfl, hb1⟩; have H1 : Hid (Below w.heap.size w w1) := hb1; clear hb1)
    go_wp2_with (go_at_call 6; refine (claims_b a w1 _ false (by omega) (HA.out.1.2.1.below H1.out) HC.out.1).mono ?_; rintro r w2 ⟨rfl, hb2⟩; have H2 : Hid (Below w.heap.size w w2) := below_seq H1.out hb2; clear hb2)
    go_ret
    exact ⟨rfl, H2.out⟩
  | true =>
  cases cb with
  | false =>
    go_enter Tryd.func4, Tryd.ntmps4
    go_wp2_with (go_at_call 5; refine (does_any w HA.out.1.1).mono ?_; rintro r w1 ⟨rfl, hb1⟩; have H1 : Hid (Below w.heap.size w w1) := hb1; clear hb1)
    have PH : Phase 1 := trivial
    go_wp2_with (go_at_call 6; guard_hyp PH : Phase 1; clear PH; refine (claims_b a w1 _ true (by omega) (HA.out.1.2.1.below H1.out) HC.out.1).mono ?_; rintro r w2 ⟨rfl, hb2⟩; have H2 : Hid (Below w.heap.size w w2) := below_seq H1.out hb2; clear hb2; have PH : Phase 2 := trivial)
    go_wp2_with (go_at_call 6; guard_hyp PH : Phase 2; clear PH; refine (claims_b b w2 _ false (by omega) (HA.out.1.2.2.below H2.out) HC.out.2).mono ?_; rintro r w3 ⟨rfl, hb3⟩; have H3 : Hid (Below w.heap.size w w3) := below_seq H2.out hb3; clear hb3)
    go_ret
    exact ⟨rfl, H3.out⟩
  | true => exact absurd ⟨rfl, rfl⟩ hno
set_option maxRecDepth 20000 in
set_option maxHeartbeats 4000000 in
/-- Where the first body is not done. -/
theorem joins_first (a b : List St) (vs is : List Int) (w : World) (ad bd va ia : Option Addr) (ac bc vc ic : Nat) (hr : Ready w) (hsa : St.Sl w a (.slice ad a.length ac)) (hsb : St.Sl w b (.slice bd b.length bc)) (hb : St.bulkAll a + St.bulkAll b ≤ 1048576)
    (hv : IntSl w vs (.slice va vs.length vc)) (hi : IntSl w is (.slice ia is.length ic)) (cx cy fc fk : Int) (hca : (decide (St.deepAll 0 a ≤ 300) && decide ((St.countAll a : Int) ≤ 2000)) = true) (hcb : (decide (St.deepAll 0 b ≤ 300) && decide ((St.countAll b : Int) ≤ 2000)) = true) (hx : checkV a = .agg #[.int .i64 cx, .int .i64 cy]) (hm : meanOf a vs is cx cy = ((fc, fk), ⟨[], [], 0⟩)) (hf : fc ≠ 0) :
    Calls Tryd.prog 4 #[.slice ad a.length ac, .slice bd b.length bc, .slice va vs.length vc, .slice ia is.length ic] w fun r w' => r = .returned (.bool true) ∧ Below w.heap.size w w' := by
  have HA : Hid ((Ready w ∧ St.Sl w a (.slice ad a.length ac) ∧ St.Sl w b (.slice bd b.length bc)) ∧ (IntSl w vs (.slice va vs.length vc) ∧ IntSl w is (.slice ia is.length ic))) := ⟨⟨hr, hsa, hsb⟩, hv, hi⟩
  have HC : Hid ((decide (St.deepAll 0 a ≤ 300) && decide ((St.countAll a : Int) ≤ 2000)) = true ∧ (decide (St.deepAll 0 b ≤ 300) && decide ((St.countAll b : Int) ≤ 2000)) = true) := ⟨hca, hcb⟩
  have HM : Hid (checkV a = .agg #[.int .i64 cx, .int .i64 cy] ∧ meanOf a vs is cx cy = ((fc, fk), ⟨[], [], 0⟩)) := ⟨hx, hm⟩
  have hf1 : (fc != 0) = true := by simpa using hf
  clear hr hsa hsb hv hi hx hm hca hcb
  go_enter Tryd.func4, Tryd.ntmps4
  go_wp2_with (go_at_call 5; refine (does_any w HA.out.1.1).mono ?_; rintro r w1 ⟨rfl, hb1⟩; have H1 : Hid (Below w.heap.size w w1) := hb1; clear hb1)
  have PH : Phase 1 := trivial
  go_wp2_with (go_at_call 6; guard_hyp PH : Phase 1; clear PH; refine (claims_b a w1 _ true (by omega) (HA.out.1.2.1.below H1.out) HC.out.1).mono ?_; rintro r w2 ⟨rfl, hb2⟩; have H2 : Hid (Below w.heap.size w w2) := below_seq H1.out hb2; clear hb2; have PH : Phase 2 := trivial)
  go_wp2_with (go_at_call 6; guard_hyp PH : Phase 2; clear PH; refine (claims_b b w2 _ true (by omega) (HA.out.1.2.2.below H2.out) HC.out.2).mono ?_; rintro r w3 ⟨rfl, hb3⟩; have H3 : Hid (Below w.heap.size w w3) := below_seq H2.out hb3; clear hb3)
  go_wp2_with (go_at_call 8; refine (Twin_any (St.bulkAll a + 1) a w3 _ (Nat.lt_succ_self _) (by omega) (HA.out.1.2.1.below H3.out)).mono ?_; rintro r w4 ⟨v4, bl, rfl, hsl4, hnd4, hb4⟩; obtain ⟨oad, oc, rfl, -⟩ := id hsl4.plain; have H4 : Hid ((St.SlQ (fun b => w3.heap.size ≤ b) w4 a (.slice oad a.length oc) bl ∧ bl.Nodup) ∧ Below w.heap.size w w4) := ⟨⟨hsl4, hnd4⟩, below_seq H3.out hb4⟩; clear hsl4 hnd4 hb4)
  go_wp2_with (go_at_call 10; refine (Run_is w4 _ a _ _ _ _ _ _ vs is cx cy _ bl (HA.out.1.1.below H4.out.2) H4.out.1.1 H4.out.1.2 (by omega) HM.out.1 (HA.out.2.1.below H4.out.2) (HA.out.2.2.below H4.out.2)).mono ?_; intro r w5 h5; rw [HM.out.2] at h5; obtain ⟨xad, xn, xcap, yad, yn, ycap, rfl, H5⟩ := h5.open; clear h5; have hxn : xn = 0 := H5.out.1.len; have hyn : yn = 0 := H5.out.2.1.len; subst hxn hyn)
  go_ret
  refine ⟨rfl, ?_⟩
  exact ((below_seq H4.out.2 H5.out.2.2.1).alloc (below_seq H4.out.2 H5.out.2.2.1).size _).alloc (by have := (below_seq H4.out.2 H5.out.2.2.1).size; simp; omega) _
end Go.Proofs.YtikdidfgdiafoabDoor
namespace Go.Proofs.YtikdidfgdiafoabDoor
open Go.ChangeShapes Go.WideShapes Go.ChangeAt Go.RowKit

/-- What a run has left, in a world. -/
def OutAt (w : World) (s : Ms) (vv pv : Value) : Prop := ((vv = .slice none 0 0 ∧ s.vars = []) ∨ ∃ vb vc, vv = .slice (some ⟨vb, 0, none⟩) 8 vc ∧ VarBlk w vb vc s.vars) ∧ ∃ B, w.ownsRow B 42 2 pv s.puts.length (putVs s.puts)

theorem OutAt.move {w w' : World} {s : Ms} {vv pv : Value} (h : OutAt w s vv pv) (hb : ∀ (k : Nat) (cs : Array Value) (t : TypeId), (t = 3 ∨ t = 42) → w.heap[k]? = some (Obj.cells cs t (0, 0)) → w'.heap[k]? = some (Obj.cells cs t (0, 0))) : OutAt w' s vv pv := by
  obtain ⟨h1, B, hl, h4⟩ := h
  refine ⟨?_, B, hl, ?_⟩
  · rcases h1 with h1 | ⟨vb, vc, e, l8, cs, h1, h2, h3⟩
    · exact .inl h1
    · exact .inr ⟨vb, vc, e, l8, cs, hb _ _ _ (.inl rfl) h1, h2, h3⟩
  · rcases h4 with h4 | ⟨g, cap, cur, e, hB, hg, hr⟩
    · exact .inl h4
    · exact .inr ⟨g, cap, cur, e, hB, hb _ _ _ (.inr rfl) hg, hr⟩

theorem OutAt.below {w w' : World} {s : Ms} {vv pv : Value} (h : OutAt w s vv pv) (hb : Below w.heap.size w w') : OutAt w' s vv pv :=
  h.move fun k _ _ _ hk => (hb.block k (Array.getElem?_eq_some_iff.1 hk).1).trans hk

theorem OutAt.ints {w : World} {s : Ms} {vv pv : Value} (h : OutAt w s vv pv) : IntSl w s.vars vv := by
  rcases h.1 with ⟨rfl, h0⟩ | ⟨vb, vc, rfl, h1⟩
  · exact ⟨_, _, by rw [h0]; rfl, .inl h0⟩
  · exact h1.sl

theorem OutAt.puts {w : World} {s : Ms} {vv pv : Value} (h : OutAt w s vv pv) : PutSl w s.puts pv := PutSl.of_own h.2.choose_spec

theorem EndIs.out {w w' : World} {m : (Int × Int) × Ms} {e : Ending} (h : EndIs w m e w') : ∃ vad vn vcap pad pn pcap, e = .returned (.tuple #[.agg #[.slice vad vn vcap, .slice pad pn pcap, .int .i64 m.2.steps], .agg #[.int .i64 m.1.1, .int .i64 m.1.2]]) ∧ OutAt w' m.2 (.slice vad vn vcap) (.slice pad pn pcap) ∧ Below w.heap.size w w' := by
  obtain ⟨vv, pv, B, rfl, hv, ho, -, hb⟩ := h
  obtain ⟨pad, pcap, rfl⟩ := owns_value ho
  rcases hv with ⟨rfl, h0⟩ | ⟨vb, vc, rfl, hv, -⟩
  · exact ⟨_, _, _, _, _, _, rfl, ⟨.inl ⟨rfl, h0⟩, B, ho⟩, hb⟩
  · exact ⟨_, _, _, _, _, _, rfl, ⟨.inr ⟨vb, vc, rfl, hv⟩, B, ho⟩, hb⟩

def endW (vad : Option Addr) (vn vcap : Nat) (pad : Option Addr) (pn pcap : Nat) (n : Nat) : Value := .agg #[.slice vad vn vcap, .slice pad pn pcap, .int .i64 n]

/-- What is known while the second body is done, whatever was done so far. -/
structure EF (w5 : World) (b : List St) (A0 A1 A2 bv iv : Value) (gc gk : Int) (s2 : Ms) (l0 l1 l2 l3 l4 l5 l6 l7 l8 l9 l10 l11 : Bool) (x11 x51 x52 x53 x54 x55 x56 x57 x58 x59 : Value) (w' : World) : Prop where
  bel : Below w5.heap.size w5 w'
  blkA : w'.heap[w5.heap.size]? = some (.cells #[A0, A1, A2] 28 (0, 0))
  blkF : ∃ f0 f1, w'.heap[w5.heap.size + 1]? = some (.cells #[f0, f1] 31 (0, 0)) ∧ (l11 = true → x59 = .agg #[f0, f1])
  mid : (l5 = false ∧ l6 = false ∧ l7 = false ∧ l8 = false ∧ l10 = false ∧ l11 = false ∧ (l0 = true → x52 = bv) ∧ (l1 = true → ∃ p bl, St.SlQ p w' b x53 bl ∧ bl.Nodup) ∧ (l2 = true → x54 = .pointer (some ⟨w5.heap.size, 0, none⟩)) ∧ (l3 = true → x55 = A0) ∧ (l4 = true → x56 = iv)) ∨
    (l5 = true ∧ (l1 = true ∧ l3 = true ∧ l4 = true) ∧ ∃ vad vn vcap pad pn pcap, OutAt w' s2 (.slice vad vn vcap) (.slice pad pn pcap) ∧ x57 = (.tuple #[endW vad vn vcap pad pn pcap s2.steps, .agg #[.int .i64 gc, .int .i64 gk]]) ∧ (l6 = true → x51 = (.tuple #[endW vad vn vcap pad pn pcap s2.steps, .agg #[.int .i64 gc, .int .i64 gk]])) ∧ (l6 = false → l7 = false ∧ l8 = false) ∧ (l7 = true → x58 = endW vad vn vcap pad pn pcap s2.steps) ∧ (l7 = false → l10 = false) ∧ (l8 = true → x59 = .agg #[.int .i64 gc, .int .i64 gk]) ∧ (l8 = false → l11 = false))
  b11 : (l9 = false ∧ l10 = false) ∨ (l9 = true ∧ ∃ c0 c1 c2 h, x11 = .pointer (some ⟨h, 0, none⟩) ∧ w5.heap.size + 1 < h ∧ w'.heap[h]? = some (.cells #[c0, c1, c2] 28 (0, 0)) ∧ (l10 = true → x58 = .agg #[c0, c1, c2]))

theorem EF.grow {w5 : World} {b : List St} {A0 A1 A2 bv iv : Value} {gc gk : Int} {s2 : Ms} {l0 l1 l2 l3 l4 l5 l6 l7 l8 l9 l10 l11 : Bool} {x11 x51 x52 x53 x54 x55 x56 x57 x58 x59 : Value} {w' w'' : World} (h : EF w5 b A0 A1 A2 bv iv gc gk s2 l0 l1 l2 l3 l4 l5 l6 l7 l8 l9 l10 l11 x11 x51 x52 x53 x54 x55 x56 x57 x58 x59 w') (hb : Below w'.heap.size w' w'') : EF w5 b A0 A1 A2 bv iv gc gk s2 l0 l1 l2 l3 l4 l5 l6 l7 l8 l9 l10 l11 x11 x51 x52 x53 x54 x55 x56 x57 x58 x59 w'' := by
  obtain ⟨h1, hA, ⟨f0, f1, hF, rF⟩, h2, h3⟩ := h
  have old : ∀ (k : Nat) (o : Obj), w'.heap[k]? = some o → w''.heap[k]? = some o := fun k o hk => (hb.block k (Array.getElem?_eq_some_iff.1 hk).1).trans hk
  refine ⟨h1.trans (hb.mono h1.size), old _ _ hA, ⟨f0, f1, old _ _ hF, rF⟩, ?_, ?_⟩
  · rcases h2 with ⟨a, b, c, d, e, f, g, i, r⟩ | ⟨a, b, vad, vn, vcap, pad, pn, pcap, h, r⟩
    · refine .inl ⟨a, b, c, d, e, f, g, fun q => ?_, r⟩
      obtain ⟨p, bl, hs, hn⟩ := i q
      exact ⟨p, bl, SlQ_below hs hb, hn⟩
    · exact .inr ⟨a, b, vad, vn, vcap, pad, pn, pcap, h.below hb, r⟩
  · rcases h3 with h3 | ⟨a, c0, c1, c2, h, e, hl, hh, r⟩
    · exact .inl h3
    · exact .inr ⟨a, c0, c1, c2, h, e, hl, old _ _ hh, r⟩

theorem EF.s0 {w5 : World} {b : List St} {A0 A1 A2 bv iv : Value} {gc gk : Int} {s2 : Ms} {l1 l2 l3 l4 l5 l6 l7 l8 l9 l10 l11 : Bool} {x11 x51 x52 x53 x54 x55 x56 x57 x58 x59 : Value} {w' : World} (h : EF w5 b A0 A1 A2 bv iv gc gk s2 false l1 l2 l3 l4 l5 l6 l7 l8 l9 l10 l11 x11 x51 x52 x53 x54 x55 x56 x57 x58 x59 w')  :
    EF w5 b A0 A1 A2 bv iv gc gk s2 true l1 l2 l3 l4 l5 l6 l7 l8 l9 l10 l11 x11 x51 bv x53 x54 x55 x56 x57 x58 x59 w' := by
  obtain ⟨h1, hA, hF, h2, h3⟩ := h
  refine ⟨h1, hA, hF, ?_, h3⟩
  rcases h2 with ⟨a, b, c, d, e, f, -, i, j, k, m⟩ | h2
  · exact .inl ⟨a, b, c, d, e, f, fun _ => rfl, i, j, k, m⟩
  · exact .inr h2

theorem EF.s1 {w5 : World} {b : List St} {A0 A1 A2 bv iv : Value} {gc gk : Int} {s2 : Ms} {l0 l2 l3 l4 l5 l6 l7 l8 l9 l10 l11 : Bool} {x11 x51 x52 x53 x54 x55 x56 x57 x58 x59 : Value} {w' : World} (h : EF w5 b A0 A1 A2 bv iv gc gk s2 l0 false l2 l3 l4 l5 l6 l7 l8 l9 l10 l11 x11 x51 x52 x53 x54 x55 x56 x57 x58 x59 w') {v : Value} (hv : ∃ p bl, St.SlQ p w' b v bl ∧ bl.Nodup) :
    EF w5 b A0 A1 A2 bv iv gc gk s2 l0 true l2 l3 l4 l5 l6 l7 l8 l9 l10 l11 x11 x51 x52 v x54 x55 x56 x57 x58 x59 w' := by
  obtain ⟨h1, hA, hF, h2, h3⟩ := h
  refine ⟨h1, hA, hF, ?_, h3⟩
  rcases h2 with ⟨a, b, c, d, e, f, g, -, j, k, m⟩ | ⟨-, ⟨q, -, -⟩, -⟩
  · exact .inl ⟨a, b, c, d, e, f, g, fun _ => hv, j, k, m⟩
  · cases q

theorem EF.s2 {w5 : World} {b : List St} {A0 A1 A2 bv iv : Value} {gc gk : Int} {s2 : Ms} {l0 l1 l3 l4 l5 l6 l7 l8 l9 l10 l11 : Bool} {x11 x51 x52 x53 x54 x55 x56 x57 x58 x59 : Value} {w' : World} (h : EF w5 b A0 A1 A2 bv iv gc gk s2 l0 l1 false l3 l4 l5 l6 l7 l8 l9 l10 l11 x11 x51 x52 x53 x54 x55 x56 x57 x58 x59 w')  :
    EF w5 b A0 A1 A2 bv iv gc gk s2 l0 l1 true l3 l4 l5 l6 l7 l8 l9 l10 l11 x11 x51 x52 x53 (.pointer (some ⟨w5.heap.size, 0, none⟩)) x55 x56 x57 x58 x59 w' := by
  obtain ⟨h1, hA, hF, h2, h3⟩ := h
  refine ⟨h1, hA, hF, ?_, h3⟩
  rcases h2 with ⟨a, b, c, d, e, f, g, i, -, k, m⟩ | h2
  · exact .inl ⟨a, b, c, d, e, f, g, i, fun _ => rfl, k, m⟩
  · exact .inr h2

theorem EF.s3 {w5 : World} {b : List St} {A0 A1 A2 bv iv : Value} {gc gk : Int} {s2 : Ms} {l0 l1 l2 l4 l5 l6 l7 l8 l9 l10 l11 : Bool} {x11 x51 x52 x53 x54 x55 x56 x57 x58 x59 : Value} {w' : World} (h : EF w5 b A0 A1 A2 bv iv gc gk s2 l0 l1 l2 false l4 l5 l6 l7 l8 l9 l10 l11 x11 x51 x52 x53 x54 x55 x56 x57 x58 x59 w')  :
    EF w5 b A0 A1 A2 bv iv gc gk s2 l0 l1 l2 true l4 l5 l6 l7 l8 l9 l10 l11 x11 x51 x52 x53 x54 A0 x56 x57 x58 x59 w' := by
  obtain ⟨h1, hA, hF, h2, h3⟩ := h
  refine ⟨h1, hA, hF, ?_, h3⟩
  rcases h2 with ⟨a, b, c, d, e, f, g, i, j, -, m⟩ | ⟨-, ⟨-, q, -⟩, -⟩
  · exact .inl ⟨a, b, c, d, e, f, g, i, j, fun _ => rfl, m⟩
  · cases q

theorem EF.s4 {w5 : World} {b : List St} {A0 A1 A2 bv iv : Value} {gc gk : Int} {s2 : Ms} {l0 l1 l2 l3 l5 l6 l7 l8 l9 l10 l11 : Bool} {x11 x51 x52 x53 x54 x55 x56 x57 x58 x59 : Value} {w' : World} (h : EF w5 b A0 A1 A2 bv iv gc gk s2 l0 l1 l2 l3 false l5 l6 l7 l8 l9 l10 l11 x11 x51 x52 x53 x54 x55 x56 x57 x58 x59 w')  :
    EF w5 b A0 A1 A2 bv iv gc gk s2 l0 l1 l2 l3 true l5 l6 l7 l8 l9 l10 l11 x11 x51 x52 x53 x54 x55 iv x57 x58 x59 w' := by
  obtain ⟨h1, hA, hF, h2, h3⟩ := h
  refine ⟨h1, hA, hF, ?_, h3⟩
  rcases h2 with ⟨a, b, c, d, e, f, g, i, j, k, -⟩ | ⟨-, ⟨-, -, q⟩, -⟩
  · exact .inl ⟨a, b, c, d, e, f, g, i, j, k, fun _ => rfl⟩
  · cases q

theorem EF.s5 {w5 : World} {b : List St} {A0 A1 A2 bv iv : Value} {gc gk : Int} {s2 : Ms} {l0 l2 l6 l7 l8 l9 l10 l11 : Bool} {x11 x51 x52 x53 x54 x55 x56 x57 x58 x59 : Value} {w' : World} (h : EF w5 b A0 A1 A2 bv iv gc gk s2 l0 true l2 true true false l6 l7 l8 l9 l10 l11 x11 x51 x52 x53 x54 x55 x56 x57 x58 x59 w') {vn vcap pn pcap : Nat} {vad pad : Option Addr} (hv : OutAt w' s2 (.slice vad vn vcap) (.slice pad pn pcap)) :
    EF w5 b A0 A1 A2 bv iv gc gk s2 l0 true l2 true true true l6 l7 l8 l9 l10 l11 x11 x51 x52 x53 x54 x55 x56 (.tuple #[endW vad vn vcap pad pn pcap s2.steps, .agg #[.int .i64 gc, .int .i64 gk]]) x58 x59 w' := by
  obtain ⟨h1, hA, hF, h2, h3⟩ := h
  refine ⟨h1, hA, hF, ?_, h3⟩
  rcases h2 with ⟨a, b, c, d, e, f, -⟩ | ⟨b, -⟩
  · subst b c d e f
    exact .inr ⟨rfl, ⟨rfl, rfl, rfl⟩, vad, vn, vcap, pad, pn, pcap, hv, rfl, (fun h => by cases h), (fun _ => ⟨rfl, rfl⟩), (fun h => by cases h), (fun _ => rfl), (fun h => by cases h), (fun _ => rfl)⟩
  · cases b

theorem EF.s6 {w5 : World} {b : List St} {A0 A1 A2 bv iv : Value} {gc gk : Int} {s2 : Ms} {l0 l1 l2 l3 l4 l7 l8 l9 l10 l11 : Bool} {x11 x51 x52 x53 x54 x55 x56 x57 x58 x59 : Value} {w' : World} (h : EF w5 b A0 A1 A2 bv iv gc gk s2 l0 l1 l2 l3 l4 true false l7 l8 l9 l10 l11 x11 x51 x52 x53 x54 x55 x56 x57 x58 x59 w')  :
    EF w5 b A0 A1 A2 bv iv gc gk s2 l0 l1 l2 l3 l4 true true l7 l8 l9 l10 l11 x11 x57 x52 x53 x54 x55 x56 x57 x58 x59 w' := by
  obtain ⟨h1, hA, hF, h2, h3⟩ := h
  refine ⟨h1, hA, hF, ?_, h3⟩
  rcases h2 with ⟨a, -⟩ | ⟨a, b, vad, vn, vcap, pad, pn, pcap, h, e7, -, e4, r⟩
  · cases a
  · obtain ⟨rfl, rfl⟩ := e4 rfl
    exact .inr ⟨a, b, vad, vn, vcap, pad, pn, pcap, h, e7, (fun _ => e7), (fun h => by cases h), r⟩

theorem EF.s7 {w5 : World} {b : List St} {A0 A1 A2 bv iv : Value} {gc gk : Int} {s2 : Ms} {l0 l1 l2 l3 l4 l5 l8 l9 l10 l11 : Bool} {x11 x51 x52 x53 x54 x55 x56 x57 x58 x59 : Value} {w' : World} (h : EF w5 b A0 A1 A2 bv iv gc gk s2 l0 l1 l2 l3 l4 l5 true false l8 l9 l10 l11 x11 x51 x52 x53 x54 x55 x56 x57 x58 x59 w') {v : Value} (hv : ∀ y z, x51 = .tuple #[y, z] → v = y) :
    EF w5 b A0 A1 A2 bv iv gc gk s2 l0 l1 l2 l3 l4 l5 true true l8 l9 l10 l11 x11 x51 x52 x53 x54 x55 x56 x57 v x59 w' := by
  obtain ⟨h1, hA, hF, h2, h3⟩ := h
  rcases h2 with ⟨-, a, -⟩ | ⟨a, b, vad, vn, vcap, pad, pn, pcap, h, e7, e4, -, -, e5, r⟩
  · cases a
  · have e10 := e5 rfl
    subst e10
    refine ⟨h1, hA, hF, .inr ⟨a, b, vad, vn, vcap, pad, pn, pcap, h, e7, e4, (fun h => by cases h), (fun _ => hv _ _ (e4 rfl)), (fun h => by cases h), r⟩, ?_⟩
    rcases h3 with h3 | ⟨q, c0, c1, c2, g, e, hl, hh, -⟩
    · exact .inl h3
    · exact .inr ⟨q, c0, c1, c2, g, e, hl, hh, fun h => by cases h⟩

theorem EF.s8 {w5 : World} {b : List St} {A0 A1 A2 bv iv : Value} {gc gk : Int} {s2 : Ms} {l0 l1 l2 l3 l4 l5 l7 l9 l10 l11 : Bool} {x11 x51 x52 x53 x54 x55 x56 x57 x58 x59 : Value} {w' : World} (h : EF w5 b A0 A1 A2 bv iv gc gk s2 l0 l1 l2 l3 l4 l5 true l7 false l9 l10 l11 x11 x51 x52 x53 x54 x55 x56 x57 x58 x59 w') {v : Value} (hv : ∀ y z, x51 = .tuple #[y, z] → v = z) :
    EF w5 b A0 A1 A2 bv iv gc gk s2 l0 l1 l2 l3 l4 l5 true l7 true l9 l10 l11 x11 x51 x52 x53 x54 x55 x56 x57 x58 v w' := by
  obtain ⟨h1, hA, hF, h2, h3⟩ := h
  rcases h2 with ⟨-, a, -⟩ | ⟨a, b, vad, vn, vcap, pad, pn, pcap, h, e7, e4, -, e5, e5', -, e6⟩
  · cases a
  · have e11 := e6 rfl
    subst e11
    obtain ⟨f0, f1, hF, -⟩ := hF
    exact ⟨h1, hA, ⟨f0, f1, hF, (fun h => by cases h)⟩, .inr ⟨a, b, vad, vn, vcap, pad, pn, pcap, h, e7, e4, (fun h => by cases h), e5, e5', (fun _ => hv _ _ (e4 rfl)), (fun h => by cases h)⟩, h3⟩

theorem EF.s9 {w5 : World} {b : List St} {A0 A1 A2 bv iv : Value} {gc gk : Int} {s2 : Ms} {l0 l1 l2 l3 l4 l5 l6 l7 l8 l10 l11 : Bool} {x11 x51 x52 x53 x54 x55 x56 x57 x58 x59 : Value} {w' : World} (h : EF w5 b A0 A1 A2 bv iv gc gk s2 l0 l1 l2 l3 l4 l5 l6 l7 l8 false l10 l11 x11 x51 x52 x53 x54 x55 x56 x57 x58 x59 w') {g : Nat} {c0 c1 c2 : Value} (hg : w5.heap.size + 1 < g) (hv : w'.heap[g]? = some (.cells #[c0, c1, c2] 28 (0, 0))) :
    EF w5 b A0 A1 A2 bv iv gc gk s2 l0 l1 l2 l3 l4 l5 l6 l7 l8 true l10 l11 (.pointer (some ⟨g, 0, none⟩)) x51 x52 x53 x54 x55 x56 x57 x58 x59 w' := by
  obtain ⟨h1, hA, hF, h2, h3⟩ := h
  refine ⟨h1, hA, hF, h2, ?_⟩
  rcases h3 with ⟨-, e⟩ | ⟨q, -⟩
  · exact .inr ⟨rfl, c0, c1, c2, g, rfl, hg, hv, fun h => by rw [e] at h; cases h⟩
  · cases q

theorem EF.s10 {w5 : World} {b : List St} {A0 A1 A2 bv iv : Value} {gc gk : Int} {s2 : Ms} {l0 l1 l2 l3 l4 l6 l8 l10 l11 : Bool} {x11 x51 x52 x53 x54 x55 x56 x57 x58 x59 : Value} {w' : World} (h : EF w5 b A0 A1 A2 bv iv gc gk s2 l0 l1 l2 l3 l4 true l6 true l8 true l10 l11 x11 x51 x52 x53 x54 x55 x56 x57 x58 x59 w') {g : Nat} {c0 c1 c2 d0 d1 d2 : Value} (hx : x11 = .pointer (some ⟨g, 0, none⟩)) (hg0 : w5.heap.size + 1 < g) (hg : w'.heap[g]? = some (.cells #[c0, c1, c2] 28 (0, 0))) (h8 : x58 = .agg #[d0, d1, d2]) :
    EF w5 b A0 A1 A2 bv iv gc gk s2 l0 l1 l2 l3 l4 true l6 true l8 true true l11 x11 x51 x52 x53 x54 x55 x56 x57 x58 x59 (((w'.setCell ⟨g, 0, none⟩ d0).setCell ⟨g, 1, none⟩ d1).setCell ⟨g, 2, none⟩ d2) := by
  obtain ⟨h1, hA, hF, h2, h3⟩ := h
  have q1 := setCell_at (i := 0) (u := d0) hg
  have q2 := setCell_at (i := 1) (u := d1) q1
  have q3 := setCell_at (i := 2) (u := d2) q2
  have mv : ∀ (k : Nat), k ≠ g → (((w'.setCell ⟨g, 0, none⟩ d0).setCell ⟨g, 1, none⟩ d1).setCell ⟨g, 2, none⟩ d2).heap[k]? = w'.heap[k]? := fun k hk => by
    rw [Below.heap_setCell _ _ _ _ hk, Below.heap_setCell _ _ _ _ hk, Below.heap_setCell _ _ _ _ hk]
  have mt : ∀ (k : Nat) (cs : Array Value) (t : TypeId), t ≠ 28 → w'.heap[k]? = some (Obj.cells cs t (0, 0)) → (((w'.setCell ⟨g, 0, none⟩ d0).setCell ⟨g, 1, none⟩ d1).setCell ⟨g, 2, none⟩ d2).heap[k]? = some (Obj.cells cs t (0, 0)) := fun k cs t ht hk =>
    other_block q2 (other_block q1 (other_block hg hk (Ne.symm ht) rfl) (Ne.symm ht) rfl) (Ne.symm ht) rfl
  obtain ⟨f0, f1, hF, rF⟩ := hF
  have hgl : w5.heap.size ≤ g := by omega
  refine ⟨((h1.setCell hgl _).setCell hgl _).setCell hgl _, (mv _ (by omega)).trans hA, ⟨f0, f1, (mv _ (by omega)).trans hF, rF⟩, ?_, .inr ⟨rfl, d0, d1, d2, g, hx, hg0, by simpa using q3, fun _ => h8⟩⟩
  rcases h2 with ⟨a, -⟩ | ⟨a, b, vad, vn, vcap, pad, pn, pcap, h, e7, e4, e4', e5, -, r⟩
  · cases a
  · exact .inr ⟨a, b, vad, vn, vcap, pad, pn, pcap, h.move (fun k cs t ht hk => mt k cs t (by rcases ht with rfl | rfl <;> decide) hk), e7, e4, e4', e5, (fun h => by cases h), r⟩

theorem EF.s11 {w5 : World} {b : List St} {A0 A1 A2 bv iv : Value} {gc gk : Int} {s2 : Ms} {l0 l1 l2 l3 l4 l6 l7 l9 l10 l11 : Bool} {x11 x51 x52 x53 x54 x55 x56 x57 x58 x59 : Value} {w' : World} (h : EF w5 b A0 A1 A2 bv iv gc gk s2 l0 l1 l2 l3 l4 true l6 l7 true l9 l10 l11 x11 x51 x52 x53 x54 x55 x56 x57 x58 x59 w') {d0 d1 : Value} (h9 : x59 = .agg #[d0, d1]) :
    EF w5 b A0 A1 A2 bv iv gc gk s2 l0 l1 l2 l3 l4 true l6 l7 true l9 l10 true x11 x51 x52 x53 x54 x55 x56 x57 x58 x59 ((w'.setCell ⟨w5.heap.size + 1, 0, none⟩ d0).setCell ⟨w5.heap.size + 1, 1, none⟩ d1) := by
  obtain ⟨h1, hA, hF, h2, h3⟩ := h
  obtain ⟨f0, f1, hF, -⟩ := hF
  have q1 := setCell_at (i := 0) (u := d0) hF
  have q2 := setCell_at (i := 1) (u := d1) q1
  have mv : ∀ (k : Nat), k ≠ w5.heap.size + 1 → ((w'.setCell ⟨w5.heap.size + 1, 0, none⟩ d0).setCell ⟨w5.heap.size + 1, 1, none⟩ d1).heap[k]? = w'.heap[k]? := fun k hk => by
    rw [Below.heap_setCell _ _ _ _ hk, Below.heap_setCell _ _ _ _ hk]
  have mt : ∀ (k : Nat) (cs : Array Value) (t : TypeId), t ≠ 31 → w'.heap[k]? = some (Obj.cells cs t (0, 0)) → ((w'.setCell ⟨w5.heap.size + 1, 0, none⟩ d0).setCell ⟨w5.heap.size + 1, 1, none⟩ d1).heap[k]? = some (Obj.cells cs t (0, 0)) := fun k cs t ht hk =>
    other_block q1 (other_block hF hk (Ne.symm ht) rfl) (Ne.symm ht) rfl
  have hgl : w5.heap.size ≤ w5.heap.size + 1 := Nat.le_succ _
  refine ⟨(h1.setCell hgl _).setCell hgl _, (mv _ (by omega)).trans hA, ⟨d0, d1, by simpa using q2, fun _ => h9⟩, ?_, ?_⟩
  · rcases h2 with ⟨a, -⟩ | ⟨a, b, vad, vn, vcap, pad, pn, pcap, h, e7, e4, e4', e5, e5', e6, -⟩
    · cases a
    · exact .inr ⟨a, b, vad, vn, vcap, pad, pn, pcap, h.move (fun k cs t ht hk => mt k cs t (by rcases ht with rfl | rfl <;> decide) hk), e7, e4, e4', e5, e5', e6, (fun h => by cases h)⟩
  · rcases h3 with h3 | ⟨q, c0, c1, c2, g, e, hl, hh, r⟩
    · exact .inl h3
    · exact .inr ⟨q, c0, c1, c2, g, e, hl, (mv _ (by omega)).trans hh, r⟩

/-- At the end. -/
theorem EF.last {w5 : World} {b : List St} {A0 A1 A2 bv iv : Value} {gc gk : Int} {s2 : Ms} {x11 x51 x52 x53 x54 x55 x56 x57 x58 x59 : Value} {w' : World} (h : EF w5 b A0 A1 A2 bv iv gc gk s2 true true true true true true true true true true true true x11 x51 x52 x53 x54 x55 x56 x57 x58 x59 w') :
    ∃ h vad vn vcap pad pn pcap, x11 = .pointer (some ⟨h, 0, none⟩) ∧ w5.heap.size + 1 < h ∧ Hid (OutAt w' s2 (.slice vad vn vcap) (.slice pad pn pcap) ∧ Below w5.heap.size w5 w') ∧ w'.heap[w5.heap.size]? = some (.cells #[A0, A1, A2] 28 (0, 0)) ∧ w'.heap[w5.heap.size + 1]? = some (.cells #[.int .i64 gc, .int .i64 gk] 31 (0, 0)) ∧ w'.heap[h]? = some (.cells #[.slice vad vn vcap, .slice pad pn pcap, .int .i64 s2.steps] 28 (0, 0)) := by
  obtain ⟨h1, hA, ⟨f0, f1, hF, rF⟩, h2, h3⟩ := h
  rcases h2 with ⟨a, -⟩ | ⟨-, -, vad, vn, vcap, pad, pn, pcap, h, -, -, -, r5, -, r6, -⟩
  · cases a
  rcases h3 with ⟨a, -⟩ | ⟨-, c0, c1, c2, g, e, hl, hg, r⟩
  · cases a
  have e8 := (r rfl).symm.trans (r5 rfl)
  have e9 := (rF rfl).symm.trans (r6 rfl)
  unfold endW at e8
  simp at e8 e9
  obtain ⟨rfl, rfl, rfl⟩ := e8
  obtain ⟨rfl, rfl⟩ := e9
  exact ⟨g, vad, vn, vcap, pad, pn, pcap, e, hl, ⟨h, h1⟩, hA, hF, hg⟩

theorem EF.shape {w5 : World} {b : List St} {A0 A1 A2 bv iv : Value} {gc gk : Int} {s2 : Ms} {l0 l1 l2 l3 l4 l5 l6 l7 l8 l9 l10 l11 : Bool} {x11 x51 x52 x53 x54 x55 x56 x57 x58 x59 : Value} {w' : World} (h : EF w5 b A0 A1 A2 bv iv gc gk s2 l0 l1 l2 l3 l4 l5 l6 l7 l8 l9 l10 l11 x11 x51 x52 x53 x54 x55 x56 x57 x58 x59 w') (h5 : l5 = true) : ∃ vad vn vcap pad pn pcap, (l6 = true → x51 = (.tuple #[endW vad vn vcap pad pn pcap s2.steps, .agg #[.int .i64 gc, .int .i64 gk]])) ∧ (l7 = true → x58 = endW vad vn vcap pad pn pcap s2.steps) ∧ (l8 = true → x59 = .agg #[.int .i64 gc, .int .i64 gk]) := by
  rcases h.mid with ⟨a, -⟩ | ⟨-, -, vad, vn, vcap, pad, pn, pcap, -, -, e4, -, e5, -, e6, -⟩
  · rw [h5] at a; cases a
  · exact ⟨vad, vn, vcap, pad, pn, pcap, e4, e5, e6⟩
theorem sl_after {w W : World} {N : Nat} {a : List St} {v : Value} {bl : List Nat} (h : St.SlQ (fun b => N ≤ b) w a v bl) (hW : ∀ k, N ≤ k → k < w.heap.size → W.heap[k]? = w.heap[k]?) : St.Sl W a v :=
  (h.move (fun b hp hlt => ⟨hp, hW b hp hlt⟩)).plain

/-- One body behind another, in memory. -/
theorem both_sl {wc w7 w8 w9 : World} {a b : List St} {v7 v8 v9 : Value} {xs ys : List Value} {bl bl' : List Nat}
    (hc7 : St.Cells (offOf wc.heap.size v7) w7 a xs bl) (hn7 : bl.Nodup) (ho7 : w7.ownsRow wc.heap.size 61 14 v7 a.length xs) (hb7 : Below wc.heap.size wc w7)
    (hc8 : St.Cells (offOf w7.heap.size v8) w8 b ys bl') (hn8 : bl'.Nodup) (hb8 : Below w7.heap.size w7 w8)
    (ho9 : w9.ownsRow wc.heap.size 61 14 v9 (a.length + b.length) (xs ++ ys)) (hg9 : w8.grownBy w9 v7.ownBlock) (hv9 : v9.ownBlock = v7.ownBlock ∨ ∀ k, v9.ownBlock = some k → w8.heap.size ≤ k) :
    ∃ bl9, St.SlQ (fun b => wc.heap.size ≤ b) w9 (a ++ b) v9 bl9 ∧ bl9.Nodup ∧ Below wc.heap.size wc w9 := by
  have own := fun k hk => (ho7.lt k hk)
  have b8 : Below wc.heap.size wc w8 := hb7.trans (hb8.mono hb7.size)
  have b9 : Below wc.heap.size wc w9 := b8.grown hg9 b8.size fun k hk => (own k hk).1
  have mv : Moves (offOf wc.heap.size v7) (offOf wc.heap.size v9) w8 w9 := moves_append hg9 hv9
  have m7 : St.Cells (offOf wc.heap.size v9) w9 a xs bl := St.Cells.move mv a (St.Cells.move (fun b hp hb => ⟨hp, hb8.block b hb⟩) a hc7)
  have m8 : St.Cells (offOf wc.heap.size v9) w9 b ys bl' := St.Cells.move mv b (St.Cells.move (fun k hp _ => ⟨⟨Nat.le_trans hb7.size hp.1, fun e => by have := (own k e).2; have := hp.1; omega⟩, rfl⟩) b hc8)
  have hnd : (bl ++ bl').Nodup := by
    rw [List.nodup_append]
    refine ⟨hn7, hn8, fun x hx y hy e => ?_⟩
    have h1 := (hc7.blocks _ x hx).2
    have h2 := (hc8.blocks _ y hy).1.1
    omega
  obtain ⟨bl9, h1, h2⟩ := twin_end (Cells_append a b m7 m8) hnd (by rw [List.length_append]; exact ho9)
  exact ⟨bl9, h1, h2, b9⟩
end Go.Proofs.YtikdidfgdiafoabDoor
namespace Go.Proofs.YtikdidfgdiafoabDoor
open Go.ChangeShapes Go.WideShapes Go.ChangeAt Go.RowKit

theorem putVs_append (l r : List (Int × Int)) : putVs (l ++ r) = putVs l ++ putVs r := by simp [putVs]

theorem putVs_one (l : List (Int × Int)) : ∀ u ∈ putVs l, u.oneCell' = true := by
  intro u hu
  simp only [putVs, List.mem_flatMap] at hu
  obtain ⟨p, -, hp⟩ := hu
  simp at hp
  rcases hp with rfl | rfl <;> rfl

/-- What is known while what went out is joined, whatever was done so far. -/
structure GF (w0 : World) (gA gH : Nat) (s1 s2 : Ms) (yv pv : Value) (l0 l1 l2 l3 l4 l5 l6 l7 : Bool) (x14 x94 x95 x96 x97 x98 x99 x100 : Value) (w' : World) : Prop where
  bel : Below w0.heap.size w0 w'
  p0 : l0 = true → l3 = false → w'.ownsRow w0.heap.size 42 2 x94 0 []
  p1 : l1 = true → x95 = .pointer (some ⟨gA, 1, none⟩)
  p2 : l2 = true → x96 = yv
  p3 : l3 = true → l6 = false → w'.ownsRow w0.heap.size 42 2 x97 s1.puts.length (putVs s1.puts)
  p4 : l4 = true → x98 = .pointer (some ⟨gH, 1, none⟩)
  p5 : l5 = true → x99 = pv
  p6 : l6 = true → w'.ownsRow w0.heap.size 42 2 x100 (s1.puts.length + s2.puts.length) (putVs s1.puts ++ putVs s2.puts)
  p7 : l7 = true → x14 = x100
  q3 : l0 = false → l3 = false
  q6 : l3 = false → l6 = false
  q7 : l6 = false → l7 = false

theorem GF.s0 {w0 : World} {gA gH : Nat} {s1 s2 : Ms} {yv pv : Value} {l1 l2 l3 l4 l5 l6 l7 : Bool} {x14 x94 x95 x96 x97 x98 x99 x100 : Value} {w' : World} (h : GF w0 gA gH s1 s2 yv pv false l1 l2 l3 l4 l5 l6 l7 x14 x94 x95 x96 x97 x98 x99 x100 w') {v : Value} {w'' : World} (hb' : Below w0.heap.size w0 w'') (hv : w''.ownsRow w0.heap.size 42 2 v 0 []) :
    GF w0 gA gH s1 s2 yv pv true l1 l2 l3 l4 l5 l6 l7 x14 v x95 x96 x97 x98 x99 x100 w'' := by
  obtain ⟨hb, p0, p1, p2, p3, p4, p5, p6, p7, q3, q6, q7⟩ := h
  have e3 := q3 rfl
  subst e3
  have e6 := q6 rfl
  subst e6
  have e7 := q7 rfl
  subst e7
  exact ⟨hb', (fun _ _ => hv), p1, p2, (fun h => by cases h), p4, p5, (fun h => by cases h), p7, (fun h => by cases h), q6, q7⟩

theorem GF.s1 {w0 : World} {gA gH : Nat} {s1 s2 : Ms} {yv pv : Value} {l0 l2 l3 l4 l5 l6 l7 : Bool} {x14 x94 x95 x96 x97 x98 x99 x100 : Value} {w' : World} (h : GF w0 gA gH s1 s2 yv pv l0 false l2 l3 l4 l5 l6 l7 x14 x94 x95 x96 x97 x98 x99 x100 w')  :
    GF w0 gA gH s1 s2 yv pv l0 true l2 l3 l4 l5 l6 l7 x14 x94 (.pointer (some ⟨gA, 1, none⟩)) x96 x97 x98 x99 x100 w' := by
  obtain ⟨hb, p0, p1, p2, p3, p4, p5, p6, p7, q3, q6, q7⟩ := h
  exact ⟨hb, p0, (fun _ => rfl), p2, p3, p4, p5, p6, p7, q3, q6, q7⟩

theorem GF.s2 {w0 : World} {gA gH : Nat} {s1 s2 : Ms} {yv pv : Value} {l0 l1 l3 l4 l5 l6 l7 : Bool} {x14 x94 x95 x96 x97 x98 x99 x100 : Value} {w' : World} (h : GF w0 gA gH s1 s2 yv pv l0 l1 false l3 l4 l5 l6 l7 x14 x94 x95 x96 x97 x98 x99 x100 w')  :
    GF w0 gA gH s1 s2 yv pv l0 l1 true l3 l4 l5 l6 l7 x14 x94 x95 yv x97 x98 x99 x100 w' := by
  obtain ⟨hb, p0, p1, p2, p3, p4, p5, p6, p7, q3, q6, q7⟩ := h
  exact ⟨hb, p0, p1, (fun _ => rfl), p3, p4, p5, p6, p7, q3, q6, q7⟩

theorem GF.s3 {w0 : World} {gA gH : Nat} {s1 s2 : Ms} {yv pv : Value} {l1 l2 l4 l5 l6 l7 : Bool} {x14 x94 x95 x96 x97 x98 x99 x100 : Value} {w' : World} (h : GF w0 gA gH s1 s2 yv pv true l1 l2 false l4 l5 l6 l7 x14 x94 x95 x96 x97 x98 x99 x100 w') {v : Value} {w'' : World} (hb' : Below w0.heap.size w0 w'') (hv : w''.ownsRow w0.heap.size 42 2 v s1.puts.length (putVs s1.puts)) :
    GF w0 gA gH s1 s2 yv pv true l1 l2 true l4 l5 l6 l7 x14 x94 x95 x96 v x98 x99 x100 w'' := by
  obtain ⟨hb, p0, p1, p2, p3, p4, p5, p6, p7, q3, q6, q7⟩ := h
  have e6 := q6 rfl
  subst e6
  have e7 := q7 rfl
  subst e7
  exact ⟨hb', (fun _ h => by cases h), p1, p2, (fun _ _ => hv), p4, p5, (fun h => by cases h), p7, (fun h => by cases h), (fun h => by cases h), q7⟩

theorem GF.s4 {w0 : World} {gA gH : Nat} {s1 s2 : Ms} {yv pv : Value} {l0 l1 l2 l3 l5 l6 l7 : Bool} {x14 x94 x95 x96 x97 x98 x99 x100 : Value} {w' : World} (h : GF w0 gA gH s1 s2 yv pv l0 l1 l2 l3 false l5 l6 l7 x14 x94 x95 x96 x97 x98 x99 x100 w')  :
    GF w0 gA gH s1 s2 yv pv l0 l1 l2 l3 true l5 l6 l7 x14 x94 x95 x96 x97 (.pointer (some ⟨gH, 1, none⟩)) x99 x100 w' := by
  obtain ⟨hb, p0, p1, p2, p3, p4, p5, p6, p7, q3, q6, q7⟩ := h
  exact ⟨hb, p0, p1, p2, p3, (fun _ => rfl), p5, p6, p7, q3, q6, q7⟩

theorem GF.s5 {w0 : World} {gA gH : Nat} {s1 s2 : Ms} {yv pv : Value} {l0 l1 l2 l3 l4 l6 l7 : Bool} {x14 x94 x95 x96 x97 x98 x99 x100 : Value} {w' : World} (h : GF w0 gA gH s1 s2 yv pv l0 l1 l2 l3 l4 false l6 l7 x14 x94 x95 x96 x97 x98 x99 x100 w')  :
    GF w0 gA gH s1 s2 yv pv l0 l1 l2 l3 l4 true l6 l7 x14 x94 x95 x96 x97 x98 pv x100 w' := by
  obtain ⟨hb, p0, p1, p2, p3, p4, p5, p6, p7, q3, q6, q7⟩ := h
  exact ⟨hb, p0, p1, p2, p3, p4, (fun _ => rfl), p6, p7, q3, q6, q7⟩

theorem GF.s6 {w0 : World} {gA gH : Nat} {s1 s2 : Ms} {yv pv : Value} {l0 l1 l2 l4 l5 l7 : Bool} {x14 x94 x95 x96 x97 x98 x99 x100 : Value} {w' : World} (h : GF w0 gA gH s1 s2 yv pv l0 l1 l2 true l4 l5 false l7 x14 x94 x95 x96 x97 x98 x99 x100 w') {v : Value} {w'' : World} (hb' : Below w0.heap.size w0 w'') (hv : w''.ownsRow w0.heap.size 42 2 v (s1.puts.length + s2.puts.length) (putVs s1.puts ++ putVs s2.puts)) :
    GF w0 gA gH s1 s2 yv pv l0 l1 l2 true l4 l5 true l7 x14 x94 x95 x96 x97 x98 x99 v w'' := by
  obtain ⟨hb, p0, p1, p2, p3, p4, p5, p6, p7, q3, q6, q7⟩ := h
  have e7 := q7 rfl
  subst e7
  exact ⟨hb', (fun _ h => by cases h), p1, p2, (fun _ h => by cases h), p4, p5, (fun _ => hv), (fun h => by cases h), q3, (fun h => by cases h), (fun h => by cases h)⟩

theorem GF.s7 {w0 : World} {gA gH : Nat} {s1 s2 : Ms} {yv pv : Value} {l0 l1 l2 l3 l4 l5 : Bool} {x14 x94 x95 x96 x97 x98 x99 x100 : Value} {w' : World} (h : GF w0 gA gH s1 s2 yv pv l0 l1 l2 l3 l4 l5 true false x14 x94 x95 x96 x97 x98 x99 x100 w')  :
    GF w0 gA gH s1 s2 yv pv l0 l1 l2 l3 l4 l5 true true x100 x94 x95 x96 x97 x98 x99 x100 w' := by
  obtain ⟨hb, p0, p1, p2, p3, p4, p5, p6, p7, q3, q6, q7⟩ := h
  exact ⟨hb, p0, p1, p2, p3, p4, p5, p6, (fun _ => rfl), q3, q6, (fun h => by cases h)⟩

theorem GF.last {w0 : World} {gA gH : Nat} {s1 s2 : Ms} {yv pv : Value} {x14 x94 x95 x96 x97 x98 x99 x100 : Value} {w' : World} (h : GF w0 gA gH s1 s2 yv pv true true true true true true true true x14 x94 x95 x96 x97 x98 x99 x100 w') : ∃ qd qc, x14 = .slice qd (s1.puts.length + s2.puts.length) qc ∧ Hid (PutSl w' (s1.puts ++ s2.puts) (.slice qd (s1.puts.length + s2.puts.length) qc) ∧ Below w0.heap.size w0 w') := by
  have h6 := h.p6 rfl
  have h7 := h.p7 rfl
  subst h7
  obtain ⟨qd, qc, rfl⟩ := owns_value h6
  rw [← putVs_append, ← List.length_append] at h6
  exact ⟨qd, qc, rfl, PutSl.of_own (by rw [List.length_append] at h6 ⊢; exact h6), h.bel⟩
end Go.Proofs.YtikdidfgdiafoabDoor
