import Derived.Test.YtkafihaajpifoafSPQ
namespace Go.Proofs.Ytkafihaajpifoaf.S8
open Go.ChangeShapes Go.WideShapes Go.ChangeAt Go.RowKit

theorem flat_nu (xs : List Int) : xs.flatMap nuV = xs.map (Value.int .i64) := by
  induction xs with
  | nil => rfl
  | cons x r ih => rw [List.flatMap_cons, ih]; rfl

theorem row_block {W : World} {g : Nat} {xs : List Int} (h : W.heap[g]? = some (.cells (xs.map (Value.int .i64)).toArray 3 (0, 0))) : RowSl nuV W xs (.slice (some ⟨g, 0, none⟩) xs.length xs.length) :=
  ⟨_, _, rfl, (fun e => by cases e), Nat.le_refl _, .inr ⟨g, 0, rfl, fun q u hq => by
    rw [flat_nu] at hq
    rw [Nat.zero_add]
    exact (cells_of h).1 q u hq⟩⟩

/-- One's own list of numbers, or none. -/
def RowOwn (B : Nat) (W : World) (xs : List Int) (v : Value) (og : Option Nat) : Prop :=
  (og = none ∧ xs = [] ∧ v = .slice none 0 0) ∨ (∃ g, og = some g ∧ v = .slice (some ⟨g, 0, none⟩) xs.length xs.length ∧ W.heap[g]? = some (.cells (xs.map (Value.int .i64)).toArray 3 (0, 0)) ∧ B ≤ g ∧ xs.length ≤ 1000000)

theorem RowOwn.row {B : Nat} {W : World} {xs : List Int} {v : Value} {og : Option Nat} (h : RowOwn B W xs v og) : RowSl nuV W xs v := by
  rcases h with ⟨-, rfl, rfl⟩ | ⟨g, -, rfl, h, -⟩
  · exact RowSl.nil _ _
  · exact row_block h

theorem RowOwn.keep {B : Nat} {W W' : World} {xs : List Int} {v : Value} {og row : Option Nat} (h : RowOwn B W xs v og) (hg : W.grownBy W' row) (hn : ∀ g, og = some g → row ≠ some g) : RowOwn B W' xs v og := by
  rcases h with h | ⟨g, e, e2, h, hB, hl⟩
  · exact .inl h
  · exact .inr ⟨g, e, e2, (hg.block g (lt_of_heap h) (fun q => hn g e q.symm)).trans h, hB, hl⟩

theorem heap_setCells {g q : Nat} (hq : q ≠ g) : ∀ (l : List Value) (o : Nat) (w : World), (w.setCells g o l).heap[q]? = w.heap[q]?
  | [], _, _ => rfl
  | v :: r, o, w => by
    have h1 := heap_setCells hq r (o + 1) (w.setCell ⟨g, o, none⟩ v)
    have h2 : (w.setCell ⟨g, o, none⟩ v).heap[q]? = w.heap[q]? := Below.heap_setCell _ _ _ _ hq
    exact h1.trans h2

theorem grown_setCells {g : Nat} (l : List Value) (w : World) : w.grownBy (w.setCells g 0 l) (some g) := by
  have hb := below_setCells (N := 0) (b := g) (Nat.zero_le _) l 0 w
  exact ⟨hb.os, hb.tape, hb.output, hb.size, fun q _ hne => heap_setCells (fun e => hne (by rw [e])) l 0 w⟩

def smallB (a b : Int) : Bool := (decide (a ≤ 300) && decide (b ≤ 3000)) || decide (4000 < a) || decide (20000 < b)

/-- What must come out. -/
def PlRes (l : List Jb) (pol : Int) (pre : Bool) (n : Int) (z1 z2 : Int) (rs es : List Int) : Prop :=
  ((plE l pol n).1 ≠ 0 ∧ z1 = (plE l pol n).1 ∧ z2 = (plE l pol n).2 ∧ rs = [] ∧ es = []) ∨ ((plE l pol n).1 = 0 ∧ z1 = 0 ∧ z2 = 0 ∧ ∃ s, Plays l pol pre n.toNat s ∧ rs = s.runs ∧ es = s.ends)

theorem plRes_unique {l : List Jb} {pol : Int} {pre : Bool} {n z1 z2 y1 y2 : Int} {rs es rs' es' : List Int} (h : PlRes l pol pre n z1 z2 rs es) (h' : PlRes l pol pre n y1 y2 rs' es') : z1 = y1 ∧ z2 = y2 ∧ rs = rs' ∧ es = es' := by
  rcases h with ⟨h0, rfl, rfl, rfl, rfl⟩ | ⟨h0, rfl, rfl, s, hs, rfl, rfl⟩
  · rcases h' with ⟨g0, rfl, rfl, rfl, rfl⟩ | ⟨g0, -⟩
    · exact ⟨rfl, rfl, rfl, rfl⟩
    · exact absurd g0 h0
  · rcases h' with ⟨g0, -⟩ | ⟨g0, rfl, rfl, s', hs', rfl, rfl⟩
    · exact absurd h0 g0
    · rw [plays_unique _ _ _ hs hs']; exact ⟨rfl, rfl, rfl, rfl⟩

/-- A result, as it lies. -/
def Res (w W : World) (rs es : List Int) (v1 v2 : Value) : Prop := Below w.heap.size w W ∧ rs.length ≤ 1000000 ∧ es.length ≤ 1000000 ∧ ∃ o1 o2, RowOwn w.heap.size W rs v1 o1 ∧ RowOwn w.heap.size W es v2 o2 ∧ ∀ g, o1 = some g → o2 ≠ some g

theorem res_nil {w W : World} (h : Below w.heap.size w W) : Res w W [] [] (.slice none 0 0) (.slice none 0 0) := ⟨h, by simp, by simp, none, none, .inl ⟨rfl, rfl, rfl⟩, .inl ⟨rfl, rfl, rfl⟩, fun g e => by cases e⟩

theorem res_out {w W : World} {l : List Jb} {pol : Int} {pre : Bool} {n : Nat} {v1 v2 : Value} (hok : ∀ x ∈ l, okJ x) (hl : l.length ≤ 4000) (hn : n ≤ 20000) (h : OutW w W l pol pre n v1 v2) : ∃ s, Plays l pol pre n s ∧ Res w W s.runs s.ends v1 v2 := by
  obtain ⟨s, rb, eb, hp, rfl, rfl, h1, h2, hne, b1, b2⟩ := h.out
  have hk := plays_ok hok n s hp
  refine ⟨s, hp, h.bel, by rw [hk.runs]; omega, by rw [hk.ends]; omega, some rb, some eb, .inr ⟨rb, rfl, by rw [hk.runs], h1, b1, by rw [hk.runs]; omega⟩, .inr ⟨eb, rfl, by rw [hk.ends], h2, b2, by rw [hk.ends]; omega⟩, fun g e e2 => ?_⟩
  cases e
  exact hne (Option.some.inj e2).symm

theorem Play_res (w : World) (l : List Jb) (v : Value) (pol n : Int) (pre : Bool) (hv : RowSl Jb.vals w l v) :
    Calls Try.prog 12 #[v, .int .i64 pol, .bool pre, .int .i64 n] w fun r W => ∃ v1 v2 z1 z2 rs es, r = .returned (.tuple #[.agg #[v1, v2], .agg #[.int .i64 z1, .int .i64 z2]]) ∧ PlRes l pol pre n z1 z2 rs es ∧ Res w W rs es v1 v2 := by
  by_cases h0 : (plE l pol n).1 = 0
  · obtain ⟨hck, -, hn0, hn1, -⟩ := plE_ok h0
    obtain ⟨hcl, hcok, -⟩ := chkJ_ok hck
    obtain ⟨m, rfl⟩ : ∃ m : Nat, n = (m : Int) := ⟨n.toNat, by omega⟩
    refine (Play_good w l v pol m pre hv h0).mono ?_
    rintro r W ⟨v1, v2, rfl, ho⟩
    obtain ⟨s, hp, hr⟩ := res_out hcok hcl (by omega) ho
    exact ⟨v1, v2, 0, 0, s.runs, s.ends, rfl, .inr ⟨h0, rfl, rfl, s, hp, rfl, rfl⟩, hr⟩
  · refine (Play_bad w l v pol n pre hv h0).mono ?_
    rintro r W ⟨rfl, hb⟩
    exact ⟨_, _, _, _, [], [], rfl, .inl ⟨h0, rfl, rfl, rfl, rfl⟩, res_nil hb⟩
end Go.Proofs.Ytkafihaajpifoaf.S8
namespace Go.Proofs.Ytkafihaajpifoaf.S8
open Go.ChangeShapes Go.WideShapes Go.ChangeAt Go.RowKit

abbrev twoJ : List Jb := [⟨0, 0, 3, 9, 1⟩, ⟨0, 1, 1, 3, 2⟩]

theorem late_none : lateF twoJ 5 [4, 2] = ((0, 0), []) := by kernel_rfl

theorem best_two {left : List Int} {t : Int} {i : Nat} (hi : i < 2) (h1 : (J twoJ i).a ≤ t) (h2 : 0 < L left i) (h3 : ∀ j, j < 2 → (J twoJ j).a ≤ t → 0 < L left j → j ≠ i → lexJ 1 twoJ i j) : IsBest twoJ 1 left t (i : Int) := .inr ⟨i, rfl, hi, h1, h2, h3⟩

theorem plays_two : Plays twoJ 1 true 5 ⟨[0, 0], [4, 2], [0, 1, 0, 0, -1]⟩ := by
  have np : ∀ s : St, ¬ (true = false ∧ s.on) := fun s e => by cases e.1
  refine ⟨⟨[0, 0], [4, 2], [0, 1, 0, 0]⟩, -1, ⟨⟨[1, 0], [-1, 2], [0, 1, 0]⟩, ((0 : Nat) : Int), ⟨⟨[2, 0], [-1, 2], [0, 1]⟩, ((0 : Nat) : Int), ⟨⟨[2, 1], [-1, -1], [0]⟩, ((1 : Nat) : Int), ⟨St.init twoJ, ((0 : Nat) : Int), rfl, .inr ⟨np _, best_two (by decide) (by decide) (by decide) ?_⟩, rfl⟩, .inr ⟨np _, best_two (by decide) (by decide) (by decide) ?_⟩, rfl⟩, .inr ⟨np _, best_two (by decide) (by decide) (by decide) ?_⟩, rfl⟩, .inr ⟨np _, best_two (by decide) (by decide) (by decide) ?_⟩, rfl⟩, .inr ⟨np _, .inl ⟨rfl, ?_⟩⟩, rfl⟩
  case refine_5 =>
    intro i hi
    rcases i with _ | _ | i
    · decide
    · decide
    · simp at hi; omega
  all_goals
    intro j hj h1 h2 hne
    rcases j with _ | _ | j
    · first | exact absurd rfl hne | exact absurd h1 (by decide) | exact absurd h2 (by decide) | (unfold lexJ lex; decide)
    · first | exact absurd rfl hne | exact absurd h1 (by decide) | exact absurd h2 (by decide) | (unfold lexJ lex; decide)
    · omega

theorem res_two {z1 z2 : Int} {rs es : List Int} (h : PlRes twoJ 1 true 5 z1 z2 rs es) : z1 = 0 ∧ z2 = 0 ∧ rs = [0, 1, 0, 0, -1] ∧ es = [4, 2] :=
  plRes_unique h (.inr ⟨by kernel_rfl, rfl, rfl, _, plays_two, rfl, rfl⟩)

theorem Res.slices {w W : World} {rs es : List Int} {v1 v2 : Value} (h : Res w W rs es v1 v2) : ∃ a1 c1 a2 c2, v1 = .slice a1 rs.length c1 ∧ v2 = .slice a2 es.length c2 := by
  obtain ⟨-, -, -, o1, o2, h1, h2, -⟩ := h
  obtain ⟨a1, c1, e1⟩ := h1.row.len
  obtain ⟨a2, c2, e2⟩ := h2.row.len
  exact ⟨a1, c1, a2, c2, e1, e2⟩

theorem Res.rows {w W : World} {rs es : List Int} {v1 v2 : Value} (h : Res w W rs es v1 v2) : RowSl nuV W rs v1 ∧ RowSl nuV W es v2 := by
  obtain ⟨-, -, -, o1, o2, h1, h2, -⟩ := h
  exact ⟨h1.row, h2.row⟩

set_option maxRecDepth 20000 in
set_option maxHeartbeats 2000000 in
theorem runs_any (w : World) : Calls Try.prog 7 #[] w fun r w' => r = .returned (.bool true) ∧ Below w.heap.size w w' := by
  have hr0 : RowSl Jb.vals (w.alloc (.cells #[.int .i64 0, .int .i64 0, .int .i64 3, .int .i64 9, .int .i64 1, .int .i64 0, .int .i64 1, .int .i64 1, .int .i64 3, .int .i64 2] 60)) twoJ (.slice (some ⟨w.heap.size, 0, none⟩) 2 2) := row_new (f := Jb.vals) w _ 2 #[.int .i64 0, .int .i64 0, .int .i64 3, .int .i64 9, .int .i64 1, .int .i64 0, .int .i64 1, .int .i64 1, .int .i64 3, .int .i64 2] 60 rfl rfl
  have HP := Play_res _ twoJ _ 1 5 true hr0
  have H0 : Hid (Below w.heap.size w (w.alloc (.cells #[.int .i64 0, .int .i64 0, .int .i64 3, .int .i64 9, .int .i64 1, .int .i64 0, .int .i64 1, .int .i64 1, .int .i64 3, .int .i64 2] 60)) ∧ RowSl Jb.vals (w.alloc (.cells #[.int .i64 0, .int .i64 0, .int .i64 3, .int .i64 9, .int .i64 1, .int .i64 0, .int .i64 1, .int .i64 1, .int .i64 3, .int .i64 2] 60)) twoJ (.slice (some ⟨w.heap.size, 0, none⟩) 2 2)) := ⟨below_new _ _, hr0⟩
  clear hr0
  go_enter Try.func7, Try.ntmps7
  go_wp2_with (go_at_call 12; refine HP.mono ?_; rintro r w2 ⟨v1, v2, z1, z2, rs, es, rfl, hpr, hres⟩; obtain ⟨rfl, rfl, rfl, rfl⟩ := res_two hpr; obtain ⟨a1, c1, a2, c2, rfl, rfl⟩ := hres.slices; have H2 : Hid (Res (w.alloc (.cells #[.int .i64 0, .int .i64 0, .int .i64 3, .int .i64 9, .int .i64 1, .int .i64 0, .int .i64 1, .int .i64 1, .int .i64 3, .int .i64 2] 60)) w2 [0, 1, 0, 0, -1] [4, 2] (.slice a1 5 c1) (.slice a2 2 c2)) := hres; clear hres hpr HP)
  have hx1 : ((w2.alloc (.cells #[.slice a1 5 c1, .slice a2 2 c2] 37)).alloc (.cells #[.int .i64 0, .int .i64 0] 29)).heap[w2.heap.size]? = some (.cells [.slice a1 5 c1, .slice a2 2 c2].toArray 37 (0, 0)) := (Below.heap_alloc _ _ _ (by simp)).trans (heap_alloc_new _ _)
  have hx2 : ((w2.alloc (.cells #[.slice a1 5 c1, .slice a2 2 c2] 37)).alloc (.cells #[.int .i64 0, .int .i64 0] 29)).heap[w2.heap.size + 1]? = some (.cells [.int .i64 0, .int .i64 0].toArray 29 (0, 0)) := by
    have := heap_alloc_new (w2.alloc (.cells #[.slice a1 5 c1, .slice a2 2 c2] 37)) (.cells #[.int .i64 0, .int .i64 0] 29)
    simpa using this
  have hb3 : Below w2.heap.size w2 ((w2.alloc (.cells #[.slice a1 5 c1, .slice a2 2 c2] 37)).alloc (.cells #[.int .i64 0, .int .i64 0] 29)) := below_seq (below_new _ _) (below_new _ _)
  have H3 : Hid (Below w.heap.size w ((w2.alloc (.cells #[.slice a1 5 c1, .slice a2 2 c2] 37)).alloc (.cells #[.int .i64 0, .int .i64 0] 29)) ∧ RowSl nuV ((w2.alloc (.cells #[.slice a1 5 c1, .slice a2 2 c2] 37)).alloc (.cells #[.int .i64 0, .int .i64 0] 29)) [0, 1, 0, 0, -1] (.slice a1 5 c1) ∧ RowSl nuV ((w2.alloc (.cells #[.slice a1 5 c1, .slice a2 2 c2] 37)).alloc (.cells #[.int .i64 0, .int .i64 0] 29)) [4, 2] (.slice a2 2 c2)) := ⟨below_seq (below_seq H0.out.1 H2.out.1) hb3, H2.out.rows.1.below hb3, H2.out.rows.2.below hb3⟩
  have HC := Late_any ((w2.alloc (.cells #[.slice a1 5 c1, .slice a2 2 c2] 37)).alloc (.cells #[.int .i64 0, .int .i64 0] 29)) twoJ [4, 2] _ _ a1 5 c1 ((H0.out.2.below H2.out.1).below hb3) H3.out.2.2 (by simp)
  rw [late_none] at HC
  clear hb3 H2 H0
  generalize ((w2.alloc (.cells #[.slice a1 5 c1, .slice a2 2 c2] 37)).alloc (.cells #[.int .i64 0, .int .i64 0] 29)) = w3 at *
  generalize w2.heap.size = G at *
  go_wp2_with (go_at_call 13; refine HC.mono ?_; rintro r w4 ⟨u, rfl, ho4, hb4⟩; have hr4 : RowSl nuV w4 [] u := rowOfN_own ho4; obtain ⟨a3, c3, rfl⟩ := hr4.len; have H4 : Hid (Below w.heap.size w (w4.alloc (.cells #[.int .i64 0, .int .i64 0] 29)) ∧ RowSl nuV (w4.alloc (.cells #[.int .i64 0, .int .i64 0] 29)) [0, 1, 0, 0, -1] (.slice a1 5 c1) ∧ RowSl nuV (w4.alloc (.cells #[.int .i64 0, .int .i64 0] 29)) [4, 2] (.slice a2 2 c2)) := ⟨below_seq (below_seq H3.out.1 hb4) (below_new _ _), (H3.out.2.1.below hb4).below (below_new _ _), (H3.out.2.2.below hb4).below (below_new _ _)⟩; have hy1 := ((below_seq hb4 (below_new w4 (.cells #[.int .i64 0, .int .i64 0] 29))).block _ (lt_of_heap hx1)).trans hx1; have hy2 := ((below_seq hb4 (below_new w4 (.cells #[.int .i64 0, .int .i64 0] 29))).block _ (lt_of_heap hx2)).trans hx2; have q0 := (cells_of hy2).1 0 _ rfl; have p0 := (cells_of hy1).1 0 _ rfl; clear hy2 hx1 hx2 ho4 hb4 hr4 HC H3)
  have hs1 : RowSl nuV ((w4.alloc (.cells #[.int .i64 0, .int .i64 0] 29)).alloc (.cells #[.int .i64 0, .int .i64 1, .int .i64 0, .int .i64 0, .int .i64 (-1)] 3)) [0, 1, 0, 0, -1] (.slice (some ⟨w4.heap.size + 1, 0, none⟩) 5 5) := by
    have := row_new (f := nuV) (w4.alloc (.cells #[.int .i64 0, .int .i64 0] 29)) [0, 1, 0, 0, -1] 5 #[.int .i64 0, .int .i64 1, .int .i64 0, .int .i64 0, .int .i64 (-1)] 3 rfl rfl
    simpa using this
  have HS := SameN_any _ [0, 1, 0, 0, -1] _ _ (by simp) (H4.out.2.1.below (below_new _ _)) hs1
  have hy3 := ((below_new (w4.alloc (.cells #[.int .i64 0, .int .i64 0] 29)) (.cells #[.int .i64 0, .int .i64 1, .int .i64 0, .int .i64 0, .int .i64 (-1)] 3)).block _ (lt_of_heap hy1)).trans hy1
  clear hs1 hy1
  go_wp2_with (go_at_call 21; refine HS.mono ?_; rintro r w6 ⟨rfl, hb6⟩; have H6 : Hid (Below w.heap.size w w6 ∧ RowSl nuV w6 [4, 2] (.slice a2 2 c2)) := ⟨below_seq (below_seq H4.out.1 (below_new _ _)) hb6, (H4.out.2.2.below (below_new _ _)).below hb6⟩; have hy4 := (hb6.block _ (lt_of_heap hy3)).trans hy3; have p1 := (cells_of hy4).1 1 _ rfl; clear hy3 hy4 p0 q0 hb6 HS H4)
  have hs2 : RowSl nuV (w6.alloc (.cells #[.int .i64 4, .int .i64 2] 3)) [4, 2] (.slice (some ⟨w6.heap.size, 0, none⟩) 2 2) := row_new (f := nuV) w6 _ 2 #[.int .i64 4, .int .i64 2] 3 rfl rfl
  have HS := SameN_any _ [4, 2] _ _ (by simp) (H6.out.2.below (below_new _ _)) hs2
  go_wp2_with (go_at_call 21; refine HS.mono ?_; rintro r w7 ⟨rfl, hb7⟩; have H7 : Hid (Below w.heap.size w w7) := below_seq (below_seq H6.out.1 (below_new _ _)) hb7; clear p1 hb7 HS H6 hs2)
  go_ret
  exact ⟨rfl, H7.out⟩
end Go.Proofs.Ytkafihaajpifoaf.S8
