import Derived.Test.YtcgncdpohaoejafDoorRG
import Derived.Test.YtcgncdpohaoejafDoorTT
namespace Go.Proofs.YtcgncdpohaoejafDoor
open Go.ChangeShapes Go.WideShapes Go.ChangeAt Go.RowKit

theorem setCells_far (g : Nat) : ∀ (vs : List Value) (o : Nat) (W : World) (k : Nat), k ≠ g → (W.setCells g o vs).heap[k]? = W.heap[k]?
  | [], _, _, _, _ => rfl
  | v :: r, o, W, k, h => by
    rw [World.setCells, setCells_far g r (o + 1) _ k h, Below.heap_setCell _ _ _ _ (by show ¬ (k = g); exact h)]

/-- The blocks of faults are as they were. -/
def Keep26 (w w' : World) : Prop := ∀ (k : Nat) (cs : Array Value) (f : Nat × Nat), w.heap[k]? = some (.cells cs 26 f) → w'.heap[k]? = some (.cells cs 26 f)
theorem Keep26.refl (w : World) : Keep26 w w := fun _ _ _ h => h

set_option maxRecDepth 20000 in
set_option maxHeartbeats 4000000 in
/-- Spoil, of tasks that are one's own: it changes their block alone. -/
theorem SpoilTa_keep (w : World) (B : Nat) (v : Value) (hO : OwnT B w v) :
    Calls Tryd.prog 11 #[v] w fun r w' => r = .returned (.tuple #[]) ∧ Below B w w' ∧ Keep26 w w' := by
  obtain ⟨i0, hi0, hz0, hz1, hz2⟩ := info_parts infoTa
  obtain ⟨m, xs, -, ⟨e, -⟩ | ⟨g, cap, cur, e, hB, hg, hn, hm, hs, -⟩⟩ := hO
  · subst e
    have hcl : ∀ ty, (Builtin.clear_ #[22] ty #[.slice none 0 0]).run Tryd.prog w = .ok (.tuple #[]) w := fun ty => by simp [Builtin.clear_, run_underlying Tryd.underlying22]
    go_enter Tryd.func11, Tryd.ntmps11
    go_wp2
    go_end0
    exact ⟨rfl, Below.refl _ _, Keep26.refl _⟩
  · subst e
    have hz : ∀ w, (zeroValue 30).run Tryd.prog w = .ok (.agg #[.string ⟨#[]⟩, .int .i64 0, .int .i64 0, .int .i64 0, .int .i64 0, .int .i64 0, .int .i64 0]) w := fun w => by simp [zeroValue, typeInfo, hi0, hz0]
    have hcl' : ∃ w1, (∀ ty, (Builtin.clear_ #[22] ty #[.slice (some ⟨g, 0, none⟩) cap cap]).run Tryd.prog w = .ok (.tuple #[]) w1) ∧ Below B w w1 ∧ Keep26 w w1 := by
      by_cases hc : cap = 0
      · subst hc
        exact ⟨w, fun ty => by simp [Builtin.clear_, run_underlying Tryd.underlying22], Below.refl _ _, Keep26.refl _⟩
      · obtain ⟨l, hl⟩ := clear_seven w 22 30 22 Tryd.underlying22 hz g cap cap (by omega) (fun j hj => by unfold World.cell?; rw [hg]; simp; omega) (fun j hj => by unfold World.frozen?; rw [hg]; simp)
        refine ⟨_, fun ty => hl, below_setCells hB l 0 w, fun k cs f hk => ?_⟩
        rw [setCells_far g l 0 w k (fun e => by subst e; rw [hg] at hk; simp at hk)]
        exact hk
    obtain ⟨w1, hcl, hb1⟩ := hcl'
    have HB : Hid (Below B w w1 ∧ Keep26 w w1) := hb1
    unfold maxLen at hm
    clear hg hz hb1 hs
    go_enter Tryd.func11, Tryd.ntmps11
    go_wp2
    go_end0
    exact ⟨rfl, HB.out⟩

/-- Two blocks of faults, behind the world that was lent. -/
structure St (wL W : World) (g h : Nat) (a b c d : Int) : Prop where
  below : Below wL.heap.size wL W
  low : wL.heap.size ≤ g
  lt : g < h
  one : W.heap[g]? = some (.cells #[.int .i64 a, .int .i64 b] 26 (0, 0))
  two : W.heap[h]? = some (.cells #[.int .i64 c, .int .i64 d] 26 (0, 0))

theorem two_keep {W : World} {g k : Nat} {a b : Value} (h : k ≠ g) : ((W.setCell ⟨g, 0, none⟩ a).setCell ⟨g, 1, none⟩ b).heap[k]? = W.heap[k]? := by
  rw [Below.heap_setCell _ _ _ _ (by show ¬ (k = g); exact h), Below.heap_setCell _ _ _ _ (by show ¬ (k = g); exact h)]

theorem St.go {wL W W' : World} {g h : Nat} {a b c d : Int} (s : St wL W g h a b c d) (hb : Below W.heap.size W W') : St wL W' g h a b c d :=
  ⟨below_seq s.below hb, s.low, s.lt, (hb.block _ (Array.getElem?_eq_some_iff.1 s.one).1).trans s.one, (hb.block _ (Array.getElem?_eq_some_iff.1 s.two).1).trans s.two⟩
theorem St.spoil {wL W W' : World} {g h : Nat} {a b c d : Int} (s : St wL W g h a b c d) (hb : Below wL.heap.size W W') (hk : Keep26 W W') : St wL W' g h a b c d :=
  ⟨s.below.trans hb, s.low, s.lt, hk _ _ _ s.one, hk _ _ _ s.two⟩
theorem St.setg {wL W : World} {g h : Nat} {a b c d : Int} (s : St wL W g h a b c d) (x y : Int) : St wL ((W.setCell ⟨g, 0, none⟩ (.int .i64 x)).setCell ⟨g, 1, none⟩ (.int .i64 y)) g h x y c d :=
  ⟨(s.below.setCell (p := ⟨g, 0, none⟩) s.low _).setCell (p := ⟨g, 1, none⟩) s.low _, s.low, s.lt, set_two s.one, (two_keep (by have := s.lt; omega)).trans s.two⟩
theorem St.seth {wL W : World} {g h : Nat} {a b c d : Int} (s : St wL W g h a b c d) (x y : Int) : St wL ((W.setCell ⟨h, 0, none⟩ (.int .i64 x)).setCell ⟨h, 1, none⟩ (.int .i64 y)) g h a b x y := by
  have hl : wL.heap.size ≤ h := by have := s.lt; have := s.low; omega
  exact ⟨(s.below.setCell (p := ⟨h, 0, none⟩) hl _).setCell (p := ⟨h, 1, none⟩) hl _, s.low, s.lt, (two_keep (by have := s.lt; omega)).trans s.one, set_two s.two⟩

/-- Rows of tasks are no block of a fault. -/
theorem RowSl.set2 {W : World} {m : List Ta} {u : Value} {g : Nat} {x y x' y' : Value} {T : TypeId} (h : RowSl Ta.vals W m u) (hg : W.heap[g]? = some (.cells #[x, y] T (0, 0))) : RowSl Ta.vals ((W.setCell ⟨g, 0, none⟩ x').setCell ⟨g, 1, none⟩ y') m u := by
  obtain ⟨ad, c, h1, h2, h4, h3⟩ := h
  refine ⟨ad, c, h1, h2, h4, ?_⟩
  rcases h3 with h3 | ⟨b, o, e, h3⟩
  · exact .inl h3
  by_cases hm : m = []
  · exact .inl hm
  refine .inr ⟨b, o, e, fun q u hq => ?_⟩
  have hne : b ≠ g := by
    intro e
    subst e
    have hlen : (m.flatMap Ta.vals).length = m.length * 7 := flat_length Ta.vals 7 Ta.len m
    have hpos : 0 < m.length := List.length_pos_iff.2 hm
    have h5 := h3 6 _ (List.getElem?_eq_getElem (by omega))
    unfold World.cell? at h5
    rw [hg] at h5
    simp at h5
  rw [World.cell?_of_block (two_keep hne)]
  exact h3 q u hq

theorem OwnT.set2 {B : Nat} {W : World} {u : Value} {g : Nat} {x y x' y' : Value} (h : OwnT B W u) (hg : W.heap[g]? = some (.cells #[x, y] 26 (0, 0))) : OwnT B ((W.setCell ⟨g, 0, none⟩ x').setCell ⟨g, 1, none⟩ y') u := by
  obtain ⟨n, xs, hl, h | ⟨k, cap, cur, he, hB, hk, hr⟩⟩ := h
  · exact ⟨n, xs, hl, .inl h⟩
  · refine ⟨n, xs, hl, .inr ⟨k, cap, cur, he, hB, ?_, hr⟩⟩
    rw [two_keep (fun e => by subst e; rw [hg] at hk; simp at hk)]
    exact hk

theorem OwnT.low {B B' : Nat} {W : World} {u : Value} (h : OwnT B W u) (hB : B' ≤ B) : OwnT B' W u := by
  obtain ⟨n, xs, hl, h | ⟨k, cap, cur, he, hB1, hk, hr⟩⟩ := h
  · exact ⟨n, xs, hl, .inl h⟩
  · exact ⟨n, xs, hl, .inr ⟨k, cap, cur, he, by omega, hk, hr⟩⟩

/- The two tasks that the law begins with. -/
def twoL : List Ta := [⟨⟨#[97]⟩, 1, 9, 9, 0, 0, 0⟩, ⟨⟨#[98]⟩, 1, 5, 5, 0, 0, 0⟩]
theorem chk_two : chkF twoL = (0, 0) := by kernel_rfl
theorem rank_two : rankR (fun k => (Tk twoL k).t) twoL = [⟨⟨#[97]⟩, 1, 9, 9, 0, 0, 1⟩, ⟨⟨#[98]⟩, 1, 5, 5, 0, 0, 2⟩] := by kernel_rfl

theorem first_any (w : World) (v : Value) (hv : RowSl Ta.vals w twoL v) : Calls Tryd.prog 4 #[v] w fun r w' => ∃ g o c, r = .returned (.tuple #[.slice (some ⟨g, o, none⟩) 2 c, .agg #[.int .i64 0, .int .i64 0]]) ∧ w'.cell? ⟨g, o + 6, none⟩ = some (.int .i64 1) ∧ w'.cell? ⟨g, o + 13, none⟩ = some (.int .i64 2) ∧ g < w'.heap.size ∧ 2 ≤ c ∧ Below w.heap.size w w' := by
  refine (DeadlinesR_good w twoL v (by rw [chk_two]) hv).mono ?_
  rintro r w' ⟨u, od, rfl, hin, hru, hb⟩
  rw [rk_eq hin, rank_two] at hru
  have hr := hru.choose_spec.choose_spec.2.2.1
  obtain ⟨ad, c, rfl, -, hc, h⟩ := hr
  rcases h with h | ⟨b, o, rfl, h⟩
  · cases h
  · obtain ⟨-, -, -, -, -, -, c6⟩ := ta_at (j := 0) h rfl
    obtain ⟨-, -, -, -, -, -, d6⟩ := ta_at (j := 1) h rfl
    simp only [Nat.zero_mul, Nat.add_zero] at c6
    refine ⟨b, o, c, rfl, c6, ?_, World.block_lt_of_cell? _ _ c6, hc, hb⟩
    rw [show o + 1 * 7 + 6 = o + 13 by omega] at d6
    exact d6

theorem row_new {α : Type} {f : α → List Value} (w : World) (l : List α) (n : Nat) (cs : Array Value) (t : TypeId) (hn : n = l.length) (hc : cs = (l.flatMap f).toArray) : RowSl f (w.alloc (.cells cs t)) l (.slice (some ⟨w.heap.size, 0, none⟩) n n) := by
  subst hn hc
  refine ⟨_, _, rfl, (fun e => by cases e), Nat.le_refl _, .inr ⟨w.heap.size, 0, rfl, fun q u hq => ?_⟩⟩
  rw [Nat.zero_add]
  exact (cells_of (heap_alloc_new _ _)).1 q u hq

theorem alloc_lt {w1 w2 : World} {o : Obj} (hb : Below (w1.alloc o).heap.size (w1.alloc o) w2) : w1.heap.size < w2.heap.size := Nat.lt_of_lt_of_le (by simp) hb.size

theorem St.cg {wL W : World} {g h : Nat} {a b c d : Int} (s : St wL W g h a b c d) : W.cell? ⟨g, 0, none⟩ = some (.int .i64 a) ∧ W.cell? ⟨g, 1, none⟩ = some (.int .i64 b) ∧ W.frozen? ⟨g, 0, none⟩ = false ∧ W.frozen? ⟨g, 1, none⟩ = false ∧ g < W.heap.size := by
  obtain ⟨c1, f1, l1⟩ := cells_of (l := [_, _]) s.one
  exact ⟨c1 0 _ rfl, c1 1 _ rfl, f1 0, f1 1, l1⟩
theorem St.ch {wL W : World} {g h : Nat} {a b c d : Int} (s : St wL W g h a b c d) : W.cell? ⟨h, 0, none⟩ = some (.int .i64 c) ∧ W.cell? ⟨h, 1, none⟩ = some (.int .i64 d) ∧ W.frozen? ⟨h, 0, none⟩ = false ∧ W.frozen? ⟨h, 1, none⟩ = false ∧ h < W.heap.size := by
  obtain ⟨c1, f1, l1⟩ := cells_of (l := [_, _]) s.two
  exact ⟨c1 0 _ rfl, c1 1 _ rfl, f1 0, f1 1, l1⟩
end Go.Proofs.YtcgncdpohaoejafDoor
