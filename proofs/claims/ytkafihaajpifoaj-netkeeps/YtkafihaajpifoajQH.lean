import Derived.Test.YtkafihaajpifoajPQ
namespace Go.Proofs.Ytkafihaajpifoaj
open Go.ChangeShapes Go.WideShapes Go.ChangeAt Go.RowKit

theorem flat_nu (xs : List Int) : xs.flatMap nuV = xs.map (Value.int .i64) := by
  induction xs with
  | nil => rfl
  | cons x r ih => rw [List.flatMap_cons, ih]; rfl

theorem row_block {W : World} {g : Nat} {xs : List Int} (h : W.heap[g]? = some (.cells (xs.map (Value.int .i64)).toArray 3 (0, 0))) : RowSl nuV W xs (.slice (some ⟨g, 0, none⟩) xs.length xs.length) :=
  ⟨_, _, rfl, (fun e => by cases e), Nat.le_refl _, .inr ⟨g, 0, rfl, fun q u hq => by
    rw [flat_nu] at hq
    rw [Nat.zero_add]
    exact (cells_of h).1 q u hq⟩⟩

/-- One's own list of numbers, or none. -/
def RowOwn (B : Nat) (W : World) (xs : List Int) (v : Value) (og : Option Nat) : Prop :=
  (og = none ∧ xs = [] ∧ v = .slice none 0 0) ∨ (∃ g, og = some g ∧ v = .slice (some ⟨g, 0, none⟩) xs.length xs.length ∧ W.heap[g]? = some (.cells (xs.map (Value.int .i64)).toArray 3 (0, 0)) ∧ B ≤ g ∧ xs.length ≤ 1000000)

theorem RowOwn.row {B : Nat} {W : World} {xs : List Int} {v : Value} {og : Option Nat} (h : RowOwn B W xs v og) : RowSl nuV W xs v := by
  rcases h with ⟨-, rfl, rfl⟩ | ⟨g, -, rfl, h, -⟩
  · exact RowSl.nil _ _
  · exact row_block h

theorem RowOwn.keep {B : Nat} {W W' : World} {xs : List Int} {v : Value} {og row : Option Nat} (h : RowOwn B W xs v og) (hg : W.grownBy W' row) (hn : ∀ g, og = some g → row ≠ some g) : RowOwn B W' xs v og := by
  rcases h with h | ⟨g, e, e2, h, hB, hl⟩
  · exact .inl h
  · exact .inr ⟨g, e, e2, (hg.block g (lt_of_heap h) (fun q => hn g e q.symm)).trans h, hB, hl⟩

theorem heap_setCells {g q : Nat} (hq : q ≠ g) : ∀ (l : List Value) (o : Nat) (w : World), (w.setCells g o l).heap[q]? = w.heap[q]?
  | [], _, _ => rfl
  | v :: r, o, w => by
    have h1 := heap_setCells hq r (o + 1) (w.setCell ⟨g, o, none⟩ v)
    have h2 : (w.setCell ⟨g, o, none⟩ v).heap[q]? = w.heap[q]? := Below.heap_setCell _ _ _ _ hq
    exact h1.trans h2

theorem grown_setCells {g : Nat} (l : List Value) (w : World) : w.grownBy (w.setCells g 0 l) (some g) := by
  have hb := below_setCells (N := 0) (b := g) (Nat.zero_le _) l 0 w
  exact ⟨hb.os, hb.tape, hb.output, hb.size, fun q _ hne => heap_setCells (fun e => hne (by rw [e])) l 0 w⟩

def smallB (a b : Int) : Bool := (decide (a ≤ 300) && decide (b ≤ 3000)) || decide (4000 < a) || decide (20000 < b)

/-- What must come out. -/
def PlRes (l : List Jb) (pol : Int) (pre : Bool) (n : Int) (z1 z2 : Int) (rs es : List Int) : Prop :=
  ((plE l pol n).1 ≠ 0 ∧ z1 = (plE l pol n).1 ∧ z2 = (plE l pol n).2 ∧ rs = [] ∧ es = []) ∨ ((plE l pol n).1 = 0 ∧ z1 = 0 ∧ z2 = 0 ∧ ∃ s, Plays l pol pre n.toNat s ∧ rs = s.runs ∧ es = s.ends)

theorem plRes_unique {l : List Jb} {pol : Int} {pre : Bool} {n z1 z2 y1 y2 : Int} {rs es rs' es' : List Int} (h : PlRes l pol pre n z1 z2 rs es) (h' : PlRes l pol pre n y1 y2 rs' es') : z1 = y1 ∧ z2 = y2 ∧ rs = rs' ∧ es = es' := by
  rcases h with ⟨h0, rfl, rfl, rfl, rfl⟩ | ⟨h0, rfl, rfl, s, hs, rfl, rfl⟩
  · rcases h' with ⟨g0, rfl, rfl, rfl, rfl⟩ | ⟨g0, -⟩
    · exact ⟨rfl, rfl, rfl, rfl⟩
    · exact absurd g0 h0
  · rcases h' with ⟨g0, -⟩ | ⟨g0, rfl, rfl, s', hs', rfl, rfl⟩
    · exact absurd h0 g0
    · rw [plays_unique _ _ _ hs hs']; exact ⟨rfl, rfl, rfl, rfl⟩

/-- A result, as it lies. -/
def Res (w W : World) (rs es : List Int) (v1 v2 : Value) : Prop := Below w.heap.size w W ∧ rs.length ≤ 1000000 ∧ es.length ≤ 1000000 ∧ ∃ o1 o2, RowOwn w.heap.size W rs v1 o1 ∧ RowOwn w.heap.size W es v2 o2 ∧ ∀ g, o1 = some g → o2 ≠ some g

theorem res_nil {w W : World} (h : Below w.heap.size w W) : Res w W [] [] (.slice none 0 0) (.slice none 0 0) := ⟨h, by simp, by simp, none, none, .inl ⟨rfl, rfl, rfl⟩, .inl ⟨rfl, rfl, rfl⟩, fun g e => by cases e⟩

theorem res_out {w W : World} {l : List Jb} {pol : Int} {pre : Bool} {n : Nat} {v1 v2 : Value} (hok : ∀ x ∈ l, okJ x) (hl : l.length ≤ 4000) (hn : n ≤ 20000) (h : OutW w W l pol pre n v1 v2) : ∃ s, Plays l pol pre n s ∧ Res w W s.runs s.ends v1 v2 := by
  obtain ⟨s, rb, eb, hp, rfl, rfl, h1, h2, hne, b1, b2⟩ := h.out
  have hk := plays_ok hok n s hp
  refine ⟨s, hp, h.bel, by rw [hk.runs]; omega, by rw [hk.ends]; omega, some rb, some eb, .inr ⟨rb, rfl, by rw [hk.runs], h1, b1, by rw [hk.runs]; omega⟩, .inr ⟨eb, rfl, by rw [hk.ends], h2, b2, by rw [hk.ends]; omega⟩, fun g e e2 => ?_⟩
  cases e
  exact hne (Option.some.inj e2).symm

theorem Play_res (w : World) (l : List Jb) (v : Value) (pol n : Int) (pre : Bool) (hv : RowSl Jb.vals w l v) :
    Calls Try.prog 23 #[v, .int .i64 pol, .bool pre, .int .i64 n] w fun r W => ∃ v1 v2 z1 z2 rs es, r = .returned (.tuple #[.agg #[v1, v2], .agg #[.int .i64 z1, .int .i64 z2]]) ∧ PlRes l pol pre n z1 z2 rs es ∧ Res w W rs es v1 v2 := by
  by_cases h0 : (plE l pol n).1 = 0
  · obtain ⟨hck, -, hn0, hn1, -⟩ := plE_ok h0
    obtain ⟨hcl, hcok, -⟩ := chkJ_ok hck
    obtain ⟨m, rfl⟩ : ∃ m : Nat, n = (m : Int) := ⟨n.toNat, by omega⟩
    refine (Play_good w l v pol m pre hv h0).mono ?_
    rintro r W ⟨v1, v2, rfl, ho⟩
    obtain ⟨s, hp, hr⟩ := res_out hcok hcl (by omega) ho
    exact ⟨v1, v2, 0, 0, s.runs, s.ends, rfl, .inr ⟨h0, rfl, rfl, s, hp, rfl, rfl⟩, hr⟩
  · refine (Play_bad w l v pol n pre hv h0).mono ?_
    rintro r W ⟨rfl, hb⟩
    exact ⟨_, _, _, _, [], [], rfl, .inl ⟨h0, rfl, rfl, rfl, rfl⟩, res_nil hb⟩
end Go.Proofs.Ytkafihaajpifoaj
