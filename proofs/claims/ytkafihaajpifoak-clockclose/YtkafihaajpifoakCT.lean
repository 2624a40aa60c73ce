import Derived.Test.YtkafihaajpifoakCA
namespace Go.Proofs.Ytkafihaajpifoak
open Go.ChangeShapes Go.WideShapes Go.ChangeAt Go.RowKit

/-- A row of a table: its numbers, and where they lie. -/
structure Ro where
  xs : List Int
  v : Value
def Ro.vals (x : Ro) : List Value := [x.v]
theorem Ro.len (x : Ro) : x.vals.length = 1 := rfl
def TabSl (w : World) (l : List Ro) (v : Value) : Prop := RowSl Ro.vals w l v ∧ ∀ x ∈ l, RowSl nuV w x.xs x.v
theorem TabSl.below {w w' : World} {l : List Ro} {v : Value} (h : TabSl w l v) (hb : Below w.heap.size w w') : TabSl w' l v := ⟨h.1.below hb, fun x hx => (h.2 x hx).below hb⟩
theorem ro_at {w : World} {l : List Ro} {b o j : Nat} {x : Ro} (h : ∀ q u, (l.flatMap Ro.vals)[q]? = some u → w.cell? ⟨b, o + q, none⟩ = some u) (hj : l[j]? = some x) : w.cell? ⟨b, o + j, none⟩ = some x.v := by
  have := h _ _ ((flat_at Ro.vals 1 Ro.len l j 0 x hj (by omega)).trans (rfl : x.vals[0]? = some x.v))
  simpa using this

theorem infoTb : (Try.prog.info? 22).map (fun i => (i.zero, i.size, i.bytes)) = some (some (.slice none 0 0), 1, 24) := by kernel_rfl

/-- A slice of numbers of one's own, below which nothing turned. -/
theorem copyNu (W : World) (l : List Int) (ad : Option Addr) (c : Nat) (hb : l.length * 8 ≤ 140737488355328) (hv : RowSl nuV W l (.slice ad l.length c)) :
    ∃ u W', (Builtin.append_ #[22, 22] 22 #[.slice (some ⟨W.heap.size, 0, none⟩) 0 0, .slice ad l.length c]).run Try.prog (W.alloc (.cells #[] 3)) = .ok u W' ∧ RowSl nuV W' l u ∧ Below W.heap.size W W' ∧ ∀ k, u.ownBlock = some k → W.heap.size ≤ k ∧ k < W'.heap.size := by
  obtain ⟨i0, hi0, hz0, hz1, hz2⟩ := info_parts infoNu
  have hown : (W.alloc (.cells #[] 3)).ownsRow W.heap.size 3 1 (.slice (some ⟨W.heap.size, 0, none⟩) 0 0) 0 [] := ⟨rfl, .inr ⟨W.heap.size, 0, #[], rfl, Nat.le_refl _, heap_alloc_new _ _, Nat.le_refl _, by unfold maxLen; omega, rfl, rfl⟩⟩
  obtain ⟨ad', c', e, hnil, hcap, hrow⟩ := hv.below (below_new W (.cells #[] 3))
  cases e
  cases ad with
  | none =>
    obtain ⟨hl0, rfl⟩ := hnil rfl
    have hl : l = [] := List.eq_nil_of_length_eq_zero hl0
    subst hl
    refine ⟨_, _, run_append_owned_none (P := Try.prog) (W.alloc (.cells #[] 3)) W.heap.size 22 22 3 i0 1 Try.underlying22 hi0 _ 0 [] hown, ⟨_, _, rfl, (fun e => by cases e), Nat.le_refl _, .inl rfl⟩, below_new _ _, fun k hk => by cases hk; exact ⟨Nat.le_refl _, by simp⟩⟩
  | some a =>
    obtain ⟨u, W', hrun, ho, hg, -, hu⟩ := run_append_own_at (P := Try.prog) (w := W.alloc (.cells #[] 3)) W.heap.size 22 22 3 i0 _ 1 8 Try.underlying22 hi0 hz0 hz1 hz2 rfl (by decide) _ 0 [] hown a l.length c (l.flatMap nuV) (flat_length nuV 1 nuV_len l) (fun j u hj => by
      rcases hrow with h | ⟨b, o, h2, h3⟩
      · subst h; simp at hj
      · cases h2
        rw [Addr.add_lit]
        exact h3 j u hj) (fun u hu => flatOneNu hu) (by unfold maxLen; omega) (by omega) (by simp)
    rw [Nat.zero_add, List.nil_append] at ho
    refine ⟨u, W', hrun, ?_, (below_new _ _).trans ((Below.refl _ _).grown hg (by simp) (by intro k hk; cases hk; exact Nat.le_refl _)), fun k hk => ?_⟩
    · obtain ⟨hl, ⟨h1, h2⟩ | ⟨g, cap, cur, h1, h2, h3, h4, h5, h6, h7⟩⟩ := ho
      · have hl0 : l = [] := List.eq_nil_of_length_eq_zero h2
        subst hl0
        rw [h1]
        exact RowSl.nil _ _
      · refine ⟨_, cap, h1, (fun e => by cases e), h4, .inr ⟨g, 0, rfl, fun q u hq => ?_⟩⟩
        have hql := (List.getElem?_eq_some_iff.1 hq).1
        rw [flat_length nuV 1 nuV_len] at hql
        rw [Nat.zero_add]
        unfold World.cell?
        rw [h3]
        rw [← h7, List.getElem?_take_of_lt hql, Array.getElem?_toList] at hq
        simpa using hq
    · refine ⟨?_, ?_⟩
      · rcases hu with hu | hu
        · rw [hu] at hk; cases hk; exact Nat.le_refl _
        · rw [hu] at hk; simp at hk; omega
      · obtain ⟨-, ⟨h1, -⟩ | ⟨g, cap, cur, h1, -, h3, -⟩⟩ := ho
        · rw [h1] at hk; cases hk
        · rw [h1] at hk; cases hk; exact (Array.getElem?_eq_some_iff.1 h3).1


theorem ownsRow_below' {w w' : World} {B n size : Nat} {e : TypeId} {v : Value} {xs : List Value} (h : w.ownsRow B e size v n xs) (hb : Below w.heap.size w w') : w'.ownsRow B e size v n xs := by
  obtain ⟨hl, h | ⟨g, cap, cur, he, hB, hg, hr⟩⟩ := h
  · exact ⟨hl, .inl h⟩
  · exact ⟨hl, .inr ⟨g, cap, cur, he, hB, (hb.block g (Array.getElem?_eq_some_iff.1 hg).1).trans hg, hr⟩⟩


theorem RowSl.keep {α : Type} {f : α → List Value} {w w' : World} {l : List α} {v : Value} (h : RowSl f w l v) (hk : ∀ k, v.ownBlock = some k → w'.heap[k]? = w.heap[k]?) : RowSl f w' l v := by
  obtain ⟨ad, c, rfl, h1, h2, h3⟩ := h
  refine ⟨ad, c, rfl, h1, h2, h3.imp id ?_⟩
  rintro ⟨b, o, rfl, h⟩
  refine ⟨b, o, rfl, fun q u hq => ?_⟩
  rw [World.cell?_of_block (hk b rfl)]
  exact h q u hq

theorem row_own {α : Type} {f : α → List Value} {sz : Nat} (hf : ∀ x, (f x).length = sz) {w : World} {B : Nat} {e : TypeId} {v : Value} {l : List α} (h : w.ownsRow B e sz v l.length (l.flatMap f)) : RowSl f w l v := by
  obtain ⟨hl, ⟨h1, h2⟩ | ⟨g, cap, cur, h1, h2, h3, h4, h5, h6, h7⟩⟩ := h
  · have hl0 : l = [] := List.eq_nil_of_length_eq_zero h2
    subst hl0
    rw [h1]
    exact RowSl.nil _ _
  · refine ⟨_, cap, h1, (fun e => by cases e), h4, .inr ⟨g, 0, rfl, fun q u hq => ?_⟩⟩
    have hql := (List.getElem?_eq_some_iff.1 hq).1
    rw [flat_length f sz hf] at hql
    rw [Nat.zero_add]
    unfold World.cell?
    rw [h3]
    rw [← h7, List.getElem?_take_of_lt hql, Array.getElem?_toList] at hq
    simpa using hq


/-- Rows that have been copied so far. -/
structure Cop (w W : World) (js : List Ro) (ov : Value) : Prop where
  bel : Below w.heap.size w W
  own : W.ownsRow w.heap.size 22 1 ov js.length (js.flatMap Ro.vals)
  xss : ∀ x ∈ js, RowSl nuV W x.xs x.v
  one : ∀ x ∈ js, x.v.oneCell' = true
  apart : ∀ x ∈ js, ∀ k, x.v.ownBlock = some k → k < W.heap.size ∧ ov.ownBlock ≠ some k
  low : ∀ x ∈ js, ∀ k, x.v.ownBlock = some k → w.heap.size ≤ k

theorem Cop.grow {w W W' : World} {js : List Ro} {ov : Value} (h : Cop w W js ov) (hb : Below W.heap.size W W') : Cop w W' js ov :=
  ⟨below_seq h.bel hb, ownsRow_below' h.own hb, fun x hx => (h.xss x hx).below hb, h.one, fun x hx k hk => ⟨Nat.lt_of_lt_of_le (h.apart x hx k hk).1 hb.size, (h.apart x hx k hk).2⟩, h.low⟩

/-- One more. -/
theorem Cop.push {w W : World} {js : List Ro} {ov : Value} (h : Cop w W js ov) (x : Ro) (hl : js.length ≤ 1000000) (hx : RowSl nuV W x.xs x.v) (hone : x.v.oneCell' = true) (hap : ∀ k, x.v.ownBlock = some k → k < W.heap.size ∧ ov.ownBlock ≠ some k) (hlow : ∀ k, x.v.ownBlock = some k → w.heap.size ≤ k) :
    ∃ ov' W', (Builtin.append_ #[23, 23] 23 #[ov, .slice (some ⟨W.heap.size, 0, none⟩) 1 1]).run Try.prog (W.alloc (.cells #[x.v] 22)) = .ok ov' W' ∧ Cop w W' (js ++ [x]) ov' := by
  obtain ⟨i0, hi0, hz0, hz1, hz2⟩ := info_parts infoTb
  have h1 := h.grow (below_new W (.cells #[x.v] 22))
  obtain ⟨ov', W', hrun, ho, hg, -, hu⟩ := run_append_own_at (P := Try.prog) (w := W.alloc (.cells #[x.v] 22)) w.heap.size 23 23 22 i0 _ 1 24 Try.underlying23 hi0 hz0 hz1 hz2 rfl (by decide) ov js.length (js.flatMap Ro.vals) h1.own ⟨W.heap.size, 0, none⟩ 1 1 x.vals rfl (fun j u hj => by rw [Addr.add_lit]; have := (cells_of (l := x.vals) (heap_alloc_new W (.cells #[x.v] 22))).1 j u hj; simpa using this) (fun u hu => by
      simp only [Ro.vals, List.mem_cons, List.not_mem_nil, or_false] at hu
      subst hu
      exact hone) (by unfold maxLen; omega) (by omega) (by have := h.bel.size; simp; omega)
  have hkeep : ∀ k, k < W.heap.size → ov.ownBlock ≠ some k → W'.heap[k]? = W.heap[k]? := fun k hk hne => by
    rw [hg.block k (by simp; omega) (fun e => hne e.symm), (below_new W _).block k hk]
  have hnew : ∀ k, k < W.heap.size → ov.ownBlock ≠ some k → ov'.ownBlock ≠ some k := fun k hk hne e => by
    rcases hu with hu | hu
    · rw [hu] at e; exact hne e
    · rw [hu] at e; simp at e; omega
  have hsz : W.heap.size ≤ W'.heap.size := by have := hg.size; simp at this; omega
  refine ⟨ov', W', hrun, h1.bel.grown hg (by have := h.bel.size; simp; omega) (fun k hk => ?_), by rw [List.length_append, List.flatMap_append]; simpa using ho, fun y hy => ?_, fun y hy => ?_, fun y hy => ?_, fun y hy => ?_⟩
  · obtain ⟨-, ⟨e, -⟩ | ⟨g, cap, cur, e, hB, -⟩⟩ := h.own
    · rw [e] at hk; cases hk
    · rw [e] at hk; cases hk; exact hB
  · rcases List.mem_append.1 hy with hy | hy
    · exact (h.xss y hy).keep fun k hk => hkeep k (h.apart y hy k hk).1 (h.apart y hy k hk).2
    · simp at hy; subst hy
      exact hx.keep fun k hk => hkeep k (hap k hk).1 (hap k hk).2
  · rcases List.mem_append.1 hy with hy | hy
    · exact h.one y hy
    · simp at hy; subst hy; exact hone
  · rcases List.mem_append.1 hy with hy | hy
    · exact fun k hk => ⟨Nat.lt_of_lt_of_le (h.apart y hy k hk).1 hsz, hnew k (h.apart y hy k hk).1 (h.apart y hy k hk).2⟩
    · simp at hy; subst hy
      exact fun k hk => ⟨Nat.lt_of_lt_of_le (hap k hk).1 hsz, hnew k (hap k hk).1 (hap k hk).2⟩
  · rcases List.mem_append.1 hy with hy | hy
    · exact h.low y hy
    · simp at hy; subst hy
      exact hlow

theorem Cop.block_lt {w W : World} {js : List Ro} {ov : Value} (h : Cop w W js ov) {k : Nat} (hk : ov.ownBlock = some k) : k < W.heap.size := by
  obtain ⟨-, ⟨e, -⟩ | ⟨g, cap, cur, e, -, hg, -⟩⟩ := h.own
  · rw [e] at hk; cases hk
  · rw [e] at hk; cases hk; exact (Array.getElem?_eq_some_iff.1 hg).1

theorem Cop.block_low {w W : World} {js : List Ro} {ov : Value} (h : Cop w W js ov) {k : Nat} (hk : ov.ownBlock = some k) : w.heap.size ≤ k := by
  obtain ⟨-, ⟨e, -⟩ | ⟨g, cap, cur, e, hB, -⟩⟩ := h.own
  · rw [e] at hk; cases hk
  · rw [e] at hk; cases hk; exact hB


end Go.Proofs.Ytkafihaajpifoak
