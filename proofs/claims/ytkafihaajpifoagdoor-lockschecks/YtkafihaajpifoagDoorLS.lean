import Derived.Test.YtkafihaajpifoagDoorLR
namespace Go.Proofs.YtkafihaajpifoagDoor
open Go.ChangeShapes Go.WideShapes Go.ChangeAt Go.RowKit

theorem append_known {P : Program} {w : World} {ops : Array Oper} {rest : List Oper} {o : Oper} {a : Act} {Q : Exit → Act → World → Prop} (hgd : o.guard = none) (s x : Operand) (t : TypeId)
    (ho : o.op = .call { callee := .builtin .append, args := #[s, x], argTypes := #[t, t] }) {v u v' : Value} {w' : World} (hs : a.eval s = v) (hx : a.eval x = u)
    (hrun : (Builtin.append_ #[t, t] o.type #[v, u]).run P w = .ok v' w') (h : wpList P ops Q rest (a.put o.dst v') w') : wpList P ops Q (o :: rest) a w := by
  refine wpList_plain hgd fun K hK => ?_
  unfold Oper.wp execOp
  simp only [ho, resolve, invoke, builtin, Sem.run_bind, Sem.run_pure, Result.andThen_ok, List.map_toArray, List.map_cons, List.map_nil, hs, hx, hrun]
  exact hK _ _ h

theorem RowSl.keep {α : Type} {f : α → List Value} {w w' : World} {l : List α} {v : Value} (h : RowSl f w l v) (hk : ∀ k, v.ownBlock = some k → w'.heap[k]? = w.heap[k]?) : RowSl f w' l v := by
  obtain ⟨ad, c, rfl, h1, h2, h3⟩ := h
  refine ⟨ad, c, rfl, h1, h2, h3.imp id ?_⟩
  rintro ⟨b, o, rfl, h⟩
  refine ⟨b, o, rfl, fun q u hq => ?_⟩
  rw [World.cell?_of_block (hk b rfl)]
  exact h q u hq

theorem row_own {α : Type} {f : α → List Value} {sz : Nat} (hf : ∀ x, (f x).length = sz) {w : World} {B : Nat} {e : TypeId} {v : Value} {l : List α} (h : w.ownsRow B e sz v l.length (l.flatMap f)) : RowSl f w l v := by
  obtain ⟨hl, ⟨h1, h2⟩ | ⟨g, cap, cur, h1, h2, h3, h4, h5, h6, h7⟩⟩ := h
  · have hl0 : l = [] := List.eq_nil_of_length_eq_zero h2
    subst hl0
    rw [h1]
    exact RowSl.nil _ _
  · refine ⟨_, cap, h1, (fun e => by cases e), h4, .inr ⟨g, 0, rfl, fun q u hq => ?_⟩⟩
    have hql := (List.getElem?_eq_some_iff.1 hq).1
    rw [flat_length f sz hf] at hql
    rw [Nat.zero_add]
    unfold World.cell?
    rw [h3]
    rw [← h7, List.getElem?_take_of_lt hql, Array.getElem?_toList] at hq
    simpa using hq

/-- Jobs that have been copied so far. -/
structure Cop (w W : World) (js : List Lj) (ov : Value) : Prop where
  bel : Below w.heap.size w W
  own : W.ownsRow w.heap.size 44 3 ov js.length (js.flatMap Lj.vals)
  acts : ∀ x ∈ js, RowSl Ac.vals W x.acts x.v
  one : ∀ x ∈ js, x.v.oneCell' = true
  apart : ∀ x ∈ js, ∀ k, x.v.ownBlock = some k → k < W.heap.size ∧ ov.ownBlock ≠ some k
  low : ∀ x ∈ js, ∀ k, x.v.ownBlock = some k → w.heap.size ≤ k

theorem Cop.grow {w W W' : World} {js : List Lj} {ov : Value} (h : Cop w W js ov) (hb : Below W.heap.size W W') : Cop w W' js ov :=
  ⟨below_seq h.bel hb, ownsRow_below' h.own hb, fun x hx => (h.acts x hx).below hb, h.one, fun x hx k hk => ⟨Nat.lt_of_lt_of_le (h.apart x hx k hk).1 hb.size, (h.apart x hx k hk).2⟩, h.low⟩

/-- One more. -/
theorem Cop.push {w W : World} {js : List Lj} {ov : Value} (h : Cop w W js ov) (x : Lj) (hl : js.length ≤ 1000000) (hx : RowSl Ac.vals W x.acts x.v) (hone : x.v.oneCell' = true) (hap : ∀ k, x.v.ownBlock = some k → k < W.heap.size ∧ ov.ownBlock ≠ some k) (hlow : ∀ k, x.v.ownBlock = some k → w.heap.size ≤ k) :
    ∃ ov' W', (Builtin.append_ #[36, 36] 36 #[ov, .slice (some ⟨W.heap.size, 0, none⟩) 1 1]).run Tryd.prog (W.alloc (.cells #[.int .i64 x.a, .int .i64 x.p, x.v] 44)) = .ok ov' W' ∧ Cop w W' (js ++ [x]) ov' := by
  obtain ⟨i0, hi0, hz0, hz1, hz2⟩ := info_parts infoLk
  have h1 := h.grow (below_new W (.cells #[.int .i64 x.a, .int .i64 x.p, x.v] 44))
  obtain ⟨ov', W', hrun, ho, hg, -, hu⟩ := run_append_own_at (P := Tryd.prog) (w := W.alloc (.cells #[.int .i64 x.a, .int .i64 x.p, x.v] 44)) w.heap.size 36 36 44 i0 _ 3 40 Tryd.underlying36 hi0 hz0 hz1 hz2 rfl (by decide) ov js.length (js.flatMap Lj.vals) h1.own ⟨W.heap.size, 0, none⟩ 1 1 x.vals rfl (fun j u hj => by rw [Addr.add_lit]; have := (cells_of (l := x.vals) (heap_alloc_new W (.cells #[.int .i64 x.a, .int .i64 x.p, x.v] 44))).1 j u hj; simpa using this) (fun u hu => by
      simp only [Lj.vals, List.mem_cons, List.not_mem_nil, or_false] at hu
      rcases hu with rfl | rfl | rfl
      · rfl
      · rfl
      · exact hone) (by unfold maxLen; omega) (by omega) (by have := h.bel.size; simp; omega)
  have hkeep : ∀ k, k < W.heap.size → ov.ownBlock ≠ some k → W'.heap[k]? = W.heap[k]? := fun k hk hne => by
    rw [hg.block k (by simp; omega) (fun e => hne e.symm), (below_new W _).block k hk]
  have hnew : ∀ k, k < W.heap.size → ov.ownBlock ≠ some k → ov'.ownBlock ≠ some k := fun k hk hne e => by
    rcases hu with hu | hu
    · rw [hu] at e; exact hne e
    · rw [hu] at e; simp at e; omega
  have hsz : W.heap.size ≤ W'.heap.size := by have := hg.size; simp at this; omega
  refine ⟨ov', W', hrun, h1.bel.grown hg (by have := h.bel.size; simp; omega) (fun k hk => ?_), by rw [List.length_append, List.flatMap_append]; simpa using ho, fun y hy => ?_, fun y hy => ?_, fun y hy => ?_, fun y hy => ?_⟩
  · obtain ⟨-, ⟨e, -⟩ | ⟨g, cap, cur, e, hB, -⟩⟩ := h.own
    · rw [e] at hk; cases hk
    · rw [e] at hk; cases hk; exact hB
  · rcases List.mem_append.1 hy with hy | hy
    · exact (h.acts y hy).keep fun k hk => hkeep k (h.apart y hy k hk).1 (h.apart y hy k hk).2
    · simp at hy; subst hy
      exact hx.keep fun k hk => hkeep k (hap k hk).1 (hap k hk).2
  · rcases List.mem_append.1 hy with hy | hy
    · exact h.one y hy
    · simp at hy; subst hy; exact hone
  · rcases List.mem_append.1 hy with hy | hy
    · exact fun k hk => ⟨Nat.lt_of_lt_of_le (h.apart y hy k hk).1 hsz, hnew k (h.apart y hy k hk).1 (h.apart y hy k hk).2⟩
    · simp at hy; subst hy
      exact fun k hk => ⟨Nat.lt_of_lt_of_le (hap k hk).1 hsz, hnew k (hap k hk).1 (hap k hk).2⟩
  · rcases List.mem_append.1 hy with hy | hy
    · exact h.low y hy
    · simp at hy; subst hy
      exact hlow
end Go.Proofs.YtkafihaajpifoagDoor
