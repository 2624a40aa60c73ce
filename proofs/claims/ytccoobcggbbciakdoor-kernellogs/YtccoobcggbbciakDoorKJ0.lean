import Derived.Test.YtccoobcggbbciakDoorKI0
import Derived.Maps.AppendAt
namespace Go.Proofs.YtccoobcggbbciakDoor
open Go.ChangeShapes Go.WideShapes Go.ChangeAt Go.RowKit

theorem infoSt : (Tryd.prog.info? 9).map (fun i => (i.zero, i.size, i.bytes)) = some (some (.string ⟨#[]⟩), 1, 16) := by kernel_rfl
theorem infoEv : (Tryd.prog.info? 24).map (fun i => (i.zero, i.size, i.bytes)) = some (some (.agg #[.int .i64 0, .int .i64 0, .int .i64 0, .int .i64 0, .int .i64 0]), 5, 40) := by kernel_rfl
theorem infoIn : (Tryd.prog.info? 3).map (fun i => (i.zero, i.size, i.bytes)) = some (some (.int .i64 0), 1, 8) := by kernel_rfl

theorem setCell_at {w : World} {g i : Nat} {cs : Array Value} {t : TypeId} {fr : Nat × Nat} {u : Value} (h : w.heap[g]? = some (.cells cs t fr)) : (w.setCell ⟨g, i, none⟩ u).heap[g]? = some (.cells (cs.setIfInBounds i u) t fr) := by
  have hlt : g < w.heap.size := (Array.getElem?_eq_some_iff.1 h).1
  have h' : w.heap[g] = .cells cs t fr := by simpa [Array.getElem?_eq_getElem hlt] using h
  show (w.heap.modify g _)[g]? = _
  rw [Array.getElem?_eq_getElem (by simpa using hlt), Array.getElem_modify_self, h']
  rfl

theorem ownsRow_same {w w' : World} {B n size : Nat} {e : TypeId} {v : Value} {xs : List Value} (h : w.ownsRow B e size v n xs) (hs : ∀ k, B ≤ k → k < w.heap.size → w'.heap[k]? = w.heap[k]?) : w'.ownsRow B e size v n xs := by
  obtain ⟨hl, h | ⟨g, cap, cur, he, hb, hg, hr⟩⟩ := h
  · exact ⟨hl, .inl h⟩
  · exact ⟨hl, .inr ⟨g, cap, cur, he, hb, (hs g hb (Array.getElem?_eq_some_iff.1 hg).1).trans hg, hr⟩⟩

theorem ownsRow_below {w w' : World} {B n size : Nat} {e : TypeId} {v : Value} {xs : List Value} (h : w.ownsRow B e size v n xs) (hb : Below w.heap.size w w') : w'.ownsRow B e size v n xs := ownsRow_same h (fun k _ hk => hb.block k hk)

theorem owns_value {w : World} {B n size : Nat} {e : TypeId} {v : Value} {xs : List Value} (h : w.ownsRow B e size v n xs) : ∃ ad c, v = .slice ad n c := by
  obtain ⟨hl, ⟨h, hn⟩ | ⟨g, cap, cur, he, -⟩⟩ := h
  · exact ⟨none, 0, by rw [h]; simp_all⟩
  · exact ⟨_, _, he⟩

theorem append_known {P : Program} {w : World} {ops : Array Oper} {rest : List Oper} {o : Oper} {a : Act} {Q : Exit → Act → World → Prop} (hgd : o.guard = none) (s x : Operand) (t : TypeId)
    (ho : o.op = .call { callee := .builtin .append, args := #[s, x], argTypes := #[t, t] }) {v u v' : Value} {w' : World} (hs : a.eval s = v) (hx : a.eval x = u)
    (hrun : (Builtin.append_ #[t, t] o.type #[v, u]).run P w = .ok v' w') (h : wpList P ops Q rest (a.put o.dst v') w') : wpList P ops Q (o :: rest) a w := by
  refine wpList_plain hgd fun K hK => ?_
  unfold Oper.wp
  simp [execOp, ho, resolve, invoke, builtin, hs, hx, hrun, Result.andThen]
  exact hK _ _ h

/-- An own row takes one more element, which lies in a block of its own. -/
theorem own_push {wr : World} {B T E n size bytes : Nat} {z : Value} {xs : List Value} {av : Value} (hu : Tryd.prog.underlying T = some (.slice E)) (hi : (Tryd.prog.info? E).map (fun i => (i.zero, i.size, i.bytes)) = some (some z, size, bytes)) (hzs : z.cells.size = size) (hsz : 0 < size)
    (h : wr.ownsRow B E size av n xs) (x : List Value) (hx : x.length = size) (h1 : ∀ u ∈ x, u.oneCell' = true) (hl : n ≤ 1000000) (hby : bytes ≤ 1000) (hB : B ≤ wr.heap.size) :
    ∃ ad c w4, (Builtin.append_ #[T, T] T #[av, .slice (some ⟨wr.heap.size, 0, none⟩) 1 1]).run Tryd.prog (wr.alloc (.cells x.toArray E)) = .ok (.slice ad (n + 1) c) w4 ∧ w4.ownsRow B E size (.slice ad (n + 1) c) (n + 1) (xs ++ x) ∧ Below B wr w4 ∧ ∀ (k : Nat) (cs : Array Value) (ty : TypeId), wr.heap[k]? = some (.cells cs ty (0, 0)) → (ty ≠ E ∨ k < B) → w4.heap[k]? = some (.cells cs ty (0, 0)) := by
  obtain ⟨i0, hi0, hz0, hz1, hz2⟩ := info_parts hi
  have hr := ownsRow_below h (below_new wr (.cells x.toArray E))
  have hbb : (n + 1) * bytes ≤ 140737488355328 := Nat.le_trans (Nat.mul_le_mul (show n + 1 ≤ 1000001 by omega) hby) (by decide)
  obtain ⟨v4, w4, hrun, ho4, hg4, -, hv4⟩ := run_append_own_at (P := Tryd.prog) (w := wr.alloc (.cells x.toArray E)) B T T E i0 _ size bytes hu hi0 hz0 hz1 hz2 hzs hsz av n xs hr ⟨wr.heap.size, 0, none⟩ 1 1 x (by omega) (fun j u hj => by rw [Addr.add_lit]; have := (cells_of (l := x) (heap_alloc_new wr (.cells x.toArray E))).1 j u hj; simpa using this) h1 (by unfold maxLen; omega) hbb (by simp; omega)
  obtain ⟨ad, c, rfl⟩ := owns_value ho4
  have hold : ∀ k, k < wr.heap.size → some k ≠ av.ownBlock → w4.heap[k]? = wr.heap[k]? := fun k hk hn => (hg4.block k (by simp; omega) hn).trans (Below.heap_alloc _ _ _ hk)
  refine ⟨ad, c, w4, hrun, ho4, ((below_new wr _).mono hB).grown hg4 (by simp; omega) (fun k hk => (h.lt k hk).1), fun k cs ty hk ht => ?_⟩
  refine (hold k (Array.getElem?_eq_some_iff.1 hk).1 (fun e => ?_)).trans hk
  obtain ⟨-, ⟨hv, -⟩ | ⟨g', cap, cur, hv, hgB, hg', -⟩⟩ := h
  · rw [hv] at e; cases e
  · rw [hv] at e
    have hgk : k = g' := by simpa [Value.ownBlock] using e
    rcases ht with ht | ht
    · rw [← hgk, hk] at hg'
      cases hg'
      exact ht rfl
    · omega

/-- The cells of an own row. -/
theorem own_cells {w : World} {B n size : Nat} {e : TypeId} {v : Value} {xs : List Value} (h : w.ownsRow B e size v n xs) (hn : 0 < n) : ∃ g c cur, v = .slice (some ⟨g, 0, none⟩) n c ∧ B ≤ g ∧ g < w.heap.size ∧ n ≤ c ∧ c ≤ maxLen ∧ w.heap[g]? = some (.cells cur e (0, 0)) ∧ cur.size = c * size ∧ ∀ (q : Nat) (u : Value), xs[q]? = some u → w.cell? ⟨g, q, none⟩ = some u := by
  have h' := h
  obtain ⟨hl, ⟨h1, h2⟩ | ⟨g, cap, cur, he, hb, hg, hc1, hc2, hc3, hc4⟩⟩ := h
  · omega
  · subst he
    refine ⟨g, cap, cur, rfl, hb, (Array.getElem?_eq_some_iff.1 hg).1, hc1, hc2, hg, hc3, fun q u hq => ?_⟩
    have hql := (List.getElem?_eq_some_iff.1 hq).1
    exact (h'.cellAt q (by omega)).trans hq
end Go.Proofs.YtccoobcggbbciakDoor
