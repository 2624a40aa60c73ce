import Derived.Test.YtccoobcggbbciadDoorRE0
import Derived.Test.YtccoobcggbbciadDoorTL
import Derived.Test.YtccoobcggbbciadDoorTM
import Derived.Maps.AppendAt
namespace Go.Proofs.YtccoobcggbbciadDoor
open Go.ChangeShapes Go.WideShapes Go.ChangeAt Go.RowKit

theorem ownsRow_below {w w' : World} {B n size : Nat} {e : TypeId} {v : Value} {xs : List Value} (h : w.ownsRow B e size v n xs) (hb : Below w.heap.size w w') : w'.ownsRow B e size v n xs := ownsRow_same h (fun k _ hk => hb.block k hk)

theorem owns_value {w : World} {B n size : Nat} {e : TypeId} {v : Value} {xs : List Value} (h : w.ownsRow B e size v n xs) : ∃ ad c, v = .slice ad n c := by
  obtain ⟨hl, ⟨h, hn⟩ | ⟨g, cap, cur, he, -⟩⟩ := h
  · exact ⟨none, 0, by rw [h]; simp_all⟩
  · exact ⟨_, _, he⟩

theorem append_known {P : Program} {w : World} {ops : Array Oper} {rest : List Oper} {o : Oper} {a : Act} {Q : Exit → Act → World → Prop} (hgd : o.guard = none) (s x : Operand) (t : TypeId)
    (ho : o.op = .call { callee := .builtin .append, args := #[s, x], argTypes := #[t, t] }) {v u v' : Value} {w' : World} (hs : a.eval s = v) (hx : a.eval x = u)
    (hrun : (Builtin.append_ #[t, t] o.type #[v, u]).run P w = .ok v' w') (h : wpList P ops Q rest (a.put o.dst v') w') : wpList P ops Q (o :: rest) a w := by
  refine wpList_plain hgd fun K hK => ?_
  unfold Oper.wp
  simp [execOp, ho, resolve, invoke, builtin, hs, hx, hrun, Result.andThen]
  exact hK _ _ h

/-- A fault's block, and a row of tasks of one's own behind it. -/
structure TO (w wr : World) (g : Nat) (acc : List Ta) (av : Value) : Prop where
  fb : FB w wr g
  row : wr.ownsRow (g + 1) 55 7 av acc.length (acc.flatMap Ta.vals)

theorem TO.grow {w wr wr' : World} {g : Nat} {acc : List Ta} {av : Value} (h : TO w wr g acc av) (hb : Below wr.heap.size wr wr') : TO w wr' g acc av := ⟨h.fb.grow hb, ownsRow_below h.row hb⟩

theorem TO.start {w wr : World} {g : Nat} (h : FB w wr g) : TO w wr g [] (.slice none 0 0) := ⟨h, ⟨rfl, .inl ⟨rfl, rfl⟩⟩⟩

theorem TO.push {w wr : World} {g : Nat} {acc : List Ta} {av : Value} (h : TO w wr g acc av) (x : Ta) (hl : acc.length ≤ 100000) :
    ∃ ad c w4, (Builtin.append_ #[48, 48] 48 #[av, .slice (some ⟨wr.heap.size, 0, none⟩) 1 1]).run Tryd.prog (wr.alloc (.cells #[.string x.nm, .int .i64 x.c, .int .i64 x.t, .int .i64 x.d, .int .i64 x.j, .int .i64 x.o, .int .i64 x.p] 55)) = .ok (.slice ad (acc.length + 1) c) w4 ∧ TO w w4 g (acc ++ [x]) (.slice ad (acc.length + 1) c) := by
  obtain ⟨i0, hi0, hz0, hz1, hz2⟩ := info_parts infoTa
  have h1 := h.grow (below_new wr (.cells #[.string x.nm, .int .i64 x.c, .int .i64 x.t, .int .i64 x.d, .int .i64 x.j, .int .i64 x.o, .int .i64 x.p] 55))
  have hlt := h.fb.lt
  have hlow := h.fb.low
  obtain ⟨v4, w4, hrun, ho4, hg4, -, hv4⟩ := run_append_own_at (P := Tryd.prog) (w := wr.alloc (.cells #[.string x.nm, .int .i64 x.c, .int .i64 x.t, .int .i64 x.d, .int .i64 x.j, .int .i64 x.o, .int .i64 x.p] 55)) (g + 1) 48 48 55 i0 _ 7 64 Tryd.underlying48 hi0 hz0 hz1 hz2 rfl (by decide) av acc.length (acc.flatMap Ta.vals) h1.row ⟨wr.heap.size, 0, none⟩ 1 1 (Ta.vals x) rfl (fun j u hj => by rw [Addr.add_lit]; have := (cells_of (l := Ta.vals x) (heap_alloc_new wr (.cells #[.string x.nm, .int .i64 x.c, .int .i64 x.t, .int .i64 x.d, .int .i64 x.j, .int .i64 x.o, .int .i64 x.p] 55))).1 j u hj; simpa using this) (fun u hu => Ta.one hu) (by unfold maxLen; omega) (by omega) (by simp; omega)
  obtain ⟨ad, c, rfl⟩ := owns_value ho4
  have hne : ∀ k, k < g + 1 → some k ≠ av.ownBlock := fun k hk e => by have := (h.row.lt k e.symm).1; omega
  have hold : ∀ k, k < wr.heap.size → some k ≠ av.ownBlock → w4.heap[k]? = wr.heap[k]? := fun k hk hn => (hg4.block k (by simp; omega) hn).trans (Below.heap_alloc _ _ _ hk)
  have hbel : Below (g + 1) wr w4 := ((below_new wr _).mono (by omega)).grown hg4 (by simp; omega) (fun k hk => (h.row.lt k hk).1)
  refine ⟨ad, c, w4, hrun, ⟨⟨h.fb.bel.trans (hbel.mono (by omega)), (hold _ hlt (hne _ (by omega))).trans h.fb.res, h.fb.low⟩, ?_⟩⟩
  rw [List.length_append, show (acc ++ [x]).flatMap Ta.vals = acc.flatMap Ta.vals ++ Ta.vals x by simp]
  exact ho4

theorem TO.push2 {w wr : World} {g : Nat} {acc : List Ta} {av : Value} (h : TO w wr g acc av) (x : Ta) (hl : acc.length ≤ 100000) :
    ∃ ad c w4, (Builtin.append_ #[48, 48] 48 #[av, .slice (some ⟨wr.heap.size, 0, none⟩) 1 1]).run Tryd.prog (wr.alloc (.cells #[.string x.nm, .int .i64 x.c, .int .i64 x.t, .int .i64 x.d, .int .i64 x.j, .int .i64 x.o, .int .i64 x.p] 55)) = .ok (.slice ad (acc.length + 1) c) w4 ∧ TO w w4 g (acc ++ [x]) (.slice ad (acc.length + 1) c) ∧ ∀ (k : Nat) (cs : Array Value) (ty : TypeId), wr.heap[k]? = some (.cells cs ty (0, 0)) → ty ≠ 55 → w4.heap[k]? = some (.cells cs ty (0, 0)) := by
  obtain ⟨i0, hi0, hz0, hz1, hz2⟩ := info_parts infoTa
  have h1 := h.grow (below_new wr (.cells #[.string x.nm, .int .i64 x.c, .int .i64 x.t, .int .i64 x.d, .int .i64 x.j, .int .i64 x.o, .int .i64 x.p] 55))
  have hlt := h.fb.lt
  have hlow := h.fb.low
  obtain ⟨v4, w4, hrun, ho4, hg4, -, hv4⟩ := run_append_own_at (P := Tryd.prog) (w := wr.alloc (.cells #[.string x.nm, .int .i64 x.c, .int .i64 x.t, .int .i64 x.d, .int .i64 x.j, .int .i64 x.o, .int .i64 x.p] 55)) (g + 1) 48 48 55 i0 _ 7 64 Tryd.underlying48 hi0 hz0 hz1 hz2 rfl (by decide) av acc.length (acc.flatMap Ta.vals) h1.row ⟨wr.heap.size, 0, none⟩ 1 1 (Ta.vals x) rfl (fun j u hj => by rw [Addr.add_lit]; have := (cells_of (l := Ta.vals x) (heap_alloc_new wr (.cells #[.string x.nm, .int .i64 x.c, .int .i64 x.t, .int .i64 x.d, .int .i64 x.j, .int .i64 x.o, .int .i64 x.p] 55))).1 j u hj; simpa using this) (fun u hu => Ta.one hu) (by unfold maxLen; omega) (by omega) (by simp; omega)
  obtain ⟨ad, c, rfl⟩ := owns_value ho4
  have hne : ∀ k, k < g + 1 → some k ≠ av.ownBlock := fun k hk e => by have := (h.row.lt k e.symm).1; omega
  have hold : ∀ k, k < wr.heap.size → some k ≠ av.ownBlock → w4.heap[k]? = wr.heap[k]? := fun k hk hn => (hg4.block k (by simp; omega) hn).trans (Below.heap_alloc _ _ _ hk)
  have hbel : Below (g + 1) wr w4 := ((below_new wr _).mono (by omega)).grown hg4 (by simp; omega) (fun k hk => (h.row.lt k hk).1)
  have hkeep : ∀ (k : Nat) (cs : Array Value) (ty : TypeId), wr.heap[k]? = some (.cells cs ty (0, 0)) → ty ≠ 55 → w4.heap[k]? = some (.cells cs ty (0, 0)) := fun k cs ty hk ht => by
    refine (hold k (Array.getElem?_eq_some_iff.1 hk).1 (fun e => ?_)).trans hk
    obtain ⟨-, ⟨hv, -⟩ | ⟨g', cap, cur, hv, -, hg', -⟩⟩ := h.row
    · rw [hv] at e; cases e
    · rw [hv] at e
      have hgk : k = g' := by simpa [Value.ownBlock] using e
      rw [← hgk, hk] at hg'
      cases hg'
      exact ht rfl
  refine ⟨ad, c, w4, hrun, ⟨⟨h.fb.bel.trans (hbel.mono (by omega)), (hold _ hlt (hne _ (by omega))).trans h.fb.res, h.fb.low⟩, ?_⟩, hkeep⟩
  rw [List.length_append, show (acc ++ [x]).flatMap Ta.vals = acc.flatMap Ta.vals ++ Ta.vals x by simp]
  exact ho4

theorem TO.rowSl {w wr : World} {g : Nat} {acc : List Ta} {av : Value} (h : TO w wr g acc av) : RowSl Ta.vals wr acc av := by
  have h' := h.row
  obtain ⟨hl, ⟨h1, h2⟩ | ⟨g, cap, cur, he, hb, hg, hr⟩⟩ := h.row
  · subst h1
    have : acc = [] := by
      cases acc with
      | nil => rfl
      | cons x r => simp_all
    subst this
    exact RowSl.nil _ _
  · subst he
    refine ⟨_, cap, rfl, (fun e => by cases e), by omega, .inr ⟨g, 0, rfl, fun q u hq => ?_⟩⟩
    have hql := (List.getElem?_eq_some_iff.1 hq).1
    rw [flat_length Ta.vals 7 Ta.len] at hql
    rw [Nat.zero_add]
    exact (h'.cellAt q (by omega)).trans hq

theorem TO.val {w wr : World} {g : Nat} {acc : List Ta} {av : Value} (h : TO w wr g acc av) : ∃ ad c, av = .slice ad acc.length c := owns_value h.row

theorem ownsRow_two {w : World} {g B n size : Nat} {e : TypeId} {v : Value} {xs : List Value} (h : w.ownsRow B e size v n xs) (hg : g < B) (a b : Value) : ((w.setCell ⟨g, 0, none⟩ a).setCell ⟨g, 1, none⟩ b).ownsRow B e size v n xs :=
  ownsRow_same h (fun k hk _ => by rw [Below.heap_setCell _ _ _ _ (by show k ≠ g; omega), Below.heap_setCell _ _ _ _ (by show k ≠ g; omega)])
end Go.Proofs.YtccoobcggbbciadDoor
