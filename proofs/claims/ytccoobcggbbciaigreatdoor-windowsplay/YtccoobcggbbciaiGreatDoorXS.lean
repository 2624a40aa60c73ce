import Derived.Test.YtccoobcggbbciaiGreatDoorXA
import Derived.Test.YtccoobcggbbciaiGreatDoorJL
import Derived.Maps.AppendAt
namespace Go.Proofs.YtccoobcggbbciaiGreatDoor
open Go.ChangeShapes Go.WideShapes Go.ChangeAt Go.RowKit

theorem owns_value {w : World} {B n size : Nat} {e : TypeId} {v : Value} {xs : List Value} (h : w.ownsRow B e size v n xs) : ∃ ad c, v = .slice ad n c := by
  obtain ⟨hl, ⟨h, hn⟩ | ⟨g, cap, cur, he, -⟩⟩ := h
  · exact ⟨none, 0, by rw [h]; simp_all⟩
  · exact ⟨_, _, he⟩

theorem append_known {P : Program} {w : World} {ops : Array Oper} {rest : List Oper} {o : Oper} {a : Act} {Q : Exit → Act → World → Prop} (hgd : o.guard = none) (s x : Operand) (t : TypeId)
    (ho : o.op = .call { callee := .builtin .append, args := #[s, x], argTypes := #[t, t] }) {v u v' : Value} {w' : World} (hs : a.eval s = v) (hx : a.eval x = u)
    (hrun : (Builtin.append_ #[t, t] o.type #[v, u]).run P w = .ok v' w') (h : wpList P ops Q rest (a.put o.dst v') w') : wpList P ops Q (o :: rest) a w := by
  refine wpList_plain hgd fun K hK => ?_
  unfold Oper.wp
  simp [execOp, ho, resolve, invoke, builtin, hs, hx, hrun, Result.andThen]
  exact hK _ _ h

/-- A fault's block, and a row of numbers of one's own behind it. -/
structure NO (w wr : World) (g : Nat) (acc : List Int) (av : Value) : Prop where
  fb : FB w wr g
  row : wr.ownsRow (g + 1) 3 1 av acc.length (acc.flatMap nuV)

theorem NO.grow {w wr wr' : World} {g : Nat} {acc : List Int} {av : Value} (h : NO w wr g acc av) (hb : Below wr.heap.size wr wr') : NO w wr' g acc av := ⟨h.fb.grow hb, ownsRow_below h.row hb⟩

theorem NO.start {w wr : World} {g : Nat} (h : FB w wr g) : NO w wr g [] (.slice none 0 0) := ⟨h, ⟨rfl, .inl ⟨rfl, rfl⟩⟩⟩

theorem NO.push {w wr : World} {g : Nat} {acc : List Int} {av : Value} (h : NO w wr g acc av) (x : Int) (hl : acc.length ≤ 100000) :
    ∃ ad c w4, (Builtin.append_ #[24, 24] 24 #[av, .slice (some ⟨wr.heap.size, 0, none⟩) 1 1]).run Tryz.prog (wr.alloc (.cells #[.int .i64 x] 3)) = .ok (.slice ad (acc.length + 1) c) w4 ∧ NO w w4 g (acc ++ [x]) (.slice ad (acc.length + 1) c) := by
  obtain ⟨i0, hi0, hz0, hz1, hz2⟩ := info_parts info3
  have h1 := h.grow (below_new wr (.cells #[.int .i64 x] 3))
  have hlt := h.fb.lt
  have hlow := h.fb.low
  obtain ⟨v4, w4, hrun, ho4, hg4, -, hv4⟩ := run_append_own_at (P := Tryz.prog) (w := wr.alloc (.cells #[.int .i64 x] 3)) (g + 1) 24 24 3 i0 _ 1 8 Tryz.underlying24 hi0 hz0 hz1 hz2 rfl (by decide) av acc.length (acc.flatMap nuV) h1.row ⟨wr.heap.size, 0, none⟩ 1 1 (nuV x) rfl (fun j u hj => by rw [Addr.add_lit]; have := (cells_of (l := nuV x) (heap_alloc_new wr (.cells #[.int .i64 x] 3))).1 j u hj; simpa using this) (fun u hu => by simp [nuV] at hu; subst hu; rfl) (by unfold maxLen; omega) (by omega) (by simp; omega)
  obtain ⟨ad, c, rfl⟩ := owns_value ho4
  have hne : ∀ k, k < g + 1 → some k ≠ av.ownBlock := fun k hk e => by have := (h.row.lt k e.symm).1; omega
  have hold : ∀ k, k < wr.heap.size → some k ≠ av.ownBlock → w4.heap[k]? = wr.heap[k]? := fun k hk hn => (hg4.block k (by simp; omega) hn).trans (Below.heap_alloc _ _ _ hk)
  have hbel : Below (g + 1) wr w4 := ((below_new wr _).mono (by omega)).grown hg4 (by simp; omega) (fun k hk => (h.row.lt k hk).1)
  refine ⟨ad, c, w4, hrun, ⟨⟨h.fb.bel.trans (hbel.mono (by omega)), (hold _ hlt (hne _ (by omega))).trans h.fb.res, h.fb.low⟩, ?_⟩⟩
  rw [List.length_append, show (acc ++ [x]).flatMap nuV = acc.flatMap nuV ++ nuV x by simp]
  exact ho4

theorem NO.rowSl {w wr : World} {g : Nat} {acc : List Int} {av : Value} (h : NO w wr g acc av) : RowSl nuV wr acc av := by
  have h' := h.row
  obtain ⟨hl, ⟨h1, h2⟩ | ⟨g, cap, cur, he, hb, hg, hr⟩⟩ := h.row
  · subst h1
    have : acc = [] := by
      cases acc with
      | nil => rfl
      | cons x r => simp_all
    subst this
    exact RowSl.nil _ _
  · subst he
    refine ⟨_, cap, rfl, (fun e => by cases e), by omega, .inr ⟨g, 0, rfl, fun q u hq => ?_⟩⟩
    have hql := (List.getElem?_eq_some_iff.1 hq).1
    rw [flat_length nuV 1 nuV_len] at hql
    rw [Nat.zero_add]
    exact (h'.cellAt q (by omega)).trans hq

theorem NO.val {w wr : World} {g : Nat} {acc : List Int} {av : Value} (h : NO w wr g acc av) : ∃ ad c, av = .slice ad acc.length c := owns_value h.row

/-- A fault's block, and a row of tasks of one's own behind it. -/
structure TO (w wr : World) (g : Nat) (acc : List Ta) (av : Value) : Prop where
  fb : FB w wr g
  row : wr.ownsRow (g + 1) 56 7 av acc.length (acc.flatMap Ta.vals)

theorem TO.grow {w wr wr' : World} {g : Nat} {acc : List Ta} {av : Value} (h : TO w wr g acc av) (hb : Below wr.heap.size wr wr') : TO w wr' g acc av := ⟨h.fb.grow hb, ownsRow_below h.row hb⟩

theorem TO.start {w wr : World} {g : Nat} (h : FB w wr g) : TO w wr g [] (.slice none 0 0) := ⟨h, ⟨rfl, .inl ⟨rfl, rfl⟩⟩⟩

theorem TO.push {w wr : World} {g : Nat} {acc : List Ta} {av : Value} (h : TO w wr g acc av) (x : Ta) (hl : acc.length ≤ 100000) :
    ∃ ad c w4, (Builtin.append_ #[52, 52] 52 #[av, .slice (some ⟨wr.heap.size, 0, none⟩) 1 1]).run Tryz.prog (wr.alloc (.cells #[.string x.nm, .int .i64 x.c, .int .i64 x.t, .int .i64 x.d, .int .i64 x.j, .int .i64 x.o, .int .i64 x.p] 56)) = .ok (.slice ad (acc.length + 1) c) w4 ∧ TO w w4 g (acc ++ [x]) (.slice ad (acc.length + 1) c) := by
  obtain ⟨i0, hi0, hz0, hz1, hz2⟩ := info_parts infoTa
  have h1 := h.grow (below_new wr (.cells #[.string x.nm, .int .i64 x.c, .int .i64 x.t, .int .i64 x.d, .int .i64 x.j, .int .i64 x.o, .int .i64 x.p] 56))
  have hlt := h.fb.lt
  have hlow := h.fb.low
  obtain ⟨v4, w4, hrun, ho4, hg4, -, hv4⟩ := run_append_own_at (P := Tryz.prog) (w := wr.alloc (.cells #[.string x.nm, .int .i64 x.c, .int .i64 x.t, .int .i64 x.d, .int .i64 x.j, .int .i64 x.o, .int .i64 x.p] 56)) (g + 1) 52 52 56 i0 _ 7 64 Tryz.underlying52 hi0 hz0 hz1 hz2 rfl (by decide) av acc.length (acc.flatMap Ta.vals) h1.row ⟨wr.heap.size, 0, none⟩ 1 1 (Ta.vals x) rfl (fun j u hj => by rw [Addr.add_lit]; have := (cells_of (l := Ta.vals x) (heap_alloc_new wr (.cells #[.string x.nm, .int .i64 x.c, .int .i64 x.t, .int .i64 x.d, .int .i64 x.j, .int .i64 x.o, .int .i64 x.p] 56))).1 j u hj; simpa using this) (fun u hu => Ta.one hu) (by unfold maxLen; omega) (by omega) (by simp; omega)
  obtain ⟨ad, c, rfl⟩ := owns_value ho4
  have hne : ∀ k, k < g + 1 → some k ≠ av.ownBlock := fun k hk e => by have := (h.row.lt k e.symm).1; omega
  have hold : ∀ k, k < wr.heap.size → some k ≠ av.ownBlock → w4.heap[k]? = wr.heap[k]? := fun k hk hn => (hg4.block k (by simp; omega) hn).trans (Below.heap_alloc _ _ _ hk)
  have hbel : Below (g + 1) wr w4 := ((below_new wr _).mono (by omega)).grown hg4 (by simp; omega) (fun k hk => (h.row.lt k hk).1)
  refine ⟨ad, c, w4, hrun, ⟨⟨h.fb.bel.trans (hbel.mono (by omega)), (hold _ hlt (hne _ (by omega))).trans h.fb.res, h.fb.low⟩, ?_⟩⟩
  rw [List.length_append, show (acc ++ [x]).flatMap Ta.vals = acc.flatMap Ta.vals ++ Ta.vals x by simp]
  exact ho4

theorem TO.rowSl {w wr : World} {g : Nat} {acc : List Ta} {av : Value} (h : TO w wr g acc av) : RowSl Ta.vals wr acc av := by
  have h' := h.row
  obtain ⟨hl, ⟨h1, h2⟩ | ⟨g, cap, cur, he, hb, hg, hr⟩⟩ := h.row
  · subst h1
    have : acc = [] := by
      cases acc with
      | nil => rfl
      | cons x r => simp_all
    subst this
    exact RowSl.nil _ _
  · subst he
    refine ⟨_, cap, rfl, (fun e => by cases e), by omega, .inr ⟨g, 0, rfl, fun q u hq => ?_⟩⟩
    have hql := (List.getElem?_eq_some_iff.1 hq).1
    rw [flat_length Ta.vals 7 Ta.len] at hql
    rw [Nat.zero_add]
    exact (h'.cellAt q (by omega)).trans hq

theorem TO.val {w wr : World} {g : Nat} {acc : List Ta} {av : Value} (h : TO w wr g acc av) : ∃ ad c, av = .slice ad acc.length c := owns_value h.row

theorem ownsRow_two {w : World} {g B n size : Nat} {e : TypeId} {v : Value} {xs : List Value} (h : w.ownsRow B e size v n xs) (hg : g < B) (a b : Value) : ((w.setCell ⟨g, 0, none⟩ a).setCell ⟨g, 1, none⟩ b).ownsRow B e size v n xs :=
  ownsRow_same h (fun k hk _ => by rw [Below.heap_setCell _ _ _ _ (by show k ≠ g; omega), Below.heap_setCell _ _ _ _ (by show k ≠ g; omega)])

theorem NO.set {w wr : World} {g : Nat} {acc : List Int} {av : Value} (h : NO w wr g acc av) (a b : Value) : RowSl nuV ((wr.setCell ⟨g, 0, none⟩ a).setCell ⟨g, 1, none⟩ b) acc av := by
  have h' := ownsRow_two h.row (Nat.lt_succ_self g) a b
  obtain ⟨hl, ⟨h1, h2⟩ | ⟨g, cap, cur, he, hb, hg, hr⟩⟩ := h.row
  · subst h1
    have : acc = [] := by
      cases acc with
      | nil => rfl
      | cons x r => simp_all
    subst this
    exact RowSl.nil _ _
  · subst he
    refine ⟨_, cap, rfl, (fun e => by cases e), by omega, .inr ⟨g, 0, rfl, fun q u hq => ?_⟩⟩
    have hql := (List.getElem?_eq_some_iff.1 hq).1
    rw [flat_length nuV 1 nuV_len] at hql
    rw [Nat.zero_add]
    exact (h'.cellAt q (by omega)).trans hq
end Go.Proofs.YtccoobcggbbciaiGreatDoor
namespace Go.Proofs.YtccoobcggbbciaiGreatDoor
open Go.ChangeShapes Go.WideShapes Go.ChangeAt Go.RowKit

theorem row_new {α : Type} {f : α → List Value} (w : World) (l : List α) (n : Nat) (cs : Array Value) (t : TypeId) (hn : n = l.length) (hc : cs = (l.flatMap f).toArray) : RowSl f (w.alloc (.cells cs t)) l (.slice (some ⟨w.heap.size, 0, none⟩) n n) := by
  subst hn hc
  refine ⟨_, _, rfl, (fun e => by cases e), Nat.le_refl _, .inr ⟨w.heap.size, 0, rfl, fun q u hq => ?_⟩⟩
  rw [Nat.zero_add]
  exact (cells_of (heap_alloc_new _ _)).1 q u hq

set_option maxRecDepth 20000 in
set_option maxHeartbeats 4000000 in
theorem SameN_any (w : World) (l : List Int) (v v' : Value) (hl : l.length ≤ 4194304) (h : RowSl nuV w l v) (h' : RowSl nuV w l v') :
    Calls Tryz.prog 13 #[v, v'] w fun r w' => r = .returned (.bool true) ∧ Below w.heap.size w w' := by
  obtain ⟨ad, c, rfl, -, -, hc⟩ := h
  obtain ⟨ad', c', rfl, -, -, hc'⟩ := h'
  have HR : Hid (_ ∧ _) := ⟨hc, hc'⟩
  clear hc hc'
  go_enter Tryz.func13, Tryz.ntmps13
  go_wp2_with fail
  go_loopw [13] (fun x wr => ∃ j : Nat, j ≤ l.length ∧ x = .int .i64 j ∧ Below w.heap.size w wr) (fun x _ => l.length - (intOf x).toNat)
  case atStart => exact ⟨0, Nat.zero_le _, rfl, Below.refl _ _⟩
  case round =>
    obtain ⟨j, hj, rfl, hb⟩ := hrel
    have HB : Hid (Below w.heap.size w wr) := hb
    by_cases hlt : j < l.length
    · obtain ⟨x, hx, -⟩ := drop_at hlt
      rcases HR.out.1 with h | ⟨b1, o1, rfl, hrow1⟩
      · rw [h] at hlt; simp at hlt
      rcases HR.out.2 with h | ⟨b2, o2, rfl, hrow2⟩
      · rw [h] at hlt; simp at hlt
      have c0 := nu_at (fun q u hq => below_cell hb (hrow1 q u hq)) hx
      have d0 := nu_at (fun q u hq => below_cell hb (hrow2 q u hq)) hx
      clear hrow1 hrow2 hb hx
      go_wp2_with fail
      go_quiet (fail)
      go_wp2_with fail
      go_roundw
      case rel => exact ⟨j + 1, by omega, by go_num, below_seq HB.out (below_drewN' (n := nq))⟩
      case measure => simp [intOf]; omega
    · have hje : j = l.length := by omega
      subst hje
      go_wp2_with fail
      go_ret
      exact ⟨rfl, hb⟩

end Go.Proofs.YtccoobcggbbciaiGreatDoor
