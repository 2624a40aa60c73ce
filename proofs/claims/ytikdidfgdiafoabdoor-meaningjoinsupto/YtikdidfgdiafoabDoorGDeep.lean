import Derived.Test.YtikdidfgdiafoabDoorRows
import Derived.WalkKit
import Derived.ProofKit
import Derived.OpenShut
import Derived.Handy
import Derived.Deep.QuietTactic
import Derived.BigQuiet
import Derived.Deep.RegionHeld3
import Derived.ChangeArms
namespace Go.Proofs.YtikdidfgdiafoabDoor
open Go.ChangeShapes Go.WideShapes Go.ChangeAt Go.RowKit

/-- Expressions and statements as plain trees. -/
inductive Ex where
  | mk (k n : Int) (a : List Ex)
inductive St where
  | mk (k n : Int) (e : Ex) (ck : Int) (ca cb : Ex) (b l : List St)

mutual
def Ex.nodes : Ex → Nat
  | .mk _ _ a => 1 + Ex.nodesAll a
def Ex.nodesAll : List Ex → Nat
  | [] => 0
  | x :: r => x.nodes + Ex.nodesAll r
end

mutual
def St.bulk : St → Nat
  | .mk _ _ e _ ca cb b l => 1 + e.nodes + ca.nodes + cb.nodes + St.bulkAll b + St.bulkAll l
def St.bulkAll : List St → Nat
  | [] => 0
  | x :: r => x.bulk + St.bulkAll r
end

/- An expression's value in a world; a row of expressions from an offset on. -/
mutual
def Ex.In (w : World) : Ex → Value → Prop
  | .mk k n a, v => ∃ ad c, v = .agg #[.int .i64 k, .int .i64 n, .slice ad a.length c] ∧ (a = [] ∨ ∃ b o, ad = some ⟨b, o, none⟩ ∧ Ex.Row w a b o)
def Ex.Row (w : World) : List Ex → Nat → Nat → Prop
  | [], _, _ => True
  | e :: r, b, o => (∃ x0 x1 x2, w.cell? ⟨b, o, none⟩ = some x0 ∧ w.cell? ⟨b, o + 1, none⟩ = some x1 ∧ w.cell? ⟨b, o + 2, none⟩ = some x2 ∧ Ex.In w e (.agg #[x0, x1, x2])) ∧ Ex.Row w r b (o + 3)
end

/-- The fourteen cells of a statement, as one value. -/
def stVal (x : Nat → Value) : Value := .agg #[x 0, x 1, x 2, x 3, x 4, x 5, x 6, x 7, x 8, x 9, x 10, x 11, x 12, x 13]

mutual
def St.In (w : World) : St → Value → Prop
  | .mk k n e ck ca cb b l, v => ∃ e0 e1 e2 a0 a1 a2 b0 b1 b2 sb sl, v = .agg #[.int .i64 k, .int .i64 n, e0, e1, e2, .int .i64 ck, a0, a1, a2, b0, b1, b2, sb, sl] ∧
      e.In w (.agg #[e0, e1, e2]) ∧ ca.In w (.agg #[a0, a1, a2]) ∧ cb.In w (.agg #[b0, b1, b2]) ∧
      (∃ ad c, sb = .slice ad b.length c ∧ (b = [] ∨ ∃ g o, ad = some ⟨g, o, none⟩ ∧ St.Row w b g o)) ∧
      (∃ ad c, sl = .slice ad l.length c ∧ (l = [] ∨ ∃ g o, ad = some ⟨g, o, none⟩ ∧ St.Row w l g o))
def St.Row (w : World) : List St → Nat → Nat → Prop
  | [], _, _ => True
  | s :: r, g, o => (∃ x : Nat → Value, (∀ j, j < 14 → w.cell? ⟨g, o + j, none⟩ = some (x j)) ∧ St.In w s (stVal x)) ∧ St.Row w r g (o + 14)
end

/-- A slice of statements. -/
def St.Sl (w : World) (b : List St) (v : Value) : Prop := ∃ ad c, v = .slice ad b.length c ∧ (b = [] ∨ ∃ g o, ad = some ⟨g, o, none⟩ ∧ St.Row w b g o)

theorem below_cell {w w' : World} (hb : Below w.heap.size w w') {p : Addr} {v : Value} (h : w.cell? p = some v) : w'.cell? p = some v :=
  (hb.cell (World.block_lt_of_cell? _ _ h)).trans h

mutual
theorem Ex.In.below {w w' : World} (hb : Below w.heap.size w w') : ∀ (e : Ex) {v : Value}, e.In w v → e.In w' v
  | .mk k n a, v, h => by
    unfold Ex.In at h ⊢
    obtain ⟨ad, c, hv, h⟩ := h
    refine ⟨ad, c, hv, ?_⟩
    rcases h with h | ⟨b, o, h1, h2⟩
    · exact .inl h
    · exact .inr ⟨b, o, h1, Ex.Row.below hb a h2⟩
theorem Ex.Row.below {w w' : World} (hb : Below w.heap.size w w') : ∀ (a : List Ex) {b o : Nat}, Ex.Row w a b o → Ex.Row w' a b o
  | [], _, _, _ => by unfold Ex.Row; trivial
  | e :: r, b, o, h => by
    unfold Ex.Row at h ⊢
    obtain ⟨⟨x0, x1, x2, h0, h1, h2, h3⟩, h4⟩ := h
    exact ⟨⟨x0, x1, x2, below_cell hb h0, below_cell hb h1, below_cell hb h2, Ex.In.below hb e h3⟩, Ex.Row.below hb r h4⟩
end

mutual
theorem St.In.below {w w' : World} (hb : Below w.heap.size w w') : ∀ (s : St) {v : Value}, s.In w v → s.In w' v
  | .mk k n e ck ca cb b l, v, h => by
    unfold St.In at h ⊢
    obtain ⟨e0, e1, e2, a0, a1, a2, b0, b1, b2, sb, sl, hv, h1, h2, h3, ⟨ad, c, h4, h5⟩, ⟨ad', c', h6, h7⟩⟩ := h
    refine ⟨e0, e1, e2, a0, a1, a2, b0, b1, b2, sb, sl, hv, h1.below hb, h2.below hb, h3.below hb, ⟨ad, c, h4, ?_⟩, ⟨ad', c', h6, ?_⟩⟩
    · rcases h5 with h | ⟨g, o, h1, h2⟩
      · exact .inl h
      · exact .inr ⟨g, o, h1, St.Row.below hb b h2⟩
    · rcases h7 with h | ⟨g, o, h1, h2⟩
      · exact .inl h
      · exact .inr ⟨g, o, h1, St.Row.below hb l h2⟩
theorem St.Row.below {w w' : World} (hb : Below w.heap.size w w') : ∀ (a : List St) {b o : Nat}, St.Row w a b o → St.Row w' a b o
  | [], _, _, _ => by unfold St.Row; trivial
  | e :: r, b, o, h => by
    unfold St.Row at h ⊢
    obtain ⟨⟨x, h0, h3⟩, h4⟩ := h
    exact ⟨⟨x, fun j hj => below_cell hb (h0 j hj), St.In.below hb e h3⟩, St.Row.below hb r h4⟩
end

theorem St.Sl.below {w w' : World} (hb : Below w.heap.size w w') {b : List St} {v : Value} (h : St.Sl w b v) : St.Sl w' b v := by
  obtain ⟨ad, c, hv, h⟩ := h
  refine ⟨ad, c, hv, ?_⟩
  rcases h with h | ⟨g, o, h1, h2⟩
  · exact .inl h
  · exact .inr ⟨g, o, h1, h2.below hb⟩

/-- The j-th element of a row. -/
theorem Ex.Row.at {w : World} : ∀ (a : List Ex) {b o : Nat}, Ex.Row w a b o → ∀ (j : Nat) (x : Ex), a[j]? = some x →
    ∃ x0 x1 x2, w.cell? ⟨b, o + j * 3, none⟩ = some x0 ∧ w.cell? ⟨b, o + j * 3 + 1, none⟩ = some x1 ∧ w.cell? ⟨b, o + j * 3 + 2, none⟩ = some x2 ∧ Ex.In w x (.agg #[x0, x1, x2])
  | [], _, _, _, _, _, h => by simp at h
  | e :: r, b, o, h, 0, x, hx => by
    unfold Ex.Row at h
    simp at hx
    subst hx
    simpa using h.1
  | e :: r, b, o, h, j + 1, x, hx => by
    unfold Ex.Row at h
    have := Ex.Row.at r h.2 j x (by simpa using hx)
    have e0 : o + 3 + j * 3 = o + (j + 1) * 3 := by omega
    rwa [e0] at this

theorem St.Row.at {w : World} : ∀ (a : List St) {b o : Nat}, St.Row w a b o → ∀ (j : Nat) (s : St), a[j]? = some s →
    ∃ x : Nat → Value, (∀ i, i < 14 → w.cell? ⟨b, o + j * 14 + i, none⟩ = some (x i)) ∧ St.In w s (stVal x)
  | [], _, _, _, _, _, h => by simp at h
  | e :: r, b, o, h, 0, x, hx => by
    unfold St.Row at h
    simp at hx
    subst hx
    simpa using h.1
  | e :: r, b, o, h, j + 1, x, hx => by
    unfold St.Row at h
    have := St.Row.at r h.2 j x (by simpa using hx)
    have e0 : o + 14 + j * 14 = o + (j + 1) * 14 := by omega
    rwa [e0] at this

/-- .. with the cells' shapes. -/
theorem Ex.Row.shape {w : World} {a : List Ex} {b o : Nat} (h : Ex.Row w a b o) {j : Nat} (hj : j < a.length) :
    ∃ k n ad m c, w.cell? ⟨b, o + j * 3, none⟩ = some (.int .i64 k) ∧ w.cell? ⟨b, o + j * 3 + 1, none⟩ = some (.int .i64 n) ∧ w.cell? ⟨b, o + j * 3 + 2, none⟩ = some (.slice ad m c) ∧
      Ex.In w a[j] (.agg #[.int .i64 k, .int .i64 n, .slice ad m c]) := by
  obtain ⟨x0, x1, x2, c0, c1, c2, hin⟩ := Ex.Row.at a h j a[j] (by simp [hj])
  generalize a[j] = x at *
  obtain ⟨k, n, l⟩ := x
  have hin' := hin
  unfold Ex.In at hin'
  obtain ⟨ad, c, hv, -⟩ := hin'
  simp at hv
  obtain ⟨rfl, rfl, rfl⟩ := hv
  exact ⟨_, _, _, _, _, c0, c1, c2, hin⟩

theorem St.Row.shape {w : World} {a : List St} {b o : Nat} (h : St.Row w a b o) {j : Nat} (hj : j < a.length) :
    ∃ k n e ck ca cb y l, a[j] = St.mk k n e ck ca cb y l ∧
    ∃ ek en ead em ec, ∃ ak an aad am ac, ∃ bk bn bad bm bc, ∃ yad yc lad lc,
      w.cell? ⟨b, o + j * 14, none⟩ = some (.int .i64 k) ∧ w.cell? ⟨b, o + j * 14 + 1, none⟩ = some (.int .i64 n) ∧
      w.cell? ⟨b, o + j * 14 + 2, none⟩ = some (.int .i64 ek) ∧ w.cell? ⟨b, o + j * 14 + 3, none⟩ = some (.int .i64 en) ∧ w.cell? ⟨b, o + j * 14 + 4, none⟩ = some (.slice ead em ec) ∧
      w.cell? ⟨b, o + j * 14 + 5, none⟩ = some (.int .i64 ck) ∧
      w.cell? ⟨b, o + j * 14 + 6, none⟩ = some (.int .i64 ak) ∧ w.cell? ⟨b, o + j * 14 + 7, none⟩ = some (.int .i64 an) ∧ w.cell? ⟨b, o + j * 14 + 8, none⟩ = some (.slice aad am ac) ∧
      w.cell? ⟨b, o + j * 14 + 9, none⟩ = some (.int .i64 bk) ∧ w.cell? ⟨b, o + j * 14 + 10, none⟩ = some (.int .i64 bn) ∧ w.cell? ⟨b, o + j * 14 + 11, none⟩ = some (.slice bad bm bc) ∧
      w.cell? ⟨b, o + j * 14 + 12, none⟩ = some (.slice yad y.length yc) ∧ w.cell? ⟨b, o + j * 14 + 13, none⟩ = some (.slice lad l.length lc) ∧
      e.In w (.agg #[.int .i64 ek, .int .i64 en, .slice ead em ec]) ∧ ca.In w (.agg #[.int .i64 ak, .int .i64 an, .slice aad am ac]) ∧ cb.In w (.agg #[.int .i64 bk, .int .i64 bn, .slice bad bm bc]) ∧
      St.Sl w y (.slice yad y.length yc) ∧ St.Sl w l (.slice lad l.length lc) := by
  obtain ⟨x, hx, hin⟩ := St.Row.at a h j a[j] (by simp [hj])
  generalize a[j] = s at *
  obtain ⟨k, n, e, ck, ca, cb, y, l⟩ := s
  unfold St.In at hin
  obtain ⟨e0, e1, e2, a0, a1, a2, b0, b1, b2, sb, sl, hv, h1, h2, h3, h4, h5⟩ := hin
  unfold stVal at hv
  simp only [Value.agg.injEq, Array.mk.injEq, List.cons.injEq, and_true] at hv
  obtain ⟨v0, v1, v2, v3, v4, v5, v6, v7, v8, v9, v10, v11, v12, v13⟩ := hv
  obtain ⟨ek, en, ea⟩ := e
  obtain ⟨ak, an, aa⟩ := ca
  obtain ⟨bk, bn, ba⟩ := cb
  have h1' := h1
  have h2' := h2
  have h3' := h3
  unfold Ex.In at h1' h2' h3'
  obtain ⟨ead, ec, hv1, -⟩ := h1'
  obtain ⟨aad, ac, hv2, -⟩ := h2'
  obtain ⟨bad, bc, hv3, -⟩ := h3'
  simp only [Value.agg.injEq, Array.mk.injEq, List.cons.injEq, and_true] at hv1 hv2 hv3
  obtain ⟨rfl, rfl, rfl⟩ := hv1
  obtain ⟨rfl, rfl, rfl⟩ := hv2
  obtain ⟨rfl, rfl, rfl⟩ := hv3
  obtain ⟨yad, yc, rfl, hy⟩ := h4
  obtain ⟨lad, lc, rfl, hl⟩ := h5
  refine ⟨k, n, _, ck, _, _, y, l, rfl, _, _, _, _, _, _, _, _, _, _, _, _, _, _, _, yad, yc, lad, lc, ?_, ?_, ?_, ?_, ?_, ?_, ?_, ?_, ?_, ?_, ?_, ?_, ?_, ?_, h1, h2, h3, ⟨_, _, rfl, hy⟩, ⟨_, _, rfl, hl⟩⟩
  · rw [← v0]; exact hx 0 (by omega)
  · rw [← v1]; exact hx 1 (by omega)
  · rw [← v2]; exact hx 2 (by omega)
  · rw [← v3]; exact hx 3 (by omega)
  · rw [← v4]; exact hx 4 (by omega)
  · rw [← v5]; exact hx 5 (by omega)
  · rw [← v6]; exact hx 6 (by omega)
  · rw [← v7]; exact hx 7 (by omega)
  · rw [← v8]; exact hx 8 (by omega)
  · rw [← v9]; exact hx 9 (by omega)
  · rw [← v10]; exact hx 10 (by omega)
  · rw [← v11]; exact hx 11 (by omega)
  · rw [← v12]; exact hx 12 (by omega)
  · rw [← v13]; exact hx 13 (by omega)

theorem ret_int {k : IntKind} {a b : Int} (h : a = b) : Ending.returned (.int k a) = .returned (.int k b) := by rw [h]
theorem ret_bool {a b : Bool} (h : a = b) : Ending.returned (.bool a) = .returned (.bool b) := by rw [h]

theorem drop_at {α : Type} {l : List α} {j : Nat} (h : j < l.length) : l.drop j = l[j] :: l.drop (j + 1) := List.drop_eq_getElem_cons h

theorem nodesAll_at : ∀ (a : List Ex) (j : Nat) (x : Ex), a[j]? = some x → x.nodes ≤ Ex.nodesAll a
  | [], _, _, h => by simp at h
  | e :: r, 0, x, h => by simp at h; subst h; unfold Ex.nodesAll; omega
  | e :: r, j + 1, x, h => by have := nodesAll_at r j x (by simpa using h); unfold Ex.nodesAll; omega

theorem bulkAll_at : ∀ (a : List St) (j : Nat) (x : St), a[j]? = some x → x.bulk ≤ St.bulkAll a
  | [], _, _, h => by simp at h
  | e :: r, 0, x, h => by simp at h; subst h; unfold St.bulkAll; omega
  | e :: r, j + 1, x, h => by have := bulkAll_at r j x (by simpa using h); unfold St.bulkAll; omega

theorem Ex.nodes_pos (e : Ex) : 1 ≤ e.nodes := by cases e; unfold Ex.nodes; omega

theorem length_le_nodesAll : ∀ a : List Ex, a.length ≤ Ex.nodesAll a
  | [] => by simp
  | e :: r => by have := length_le_nodesAll r; have := e.nodes_pos; unfold Ex.nodesAll; simp; omega

theorem St.bulk_pos (s : St) : 1 ≤ s.bulk := by cases s; unfold St.bulk; omega

theorem length_le_bulkAll : ∀ a : List St, a.length ≤ St.bulkAll a
  | [] => by simp
  | e :: r => by have := length_le_bulkAll r; have := e.bulk_pos; unfold St.bulkAll; simp; omega
end Go.Proofs.YtikdidfgdiafoabDoor
namespace Go.Proofs.YtikdidfgdiafoabDoor
open Go.ChangeShapes Go.WideShapes Go.ChangeAt Go.RowKit

theorem cells3 : Tryd.prog.cellsOf 3 = 1 := by kernel_rfl
theorem cells28 : Tryd.prog.cellsOf 55 = 1 := by kernel_rfl
theorem cells22 : Tryd.prog.cellsOf 22 = 1 := by kernel_rfl
theorem cells30 : Tryd.prog.cellsOf 57 = 3 := by kernel_rfl
theorem cells32 : Tryd.prog.cellsOf 59 = 7 := by kernel_rfl
theorem cells34 : Tryd.prog.cellsOf 61 = 14 := by kernel_rfl

section
variable {H : Type} {enc : TypeId × Value → H} {w : World} {sp : Nat → Bool} {held : Bool}

/-- A cell that is there lies at a plain address. -/
theorem plain_addr {w : World} {a : Addr} {v : Value} (h : w.cell? a = some v) : a = ⟨a.block, a.off, none⟩ := by
  obtain ⟨b, o, s⟩ := a
  cases s with
  | none => rfl
  | some x =>
    exfalso
    unfold World.cell? at h
    simp at h
    split at h <;> simp_all

theorem add_plain' (g o n : Nat) : (⟨g, o, none⟩ : Addr).add n = ⟨g, o + n, none⟩ := by
  unfold Addr.add
  by_cases h : n = 0
  · subst h; rfl
  · simp [h]

theorem cells_at {g o n : Nat} {cs : List Value} (h : w.cells? 0 ⟨g, o, none⟩ n = some cs) : cs.length = n ∧ ∀ i, i < n → w.cell? ⟨g, o + i, none⟩ = cs[i]? := by
  obtain ⟨-, h1, h2⟩ := World.cells?_some h
  refine ⟨h1, fun i hi => ?_⟩
  rw [← h2 i hi, add_plain']

/-- What is known of the expressions that lie deeper. -/
def ExIh (enc : TypeId × Value → H) (w : World) (sp : Nat → Bool) (held : Bool) (n : Nat) : Prop :=
  ∀ (cs : List Value) (x : DataW H × List MemPlace), DataW.trod enc Tryd.prog w 0 sp held n 57 cs = some x → ∃ (e : Ex) (v0 v1 v2 : Value), cs = [v0, v1, v2] ∧ e.In w (.agg #[v0, v1, v2]) ∧ e.nodes ≤ Rows.uptoBulk x.1

theorem ex_row {n : Nat} (ih : ExIh enc w sp held n) (g : Nat) : ∀ (elems : List (DataW H × List MemPlace)) (o : Nat),
    (∀ i, i < elems.length → (w.cells? 0 ⟨g, o + i * 3, none⟩ 3).bind (DataW.trod enc Tryd.prog w 0 sp held n 57) = elems[i]?) →
    ∃ es : List Ex, es.length = elems.length ∧ Ex.Row w es g o ∧ Ex.nodesAll es ≤ Rows.uptoBulkAll (elems.map (·.1))
  | [], o, _ => ⟨[], rfl, by unfold Ex.Row; trivial, by unfold Ex.nodesAll; omega⟩
  | y :: r, o, h => by
    have h0 := h 0 (by simp)
    simp only [Nat.zero_mul, Nat.add_zero, List.getElem?_cons_zero] at h0
    obtain ⟨cs, hc, ht⟩ := Option.bind_eq_some_iff.1 h0
    obtain ⟨e, v0, v1, v2, rfl, hin, hn⟩ := ih cs y ht
    obtain ⟨-, hcell⟩ := cells_at hc
    have k0 := hcell 0 (by omega)
    have k1 := hcell 1 (by omega)
    have k2 := hcell 2 (by omega)
    obtain ⟨es, hl, hrow, hb⟩ := ex_row ih g r (o + 3) (fun i hi => by
      have := h (i + 1) (by simp; omega)
      rw [show o + (i + 1) * 3 = o + 3 + i * 3 by omega] at this
      simpa using this)
    refine ⟨e :: es, by simp [hl], ?_, ?_⟩
    · unfold Ex.Row
      exact ⟨⟨v0, v1, v2, by simpa using k0, by simpa using k1, by simpa using k2, hin⟩, hrow⟩
    · unfold Ex.nodesAll
      simp only [List.map_cons, Rows.uptoBulkAll]
      omega

set_option maxRecDepth 20000 in
theorem ex_open : ∀ n : Nat, ExIh enc w sp held n := by
  intro n
  induction n using Nat.strongRecOn with
  | _ n IH =>
    intro cs x h
    obtain ⟨xs, n1, rfl, rfl, hl, hlen, hf⟩ := DataW.trod_struct Tryd.underlying57 h
    rw [cells30] at hl
    match cs, hl with
    | [c0, c1, c2], _ =>
      match xs, hlen with
      | [y0, y1, y2], _ =>
        have f0 : DataW.trod enc Tryd.prog w 0 sp held n1 3 ((([c0, c1, c2] : List Value).drop 0).take (Tryd.prog.cellsOf 3)) = some y0 := hf 0 _ rfl
        have f1 : DataW.trod enc Tryd.prog w 0 sp held n1 3 ((([c0, c1, c2] : List Value).drop 1).take (Tryd.prog.cellsOf 3)) = some y1 := hf 1 _ rfl
        have f2 : DataW.trod enc Tryd.prog w 0 sp held n1 55 ((([c0, c1, c2] : List Value).drop 2).take (Tryd.prog.cellsOf 55)) = some y2 := hf 2 _ rfl
        rw [cells3] at f0 f1
        rw [cells28] at f2
        obtain ⟨k, hk, ek, -⟩ := DataW.trod_int Tryd.underlying3 (show DataW.trod enc Tryd.prog w 0 sp held n1 3 [c0] = some y0 from f0)
        obtain ⟨m, hm, em, -⟩ := DataW.trod_int Tryd.underlying3 (show DataW.trod enc Tryd.prog w 0 sp held n1 3 [c1] = some y1 from f1)
        simp only [List.cons.injEq, and_true] at hk hm
        subst hk hm ek em
        rcases DataW.trod_slice Tryd.underlying55 (show DataW.trod enc Tryd.prog w 0 sp held n1 55 [c2] = some y2 from f2) with ⟨hs, rfl⟩ | ⟨a, len, cap, elems, rest, n2, rfl, hs, rfl, -, -, -, rfl, hel, -, -⟩
        · simp only [List.cons.injEq, and_true] at hs
          subst hs
          refine ⟨.mk k m [], _, _, _, rfl, ?_, ?_⟩
          · unfold Ex.In
            exact ⟨none, 0, rfl, .inl rfl⟩
          · simp [Ex.nodes, Ex.nodesAll, Rows.uptoBulk, Rows.uptoBulkAll]
        · simp only [List.cons.injEq, and_true] at hs
          subst hs
          simp only [cells30] at hel
          cases elems with
          | nil =>
            refine ⟨.mk k m [], _, _, _, rfl, ?_, ?_⟩
            · unfold Ex.In
              exact ⟨some a, cap, rfl, .inl rfl⟩
            · simp [Ex.nodes, Ex.nodesAll, Rows.uptoBulk]
          | cons z r =>
            have hz := hel 0 (by simp)
            obtain ⟨cs0, hc0, ht0⟩ := Option.bind_eq_some_iff.1 hz
            have hpl := (World.cells?_some hc0).2.2 0 (by omega)
            obtain ⟨e0, v0, v1, v2, rfl, -, -⟩ := IH n2 (by omega) cs0 z (by simpa using ht0)
            have hpa := plain_addr (w := w) (a := a) (v := v0) (by simpa [Addr.add] using hpl)
            obtain ⟨es, hel', hrow, hb⟩ := ex_row (IH n2 (by omega)) a.block (z :: r) a.off (fun i hi => by
              have := hel i hi
              rw [hpa, add_plain'] at this
              exact this)
            refine ⟨.mk k m es, _, _, _, rfl, ?_, ?_⟩
            · unfold Ex.In
              refine ⟨some a, cap, by rw [hel'], .inr ⟨a.block, a.off, by rw [← hpa], hrow⟩⟩
            · simp only [Ex.nodes, List.map_cons, List.map_nil, Rows.uptoBulk, Rows.uptoBulkAll] at hb ⊢
              omega

/-- What is known of the lists of statements that lie deeper. -/
def StIh (enc : TypeId × Value → H) (w : World) (sp : Nat → Bool) (held : Bool) (n : Nat) : Prop :=
  ∀ (cs : List Value) (x : DataW H × List MemPlace), DataW.trod enc Tryd.prog w 0 sp held n 22 cs = some x → ∃ (a : List St) (v : Value), cs = [v] ∧ St.Sl w a v ∧ St.bulkAll a ≤ Rows.uptoBulk x.1

set_option maxRecDepth 20000 in
theorem st_one {n : Nat} (ih : ∀ m, m < n → StIh enc w sp held m) (cs : List Value) (y : DataW H × List MemPlace) (h : DataW.trod enc Tryd.prog w 0 sp held n 61 cs = some y) :
    ∃ (s : St) (x : Nat → Value), cs = [x 0, x 1, x 2, x 3, x 4, x 5, x 6, x 7, x 8, x 9, x 10, x 11, x 12, x 13] ∧ s.In w (stVal x) ∧ s.bulk ≤ Rows.uptoBulk y.1 := by
  obtain ⟨xs, n1, rfl, rfl, hl, hlen, hf⟩ := DataW.trod_struct Tryd.underlying61 h
  rw [cells34] at hl
  match cs, hl with
  | [c0, c1, c2, c3, c4, c5, c6, c7, c8, c9, c10, c11, c12, c13], _ =>
    match xs, hlen with
    | [y0, y1, y2, y3, y4, y5], _ =>
      have f0 : DataW.trod enc Tryd.prog w 0 sp held n1 3 ((([c0, c1, c2, c3, c4, c5, c6, c7, c8, c9, c10, c11, c12, c13] : List Value).drop 0).take (Tryd.prog.cellsOf 3)) = some y0 := hf 0 _ rfl
      have f1 : DataW.trod enc Tryd.prog w 0 sp held n1 3 ((([c0, c1, c2, c3, c4, c5, c6, c7, c8, c9, c10, c11, c12, c13] : List Value).drop 1).take (Tryd.prog.cellsOf 3)) = some y1 := hf 1 _ rfl
      have f2 : DataW.trod enc Tryd.prog w 0 sp held n1 57 ((([c0, c1, c2, c3, c4, c5, c6, c7, c8, c9, c10, c11, c12, c13] : List Value).drop 2).take (Tryd.prog.cellsOf 57)) = some y2 := hf 2 _ rfl
      have f3 : DataW.trod enc Tryd.prog w 0 sp held n1 59 ((([c0, c1, c2, c3, c4, c5, c6, c7, c8, c9, c10, c11, c12, c13] : List Value).drop 5).take (Tryd.prog.cellsOf 59)) = some y3 := hf 3 _ rfl
      have f4 : DataW.trod enc Tryd.prog w 0 sp held n1 22 ((([c0, c1, c2, c3, c4, c5, c6, c7, c8, c9, c10, c11, c12, c13] : List Value).drop 12).take (Tryd.prog.cellsOf 22)) = some y4 := hf 4 _ rfl
      have f5 : DataW.trod enc Tryd.prog w 0 sp held n1 22 ((([c0, c1, c2, c3, c4, c5, c6, c7, c8, c9, c10, c11, c12, c13] : List Value).drop 13).take (Tryd.prog.cellsOf 22)) = some y5 := hf 5 _ rfl
      rw [cells3] at f0 f1
      rw [cells30] at f2
      rw [cells32] at f3
      rw [cells22] at f4 f5
      obtain ⟨k, hk, ek, -⟩ := DataW.trod_int Tryd.underlying3 (show DataW.trod enc Tryd.prog w 0 sp held n1 3 [c0] = some y0 from f0)
      obtain ⟨m, hm, em, -⟩ := DataW.trod_int Tryd.underlying3 (show DataW.trod enc Tryd.prog w 0 sp held n1 3 [c1] = some y1 from f1)
      simp only [List.cons.injEq, and_true] at hk hm
      subst hk hm ek em
      obtain ⟨e, e0, e1, e2, he, hein, hen⟩ := ex_open n1 _ _ (show DataW.trod enc Tryd.prog w 0 sp held n1 57 [c2, c3, c4] = some y2 from f2)
      simp only [List.cons.injEq, and_true] at he
      obtain ⟨rfl, rfl, rfl⟩ := he
      obtain ⟨zs, n2, rfl, rfl, -, hzlen, hzf⟩ := DataW.trod_struct Tryd.underlying59 (show DataW.trod enc Tryd.prog w 0 sp held n1 59 [c5, c6, c7, c8, c9, c10, c11] = some y3 from f3)
      match zs, hzlen with
      | [z0, z1, z2], _ =>
        have g0 : DataW.trod enc Tryd.prog w 0 sp held n2 3 ((([c5, c6, c7, c8, c9, c10, c11] : List Value).drop 0).take (Tryd.prog.cellsOf 3)) = some z0 := hzf 0 _ rfl
        have g1 : DataW.trod enc Tryd.prog w 0 sp held n2 57 ((([c5, c6, c7, c8, c9, c10, c11] : List Value).drop 1).take (Tryd.prog.cellsOf 57)) = some z1 := hzf 1 _ rfl
        have g2 : DataW.trod enc Tryd.prog w 0 sp held n2 57 ((([c5, c6, c7, c8, c9, c10, c11] : List Value).drop 4).take (Tryd.prog.cellsOf 57)) = some z2 := hzf 2 _ rfl
        rw [cells3] at g0
        rw [cells30] at g1 g2
        obtain ⟨ck, hck, eck, -⟩ := DataW.trod_int Tryd.underlying3 (show DataW.trod enc Tryd.prog w 0 sp held n2 3 [c5] = some z0 from g0)
        simp only [List.cons.injEq, and_true] at hck
        subst hck eck
        obtain ⟨ca, a0, a1, a2, ha, hain, han⟩ := ex_open n2 _ _ (show DataW.trod enc Tryd.prog w 0 sp held n2 57 [c6, c7, c8] = some z1 from g1)
        obtain ⟨cb, b0, b1, b2, hb, hbin, hbn⟩ := ex_open n2 _ _ (show DataW.trod enc Tryd.prog w 0 sp held n2 57 [c9, c10, c11] = some z2 from g2)
        simp only [List.cons.injEq, and_true] at ha hb
        obtain ⟨rfl, rfl, rfl⟩ := ha
        obtain ⟨rfl, rfl, rfl⟩ := hb
        obtain ⟨b, vb, hvb, hsb, hbb⟩ := ih _ (Nat.lt_succ_self _) _ _ (show DataW.trod enc Tryd.prog w 0 sp held (n2 + 1) 22 [c12] = some y4 from f4)
        obtain ⟨l, vl, hvl, hsl, hbl⟩ := ih _ (Nat.lt_succ_self _) _ _ (show DataW.trod enc Tryd.prog w 0 sp held (n2 + 1) 22 [c13] = some y5 from f5)
        simp only [List.cons.injEq, and_true] at hvb hvl
        subst hvb hvl
        refine ⟨.mk k m e ck ca cb b l, fun j => ([.int .i64 k, .int .i64 m, c2, c3, c4, .int .i64 ck, c6, c7, c8, c9, c10, c11, c12, c13] : List Value).getD j undef, rfl, ?_, ?_⟩
        · unfold St.In
          exact ⟨c2, c3, c4, c6, c7, c8, c9, c10, c11, c12, c13, rfl, hein, hain, hbin, hsb, hsl⟩
        · simp only [St.bulk, List.map_cons, List.map_nil, Rows.uptoBulk, Rows.uptoBulkAll]
          omega

theorem st_row {n : Nat} (ih : ∀ m, m < n → StIh enc w sp held m) (g : Nat) : ∀ (elems : List (DataW H × List MemPlace)) (o : Nat),
    (∀ i, i < elems.length → (w.cells? 0 ⟨g, o + i * 14, none⟩ 14).bind (DataW.trod enc Tryd.prog w 0 sp held n 61) = elems[i]?) →
    ∃ es : List St, es.length = elems.length ∧ St.Row w es g o ∧ St.bulkAll es ≤ Rows.uptoBulkAll (elems.map (·.1))
  | [], o, _ => ⟨[], rfl, by unfold St.Row; trivial, by unfold St.bulkAll; omega⟩
  | y :: r, o, h => by
    have h0 := h 0 (by simp)
    simp only [Nat.zero_mul, Nat.add_zero, List.getElem?_cons_zero] at h0
    obtain ⟨cs, hc, ht⟩ := Option.bind_eq_some_iff.1 h0
    obtain ⟨s, x, rfl, hin, hn⟩ := st_one ih cs y ht
    obtain ⟨-, hcell⟩ := cells_at hc
    obtain ⟨es, hl, hrow, hb⟩ := st_row ih g r (o + 14) (fun i hi => by
      have := h (i + 1) (by simp; omega)
      rw [show o + (i + 1) * 14 = o + 14 + i * 14 by omega] at this
      simpa using this)
    refine ⟨s :: es, by simp [hl], ?_, ?_⟩
    · unfold St.Row
      refine ⟨⟨x, fun j hj => ?_, hin⟩, hrow⟩
      rw [hcell j hj]
      match j, hj with
      | 0, _ | 1, _ | 2, _ | 3, _ | 4, _ | 5, _ | 6, _ | 7, _ | 8, _ | 9, _ | 10, _ | 11, _ | 12, _ | 13, _ => rfl
    · unfold St.bulkAll
      simp only [List.map_cons, Rows.uptoBulkAll]
      omega

theorem st_open : ∀ n : Nat, StIh enc w sp held n := by
  intro n
  induction n using Nat.strongRecOn with
  | _ n IH =>
    intro cs x h
    rcases DataW.trod_slice Tryd.underlying22 h with ⟨rfl, rfl⟩ | ⟨a, len, cap, elems, rest, n2, rfl, rfl, rfl, -, -, -, rfl, hel, -, -⟩
    · exact ⟨[], _, rfl, ⟨none, 0, rfl, .inl rfl⟩, by simp [St.bulkAll]⟩
    · simp only [cells34] at hel
      cases elems with
      | nil => exact ⟨[], _, rfl, ⟨some a, cap, rfl, .inl rfl⟩, by simp [St.bulkAll]⟩
      | cons z r =>
        have hz := hel 0 (by simp)
        obtain ⟨cs0, hc0, ht0⟩ := Option.bind_eq_some_iff.1 hz
        have hpl := (World.cells?_some hc0).2.2 0 (by omega)
        obtain ⟨s0, x0, rfl, -, -⟩ := st_one (n := n2) (fun m hm => IH m (by omega)) cs0 z (by simpa using ht0)
        have hpa := plain_addr (w := w) (a := a) (v := x0 0) (by simpa [Addr.add] using hpl)
        obtain ⟨es, hel', hrow, hb⟩ := st_row (n := n2) (fun m hm => IH m (by omega)) a.block (z :: r) a.off (fun i hi => by
          have := hel i hi
          rw [hpa, add_plain'] at this
          exact this)
        refine ⟨es, _, rfl, ⟨some a, cap, by rw [hel'], .inr ⟨a.block, a.off, by rw [← hpa], hrow⟩⟩, ?_⟩
        simp only [List.map_cons, Rows.uptoBulk, Rows.uptoBulkAll] at hb ⊢
        omega

/-- A datum that can be read is a tree. -/
theorem St.Sl.of_trod {v : Value} {d : DataW H} {ps : List MemPlace} (h : DataW.Trod enc Tryd.prog w 0 sp held 22 v d ps) (hv : v.cells.toList = [v]) : ∃ a, St.Sl w a v ∧ St.bulkAll a ≤ Rows.uptoBulk d := by
  obtain ⟨n, hn⟩ := h
  obtain ⟨a, v', h1, h2, h3⟩ := st_open n _ _ hn
  rw [hv] at h1
  simp only [List.cons.injEq, and_true] at h1
  subst h1
  exact ⟨a, h2, h3⟩
end
end Go.Proofs.YtikdidfgdiafoabDoor
namespace Go.Proofs.YtikdidfgdiafoabDoor
open Go.ChangeShapes Go.WideShapes Go.ChangeAt Go.RowKit

/-- A round: a new block, then a call that only makes memory. -/
theorem below_round {w wr w' : World} {o : Obj} (h : Below w.heap.size w wr) (h' : Below (wr.alloc o).heap.size (wr.alloc o) w') : Below w.heap.size w w' :=
  (h.alloc h.size o).trans (h'.mono (by have := h.size; simp; omega))

mutual
def Ex.deep : Ex → Int
  | .mk _ _ a => Ex.deepAll 1 a
def Ex.deepAll (d : Int) : List Ex → Int
  | [] => d
  | x :: r => Ex.deepAll (max d (1 + x.deep)) r
end

mutual
theorem Ex.deep_le : ∀ e : Ex, 1 ≤ e.deep ∧ e.deep ≤ e.nodes
  | .mk _ _ a => by
    have := Ex.deepAll_le a 1
    unfold Ex.deep Ex.nodes
    omega
theorem Ex.deepAll_le : ∀ (a : List Ex) (d : Int), d ≤ Ex.deepAll d a ∧ Ex.deepAll d a ≤ max d (1 + Ex.nodesAll a)
  | [], d => by unfold Ex.deepAll; omega
  | x :: r, d => by
    have := Ex.deep_le x
    have := Ex.deepAll_le r (max d (1 + x.deep))
    unfold Ex.deepAll Ex.nodesAll
    omega
end

theorem Ex.deepAll_at {a : List Ex} {j : Nat} (h : j < a.length) (d : Int) : Ex.deepAll d (a.drop j) = Ex.deepAll (max d (1 + a[j].deep)) (a.drop (j + 1)) := by
  rw [drop_at h, Ex.deepAll]

set_option maxHeartbeats 400000 in
theorem deepExpr_any (N : Nat) : ∀ (e : Ex) (w : World) (v : Value), e.nodes ≤ N → N ≤ 1048576 → e.In w v →
    Calls Tryd.prog 30 #[v] w fun r w' => r = .returned (.int .i64 e.deep) ∧ Below w.heap.size w w' := by
  induction N with
  | zero => intro e w v h; have := e.nodes_pos; omega
  | succ N ih =>
    intro e w v hN hle hin
    obtain ⟨k, n, a⟩ := e
    unfold Ex.nodes at hN
    have hlen := length_le_nodesAll a
    unfold Ex.In at hin
    obtain ⟨ad, c, rfl, hrow⟩ := hin
    have HR : Hid (a = [] ∨ ∃ b o, ad = some ⟨b, o, none⟩ ∧ Ex.Row w a b o) := hrow
    clear hrow
    have IH : Hid _ := ih
    clear ih
    go_enter Tryd.func30, Tryd.ntmps30
    go_wp2_with fail
    go_loopw [3, 5, 9] (fun x _ i wr => ∃ (j : Nat) (d : Int), j ≤ a.length ∧ i = .int .i64 j ∧ x = .int .i64 d ∧ 1 ≤ d ∧ d ≤ 1 + Ex.nodesAll a ∧ Ex.deepAll d (a.drop j) = Ex.deepAll 1 a ∧ Below w.heap.size w wr) (fun _ _ i _ => a.length - (intOf i).toNat)
    case atStart => exact ⟨0, 1, Nat.zero_le _, rfl, rfl, by omega, by omega, rfl, (Below.refl _ _).alloc (Nat.le_refl _) _⟩
    case round =>
      obtain ⟨j, d, hj, rfl, rfl, hd1, hd2, hdd, hb⟩ := hrel
      by_cases hlt : j < a.length
      · rcases HR.out with h | ⟨b, o, had, hrow⟩
        · subst h; simp at hlt
        · subst had
          obtain ⟨xk, xn, xad, xm, xc, c0, c1, c2, hin⟩ := (Ex.Row.below hb a hrow).shape hlt
          have hnd := nodesAll_at a j a[j] (by simp [hlt])
          have hdl := Ex.deep_le a[j]
          have hdd' : Hid (Ex.deepAll d (a.drop j) = Ex.deepAll 1 a) := hdd
          clear hdd hrow
          have HI : Hid _ := hin
          clear hin
          have HB : Hid _ := hb
          clear hb
          generalize hx : a[j] = x at *
          have HX : Hid _ := hx
          clear hx
          go_wp2_with (go_at_call 30; refine (IH.out x _ _ (by omega) (by omega) ?hx).mono ?_; rotate_left 1; rintro e w' ⟨rfl, hb'⟩)
          case hx => exact Ex.In.below ((Below.refl _ _).alloc (Nat.le_refl _) _) _ HI.out
          go_roundw
          case rel => 
            refine ⟨j + 1, max d (1 + x.deep), by omega, by go_num, ?_, by omega, by omega, ?_, ?_⟩
            · congr 1; split <;> omega
            · rw [← hdd'.out, Ex.deepAll_at hlt, HX.out]
            · exact below_round HB.out hb'
          case measure => simp [intOf]; omega
      · go_wp2_with fail
        go_ret
        rw [List.drop_of_length_le (by omega), Ex.deepAll] at hdd
        exact ⟨ret_int (by rw [Ex.deep, hdd]), hb⟩
end Go.Proofs.YtikdidfgdiafoabDoor
