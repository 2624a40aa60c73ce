import Derived.Test.YtfffpemgfddehaaDoorRows
import Derived.WalkKit
import Derived.ProofKit
import Derived.OpenShut
import Derived.Handy
import Derived.Deep.QuietTactic
import Derived.BigQuiet
import Derived.Deep.RegionHeld3
namespace Go.Proofs.YtfffpemgfddehaaDoor
open Go.ChangeShapes Go.WideShapes Go.ChangeAt Go.RowKit

/-- Expressions and statements as plain trees. -/
inductive Ex where
  | mk (k n : Int) (a : List Ex)
inductive St where
  | mk (k n : Int) (e : Ex) (ck : Int) (ca cb : Ex) (b l : List St)

mutual
def Ex.nodes : Ex → Nat
  | .mk _ _ a => 1 + Ex.nodesAll a
def Ex.nodesAll : List Ex → Nat
  | [] => 0
  | x :: r => x.nodes + Ex.nodesAll r
end

mutual
def St.bulk : St → Nat
  | .mk _ _ e _ ca cb b l => 1 + e.nodes + ca.nodes + cb.nodes + St.bulkAll b + St.bulkAll l
def St.bulkAll : List St → Nat
  | [] => 0
  | x :: r => x.bulk + St.bulkAll r
end

/- An expression's value in a world; a row of expressions from an offset on. -/
mutual
def Ex.In (w : World) : Ex → Value → Prop
  | .mk k n a, v => ∃ ad c, v = .agg #[.int .i64 k, .int .i64 n, .slice ad a.length c] ∧ (a = [] ∨ ∃ b o, ad = some ⟨b, o, none⟩ ∧ Ex.Row w a b o)
def Ex.Row (w : World) : List Ex → Nat → Nat → Prop
  | [], _, _ => True
  | e :: r, b, o => (∃ x0 x1 x2, w.cell? ⟨b, o, none⟩ = some x0 ∧ w.cell? ⟨b, o + 1, none⟩ = some x1 ∧ w.cell? ⟨b, o + 2, none⟩ = some x2 ∧ Ex.In w e (.agg #[x0, x1, x2])) ∧ Ex.Row w r b (o + 3)
end

/-- The fourteen cells of a statement, as one value. -/
def stVal (x : Nat → Value) : Value := .agg #[x 0, x 1, x 2, x 3, x 4, x 5, x 6, x 7, x 8, x 9, x 10, x 11, x 12, x 13]

mutual
def St.In (w : World) : St → Value → Prop
  | .mk k n e ck ca cb b l, v => ∃ e0 e1 e2 a0 a1 a2 b0 b1 b2 sb sl, v = .agg #[.int .i64 k, .int .i64 n, e0, e1, e2, .int .i64 ck, a0, a1, a2, b0, b1, b2, sb, sl] ∧
      e.In w (.agg #[e0, e1, e2]) ∧ ca.In w (.agg #[a0, a1, a2]) ∧ cb.In w (.agg #[b0, b1, b2]) ∧
      (∃ ad c, sb = .slice ad b.length c ∧ (b = [] ∨ ∃ g o, ad = some ⟨g, o, none⟩ ∧ St.Row w b g o)) ∧
      (∃ ad c, sl = .slice ad l.length c ∧ (l = [] ∨ ∃ g o, ad = some ⟨g, o, none⟩ ∧ St.Row w l g o))
def St.Row (w : World) : List St → Nat → Nat → Prop
  | [], _, _ => True
  | s :: r, g, o => (∃ x : Nat → Value, (∀ j, j < 14 → w.cell? ⟨g, o + j, none⟩ = some (x j)) ∧ St.In w s (stVal x)) ∧ St.Row w r g (o + 14)
end

/-- A slice of statements. -/
def St.Sl (w : World) (b : List St) (v : Value) : Prop := ∃ ad c, v = .slice ad b.length c ∧ (b = [] ∨ ∃ g o, ad = some ⟨g, o, none⟩ ∧ St.Row w b g o)

theorem below_cell {w w' : World} (hb : Below w.heap.size w w') {p : Addr} {v : Value} (h : w.cell? p = some v) : w'.cell? p = some v :=
  (hb.cell (World.block_lt_of_cell? _ _ h)).trans h

mutual
theorem Ex.In.below {w w' : World} (hb : Below w.heap.size w w') : ∀ (e : Ex) {v : Value}, e.In w v → e.In w' v
  | .mk k n a, v, h => by
    unfold Ex.In at h ⊢
    obtain ⟨ad, c, hv, h⟩ := h
    refine ⟨ad, c, hv, ?_⟩
    rcases h with h | ⟨b, o, h1, h2⟩
    · exact .inl h
    · exact .inr ⟨b, o, h1, Ex.Row.below hb a h2⟩
theorem Ex.Row.below {w w' : World} (hb : Below w.heap.size w w') : ∀ (a : List Ex) {b o : Nat}, Ex.Row w a b o → Ex.Row w' a b o
  | [], _, _, _ => by unfold Ex.Row; trivial
  | e :: r, b, o, h => by
    unfold Ex.Row at h ⊢
    obtain ⟨⟨x0, x1, x2, h0, h1, h2, h3⟩, h4⟩ := h
    exact ⟨⟨x0, x1, x2, below_cell hb h0, below_cell hb h1, below_cell hb h2, Ex.In.below hb e h3⟩, Ex.Row.below hb r h4⟩
end

mutual
theorem St.In.below {w w' : World} (hb : Below w.heap.size w w') : ∀ (s : St) {v : Value}, s.In w v → s.In w' v
  | .mk k n e ck ca cb b l, v, h => by
    unfold St.In at h ⊢
    obtain ⟨e0, e1, e2, a0, a1, a2, b0, b1, b2, sb, sl, hv, h1, h2, h3, ⟨ad, c, h4, h5⟩, ⟨ad', c', h6, h7⟩⟩ := h
    refine ⟨e0, e1, e2, a0, a1, a2, b0, b1, b2, sb, sl, hv, h1.below hb, h2.below hb, h3.below hb, ⟨ad, c, h4, ?_⟩, ⟨ad', c', h6, ?_⟩⟩
    · rcases h5 with h | ⟨g, o, h1, h2⟩
      · exact .inl h
      · exact .inr ⟨g, o, h1, St.Row.below hb b h2⟩
    · rcases h7 with h | ⟨g, o, h1, h2⟩
      · exact .inl h
      · exact .inr ⟨g, o, h1, St.Row.below hb l h2⟩
theorem St.Row.below {w w' : World} (hb : Below w.heap.size w w') : ∀ (a : List St) {b o : Nat}, St.Row w a b o → St.Row w' a b o
  | [], _, _, _ => by unfold St.Row; trivial
  | e :: r, b, o, h => by
    unfold St.Row at h ⊢
    obtain ⟨⟨x, h0, h3⟩, h4⟩ := h
    exact ⟨⟨x, fun j hj => below_cell hb (h0 j hj), St.In.below hb e h3⟩, St.Row.below hb r h4⟩
end

theorem St.Sl.below {w w' : World} (hb : Below w.heap.size w w') {b : List St} {v : Value} (h : St.Sl w b v) : St.Sl w' b v := by
  obtain ⟨ad, c, hv, h⟩ := h
  refine ⟨ad, c, hv, ?_⟩
  rcases h with h | ⟨g, o, h1, h2⟩
  · exact .inl h
  · exact .inr ⟨g, o, h1, h2.below hb⟩

/-- The j-th element of a row. -/
theorem Ex.Row.at {w : World} : ∀ (a : List Ex) {b o : Nat}, Ex.Row w a b o → ∀ (j : Nat) (x : Ex), a[j]? = some x →
    ∃ x0 x1 x2, w.cell? ⟨b, o + j * 3, none⟩ = some x0 ∧ w.cell? ⟨b, o + j * 3 + 1, none⟩ = some x1 ∧ w.cell? ⟨b, o + j * 3 + 2, none⟩ = some x2 ∧ Ex.In w x (.agg #[x0, x1, x2])
  | [], _, _, _, _, _, h => by simp at h
  | e :: r, b, o, h, 0, x, hx => by
    unfold Ex.Row at h
    simp at hx
    subst hx
    simpa using h.1
  | e :: r, b, o, h, j + 1, x, hx => by
    unfold Ex.Row at h
    have := Ex.Row.at r h.2 j x (by simpa using hx)
    have e0 : o + 3 + j * 3 = o + (j + 1) * 3 := by omega
    rwa [e0] at this

theorem St.Row.at {w : World} : ∀ (a : List St) {b o : Nat}, St.Row w a b o → ∀ (j : Nat) (s : St), a[j]? = some s →
    ∃ x : Nat → Value, (∀ i, i < 14 → w.cell? ⟨b, o + j * 14 + i, none⟩ = some (x i)) ∧ St.In w s (stVal x)
  | [], _, _, _, _, _, h => by simp at h
  | e :: r, b, o, h, 0, x, hx => by
    unfold St.Row at h
    simp at hx
    subst hx
    simpa using h.1
  | e :: r, b, o, h, j + 1, x, hx => by
    unfold St.Row at h
    have := St.Row.at r h.2 j x (by simpa using hx)
    have e0 : o + 14 + j * 14 = o + (j + 1) * 14 := by omega
    rwa [e0] at this

/-- .. with the cells' shapes. -/
theorem Ex.Row.shape {w : World} {a : List Ex} {b o : Nat} (h : Ex.Row w a b o) {j : Nat} (hj : j < a.length) :
    ∃ k n ad m c, w.cell? ⟨b, o + j * 3, none⟩ = some (.int .i64 k) ∧ w.cell? ⟨b, o + j * 3 + 1, none⟩ = some (.int .i64 n) ∧ w.cell? ⟨b, o + j * 3 + 2, none⟩ = some (.slice ad m c) ∧
      Ex.In w a[j] (.agg #[.int .i64 k, .int .i64 n, .slice ad m c]) := by
  obtain ⟨x0, x1, x2, c0, c1, c2, hin⟩ := Ex.Row.at a h j a[j] (by simp [hj])
  generalize a[j] = x at *
  obtain ⟨k, n, l⟩ := x
  have hin' := hin
  unfold Ex.In at hin'
  obtain ⟨ad, c, hv, -⟩ := hin'
  simp at hv
  obtain ⟨rfl, rfl, rfl⟩ := hv
  exact ⟨_, _, _, _, _, c0, c1, c2, hin⟩

theorem St.Row.shape {w : World} {a : List St} {b o : Nat} (h : St.Row w a b o) {j : Nat} (hj : j < a.length) :
    ∃ k n e ck ca cb y l, a[j] = St.mk k n e ck ca cb y l ∧
    ∃ ek en ead em ec, ∃ ak an aad am ac, ∃ bk bn bad bm bc, ∃ yad yc lad lc,
      w.cell? ⟨b, o + j * 14, none⟩ = some (.int .i64 k) ∧ w.cell? ⟨b, o + j * 14 + 1, none⟩ = some (.int .i64 n) ∧
      w.cell? ⟨b, o + j * 14 + 2, none⟩ = some (.int .i64 ek) ∧ w.cell? ⟨b, o + j * 14 + 3, none⟩ = some (.int .i64 en) ∧ w.cell? ⟨b, o + j * 14 + 4, none⟩ = some (.slice ead em ec) ∧
      w.cell? ⟨b, o + j * 14 + 5, none⟩ = some (.int .i64 ck) ∧
      w.cell? ⟨b, o + j * 14 + 6, none⟩ = some (.int .i64 ak) ∧ w.cell? ⟨b, o + j * 14 + 7, none⟩ = some (.int .i64 an) ∧ w.cell? ⟨b, o + j * 14 + 8, none⟩ = some (.slice aad am ac) ∧
      w.cell? ⟨b, o + j * 14 + 9, none⟩ = some (.int .i64 bk) ∧ w.cell? ⟨b, o + j * 14 + 10, none⟩ = some (.int .i64 bn) ∧ w.cell? ⟨b, o + j * 14 + 11, none⟩ = some (.slice bad bm bc) ∧
      w.cell? ⟨b, o + j * 14 + 12, none⟩ = some (.slice yad y.length yc) ∧ w.cell? ⟨b, o + j * 14 + 13, none⟩ = some (.slice lad l.length lc) ∧
      e.In w (.agg #[.int .i64 ek, .int .i64 en, .slice ead em ec]) ∧ ca.In w (.agg #[.int .i64 ak, .int .i64 an, .slice aad am ac]) ∧ cb.In w (.agg #[.int .i64 bk, .int .i64 bn, .slice bad bm bc]) ∧
      St.Sl w y (.slice yad y.length yc) ∧ St.Sl w l (.slice lad l.length lc) := by
  obtain ⟨x, hx, hin⟩ := St.Row.at a h j a[j] (by simp [hj])
  generalize a[j] = s at *
  obtain ⟨k, n, e, ck, ca, cb, y, l⟩ := s
  unfold St.In at hin
  obtain ⟨e0, e1, e2, a0, a1, a2, b0, b1, b2, sb, sl, hv, h1, h2, h3, h4, h5⟩ := hin
  unfold stVal at hv
  simp only [Value.agg.injEq, Array.mk.injEq, List.cons.injEq, and_true] at hv
  obtain ⟨v0, v1, v2, v3, v4, v5, v6, v7, v8, v9, v10, v11, v12, v13⟩ := hv
  obtain ⟨ek, en, ea⟩ := e
  obtain ⟨ak, an, aa⟩ := ca
  obtain ⟨bk, bn, ba⟩ := cb
  have h1' := h1
  have h2' := h2
  have h3' := h3
  unfold Ex.In at h1' h2' h3'
  obtain ⟨ead, ec, hv1, -⟩ := h1'
  obtain ⟨aad, ac, hv2, -⟩ := h2'
  obtain ⟨bad, bc, hv3, -⟩ := h3'
  simp only [Value.agg.injEq, Array.mk.injEq, List.cons.injEq, and_true] at hv1 hv2 hv3
  obtain ⟨rfl, rfl, rfl⟩ := hv1
  obtain ⟨rfl, rfl, rfl⟩ := hv2
  obtain ⟨rfl, rfl, rfl⟩ := hv3
  obtain ⟨yad, yc, rfl, hy⟩ := h4
  obtain ⟨lad, lc, rfl, hl⟩ := h5
  refine ⟨k, n, _, ck, _, _, y, l, rfl, _, _, _, _, _, _, _, _, _, _, _, _, _, _, _, yad, yc, lad, lc, ?_, ?_, ?_, ?_, ?_, ?_, ?_, ?_, ?_, ?_, ?_, ?_, ?_, ?_, h1, h2, h3, ⟨_, _, rfl, hy⟩, ⟨_, _, rfl, hl⟩⟩
  · rw [← v0]; exact hx 0 (by omega)
  · rw [← v1]; exact hx 1 (by omega)
  · rw [← v2]; exact hx 2 (by omega)
  · rw [← v3]; exact hx 3 (by omega)
  · rw [← v4]; exact hx 4 (by omega)
  · rw [← v5]; exact hx 5 (by omega)
  · rw [← v6]; exact hx 6 (by omega)
  · rw [← v7]; exact hx 7 (by omega)
  · rw [← v8]; exact hx 8 (by omega)
  · rw [← v9]; exact hx 9 (by omega)
  · rw [← v10]; exact hx 10 (by omega)
  · rw [← v11]; exact hx 11 (by omega)
  · rw [← v12]; exact hx 12 (by omega)
  · rw [← v13]; exact hx 13 (by omega)

theorem ret_int {k : IntKind} {a b : Int} (h : a = b) : Ending.returned (.int k a) = .returned (.int k b) := by rw [h]
theorem ret_bool {a b : Bool} (h : a = b) : Ending.returned (.bool a) = .returned (.bool b) := by rw [h]

theorem drop_at {α : Type} {l : List α} {j : Nat} (h : j < l.length) : l.drop j = l[j] :: l.drop (j + 1) := List.drop_eq_getElem_cons h

theorem nodesAll_at : ∀ (a : List Ex) (j : Nat) (x : Ex), a[j]? = some x → x.nodes ≤ Ex.nodesAll a
  | [], _, _, h => by simp at h
  | e :: r, 0, x, h => by simp at h; subst h; unfold Ex.nodesAll; omega
  | e :: r, j + 1, x, h => by have := nodesAll_at r j x (by simpa using h); unfold Ex.nodesAll; omega

theorem bulkAll_at : ∀ (a : List St) (j : Nat) (x : St), a[j]? = some x → x.bulk ≤ St.bulkAll a
  | [], _, _, h => by simp at h
  | e :: r, 0, x, h => by simp at h; subst h; unfold St.bulkAll; omega
  | e :: r, j + 1, x, h => by have := bulkAll_at r j x (by simpa using h); unfold St.bulkAll; omega

theorem Ex.nodes_pos (e : Ex) : 1 ≤ e.nodes := by cases e; unfold Ex.nodes; omega

theorem length_le_nodesAll : ∀ a : List Ex, a.length ≤ Ex.nodesAll a
  | [] => by simp
  | e :: r => by have := length_le_nodesAll r; have := e.nodes_pos; unfold Ex.nodesAll; simp; omega

theorem St.bulk_pos (s : St) : 1 ≤ s.bulk := by cases s; unfold St.bulk; omega

theorem length_le_bulkAll : ∀ a : List St, a.length ≤ St.bulkAll a
  | [] => by simp
  | e :: r => by have := length_le_bulkAll r; have := e.bulk_pos; unfold St.bulkAll; simp; omega
end Go.Proofs.YtfffpemgfddehaaDoor
