import Derived.Test.YthhkmgafacmjpagPK
import Derived.Test.YthhkmgafacmjpagPR
namespace Go.Proofs.Ythhkmgafacmjpag
open Go.ChangeShapes Go.WideShapes Go.ChangeAt Go.RowKit Go.Sort

theorem flat_set {α : Type} (f : α → List Value) (sz : Nat) (hf : ∀ x, (f x).length = sz) (i : Nat) (u : Value) (hi : i < sz) : ∀ (l : List α) (p : Nat) (x y : α), l[p]? = some y → f x = (f y).set i u → (l.set p x).flatMap f = (l.flatMap f).set (p * sz + i) u
  | [], p, x, y, h, _ => by simp at h
  | z :: r, 0, x, y, h, hx => by
    simp at h
    subst h
    rw [List.set_cons_zero, List.flatMap_cons, List.flatMap_cons, Nat.zero_mul, Nat.zero_add, List.set_append_left _ _ (by rw [hf]; exact hi), hx]
  | z :: r, p + 1, x, y, h, hx => by
    rw [List.set_cons_succ, List.flatMap_cons, List.flatMap_cons, flat_set f sz hf i u hi r p x y (by simpa using h) hx, Nat.succ_mul, List.set_append_right _ _ (by rw [hf]; omega), hf]
    congr 2
    omega

theorem ents_set {l : List Jb} {pol : Int} {rk : List Nat} {left : List Int} {p : Nat} {v : Int} (hr : Ranked l pol rk) (hl : left.length = l.length) (hp : p < l.length) : (entsOf l rk (left.set (RK rk p) v)).flatMap En.vals = ((entsOf l rk left).flatMap En.vals).set (p * 7 + 6) (.int .i64 v) := by
  have hpr : p < rk.length := by rw [hr.len]; exact hp
  have e : entsOf l rk (left.set (RK rk p) v) = (entsOf l rk left).set p ⟨J l (RK rk p), ((RK rk p : Nat) : Int), v⟩ := by
    apply List.ext_getElem?
    intro q
    by_cases hq : q < rk.length
    · rw [ents_at hq, List.getElem?_set, L_set (by rw [hl]; exact hr.lt hp)]
      by_cases h : p = q
      · subst h
        simp [entsOf, hpr]
      · rw [if_neg h, if_neg (fun e => h (hr.inj (by rw [← hr.len]; exact hq) hp e).symm), ents_at hq]
    · rw [List.getElem?_eq_none (by simp [entsOf]; omega), List.getElem?_eq_none (by simp [entsOf]; omega)]
  rw [e]
  exact flat_set En.vals 7 En.len 6 _ (by omega) _ p _ _ (ents_at hpr) rfl

/-- Who ran so far, and room. -/
def runCells (n : Nat) (runs : List Int) : List Value := runs.map (Value.int .i64) ++ List.replicate (n - runs.length) (.int .i64 0)

theorem runCells_len {n : Nat} {runs : List Int} (h : runs.length ≤ n) : (runCells n runs).length = n := by simp [runCells]; omega

theorem runCells_snoc {n : Nat} {runs : List Int} {v : Int} (h : runs.length < n) : (runCells n runs).set runs.length (.int .i64 v) = runCells n (runs ++ [v]) := by
  unfold runCells
  rw [List.set_append_right _ _ (by simp)]
  obtain ⟨m, hm⟩ : ∃ m, n - runs.length = m + 1 := ⟨n - runs.length - 1, by omega⟩
  rw [hm, List.replicate_succ]
  simp [show n - (runs.length + 1) = m by omega]

theorem runCells_again {n : Nat} {runs : List Int} {u v : Int} : (runCells n (runs ++ [u])).set runs.length (.int .i64 v) = runCells n (runs ++ [v]) := by
  unfold runCells
  rw [List.set_append_left _ _ (by simp), List.map_append, List.map_append, List.set_append_right _ _ (by simp)]
  simp

theorem runCells_full {runs : List Int} : runCells runs.length runs = runs.map (Value.int .i64) := by simp [runCells]

theorem setCell_list {w : World} {g i : Nat} {cs : List Value} {t : TypeId} {fr : Nat × Nat} {u : Value} (h : w.heap[g]? = some (.cells cs.toArray t fr)) : (w.setCell ⟨g, i, none⟩ u).heap[g]? = some (.cells (cs.set i u).toArray t fr) := by
  rw [setCell_at h, List.setIfInBounds_toArray]

/-- A core that plays, as it lies. -/
structure PlayW (w : World) (B K R C : Nat) (W : World) (l : List Jb) (rk cm : List Nat) (k : Nat) (th : List Nat) (left : List Int) (tv cv : Value) (rs pb rb eb n : Nat) (runs ends : List Int) : Prop where
  core : CoreW B K R C W l rk cm k th left tv cv
  bel : Below w.heap.size w W
  lK : w.heap.size ≤ K
  lR : w.heap.size ≤ R
  lC : w.heap.size ≤ C
  res : W.heap[rs]? = some (.cells #[.slice none 0 0, .slice none 0 0] 34 (0, 0))
  p : W.heap[pb]? = some (.cells #[.slice (some ⟨rb, 0, none⟩) n n, .slice (some ⟨eb, 0, none⟩) l.length l.length] 34 (0, 0))
  rv : W.heap[rb]? = some (.cells (runCells n runs).toArray 3 (0, 0))
  ev : W.heap[eb]? = some (.cells (ends.map (Value.int .i64)).toArray 3 (0, 0))
  bs : B ≤ rs ∧ B ≤ pb ∧ B ≤ rb ∧ B ≤ eb
  ds : rs ≠ pb ∧ rs ≠ rb ∧ rs ≠ eb ∧ pb ≠ rb ∧ pb ≠ eb ∧ rb ≠ eb
  os : tv.ownBlock ≠ some rs ∧ tv.ownBlock ≠ some pb ∧ tv.ownBlock ≠ some rb ∧ tv.ownBlock ≠ some eb

section

variable {w : World} {B K R C : Nat} {W W' : World} {l : List Jb} {rk cm : List Nat} {k k' : Nat} {th th' : List Nat} {left left' : List Int} {tv cv tv' cv' : Value} {rs pb rb eb n : Nat} {runs ends : List Int}

theorem PlayW.base (h : PlayW w B K R C W l rk cm k th left tv cv rs pb rb eb n runs ends) : w.heap.size ≤ B := by
  have := h.core.lK; have := h.lK; omega

theorem PlayW.lts (h : PlayW w B K R C W l rk cm k th left tv cv rs pb rb eb n runs ends) : rs < W.heap.size ∧ pb < W.heap.size ∧ rb < W.heap.size ∧ eb < W.heap.size :=
  ⟨(Array.getElem?_eq_some_iff.1 h.res).1, (Array.getElem?_eq_some_iff.1 h.p).1, (Array.getElem?_eq_some_iff.1 h.rv).1, (Array.getElem?_eq_some_iff.1 h.ev).1⟩

/-- The core has moved, and nothing else. -/
theorem PlayW.moved (h : PlayW w B K R C W l rk cm k th left tv cv rs pb rb eb n runs ends) (hc : CoreW B K R C W' l rk cm k' th' left tv' cv') (hm : Moved W W' K tv tv') : PlayW w B K R C W' l rk cm k' th' left tv' cv' rs pb rb eb n runs ends := by
  obtain ⟨l1, l2, l3, l4⟩ := h.lts
  obtain ⟨b1, b2, b3, b4⟩ := h.bs
  obtain ⟨o1, o2, o3, o4⟩ := h.os
  have hK := h.core.lK
  obtain ⟨e1, f1⟩ := hm.block rs l1 (by omega) o1
  obtain ⟨e2, f2⟩ := hm.block pb l2 (by omega) o2
  obtain ⟨e3, f3⟩ := hm.block rb l3 (by omega) o3
  obtain ⟨e4, f4⟩ := hm.block eb l4 (by omega) o4
  exact ⟨hc, hm.below h.bel h.lK h.base h.core.low, h.lK, h.lR, h.lC, e1.trans h.res, e2.trans h.p, e3.trans h.rv, e4.trans h.ev, h.bs, h.ds, f1, f2, f3, f4⟩

theorem PlayW.drewN (h : PlayW w B K R C W l rk cm k th left tv cv rs pb rb eb n runs ends) (q : Nat) : PlayW w B K R C (W.drewN q) l rk cm k th left tv cv rs pb rb eb n runs ends :=
  h.moved (h.core.drewN q) (Moved.drewN W K tv q)

/-- A store into a block that the core doesn't hold. -/
theorem CoreW.other (h : CoreW B K R C W l rk cm k th left tv cv) {b i : Nat} {u : Value} (hb : B ≤ b) (ho : tv.ownBlock ≠ some b) : CoreW B K R C (W.setCell ⟨b, i, none⟩ u) l rk cm k th left tv cv := by
  have lK := h.lK
  have lR := h.lR
  have lC := h.lC
  have keep : ∀ q, q ≠ b → (W.setCell ⟨b, i, none⟩ u).heap[q]? = W.heap[q]? := fun q hq => Below.heap_setCell _ _ _ _ hq
  refine ⟨(keep K (by omega)).trans h.core, (keep R (by omega)).trans h.ranked, (keep C (by omega)).trans h.comes, h.there.same (fun g e => keep g (fun e' => ho (e' ▸ e))), lK, lR, lC, h.dR, h.dC, h.dRC, ?_, h.cval⟩
  have := h.bs; simpa using this

/-- Who runs is laid down. -/
theorem PlayW.run (h : PlayW w B K R C W l rk cm k th left tv cv rs pb rb eb n runs ends) {i : Nat} {v : Int} {runs' : List Int} (he : (runCells n runs).set i (.int .i64 v) = runCells n runs') : PlayW w B K R C (W.setCell ⟨rb, i, none⟩ (.int .i64 v)) l rk cm k th left tv cv rs pb rb eb n runs' ends := by
  obtain ⟨b1, b2, b3, b4⟩ := h.bs
  obtain ⟨d1, d2, d3, d4, d5, d6⟩ := h.ds
  have keep : ∀ q, q ≠ rb → (W.setCell ⟨rb, i, none⟩ (.int .i64 v)).heap[q]? = W.heap[q]? := fun q hq => Below.heap_setCell _ _ _ _ hq
  refine ⟨h.core.other b3 h.os.2.2.1, h.bel.setCell (by have := h.base; show w.heap.size ≤ rb; omega) _, h.lK, h.lR, h.lC, (keep rs d2).trans h.res, (keep pb d4).trans h.p, ?_, (keep eb (Ne.symm d6)).trans h.ev, h.bs, h.ds, h.os⟩
  rw [setCell_list h.rv, he]

/-- When it was done is laid down. -/
theorem PlayW.done (h : PlayW w B K R C W l rk cm k th left tv cv rs pb rb eb n runs ends) {i : Nat} {v : Int} : PlayW w B K R C (W.setCell ⟨eb, i, none⟩ (.int .i64 v)) l rk cm k th left tv cv rs pb rb eb n runs (ends.set i v) := by
  obtain ⟨b1, b2, b3, b4⟩ := h.bs
  obtain ⟨d1, d2, d3, d4, d5, d6⟩ := h.ds
  have keep : ∀ q, q ≠ eb → (W.setCell ⟨eb, i, none⟩ (.int .i64 v)).heap[q]? = W.heap[q]? := fun q hq => Below.heap_setCell _ _ _ _ hq
  refine ⟨h.core.other b4 h.os.2.2.2, h.bel.setCell (by have := h.base; show w.heap.size ≤ eb; omega) _, h.lK, h.lR, h.lC, (keep rs d3).trans h.res, (keep pb d5).trans h.p, (keep rb d6).trans h.rv, ?_, h.bs, h.ds, h.os⟩
  rw [setCell_list h.ev, List.map_set]

/-- One tick less. -/
theorem PlayW.tick (h : PlayW w B K R C W l rk cm k th left tv cv rs pb rb eb n runs ends) {pol : Int} (hr : Ranked l pol rk) (hl : left.length = l.length) {p : Nat} {v : Int} (hp : p < l.length) : PlayW w B K R C (W.setCell ⟨R, p * 7 + 6, none⟩ (.int .i64 v)) l rk cm k th (left.set (RK rk p) v) tv cv rs pb rb eb n runs ends := by
  obtain ⟨b1, b2, b3, b4⟩ := h.bs
  have lK := h.core.lK
  have lR := h.core.lR
  have lC := h.core.lC
  have keep : ∀ q, q ≠ R → (W.setCell ⟨R, p * 7 + 6, none⟩ (.int .i64 v)).heap[q]? = W.heap[q]? := fun q hq => Below.heap_setCell _ _ _ _ hq
  refine ⟨⟨(keep K (Ne.symm h.core.dR)).trans h.core.core, ?_, (keep C (Ne.symm h.core.dRC)).trans h.core.comes, h.core.there.same (fun g e => keep g (by have := h.core.low g e; omega)), lK, lR, lC, h.core.dR, h.core.dC, h.core.dRC, ?_, h.core.cval⟩, h.bel.setCell h.lR _, h.lK, h.lR, h.lC, (keep rs (by omega)).trans h.res, (keep pb (by omega)).trans h.p, (keep rb (by omega)).trans h.rv, (keep eb (by omega)).trans h.ev, h.bs, h.ds, h.os⟩
  · rw [setCell_list h.core.ranked, ← ents_set hr hl hp]
  · have := h.core.bs; simpa using this

end
end Go.Proofs.Ythhkmgafacmjpag
