import Derived.Test.YtkafihaajpifoafAE
import Derived.Deep.CutRange
import Derived.Deep.CutBlock
namespace Go.Proofs.Ytkafihaajpifoaf
open Go.ChangeShapes Go.WideShapes Go.ChangeAt Go.RowKit

theorem lt_heap {W : World} {g : Nat} {o : Obj} (h : W.heap[g]? = some o) : g < W.heap.size := (Array.getElem?_eq_some_iff.1 h).1

theorem flat_setP : ∀ (l : List Ta) (k : Nat) (x : Ta) (p : Int), l[k]? = some x → (l.set k { x with p := p }).flatMap Ta.vals = (l.flatMap Ta.vals).set (k * 7 + 6) (.int .i64 p)
  | [], k, x, p, h => by simp at h
  | z :: r, 0, x, p, h => by
    simp at h
    subst h
    rfl
  | z :: r, k + 1, x, p, h => by
    rw [List.set_cons_succ, List.flatMap_cons, List.flatMap_cons, flat_setP r k x p (by simpa using h), List.set_append_right _ _ (by rw [Ta.len]; omega), Ta.len, show (k + 1) * 7 + 6 - 7 = k * 7 + 6 by omega]

theorem ownsRow_put {W : World} {B n sz g cap q : Nat} {e : TypeId} {xs : List Value} {u : Value} (h : W.ownsRow B e sz (.slice (some ⟨g, 0, none⟩) n cap) n xs) : (W.setCell ⟨g, q, none⟩ u).ownsRow B e sz (.slice (some ⟨g, 0, none⟩) n cap) n (xs.set q u) := by
  obtain ⟨h1, ⟨h2, -⟩ | ⟨g', cap', cur, e1, hB, hg, hc, hm, hs, ht⟩⟩ := h
  · cases h2
  · cases e1
    refine ⟨by simp [h1], .inr ⟨g, cap, cur.setIfInBounds q u, rfl, hB, setCell_at hg, hc, hm, by simp [hs], ?_⟩⟩
    rw [Array.toList_setIfInBounds, List.take_set, ht]

theorem Own.slice {W : World} {B g : Nat} {tv : Value} {th : List Int} (h : Own W B tv th) (ht : tv.ownBlock = some g) : ∃ cap, tv = .slice (some ⟨g, 0, none⟩) th.length cap := by
  rcases h.cases with ⟨rfl, -⟩ | ⟨g', cap, cur, rfl, -⟩
  · cases ht
  · have e : g' = g := Option.some.inj ht
    subst e
    exact ⟨cap, rfl⟩

/-- Where Assign stands. -/
structure AW (w W : World) (b1 b2 b3 bL g5 gO gN : Nat) (v vb tv : Value) (ocap : Nat) (left : List Nat) (out : List Ta) : Prop where
  bel : Below w.heap.size w W
  c1 : W.heap[b1]? = some (.cells #[v] 22 (0, 0))
  c2 : W.heap[b2]? = some (.cells #[vb] 24 (0, 0))
  c3 : W.heap[b3]? = some (.cells #[.func (Fn.func 40) #[] #[.pointer (some ⟨bL, 0, none⟩)]] 26 (0, 0))
  cL : W.heap[bL]? = some (.cells #[tv] 24 (0, 0))
  c5 : W.heap[g5]? = some (.cells #[.int .i64 0, .int .i64 0] 29 (0, 0))
  own : Own W w.heap.size tv (zI left)
  tb : tv.ownBlock = some gN
  orow : W.ownsRow w.heap.size 45 7 (.slice (some ⟨gO, 0, none⟩) out.length ocap) out.length (out.flatMap Ta.vals)
  ord : w.heap.size ≤ b1 ∧ b1 < b2 ∧ b2 < g5 ∧ g5 < gO ∧ gO < gN ∧ gN < bL ∧ bL < b3

theorem AW.grow {w W W' : World} {b1 b2 b3 bL g5 gO gN ocap : Nat} {v vb tv : Value} {left : List Nat} {out : List Ta} (h : AW w W b1 b2 b3 bL g5 gO gN v vb tv ocap left out) (hb : Below W.heap.size W W') : AW w W' b1 b2 b3 bL g5 gO gN v vb tv ocap left out :=
  ⟨below_seq h.bel hb, (hb.block _ (lt_heap h.c1)).trans h.c1, (hb.block _ (lt_heap h.c2)).trans h.c2, (hb.block _ (lt_heap h.c3)).trans h.c3, (hb.block _ (lt_heap h.cL)).trans h.cL, (hb.block _ (lt_heap h.c5)).trans h.c5, h.own.same (fun g hg => hb.block g (World.ownsRow.lt h.own g hg).2), h.tb, ownsRow_below h.orow hb, h.ord⟩

theorem AW.put {w W : World} {b1 b2 b3 bL g5 gO gN ocap : Nat} {v vb tv : Value} {left : List Nat} {out : List Ta} (h : AW w W b1 b2 b3 bL g5 gO gN v vb tv ocap left out) {k : Nat} (hk : k < out.length) (p : Int) : AW w (W.setCell ⟨gO, k * 7 + 6, none⟩ (.int .i64 p)) b1 b2 b3 bL g5 gO gN v vb tv ocap left (setP out k p) := by
  obtain ⟨o1, o2, o3, o4, o5, o6, o7⟩ := h.ord
  have ks : ∀ q, q ≠ gO → (W.setCell ⟨gO, k * 7 + 6, none⟩ (.int .i64 p)).heap[q]? = W.heap[q]? := fun q hq => Below.heap_setCell _ _ _ _ hq
  have hlen : (setP out k p).length = out.length := by unfold setP; simp
  refine ⟨h.bel.setCell (by show w.heap.size ≤ gO; omega) _, (ks _ (by omega)).trans h.c1, (ks _ (by omega)).trans h.c2, (ks _ (by omega)).trans h.c3, (ks _ (by omega)).trans h.cL, (ks _ (by omega)).trans h.c5, h.own.same (fun g hg => ks g (by have e := h.tb; rw [hg] at e; have := Option.some.inj e; omega)), h.tb, ?_, h.ord⟩
  rw [hlen]
  have e := ownsRow_put (u := .int .i64 p) h.orow (q := k * 7 + 6)
  have e2 : (setP out k p).flatMap Ta.vals = (out.flatMap Ta.vals).set (k * 7 + 6) (.int .i64 p) := by
    unfold setP
    exact flat_setP out k (Tk out k) p (Tk_get hk)
  rw [e2]
  exact e

theorem AW.next {w W W' : World} {b1 b2 b3 bL g5 gO gN ocap : Nat} {v vb tv tv' : Value} {left left' : List Nat} {out : List Ta} (h : AW w W b1 b2 b3 bL g5 gO gN v vb tv ocap left out) (hg : W.grownBy W' tv.ownBlock) (ho : Own W' w.heap.size tv' (zI left')) (ht : tv'.ownBlock = tv.ownBlock) : AW w (W'.setCell ⟨bL, 0, none⟩ tv') b1 b2 b3 bL g5 gO gN v vb tv' ocap left' out := by
  obtain ⟨o1, o2, o3, o4, o5, o6, o7⟩ := h.ord
  have ks : ∀ q, q < W.heap.size → q ≠ gN → q ≠ bL → (W'.setCell ⟨bL, 0, none⟩ tv').heap[q]? = W.heap[q]? := fun q hq h1 h2 => (Below.heap_setCell _ _ _ _ h2).trans (hg.block q hq (fun e => by rw [h.tb] at e; exact h1 (Option.some.inj e)))
  have hbel : Below w.heap.size W W' := (Below.refl _ W).grown hg h.bel.size (fun q hq => by rw [h.tb] at hq; have := Option.some.inj hq; omega)
  have hL' : W'.heap[bL]? = some (.cells #[tv] 24 (0, 0)) := (hg.block bL (lt_heap h.cL) (fun e => by rw [h.tb] at e; have := Option.some.inj e; omega)).trans h.cL
  refine ⟨(h.bel.trans hbel).setCell (by show w.heap.size ≤ bL; omega) _, (ks _ (lt_heap h.c1) (by omega) (by omega)).trans h.c1, (ks _ (lt_heap h.c2) (by omega) (by omega)).trans h.c2, (ks _ (lt_heap h.c3) (by omega) (by omega)).trans h.c3, ?_, (ks _ (lt_heap h.c5) (by omega) (by omega)).trans h.c5, ho.same (fun g hg => Below.heap_setCell _ _ _ _ (by have e := ht.trans h.tb; rw [hg] at e; have := Option.some.inj e; show g ≠ bL; omega)), ht.trans h.tb, ownsRow_keep2 h.orow (fun q hq => ks q (World.ownsRow.lt h.orow q hq).2 (by have := Option.some.inj hq; show q ≠ gN; have : gO = q := this; omega) (by have : gO = q := Option.some.inj hq; omega)), h.ord⟩
  rw [setCell_at hL']
  rfl

theorem Assign_ends {w : World} {g : Nat} {c k p : Value} {a : Act} (h : w.heap[g]? = some (.cells #[c, k] 29 (0, 0))) (h2 : a.tmps[4]?.getD undef = p) (h3 : a.tmps[5]?.getD undef = .pointer (some ⟨g, 0, none⟩)) :
    (results Try.f18 a.tmps).run Try.prog w = .ok (.tuple #[p, .agg #[c, k]]) w := by
  obtain ⟨c1, f1, l1⟩ := cells_of (l := [_, _]) h
  have c10 := c1 0 _ rfl
  have c11 := c1 1 _ rfl
  subst h2
  simp [results, Try.results18, go_sem, h3, c10, c11]

theorem store_func (w : World) (F g : Nat) (cb : Array Value) (hg : w.heap.size = g) : (store ⟨g, 0, none⟩ (.func (Fn.func F) #[] cb)).run Try.prog (w.alloc (.cells #[.nilFunc] 26)) = .ok () (w.alloc (.cells #[.func (Fn.func F) #[] cb] 26)) := by
  subst hg
  rw [run_store Try.prog _ _ (.func (Fn.func F) #[] cb) .plain rfl]
  simp [go_sem]

theorem asgF_none {l : List Ta} {bs : List Int} {n : Nat} {left : List Nat} {out : List Ta} {p : Int} (h : left.findIdx? (lastIn l bs left) = none) : asgF l bs (n + 1) left out p = none := by rw [asgF, h]

theorem asgF_some {l : List Ta} {bs : List Int} {n a : Nat} {left : List Nat} {out : List Ta} {p : Int} (h : left.findIdx? (lastIn l bs left) = some a) : asgF l bs (n + 1) left out p = asgF l bs n (left.eraseIdx a) (setP out (left.getD a 0) (p + 1)) (p + 1) := by rw [asgF, h]

theorem find_zI {l : List Ta} {bs : List Int} {left : List Nat} : (zI left).findIdx? (fun x => lastIn l bs left x.toNat) = left.findIdx? (lastIn l bs left) := by
  unfold zI
  rw [List.findIdx?_map]
  congr 1

theorem row_own {w : World} {B g n cap : Nat} {m : List Ta} (h : w.ownsRow B 45 7 (.slice (some ⟨g, 0, none⟩) n cap) n (m.flatMap Ta.vals)) (hn : n = m.length) : RowSl Ta.vals w m (.slice (some ⟨g, 0, none⟩) n cap) := by
  subst hn
  have h' := h
  obtain ⟨h1, ⟨h2, -⟩ | ⟨g', cap', cur, e1, hB, hg, hc, hm, hs, ht⟩⟩ := h
  · cases h2
  · cases e1
    refine ⟨_, cap, rfl, (fun e => by cases e), hc, .inr ⟨g, 0, rfl, fun q u hq => ?_⟩⟩
    have hql := (List.getElem?_eq_some_iff.1 hq).1
    rw [flat_length Ta.vals 7 Ta.len] at hql
    rw [Nat.zero_add]
    exact (h'.cellAt q (by omega)).trans hq

/-- A list of tasks in blocks of one's own. -/
def RowHi (B : Nat) (W : World) (m : List Ta) (u : Value) : Prop := ∃ g cap, u = .slice (some ⟨g, 0, none⟩) m.length cap ∧ B ≤ g ∧ RowSl Ta.vals W m u

theorem RowHi.set {B q o : Nat} {W : World} {m : List Ta} {u x : Value} (h : RowHi B W m u) (hq : q < B) : RowHi B (W.setCell ⟨q, o, none⟩ x) m u := by
  obtain ⟨g, cap, rfl, hB, ad, c, e, h1, h2, h3⟩ := h
  refine ⟨g, cap, rfl, hB, ad, c, e, h1, h2, ?_⟩
  cases e
  rcases h3 with h3 | ⟨b, o', e', h3⟩
  · exact .inl h3
  · cases e'
    exact .inr ⟨g, 0, rfl, fun k y hk => (World.cell?_of_block (a := ⟨g, 0 + k, none⟩) (Below.heap_setCell _ _ _ _ (by show g ≠ q; omega))).trans (h3 k y hk)⟩

theorem RowHi.grow {B : Nat} {W W' : World} {m : List Ta} {u : Value} (h : RowHi B W m u) (hb : Below W.heap.size W W') : RowHi B W' m u := by
  obtain ⟨g, cap, e, hB, hr⟩ := h
  exact ⟨g, cap, e, hB, hr.below hb⟩

/-- What Assign tells. -/
def AsgRes (l : List Ta) (bs : List Int) (B : Nat) (W : World) (u : Value) (z : Int) : Prop :=
  (asgF l bs l.length (List.range l.length) l 0 = none ∧ z = 13 ∧ u = .slice none 0 0) ∨ (∃ m, asgF l bs l.length (List.range l.length) l 0 = some m ∧ z = 0 ∧ RowHi B W m u)

set_option maxRecDepth 20000 in
set_option maxHeartbeats 8000000 in
theorem Assign_good (w : World) (l : List Ta) (bs : List Int) (v vb : Value) (hX : (chkX l).1 = 0) (hbl : bs.length = l.length) (hb : ∀ b ∈ bs, 0 ≤ b ∧ b ≤ 10000) (hv : RowSl Ta.vals w l v) (hvb : RowSl nuV w bs vb) :
    Calls Try.prog 18 #[v, vb] w fun r w' => ∃ u z, r = .returned (.tuple #[u, .agg #[.int .i64 z, .int .i64 0]]) ∧ AsgRes l bs w.heap.size w' u z ∧ Below w.heap.size w w' := by
  obtain ⟨-, -, hl1, h8, hst, hX0⟩ := chkX_ok hX
  obtain ⟨ad, c, rfl⟩ := hv.len
  obtain ⟨ad2, c2, rfl⟩ := hvb.len
  rw [hbl] at hvb ⊢
  have HBL : Hid (bs.length = l.length) := hbl
  have HV : Hid (RowSl Ta.vals w l (.slice ad l.length c) ∧ RowSl nuV w bs (.slice ad2 l.length c2) ∧ (∀ x ∈ l, stands x = true) ∧ ∀ b ∈ bs, 0 ≤ b ∧ b ≤ 10000) := ⟨hv, hvb, hst, hb⟩
  have hb0 : Below w.heap.size w (((w.alloc (.cells #[.slice ad l.length c] 22)).alloc (.cells #[.slice ad2 l.length c2] 24)).alloc (.cells #[.int .i64 0, .int .i64 0] 29)) := below_seq (below_seq (below_new _ _) (below_new _ _)) (below_new _ _)
  have HC := check_any (((w.alloc (.cells #[.slice ad l.length c] 22)).alloc (.cells #[.slice ad2 l.length c2] 24)).alloc (.cells #[.int .i64 0, .int .i64 0] 29)) l _ (by omega) (hv.below hb0)
  rw [hX0] at HC
  dsimp only at HC
  have H0 : Hid (Below w.heap.size w (((w.alloc (.cells #[.slice ad l.length c] 22)).alloc (.cells #[.slice ad2 l.length c2] 24)).alloc (.cells #[.int .i64 0, .int .i64 0] 29)) ∧ (((w.alloc (.cells #[.slice ad l.length c] 22)).alloc (.cells #[.slice ad2 l.length c2] 24)).alloc (.cells #[.int .i64 0, .int .i64 0] 29)).heap[w.heap.size]? = some (.cells #[.slice ad l.length c] 22 (0, 0)) ∧ (((w.alloc (.cells #[.slice ad l.length c] 22)).alloc (.cells #[.slice ad2 l.length c2] 24)).alloc (.cells #[.int .i64 0, .int .i64 0] 29)).heap[w.heap.size + 1]? = some (.cells #[.slice ad2 l.length c2] 24 (0, 0)) ∧ (((w.alloc (.cells #[.slice ad l.length c] 22)).alloc (.cells #[.slice ad2 l.length c2] 24)).alloc (.cells #[.int .i64 0, .int .i64 0] 29)).heap[w.heap.size + 1 + 1]? = some (.cells #[.int .i64 0, .int .i64 0] 29 (0, 0))) := by
    refine ⟨hb0, ?_, ?_, heap_new3 _ _ _ _⟩
    · exact (Below.heap_alloc _ _ _ (by simp; omega)).trans ((Below.heap_alloc _ _ _ (by simp)).trans (heap_alloc_new _ _))
    · exact (Below.heap_alloc _ _ _ (by simp)).trans (heap_new2 _ _ _)
  have hT : idxI (fun n => !isTm n) bs 0 = -1 := allTm hb
  have hll : 0 < l.length := by omega
  clear hv hvb hst hb hb0 hX hX0 hl1 hbl
  go_enter Try.func18, Try.ntmps18
  go_upto_region 5 with (go_at_call 22; refine HC.mono ?_; rintro r w1 ⟨rfl, hb1⟩; have H1 : Hid (Below w.heap.size w (w1.alloc (.cells #[.int .i64 0, .int .i64 0] 29)) ∧ (w1.alloc (.cells #[.int .i64 0, .int .i64 0] 29)).heap[w.heap.size]? = some (.cells #[.slice ad l.length c] 22 (0, 0)) ∧ (w1.alloc (.cells #[.int .i64 0, .int .i64 0] 29)).heap[w.heap.size + 1]? = some (.cells #[.slice ad2 l.length c2] 24 (0, 0)) ∧ (w1.alloc (.cells #[.int .i64 0, .int .i64 0] 29)).heap[w.heap.size + 1 + 1]? = some (.cells #[.int .i64 0, .int .i64 0] 29 (0, 0))) := ⟨below_seq (below_seq H0.out.1 hb1) (below_new _ _), ((below_seq hb1 (below_new w1 (.cells #[.int .i64 0, .int .i64 0] 29))).block _ (lt_heap H0.out.2.1)).trans H0.out.2.1, ((below_seq hb1 (below_new w1 (.cells #[.int .i64 0, .int .i64 0] 29))).block _ (lt_heap H0.out.2.2.1)).trans H0.out.2.2.1, ((below_seq hb1 (below_new w1 (.cells #[.int .i64 0, .int .i64 0] 29))).block _ (lt_heap H0.out.2.2.2)).trans H0.out.2.2.2⟩; clear hb1 HC H0)
  generalize w1.alloc (.cells #[.int .i64 0, .int .i64 0] 29) = wA at *
  have q1 := (cells_of (l := [_]) H1.out.2.1).1 0 _ rfl
  have q2 := (cells_of (l := [_]) H1.out.2.2.1).1 0 _ rfl
  have HB := hasBad_any wA bs _ (by rw [HBL.out]; omega) (HV.out.2.1.below H1.out.1)
  rw [hT] at HB
  go_upto_region 7 with (go_at_call 37; refine HB.mono ?_; rintro r w2 ⟨rfl, hb2⟩; have H2 : Hid (Below w.heap.size w w2 ∧ w2.heap[w.heap.size]? = some (.cells #[.slice ad l.length c] 22 (0, 0)) ∧ w2.heap[w.heap.size + 1]? = some (.cells #[.slice ad2 l.length c2] 24 (0, 0)) ∧ w2.heap[w.heap.size + 1 + 1]? = some (.cells #[.int .i64 0, .int .i64 0] 29 (0, 0))) := ⟨below_seq H1.out.1 hb2, (hb2.block _ (lt_heap H1.out.2.1)).trans H1.out.2.1, (hb2.block _ (lt_heap H1.out.2.2.1)).trans H1.out.2.2.1, (hb2.block _ (lt_heap H1.out.2.2.2)).trans H1.out.2.2.2⟩; clear hb2 HB H1 q1 q2)
  have q1 := (cells_of (l := [_]) H2.out.2.1).1 0 _ rfl
  go_upto_region 8 with (go_at_call 38; refine (cloneT_any w2 l _ (HV.out.1.below H2.out.1) hll (by omega)).mono ?_; rintro r w3 ⟨gO, ocap, rfl, ho3, hb3⟩; have H3 : Hid (Below w2.heap.size w2 w3 ∧ w3.ownsRow w2.heap.size 45 7 (.slice (some ⟨gO, 0, none⟩) l.length ocap) l.length (l.flatMap Ta.vals)) := ⟨hb3, ho3⟩; have q1' := below_cell hb3 q1; clear hb3 ho3 q1)
  go_upto_region 9 with (go_at_call 39; refine (numbers_any w3 l.length (by omega)).mono ?_; rintro r w4 ⟨gN, rfl, hN4, hg4, hb4⟩; have H4 : Hid (Below w3.heap.size w3 w4 ∧ NumB w4 gN (zI (List.range l.length)) ∧ w3.heap.size ≤ gN) := ⟨hb4, hN4, hg4⟩; clear hb4 hN4 hg4 q1')
  have H5 : Hid (AW w ((w4.alloc (.cells #[.slice (some ⟨gN, 0, none⟩) l.length l.length] 24)).alloc (.cells #[.func (Fn.func 40) #[] #[.pointer (some ⟨w4.heap.size, 0, none⟩)]] 26)) w.heap.size (w.heap.size + 1) (w4.heap.size + 1) w4.heap.size (w.heap.size + 1 + 1) gO gN (.slice ad l.length c) (.slice ad2 l.length c2) (.slice (some ⟨gN, 0, none⟩) l.length l.length) ocap (List.range l.length) l) := by
    have hs := H3.out.2.lt gO rfl
    have hbb : Below w2.heap.size w2 ((w4.alloc (.cells #[.slice (some ⟨gN, 0, none⟩) l.length l.length] 24)).alloc (.cells #[.func (Fn.func 40) #[] #[.pointer (some ⟨w4.heap.size, 0, none⟩)]] 26)) := below_seq H3.out.1 (below_seq H4.out.1 (below_seq (below_new _ _) (below_new _ _)))
    have h24 : Below w4.heap.size w4 ((w4.alloc (.cells #[.slice (some ⟨gN, 0, none⟩) l.length l.length] 24)).alloc (.cells #[.func (Fn.func 40) #[] #[.pointer (some ⟨w4.heap.size, 0, none⟩)]] 26)) := below_seq (below_new _ _) (below_new _ _)
    have hlt := H4.out.2.1.lt
    have hz2 := lt_heap H2.out.2.2.2
    have hle := H2.out.1.size
    have a1 := H3.out.1.size
    have a2 := H4.out.2.2
    have a3 := H4.out.1.size
    have hrl : (zI (List.range l.length)).length = l.length := by rw [zI_len]; simp
    refine ⟨below_seq H2.out.1 hbb, (hbb.block _ (lt_heap H2.out.2.1)).trans H2.out.2.1, (hbb.block _ (lt_heap H2.out.2.2.1)).trans H2.out.2.2.1, heap_new2 _ _ _, (Below.heap_alloc _ _ _ (by simp)).trans (heap_alloc_new _ _), (hbb.block _ (lt_heap H2.out.2.2.2)).trans H2.out.2.2.2, ?_, rfl, ?_, ?_⟩
    · have e := (H4.out.2.1.grow h24).own (B := w.heap.size) (by omega) (by rw [hrl]; omega)
      rw [hrl] at e
      exact e
    · have e := ownsRow_below (ownsRow_below H3.out.2 H4.out.1) h24
      obtain ⟨e0, ⟨e1, -⟩ | ⟨g', cap', cur, e1, hB, hg, hc, hm, hss, ht⟩⟩ := e
      · cases e1
      · exact ⟨e0, .inr ⟨g', cap', cur, e1, by omega, hg, hc, hm, hss, ht⟩⟩
    · omega
  clear H2 H3 H4
  have hsf := store_func (w4.alloc (.cells #[.slice (some ⟨gN, 0, none⟩) l.length l.length] 24)) 40 (w4.heap.size + 1) #[.pointer (some ⟨w4.heap.size, 0, none⟩)] (by simp)
  go_upto_region 11 with fail
  clear hsf
  generalize (w4.alloc (.cells #[.slice (some ⟨gN, 0, none⟩) l.length l.length] 24)).alloc (.cells #[.func (Fn.func 40) #[] #[.pointer (some ⟨w4.heap.size, 0, none⟩)]] 26) = wB at *
  generalize w4.heap.size = bL at *
  have q1 := (cells_of (l := [_]) H5.out.c1).1 0 _ rfl
  go_wp2_with fail
  clear q1
  go_loopw [40] (fun vi wr => ∃ (p : Nat) (tv : Value) (left : List Nat) (out : List Ta), p ≤ l.length ∧ vi = .int .i64 p ∧ AW w wr w.heap.size (w.heap.size + 1) (bL + 1) bL (w.heap.size + 1 + 1) gO gN (.slice ad l.length c) (.slice ad2 l.length c2) tv ocap left out ∧ left.length = l.length - p ∧ out.length = l.length ∧ (∀ k ∈ left, k < l.length) ∧ asgF l bs (l.length - p) left out (p : Int) = asgF l bs l.length (List.range l.length) l 0) (fun vi _ => l.length - (intOf vi).toNat)
  case atStart => exact ⟨0, _, List.range l.length, l, Nat.zero_le _, rfl, H5.out, by simp, rfl, fun k hk => by simpa using hk, rfl⟩
  case round =>
    obtain ⟨p, tv, left, out, hp, rfl, hA, hll2, hol, hmem, hac⟩ := hrel
    have HA : Hid (AW w wr w.heap.size (w.heap.size + 1) (bL + 1) bL (w.heap.size + 1 + 1) gO gN (.slice ad l.length c) (.slice ad2 l.length c2) tv ocap left out) := hA
    by_cases hpl : p < l.length
    · have HI := index41_any wr (zI left) tv (fun x => lastIn l bs left x.toNat) w.heap.size (w.heap.size + 1) (bL + 1) (by rw [zI_len]; omega) hA.own.row (fun W' hb9 x hx => by
        obtain ⟨k, hk, rfl⟩ := List.mem_map.1 hx
        rw [Int.toNat_natCast]
        have hA' := hA.grow hb9
        exact last_any W' l bs left _ _ tv w.heap.size (w.heap.size + 1) (bL + 1) bL k h8 HV.out.2.2.1 HBL.out (hmem k hk) HV.out.2.2.2 (by omega) (HV.out.1.below hA'.bel) (HV.out.2.1.below hA'.bel) hA'.own.row ((cells_of (l := [_]) hA'.c1).1 0 _ rfl) ((cells_of (l := [_]) hA'.c2).1 0 _ rfl) ((cells_of (l := [_]) hA'.c3).1 0 _ rfl) ((cells_of (l := [_]) hA'.cL).1 0 _ rfl))
      have qL := (cells_of (l := [_]) hA.cL).1 0 _ rfl
      rcases idxI_find (P := fun x => lastIn l bs left x.toNat) (zI left) 0 with ⟨hf, hi⟩ | ⟨a, hf, hal, hi⟩
      · rw [hi] at HI
        rw [find_zI] at hf
        have HE : Hid (none = asgF l bs l.length (List.range l.length) l 0) := by
          have e := asgF_none (n := l.length - p - 1) (out := out) (p := (p : Int)) hf
          rw [show l.length - p - 1 + 1 = l.length - p by omega, hac] at e
          exact e.symm
        clear hac hf hi hA hmem
        go_wp2_with (go_at_call 44; refine HI.mono ?_; rintro r w5 ⟨rfl, hb5⟩; have H5' : Hid (AW w w5 w.heap.size (w.heap.size + 1) (bL + 1) bL (w.heap.size + 1 + 1) gO gN (.slice ad l.length c) (.slice ad2 l.length c2) tv ocap left out) := HA.out.grow hb5; clear hb5 HI qL; obtain ⟨rs1, rf1, rl1⟩ := cells_of (l := [_, _]) H5'.out.c5; have r10 := rs1 0 _ rfl; have r11 := rs1 1 _ rfl; have f10 := rf1 0; have f11 := rf1 1; clear rs1 rf1)
        refine bodyPost_ret (Assign_ends (g := w.heap.size + 1 + 1) (c := .int .i64 13) (k := .int .i64 0) (set_two H5'.out.c5) rfl rfl) rfl ?_
        exact ⟨_, 13, rfl, .inl ⟨HE.out.symm, rfl, rfl⟩, (H5'.out.bel.setCell (by show w.heap.size ≤ w.heap.size + 1 + 1; omega) _).setCell (by show w.heap.size ≤ w.heap.size + 1 + 1; omega) _⟩
      · rw [hi] at HI
        rw [find_zI] at hf
        rw [zI_len] at hal
        rw [Nat.add_zero] at HI
        obtain ⟨k, hk⟩ : ∃ k, left[a]? = some k := ⟨_, List.getElem?_eq_getElem hal⟩
        have hkd : left.getD a 0 = k := by rw [List.getD_eq_getElem?_getD, hk]; rfl
        have hkl := hmem k (List.mem_of_getElem? hk)
        have HE : Hid (asgF l bs (l.length - (p + 1)) (left.eraseIdx a) (setP out k ((p : Int) + 1)) ((p : Int) + 1) = asgF l bs l.length (List.range l.length) l 0) := by
          have e := asgF_some (n := l.length - p - 1) (out := out) (p := (p : Int)) hf
          rw [show l.length - p - 1 + 1 = l.length - p by omega, hac, hkd] at e
          rw [show l.length - (p + 1) = l.length - p - 1 by omega]
          exact e.symm
        have hzk : (zI left)[a]? = some (k : Int) := by unfold zI; rw [List.getElem?_map, hk]; rfl
        have herase : (zI left).take a ++ (zI left).drop (a + 1) = zI (left.eraseIdx a) := by
          unfold zI
          rw [List.eraseIdx_eq_take_drop_succ, List.map_append, List.map_take, List.map_drop]
        have hel : (left.eraseIdx a).length = l.length - (p + 1) := by rw [List.length_eraseIdx_of_lt hal]; omega
        have HM : Hid (∀ q ∈ left.eraseIdx a, q < l.length) := fun q hq => hmem q (List.mem_of_mem_eraseIdx hq)
        rcases hA.own.cases with ⟨rfl, -⟩ | ⟨g', tcap, cur, e', -⟩
        · have := hA.tb; cases this
        have hgN : g' = gN := by have := hA.tb; rw [e'] at this; exact Option.some.inj this
        subst e' hgN
        have hsl : (setP out k ((p : Int) + 1)).length = l.length := by unfold setP; simpa using hol
        have hkk : (k : Int) < (l.length : Int) := by omega
        have haa : (a : Int) < ((zI left).length : Int) := by rw [zI_len]; omega
        clear hac hf hi hA hmem hkd
        go_upto_region 17 with (go_at_call 44; refine HI.mono ?_; rintro r w5 ⟨rfl, hb5⟩; have H6 : Hid (AW w w5 w.heap.size (w.heap.size + 1) (bL + 1) bL (w.heap.size + 1 + 1) gO g' (.slice ad l.length c) (.slice ad2 l.length c2) (.slice (some ⟨g', 0, none⟩) (zI left).length tcap) ocap left out) := HA.out.grow hb5; clear hb5 HI qL)
        have qL := (cells_of (l := [_]) H6.out.cL).1 0 _ rfl
        have tc := H6.out.own.cell hzk
        have ko : k < out.length := by omega
        have oc0 := H6.out.orow.cellAt (k * 7 + 6) (by omega)
        rw [flat_at Ta.vals 7 Ta.len out k 6 _ (Tk_get ko) (by omega)] at oc0
        have oc : w5.cell? ⟨gO, k * 7 + 6, none⟩ = some (.int .i64 (Tk out k).p) := oc0
        have of := H6.out.orow.frozenAt (k * 7 + 6)
        have og := (World.ownsRow.lt H6.out.orow gO rfl).2
        generalize (Tk out k).p = oldp at *
        clear oc0
        go_upto_region 18 with fail
        have H7 : Hid (AW w (w5.setCell ⟨gO, k * 7 + 6, none⟩ (.int .i64 ((p : Int) + 1))) w.heap.size (w.heap.size + 1) (bL + 1) bL (w.heap.size + 1 + 1) gO g' (.slice ad l.length c) (.slice ad2 l.length c2) (.slice (some ⟨g', 0, none⟩) (zI left).length tcap) ocap left (setP out k ((p : Int) + 1))) := H6.out.put ko _
        clear H6 qL tc oc of og
        generalize w5.setCell ⟨gO, k * 7 + 6, none⟩ (.int .i64 ((p : Int) + 1)) = w6 at *
        have qL := (cells_of (l := [_]) H7.out.cL).1 0 _ rfl
        have HD := Delete_own w6 w.heap.size _ (zI left) a H7.out.own (by rw [zI_len]; exact hal)
        rw [herase] at HD
        go_wp2_with (go_at_call 45; refine HD.mono ?_; rintro r w7 ⟨tv', rfl, ho7, hg7, ht7⟩; have H8 : Hid (AW w (w7.setCell ⟨bL, 0, none⟩ tv') w.heap.size (w.heap.size + 1) (bL + 1) bL (w.heap.size + 1 + 1) gO g' (.slice ad l.length c) (.slice ad2 l.length c2) tv' ocap (left.eraseIdx a) (setP out k ((p : Int) + 1))) := H7.out.next hg7 ho7 ht7; have hL7 := (hg7.block bL (lt_heap H7.out.cL) (fun e => by have o := H7.out.ord; have e' : bL = g' := Option.some.inj e; omega)).trans H7.out.cL; obtain ⟨ls, lf, ll⟩ := cells_of (l := [_]) hL7; have l0 := ls 0 _ rfl; have l1 := lf 0; obtain ⟨c9, e9⟩ := ho7.slice (ht7.trans H7.out.tb); subst e9; clear ls lf hL7 ho7 hg7 ht7 HD qL)
        refine ⟨⟨p + 1, _, left.eraseIdx a, setP out k ((p : Int) + 1), by omega, by simp, H8.out, hel, hsl, HM.out, ?_⟩, by simp [intOf]; omega⟩
        rw [show ((p + 1 : Nat) : Int) = (p : Int) + 1 by omega]
        exact HE.out
    · have hpe : p = l.length := by omega
      subst hpe
      have HE : Hid (some out = asgF l bs l.length (List.range l.length) l 0) := by rw [Nat.sub_self] at hac; exact hac
      clear hac hmem
      obtain ⟨rs1, rf1, rl1⟩ := cells_of (l := [_, _]) hA.c5
      have r10 := rs1 0 _ rfl
      have r11 := rs1 1 _ rfl
      have f10 := rf1 0
      have f11 := rf1 1
      clear rs1 rf1 hA
      go_wp2_with fail
      refine bodyPost_ret (Assign_ends (g := w.heap.size + 1 + 1) (c := .int .i64 0) (k := .int .i64 0) (set_two HA.out.c5) rfl rfl) rfl ?_
      obtain ⟨o1, o2, o3, o4, o5, o6, o7⟩ := HA.out.ord
      refine ⟨_, 0, rfl, .inr ⟨out, HE.out.symm, rfl, ?_⟩, (HA.out.bel.setCell (by show w.heap.size ≤ w.heap.size + 1 + 1; omega) _).setCell (by show w.heap.size ≤ w.heap.size + 1 + 1; omega) _⟩
      have e := ownsRow_keep2 (w' := (wr.setCell ⟨w.heap.size + 1 + 1, 0, none⟩ (.int .i64 0)).setCell ⟨w.heap.size + 1 + 1, 1, none⟩ (.int .i64 0)) HA.out.orow (fun q hq => by
        have hq' : gO = q := Option.some.inj hq
        rw [Below.heap_setCell _ _ _ _ (by show q ≠ w.heap.size + 1 + 1; omega), Below.heap_setCell _ _ _ _ (by show q ≠ w.heap.size + 1 + 1; omega)])
      have e2 := row_own e rfl
      rw [hol] at e2
      exact ⟨gO, ocap, by rw [hol]; rfl, by omega, e2⟩

end Go.Proofs.Ytkafihaajpifoaf
