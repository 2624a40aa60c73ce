import Derived.Test.YtccoobcggbbciamHX0
import Derived.ArgAppend
namespace Go.Proofs.Ytccoobcggbbciam
open Go.ChangeShapes Go.WideShapes Go.ChangeAt Go.RowKit

/- Chapter 18: how a scene lies in memory. -/
theorem infoPc : (Try.prog.info? 76).map (fun i => (i.zero, i.size, i.bytes)) = some (some (.agg #[.int .i64 0, .int .i64 0, .int .i64 0]), 3, 24) := by kernel_rfl

/-- A line: its first piece may lie anywhere in its block. -/
def LnR (W : World) (v : Value) (q : List Pc) : Prop := (v = .slice none 0 0 ∧ q = []) ∨ ∃ g o c cur, v = .slice (some ⟨g, o, none⟩) q.length c ∧ q.length ≤ c ∧ c ≤ maxLen ∧ W.heap[g]? = some (.cells cur 76 (0, 0)) ∧ o + c * 3 ≤ cur.size ∧ ∀ j u, (q.flatMap Pc.vals)[j]? = some u → cur[o + j]? = some u

theorem LnR.keep {W W' : World} {v : Value} {q : List Pc} (h : LnR W v q) (hk : ∀ g, v.ownBlock = some g → W'.heap[g]? = W.heap[g]?) : LnR W' v q := by
  rcases h with h | ⟨g, o, c, cur, rfl, h1, h2, h3, h4⟩
  · exact .inl h
  · exact .inr ⟨g, o, c, cur, rfl, h1, h2, (hk g rfl).trans h3, h4⟩
theorem LnR.ty {W : World} {v : Value} {q : List Pc} (h : LnR W v q) {g : Nat} (hg : v.ownBlock = some g) : ∃ cur, W.heap[g]? = some (.cells cur 76 (0, 0)) := by
  rcases h with ⟨rfl, -⟩ | ⟨g', o, c, cur, rfl, h1, h2, h3, h4⟩
  · cases hg
  · cases hg
    exact ⟨cur, h3⟩
theorem LnR.val {W : World} {v : Value} {q : List Pc} (h : LnR W v q) : ∃ ad c, v = .slice ad q.length c := by
  rcases h with ⟨rfl, rfl⟩ | ⟨g, o, c, cur, rfl, -⟩
  · exact ⟨_, _, rfl⟩
  · exact ⟨_, _, rfl⟩
theorem gb_none {w w' : World} (h : w.grownBy w' none) (r : Option Nat) : w.grownBy w' r := ⟨h.os, h.tape, h.output, h.size, fun k hk _ => h.block k hk (by simp)⟩
theorem gb_trans {w w' w'' : World} {r : Option Nat} (h : w.grownBy w' r) (h' : w'.grownBy w'' r) : w.grownBy w'' r := ⟨h'.os.trans h.os, h'.tape.trans h.tape, h'.output.trans h.output, Nat.le_trans h.size h'.size, fun k hk hn => (h'.block k (Nat.lt_of_lt_of_le hk h.size) hn).trans (h.block k hk hn)⟩
theorem gb_below {w w' : World} (h : Below w.heap.size w w') (r : Option Nat) : w.grownBy w' r := ⟨h.os, h.tape, h.output, h.size, fun k hk _ => h.block k hk⟩

theorem LnR.push {W : World} {v : Value} {q : List Pc} {ge : Nat} (h : LnR W v q) (x : Pc) (hc : W.heap[ge]? = some (.cells #[.int .i64 x.cm, .int .i64 x.si, .int .i64 x.lf] 76 (0, 0))) (hne : v.ownBlock ≠ some ge) (hl : q.length ≤ 1000000) : ∃ ad c w4, (Builtin.append_ #[74, 74] 74 #[v, .slice (some ⟨ge, 0, none⟩) 1 1]).run Try.prog W = .ok (.slice ad (q.length + 1) c) w4 ∧ LnR w4 (.slice ad (q.length + 1) c) (q ++ [x]) ∧ LnR w4 v q ∧ W.grownBy w4 v.ownBlock ∧ ∀ k, (Value.slice ad (q.length + 1) c).ownBlock = some k → v.ownBlock = some k ∨ W.heap.size ≤ k := by
  obtain ⟨i0, hi0, hz0, hz1, hz2⟩ := info_parts infoPc
  have hcx := (cells_of (l := x.vals) hc).1
  have ofOwn : ∀ {w4 : World} {v4 : Value}, w4.ownsRow W.heap.size 76 3 v4 (q.length + 1) ((q ++ [x]).flatMap Pc.vals) → ∃ ad c, v4 = .slice ad (q.length + 1) c ∧ LnR w4 (.slice ad (q.length + 1) c) (q ++ [x]) ∧ ∀ k, (Value.slice ad (q.length + 1) c).ownBlock = some k → W.heap.size ≤ k := by
    intro w4 v4 ho
    obtain ⟨hlen, ⟨-, h9⟩ | ⟨g, cap, cur, rfl, hb, hg, hcap, hm, hs, htk⟩⟩ := ho
    · omega
    · refine ⟨_, _, rfl, .inr ⟨g, 0, cap, cur, by rw [List.length_append]; rfl, by rw [List.length_append, List.length_singleton]; exact hcap, hm, hg, by rw [hs]; omega, fun j u hj => ?_⟩, fun k hk => by cases hk; exact hb⟩
      rw [Nat.zero_add]
      rw [← htk, List.getElem?_take] at hj
      split at hj
      · rwa [Array.getElem?_toList] at hj
      · cases hj
  rcases h with ⟨rfl, rfl⟩ | ⟨g, o, c, cur, rfl, h1, h2, h3, h4, h5⟩
  · obtain ⟨ad, c, w4, e1, e2, e3, -⟩ := own_pushA (T := 74) (E := 76) Try.underlying74 infoPc rfl (by omega) (av := .slice none 0 0) (n := 0) (xs := []) (B := W.heap.size) (W := W) ⟨rfl, .inl ⟨rfl, rfl⟩⟩ x.vals rfl hcx (fun u hu => Pc.one hu) (by omega) (by omega) (Nat.le_refl _)
    obtain ⟨ad', c', e4, e5, e6⟩ := ofOwn (w4 := w4) (v4 := .slice ad (0 + 1) c) (by simpa using e2)
    cases e4
    exact ⟨ad, c, w4, e1, e5, .inl ⟨rfl, rfl⟩, gb_below e3 _, fun k hk => .inr (e6 k hk)⟩
  · have hgl := (Array.getElem?_eq_some_iff.1 h3).1
    have hfl : (q.flatMap Pc.vals).length = q.length * 3 := flat_length Pc.vals 3 Pc.len q
    have hold : ∀ j u, (q.flatMap Pc.vals)[j]? = some u → W.cell? ((⟨g, o, none⟩ : Addr).add j) = some u := fun j u hj => by
      rw [Addr.add_lit]
      have h9 := (cells_of (l := cur.toList) (by simpa using h3)).1 (o + j) u (by simpa using h5 j u hj)
      exact h9
    by_cases hroom : q.length + 1 ≤ c
    · have hr := run_append_room_cells (P := Try.prog) (w := W) 74 74 76 i0 Try.underlying74 hi0 g o q.length c ⟨ge, 0, none⟩ 1 1 x.vals (by rw [hz1]; rfl) (fun j u hj => by rw [Addr.add_lit, Nat.zero_add]; exact hcx j u hj) (fun u hu => Pc.one hu) hroom
        (fun j hj => by
          have hj3 : j < 3 := hj
          rw [hz1, (cells_of (l := cur.toList) (by simpa using h3)).1 (o + q.length * 3 + j) cur[o + q.length * 3 + j] (by simp)]
          rfl)
        (fun j hj => (cells_of (l := cur.toList) (by simpa using h3)).2.1 _)
      rw [hz1] at hr
      have hw4 : ∃ w4, w4 = W.setCells g (o + q.length * 3) x.vals := ⟨_, rfl⟩
      obtain ⟨w4, hw4⟩ := hw4
      rw [← hw4] at hr
      have hcell : w4.heap[g]? = some (.cells (((cur.setIfInBounds (o + q.length * 3) (.int .i64 x.cm)).setIfInBounds (o + q.length * 3 + 1) (.int .i64 x.si)).setIfInBounds (o + q.length * 3 + 1 + 1) (.int .i64 x.lf)) 76 (0, 0)) := by
        rw [hw4]
        exact setCell_at (setCell_at (setCell_at h3))
      have hgb : W.grownBy w4 (some g) := by
        rw [hw4]
        exact gb_trans (gb_trans (set_grown _ _ _ _) (set_grown _ _ _ _)) (set_grown _ _ _ _)
      have hcur : ∀ (j : Nat) (u : Value), (q.flatMap Pc.vals)[j]? = some u → (((cur.setIfInBounds (o + q.length * 3) (.int .i64 x.cm)).setIfInBounds (o + q.length * 3 + 1) (.int .i64 x.si)).setIfInBounds (o + q.length * 3 + 1 + 1) (.int .i64 x.lf))[o + j]? = some u := fun j u hj => by
        have hjl := (List.getElem?_eq_some_iff.1 hj).1
        rw [Array.getElem?_setIfInBounds_ne (by omega), Array.getElem?_setIfInBounds_ne (by omega), Array.getElem?_setIfInBounds_ne (by omega)]
        exact h5 j u hj
      refine ⟨some ⟨g, o, none⟩, c, w4, hr, .inr ⟨g, o, c, _, by rw [List.length_append]; rfl, by rw [List.length_append, List.length_singleton]; exact hroom, h2, hcell, by simpa using h4, fun j u hj => ?_⟩, .inr ⟨g, o, c, _, rfl, h1, h2, hcell, by simpa using h4, hcur⟩, hgb, fun k hk => .inl hk⟩
      rw [List.flatMap_append] at hj
      by_cases hjq : j < (q.flatMap Pc.vals).length
      · rw [List.getElem?_append_left hjq] at hj
        exact hcur j u hj
      · rw [List.getElem?_append_right (by omega), hfl] at hj
        obtain ⟨k, rfl⟩ : ∃ k, j = q.length * 3 + k := ⟨j - q.length * 3, by omega⟩
        rw [show q.length * 3 + k - q.length * 3 = k by omega] at hj
        have hk3 : k < 3 := by
          have := (List.getElem?_eq_some_iff.1 hj).1
          simpa [Pc.vals] using this
        have hsz : o + q.length * 3 + 2 < cur.size := by omega
        rcases (by omega : k = 0 ∨ k = 1 ∨ k = 2) with rfl | rfl | rfl
        · rw [Array.getElem?_setIfInBounds_ne (by omega), Array.getElem?_setIfInBounds_ne (by omega), show o + (q.length * 3 + 0) = o + q.length * 3 by omega, Array.getElem?_setIfInBounds_self_of_lt (by omega)]
          simpa [Pc.vals] using hj
        · rw [Array.getElem?_setIfInBounds_ne (by omega), show o + (q.length * 3 + 1) = o + q.length * 3 + 1 by omega, Array.getElem?_setIfInBounds_self_of_lt (by simp; omega)]
          simpa [Pc.vals] using hj
        · rw [show o + (q.length * 3 + 2) = o + q.length * 3 + 1 + 1 by omega, Array.getElem?_setIfInBounds_self_of_lt (by simp; omega)]
          simpa [Pc.vals] using hj
    · have hcq : c = q.length := by omega
      obtain ⟨v4, w4, e1, e2, e3⟩ := run_append_arg_grows (P := Try.prog) (w := W) 74 74 76 i0 _ 3 24 Try.underlying74 hi0 hz0 hz1 hz2 rfl (by omega) ⟨g, o, none⟩ q.length c (q.flatMap Pc.vals) hfl hold ⟨ge, 0, none⟩ 1 1 x.vals rfl (fun j u hj => by rw [Addr.add_lit, Nat.zero_add]; exact hcx j u hj) (by omega) (by unfold maxLen; omega) (by omega)
      obtain ⟨ad', c', rfl, e5, e6⟩ := ofOwn (w4 := w4) (v4 := v4) (by simpa using e2)
      exact ⟨ad', c', w4, e1, e5, .inr ⟨g, o, c, cur, rfl, h1, h2, (e3.block g hgl (by simp)).trans h3, h4, h5⟩, gb_none e3 _, fun k hk => .inr (e6 k hk)⟩
end Go.Proofs.Ytccoobcggbbciam
namespace Go.Proofs.Ytccoobcggbbciam
open Go.ChangeShapes Go.WideShapes Go.ChangeAt Go.RowKit

theorem LnR.head {W : World} {v : Value} {p : Pc} {r : List Pc} (h : LnR W v (p :: r)) : ∃ g o c, v = .slice (some ⟨g, o, none⟩) (r.length + 1) c ∧ r.length + 1 ≤ c ∧ W.cell? ⟨g, o, none⟩ = some (.int .i64 p.cm) ∧ W.cell? ⟨g, o + 1, none⟩ = some (.int .i64 p.si) ∧ W.cell? ⟨g, o + 2, none⟩ = some (.int .i64 p.lf) ∧ W.frozen? ⟨g, o + 2, none⟩ = false ∧ g < W.heap.size ∧ LnR W (.slice (if c = 1 then some ⟨g, o, none⟩ else some ⟨g, o + 3, none⟩) r.length (c - 1)) r ∧ ∀ z, LnR (W.setCell ⟨g, o + 2, none⟩ (.int .i64 z)) v ({ p with lf := z } :: r) ∧ W.grownBy (W.setCell ⟨g, o + 2, none⟩ (.int .i64 z)) (some g) ∧ LnR (W.setCell ⟨g, o + 2, none⟩ (.int .i64 z)) (.slice (if c = 1 then some ⟨g, o, none⟩ else some ⟨g, o + 3, none⟩) r.length (c - 1)) r := by
  rcases h with ⟨-, h⟩ | ⟨g, o, c, cur, rfl, h1, h2, h3, h4, h5⟩
  · cases h
  rw [List.length_cons] at h1
  have hc := cells_of (l := cur.toList) (by simpa using h3)
  have k0 := h5 0 (.int .i64 p.cm) (by simp [Pc.vals])
  have k1 := h5 1 (.int .i64 p.si) (by simp [Pc.vals])
  have k2 := h5 2 (.int .i64 p.lf) (by simp [Pc.vals])
  have ht : ∀ (cur' : Array Value) (W' : World), W'.heap[g]? = some (.cells cur' 76 (0, 0)) → cur'.size = cur.size → (∀ j u, (r.flatMap Pc.vals)[j]? = some u → cur'[o + 3 + j]? = some u) → LnR W' (.slice (if c = 1 then some ⟨g, o, none⟩ else some ⟨g, o + 3, none⟩) r.length (c - 1)) r := by
    intro cur' W' hh hs hj
    by_cases e : c = 1
    · have : r = [] := List.eq_nil_of_length_eq_zero (by omega)
      subst this
      rw [if_pos e]
      exact .inr ⟨g, o, c - 1, cur', rfl, by simp, by omega, hh, by omega, fun j u hj => by simp at hj⟩
    · rw [if_neg e]
      exact .inr ⟨g, o + 3, c - 1, cur', rfl, by omega, by omega, hh, by omega, hj⟩
  have htl : ∀ j u, (r.flatMap Pc.vals)[j]? = some u → cur[o + 3 + j]? = some u := fun j u hj => by
    have h9 := h5 (3 + j) u (by
      rw [List.flatMap_cons, List.getElem?_append_right (by rw [Pc.len]; omega), Pc.len, show 3 + j - 3 = j by omega]
      exact hj)
    rwa [show o + (3 + j) = o + 3 + j by omega] at h9
  have hset : ∀ z, (W.setCell ⟨g, o + 2, none⟩ (.int .i64 z)).heap[g]? = some (.cells (cur.setIfInBounds (o + 2) (.int .i64 z)) 76 (0, 0)) := fun z => setCell_at h3
  have hz2 : o + 2 < cur.size := by omega
  refine ⟨g, o, c, rfl, h1, hc.1 o _ (by simpa using k0), hc.1 (o + 1) _ (by simpa using k1), hc.1 (o + 2) _ (by simpa using k2), hc.2.1 _, (Array.getElem?_eq_some_iff.1 h3).1, ht cur W h3 rfl htl, fun z => ⟨.inr ⟨g, o, c, _, rfl, h1, h2, hset z, by simpa using h4, fun j u hj => ?_⟩, set_grown _ _ _ _, ht _ _ (hset z) (by simp) (fun j u hj => ?_)⟩⟩
  · by_cases e : j = 2
    · subst e
      rw [Array.getElem?_setIfInBounds_self_of_lt hz2]
      simpa [Pc.vals] using hj
    · rw [Array.getElem?_setIfInBounds_ne (by omega)]
      refine h5 j u ?_
      rcases (by omega : j = 0 ∨ j = 1 ∨ 3 ≤ j) with rfl | rfl | h9
      · simpa [Pc.vals] using hj
      · simpa [Pc.vals] using hj
      · rw [List.flatMap_cons, List.getElem?_append_right (by rw [Pc.len]; omega), Pc.len] at hj ⊢
        exact hj
  · rw [Array.getElem?_setIfInBounds_ne (by omega)]
    exact htl j u hj

/-- A list of when parts were done, in a row of its own. -/
def EnR (W : World) (v : Value) (r : List Int) : Prop := ∃ g c ex, v = .slice (some ⟨g, 0, none⟩) r.length c ∧ r.length ≤ c ∧ W.heap[g]? = some (.cells (r.map (Value.int .i64) ++ ex).toArray 3 (0, 0))
def Apt (a b : Value) : Prop := ∀ g, a.ownBlock = some g → b.ownBlock ≠ some g
structure Ad where
  w : World
  gs : Nat
  gJ : Nat
  gM : Nat
  gE : Nat
  gp : Nat
  gt : Nat
  pv : Value
  tv : Value
  l : List Pa
  tk : List Int
  m : Nat
  F : List (Nat × Obj)
def Ad.n (A : Ad) : Nat := A.l.length
def Ad.wf (A : Ad) : Value := .func (Fn.func 32) #[] #[.pointer (some ⟨A.gt, 0, none⟩), .pointer (some ⟨A.gp, 0, none⟩)]

/-- How a scene lies. -/
structure SW (A : Ad) (W : World) (jv mv ev : List Value) (s : Sc) : Prop where
  bel : Below A.w.heap.size A.w W
  sc : W.heap[A.gs]? = some (.cells #[A.pv, A.wf, .slice (some ⟨A.gJ, 0, none⟩) A.l.length A.l.length, .slice (some ⟨A.gM, 0, none⟩) A.l.length A.l.length, .int .i64 s.un, .slice (some ⟨A.gE, 0, none⟩) A.m A.m] 58 (0, 0))
  jr : W.heap[A.gJ]? = some (.cells jv.toArray 74 (0, 0))
  mr : W.heap[A.gM]? = some (.cells mv.toArray 74 (0, 0))
  er : W.heap[A.gE]? = some (.cells ev.toArray 24 (0, 0))
  bp : W.heap[A.gp]? = some (.cells #[A.pv] 22 (0, 0))
  bt : W.heap[A.gt]? = some (.cells #[A.tv] 24 (0, 0))
  lj : jv.length = A.l.length
  lm : mv.length = A.l.length
  le : ev.length = A.m
  ljs : ∀ (i : Nat) (v : Value), jv[i]? = some v → LnR W v (s.jobs.getD i [])
  lms : ∀ (i : Nat) (v : Value), mv[i]? = some v → LnR W v (s.mail.getD i [])
  ens : ∀ (i : Nat) (v : Value), ev[i]? = some v → EnR W v (s.ends.getD i [])
  aj : jv.Pairwise Apt
  am : mv.Pairwise Apt
  ax : ∀ a ∈ jv, ∀ b ∈ mv, Apt a b
  ea : ev.Pairwise Apt
  ne : A.gJ ≠ A.gM
  low : A.w.heap.size ≤ A.gs ∧ A.w.heap.size ≤ A.gJ ∧ A.w.heap.size ≤ A.gM
  lov : ∀ v ∈ jv ++ mv ++ ev, ∀ g, v.ownBlock = some g → A.w.heap.size ≤ g
  fr : ∀ p ∈ A.F, W.heap[p.1]? = some p.2
  far : ∀ p ∈ A.F, p.1 ≠ A.gs ∧ p.1 ≠ A.gJ ∧ p.1 ≠ A.gM ∧ ∀ v ∈ jv ++ mv ++ ev, v.ownBlock ≠ some p.1

theorem EnR.ty {W : World} {v : Value} {r : List Int} (h : EnR W v r) {g : Nat} (hg : v.ownBlock = some g) : ∃ cur, W.heap[g]? = some (.cells cur 3 (0, 0)) := by
  obtain ⟨g', c, ex, rfl, -, h3⟩ := h
  cases hg
  exact ⟨_, h3⟩
theorem EnR.keep {W W' : World} {v : Value} {r : List Int} (h : EnR W v r) (hk : ∀ g, v.ownBlock = some g → W'.heap[g]? = W.heap[g]?) : EnR W' v r := by
  obtain ⟨g, c, ex, rfl, h1, h3⟩ := h
  exact ⟨g, c, ex, rfl, h1, (hk g rfl).trans h3⟩
theorem ty_ne {W : World} {a b : Nat} {ca cb : Array Value} {ta tb : TypeId} {fa fb : Nat × Nat} (ha : W.heap[a]? = some (.cells ca ta fa)) (hb : W.heap[b]? = some (.cells cb tb fb)) (h : ta ≠ tb) : a ≠ b := fun e => by
  subst e
  rw [ha] at hb
  cases hb
  exact h rfl
theorem heap_lt {W : World} {a : Nat} {o : Obj} (ha : W.heap[a]? = some o) : a < W.heap.size := (Array.getElem?_eq_some_iff.1 ha).1

theorem SW.grow {A : Ad} {W W' : World} {jv mv ev : List Value} {s : Sc} (h : SW A W jv mv ev s) (hb : Below W.heap.size W W') : SW A W' jv mv ev s := by
  have k : ∀ {a : Nat} {o : Obj}, W.heap[a]? = some o → W'.heap[a]? = some o := fun ha => (hb.block _ (heap_lt ha)).trans ha
  refine ⟨below_seq h.bel hb, k h.sc, k h.jr, k h.mr, k h.er, k h.bp, k h.bt, h.lj, h.lm, h.le, fun i v hv => ?_, fun i v hv => ?_, fun i v hv => ?_, h.aj, h.am, h.ax, h.ea, h.ne, h.low, h.lov, fun p hp => k (h.fr p hp), h.far⟩
  · refine (h.ljs i v hv).keep fun g hg => ?_
    obtain ⟨c, hc⟩ := (h.ljs i v hv).ty hg
    exact hb.block _ (heap_lt hc)
  · refine (h.lms i v hv).keep fun g hg => ?_
    obtain ⟨c, hc⟩ := (h.lms i v hv).ty hg
    exact hb.block _ (heap_lt hc)
  · refine (h.ens i v hv).keep fun g hg => ?_
    obtain ⟨c, hc⟩ := (h.ens i v hv).ty hg
    exact hb.block _ (heap_lt hc)

theorem Apt.symm {a b : Value} (h : Apt a b) : Apt b a := fun g h1 h2 => h g h2 h1
theorem pw_at {jv : List Value} (h : jv.Pairwise Apt) {i j : Nat} {u v : Value} (hij : i ≠ j) (hu : jv[i]? = some u) (hv : jv[j]? = some v) : Apt u v := by
  obtain ⟨h1, h2⟩ := List.getElem?_eq_some_iff.1 hu
  obtain ⟨h3, h4⟩ := List.getElem?_eq_some_iff.1 hv
  have pw := List.pairwise_iff_getElem.1 h
  rcases Nat.lt_or_gt_of_ne hij with h9 | h9
  · have h8 := pw i j h1 h3 h9
    rwa [h2, h4] at h8
  · have h8 := pw j i h3 h1 h9
    rw [h2, h4] at h8
    exact h8.symm
theorem pw_set {jv : List Value} {i : Nat} {v' : Value} (h : jv.Pairwise Apt) (hn : ∀ (j : Nat) (u : Value), j ≠ i → jv[j]? = some u → Apt v' u) : (jv.set i v').Pairwise Apt := by
  rw [List.pairwise_iff_getElem]
  intro a b ha hb hab
  have hu := List.getElem?_eq_getElem ha
  have hv := List.getElem?_eq_getElem hb
  generalize (jv.set i v')[a] = u at *
  generalize (jv.set i v')[b] = v at *
  rcases set_get hu with ⟨e1, e2⟩ | ⟨h1, hu1⟩
  · rcases set_get hv with ⟨e3, e4⟩ | ⟨h2, hv1⟩
    · omega
    · rw [e2]
      exact hn b v (by omega) hv1
  · rcases set_get hv with ⟨e3, e4⟩ | ⟨h2, hv1⟩
    · rw [e4]
      exact (hn a u h1 hu1).symm
    · exact pw_at h (by omega) hu1 hv1

/-- One line's block alone changes. -/
theorem SW.lineJ {A : Ad} {W W' : World} {jv mv ev : List Value} {s : Sc} (h : SW A W jv mv ev s) {i : Nat} {v : Value} (hv : jv[i]? = some v) (hi : i < s.jobs.length) {q : List Pc} (hg : W.grownBy W' v.ownBlock) (hl : LnR W' v q) : SW A W' jv mv ev { s with jobs := s.jobs.set i q } := by
  have hold := h.ljs i v hv
  have k : ∀ {a : Nat} {c : Array Value} {t : TypeId}, t ≠ 76 → W.heap[a]? = some (.cells c t (0, 0)) → W'.heap[a]? = some (.cells c t (0, 0)) := fun {a c t} ht ha => by
    refine (hg.block a (heap_lt ha) fun e => ?_).trans ha
    obtain ⟨c', hc'⟩ := hold.ty e.symm
    exact ty_ne ha hc' ht rfl
  refine ⟨?_, k (by decide) h.sc, k (by decide) h.jr, k (by decide) h.mr, k (by decide) h.er, k (by decide) h.bp, k (by decide) h.bt, h.lj, h.lm, h.le, fun j u hu => ?_, fun j u hu => ?_, fun j u hu => ?_, h.aj, h.am, h.ax, h.ea, h.ne, h.low, h.lov, fun p hp => ?_, h.far⟩
  · refine ⟨hg.os.trans h.bel.os, hg.tape.trans h.bel.tape, hg.output.trans h.bel.output, Nat.le_trans h.bel.size hg.size, fun a ha => (hg.block a (Nat.lt_of_lt_of_le ha h.bel.size) fun e => ?_).trans (h.bel.block a ha)⟩
    have := h.lov v (by simp [List.mem_of_getElem? hv]) a e.symm
    omega
  · by_cases e : i = j
    · subst e
      rw [hv] at hu
      cases hu
      rw [List.getD_eq_getElem?_getD, List.getElem?_set_self hi]
      exact hl
    · rw [List.getD_eq_getElem?_getD, List.getElem?_set_ne e, ← List.getD_eq_getElem?_getD]
      refine (h.ljs j u hu).keep fun g hg' => ?_
      obtain ⟨c, hc⟩ := (h.ljs j u hu).ty hg'
      refine hg.block g (heap_lt hc) fun e2 => ?_
      exact pw_at h.aj e hv hu g e2.symm hg'
  · refine (h.lms j u hu).keep fun g hg' => ?_
    obtain ⟨c, hc⟩ := (h.lms j u hu).ty hg'
    refine hg.block g (heap_lt hc) fun e2 => ?_
    exact h.ax v (List.mem_of_getElem? hv) u (List.mem_of_getElem? hu) g e2.symm hg'
  · refine (h.ens j u hu).keep fun g hg' => ?_
    obtain ⟨c, hc⟩ := (h.ens j u hu).ty hg'
    exact (k (by decide) hc).trans hc.symm
  · refine (hg.block p.1 (heap_lt (h.fr p hp)) fun e => ?_).trans (h.fr p hp)
    exact (h.far p hp).2.2.2 v (by simp [List.mem_of_getElem? hv]) e.symm

/-- A line gets another value. -/
theorem SW.putJ {A : Ad} {W : World} {jv mv ev : List Value} {s : Sc} (h : SW A W jv mv ev s) {i : Nat} {v v' : Value} (hv : jv[i]? = some v) (hi : i < s.jobs.length) {q : List Pc} (hl : LnR W v' q) (hb : ∀ g, v'.ownBlock = some g → v.ownBlock = some g ∨ (A.w.heap.size ≤ g ∧ (∀ u ∈ jv ++ mv ++ ev, u.ownBlock ≠ some g) ∧ ∀ p ∈ A.F, p.1 ≠ g)) : SW A (W.setCell ⟨A.gJ, i, none⟩ v') (jv.set i v') mv ev { s with jobs := s.jobs.set i q } := by
  have k : ∀ {a : Nat} {o : Obj}, a ≠ A.gJ → W.heap[a]? = some o → (W.setCell ⟨A.gJ, i, none⟩ v').heap[a]? = some o := fun {a o} ha h9 => by
    rw [Below.heap_setCell _ _ _ _ ha]; exact h9
  have haj : ∀ (j : Nat) (u : Value), j ≠ i → jv[j]? = some u → Apt v' u := by
    intro j u hj hu g hg
    rcases hb g hg with h1 | ⟨-, h2, -⟩
    · exact pw_at h.aj (Ne.symm hj) hv hu g h1
    · exact h2 u (by simp [List.mem_of_getElem? hu])
  have hax : ∀ b ∈ mv, Apt v' b := by
    intro u hu g hg
    rcases hb g hg with h1 | ⟨-, h2, -⟩
    · exact h.ax v (List.mem_of_getElem? hv) u hu g h1
    · exact h2 u (by simp [hu])
  have mem : ∀ u ∈ jv.set i v' ++ mv ++ ev, u = v' ∨ u ∈ jv ++ mv ++ ev := fun u hu => by
    rcases List.mem_append.1 hu with hu | hu
    · rcases List.mem_append.1 hu with hu | hu
      · rcases List.mem_or_eq_of_mem_set hu with hu | hu
        · exact .inr (by simp [hu])
        · exact .inl hu
      · exact .inr (by simp [hu])
    · exact .inr (by simp [hu])
  refine ⟨h.bel.setCell h.low.2.1 _, k (ty_ne h.sc h.jr (by decide)) h.sc, ?_, k (Ne.symm h.ne) h.mr, k (ty_ne h.er h.jr (by decide)) h.er, k (ty_ne h.bp h.jr (by decide)) h.bp, k (ty_ne h.bt h.jr (by decide)) h.bt, by rw [List.length_set]; exact h.lj, h.lm, h.le, fun j u hu => ?_, fun j u hu => ?_, fun j u hu => ?_, pw_set h.aj haj, h.am, fun a ha b hb' => ?_, h.ea, h.ne, h.low, fun u hu g hg => ?_, fun p hp => ?_, fun p hp => ?_⟩
  · rw [setCell_list h.jr]
  · have kk : ∀ {u : Value} {q : List Pc}, LnR W u q → LnR (W.setCell ⟨A.gJ, i, none⟩ v') u q := fun {u q} hh => hh.keep fun g hg => by
      obtain ⟨c, hc⟩ := hh.ty hg
      exact Below.heap_setCell _ _ _ _ (ty_ne hc h.jr (by decide))
    rcases set_get hu with ⟨rfl, rfl⟩ | ⟨hne, hu⟩
    · rw [List.getD_eq_getElem?_getD, List.getElem?_set_self hi]
      exact kk hl
    · rw [List.getD_eq_getElem?_getD, List.getElem?_set_ne (Ne.symm hne), ← List.getD_eq_getElem?_getD]
      exact kk (h.ljs j u hu)
  · refine (h.lms j u hu).keep fun g hg => ?_
    obtain ⟨c, hc⟩ := (h.lms j u hu).ty hg
    exact Below.heap_setCell _ _ _ _ (ty_ne hc h.jr (by decide))
  · refine (h.ens j u hu).keep fun g hg => ?_
    obtain ⟨c, hc⟩ := (h.ens j u hu).ty hg
    exact Below.heap_setCell _ _ _ _ (ty_ne hc h.jr (by decide))
  · rcases List.mem_or_eq_of_mem_set ha with ha | rfl
    · exact h.ax a ha b hb'
    · exact hax b hb'
  · rcases mem u hu with rfl | hu
    · rcases hb g hg with h1 | ⟨h1, -⟩
      · exact h.lov v (by simp [List.mem_of_getElem? hv]) g h1
      · exact h1
    · exact h.lov u hu g hg
  · exact k (h.far p hp).2.1 (h.fr p hp)
  · obtain ⟨f1, f2, f3, f4⟩ := h.far p hp
    refine ⟨f1, f2, f3, fun u hu => ?_⟩
    rcases mem u hu with rfl | hu
    · intro e
      rcases hb p.1 e with h1 | ⟨-, -, h1⟩
      · exact f4 v (by simp [List.mem_of_getElem? hv]) h1
      · exact h1 p hp rfl
    · exact f4 u hu
end Go.Proofs.Ytccoobcggbbciam
namespace Go.Proofs.Ytccoobcggbbciam
open Go.ChangeShapes Go.WideShapes Go.ChangeAt Go.RowKit

/-- One line's block alone changes. -/
theorem SW.lineM {A : Ad} {W W' : World} {mv jv ev : List Value} {s : Sc} (h : SW A W jv mv ev s) {i : Nat} {v : Value} (hv : mv[i]? = some v) (hi : i < s.mail.length) {q : List Pc} (hg : W.grownBy W' v.ownBlock) (hl : LnR W' v q) : SW A W' jv mv ev { s with mail := s.mail.set i q } := by
  have hold := h.lms i v hv
  have k : ∀ {a : Nat} {c : Array Value} {t : TypeId}, t ≠ 76 → W.heap[a]? = some (.cells c t (0, 0)) → W'.heap[a]? = some (.cells c t (0, 0)) := fun {a c t} ht ha => by
    refine (hg.block a (heap_lt ha) fun e => ?_).trans ha
    obtain ⟨c', hc'⟩ := hold.ty e.symm
    exact ty_ne ha hc' ht rfl
  refine ⟨?_, k (by decide) h.sc, k (by decide) h.jr, k (by decide) h.mr, k (by decide) h.er, k (by decide) h.bp, k (by decide) h.bt, h.lj, h.lm, h.le, fun j u hu => ?_, fun j u hu => ?_, fun j u hu => ?_, h.aj, h.am, h.ax, h.ea, h.ne, h.low, h.lov, fun p hp => ?_, h.far⟩
  · refine ⟨hg.os.trans h.bel.os, hg.tape.trans h.bel.tape, hg.output.trans h.bel.output, Nat.le_trans h.bel.size hg.size, fun a ha => (hg.block a (Nat.lt_of_lt_of_le ha h.bel.size) fun e => ?_).trans (h.bel.block a ha)⟩
    have := h.lov v (by simp [List.mem_of_getElem? hv]) a e.symm
    omega
  · refine (h.ljs j u hu).keep fun g hg' => ?_
    obtain ⟨c, hc⟩ := (h.ljs j u hu).ty hg'
    refine hg.block g (heap_lt hc) fun e2 => ?_
    exact (h.ax u (List.mem_of_getElem? hu) v (List.mem_of_getElem? hv)).symm g e2.symm hg'
  · by_cases e : i = j
    · subst e
      rw [hv] at hu
      cases hu
      rw [List.getD_eq_getElem?_getD, List.getElem?_set_self hi]
      exact hl
    · rw [List.getD_eq_getElem?_getD, List.getElem?_set_ne e, ← List.getD_eq_getElem?_getD]
      refine (h.lms j u hu).keep fun g hg' => ?_
      obtain ⟨c, hc⟩ := (h.lms j u hu).ty hg'
      refine hg.block g (heap_lt hc) fun e2 => ?_
      exact pw_at h.am e hv hu g e2.symm hg'
  · refine (h.ens j u hu).keep fun g hg' => ?_
    obtain ⟨c, hc⟩ := (h.ens j u hu).ty hg'
    exact (k (by decide) hc).trans hc.symm
  · refine (hg.block p.1 (heap_lt (h.fr p hp)) fun e => ?_).trans (h.fr p hp)
    exact (h.far p hp).2.2.2 v (by simp [List.mem_of_getElem? hv]) e.symm

/-- A line gets another value. -/
theorem SW.putM {A : Ad} {W : World} {mv jv ev : List Value} {s : Sc} (h : SW A W jv mv ev s) {i : Nat} {v v' : Value} (hv : mv[i]? = some v) (hi : i < s.mail.length) {q : List Pc} (hl : LnR W v' q) (hb : ∀ g, v'.ownBlock = some g → v.ownBlock = some g ∨ (A.w.heap.size ≤ g ∧ (∀ u ∈ jv ++ mv ++ ev, u.ownBlock ≠ some g) ∧ ∀ p ∈ A.F, p.1 ≠ g)) : SW A (W.setCell ⟨A.gM, i, none⟩ v') jv (mv.set i v') ev { s with mail := s.mail.set i q } := by
  have k : ∀ {a : Nat} {o : Obj}, a ≠ A.gM → W.heap[a]? = some o → (W.setCell ⟨A.gM, i, none⟩ v').heap[a]? = some o := fun {a o} ha h9 => by
    rw [Below.heap_setCell _ _ _ _ ha]; exact h9
  have ham : ∀ (j : Nat) (u : Value), j ≠ i → mv[j]? = some u → Apt v' u := by
    intro j u hj hu g hg
    rcases hb g hg with h1 | ⟨-, h2, -⟩
    · exact pw_at h.am (Ne.symm hj) hv hu g h1
    · exact h2 u (by simp [List.mem_of_getElem? hu])
  have hax : ∀ b ∈ jv, Apt v' b := by
    intro u hu g hg
    rcases hb g hg with h1 | ⟨-, h2, -⟩
    · exact (h.ax u hu v (List.mem_of_getElem? hv)).symm g h1
    · exact h2 u (by simp [hu])
  have mem : ∀ u ∈ jv ++ mv.set i v' ++ ev, u = v' ∨ u ∈ jv ++ mv ++ ev := fun u hu => by
    rcases List.mem_append.1 hu with hu | hu
    · rcases List.mem_append.1 hu with hu | hu
      · exact .inr (by simp [hu])
      · rcases List.mem_or_eq_of_mem_set hu with hu | hu
        · exact .inr (by simp [hu])
        · exact .inl hu
    · exact .inr (by simp [hu])
  refine ⟨h.bel.setCell h.low.2.2 _, k (ty_ne h.sc h.mr (by decide)) h.sc, k h.ne h.jr, ?_, k (ty_ne h.er h.mr (by decide)) h.er, k (ty_ne h.bp h.mr (by decide)) h.bp, k (ty_ne h.bt h.mr (by decide)) h.bt, h.lj, by rw [List.length_set]; exact h.lm, h.le, fun j u hu => ?_, fun j u hu => ?_, fun j u hu => ?_, h.aj, pw_set h.am ham, fun a ha b hb' => ?_, h.ea, h.ne, h.low, fun u hu g hg => ?_, fun p hp => ?_, fun p hp => ?_⟩
  · rw [setCell_list h.mr]
  · refine (h.ljs j u hu).keep fun g hg => ?_
    obtain ⟨c, hc⟩ := (h.ljs j u hu).ty hg
    exact Below.heap_setCell _ _ _ _ (ty_ne hc h.mr (by decide))
  · have kk : ∀ {u : Value} {q : List Pc}, LnR W u q → LnR (W.setCell ⟨A.gM, i, none⟩ v') u q := fun {u q} hh => hh.keep fun g hg => by
      obtain ⟨c, hc⟩ := hh.ty hg
      exact Below.heap_setCell _ _ _ _ (ty_ne hc h.mr (by decide))
    rcases set_get hu with ⟨rfl, rfl⟩ | ⟨hne, hu⟩
    · rw [List.getD_eq_getElem?_getD, List.getElem?_set_self hi]
      exact kk hl
    · rw [List.getD_eq_getElem?_getD, List.getElem?_set_ne (Ne.symm hne), ← List.getD_eq_getElem?_getD]
      exact kk (h.lms j u hu)
  · refine (h.ens j u hu).keep fun g hg => ?_
    obtain ⟨c, hc⟩ := (h.ens j u hu).ty hg
    exact Below.heap_setCell _ _ _ _ (ty_ne hc h.mr (by decide))
  · rcases List.mem_or_eq_of_mem_set hb' with hb' | rfl
    · exact h.ax a ha b hb'
    · exact (hax a ha).symm
  · rcases mem u hu with rfl | hu
    · rcases hb g hg with h1 | ⟨h1, -⟩
      · exact h.lov v (by simp [List.mem_of_getElem? hv]) g h1
      · exact h1
    · exact h.lov u hu g hg
  · exact k (h.far p hp).2.2.1 (h.fr p hp)
  · obtain ⟨f1, f2, f3, f4⟩ := h.far p hp
    refine ⟨f1, f2, f3, fun u hu => ?_⟩
    rcases mem u hu with rfl | hu
    · intro e
      rcases hb p.1 e with h1 | ⟨-, -, h1⟩
      · exact f4 v (by simp [List.mem_of_getElem? hv]) h1
      · exact h1 p hp rfl
    · exact f4 u hu

/-- Which message is under way is stored. -/
theorem SW.setUn {A : Ad} {W : World} {jv mv ev : List Value} {s : Sc} (h : SW A W jv mv ev s) (z : Int) : SW A (W.setCell ⟨A.gs, 4, none⟩ (.int .i64 z)) jv mv ev { s with un := z } := by
  have k : ∀ {a : Nat} {o : Obj}, a ≠ A.gs → W.heap[a]? = some o → (W.setCell ⟨A.gs, 4, none⟩ (.int .i64 z)).heap[a]? = some o := fun {a o} ha h9 => by
    rw [Below.heap_setCell _ _ _ _ ha]; exact h9
  refine ⟨h.bel.setCell h.low.1 _, ?_, k (ty_ne h.jr h.sc (by decide)) h.jr, k (ty_ne h.mr h.sc (by decide)) h.mr, k (ty_ne h.er h.sc (by decide)) h.er, k (ty_ne h.bp h.sc (by decide)) h.bp, k (ty_ne h.bt h.sc (by decide)) h.bt, h.lj, h.lm, h.le, fun j u hu => ?_, fun j u hu => ?_, fun j u hu => ?_, h.aj, h.am, h.ax, h.ea, h.ne, h.low, h.lov, fun p hp => ?_, h.far⟩
  · rw [setCell_at h.sc]; rfl
  · refine (h.ljs j u hu).keep fun g hg => ?_
    obtain ⟨c, hc⟩ := (h.ljs j u hu).ty hg
    exact Below.heap_setCell _ _ _ _ (ty_ne hc h.sc (by decide))
  · refine (h.lms j u hu).keep fun g hg => ?_
    obtain ⟨c, hc⟩ := (h.lms j u hu).ty hg
    exact Below.heap_setCell _ _ _ _ (ty_ne hc h.sc (by decide))
  · refine (h.ens j u hu).keep fun g hg => ?_
    obtain ⟨c, hc⟩ := (h.ens j u hu).ty hg
    exact Below.heap_setCell _ _ _ _ (ty_ne hc h.sc (by decide))
  · exact k (h.far p hp).1 (h.fr p hp)

/-- When a part was done for a coming is stored. -/
theorem SW.setEnd {A : Ad} {W : World} {jv mv ev : List Value} {s : Sc} (h : SW A W jv mv ev s) {cm : Nat} {g c : Nat} {k : Nat} (hv : ev[cm]? = some (.slice (some ⟨g, 0, none⟩) k c)) (hm : cm < s.ends.length) (i : Nat) (z : Int) (hi : i < (s.ends.getD cm []).length) : SW A (W.setCell ⟨g, i, none⟩ (.int .i64 z)) jv mv ev { s with ends := s.ends.set cm ((s.ends.getD cm []).set i z) } := by
  obtain ⟨g', c', ex, he, hc, hh⟩ := h.ens cm _ hv
  cases he
  have kk : ∀ {a : Nat} {o : Obj}, a ≠ g → W.heap[a]? = some o → (W.setCell ⟨g, i, none⟩ (.int .i64 z)).heap[a]? = some o := fun {a o} ha h9 => by
    rw [Below.heap_setCell _ _ _ _ ha]; exact h9
  have hmem : (Value.slice (some ⟨g, 0, none⟩) (s.ends.getD cm []).length c) ∈ ev := List.mem_of_getElem? hv
  refine ⟨h.bel.setCell (show A.w.heap.size ≤ g from h.lov _ (List.mem_append_right _ hmem) g rfl) _, kk (ty_ne h.sc hh (by decide)) h.sc, kk (ty_ne h.jr hh (by decide)) h.jr, kk (ty_ne h.mr hh (by decide)) h.mr, kk (ty_ne h.er hh (by decide)) h.er, kk (ty_ne h.bp hh (by decide)) h.bp, kk (ty_ne h.bt hh (by decide)) h.bt, h.lj, h.lm, h.le, fun j u hu => ?_, fun j u hu => ?_, fun j u hu => ?_, h.aj, h.am, h.ax, h.ea, h.ne, h.low, h.lov, fun p hp => ?_, h.far⟩
  · refine (h.ljs j u hu).keep fun g hg => ?_
    obtain ⟨c, hc⟩ := (h.ljs j u hu).ty hg
    exact Below.heap_setCell _ _ _ _ (ty_ne hc hh (by decide))
  · refine (h.lms j u hu).keep fun g hg => ?_
    obtain ⟨c, hc⟩ := (h.lms j u hu).ty hg
    exact Below.heap_setCell _ _ _ _ (ty_ne hc hh (by decide))
  · by_cases e : cm = j
    · subst e
      rw [hv] at hu
      cases hu
      have e9 : (s.ends.set cm ((s.ends.getD cm []).set i z)).getD cm [] = (s.ends.getD cm []).set i z := getD_some (List.getElem?_set_self hm)
      show EnR _ _ ((s.ends.set cm ((s.ends.getD cm []).set i z)).getD cm [])
      rw [e9]
      refine ⟨g, c, ex, by simp, by simpa using hc, ?_⟩
      show (W.setCell ⟨g, i, none⟩ (.int .i64 z)).heap[g]? = some (.cells ((((s.ends.getD cm []).set i z)).map (Value.int .i64) ++ ex).toArray 3 (0, 0))
      rw [setCell_list hh, List.map_set, List.set_append_left _ _ (by rw [List.length_map]; exact hi)]
    · have e9 : (s.ends.set cm ((s.ends.getD cm []).set i z)).getD j [] = s.ends.getD j [] := by
        rw [List.getD_eq_getElem?_getD, List.getElem?_set_ne e, ← List.getD_eq_getElem?_getD]
      show EnR _ _ ((s.ends.set cm ((s.ends.getD cm []).set i z)).getD j [])
      rw [e9]
      refine (h.ens j u hu).keep fun g2 hg => ?_
      exact Below.heap_setCell _ _ _ _ (fun e2 => pw_at h.ea e hv hu g rfl (by rw [hg, e2]))
  · exact kk (fun e2 => (h.far p hp).2.2.2 _ (List.mem_append_right _ hmem) (by rw [e2]; rfl)) (h.fr p hp)
end Go.Proofs.Ytccoobcggbbciam
