import Derived.Test.YtekbkcgpjkecbalDoorSQA
import Derived.Test.YtekbkcgpjkecbalDoorZC1
import Derived.Test.YtekbkcgpjkecbalDoorXS
import Derived.Test.YtekbkcgpjkecbalDoorSPV
import Derived.Test.YtekbkcgpjkecbalDoorZC3
namespace Go.Proofs.YtekbkcgpjkecbalDoor.S8
open Go.ChangeShapes Go.WideShapes Go.ChangeAt Go.RowKit

/-- Where a number stands in a row that rises, or would. -/
theorem SearchD_any (W : World) (fs : List Int) (vf : Value) (t : Int) (h : RowSl nuV W fs vf) (ha : fs.Pairwise (· < ·)) (hl : fs.length ≤ 1000000) :
    Calls Tryd.prog 37 #[vf, .int .i64 t] W fun r W' => r = .returned (.int .i64 ((fs.countP (fun y => !decide (t ≤ y)) : Nat) : Int)) ∧ Below W.heap.size W W' := by
  obtain ⟨ad, c, rfl, -, hcap, hrow⟩ := h
  rcases hrow with rfl | ⟨b, o, rfl, hrow⟩
  · have hc := Any.sort_SearchInts_none lay_sints ad c t W
    change Calls Tryd.prog 37 _ _ _ at hc
    exact hc
  · by_cases h0 : fs.length = 0
    · have e : fs = [] := List.length_eq_zero_iff.1 h0
      subst e
      have hc := Any.sort_SearchInts_none lay_sints (some ⟨b, o, none⟩) c t W
      change Calls Tryd.prog 37 _ _ _ at hc
      exact hc
    have c0 := nuV_at hrow (j := 0) (x := fs[0]'(by omega)) (by simp)
    have hc := Any.sort_SearchInts lay_sints b o c fs.toArray t W (fun i hi => by
      rw [nuV_at hrow (x := fs.toArray[i]!) (by simp at hi; simp [hi])]) (World.block_lt_of_cell? _ _ c0) (by simp; omega) (fun i j hij hj hi => by
      simp at hj
      have hi' : i < fs.length := by omega
      simp [hi', hj] at hi ⊢
      rcases Nat.lt_or_eq_of_le hij with hlt | rfl
      · have := List.pairwise_iff_getElem.1 ha i j hi' hj hlt
        omega
      · exact hi)
    change Calls Tryd.prog 37 _ _ _ at hc
    simpa using hc

theorem count_at {fs : List Int} (ha : fs.Pairwise (· < ·)) (t : Int) : ∀ k, k = fs.countP (fun y => !decide (t ≤ y)) → (k ≤ fs.length ∧ ((k < fs.length ∧ ∀ h : k < fs.length, fs[k] = t) ↔ t ∈ fs)) := by
  induction fs with
  | nil => intro k hk; simp at hk; subst hk; simp
  | cons x r ih =>
    intro k hk
    obtain ⟨h1, h2⟩ := List.pairwise_cons.1 ha
    obtain ⟨g1, g2⟩ := ih h2 _ rfl
    by_cases hx : t ≤ x
    · have hz : r.countP (fun y => !decide (t ≤ y)) = 0 := by
        rw [List.countP_eq_zero]
        intro y hy
        have := h1 y hy
        simp; omega
      rw [List.countP_cons_of_neg (by simp [hx]), hz] at hk
      subst hk
      refine ⟨by simp, ?_⟩
      constructor
      · rintro ⟨-, h⟩
        have := h (by simp)
        simp at this
        simp [this]
      · intro hm
        refine ⟨by simp, fun _ => ?_⟩
        rcases List.mem_cons.1 hm with e | hm
        · simp [e]
        · have := h1 t hm; omega
    · rw [List.countP_cons_of_pos (by simp; omega)] at hk
      subst hk
      refine ⟨by simp; omega, ?_⟩
      have hne : ¬ t = x := by omega
      simp [hne]
      exact g2

/- The document's play. -/
structure DR (l : List Jb) (q : StR) (sf fr : List Int) : Prop where
  ls : sf.length = l.length
  lf : fr.length = l.length
  each : ∀ i, i < l.length → (L q.s.ends i = -1 ∧ 0 < L q.s.left i ∧ L q.s.left i = (J l i).c - L sf i - L fr i ∧ L q.u i = L fr i ∧ 0 ≤ L sf i ∧ 0 ≤ L fr i) ∨ (1 ≤ L q.s.ends i ∧ L q.s.left i = 0 ∧ 0 ≤ L sf i ∧ L sf i ≤ 20000 ∧ 0 ≤ L fr i ∧ L fr i ≤ 20000)

theorem L_rep {n i : Nat} {v : Int} (h : i < n) : L (List.replicate n v) i = v := by
  unfold L
  rw [List.getD_eq_getElem?_getD, List.getElem?_replicate, if_pos h]
  rfl

theorem DR.init {l : List Jb} (hl : ∀ x ∈ l, okJ x) : DR l (StR.init l) (List.replicate l.length 0) (List.replicate l.length 0) := by
  refine ⟨by simp, by simp, fun i hi => .inl ?_⟩
  have hj := J_okJ hl hi
  have e1 : L (StR.init l).s.ends i = -1 := L_rep hi
  have e2 : L (StR.init l).u i = 0 := L_rep hi
  have e3 : L (StR.init l).s.left i = (J l i).c := by
    show L (l.map (·.c)) i = _
    unfold L
    rw [List.getD_eq_getElem?_getD, List.getElem?_map, hj.2]
    rfl
  have e4 : L (List.replicate l.length (0 : Int)) i = 0 := L_rep hi
  have hc := hj.1.2.2.1
  rw [e1, e2, e3, e4]
  omega

theorem DR.none {l : List Jb} {q : StR} {sf fr : List Int} {sp : Int} {fa : Bool} {t : Nat} (h : DR l q sf fr) : DR l (q.after sp fa t (-1)) sf fr := by
  rw [afterR_none]
  exact ⟨h.ls, h.lf, h.each⟩

theorem DR.fault {l : List Jb} {q : StR} {sf fr : List Int} {sp : Int} {t z : Nat} (h : DR l q sf fr) (ho : OkR l sp t q) (hz : z < l.length) (hp : 0 < L q.s.left z) : DR l (q.after sp true t (z : Int)) sf (fr.set z 0) := by
  rw [afterR_fault]
  refine ⟨h.ls, by simp [h.lf], fun i hi => ?_⟩
  dsimp only
  rw [L_set (by rw [ho.ok.left]; exact hz), L_set (by rw [h.lf]; exact hz), L_set (by rw [ho.ul]; exact hz)]
  by_cases e : i = z
  · subst e
    rw [if_pos rfl, if_pos rfl, if_pos rfl]
    rcases h.each i hi with g | g <;> omega
  · rw [if_neg e, if_neg e, if_neg e]
    exact h.each i hi

/-- What the document does with one that works. -/
theorem DR.work {l : List Jb} {q : StR} {sf fr : List Int} {sp : Int} {t z : Nat} (h : DR l q sf fr) (ho : OkR l sp t q) (hz : z < l.length) (hp : 0 < L q.s.left z) (hl : ∀ x ∈ l, okJ x) (hsp : 0 ≤ sp ∧ sp ≤ 10000) :
    (L sf z + (L fr z + 1) = (J l z).c ↔ L q.s.left z - 1 = 0) ∧ 0 ≤ L sf z ∧ L sf z ≤ 10000 ∧ 0 ≤ L fr z ∧ L fr z ≤ 10000 ∧
    DR l (q.after sp false t (z : Int)) (if L fr z + 1 = sp then sf.set z (L sf z + sp) else sf) (if L fr z + 1 = sp then (fr.set z (L fr z + 1)).set z 0 else fr.set z (L fr z + 1)) := by
  have hc := (J_okJ hl hz).1.2.2.2.1
  have g : L q.s.ends z = -1 ∧ 0 < L q.s.left z ∧ L q.s.left z = (J l z).c - L sf z - L fr z ∧ L q.u z = L fr z ∧ 0 ≤ L sf z ∧ 0 ≤ L fr z := by
    rcases h.each z hz with g | g
    · exact g
    · omega
  obtain ⟨g1, g2, g3, g4, g5, g6⟩ := g
  refine ⟨by omega, g5, by omega, g6, by omega, ?_⟩
  have ll : z < q.s.left.length := by rw [ho.ok.left]; exact hz
  have lu : z < q.u.length := by rw [ho.ul]; exact hz
  have le : z < q.s.ends.length := by rw [ho.ok.ends]; exact hz
  have lsf : z < sf.length := by rw [h.ls]; exact hz
  have lfr : z < fr.length := by rw [h.lf]; exact hz
  rw [afterR_work]
  refine ⟨?_, ?_, fun i hi => ?_⟩
  · split
    · simp [h.ls]
    · exact h.ls
  · split
    · simp [h.lf]
    · simp [h.lf]
  dsimp only
  by_cases e : i = z
  · subst e
    have e1 : L (q.s.left.set i (L q.s.left i - 1)) i = L q.s.left i - 1 := by rw [L_set ll, if_pos rfl]
    rw [e1]
    by_cases hd : L q.s.left i - 1 = 0
    · rw [if_pos hd, if_pos hd]
      right
      have e2 : L (q.s.ends.set i ((t : Int) + 1)) i = (t : Int) + 1 := by rw [L_set le, if_pos rfl]
      rw [e2]
      refine ⟨by omega, hd, ?_⟩
      by_cases hs : L fr i + 1 = sp
      · rw [if_pos hs, if_pos hs, L_set lsf, if_pos rfl, L_set (by simp; exact lfr), if_pos rfl]; omega
      · rw [if_neg hs, if_neg hs, L_set lfr, if_pos rfl]; omega
    · rw [if_neg hd, if_neg hd]
      left
      refine ⟨g1, by omega, ?_⟩
      by_cases hs : L fr i + 1 = sp
      · rw [if_pos hs, if_pos hs, L_set lsf, if_pos rfl, L_set (by simp; exact lfr), if_pos rfl, L_set lu, if_pos rfl, g4, if_pos hs]; omega
      · rw [if_neg hs, if_neg hs, L_set lfr, if_pos rfl, L_set lu, if_pos rfl, g4, if_neg hs]; omega
  · have e1 : L (q.s.left.set z (L q.s.left z - 1)) i = L q.s.left i := by rw [L_set ll, if_neg e]
    have e2 : L (if L q.s.left z - 1 = 0 then q.s.ends.set z ((t : Int) + 1) else q.s.ends) i = L q.s.ends i := by
      split
      · rw [L_set le, if_neg e]
      · rfl
    have e3 : L (if L q.s.left z - 1 = 0 then q.u else q.u.set z (if L q.u z + 1 = sp then 0 else L q.u z + 1)) i = L q.u i := by
      split
      · rfl
      · rw [L_set lu, if_neg e]
    have e4 : L (if L fr z + 1 = sp then sf.set z (L sf z + sp) else sf) i = L sf i := by
      split
      · rw [L_set lsf, if_neg e]
      · rfl
    have e5 : L (if L fr z + 1 = sp then (fr.set z (L fr z + 1)).set z 0 else fr.set z (L fr z + 1)) i = L fr i := by
      split
      · rw [L_set (by simp; exact lfr), if_neg e, L_set lfr, if_neg e]
      · rw [L_set lfr, if_neg e]
    rw [e1, e2, e3, e4, e5]
    exact h.each i hi

/-- The foremost one of the first k. -/
def BestTo (l : List Jb) (left : List Int) (t : Int) (k : Nat) (b : Int) : Prop :=
  (b = -1 ∧ ∀ i, i < k → ¬ ((J l i).a ≤ t ∧ 0 < L left i)) ∨
  (∃ i : Nat, b = (i : Int) ∧ i < k ∧ (J l i).a ≤ t ∧ 0 < L left i ∧ ∀ j, j < k → (J l j).a ≤ t → 0 < L left j → j ≠ i → lexJ 1 l i j)

theorem BestTo.skip {l : List Jb} {left : List Int} {t b : Int} {k : Nat} (h : BestTo l left t k b) (hn : ¬ ((J l k).a ≤ t ∧ 0 < L left k)) : BestTo l left t (k + 1) b := by
  rcases h with ⟨rfl, h⟩ | ⟨i, rfl, hi, h1, h2, h3⟩
  · refine .inl ⟨rfl, fun i hi => ?_⟩
    by_cases e : i = k
    · subst e; exact hn
    · exact h i (by omega)
  · refine .inr ⟨i, rfl, by omega, h1, h2, fun j hj g1 g2 hne => ?_⟩
    by_cases e : j = k
    · subst e; exact absurd ⟨g1, g2⟩ hn
    · exact h3 j (by omega) g1 g2 hne

theorem BestTo.first {l : List Jb} {left : List Int} {t : Int} {k : Nat} (h : BestTo l left t k (-1)) (h1 : (J l k).a ≤ t) (h2 : 0 < L left k) : BestTo l left t (k + 1) (k : Int) := by
  rcases h with ⟨-, h⟩ | ⟨i, e, -⟩
  · refine .inr ⟨k, rfl, by omega, h1, h2, fun j hj g1 g2 hne => ?_⟩
    exact absurd ⟨g1, g2⟩ (h j (by omega))
  · omega

theorem BestTo.take {l : List Jb} {left : List Int} {t : Int} {k i : Nat} (h : BestTo l left t k (i : Int)) (h1 : (J l k).a ≤ t) (h2 : 0 < L left k) (hg : lexJ 1 l k i) : BestTo l left t (k + 1) (k : Int) := by
  rcases h with ⟨e, -⟩ | ⟨i', e, hi, a1, a2, a3⟩
  · omega
  · have : i' = i := by omega
    subst this
    refine .inr ⟨k, rfl, by omega, h1, h2, fun j hj g1 g2 hne => ?_⟩
    by_cases ej : j = i'
    · subst ej; exact hg
    · exact lexJ_trans hg (a3 j (by omega) g1 g2 ej)

theorem BestTo.stay {l : List Jb} {left : List Int} {t : Int} {k i : Nat} (h : BestTo l left t k (i : Int)) (hg : ¬ lexJ 1 l k i) : BestTo l left t (k + 1) (i : Int) := by
  rcases h with ⟨e, -⟩ | ⟨i', e, hi, a1, a2, a3⟩
  · omega
  · have : i' = i := by omega
    subst this
    refine .inr ⟨i', rfl, by omega, a1, a2, fun j hj g1 g2 hne => ?_⟩
    by_cases ej : j = k
    · subst ej
      exact lexJ_total hne hg
    · exact a3 j (by omega) g1 g2 hne

theorem BestTo.whole {l : List Jb} {left : List Int} {t b : Int} (h : BestTo l left t l.length b) : IsBest l 1 left t b := h
end Go.Proofs.YtekbkcgpjkecbalDoor.S8
namespace Go.Proofs.YtekbkcgpjkecbalDoor.S8
open Go.ChangeShapes Go.WideShapes Go.ChangeAt Go.RowKit Go.Sort

/-- The document's play, as it lies. -/
structure DP (w W : World) (B n pb sb fb eb : Nat) (rv : Value) (sf fr ends runs : List Int) : Prop where
  bel : Below w.heap.size w W
  r1 : W.heap[w.heap.size]? = some (.cells #[.slice none 0 0, .slice none 0 0] 43 (0, 0))
  r2 : W.heap[w.heap.size + 1]? = some (.cells #[.int .i64 0, .int .i64 0] 30 (0, 0))
  p : W.heap[pb]? = some (.cells #[rv, .slice (some ⟨eb, 0, none⟩) n n] 43 (0, 0))
  sv : W.heap[sb]? = some (.cells (sf.map (Value.int .i64)).toArray 3 (0, 0))
  fv : W.heap[fb]? = some (.cells (fr.map (Value.int .i64)).toArray 3 (0, 0))
  ev : W.heap[eb]? = some (.cells (ends.map (Value.int .i64)).toArray 3 (0, 0))
  own : Own W B rv runs
  lo : w.heap.size + 1 < pb ∧ w.heap.size + 1 < sb ∧ w.heap.size + 1 < fb ∧ w.heap.size + 1 < eb
  hi : pb < B ∧ sb < B ∧ fb < B ∧ eb < B
  ds : pb ≠ sb ∧ pb ≠ fb ∧ pb ≠ eb ∧ sb ≠ fb ∧ sb ≠ eb ∧ fb ≠ eb
  bs : B ≤ W.heap.size

section
variable {w W W' : World} {B n pb sb fb eb : Nat} {rv : Value} {sf fr ends runs : List Int}

theorem DP.grow (h : DP w W B n pb sb fb eb rv sf fr ends runs) (hb : Below W.heap.size W W') : DP w W' B n pb sb fb eb rv sf fr ends runs := by
  have bs := h.bs
  obtain ⟨l1, l2, l3, l4⟩ := h.hi
  obtain ⟨k1, k2, k3, k4⟩ := h.lo
  exact ⟨below_seq h.bel hb, (hb.block _ (by omega)).trans h.r1, (hb.block _ (by omega)).trans h.r2, (hb.block _ (by omega)).trans h.p, (hb.block _ (by omega)).trans h.sv, (hb.block _ (by omega)).trans h.fv, (hb.block _ (by omega)).trans h.ev, h.own.same (fun g e => hb.block g (h.own.lt g e).2), h.lo, h.hi, h.ds, by have := hb.size; omega⟩

theorem DP.other {q i : Nat} {u : Value} (h : DP w W B n pb sb fb eb rv sf fr ends runs) (hq : w.heap.size + 1 < q) (hB : q < B) : (∀ g, g ≠ q → (W.setCell ⟨q, i, none⟩ u).heap[g]? = W.heap[g]?) ∧ Below w.heap.size w (W.setCell ⟨q, i, none⟩ u) ∧ (W.setCell ⟨q, i, none⟩ u).heap[w.heap.size]? = some (.cells #[.slice none 0 0, .slice none 0 0] 43 (0, 0)) ∧ (W.setCell ⟨q, i, none⟩ u).heap[w.heap.size + 1]? = some (.cells #[.int .i64 0, .int .i64 0] 30 (0, 0)) ∧ Own (W.setCell ⟨q, i, none⟩ u) B rv runs := by
  have keep : ∀ g, g ≠ q → (W.setCell ⟨q, i, none⟩ u).heap[g]? = W.heap[g]? := fun g hg => Below.heap_setCell _ _ _ _ hg
  exact ⟨keep, h.bel.setCell (show w.heap.size ≤ q by omega) _, (keep _ (by omega)).trans h.r1, (keep _ (by omega)).trans h.r2, h.own.same (fun g e => keep g (by have := (h.own.lt g e).1; omega))⟩

theorem DP.setS (h : DP w W B n pb sb fb eb rv sf fr ends runs) (i : Nat) (v : Int) : DP w (W.setCell ⟨sb, i, none⟩ (.int .i64 v)) B n pb sb fb eb rv (sf.set i v) fr ends runs := by
  obtain ⟨d1, d2, d3, d4, d5, d6⟩ := h.ds
  obtain ⟨keep, b, a1, a2, a3⟩ := h.other (i := i) (u := .int .i64 v) h.lo.2.1 h.hi.2.1
  refine ⟨b, a1, a2, (keep _ d1).trans h.p, ?_, (keep _ (Ne.symm d4)).trans h.fv, (keep _ (Ne.symm d5)).trans h.ev, a3, h.lo, h.hi, h.ds, by have := h.bs; simpa using this⟩
  rw [setCell_list h.sv, List.map_set]

theorem DP.setF (h : DP w W B n pb sb fb eb rv sf fr ends runs) (i : Nat) (v : Int) : DP w (W.setCell ⟨fb, i, none⟩ (.int .i64 v)) B n pb sb fb eb rv sf (fr.set i v) ends runs := by
  obtain ⟨d1, d2, d3, d4, d5, d6⟩ := h.ds
  obtain ⟨keep, b, a1, a2, a3⟩ := h.other (i := i) (u := .int .i64 v) h.lo.2.2.1 h.hi.2.2.1
  refine ⟨b, a1, a2, (keep _ d2).trans h.p, (keep _ d4).trans h.sv, ?_, (keep _ (Ne.symm d6)).trans h.ev, a3, h.lo, h.hi, h.ds, by have := h.bs; simpa using this⟩
  rw [setCell_list h.fv, List.map_set]

theorem DP.setE (h : DP w W B n pb sb fb eb rv sf fr ends runs) (i : Nat) (v : Int) : DP w (W.setCell ⟨eb, i, none⟩ (.int .i64 v)) B n pb sb fb eb rv sf fr (ends.set i v) runs := by
  obtain ⟨d1, d2, d3, d4, d5, d6⟩ := h.ds
  obtain ⟨keep, b, a1, a2, a3⟩ := h.other (i := i) (u := .int .i64 v) h.lo.2.2.2 h.hi.2.2.2
  refine ⟨b, a1, a2, (keep _ d3).trans h.p, (keep _ d5).trans h.sv, (keep _ d6).trans h.fv, ?_, a3, h.lo, h.hi, h.ds, by have := h.bs; simpa using this⟩
  rw [setCell_list h.ev, List.map_set]

/-- Who runs is put behind the others. -/
theorem DP.push (h : DP w W B n pb sb fb eb rv sf fr ends runs) (x : Int) (hl : runs.length ≤ 100000) :
    ∃ ad c w4, (Builtin.append_ #[36, 36] 36 #[rv, .slice (some ⟨W.heap.size, 0, none⟩) 1 1]).run Tryd.prog (W.alloc (.cells #[.int .i64 x] 3)) = .ok (.slice ad (runs.length + 1) c) w4 ∧
      DP w (w4.setCell ⟨pb, 0, none⟩ (.slice ad (runs.length + 1) c)) B n pb sb fb eb (.slice ad (runs.length + 1) c) sf fr ends (runs ++ [x]) ∧ w4.cell? ⟨pb, 0, none⟩ = some rv ∧ w4.frozen? ⟨pb, 0, none⟩ = false ∧ pb < w4.heap.size := by
  obtain ⟨i0, hi0, hz0, hz1, hz2⟩ := info_parts info3
  have h1 := h.grow (below_new W (.cells #[.int .i64 x] 3))
  have bs := h.bs
  have hlen : (runs.map (Value.int .i64)).length = runs.length := by simp
  obtain ⟨v4, w4, hrun, ho4, hg4, -, hv4⟩ := run_append_own_at (P := Tryd.prog) (w := W.alloc (.cells #[.int .i64 x] 3)) B 36 36 3 i0 _ 1 8 Tryd.underlying36 hi0 hz0 hz1 hz2 rfl (by decide) rv runs.length (runs.map (Value.int .i64)) h1.own ⟨W.heap.size, 0, none⟩ 1 1 [.int .i64 x] rfl (fun j u hj => by rw [Addr.add_lit]; have := (cells_of (l := [Value.int .i64 x]) (heap_alloc_new W (.cells #[.int .i64 x] 3))).1 j u hj; simpa using this) (fun u hu => by simp at hu; subst hu; rfl) (by unfold maxLen; omega) (by omega) (by simp; omega)
  obtain ⟨ad, c, rfl⟩ := owns_value ho4
  have hne : ∀ k, k < B → some k ≠ rv.ownBlock := fun k hk e => by have := (h.own.lt k e.symm).1; omega
  have hold : ∀ k, k < B → w4.heap[k]? = W.heap[k]? := fun k hk => (hg4.block k (by simp; omega) (hne k hk)).trans (Below.heap_alloc _ _ _ (by omega))
  have hbel : Below B W w4 := ((below_new W _).mono (by omega)).grown hg4 (by simp; omega) (fun k hk => (h.own.lt k hk).1)
  obtain ⟨l1, l2, l3, l4⟩ := h.hi
  obtain ⟨k1, k2, k3, k4⟩ := h.lo
  have hB : w.heap.size ≤ B := by omega
  obtain ⟨d1, d2, d3, d4, d5, d6⟩ := h.ds
  have keep : ∀ q, q ≠ pb → (w4.setCell ⟨pb, 0, none⟩ (.slice ad (runs.length + 1) c)).heap[q]? = w4.heap[q]? := fun q hq => Below.heap_setCell _ _ _ _ hq
  have hp4 := (hold pb l1).trans h.p
  obtain ⟨ps, pf, pl⟩ := cells_of (l := [_, _]) hp4
  have hown : Own w4 B (.slice ad (runs.length + 1) c) (runs ++ [x]) := by
    unfold Own
    rw [List.length_append, List.map_append]
    exact ho4
  refine ⟨ad, c, w4, hrun, ⟨(h.bel.trans (hbel.mono hB)).setCell (show w.heap.size ≤ pb by omega) _, (keep _ (by omega)).trans ((hold _ (by omega)).trans h.r1), (keep _ (by omega)).trans ((hold _ (by omega)).trans h.r2), ?_, (keep _ (Ne.symm d1)).trans ((hold _ l2).trans h.sv), (keep _ (Ne.symm d2)).trans ((hold _ l3).trans h.fv), (keep _ (Ne.symm d3)).trans ((hold _ l4).trans h.ev), hown.same (fun g e => keep g (by have := (hown.lt g e).1; omega)), h.lo, h.hi, h.ds, ?_⟩, ps 0 _ rfl, pf 0, pl⟩
  · rw [setCell_at hp4]; rfl
  · have := hbel.size
    simp
    omega

theorem DP.at (h : DP w W B n pb sb fb eb rv sf fr ends runs) {i : Nat} {v : Int} (hi : i < sf.length) (hv : L sf i = v) : W.cell? ⟨sb, i, none⟩ = some (.int .i64 v) ∧ W.frozen? ⟨sb, i, none⟩ = false := by
  obtain ⟨c, f, -⟩ := cells_of (l := sf.map (Value.int .i64)) h.sv
  refine ⟨c i _ ?_, f i⟩
  rw [List.getElem?_map, List.getElem?_eq_getElem hi]
  unfold L at hv
  rw [List.getD_eq_getElem?_getD, List.getElem?_eq_getElem hi] at hv
  simp at hv
  simp [hv]
theorem DP.atF (h : DP w W B n pb sb fb eb rv sf fr ends runs) {i : Nat} {v : Int} (hi : i < fr.length) (hv : L fr i = v) : W.cell? ⟨fb, i, none⟩ = some (.int .i64 v) ∧ W.frozen? ⟨fb, i, none⟩ = false := by
  obtain ⟨c, f, -⟩ := cells_of (l := fr.map (Value.int .i64)) h.fv
  refine ⟨c i _ ?_, f i⟩
  rw [List.getElem?_map, List.getElem?_eq_getElem hi]
  unfold L at hv
  rw [List.getD_eq_getElem?_getD, List.getElem?_eq_getElem hi] at hv
  simp at hv
  simp [hv]
theorem DP.atE (h : DP w W B n pb sb fb eb rv sf fr ends runs) {i : Nat} {v : Int} (hi : i < ends.length) (hv : L ends i = v) : W.cell? ⟨eb, i, none⟩ = some (.int .i64 v) ∧ W.frozen? ⟨eb, i, none⟩ = false := by
  obtain ⟨c, f, -⟩ := cells_of (l := ends.map (Value.int .i64)) h.ev
  refine ⟨c i _ ?_, f i⟩
  rw [List.getElem?_map, List.getElem?_eq_getElem hi]
  unfold L at hv
  rw [List.getD_eq_getElem?_getD, List.getElem?_eq_getElem hi] at hv
  simp at hv
  simp [hv]
theorem DP.atP (h : DP w W B n pb sb fb eb rv sf fr ends runs) : W.cell? ⟨pb, 0, none⟩ = some rv ∧ W.cell? ⟨pb, 1, none⟩ = some (.slice (some ⟨eb, 0, none⟩) n n) ∧ pb < W.heap.size ∧ eb < W.heap.size ∧ sb < W.heap.size ∧ fb < W.heap.size := by
  obtain ⟨ps, pf, pl⟩ := cells_of (l := [_, _]) h.p
  exact ⟨ps 0 _ rfl, ps 1 _ rfl, pl, lt_of_heap h.ev, lt_of_heap h.sv, lt_of_heap h.fv⟩
end
end Go.Proofs.YtekbkcgpjkecbalDoor.S8
namespace Go.Proofs.YtekbkcgpjkecbalDoor.S8
open Go.ChangeShapes Go.WideShapes Go.ChangeAt Go.RowKit Go.Sort

/-- Two blocks for results. -/
structure TD (w W : World) : Prop where
  bel : Below w.heap.size w W
  r1 : W.heap[w.heap.size]? = some (.cells #[.slice none 0 0, .slice none 0 0] 43 (0, 0))
  r2 : W.heap[w.heap.size + 1]? = some (.cells #[.int .i64 0, .int .i64 0] 30 (0, 0))

theorem TD.start (w : World) : TD w ((w.alloc (.cells #[.slice none 0 0, .slice none 0 0] 43)).alloc (.cells #[.int .i64 0, .int .i64 0] 30)) :=
  ⟨below_seq (below_new _ _) (below_new _ _), (Below.heap_alloc _ _ _ (by simp)).trans (heap_alloc_new _ _), heap_new2 _ _ _⟩

theorem TD.grow {w W W' : World} (h : TD w W) (hb : Below W.heap.size W W') : TD w W' :=
  ⟨below_seq h.bel hb, (hb.block _ (lt_of_heap h.r1)).trans h.r1, (hb.block _ (lt_of_heap h.r2)).trans h.r2⟩

/-- Both results are laid. -/
theorem TD.put {w W : World} (h : TD w W) (a b c k : Value) : ((((W.setCell ⟨w.heap.size, 0, none⟩ a).setCell ⟨w.heap.size, 1, none⟩ b).setCell ⟨w.heap.size + 1, 0, none⟩ c).setCell ⟨w.heap.size + 1, 1, none⟩ k).heap[w.heap.size]? = some (.cells #[a, b] 43 (0, 0)) ∧ ((((W.setCell ⟨w.heap.size, 0, none⟩ a).setCell ⟨w.heap.size, 1, none⟩ b).setCell ⟨w.heap.size + 1, 0, none⟩ c).setCell ⟨w.heap.size + 1, 1, none⟩ k).heap[w.heap.size + 1]? = some (.cells #[c, k] 30 (0, 0)) ∧ Below w.heap.size w ((((W.setCell ⟨w.heap.size, 0, none⟩ a).setCell ⟨w.heap.size, 1, none⟩ b).setCell ⟨w.heap.size + 1, 0, none⟩ c).setCell ⟨w.heap.size + 1, 1, none⟩ k) ∧ ∀ q, w.heap.size + 1 < q → ((((W.setCell ⟨w.heap.size, 0, none⟩ a).setCell ⟨w.heap.size, 1, none⟩ b).setCell ⟨w.heap.size + 1, 0, none⟩ c).setCell ⟨w.heap.size + 1, 1, none⟩ k).heap[q]? = W.heap[q]? := by
  have ha : ((W.setCell ⟨w.heap.size, 0, none⟩ a).setCell ⟨w.heap.size, 1, none⟩ b).heap[w.heap.size]? = some (.cells #[a, b] 43 (0, 0)) := by rw [setCell_at (setCell_at h.r1)]; rfl
  have hb : ((W.setCell ⟨w.heap.size, 0, none⟩ a).setCell ⟨w.heap.size, 1, none⟩ b).heap[w.heap.size + 1]? = some (.cells #[.int .i64 0, .int .i64 0] 30 (0, 0)) := by
    rw [Below.heap_setCell _ _ _ _ (by show w.heap.size + 1 ≠ w.heap.size; omega), Below.heap_setCell _ _ _ _ (by show w.heap.size + 1 ≠ w.heap.size; omega)]
    exact h.r2
  refine ⟨?_, ?_, (((h.bel.setCell (show w.heap.size ≤ w.heap.size by omega) _).setCell (show w.heap.size ≤ w.heap.size by omega) _).setCell (show w.heap.size ≤ w.heap.size + 1 by omega) _).setCell (show w.heap.size ≤ w.heap.size + 1 by omega) _, fun q hq => ?_⟩
  · rw [Below.heap_setCell _ _ _ _ (by show w.heap.size ≠ w.heap.size + 1; omega), Below.heap_setCell _ _ _ _ (by show w.heap.size ≠ w.heap.size + 1; omega)]
    exact ha
  · rw [setCell_at (setCell_at hb)]; rfl
  · rw [Below.heap_setCell _ _ _ _ (by show q ≠ w.heap.size + 1; omega), Below.heap_setCell _ _ _ _ (by show q ≠ w.heap.size + 1; omega), Below.heap_setCell _ _ _ _ (by show q ≠ w.heap.size; omega), Below.heap_setCell _ _ _ _ (by show q ≠ w.heap.size; omega)]

theorem PA_ends {w : World} {g1 g2 : Nat} {a b c k : Value} {ac : Act} (h : w.heap[g1]? = some (.cells #[a, b] 43 (0, 0))) (h' : w.heap[g2]? = some (.cells #[c, k] 30 (0, 0))) (h2 : ac.tmps[8]?.getD undef = .pointer (some ⟨g1, 0, none⟩)) (h3 : ac.tmps[9]?.getD undef = .pointer (some ⟨g2, 0, none⟩)) :
    (results Tryd.f14 ac.tmps).run Tryd.prog w = .ok (.tuple #[.agg #[a, b], .agg #[c, k]]) w := by
  obtain ⟨c1, f1, l1⟩ := cells_of (l := [_, _]) h
  have c10 := c1 0 _ rfl
  have c11 := c1 1 _ rfl
  obtain ⟨d1, f2, l2⟩ := cells_of (l := [_, _]) h'
  have d10 := d1 0 _ rfl
  have d11 := d1 1 _ rfl
  simp [results, Tryd.results14, go_sem, h2, h3, c10, c11, d10, d11]

set_option maxRecDepth 20000 in
set_option maxHeartbeats 4000000 in
theorem PlayAnew_bad (w : World) (l : List Jb) (sp : Int) (fs : List Int) (u : Int) (v vf : Value) (hv : RowSl Jb.vals w l v) (hf : RowSl nuV w fs vf) (hbad : (chkR l sp fs u).1 ≠ 0) :
    Calls Tryd.prog 14 #[v, .int .i64 sp, vf, .int .i64 u] w fun r W => r = .returned (.tuple #[.agg #[.slice none 0 0, .slice none 0 0], .agg #[.int .i64 (chkR l sp fs u).1, .int .i64 (chkR l sp fs u).2]]) ∧ Below w.heap.size w W := by
  have HC := CheckJobs_any ((w.alloc (.cells #[.slice none 0 0, .slice none 0 0] 43)).alloc (.cells #[.int .i64 0, .int .i64 0] 30)) l v (hv.below (TD.start w).bel)
  have HS : Hid (TD w ((w.alloc (.cells #[.slice none 0 0, .slice none 0 0] 43)).alloc (.cells #[.int .i64 0, .int .i64 0] 30))) := TD.start w
  obtain ⟨ad, c, rfl⟩ := hv.len
  obtain ⟨fad, fc, rfl, -, hcap, hrow⟩ := hf
  have HR : Hid (fs = [] ∨ ∃ b o, fad = some ⟨b, o, none⟩ ∧ ∀ q u, (fs.flatMap nuV)[q]? = some u → w.cell? ⟨b, o + q, none⟩ = some u) := hrow
  clear hv hrow
  obtain ⟨z1, z2, hz⟩ : ∃ z1 z2, chkJ l = (z1, z2) := ⟨_, _, rfl⟩
  obtain ⟨y1, y2, hy⟩ : ∃ y1 y2, chkR l sp fs u = (y1, y2) := ⟨_, _, rfl⟩
  have HY : Hid (chkJ l = (z1, z2) ∧ chkR l sp fs u = (y1, y2)) := ⟨hz, hy⟩
  have HBD : Hid ((chkR l sp fs u).1 ≠ 0) := hbad
  rw [hz] at HC
  rw [hy]
  dsimp only at HC ⊢
  clear hz hy hbad
  go_enter Tryd.func14, Tryd.ntmps14
  go_upto_region 2 with (go_at_call 35; refine HC.mono ?_; rintro r w1 ⟨rfl, hb1⟩; have H1 : Hid (TD w (w1.alloc (.cells #[.int .i64 z1, .int .i64 z2] 30))) := (HS.out.grow hb1).grow (below_new _ _); have hl1 : w.heap.size < w1.heap.size := lt_of_heap (HS.out.grow hb1).r1; have hl2 : w.heap.size + 1 < w1.heap.size := lt_of_heap (HS.out.grow hb1).r2; clear hb1 HC HS)
  obtain ⟨gs, -, gl⟩ := cells_of (l := [_, _]) (heap_alloc_new w1 (.cells #[.int .i64 z1, .int .i64 z2] 30))
  have g0 := gs 0 _ rfl
  have g1 := gs 1 _ rfl
  clear gs
  generalize w1.alloc (.cells #[.int .i64 z1, .int .i64 z2] 30) = w2 at *
  by_cases h0 : z1 = 0
  rotate_left 1
  · have hzb : (z1 != 0) = true := by simpa using h0
    have HX : Hid (TD w w2) := H1.out
    obtain ⟨qs, qf, ql⟩ := cells_of (l := [_, _]) HX.out.r1; have q0 := qs 0 _ rfl; have q1 := qs 1 _ rfl; have qf0 := qf 0; have qf1 := qf 1; obtain ⟨rs, rf, rl⟩ := cells_of (l := [_, _]) HX.out.r2; have r0 := rs 0 _ rfl; have r1 := rs 1 _ rfl; have rf0 := rf 0; have rf1 := rf 1; clear qs qf rs rf
    go_upto_region 3 with fail
    go_region
    all_goals go_wp2_with fail
    all_goals
      have hx := HX.out.put (.slice none 0 0) (.slice none 0 0) (.int .i64 z1) (.int .i64 z2)
      refine bodyPost_ret (PA_ends (g1 := w.heap.size) (g2 := w.heap.size + 1) (a := .slice none 0 0) (b := .slice none 0 0) (c := .int .i64 z1) (k := .int .i64 z2) hx.1 hx.2.1 rfl rfl) rfl ?_
      have e := HY.out.2
      rw [chkR_1 (by rw [HY.out.1]; exact h0), HY.out.1] at e
      simp at e
      obtain ⟨e1, e2⟩ := e
      subst e1 e2
      exact ⟨rfl, hx.2.2.1.drew⟩
  subst h0
  have HJ : Hid ((chkJ l).1 = 0) := by
    have e := congrArg Prod.fst HY.out.1
    exact e
  by_cases q1 : sp < 0
  · have q1b : decide (sp < 0) = true := decide_eq_true q1
    have hw : within sp 0 10000 = false := by unfold within; simp; omega
    go_wp2_with (go_at_call 31; refine (F_any _ _ _).mono ?_; rintro r w5 ⟨rfl, hb5⟩; have HX : Hid (TD w w5) := H1.out.grow hb5; obtain ⟨qs, qf, ql⟩ := cells_of (l := [_, _]) HX.out.r1; have q0 := qs 0 _ rfl; have q1 := qs 1 _ rfl; have qf0 := qf 0; have qf1 := qf 1; obtain ⟨rs, rf, rl⟩ := cells_of (l := [_, _]) HX.out.r2; have r0 := rs 0 _ rfl; have r1 := rs 1 _ rfl; have rf0 := rf 0; have rf1 := rf 1; clear qs qf rs rf; clear hb5)
    all_goals
      have hx := HX.out.put (.slice none 0 0) (.slice none 0 0) (.int .i64 3) (.int .i64 0)
      refine bodyPost_ret (PA_ends (g1 := w.heap.size) (g2 := w.heap.size + 1) (a := .slice none 0 0) (b := .slice none 0 0) (c := .int .i64 3) (k := .int .i64 0) hx.1 hx.2.1 rfl rfl) rfl ?_
      have e := HY.out.2
      rw [chkR_2 HJ.out (.inl hw)] at e
      simp at e
      obtain ⟨e1, e2⟩ := e
      subst e1 e2
      exact ⟨rfl, hx.2.2.1⟩
  have q1b : decide (sp < 0) = false := decide_eq_false q1
  by_cases q2 : 10000 < sp
  · have q2b : decide (10000 < sp) = true := decide_eq_true q2
    have hw : within sp 0 10000 = false := by unfold within; simp; omega
    go_wp2_with (go_at_call 31; refine (F_any _ _ _).mono ?_; rintro r w5 ⟨rfl, hb5⟩; have HX : Hid (TD w w5) := H1.out.grow hb5; obtain ⟨qs, qf, ql⟩ := cells_of (l := [_, _]) HX.out.r1; have q0 := qs 0 _ rfl; have q1 := qs 1 _ rfl; have qf0 := qf 0; have qf1 := qf 1; obtain ⟨rs, rf, rl⟩ := cells_of (l := [_, _]) HX.out.r2; have r0 := rs 0 _ rfl; have r1 := rs 1 _ rfl; have rf0 := rf 0; have rf1 := rf 1; clear qs qf rs rf; clear hb5)
    all_goals
      have hx := HX.out.put (.slice none 0 0) (.slice none 0 0) (.int .i64 3) (.int .i64 0)
      refine bodyPost_ret (PA_ends (g1 := w.heap.size) (g2 := w.heap.size + 1) (a := .slice none 0 0) (b := .slice none 0 0) (c := .int .i64 3) (k := .int .i64 0) hx.1 hx.2.1 rfl rfl) rfl ?_
      have e := HY.out.2
      rw [chkR_2 HJ.out (.inl hw)] at e
      simp at e
      obtain ⟨e1, e2⟩ := e
      subst e1 e2
      exact ⟨rfl, hx.2.2.1⟩
  have q2b : decide (10000 < sp) = false := decide_eq_false q2
  have hw1 : within sp 0 10000 = true := by unfold within; simp; omega
  by_cases q3 : u < 0
  · have q3b : decide (u < 0) = true := decide_eq_true q3
    have hw : within u 0 20000 = false := by unfold within; simp; omega
    go_wp2_with (go_at_call 31; refine (F_any _ _ _).mono ?_; rintro r w5 ⟨rfl, hb5⟩; have HX : Hid (TD w w5) := H1.out.grow hb5; obtain ⟨qs, qf, ql⟩ := cells_of (l := [_, _]) HX.out.r1; have q0 := qs 0 _ rfl; have q1 := qs 1 _ rfl; have qf0 := qf 0; have qf1 := qf 1; obtain ⟨rs, rf, rl⟩ := cells_of (l := [_, _]) HX.out.r2; have r0 := rs 0 _ rfl; have r1 := rs 1 _ rfl; have rf0 := rf 0; have rf1 := rf 1; clear qs qf rs rf; clear hb5)
    all_goals
      have hx := HX.out.put (.slice none 0 0) (.slice none 0 0) (.int .i64 3) (.int .i64 0)
      refine bodyPost_ret (PA_ends (g1 := w.heap.size) (g2 := w.heap.size + 1) (a := .slice none 0 0) (b := .slice none 0 0) (c := .int .i64 3) (k := .int .i64 0) hx.1 hx.2.1 rfl rfl) rfl ?_
      have e := HY.out.2
      rw [chkR_2 HJ.out (.inr hw)] at e
      simp at e
      obtain ⟨e1, e2⟩ := e
      subst e1 e2
      exact ⟨rfl, hx.2.2.1⟩
  have q3b : decide (u < 0) = false := decide_eq_false q3
  by_cases q4 : 20000 < u
  · have q4b : decide (20000 < u) = true := decide_eq_true q4
    have hw : within u 0 20000 = false := by unfold within; simp; omega
    go_wp2_with (go_at_call 31; refine (F_any _ _ _).mono ?_; rintro r w5 ⟨rfl, hb5⟩; have HX : Hid (TD w w5) := H1.out.grow hb5; obtain ⟨qs, qf, ql⟩ := cells_of (l := [_, _]) HX.out.r1; have q0 := qs 0 _ rfl; have q1 := qs 1 _ rfl; have qf0 := qf 0; have qf1 := qf 1; obtain ⟨rs, rf, rl⟩ := cells_of (l := [_, _]) HX.out.r2; have r0 := rs 0 _ rfl; have r1 := rs 1 _ rfl; have rf0 := rf 0; have rf1 := rf 1; clear qs qf rs rf; clear hb5)
    all_goals
      have hx := HX.out.put (.slice none 0 0) (.slice none 0 0) (.int .i64 3) (.int .i64 0)
      refine bodyPost_ret (PA_ends (g1 := w.heap.size) (g2 := w.heap.size + 1) (a := .slice none 0 0) (b := .slice none 0 0) (c := .int .i64 3) (k := .int .i64 0) hx.1 hx.2.1 rfl rfl) rfl ?_
      have e := HY.out.2
      rw [chkR_2 HJ.out (.inr hw)] at e
      simp at e
      obtain ⟨e1, e2⟩ := e
      subst e1 e2
      exact ⟨rfl, hx.2.2.1⟩
  have q4b : decide (20000 < u) = false := decide_eq_false q4
  have hw2 : within u 0 20000 = true := by unfold within; simp; omega
  by_cases h4 : 4000 < fs.length
  · have h4' : (4000 : Int) < (fs.length : Int) := by omega
    go_wp2_with (go_at_call 31; refine (F_any _ _ _).mono ?_; rintro r w5 ⟨rfl, hb5⟩; have HX : Hid (TD w w5) := H1.out.grow hb5; obtain ⟨qs, qf, ql⟩ := cells_of (l := [_, _]) HX.out.r1; have q0 := qs 0 _ rfl; have q1 := qs 1 _ rfl; have qf0 := qf 0; have qf1 := qf 1; obtain ⟨rs, rf, rl⟩ := cells_of (l := [_, _]) HX.out.r2; have r0 := rs 0 _ rfl; have r1 := rs 1 _ rfl; have rf0 := rf 0; have rf1 := rf 1; clear qs qf rs rf; clear hb5)
    all_goals
      have hx := HX.out.put (.slice none 0 0) (.slice none 0 0) (.int .i64 2) (.int .i64 0)
      refine bodyPost_ret (PA_ends (g1 := w.heap.size) (g2 := w.heap.size + 1) (a := .slice none 0 0) (b := .slice none 0 0) (c := .int .i64 2) (k := .int .i64 0) hx.1 hx.2.1 rfl rfl) rfl ?_
      have e := HY.out.2
      rw [chkR_3 HJ.out hw1 hw2 h4] at e
      simp at e
      obtain ⟨e1, e2⟩ := e
      subst e1 e2
      exact ⟨rfl, hx.2.2.1⟩
  have h4' : ¬ (4000 : Int) < (fs.length : Int) := by omega
  have h4b : fs.length ≤ 4000 := by omega
  have HE : Hid (0 ≤ upR fs ∧ (y1, y2) = (12, upR fs)) := by
    have e := HY.out.2
    rw [chkR_4 HJ.out hw1 hw2 h4b] at e
    by_cases h : 0 ≤ upR fs
    · rw [if_pos h] at e
      exact ⟨h, e.symm⟩
    · rw [if_neg h] at e
      have := HBD.out
      rw [chkR_4 HJ.out hw1 hw2 h4b, if_neg h] at this
      exact absurd rfl this
  clear hw1 hw2
  go_wp2_with fail
  go_loopw [11] (fun iv wr => ∃ k : Nat, iv = .int .i64 ((k : Int) + 1) ∧ (k = 0 ∨ k < fs.length) ∧ (∃ nq, wr = w2.drewN nq) ∧ Hid (∀ p, fs[k]? = some p → upF p (fs.drop (k + 1)) (k + 1) = upR fs)) (fun iv _ => fs.length + 2 - (intOf iv).toNat)
  case atStart =>
    refine ⟨0, rfl, .inl rfl, ⟨0, rfl⟩, fun p hp => ?_⟩
    cases fs with
    | nil => simp at hp
    | cons x r => simp at hp; subst hp; rfl
  case round =>
    obtain ⟨m, rfl, hk, ⟨nq, rfl⟩, HK⟩ := hrel
    by_cases hlt : m + 1 < fs.length
    · obtain ⟨x, hx, hd⟩ := drop_at hlt
      obtain ⟨p, hp⟩ : ∃ p, fs[m]? = some p := ⟨_, List.getElem?_eq_getElem (by omega)⟩
      have hup := HK.out p hp
      rw [hd, upF] at hup
      rcases HR.out with h | ⟨b, o, rfl, hrow⟩
      · rw [h] at hlt; simp at hlt
      have c1 := below_cell (below_seq H1.out.bel (below_drewN' (n := nq))) (nuV_at hrow hx)
      have c0 := below_cell (below_seq H1.out.bel (below_drewN' (n := nq))) (nuV_at hrow hp)
      have HU : Hid ((if x ≤ p then ((m + 1 : Nat) : Int) else upF x (fs.drop (m + 1 + 1)) (m + 1 + 1)) = upR fs ∧ fs[m + 1]? = some x) := ⟨hup, hx⟩
      have hm0 : (0 : Int) < (m : Int) + 1 := by omega
      have hm3 : (0 : Int) ≤ (m : Int) + 1 := by omega
      have hm4 : ((m : Int) + 1).toNat = m + 1 := by omega
      have hmw : IntKind.i64.wrap ((m : Int) + 1 - 1) = (m : Int) := by rw [IntKind.wrap_i64]; omega
      have hmw2 : IntKind.i64.wrap (m : Int) = (m : Int) := by rw [IntKind.wrap_i64]; omega
      have hm1 : (m : Int) < (fs.length : Int) := by omega
      have hm2 : (m : Int) + 1 < (fs.length : Int) := by omega
      have hmx : IntKind.i64.wrap ((m : Int) + 1 + 1) = (m : Int) + 1 + 1 := by rw [IntKind.wrap_i64]; omega
      clear hup hx hd hp hrow HK
      by_cases hxp : x ≤ p
      · have e := HU.out.1
        rw [if_pos hxp] at e
        have HV : Hid (upR fs = ((m + 1 : Nat) : Int)) := e.symm
        clear e
        go_wp2_with fail
        refine wp_region_noPanic ?_
        refine wp_region_held_drew (S := fun w' => w'.cell? ⟨b, o + (m + 1), none⟩ = some (.int .i64 x) ∧ w'.cell? ⟨b, o + m, none⟩ = some (.int .i64 p)) (by kernel_rfl) ⟨c1, c0⟩ (fun hHeld => ?_)
        refine take_at (i := 0) (n := 55) (v := ?_) rfl rfl (by kernel_rfl) (by kernel_rfl) (by kernel_rfl) (fun _ _ _ h => h) (Or.inl ⟨by rfl, ?_⟩) (by assumption) ?_
        rotate_left 1
        · intro wz hSw
          obtain ⟨s0, s1⟩ := hSw
          first | (go_simp; done) | (go_simp; with_reducible rfl)
        simp only [List.set_cons_zero, List.set_cons_succ]
        refine take_at (i := 1) (n := 56) (v := ?_) rfl rfl (by kernel_rfl) (by kernel_rfl) (by kernel_rfl) (fun _ _ _ h => h) (Or.inl ⟨by rfl, ?_⟩) (by assumption) ?_
        rotate_left 1
        · intro wz hSw
          obtain ⟨s0, s1⟩ := hSw
          first | (go_simp; done) | (go_simp; with_reducible rfl)
        simp only [List.set_cons_zero, List.set_cons_succ]
        refine take_at (i := 2) (n := 57) (v := ?_) rfl rfl (by kernel_rfl) (by kernel_rfl) (by kernel_rfl) (fun _ _ _ h => h) (Or.inl ⟨by rfl, ?_⟩) (by assumption) ?_
        rotate_left 1
        · intro wz hSw
          obtain ⟨s0, s1⟩ := hSw
          first | (go_simp; done) | (go_simp; with_reducible rfl)
        simp only [List.set_cons_zero, List.set_cons_succ]
        refine take_at (i := 3) (n := 58) (v := ?_) rfl rfl (by kernel_rfl) (by kernel_rfl) (by kernel_rfl) (fun _ _ _ h => h) (Or.inl ⟨by rfl, ?_⟩) (by assumption) ?_
        rotate_left 1
        · intro wz hSw
          obtain ⟨s0, s1⟩ := hSw
          first | (go_simp; done) | (go_simp; with_reducible rfl)
        simp only [List.set_cons_zero, List.set_cons_succ]
        refine take_at (i := 4) (n := 59) (v := ?_) rfl rfl (by kernel_rfl) (by kernel_rfl) (by kernel_rfl) (fun _ _ _ h => h) (Or.inl ⟨by rfl, ?_⟩) (by assumption) ?_
        rotate_left 1
        · intro wz hSw
          obtain ⟨s0, s1⟩ := hSw
          first | (go_simp; done) | (go_simp; with_reducible rfl)
        simp only [List.set_cons_zero, List.set_cons_succ]
        refine take_at (i := 5) (n := 60) (v := ?_) rfl rfl (by kernel_rfl) (by kernel_rfl) (by kernel_rfl) (fun _ _ _ h => h) (Or.inl ⟨by rfl, ?_⟩) (by assumption) ?_
        rotate_left 1
        · intro wz hSw
          obtain ⟨s0, s1⟩ := hSw
          first | (go_simp; done) | (go_simp; with_reducible rfl)
        simp only [List.set_cons_zero, List.set_cons_succ]
        refine take_at (i := 6) (n := 61) (v := ?_) rfl rfl (by kernel_rfl) (by kernel_rfl) (by kernel_rfl) (fun _ _ _ h => h) (Or.inl ⟨by rfl, ?_⟩) (by assumption) ?_
        rotate_left 1
        · intro wz hSw
          obtain ⟨s0, s1⟩ := hSw
          first | (go_simp; done) | (go_simp; with_reducible rfl)
        simp only [List.set_cons_zero, List.set_cons_succ]
        refine take_at (i := 7) (n := 62) (v := ?_) rfl rfl (by kernel_rfl) (by kernel_rfl) (by kernel_rfl) (fun _ _ _ h => h) (Or.inl ⟨by rfl, ?_⟩) (by assumption) ?_
        rotate_left 1
        · intro wz hSw
          obtain ⟨s0, s1⟩ := hSw
          first | (go_simp; done) | (go_simp; with_reducible rfl)
        simp only [List.set_cons_zero, List.set_cons_succ]
        refine take_at (i := 8) (n := 63) (v := ?_) rfl rfl (by kernel_rfl) (by kernel_rfl) (by kernel_rfl) (fun _ _ _ h => h) (Or.inl ⟨by rfl, ?_⟩) (by assumption) ?_
        rotate_left 1
        · intro wz hSw
          obtain ⟨s0, s1⟩ := hSw
          first | (go_simp; done) | (go_simp; with_reducible rfl)
        simp only [List.set_cons_zero, List.set_cons_succ]
        refine take_at (i := 9) (n := 64) (v := ?_) rfl rfl (by kernel_rfl) (by kernel_rfl) (by kernel_rfl) (fun _ _ _ h => h) (Or.inl ⟨by rfl, ?_⟩) (by assumption) ?_
        rotate_left 1
        · intro wz hSw
          obtain ⟨s0, s1⟩ := hSw
          first | (go_simp; done) | (go_simp; with_reducible rfl)
        simp only [List.set_cons_zero, List.set_cons_succ]
        refine wpAnyH_done (by kernel_rfl) ?_ _
        refine NoPanic.normal ?_
        clear hHeld
        have HG : Hid (TD w (w2.drewN nq).drew) := (H1.out.grow (below_drewN' (n := nq))).grow (Below.refl _ _).drew
        clear c0 c1
        generalize (w2.drewN nq).drew = w4 at *
        go_wp2_with (go_at_call 31; refine (F_any _ _ _).mono ?_; rintro r w5 ⟨rfl, hb5⟩; have HX : Hid (TD w w5) := HG.out.grow hb5; obtain ⟨qs, qf, ql⟩ := cells_of (l := [_, _]) HX.out.r1; have q0 := qs 0 _ rfl; have q1 := qs 1 _ rfl; have qf0 := qf 0; have qf1 := qf 1; obtain ⟨rs, rf, rl⟩ := cells_of (l := [_, _]) HX.out.r2; have r0 := rs 0 _ rfl; have r1 := rs 1 _ rfl; have rf0 := rf 0; have rf1 := rf 1; clear qs qf rs rf; clear hb5)
        have hx := HX.out.put (.slice none 0 0) (.slice none 0 0) (.int .i64 12) (.int .i64 ((m : Int) + 1))
        refine bodyPost_ret (PA_ends (g1 := w.heap.size) (g2 := w.heap.size + 1) (a := .slice none 0 0) (b := .slice none 0 0) (c := .int .i64 12) (k := .int .i64 ((m : Int) + 1)) hx.1 hx.2.1 rfl rfl) rfl ?_
        have e := HE.out.2
        rw [HV.out] at e
        simp at e
        obtain ⟨e1, e2⟩ := e
        subst e1 e2
        exact ⟨rfl, hx.2.2.1⟩
      · have e := HU.out.1
        rw [if_neg hxp] at e
        have HV : Hid (upF x (fs.drop (m + 1 + 1)) (m + 1 + 1) = upR fs) := e
        clear e
        go_wp2_with fail
        refine wp_region_noPanic ?_
        refine wp_region_held_drew (S := fun w' => w'.cell? ⟨b, o + (m + 1), none⟩ = some (.int .i64 x) ∧ w'.cell? ⟨b, o + m, none⟩ = some (.int .i64 p)) (by kernel_rfl) ⟨c1, c0⟩ (fun hHeld => ?_)
        refine take_at (i := 0) (n := 55) (v := ?_) rfl rfl (by kernel_rfl) (by kernel_rfl) (by kernel_rfl) (fun _ _ _ h => h) (Or.inl ⟨by rfl, ?_⟩) (by assumption) ?_
        rotate_left 1
        · intro wz hSw
          obtain ⟨s0, s1⟩ := hSw
          first | (go_simp; done) | (go_simp; with_reducible rfl)
        simp only [List.set_cons_zero, List.set_cons_succ]
        refine take_at (i := 1) (n := 56) (v := ?_) rfl rfl (by kernel_rfl) (by kernel_rfl) (by kernel_rfl) (fun _ _ _ h => h) (Or.inl ⟨by rfl, ?_⟩) (by assumption) ?_
        rotate_left 1
        · intro wz hSw
          obtain ⟨s0, s1⟩ := hSw
          first | (go_simp; done) | (go_simp; with_reducible rfl)
        simp only [List.set_cons_zero, List.set_cons_succ]
        refine take_at (i := 2) (n := 57) (v := ?_) rfl rfl (by kernel_rfl) (by kernel_rfl) (by kernel_rfl) (fun _ _ _ h => h) (Or.inl ⟨by rfl, ?_⟩) (by assumption) ?_
        rotate_left 1
        · intro wz hSw
          obtain ⟨s0, s1⟩ := hSw
          first | (go_simp; done) | (go_simp; with_reducible rfl)
        simp only [List.set_cons_zero, List.set_cons_succ]
        refine take_at (i := 3) (n := 58) (v := ?_) rfl rfl (by kernel_rfl) (by kernel_rfl) (by kernel_rfl) (fun _ _ _ h => h) (Or.inl ⟨by rfl, ?_⟩) (by assumption) ?_
        rotate_left 1
        · intro wz hSw
          obtain ⟨s0, s1⟩ := hSw
          first | (go_simp; done) | (go_simp; with_reducible rfl)
        simp only [List.set_cons_zero, List.set_cons_succ]
        refine take_at (i := 4) (n := 59) (v := ?_) rfl rfl (by kernel_rfl) (by kernel_rfl) (by kernel_rfl) (fun _ _ _ h => h) (Or.inl ⟨by rfl, ?_⟩) (by assumption) ?_
        rotate_left 1
        · intro wz hSw
          obtain ⟨s0, s1⟩ := hSw
          first | (go_simp; done) | (go_simp; with_reducible rfl)
        simp only [List.set_cons_zero, List.set_cons_succ]
        refine take_at (i := 5) (n := 60) (v := ?_) rfl rfl (by kernel_rfl) (by kernel_rfl) (by kernel_rfl) (fun _ _ _ h => h) (Or.inl ⟨by rfl, ?_⟩) (by assumption) ?_
        rotate_left 1
        · intro wz hSw
          obtain ⟨s0, s1⟩ := hSw
          first | (go_simp; done) | (go_simp; with_reducible rfl)
        simp only [List.set_cons_zero, List.set_cons_succ]
        refine take_at (i := 6) (n := 61) (v := ?_) rfl rfl (by kernel_rfl) (by kernel_rfl) (by kernel_rfl) (fun _ _ _ h => h) (Or.inl ⟨by rfl, ?_⟩) (by assumption) ?_
        rotate_left 1
        · intro wz hSw
          obtain ⟨s0, s1⟩ := hSw
          first | (go_simp; done) | (go_simp; with_reducible rfl)
        simp only [List.set_cons_zero, List.set_cons_succ]
        refine take_at (i := 7) (n := 62) (v := ?_) rfl rfl (by kernel_rfl) (by kernel_rfl) (by kernel_rfl) (fun _ _ _ h => h) (Or.inl ⟨by rfl, ?_⟩) (by assumption) ?_
        rotate_left 1
        · intro wz hSw
          obtain ⟨s0, s1⟩ := hSw
          first | (go_simp; done) | (go_simp; with_reducible rfl)
        simp only [List.set_cons_zero, List.set_cons_succ]
        refine take_at (i := 8) (n := 63) (v := ?_) rfl rfl (by kernel_rfl) (by kernel_rfl) (by kernel_rfl) (fun _ _ _ h => h) (Or.inl ⟨by rfl, ?_⟩) (by assumption) ?_
        rotate_left 1
        · intro wz hSw
          obtain ⟨s0, s1⟩ := hSw
          first | (go_simp; done) | (go_simp; with_reducible rfl)
        simp only [List.set_cons_zero, List.set_cons_succ]
        refine take_at (i := 9) (n := 64) (v := ?_) rfl rfl (by kernel_rfl) (by kernel_rfl) (by kernel_rfl) (fun _ _ _ h => h) (Or.inl ⟨by rfl, ?_⟩) (by assumption) ?_
        rotate_left 1
        · intro wz hSw
          obtain ⟨s0, s1⟩ := hSw
          first | (go_simp; done) | (go_simp; with_reducible rfl)
        simp only [List.set_cons_zero, List.set_cons_succ]
        refine wpAnyH_done (by kernel_rfl) ?_ _
        refine NoPanic.normal ?_
        clear hHeld
        go_wp2_with fail
        refine ⟨⟨m + 1, by simp, .inr (by omega), ⟨nq + 1, rfl⟩, fun p' hp' => ?_⟩, by simp [intOf]; omega⟩
        rw [HU.out.2] at hp'
        have := Option.some.inj hp'
        subst this
        exact HV.out
    · exfalso
      have hneg : upR fs < 0 := by
        cases hfs : fs[m]? with
        | none =>
          have : fs.length ≤ m := List.getElem?_eq_none_iff.1 hfs
          have h0 : fs = [] := List.length_eq_zero_iff.1 (by omega)
          rw [h0]; decide
        | some p =>
          have h1 := HK.out p hfs
          have h2 : fs.drop (m + 1) = [] := List.drop_eq_nil_iff.2 (by omega)
          rw [h2, upF] at h1
          omega
      have := HE.out.1
      omega
end Go.Proofs.YtekbkcgpjkecbalDoor.S8
