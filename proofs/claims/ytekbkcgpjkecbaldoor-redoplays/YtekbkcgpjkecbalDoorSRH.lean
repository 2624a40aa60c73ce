import Derived.Test.YtekbkcgpjkecbalDoorSRG
import Derived.Test.YtekbkcgpjkecbalDoorSPU
namespace Go.Proofs.YtekbkcgpjkecbalDoor.S8
open Go.ChangeShapes Go.WideShapes Go.ChangeAt Go.RowKit Go.Sort

/-- Rows that were made, in whatever order. -/
structure Mk (N : Nat) (W0 W : World) (gs : List Nat) : Prop where
  bel : Below W0.heap.size W0 W
  all : ∀ g ∈ gs, W.heap[g]? = some (.cells (runCells N []).toArray 3 (0, 0)) ∧ W0.heap.size ≤ g
  nd : gs.Nodup

theorem Mk.start (N : Nat) (W0 : World) : Mk N W0 W0 [] := ⟨Below.refl _ _, nofun, List.nodup_nil⟩

theorem Mk.add {N : Nat} {W0 W W' : World} {gs : List Nat} (h : Mk N W0 W gs) (hb : Below W.heap.size W W') (hh : W'.heap[W.heap.size]? = some (.cells (runCells N []).toArray 3 (0, 0))) : Mk N W0 W' (W.heap.size :: gs) := by
  refine ⟨below_seq h.bel hb, fun g hg => ?_, List.nodup_cons.2 ⟨fun e => ?_, h.nd⟩⟩
  · rcases List.mem_cons.1 hg with rfl | hg
    · exact ⟨hh, h.bel.size⟩
    · exact ⟨(hb.block g (lt_of_heapP (h.all g hg).1)).trans (h.all g hg).1, (h.all g hg).2⟩
  · exact absurd (lt_of_heapP (h.all _ e).1) (Nat.lt_irrefl _)

/-- A line that is being made. -/
structure NewL (w : World) (W : World) (N : Nat) (jv ov : Value) (K Lf Rn Rd C : Nat) (lf rn rd cc : List Value) : Prop where
  bel : Below w.heap.size w W
  jbox : W.heap[w.heap.size]? = some (.cells #[jv] 35 (0, 0))
  obox : W.heap[w.heap.size + 1]? = some (.cells #[ov] 77 (0, 0))
  line : W.heap[K]? = some (.cells #[jv, .slice (some ⟨Lf, 0, none⟩) N N, .slice (some ⟨Rn, 0, none⟩) N N, .slice (some ⟨Rd, 0, none⟩) N N, .slice (some ⟨C, 0, none⟩) N N, .slice none 0 0] 84 (0, 0))
  left : W.heap[Lf]? = some (.cells lf.toArray 3 (0, 0))
  ranks : W.heap[Rn]? = some (.cells rn.toArray 3 (0, 0))
  ranked : W.heap[Rd]? = some (.cells rd.toArray 3 (0, 0))
  comes : W.heap[C]? = some (.cells cc.toArray 3 (0, 0))
  low : w.heap.size + 2 ≤ K ∧ w.heap.size + 2 ≤ Lf ∧ w.heap.size + 2 ≤ Rn ∧ w.heap.size + 2 ≤ Rd ∧ w.heap.size + 2 ≤ C
  ds : K ≠ Lf ∧ K ≠ Rn ∧ K ≠ Rd ∧ K ≠ C ∧ Lf ≠ Rn ∧ Lf ≠ Rd ∧ Lf ≠ C ∧ Rn ≠ Rd ∧ Rn ≠ C ∧ Rd ≠ C

section

variable {w W W' : World} {N : Nat} {jv ov : Value} {K Lf Rn Rd C : Nat} {lf rn rd cc lf' rn' rd' cc' : List Value}

theorem NewL.grow (h : NewL w W N jv ov K Lf Rn Rd C lf rn rd cc) (hb : Below W.heap.size W W') : NewL w W' N jv ov K Lf Rn Rd C lf rn rd cc :=
  ⟨below_seq h.bel hb, (hb.block _ (lt_of_heapP h.jbox)).trans h.jbox, (hb.block _ (lt_of_heapP h.obox)).trans h.obox, (hb.block _ (lt_of_heapP h.line)).trans h.line, (hb.block _ (lt_of_heapP h.left)).trans h.left, (hb.block _ (lt_of_heapP h.ranks)).trans h.ranks, (hb.block _ (lt_of_heapP h.ranked)).trans h.ranked, (hb.block _ (lt_of_heapP h.comes)).trans h.comes, h.low, h.ds⟩

theorem NewL.left' (h : NewL w W N jv ov K Lf Rn Rd C lf rn rd cc) (hg : W.grownBy W' (some Lf)) (hh : W'.heap[Lf]? = some (.cells lf'.toArray 3 (0, 0))) : NewL w W' N jv ov K Lf Rn Rd C lf' rn rd cc := by
  obtain ⟨l1, l2, l3, l4, l5⟩ := h.low
  obtain ⟨d1, d2, d3, d4, d5, d6, d7, d8, d9, d10⟩ := h.ds
  have keep : ∀ q, q < W.heap.size → q ≠ Lf → W'.heap[q]? = W.heap[q]? := fun q hq hne => hg.block q hq (fun e => hne (Option.some.inj e))
  have hs := h.bel.size
  exact ⟨h.bel.trans (grownBy_below hg hs (fun q e => by cases e; omega)), (keep _ (lt_of_heapP h.jbox) (by omega)).trans h.jbox, (keep _ (lt_of_heapP h.obox) (by omega)).trans h.obox, (keep _ (lt_of_heapP h.line) (by omega)).trans h.line, hh, (keep _ (lt_of_heapP h.ranks) (by omega)).trans h.ranks, (keep _ (lt_of_heapP h.ranked) (by omega)).trans h.ranked, (keep _ (lt_of_heapP h.comes) (by omega)).trans h.comes, h.low, h.ds⟩

theorem NewL.left_set (h : NewL w W N jv ov K Lf Rn Rd C lf rn rd cc) (i : Nat) (u : Value) : NewL w (W.setCell ⟨Lf, i, none⟩ u) N jv ov K Lf Rn Rd C (lf.set i u) rn rd cc :=
  h.left' (set_grown _ _ _ _) (setCell_list h.left)

theorem NewL.ranks' (h : NewL w W N jv ov K Lf Rn Rd C lf rn rd cc) (hg : W.grownBy W' (some Rn)) (hh : W'.heap[Rn]? = some (.cells rn'.toArray 3 (0, 0))) : NewL w W' N jv ov K Lf Rn Rd C lf rn' rd cc := by
  obtain ⟨l1, l2, l3, l4, l5⟩ := h.low
  obtain ⟨d1, d2, d3, d4, d5, d6, d7, d8, d9, d10⟩ := h.ds
  have keep : ∀ q, q < W.heap.size → q ≠ Rn → W'.heap[q]? = W.heap[q]? := fun q hq hne => hg.block q hq (fun e => hne (Option.some.inj e))
  have hs := h.bel.size
  exact ⟨h.bel.trans (grownBy_below hg hs (fun q e => by cases e; omega)), (keep _ (lt_of_heapP h.jbox) (by omega)).trans h.jbox, (keep _ (lt_of_heapP h.obox) (by omega)).trans h.obox, (keep _ (lt_of_heapP h.line) (by omega)).trans h.line, (keep _ (lt_of_heapP h.left) (by omega)).trans h.left, hh, (keep _ (lt_of_heapP h.ranked) (by omega)).trans h.ranked, (keep _ (lt_of_heapP h.comes) (by omega)).trans h.comes, h.low, h.ds⟩

theorem NewL.ranks_set (h : NewL w W N jv ov K Lf Rn Rd C lf rn rd cc) (i : Nat) (u : Value) : NewL w (W.setCell ⟨Rn, i, none⟩ u) N jv ov K Lf Rn Rd C lf (rn.set i u) rd cc :=
  h.ranks' (set_grown _ _ _ _) (setCell_list h.ranks)

theorem NewL.ranked' (h : NewL w W N jv ov K Lf Rn Rd C lf rn rd cc) (hg : W.grownBy W' (some Rd)) (hh : W'.heap[Rd]? = some (.cells rd'.toArray 3 (0, 0))) : NewL w W' N jv ov K Lf Rn Rd C lf rn rd' cc := by
  obtain ⟨l1, l2, l3, l4, l5⟩ := h.low
  obtain ⟨d1, d2, d3, d4, d5, d6, d7, d8, d9, d10⟩ := h.ds
  have keep : ∀ q, q < W.heap.size → q ≠ Rd → W'.heap[q]? = W.heap[q]? := fun q hq hne => hg.block q hq (fun e => hne (Option.some.inj e))
  have hs := h.bel.size
  exact ⟨h.bel.trans (grownBy_below hg hs (fun q e => by cases e; omega)), (keep _ (lt_of_heapP h.jbox) (by omega)).trans h.jbox, (keep _ (lt_of_heapP h.obox) (by omega)).trans h.obox, (keep _ (lt_of_heapP h.line) (by omega)).trans h.line, (keep _ (lt_of_heapP h.left) (by omega)).trans h.left, (keep _ (lt_of_heapP h.ranks) (by omega)).trans h.ranks, hh, (keep _ (lt_of_heapP h.comes) (by omega)).trans h.comes, h.low, h.ds⟩

theorem NewL.ranked_set (h : NewL w W N jv ov K Lf Rn Rd C lf rn rd cc) (i : Nat) (u : Value) : NewL w (W.setCell ⟨Rd, i, none⟩ u) N jv ov K Lf Rn Rd C lf rn (rd.set i u) cc :=
  h.ranked' (set_grown _ _ _ _) (setCell_list h.ranked)

theorem NewL.comes' (h : NewL w W N jv ov K Lf Rn Rd C lf rn rd cc) (hg : W.grownBy W' (some C)) (hh : W'.heap[C]? = some (.cells cc'.toArray 3 (0, 0))) : NewL w W' N jv ov K Lf Rn Rd C lf rn rd cc' := by
  obtain ⟨l1, l2, l3, l4, l5⟩ := h.low
  obtain ⟨d1, d2, d3, d4, d5, d6, d7, d8, d9, d10⟩ := h.ds
  have keep : ∀ q, q < W.heap.size → q ≠ C → W'.heap[q]? = W.heap[q]? := fun q hq hne => hg.block q hq (fun e => hne (Option.some.inj e))
  have hs := h.bel.size
  exact ⟨h.bel.trans (grownBy_below hg hs (fun q e => by cases e; omega)), (keep _ (lt_of_heapP h.jbox) (by omega)).trans h.jbox, (keep _ (lt_of_heapP h.obox) (by omega)).trans h.obox, (keep _ (lt_of_heapP h.line) (by omega)).trans h.line, (keep _ (lt_of_heapP h.left) (by omega)).trans h.left, (keep _ (lt_of_heapP h.ranks) (by omega)).trans h.ranks, (keep _ (lt_of_heapP h.ranked) (by omega)).trans h.ranked, hh, h.low, h.ds⟩

theorem NewL.comes_set (h : NewL w W N jv ov K Lf Rn Rd C lf rn rd cc) (i : Nat) (u : Value) : NewL w (W.setCell ⟨C, i, none⟩ u) N jv ov K Lf Rn Rd C lf rn rd (cc.set i u) :=
  h.comes' (set_grown _ _ _ _) (setCell_list h.comes)

end

theorem Mk.fin {w W0 Wz : World} {N Lf Rn Rd C : Nat} {jv ov : Value} {gs : List Nat} (hW0 : ((w.alloc (.cells #[jv] 35)).alloc (.cells #[ov] 77)).drew = W0) (h : Mk N W0 Wz gs) (m1 : Lf ∈ gs) (m2 : Rn ∈ gs) (m3 : Rd ∈ gs) (m4 : C ∈ gs) (hd : Lf ≠ Rn ∧ Lf ≠ Rd ∧ Lf ≠ C ∧ Rn ≠ Rd ∧ Rn ≠ C ∧ Rd ≠ C) :
    NewL w (Wz.alloc (.cells #[jv, .slice (some ⟨Lf, 0, none⟩) N N, .slice (some ⟨Rn, 0, none⟩) N N, .slice (some ⟨Rd, 0, none⟩) N N, .slice (some ⟨C, 0, none⟩) N N, .slice none 0 0] 84)) N jv ov Wz.heap.size Lf Rn Rd C (runCells N []) (runCells N []) (runCells N []) (runCells N []) := by
  subst hW0
  have hs0 : ((w.alloc (.cells #[jv] 35)).alloc (.cells #[ov] 77)).drew.heap.size = w.heap.size + 2 := by simp
  have hsz := h.bel.size
  have hb0 := h.bel.block
  rw [hs0] at hsz hb0
  obtain ⟨a1, b1⟩ := h.all _ m1
  obtain ⟨a2, b2⟩ := h.all _ m2
  obtain ⟨a3, b3⟩ := h.all _ m3
  obtain ⟨a4, b4⟩ := h.all _ m4
  rw [hs0] at b1 b2 b3 b4
  have k1 := lt_of_heapP a1
  have k2 := lt_of_heapP a2
  have k3 := lt_of_heapP a3
  have k4 := lt_of_heapP a4
  have ka : ∀ q, q < Wz.heap.size → ∀ o, (Wz.alloc o).heap[q]? = Wz.heap[q]? := fun q hq o => Below.heap_alloc Wz o q hq
  have j1 : Wz.heap[w.heap.size]? = some (.cells #[jv] 35 (0, 0)) := by
    rw [hb0 _ (by omega)]
    show ((w.alloc (.cells #[jv] 35)).alloc (.cells #[ov] 77)).heap[w.heap.size]? = _
    rw [Below.heap_alloc _ _ _ (by simp), heap_alloc_new]
  have j2 : Wz.heap[w.heap.size + 1]? = some (.cells #[ov] 77 (0, 0)) := by
    rw [hb0 _ (by omega)]
    have e := heap_alloc_new (w.alloc (.cells #[jv] 35)) (.cells #[ov] 77)
    rw [show (w.alloc (.cells #[jv] 35)).heap.size = w.heap.size + 1 by simp] at e
    exact e
  have hB : Below w.heap.size w Wz := below_seq (below_seq (below_new w (.cells #[jv] 35)) ((below_new _ (.cells #[ov] 77)).drew)) h.bel
  obtain ⟨d1, d2, d3, d4, d5, d6⟩ := hd
  exact ⟨below_seq hB (below_new _ _), (ka _ (lt_of_heapP j1) _).trans j1, (ka _ (lt_of_heapP j2) _).trans j2, heap_alloc_new _ _, (ka _ k1 _).trans a1, (ka _ k2 _).trans a2, (ka _ k3 _).trans a3, (ka _ k4 _).trans a4, ⟨by omega, by omega, by omega, by omega, by omega⟩, ⟨by omega, by omega, by omega, by omega, d1, d2, d3, d4, d5, d6⟩⟩
end Go.Proofs.YtekbkcgpjkecbalDoor.S8
