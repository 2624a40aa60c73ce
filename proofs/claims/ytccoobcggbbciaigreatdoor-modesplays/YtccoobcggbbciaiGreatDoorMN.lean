import Derived.Test.YtccoobcggbbciaiGreatDoorMM
import Derived.Test.YtccoobcggbbciaiGreatDoorSPV
import Derived.Test.YtccoobcggbbciaiGreatDoorMT
namespace Go.Proofs.YtccoobcggbbciaiGreatDoor
open Go.ChangeShapes Go.WideShapes Go.ChangeAt Go.RowKit

/-- The world in which a line was made, but for m.Turned. -/
structure Base (w0 w1 : World) (mb : Nat) (T : Int) : Prop where
  os : w1.os = w0.os
  tape : w1.tape = w0.tape
  output : w1.output = w0.output
  size : w1.heap.size = w0.heap.size
  rest : ∀ q, q ≠ mb → w1.heap[q]? = w0.heap[q]?
  m : w1.heap[mb]? = some (.cells #[.slice none 0 0, .slice none 0 0, .int .i64 T] 43 (0, 0))

theorem Base.start {w0 : World} {mb : Nat} {T : Int} (h : w0.heap[mb]? = some (.cells #[.slice none 0 0, .slice none 0 0, .int .i64 T] 43 (0, 0))) : Base w0 w0 mb T := ⟨rfl, rfl, rfl, rfl, fun _ _ => rfl, h⟩

theorem Base.turn {w0 w1 : World} {mb : Nat} {T : Int} (h : Base w0 w1 mb T) (T' : Int) : Base w0 (w1.setCell ⟨mb, 2, none⟩ (.int .i64 T')) mb T' :=
  ⟨h.os, h.tape, h.output, by simp [h.size], fun q hq => (Below.heap_setCell _ _ _ _ hq).trans (h.rest q hq), by rw [setCell_at h.m]; rfl⟩

/-- What is below the block of m stays. -/
theorem Base.below {w w0 w1 : World} {mb : Nat} {T : Int} (h : Base w0 w1 mb T) (hb : Below w.heap.size w w0) (hm : w.heap.size ≤ mb) : Below w.heap.size w w1 :=
  ⟨h.os.trans hb.os, h.tape.trans hb.tape, h.output.trans hb.output, by rw [h.size]; exact hb.size, fun i hi => (h.rest i (by omega)).trans (hb.block i hi)⟩

theorem Base.cell {w0 w1 : World} {mb : Nat} {T : Int} (h : Base w0 w1 mb T) {a : Addr} {v : Value} (ha : a.block ≠ mb) (hc : w0.cell? a = some v) : w1.cell? a = some v := (World.cell?_of_block (h.rest _ ha)).trans hc

theorem Base.row {w0 w1 : World} {mb : Nat} {T : Int} {α : Type} {f : α → List Value} {l : List α} {b o n c : Nat} (h : Base w0 w1 mb T) (hr : RowSl f w0 l (.slice (some ⟨b, o, none⟩) n c)) (hb : b ≠ mb) : RowSl f w1 l (.slice (some ⟨b, o, none⟩) n c) := by
  obtain ⟨ad, cc, e, h1, h2, h3⟩ := hr
  cases e
  refine ⟨_, _, rfl, h1, h2, ?_⟩
  rcases h3 with h3 | ⟨b', o', e, h3⟩
  · exact .inl h3
  · cases e
    exact .inr ⟨_, _, rfl, fun q u hq => h.cell hb (h3 q u hq)⟩

theorem LineG.rebase {w1 : World} {B K Lf Rn Rd C : Nat} {W : World} {l : List Jb} {rk cm : List Nat} {k : Nat} {th : List Nat} {left : List Int} {jv tv cv : Value} {mb : Nat} {i : Nat} {v : Value} (h : S8.LineG w1 B K Lf Rn Rd C W l rk cm k th left jv tv cv) (hd : w1.heap.size ≤ C ∧ w1.heap.size ≤ Rn ∧ w1.heap.size ≤ Rd) (hm : mb < w1.heap.size) (hj : RowSl Jb.vals (w1.setCell ⟨mb, i, none⟩ v) l jv) {cs : Array Value} {t : TypeId} {fr : Nat × Nat} (hmb : w1.heap[mb]? = some (.cells cs t fr)) :
    S8.LineG (w1.setCell ⟨mb, i, none⟩ v) B K Lf Rn Rd C (W.setCell ⟨mb, i, none⟩ v) l rk cm k th left jv tv cv := by
  have hl := h.low
  have hsz : (w1.setCell ⟨mb, i, none⟩ v).heap.size = w1.heap.size := by simp
  have key : ∀ q, q ≠ mb → (W.setCell ⟨mb, i, none⟩ v).heap[q]? = W.heap[q]? := fun q hq => Below.heap_setCell _ _ _ _ hq
  refine ⟨(key K (by omega)).trans h.line, (key Lf (by omega)).trans h.left, (key Rn (by omega)).trans h.ranks, (key Rd (by omega)).trans h.ranked, h.comes.same (key C (by omega)), h.there.same (fun g e => key g (by have := h.low' g e; omega)), hj, ⟨h.bel.os, h.bel.tape, h.bel.output, by simpa using h.bel.size, fun q hq => ?_⟩, by rw [hsz]; exact h.low, h.lt, h.dK, h.dL, by simpa using h.bs, h.cval⟩
  rw [hsz] at hq
  by_cases e : q = mb
  · subst e
    rw [setCell_at hmb, setCell_at ((h.bel.block q hq).trans hmb)]
  · rw [key q e, Below.heap_setCell _ _ _ _ e]
    exact h.bel.block q hq

/-- So many are laid; the others are nobody. -/
def padG (n : Nat) (runs : List Int) : List Value := runs.map (Value.int .i64) ++ List.replicate (n - runs.length) (.int .i64 (-1))
theorem padG_len {n : Nat} {runs : List Int} (h : runs.length ≤ n) : (padG n runs).length = n := by simp [padG]; omega
theorem padG_snoc {n : Nat} {runs : List Int} {v : Int} (h : runs.length < n) : (padG n runs).set runs.length (.int .i64 v) = padG n (runs ++ [v]) := by
  unfold padG
  rw [List.set_append_right _ _ (by simp)]
  obtain ⟨m, hm⟩ : ∃ m, n - runs.length = m + 1 := ⟨n - runs.length - 1, by omega⟩
  rw [hm, List.replicate_succ]
  simp [show n - (runs.length + 1) = m by omega]
theorem padG_idle {n : Nat} {runs : List Int} (h : runs.length < n) : padG n (runs ++ [-1]) = padG n runs := by
  unfold padG
  obtain ⟨m, hm⟩ : ∃ m, n - runs.length = m + 1 := ⟨n - runs.length - 1, by omega⟩
  rw [hm, List.replicate_succ]
  simp [show n - (runs.length + 1) = m by omega]
theorem padG_full {runs : List Int} : padG runs.length runs = runs.map (Value.int .i64) := by simp [padG]

/-- A line of jobs of two levels that plays. -/
structure PlayG (w0 w1 : World) (B K Lf Rn Rd C : Nat) (W : World) (l : List Jb) (rk cm : List Nat) (k : Nat) (th : List Nat) (left : List Int) (jv tv cv : Value) (rs pb rb eb n : Nat) (runs ends : List Int) (mb lb nb rw : Nat) (T : Int) (ran : List Int) : Prop where
  base : Base w0 w1 mb T
  line : S8.LineG w1 B K Lf Rn Rd C W l rk cm k th left jv tv cv
  res : W.heap[rs]? = some (.cells #[.slice none 0 0, .slice none 0 0] 41 (0, 0))
  p : W.heap[pb]? = some (.cells #[.slice (some ⟨rb, 0, none⟩) n n, .slice (some ⟨eb, 0, none⟩) l.length l.length] 41 (0, 0))
  rv : W.heap[rb]? = some (.cells (padG n runs).toArray 3 (0, 0))
  ev : W.heap[eb]? = some (.cells (ends.map (Value.int .i64)).toArray 3 (0, 0))
  lbx : W.heap[lb]? = some (.cells #[.pointer (some ⟨K, 0, none⟩)] 98 (0, 0))
  nbx : W.heap[nb]? = some (.cells #[.slice (some ⟨rw, 0, none⟩) l.length l.length] 24 (0, 0))
  rnw : W.heap[rw]? = some (.cells (ran.map (Value.int .i64)).toArray 3 (0, 0))
  bs : ∀ q ∈ [rs, pb, rb, eb, lb, nb, rw], B ≤ q
  ds : [rs, pb, rb, eb, lb, nb, rw].Nodup
  os : ∀ q ∈ [rs, pb, rb, eb, lb, nb, rw], tv.ownBlock ≠ some q
  hd : w0.heap.size ≤ C ∧ w0.heap.size ≤ Rn ∧ w0.heap.size ≤ Rd ∧ Rn ≠ C ∧ Rd ≠ C
  mlt : mb < w0.heap.size

theorem PlayG.lts {w0 w1 : World} {B K Lf Rn Rd C : Nat} {W : World} {l : List Jb} {rk cm : List Nat} {k : Nat} {th : List Nat} {left : List Int} {jv tv cv : Value} {rs pb rb eb n : Nat} {runs ends : List Int} {mb lb nb rw : Nat} {T : Int} {ran : List Int} (h : PlayG w0 w1 B K Lf Rn Rd C W l rk cm k th left jv tv cv rs pb rb eb n runs ends mb lb nb rw T ran) : ∀ q ∈ [rs, pb, rb, eb, lb, nb, rw], q < W.heap.size := fun q hq => by
  simp only [List.mem_cons, List.not_mem_nil, or_false] at hq
  rcases hq with rfl | rfl | rfl | rfl | rfl | rfl | rfl
  · exact lt_heapM h.res
  · exact lt_heapM h.p
  · exact lt_heapM h.rv
  · exact lt_heapM h.ev
  · exact lt_heapM h.lbx
  · exact lt_heapM h.nbx
  · exact lt_heapM h.rnw

/-- All seven blocks stay, and the line is another. -/
theorem PlayG.keep {w0 w1 : World} {B K Lf Rn Rd C : Nat} {W : World} {l : List Jb} {rk cm : List Nat} {k : Nat} {th : List Nat} {left : List Int} {jv tv cv : Value} {rs pb rb eb n : Nat} {runs ends : List Int} {mb lb nb rw : Nat} {T : Int} {ran : List Int} {w1' W' : World} {cm' : List Nat} {k' : Nat} {th' : List Nat} {left' : List Int} {tv' cv' : Value} {T' : Int} (h : PlayG w0 w1 B K Lf Rn Rd C W l rk cm k th left jv tv cv rs pb rb eb n runs ends mb lb nb rw T ran) (hb : Base w0 w1' mb T') (hl : S8.LineG w1' B K Lf Rn Rd C W' l rk cm' k' th' left' jv tv' cv') (hk : ∀ q ∈ [rs, pb, rb, eb, lb, nb, rw], W'.heap[q]? = W.heap[q]?) (ho : ∀ q ∈ [rs, pb, rb, eb, lb, nb, rw], tv'.ownBlock ≠ some q) : PlayG w0 w1' B K Lf Rn Rd C W' l rk cm' k' th' left' jv tv' cv' rs pb rb eb n runs ends mb lb nb rw T' ran :=
  ⟨hb, hl, (hk _ (by simp)).trans h.res, (hk _ (by simp)).trans h.p, (hk _ (by simp)).trans h.rv, (hk _ (by simp)).trans h.ev, (hk _ (by simp)).trans h.lbx, (hk _ (by simp)).trans h.nbx, (hk _ (by simp)).trans h.rnw, h.bs, h.ds, ho, h.hd, h.mlt⟩

theorem PlayG.moved {w0 w1 : World} {B K Lf Rn Rd C : Nat} {W : World} {l : List Jb} {rk cm : List Nat} {k : Nat} {th : List Nat} {left : List Int} {jv tv cv : Value} {rs pb rb eb n : Nat} {runs ends : List Int} {mb lb nb rw : Nat} {T : Int} {ran : List Int} {W' : World} {cm' : List Nat} {k' : Nat} {th' : List Nat} {left' : List Int} {tv' cv' : Value} (h : PlayG w0 w1 B K Lf Rn Rd C W l rk cm k th left jv tv cv rs pb rb eb n runs ends mb lb nb rw T ran) (hl : S8.LineG w1 B K Lf Rn Rd C W' l rk cm' k' th' left' jv tv' cv') (hm : MovedG W W' K Lf C tv tv') : PlayG w0 w1 B K Lf Rn Rd C W' l rk cm' k' th' left' jv tv' cv' rs pb rb eb n runs ends mb lb nb rw T ran := by
  have key : ∀ q ∈ [rs, pb, rb, eb, lb, nb, rw], W'.heap[q]? = W.heap[q]? ∧ tv'.ownBlock ≠ some q := fun q hq => by
    have h1 := h.bs q hq
    have h2 := h.line.lt
    exact hm.block q (h.lts q hq) (by omega) (by omega) (by omega) (h.os q hq)
  exact h.keep h.base hl (fun q hq => (key q hq).1) (fun q hq => (key q hq).2)

theorem PlayG.below {w0 w1 : World} {B K Lf Rn Rd C : Nat} {W : World} {l : List Jb} {rk cm : List Nat} {k : Nat} {th : List Nat} {left : List Int} {jv tv cv : Value} {rs pb rb eb n : Nat} {runs ends : List Int} {mb lb nb rw : Nat} {T : Int} {ran : List Int} {W' : World} (h : PlayG w0 w1 B K Lf Rn Rd C W l rk cm k th left jv tv cv rs pb rb eb n runs ends mb lb nb rw T ran) (hb : Below W.heap.size W W') : PlayG w0 w1 B K Lf Rn Rd C W' l rk cm k th left jv tv cv rs pb rb eb n runs ends mb lb nb rw T ran :=
  h.moved (LineG.grow h.line hb) (MovedG.below hb)

theorem PlayG.lineS {w0 w1 : World} {B K Lf Rn Rd C : Nat} {W : World} {l : List Jb} {rk cm : List Nat} {k : Nat} {th : List Nat} {left : List Int} {jv tv cv : Value} {rs pb rb eb n : Nat} {runs ends : List Int} {mb lb nb rw : Nat} {T : Int} {ran : List Int} {g : Nat} (h : PlayG w0 w1 B K Lf Rn Rd C W l rk cm k th left jv tv cv rs pb rb eb n runs ends mb lb nb rw T ran) (hg : g ∈ [rs, pb, rb, eb, lb, nb, rw]) (i : Nat) (v : Value) : S8.LineG w1 B K Lf Rn Rd C (W.setCell ⟨g, i, none⟩ v) l rk cm k th left jv tv cv :=
  h.line.keep (fun b hb => Below.heap_setCell _ _ _ _ (by have := h.bs g hg; show b ≠ g; omega)) (h.line.there.same (fun q e => Below.heap_setCell _ _ _ _ (by show q ≠ g; intro e2; subst e2; exact h.os q hg e))) (by simp) (h.line.bel.setCell (by have h1 := h.bs g hg; have h2 := h.line.low.2; show w1.heap.size ≤ g; omega) _) rfl

theorem PlayG.ne {w0 w1 : World} {B K Lf Rn Rd C : Nat} {W : World} {l : List Jb} {rk cm : List Nat} {k : Nat} {th : List Nat} {left : List Int} {jv tv cv : Value} {rs pb rb eb n : Nat} {runs ends : List Int} {mb lb nb rw : Nat} {T : Int} {ran : List Int} (h : PlayG w0 w1 B K Lf Rn Rd C W l rk cm k th left jv tv cv rs pb rb eb n runs ends mb lb nb rw T ran) : rs ≠ pb ∧ rs ≠ rb ∧ rs ≠ eb ∧ rs ≠ lb ∧ rs ≠ nb ∧ rs ≠ rw ∧ pb ≠ rb ∧ pb ≠ eb ∧ pb ≠ lb ∧ pb ≠ nb ∧ pb ≠ rw ∧ rb ≠ eb ∧ rb ≠ lb ∧ rb ≠ nb ∧ rb ≠ rw ∧ eb ≠ lb ∧ eb ≠ nb ∧ eb ≠ rw ∧ lb ≠ nb ∧ lb ≠ rw ∧ nb ≠ rw := by
  have h1 := h.ds
  simp only [List.nodup_cons, List.mem_cons, List.not_mem_nil, or_false, not_or] at h1
  obtain ⟨⟨a1, a2, a3, a4, a5, a6⟩, ⟨b2, b3, b4, b5, b6⟩, ⟨c3, c4, c5, c6⟩, ⟨d4, d5, d6⟩, ⟨e5, e6⟩, f6, -⟩ := h1
  exact ⟨a1, a2, a3, a4, a5, a6, b2, b3, b4, b5, b6, c3, c4, c5, c6, d4, d5, d6, e5, e6, f6⟩

theorem PlayG.run {w0 w1 : World} {B K Lf Rn Rd C : Nat} {W : World} {l : List Jb} {rk cm : List Nat} {k : Nat} {th : List Nat} {left : List Int} {jv tv cv : Value} {rs pb rb eb n : Nat} {runs ends : List Int} {mb lb nb rw : Nat} {T : Int} {ran : List Int} (h : PlayG w0 w1 B K Lf Rn Rd C W l rk cm k th left jv tv cv rs pb rb eb n runs ends mb lb nb rw T ran) {i : Nat} {v : Int} {runs' : List Int} (he : (padG n runs).set i (.int .i64 v) = padG n runs') : PlayG w0 w1 B K Lf Rn Rd C (W.setCell ⟨rb, i, none⟩ (.int .i64 v)) l rk cm k th left jv tv cv rs pb rb eb n runs' ends mb lb nb rw T ran := by
  obtain ⟨a1, a2, a3, a4, a5, a6, b2, b3, b4, b5, b6, c3, c4, c5, c6, d4, d5, d6, e5, e6, f6⟩ := h.ne
  refine ⟨h.base, h.lineS (by simp) _ _, ?_, ?_, ?_, ?_, ?_, ?_, ?_, h.bs, h.ds, h.os, h.hd, h.mlt⟩
  · rw [Below.heap_setCell _ _ _ _ a2]; exact h.res
  · rw [Below.heap_setCell _ _ _ _ b2]; exact h.p
  · rw [setCell_at h.rv, ← he]; simp
  · rw [Below.heap_setCell _ _ _ _ (Ne.symm c3)]; exact h.ev
  · rw [Below.heap_setCell _ _ _ _ (Ne.symm c4)]; exact h.lbx
  · rw [Below.heap_setCell _ _ _ _ (Ne.symm c5)]; exact h.nbx
  · rw [Below.heap_setCell _ _ _ _ (Ne.symm c6)]; exact h.rnw

theorem PlayG.done {w0 w1 : World} {B K Lf Rn Rd C : Nat} {W : World} {l : List Jb} {rk cm : List Nat} {k : Nat} {th : List Nat} {left : List Int} {jv tv cv : Value} {rs pb rb eb n : Nat} {runs ends : List Int} {mb lb nb rw : Nat} {T : Int} {ran : List Int} (h : PlayG w0 w1 B K Lf Rn Rd C W l rk cm k th left jv tv cv rs pb rb eb n runs ends mb lb nb rw T ran) {i : Nat} {v : Int} : PlayG w0 w1 B K Lf Rn Rd C (W.setCell ⟨eb, i, none⟩ (.int .i64 v)) l rk cm k th left jv tv cv rs pb rb eb n runs (ends.set i v) mb lb nb rw T ran := by
  obtain ⟨a1, a2, a3, a4, a5, a6, b2, b3, b4, b5, b6, c3, c4, c5, c6, d4, d5, d6, e5, e6, f6⟩ := h.ne
  refine ⟨h.base, h.lineS (by simp) _ _, ?_, ?_, ?_, ?_, ?_, ?_, ?_, h.bs, h.ds, h.os, h.hd, h.mlt⟩
  · rw [Below.heap_setCell _ _ _ _ a3]; exact h.res
  · rw [Below.heap_setCell _ _ _ _ b3]; exact h.p
  · rw [Below.heap_setCell _ _ _ _ c3]; exact h.rv
  · rw [setCell_at h.ev]; simp [List.map_set]
  · rw [Below.heap_setCell _ _ _ _ (Ne.symm d4)]; exact h.lbx
  · rw [Below.heap_setCell _ _ _ _ (Ne.symm d5)]; exact h.nbx
  · rw [Below.heap_setCell _ _ _ _ (Ne.symm d6)]; exact h.rnw

theorem PlayG.ranS {w0 w1 : World} {B K Lf Rn Rd C : Nat} {W : World} {l : List Jb} {rk cm : List Nat} {k : Nat} {th : List Nat} {left : List Int} {jv tv cv : Value} {rs pb rb eb n : Nat} {runs ends : List Int} {mb lb nb rw : Nat} {T : Int} {ran : List Int} (h : PlayG w0 w1 B K Lf Rn Rd C W l rk cm k th left jv tv cv rs pb rb eb n runs ends mb lb nb rw T ran) {i : Nat} {v : Int} : PlayG w0 w1 B K Lf Rn Rd C (W.setCell ⟨rw, i, none⟩ (.int .i64 v)) l rk cm k th left jv tv cv rs pb rb eb n runs ends mb lb nb rw T (ran.set i v) := by
  obtain ⟨a1, a2, a3, a4, a5, a6, b2, b3, b4, b5, b6, c3, c4, c5, c6, d4, d5, d6, e5, e6, f6⟩ := h.ne
  refine ⟨h.base, h.lineS (by simp) _ _, ?_, ?_, ?_, ?_, ?_, ?_, ?_, h.bs, h.ds, h.os, h.hd, h.mlt⟩
  · rw [Below.heap_setCell _ _ _ _ a6]; exact h.res
  · rw [Below.heap_setCell _ _ _ _ b6]; exact h.p
  · rw [Below.heap_setCell _ _ _ _ c6]; exact h.rv
  · rw [Below.heap_setCell _ _ _ _ d6]; exact h.ev
  · rw [Below.heap_setCell _ _ _ _ e6]; exact h.lbx
  · rw [Below.heap_setCell _ _ _ _ f6]; exact h.nbx
  · rw [setCell_at h.rnw]; simp [List.map_set]

/-- m.Turned is laid. -/
theorem PlayG.turn {w0 w1 : World} {B K Lf Rn Rd C : Nat} {W : World} {l : List Jb} {rk cm : List Nat} {k : Nat} {th : List Nat} {left : List Int} {jv tv cv : Value} {rs pb rb eb n : Nat} {runs ends : List Int} {mb lb nb rw : Nat} {T : Int} {ran : List Int} (h : PlayG w0 w1 B K Lf Rn Rd C W l rk cm k th left jv tv cv rs pb rb eb n runs ends mb lb nb rw T ran) (T' : Int) (hj : RowSl Jb.vals (w1.setCell ⟨mb, 2, none⟩ (.int .i64 T')) l jv) : PlayG w0 (w1.setCell ⟨mb, 2, none⟩ (.int .i64 T')) B K Lf Rn Rd C (W.setCell ⟨mb, 2, none⟩ (.int .i64 T')) l rk cm k th left jv tv cv rs pb rb eb n runs ends mb lb nb rw T' ran := by
  have hm := h.mlt
  have hs := h.base.size
  have hd := h.hd
  have hl := h.line.low.2
  refine h.keep (h.base.turn T') (LineG.rebase h.line ⟨by omega, by omega, by omega⟩ (by omega) hj h.base.m) (fun q hq => Below.heap_setCell _ _ _ _ (by have := h.bs q hq; show q ≠ mb; omega)) h.os

theorem PlayG.idle {w0 w1 : World} {B K Lf Rn Rd C : Nat} {W : World} {l : List Jb} {rk cm : List Nat} {k : Nat} {th : List Nat} {left : List Int} {jv tv cv : Value} {rs pb rb eb n : Nat} {runs ends : List Int} {mb lb nb rw : Nat} {T : Int} {ran : List Int} (h : PlayG w0 w1 B K Lf Rn Rd C W l rk cm k th left jv tv cv rs pb rb eb n runs ends mb lb nb rw T ran) (hn : runs.length < n) : PlayG w0 w1 B K Lf Rn Rd C W l rk cm k th left jv tv cv rs pb rb eb n (runs ++ [-1]) ends mb lb nb rw T ran :=
  ⟨h.base, h.line, h.res, h.p, by rw [padG_idle hn]; exact h.rv, h.ev, h.lbx, h.nbx, h.rnw, h.bs, h.ds, h.os, h.hd, h.mlt⟩
end Go.Proofs.YtccoobcggbbciaiGreatDoor
