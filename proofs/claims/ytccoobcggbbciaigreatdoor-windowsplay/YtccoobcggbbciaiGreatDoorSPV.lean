import Derived.Test.YtccoobcggbbciaiGreatDoorSRC
import Derived.Test.YtccoobcggbbciaiGreatDoorSPR
namespace Go.Proofs.YtccoobcggbbciaiGreatDoor.S8
open Go.ChangeShapes Go.WideShapes Go.ChangeAt Go.RowKit Go.Sort

theorem runCells_again {n : Nat} {runs : List Int} {u v : Int} : (runCells n (runs ++ [u])).set runs.length (.int .i64 v) = runCells n (runs ++ [v]) := by
  unfold runCells
  rw [List.set_append_left _ _ (by simp), List.map_append, List.map_append, List.set_append_right _ _ (by simp)]
  simp

theorem lt_of_heap {W : World} {g : Nat} {o : Obj} (h : W.heap[g]? = some o) : g < W.heap.size := (Array.getElem?_eq_some_iff.1 h).1

/-- A line that plays, as it lies. -/
structure PlayL (w : World) (B K Lf Rn Rd C : Nat) (W : World) (l : List Jb) (rk cm : List Nat) (k : Nat) (th : List Nat) (left : List Int) (jv tv cv : Value) (rs pb rb eb n : Nat) (runs ends : List Int) : Prop where
  line : LineW w B K Lf Rn Rd C W l rk cm k th left jv tv cv
  res : W.heap[rs]? = some (.cells #[.slice none 0 0, .slice none 0 0] 41 (0, 0))
  p : W.heap[pb]? = some (.cells #[.slice (some ⟨rb, 0, none⟩) n n, .slice (some ⟨eb, 0, none⟩) l.length l.length] 41 (0, 0))
  rv : W.heap[rb]? = some (.cells (runCells n runs).toArray 3 (0, 0))
  ev : W.heap[eb]? = some (.cells (ends.map (Value.int .i64)).toArray 3 (0, 0))
  bs : B ≤ rs ∧ B ≤ pb ∧ B ≤ rb ∧ B ≤ eb
  ds : rs ≠ pb ∧ rs ≠ rb ∧ rs ≠ eb ∧ pb ≠ rb ∧ pb ≠ eb ∧ rb ≠ eb
  os : tv.ownBlock ≠ some rs ∧ tv.ownBlock ≠ some pb ∧ tv.ownBlock ≠ some rb ∧ tv.ownBlock ≠ some eb

section

variable {w : World} {B K Lf Rn Rd C : Nat} {W W' : World} {l : List Jb} {rk cm : List Nat} {k k' : Nat} {th th' : List Nat} {left left' : List Int} {jv tv cv tv' cv' : Value} {rs pb rb eb n : Nat} {runs ends : List Int}

theorem PlayL.base (h : PlayL w B K Lf Rn Rd C W l rk cm k th left jv tv cv rs pb rb eb n runs ends) : w.heap.size ≤ B := h.line.low.2

theorem PlayL.lts (h : PlayL w B K Lf Rn Rd C W l rk cm k th left jv tv cv rs pb rb eb n runs ends) : rs < W.heap.size ∧ pb < W.heap.size ∧ rb < W.heap.size ∧ eb < W.heap.size :=
  ⟨lt_of_heap h.res, lt_of_heap h.p, lt_of_heap h.rv, lt_of_heap h.ev⟩

/-- The line has moved, and nothing else. -/
theorem PlayL.moved (h : PlayL w B K Lf Rn Rd C W l rk cm k th left jv tv cv rs pb rb eb n runs ends) (hc : LineW w B K Lf Rn Rd C W' l rk cm k' th' left' jv tv' cv') (hm : MovedL W W' K Lf tv tv') : PlayL w B K Lf Rn Rd C W' l rk cm k' th' left' jv tv' cv' rs pb rb eb n runs ends := by
  obtain ⟨l1, l2, l3, l4⟩ := h.lts
  obtain ⟨b1, b2, b3, b4⟩ := h.bs
  obtain ⟨o1, o2, o3, o4⟩ := h.os
  obtain ⟨hK, hL, -⟩ := h.line.lt
  obtain ⟨e1, f1⟩ := hm.block rs l1 (by omega) (by omega) o1
  obtain ⟨e2, f2⟩ := hm.block pb l2 (by omega) (by omega) o2
  obtain ⟨e3, f3⟩ := hm.block rb l3 (by omega) (by omega) o3
  obtain ⟨e4, f4⟩ := hm.block eb l4 (by omega) (by omega) o4
  exact ⟨hc, e1.trans h.res, e2.trans h.p, e3.trans h.rv, e4.trans h.ev, h.bs, h.ds, f1, f2, f3, f4⟩

theorem PlayL.drewN (h : PlayL w B K Lf Rn Rd C W l rk cm k th left jv tv cv rs pb rb eb n runs ends) (q : Nat) : PlayL w B K Lf Rn Rd C (W.drewN q) l rk cm k th left jv tv cv rs pb rb eb n runs ends :=
  h.moved (h.line.drewN q) (MovedL.drewN W K Lf tv q)

/-- A store into a block that the line doesn't hold. -/
theorem LineW.other (h : LineW w B K Lf Rn Rd C W l rk cm k th left jv tv cv) {b i : Nat} {u : Value} (hb : B ≤ b) (ho : tv.ownBlock ≠ some b) : LineW w B K Lf Rn Rd C (W.setCell ⟨b, i, none⟩ u) l rk cm k th left jv tv cv := by
  have keep : ∀ q, q ≠ b → (W.setCell ⟨b, i, none⟩ u).heap[q]? = W.heap[q]? := fun q hq => Below.heap_setCell _ _ _ _ hq
  have hl := h.low.2
  exact h.keep (fun q hq => keep q (by omega)) (h.there.same (fun g e => keep g (fun e' => ho (e' ▸ e)))) (by simp) (h.bel.setCell (show w.heap.size ≤ b by omega) _) rfl

theorem LineW.below (h : LineW w B K Lf Rn Rd C W l rk cm k th left jv tv cv) (hb : Below W.heap.size W W') : LineW w B K Lf Rn Rd C W' l rk cm k th left jv tv cv := by
  have bs := h.bs
  exact h.keep (fun q hq => hb.block q (by omega)) (h.there.same (fun g e => hb.block g (h.there.low e).2)) hb.size (below_seq h.bel hb) rfl

/-- Who runs is laid down. -/
theorem PlayL.run (h : PlayL w B K Lf Rn Rd C W l rk cm k th left jv tv cv rs pb rb eb n runs ends) {i : Nat} {v : Int} {runs' : List Int} (he : (runCells n runs).set i (.int .i64 v) = runCells n runs') : PlayL w B K Lf Rn Rd C (W.setCell ⟨rb, i, none⟩ (.int .i64 v)) l rk cm k th left jv tv cv rs pb rb eb n runs' ends := by
  obtain ⟨b1, b2, b3, b4⟩ := h.bs
  obtain ⟨d1, d2, d3, d4, d5, d6⟩ := h.ds
  have keep : ∀ q, q ≠ rb → (W.setCell ⟨rb, i, none⟩ (.int .i64 v)).heap[q]? = W.heap[q]? := fun q hq => Below.heap_setCell _ _ _ _ hq
  refine ⟨h.line.other b3 h.os.2.2.1, (keep rs d2).trans h.res, (keep pb d4).trans h.p, ?_, (keep eb (Ne.symm d6)).trans h.ev, h.bs, h.ds, h.os⟩
  rw [setCell_list h.rv, he]

/-- When it was done is laid down. -/
theorem PlayL.done (h : PlayL w B K Lf Rn Rd C W l rk cm k th left jv tv cv rs pb rb eb n runs ends) {i : Nat} {v : Int} : PlayL w B K Lf Rn Rd C (W.setCell ⟨eb, i, none⟩ (.int .i64 v)) l rk cm k th left jv tv cv rs pb rb eb n runs (ends.set i v) := by
  obtain ⟨b1, b2, b3, b4⟩ := h.bs
  obtain ⟨d1, d2, d3, d4, d5, d6⟩ := h.ds
  have keep : ∀ q, q ≠ eb → (W.setCell ⟨eb, i, none⟩ (.int .i64 v)).heap[q]? = W.heap[q]? := fun q hq => Below.heap_setCell _ _ _ _ hq
  refine ⟨h.line.other b4 h.os.2.2.2, (keep rs d3).trans h.res, (keep pb d5).trans h.p, (keep rb d6).trans h.rv, ?_, h.bs, h.ds, h.os⟩
  rw [setCell_list h.ev, List.map_set]

end

/-- One runs on, or nobody ran: by the job's own number. -/
def RunJ (rk : List Nat) (th : List Nat) (s : St) (run : Int) : Prop := (¬ s.on ∧ run = -1) ∨ (s.on ∧ ∃ p : Nat, run = ((RK rk p : Nat) : Int) ∧ p ∈ th ∧ s.last = ((RK rk p : Nat) : Int))

/-- Who runs next. -/
def nextRun (rk : List Nat) (pre : Bool) (run : Int) (th : List Nat) : Int := if pre = true ∨ run = -1 then foreJ rk th else run

theorem pick_of {l : List Jb} {pol : Int} {rk cm : List Nat} {k : Nat} {th th0 : List Nat} {s : St} {t : Nat} {run : Int} {pre : Bool} (hr : Ranked l pol rk) (hc : Coming l rk cm) (hco : Core l rk cm k th s.left) (hn : Now l rk cm k (t : Int)) (hrun : RunJ rk th0 s run) (hsub : ∀ x ∈ th0, x ∈ th) :
    (nextRun rk pre run th = -1 ∧ Pick l pol pre t s (-1)) ∨ (∃ p : Nat, nextRun rk pre run th = ((RK rk p : Nat) : Int) ∧ p ∈ th ∧ Pick l pol pre t s ((RK rk p : Nat) : Int)) := by
  by_cases hcond : pre = true ∨ run = -1
  · have hnot : ¬ (pre = false ∧ s.on) := by
      rintro ⟨h1, h2⟩
      rcases hcond with h | h
      · rw [h1] at h; cases h
      · rcases hrun with ⟨h3, -⟩ | ⟨-, p, h3, -⟩
        · exact h3 h2
        · omega
    unfold nextRun
    rw [if_pos hcond]
    cases th with
    | nil => exact .inl ⟨rfl, .inr ⟨hnot, hco.best_none hr hc hn⟩⟩
    | cons p r => exact .inr ⟨p, rfl, List.mem_cons_self, .inr ⟨hnot, hco.best_some hr hc hn⟩⟩
  · unfold nextRun
    rw [if_neg hcond]
    rcases hrun with ⟨-, h3⟩ | ⟨hon, p, h3, h4, h5⟩
    · exact absurd (.inr h3) hcond
    · refine .inr ⟨p, h3, hsub p h4, .inl ⟨?_, hon, h5.symm⟩⟩
      cases pre with
      | true => exact absurd (.inl rfl) hcond
      | false => rfl

theorem core_start {l : List Jb} {pol : Int} {rk cm : List Nat} (hr : Ranked l pol rk) (hc : Coming l rk cm) (hok : ∀ x ∈ l, okJ x) : Core l rk cm 0 [] (l.map (·.c)) := by
  refine ⟨Nat.zero_le _, List.Pairwise.nil, fun p => by simp, fun p hp => ?_⟩
  have hp' : p < l.length := hc.mem.1 (by simpa using hp)
  have hn := hr.lt hp'
  unfold L
  rw [List.getD_eq_getElem?_getD, List.getElem?_map, List.getElem?_eq_getElem hn]
  have := hok _ (List.getElem_mem hn)
  unfold okJ at this
  simp
  omega
end Go.Proofs.YtccoobcggbbciaiGreatDoor.S8
