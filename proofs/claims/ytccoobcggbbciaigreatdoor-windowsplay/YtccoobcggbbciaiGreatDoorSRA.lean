import Derived.Test.YtccoobcggbbciaiGreatDoorSPI
import Derived.Test.YtccoobcggbbciaiGreatDoorSPZ
namespace Go.Proofs.YtccoobcggbbciaiGreatDoor.S8
open Go.ChangeShapes Go.WideShapes Go.ChangeAt Go.RowKit

/-- Of each job its rank. -/
def invOf (rk : List Nat) : List Nat := (List.range rk.length).map (fun j => rk.idxOf j)

theorem invOf_at {rk : List Nat} {j : Nat} (h : j < rk.length) : (invOf rk)[j]? = some (rk.idxOf j) := by
  unfold invOf
  simp [h]

theorem Ranked.idx {l : List Jb} {pol : Int} {rk : List Nat} (h : Ranked l pol rk) {p : Nat} (hp : p < l.length) : rk.idxOf (RK rk p) = p := by
  have hlt : RK rk p < l.length := h.lt hp
  have hm : RK rk p ∈ rk := List.mem_of_getElem? (RK_get (by rw [h.len]; exact hp))
  have hi : rk.idxOf (RK rk p) < rk.length := List.idxOf_lt_length_of_mem hm
  have he : RK rk (rk.idxOf (RK rk p)) = RK rk p := by
    have h1 := RK_get hi
    have h2 : rk[rk.idxOf (RK rk p)]? = some (RK rk p) := by
      rw [List.getElem?_eq_getElem hi, List.getElem_idxOf]
    rw [h1] at h2
    exact Option.some.inj h2
  exact h.inj (by rw [← h.len]; exact hi) hp he

/-- A line, as it lies. -/
structure LineW (w0 : World) (B K Lf Rn Rd C : Nat) (W : World) (l : List Jb) (rk cm : List Nat) (k : Nat) (th : List Nat) (left : List Int) (jv tv cv : Value) : Prop where
  line : W.heap[K]? = some (.cells #[jv, .slice (some ⟨Lf, 0, none⟩) l.length l.length, .slice (some ⟨Rn, 0, none⟩) l.length l.length, .slice (some ⟨Rd, 0, none⟩) l.length l.length, cv, tv] 127 (0, 0))
  left : W.heap[Lf]? = some (.cells (left.map (Value.int .i64)).toArray 3 (0, 0))
  ranks : W.heap[Rn]? = some (.cells ((zI (invOf rk)).map (Value.int .i64)).toArray 3 (0, 0))
  ranked : W.heap[Rd]? = some (.cells ((zI rk).map (Value.int .i64)).toArray 3 (0, 0))
  comes : W.heap[C]? = some (.cells ((zI (cm.map (RK rk))).map (Value.int .i64)).toArray 3 (0, 0))
  there : Own W B tv (zI th)
  jobs : RowSl Jb.vals w0 l jv
  bel : Below w0.heap.size w0 W
  low : (w0.heap.size ≤ K ∧ w0.heap.size ≤ Lf) ∧ w0.heap.size ≤ B
  lt : K < B ∧ Lf < B ∧ Rn < B ∧ Rd < B ∧ C < B
  dK : Lf ≠ K ∧ Rn ≠ K ∧ Rd ≠ K ∧ C ≠ K
  dL : Rn ≠ Lf ∧ Rd ≠ Lf ∧ C ≠ Lf
  bs : B ≤ W.heap.size
  cval : ∃ a, cv = .slice a (l.length - k) (l.length - k) ∧ (k < l.length → a = some ⟨C, k, none⟩)

/-- All but the line, what is left, and the row of those that are there, stays. -/
structure MovedL (W W' : World) (K Lf : Nat) (tv tv' : Value) : Prop where
  os : W'.os = W.os
  tape : W'.tape = W.tape
  output : W'.output = W.output
  size : W.heap.size ≤ W'.heap.size
  block : ∀ b, b < W.heap.size → b ≠ K → b ≠ Lf → tv.ownBlock ≠ some b → W'.heap[b]? = W.heap[b]? ∧ tv'.ownBlock ≠ some b

theorem MovedL.refl (W : World) (K Lf : Nat) (tv : Value) : MovedL W W K Lf tv tv := ⟨rfl, rfl, rfl, Nat.le_refl _, fun _ _ _ _ h => ⟨rfl, h⟩⟩

theorem MovedL.trans {a b c : World} {K Lf : Nat} {u v x : Value} (h : MovedL a b K Lf u v) (h' : MovedL b c K Lf v x) : MovedL a c K Lf u x :=
  ⟨h'.os.trans h.os, h'.tape.trans h.tape, h'.output.trans h.output, Nat.le_trans h.size h'.size, fun i hi hk hl hu => by
    obtain ⟨e1, e2⟩ := h.block i hi hk hl hu
    obtain ⟨f1, f2⟩ := h'.block i (Nat.lt_of_lt_of_le hi h.size) hk hl e2
    exact ⟨f1.trans e1, f2⟩⟩

theorem MovedL.drewN (W : World) (K Lf : Nat) (tv : Value) (n : Nat) : MovedL W (W.drewN n) K Lf tv tv := ⟨rfl, rfl, rfl, Nat.le_refl _, fun _ _ _ _ h => ⟨rfl, h⟩⟩

theorem Own.low {W : World} {B : Nat} {tv : Value} {th : List Int} (h : Own W B tv th) {g : Nat} (hg : tv.ownBlock = some g) : B ≤ g ∧ g < W.heap.size := h.lt g hg

theorem own_slice {W : World} {B : Nat} {tv : Value} {th : List Nat} (h : Own W B tv (zI th)) : ∃ ad c, tv = .slice ad th.length c := by
  obtain ⟨ad, c, e⟩ := owns_value h
  rw [zI_len] at e
  exact ⟨ad, c, e⟩

theorem own_val {W : World} {B : Nat} {tv : Value} {th : List Int} (h : Own W B tv th) : ∃ ad n c, tv = .slice ad n c := by
  obtain ⟨ad, c, e⟩ := owns_value h
  exact ⟨ad, _, c, e⟩

section

variable {w0 : World} {B K Lf Rn Rd C : Nat} {W : World} {l : List Jb} {rk cm : List Nat} {k : Nat} {th : List Nat} {left : List Int} {jv tv cv : Value}

theorem LineW.low' (h : LineW w0 B K Lf Rn Rd C W l rk cm k th left jv tv cv) : ∀ g, tv.ownBlock = some g → B ≤ g := fun _ hg => (h.there.low hg).1

theorem LineW.drewN (h : LineW w0 B K Lf Rn Rd C W l rk cm k th left jv tv cv) (n : Nat) : LineW w0 B K Lf Rn Rd C (W.drewN n) l rk cm k th left jv tv cv :=
  ⟨h.line, h.left, h.ranks, h.ranked, h.comes, h.there, h.jobs, below_seq h.bel below_drewN', h.low, h.lt, h.dK, h.dL, h.bs, h.cval⟩

/-- What stays, block by block, below B. -/
theorem LineW.keep {W' : World} {tv' : Value} (h : LineW w0 B K Lf Rn Rd C W l rk cm k th left jv tv cv) (hk : ∀ b, b < B → W'.heap[b]? = W.heap[b]?) (ho : Own W' B tv' (zI th)) (hs : W.heap.size ≤ W'.heap.size) (hb : Below w0.heap.size w0 W') (htv : tv' = tv) : LineW w0 B K Lf Rn Rd C W' l rk cm k th left jv tv cv := by
  subst htv
  obtain ⟨l1, l2, l3, l4, l5⟩ := h.lt
  exact ⟨(hk K l1).trans h.line, (hk Lf l2).trans h.left, (hk Rn l3).trans h.ranks, (hk Rd l4).trans h.ranked, (hk C l5).trans h.comes, ho, h.jobs, hb, h.low, h.lt, h.dK, h.dL, Nat.le_trans h.bs hs, h.cval⟩

/-- The row of those that are there was changed, and is laid into the line. -/
theorem LineW.put {W' : World} {th' : List Nat} {tv' : Value} (h : LineW w0 B K Lf Rn Rd C W l rk cm k th left jv tv cv) (ho : Own W' B tv' (zI th')) (hg : W.grownBy W' tv.ownBlock) (hv : tv'.ownBlock = tv.ownBlock ∨ ∃ g, tv'.ownBlock = some g ∧ W.heap.size ≤ g) :
    LineW w0 B K Lf Rn Rd C (W'.setCell ⟨K, 5, none⟩ tv') l rk cm k th' left jv tv' cv ∧ MovedL W (W'.setCell ⟨K, 5, none⟩ tv') K Lf tv tv' := by
  obtain ⟨l1, l2, l3, l4, l5⟩ := h.lt
  obtain ⟨d1, d2, d3, d4⟩ := h.dK
  have hne : ∀ b, b < B → tv.ownBlock ≠ some b := fun b hb e => by have := h.low' b e; omega
  have hbs := h.bs
  have keep : ∀ b, b < B → W'.heap[b]? = W.heap[b]? := fun b hb => hg.block b (by omega) (fun e => hne b hb e.symm)
  have hK' := (keep K l1).trans h.line
  have hne' : ∀ g, tv'.ownBlock = some g → g ≠ K := fun g e => by have := (ho.low e).1; omega
  have hlow := h.low
  have hB0 : Below w0.heap.size w0 W' := ⟨hg.os.trans h.bel.os, hg.tape.trans h.bel.tape, hg.output.trans h.bel.output, Nat.le_trans h.bel.size hg.size, fun i hi => (keep i (by omega)).trans (h.bel.block i hi)⟩
  refine ⟨⟨?_, ?_, ?_, ?_, ?_, ho.same (fun g e => Below.heap_setCell _ _ _ _ (hne' g e)), h.jobs, hB0.setCell hlow.1.1 _, h.low, h.lt, h.dK, h.dL, ?_, h.cval⟩, ⟨hg.os, hg.tape, hg.output, ?_, fun b hb hbK _ hu => ?_⟩⟩
  · rw [setCell_at hK']; rfl
  · rw [Below.heap_setCell _ _ _ _ d1, keep Lf l2]; exact h.left
  · rw [Below.heap_setCell _ _ _ _ d2, keep Rn l3]; exact h.ranks
  · rw [Below.heap_setCell _ _ _ _ d3, keep Rd l4]; exact h.ranked
  · rw [Below.heap_setCell _ _ _ _ d4, keep C l5]; exact h.comes
  · have := hg.size; simp; omega
  · have := hg.size; simpa using this
  · refine ⟨(Below.heap_setCell _ _ _ _ hbK).trans (hg.block b hb (fun e => hu e.symm)), fun e => ?_⟩
    rcases hv with hv | ⟨g, hv, hl⟩
    · exact hu (hv ▸ e)
    · rw [hv] at e; cases e; omega

/-- One has run for a tick. -/
theorem LineW.ran (h : LineW w0 B K Lf Rn Rd C W l rk cm k th left jv tv cv) (j : Nat) (v : Int) : LineW w0 B K Lf Rn Rd C (W.setCell ⟨Lf, j, none⟩ (.int .i64 v)) l rk cm k th (left.set j v) jv tv cv ∧ MovedL W (W.setCell ⟨Lf, j, none⟩ (.int .i64 v)) K Lf tv tv := by
  obtain ⟨l1, l2, l3, l4, l5⟩ := h.lt
  obtain ⟨d1, d2, d3, d4⟩ := h.dK
  obtain ⟨d5, d6, d7⟩ := h.dL
  have hne' : ∀ g, tv.ownBlock = some g → g ≠ Lf := fun g e => by have := (h.there.low e).1; omega
  refine ⟨⟨?_, ?_, ?_, ?_, ?_, h.there.same (fun g e => Below.heap_setCell _ _ _ _ (hne' g e)), h.jobs, h.bel.setCell h.low.1.2 _, h.low, h.lt, h.dK, h.dL, ?_, h.cval⟩, ⟨rfl, rfl, rfl, ?_, fun b hb _ hbL hu => ⟨Below.heap_setCell _ _ _ _ hbL, hu⟩⟩⟩
  · rw [Below.heap_setCell _ _ _ _ (Ne.symm d1)]; exact h.line
  · rw [setCell_at h.left]
    congr 2
    simp [List.map_set]
  · rw [Below.heap_setCell _ _ _ _ d5]; exact h.ranks
  · rw [Below.heap_setCell _ _ _ _ d6]; exact h.ranked
  · rw [Below.heap_setCell _ _ _ _ d7]; exact h.comes
  · have := h.bs; simpa using this
  · simp

/-- Some have come. -/
theorem LineW.next (h : LineW w0 B K Lf Rn Rd C W l rk cm k th left jv tv cv) (cv' : Value) (hc : ∃ a, cv' = .slice a (l.length - (k + 1)) (l.length - (k + 1)) ∧ (k + 1 < l.length → a = some ⟨C, k + 1, none⟩)) :
    LineW w0 B K Lf Rn Rd C (W.setCell ⟨K, 4, none⟩ cv') l rk cm (k + 1) th left jv tv cv' ∧ MovedL W (W.setCell ⟨K, 4, none⟩ cv') K Lf tv tv := by
  obtain ⟨d1, d2, d3, d4⟩ := h.dK
  have hne : ∀ g, tv.ownBlock = some g → g ≠ K := fun g e => by have := h.low' g e; have := h.lt.1; omega
  refine ⟨⟨?_, ?_, ?_, ?_, ?_, h.there.same (fun g e => Below.heap_setCell _ _ _ _ (hne g e)), h.jobs, h.bel.setCell h.low.1.1 _, h.low, h.lt, h.dK, h.dL, ?_, hc⟩, ⟨rfl, rfl, rfl, ?_, fun b hb hbK _ hu => ⟨Below.heap_setCell _ _ _ _ hbK, hu⟩⟩⟩
  · rw [setCell_at h.line]; rfl
  · rw [Below.heap_setCell _ _ _ _ d1]; exact h.left
  · rw [Below.heap_setCell _ _ _ _ d2]; exact h.ranks
  · rw [Below.heap_setCell _ _ _ _ d3]; exact h.ranked
  · rw [Below.heap_setCell _ _ _ _ d4]; exact h.comes
  · have := h.bs; simpa using this
  · simp

theorem LineW.alloc (h : LineW w0 B K Lf Rn Rd C W l rk cm k th left jv tv cv) (o : Obj) : LineW w0 B K Lf Rn Rd C (W.alloc o) l rk cm k th left jv tv cv ∧ MovedL W (W.alloc o) K Lf tv tv := by
  have keep : ∀ b, b < W.heap.size → (W.alloc o).heap[b]? = W.heap[b]? := fun b hb => Below.heap_alloc W o b hb
  have hb := h.bs
  refine ⟨h.keep (fun b hbB => keep b (by omega)) (h.there.same (fun g e => keep g (h.there.low e).2)) (by simp) (below_seq h.bel (below_new _ _)) rfl, ⟨rfl, rfl, rfl, by simp, fun b hb _ _ hu => ⟨keep b hb, hu⟩⟩⟩

end

/-- The number of the foremost one. -/
def foreJ (rk : List Nat) : List Nat → Int
  | [] => -1
  | p :: _ => ((RK rk p : Nat) : Int)

set_option maxRecDepth 20000 in
set_option maxHeartbeats 1000000 in
theorem First_any (w0 : World) (B K Lf Rn Rd C : Nat) (W : World) (l : List Jb) (pol : Int) (rk cm : List Nat) (k : Nat) (th : List Nat) (left : List Int) (jv tv cv : Value) (h : LineW w0 B K Lf Rn Rd C W l rk cm k th left jv tv cv) (hr : Ranked l pol rk) (hth : ∀ p ∈ th, p < l.length) :
    Calls Tryz.prog 91 #[.pointer (some ⟨K, 0, none⟩)] W fun r W' => r = .returned (.int .i64 (foreJ rk th)) ∧ ∃ n, W' = W.drewN n := by
  obtain ⟨hs, -, hlk⟩ := cells_of (l := [_, _, _, _, _, _]) h.line
  have c3 := hs 3 _ rfl
  have c5 := hs 5 _ rfl
  clear hs
  rcases h.there.cases with ⟨rfl, e⟩ | ⟨g, cap, cur, rfl, hB, hg, hcap, hm, hcs, hcur⟩
  · have : th = [] := by simpa [zI] using e
    subst this
    clear h
    go_enter Tryz.func91, Tryz.ntmps91
    go_wp2_with fail
    go_ret
    exact ⟨rfl, 0, rfl⟩
  · cases th with
    | nil =>
      clear h hcur
      go_enter Tryz.func91, Tryz.ntmps91
      go_wp2_with fail
      go_ret
      exact ⟨rfl, 0, rfl⟩
    | cons p r =>
      have d0 : W.cell? ⟨g, 0, none⟩ = some (.int .i64 (p : Int)) := h.there.cell (j := 0) (by simp [zI])
      have hpl : p < l.length := hth p (by simp)
      have dR : W.cell? ⟨Rd, p, none⟩ = some (.int .i64 ((RK rk p : Nat) : Int)) := (cells_of (l := (zI rk).map (Value.int .i64)) h.ranked).1 p _ (by simp [zI, RK_get (show p < rk.length by rw [hr.len]; exact hpl)])
      have hz : (zI (p :: r)).length = r.length + 1 := by simp [zI]
      have hpi : (p : Int) < (l.length : Int) := by omega
      rw [hz] at c5
      clear h hcur hcap hm hg hcs hth
      go_enter Tryz.func91, Tryz.ntmps91
      go_wp2_with fail
      go_quiet (fail)
      go_wp2_with fail
      go_ret
      exact ⟨rfl, _, rfl⟩
end Go.Proofs.YtccoobcggbbciaiGreatDoor.S8
