import Derived.Test.YtccoobcggbbciaiGreatDoorSRC
namespace Go.Proofs.YtccoobcggbbciaiGreatDoor.S8
open Go.ChangeShapes Go.WideShapes Go.ChangeAt Go.RowKit

/-- Those that still come, from the k-th on. -/
def RowC (W : World) (C : Nat) (rk cm : List Nat) (k : Nat) : Prop := ∃ cs : List Value, W.heap[C]? = some (.cells cs.toArray 3 (0, 0)) ∧ ∀ q p, k ≤ q → cm[q]? = some p → cs[q]? = some (.int .i64 ((RK rk p : Nat) : Int))

theorem RowC.same {W W' : World} {C : Nat} {rk cm : List Nat} {k : Nat} (h : RowC W C rk cm k) (e : W'.heap[C]? = W.heap[C]?) : RowC W' C rk cm k := by
  obtain ⟨cs, h1, h2⟩ := h
  exact ⟨cs, e.trans h1, h2⟩

theorem RowC.next {W : World} {C : Nat} {rk cm : List Nat} {k : Nat} (h : RowC W C rk cm k) : RowC W C rk cm (k + 1) := by
  obtain ⟨cs, h1, h2⟩ := h
  exact ⟨cs, h1, fun q p hq hp => h2 q p (by omega) hp⟩

theorem RowC.at {W : World} {C : Nat} {rk cm : List Nat} {k p : Nat} (h : RowC W C rk cm k) (hp : cm[k]? = some p) : W.cell? ⟨C, k, none⟩ = some (.int .i64 ((RK rk p : Nat) : Int)) := by
  obtain ⟨cs, h1, h2⟩ := h
  exact (cells_of (l := cs) h1).1 k _ (h2 k p (Nat.le_refl _) hp)

/-- A line of which some were given up, as it lies. -/
structure LineG (w0 : World) (B K Lf Rn Rd C : Nat) (W : World) (l : List Jb) (rk cm : List Nat) (k : Nat) (th : List Nat) (left : List Int) (jv tv cv : Value) : Prop where
  line : W.heap[K]? = some (.cells #[jv, .slice (some ⟨Lf, 0, none⟩) l.length l.length, .slice (some ⟨Rn, 0, none⟩) l.length l.length, .slice (some ⟨Rd, 0, none⟩) l.length l.length, cv, tv] 127 (0, 0))
  left : W.heap[Lf]? = some (.cells (left.map (Value.int .i64)).toArray 3 (0, 0))
  ranks : W.heap[Rn]? = some (.cells ((zI (invOf rk)).map (Value.int .i64)).toArray 3 (0, 0))
  ranked : W.heap[Rd]? = some (.cells ((zI rk).map (Value.int .i64)).toArray 3 (0, 0))
  comes : RowC W C rk cm k
  there : Own W B tv (zI th)
  jobs : RowSl Jb.vals w0 l jv
  bel : Below w0.heap.size w0 W
  low : (w0.heap.size ≤ K ∧ w0.heap.size ≤ Lf) ∧ w0.heap.size ≤ B
  lt : K < B ∧ Lf < B ∧ Rn < B ∧ Rd < B ∧ C < B
  dK : Lf ≠ K ∧ Rn ≠ K ∧ Rd ≠ K ∧ C ≠ K
  dL : Rn ≠ Lf ∧ Rd ≠ Lf ∧ C ≠ Lf
  bs : B ≤ W.heap.size
  cval : ∃ a c, cv = .slice a (cm.length - k) c ∧ cm.length - k ≤ c ∧ (k < cm.length → a = some ⟨C, k, none⟩)


theorem LineW.toG {w0 : World} {B K Lf Rn Rd C : Nat} {W : World} {l : List Jb} {rk cm : List Nat} {th : List Nat} {left : List Int} {jv tv cv : Value} (h : LineW w0 B K Lf Rn Rd C W l rk cm 0 th left jv tv cv) (hl : cm.length = l.length) : LineG w0 B K Lf Rn Rd C W l rk cm 0 th left jv tv cv := by
  refine ⟨h.line, h.left, h.ranks, h.ranked, ⟨_, h.comes, fun q p _ hp => ?_⟩, h.there, h.jobs, h.bel, h.low, h.lt, h.dK, h.dL, h.bs, ?_⟩
  · simp [zI, hp]
  · obtain ⟨a, e, ha⟩ := h.cval
    rw [hl]
    exact ⟨a, _, e, Nat.le_refl _, ha⟩

section

variable {w0 : World} {B K Lf Rn Rd C : Nat} {W : World} {l : List Jb} {rk cm : List Nat} {k : Nat} {th : List Nat} {left : List Int} {jv tv cv : Value}

theorem LineG.low' (h : LineG w0 B K Lf Rn Rd C W l rk cm k th left jv tv cv) : ∀ g, tv.ownBlock = some g → B ≤ g := fun _ hg => (h.there.low hg).1

theorem LineG.drewN (h : LineG w0 B K Lf Rn Rd C W l rk cm k th left jv tv cv) (n : Nat) : LineG w0 B K Lf Rn Rd C (W.drewN n) l rk cm k th left jv tv cv :=
  ⟨h.line, h.left, h.ranks, h.ranked, h.comes.same rfl, h.there, h.jobs, below_seq h.bel below_drewN', h.low, h.lt, h.dK, h.dL, h.bs, h.cval⟩

/-- What stays, block by block, below B. -/
theorem LineG.keep {W' : World} {tv' : Value} (h : LineG w0 B K Lf Rn Rd C W l rk cm k th left jv tv cv) (hk : ∀ b, b < B → W'.heap[b]? = W.heap[b]?) (ho : Own W' B tv' (zI th)) (hs : W.heap.size ≤ W'.heap.size) (hb : Below w0.heap.size w0 W') (htv : tv' = tv) : LineG w0 B K Lf Rn Rd C W' l rk cm k th left jv tv cv := by
  subst htv
  obtain ⟨l1, l2, l3, l4, l5⟩ := h.lt
  exact ⟨(hk K l1).trans h.line, (hk Lf l2).trans h.left, (hk Rn l3).trans h.ranks, (hk Rd l4).trans h.ranked, h.comes.same (hk C l5), ho, h.jobs, hb, h.low, h.lt, h.dK, h.dL, Nat.le_trans h.bs hs, h.cval⟩

/-- The row of those that are there was changed, and is laid into the line. -/
theorem LineG.put {W' : World} {th' : List Nat} {tv' : Value} (h : LineG w0 B K Lf Rn Rd C W l rk cm k th left jv tv cv) (ho : Own W' B tv' (zI th')) (hg : W.grownBy W' tv.ownBlock) (hv : tv'.ownBlock = tv.ownBlock ∨ ∃ g, tv'.ownBlock = some g ∧ W.heap.size ≤ g) :
    LineG w0 B K Lf Rn Rd C (W'.setCell ⟨K, 5, none⟩ tv') l rk cm k th' left jv tv' cv ∧ MovedL W (W'.setCell ⟨K, 5, none⟩ tv') K Lf tv tv' := by
  obtain ⟨l1, l2, l3, l4, l5⟩ := h.lt
  obtain ⟨d1, d2, d3, d4⟩ := h.dK
  have hne : ∀ b, b < B → tv.ownBlock ≠ some b := fun b hb e => by have := h.low' b e; omega
  have hbs := h.bs
  have keep : ∀ b, b < B → W'.heap[b]? = W.heap[b]? := fun b hb => hg.block b (by omega) (fun e => hne b hb e.symm)
  have hK' := (keep K l1).trans h.line
  have hne' : ∀ g, tv'.ownBlock = some g → g ≠ K := fun g e => by have := (ho.low e).1; omega
  have hlow := h.low
  have hB0 : Below w0.heap.size w0 W' := ⟨hg.os.trans h.bel.os, hg.tape.trans h.bel.tape, hg.output.trans h.bel.output, Nat.le_trans h.bel.size hg.size, fun i hi => (keep i (by omega)).trans (h.bel.block i hi)⟩
  refine ⟨⟨?_, ?_, ?_, ?_, ?_, ho.same (fun g e => Below.heap_setCell _ _ _ _ (hne' g e)), h.jobs, hB0.setCell hlow.1.1 _, h.low, h.lt, h.dK, h.dL, ?_, h.cval⟩, ⟨hg.os, hg.tape, hg.output, ?_, fun b hb hbK _ hu => ?_⟩⟩
  · rw [setCell_at hK']; rfl
  · rw [Below.heap_setCell _ _ _ _ d1, keep Lf l2]; exact h.left
  · rw [Below.heap_setCell _ _ _ _ d2, keep Rn l3]; exact h.ranks
  · rw [Below.heap_setCell _ _ _ _ d3, keep Rd l4]; exact h.ranked
  · exact h.comes.same ((Below.heap_setCell _ _ _ _ d4).trans (keep C l5))
  · have := hg.size; simp; omega
  · have := hg.size; simpa using this
  · refine ⟨(Below.heap_setCell _ _ _ _ hbK).trans (hg.block b hb (fun e => hu e.symm)), fun e => ?_⟩
    rcases hv with hv | ⟨g, hv, hl⟩
    · exact hu (hv ▸ e)
    · rw [hv] at e; cases e; omega

/-- One has run for a tick. -/
theorem LineG.ran (h : LineG w0 B K Lf Rn Rd C W l rk cm k th left jv tv cv) (j : Nat) (v : Int) : LineG w0 B K Lf Rn Rd C (W.setCell ⟨Lf, j, none⟩ (.int .i64 v)) l rk cm k th (left.set j v) jv tv cv ∧ MovedL W (W.setCell ⟨Lf, j, none⟩ (.int .i64 v)) K Lf tv tv := by
  obtain ⟨l1, l2, l3, l4, l5⟩ := h.lt
  obtain ⟨d1, d2, d3, d4⟩ := h.dK
  obtain ⟨d5, d6, d7⟩ := h.dL
  have hne' : ∀ g, tv.ownBlock = some g → g ≠ Lf := fun g e => by have := (h.there.low e).1; omega
  refine ⟨⟨?_, ?_, ?_, ?_, ?_, h.there.same (fun g e => Below.heap_setCell _ _ _ _ (hne' g e)), h.jobs, h.bel.setCell h.low.1.2 _, h.low, h.lt, h.dK, h.dL, ?_, h.cval⟩, ⟨rfl, rfl, rfl, ?_, fun b hb _ hbL hu => ⟨Below.heap_setCell _ _ _ _ hbL, hu⟩⟩⟩
  · rw [Below.heap_setCell _ _ _ _ (Ne.symm d1)]; exact h.line
  · rw [setCell_at h.left]
    congr 2
    simp [List.map_set]
  · rw [Below.heap_setCell _ _ _ _ d5]; exact h.ranks
  · rw [Below.heap_setCell _ _ _ _ d6]; exact h.ranked
  · exact h.comes.same (Below.heap_setCell _ _ _ _ d7)
  · have := h.bs; simpa using this
  · simp

/-- Some have come. -/
theorem LineG.next (h : LineG w0 B K Lf Rn Rd C W l rk cm k th left jv tv cv) (cv' : Value) (hc : ∃ a c, cv' = .slice a (cm.length - (k + 1)) c ∧ cm.length - (k + 1) ≤ c ∧ (k + 1 < cm.length → a = some ⟨C, k + 1, none⟩)) :
    LineG w0 B K Lf Rn Rd C (W.setCell ⟨K, 4, none⟩ cv') l rk cm (k + 1) th left jv tv cv' ∧ MovedL W (W.setCell ⟨K, 4, none⟩ cv') K Lf tv tv := by
  obtain ⟨d1, d2, d3, d4⟩ := h.dK
  have hne : ∀ g, tv.ownBlock = some g → g ≠ K := fun g e => by have := h.low' g e; have := h.lt.1; omega
  refine ⟨⟨?_, ?_, ?_, ?_, ?_, h.there.same (fun g e => Below.heap_setCell _ _ _ _ (hne g e)), h.jobs, h.bel.setCell h.low.1.1 _, h.low, h.lt, h.dK, h.dL, ?_, hc⟩, ⟨rfl, rfl, rfl, ?_, fun b hb hbK _ hu => ⟨Below.heap_setCell _ _ _ _ hbK, hu⟩⟩⟩
  · rw [setCell_at h.line]; rfl
  · rw [Below.heap_setCell _ _ _ _ d1]; exact h.left
  · rw [Below.heap_setCell _ _ _ _ d2]; exact h.ranks
  · rw [Below.heap_setCell _ _ _ _ d3]; exact h.ranked
  · exact (h.comes.same (Below.heap_setCell _ _ _ _ d4)).next
  · have := h.bs; simpa using this
  · simp

theorem LineG.alloc (h : LineG w0 B K Lf Rn Rd C W l rk cm k th left jv tv cv) (o : Obj) : LineG w0 B K Lf Rn Rd C (W.alloc o) l rk cm k th left jv tv cv ∧ MovedL W (W.alloc o) K Lf tv tv := by
  have keep : ∀ b, b < W.heap.size → (W.alloc o).heap[b]? = W.heap[b]? := fun b hb => Below.heap_alloc W o b hb
  have hb := h.bs
  refine ⟨h.keep (fun b hbB => keep b (by omega)) (h.there.same (fun g e => keep g (h.there.low e).2)) (by simp) (below_seq h.bel (below_new _ _)) rfl, ⟨rfl, rfl, rfl, by simp, fun b hb _ _ hu => ⟨keep b hb, hu⟩⟩⟩

end

set_option maxRecDepth 20000 in
set_option maxHeartbeats 1000000 in
theorem FirstG_any (w0 : World) (B K Lf Rn Rd C : Nat) (W : World) (l : List Jb) (pol : Int) (rk cm : List Nat) (k : Nat) (th : List Nat) (left : List Int) (jv tv cv : Value) (h : LineG w0 B K Lf Rn Rd C W l rk cm k th left jv tv cv) (hr : Ranked l pol rk) (hth : ∀ p ∈ th, p < l.length) :
    Calls Tryz.prog 91 #[.pointer (some ⟨K, 0, none⟩)] W fun r W' => r = .returned (.int .i64 (foreJ rk th)) ∧ ∃ n, W' = W.drewN n := by
  obtain ⟨hs, -, hlk⟩ := cells_of (l := [_, _, _, _, _, _]) h.line
  have c3 := hs 3 _ rfl
  have c5 := hs 5 _ rfl
  clear hs
  rcases h.there.cases with ⟨rfl, e⟩ | ⟨g, cap, cur, rfl, hB, hg, hcap, hm, hcs, hcur⟩
  · have : th = [] := by simpa [zI] using e
    subst this
    clear h
    go_enter Tryz.func91, Tryz.ntmps91
    go_wp2_with fail
    go_ret
    exact ⟨rfl, 0, rfl⟩
  · cases th with
    | nil =>
      clear h hcur
      go_enter Tryz.func91, Tryz.ntmps91
      go_wp2_with fail
      go_ret
      exact ⟨rfl, 0, rfl⟩
    | cons p r =>
      have d0 : W.cell? ⟨g, 0, none⟩ = some (.int .i64 (p : Int)) := h.there.cell (j := 0) (by simp [zI])
      have hpl : p < l.length := hth p (by simp)
      have dR : W.cell? ⟨Rd, p, none⟩ = some (.int .i64 ((RK rk p : Nat) : Int)) := (cells_of (l := (zI rk).map (Value.int .i64)) h.ranked).1 p _ (by simp [zI, RK_get (show p < rk.length by rw [hr.len]; exact hpl)])
      have hz : (zI (p :: r)).length = r.length + 1 := by simp [zI]
      have hpi : (p : Int) < (l.length : Int) := by omega
      rw [hz] at c5
      clear h hcur hcap hm hg hcs hth
      go_enter Tryz.func91, Tryz.ntmps91
      go_wp2_with fail
      go_quiet (fail)
      go_wp2_with fail
      go_ret
      exact ⟨rfl, _, rfl⟩

/-- How those that were not given up come. -/
structure ComingG (l : List Jb) (rk cm : List Nat) : Prop where
  nodup : cm.Nodup
  mem : ∀ p ∈ cm, p < l.length
  sorted : cm.Pairwise (fun p q => (J l (RK rk p)).a ≤ (J l (RK rk q)).a)

theorem Coming.toG {l : List Jb} {rk cm : List Nat} (h : Coming l rk cm) : ComingG l rk cm := ⟨h.nodup, fun _ hp => h.mem.1 hp, h.sorted⟩

theorem ComingG.wait {l : List Jb} {rk cm : List Nat} {k p : Nat} {t : Int} (hc : ComingG l rk cm) (hk : cm[k]? = some p) (hp : t < (J l (RK rk p)).a) : ∀ q ∈ cm.drop k, t < (J l (RK rk q)).a := by
  have hlt : k < cm.length := (List.getElem?_eq_some_iff.1 hk).1
  have hdr : cm.drop k = p :: cm.drop (k + 1) := by
    rw [List.drop_eq_getElem_cons hlt, (List.getElem?_eq_some_iff.1 hk).2]
  have hs : (cm.drop k).Pairwise (fun p q => (J l (RK rk p)).a ≤ (J l (RK rk q)).a) := hc.sorted.drop
  rw [hdr] at hs ⊢
  intro q hq
  rcases List.mem_cons.1 hq with rfl | hq
  · exact hp
  · have := (List.pairwise_cons.1 hs).1 q hq
    omega

/-- Who is there: so many have come; all that count stand in the list. -/
structure CoreG (l : List Jb) (rk cm : List Nat) (k : Nat) (th : List Nat) (left : List Int) : Prop where
  core : Core l rk cm k th left
  full : ∀ p, p < l.length → 0 < L left (RK rk p) → p ∈ cm

theorem CoreG.lt {l : List Jb} {rk cm : List Nat} {k : Nat} {th : List Nat} {left : List Int} (h : CoreG l rk cm k th left) (hc : ComingG l rk cm) {p : Nat} (hp : p ∈ th) : p < l.length :=
  hc.mem p (List.mem_of_mem_take ((h.core.mem p).1 hp).1)

theorem CoreG.len {l : List Jb} {rk cm : List Nat} {k : Nat} {th : List Nat} {left : List Int} (h : CoreG l rk cm k th left) (hc : ComingG l rk cm) : th.length ≤ l.length := by
  have := asc_len (n := l.length) th 0 (Nat.zero_le _) h.core.asc (fun x hx => ⟨Nat.zero_le _, h.lt hc hx⟩)
  omega

theorem CoreG.come {l : List Jb} {rk cm : List Nat} {k : Nat} {th : List Nat} {left : List Int} {p : Nat} (h : CoreG l rk cm k th left) (hc : ComingG l rk cm) (hk : cm[k]? = some p) : CoreG l rk cm (k + 1) (th.take (th.countP (· < p)) ++ p :: th.drop (th.countP (· < p))) left ∧ p ∉ th := by
  have hlt : k < cm.length := (List.getElem?_eq_some_iff.1 hk).1
  have hdr : cm.drop k = p :: cm.drop (k + 1) := by
    rw [List.drop_eq_getElem_cons hlt, (List.getElem?_eq_some_iff.1 hk).2]
  have hsp : cm.take k ++ cm.drop k = cm := List.take_append_drop _ _
  have hnd : (cm.take k ++ cm.drop k).Nodup := by rw [hsp]; exact hc.nodup
  have hpt : p ∉ cm.take k := fun e => (List.nodup_append.1 hnd).2.2 p e p (by rw [hdr]; exact List.mem_cons_self) rfl
  have hp : p ∉ th := fun e => hpt ((h.core.mem p).1 e).1
  have hpos : 0 < L left (RK rk p) := h.core.pos p (by rw [hdr]; exact List.mem_cons_self)
  have htk : cm.take (k + 1) = cm.take k ++ [p] := by rw [List.take_add_one, hk]; rfl
  refine ⟨⟨⟨by omega, (ins_asc p h.core.asc hp).1, fun x => ?_, fun x hx => h.core.pos x (by rw [hdr]; exact List.mem_cons_of_mem _ hx)⟩, h.full⟩, hp⟩
  have hm : x ∈ th.take (th.countP (· < p)) ++ p :: th.drop (th.countP (· < p)) ↔ x = p ∨ x ∈ th := by
    rw [List.mem_append, List.mem_cons]
    have : x ∈ th ↔ x ∈ th.take (th.countP (· < p)) ∨ x ∈ th.drop (th.countP (· < p)) := by rw [← List.mem_append, List.take_append_drop]
    rw [this]
    constructor
    · rintro (a | a | a)
      · exact .inr (.inl a)
      · exact .inl a
      · exact .inr (.inr a)
    · rintro (a | a | a)
      · exact .inr (.inl a)
      · exact .inl a
      · exact .inr (.inr a)
  rw [hm, h.core.mem, htk, List.mem_append, List.mem_singleton]
  constructor
  · rintro (rfl | ⟨a, b⟩)
    · exact ⟨.inr rfl, hpos⟩
    · exact ⟨.inl a, b⟩
  · rintro ⟨a | rfl, b⟩
    · exact .inr ⟨a, b⟩
    · exact .inl rfl

theorem CoreG.there {l : List Jb} {rk cm : List Nat} {k : Nat} {th : List Nat} {left : List Int} {t : Int} (h : CoreG l rk cm k th left) (hc : ComingG l rk cm) (hn : Now l rk cm k t) (p : Nat) : p ∈ th ↔ p < l.length ∧ (J l (RK rk p)).a ≤ t ∧ 0 < L left (RK rk p) := by
  rw [h.core.mem]
  constructor
  · rintro ⟨a, b⟩
    exact ⟨hc.mem p (List.mem_of_mem_take a), hn.come p a, b⟩
  · rintro ⟨a, b, c⟩
    have : p ∈ cm.take k ++ cm.drop k := by rw [List.take_append_drop]; exact h.full p a c
    rcases List.mem_append.1 this with e | e
    · exact ⟨e, c⟩
    · have := hn.wait p e; omega

theorem CoreG.best_none {l : List Jb} {pol : Int} {rk cm : List Nat} {k : Nat} {left : List Int} {t : Int} (h : CoreG l rk cm k [] left) (hr : Ranked l pol rk) (hc : ComingG l rk cm) (hn : Now l rk cm k t) : IsBest l pol left t (-1) := by
  refine .inl ⟨rfl, fun i hi ⟨h1, h2⟩ => ?_⟩
  obtain ⟨p, hp, rfl⟩ := hr.sur hi
  have := (h.there hc hn p).2 ⟨hp, h1, h2⟩
  simp at this

theorem CoreG.best_some {l : List Jb} {pol : Int} {rk cm : List Nat} {k p : Nat} {r : List Nat} {left : List Int} {t : Int} (h : CoreG l rk cm k (p :: r) left) (hr : Ranked l pol rk) (hc : ComingG l rk cm) (hn : Now l rk cm k t) : IsBest l pol left t ((RK rk p : Nat) : Int) := by
  obtain ⟨h0, h1, h2⟩ := (h.there hc hn p).1 List.mem_cons_self
  refine .inr ⟨RK rk p, rfl, hr.lt h0, h1, h2, fun j hj g1 g2 hne => ?_⟩
  obtain ⟨q, hq, rfl⟩ := hr.sur hj
  have hm := (h.there hc hn q).2 ⟨hq, g1, g2⟩
  rcases List.mem_cons.1 hm with rfl | hm
  · exact absurd rfl hne
  · exact hr.sorted p q ((List.pairwise_cons.1 h.core.asc).1 q hm) (by rw [hr.len]; exact hq)

/-- What is left, one by one, says it all. -/
theorem CoreG.cong {l : List Jb} {rk cm : List Nat} {k : Nat} {th : List Nat} {left left' : List Int} (h : CoreG l rk cm k th left) (he : ∀ i, L left' i = L left i) : CoreG l rk cm k th left' :=
  ⟨⟨h.core.kle, h.core.asc, fun p => by rw [he]; exact h.core.mem p, fun p hp => by rw [he]; exact h.core.pos p hp⟩, fun p hp hl => h.full p hp (by rw [← he]; exact hl)⟩

/-- One tick of one that goes on. -/
theorem CoreG.tick {l : List Jb} {pol : Int} {rk cm : List Nat} {k p : Nat} {th : List Nat} {left : List Int} {v : Int} (h : CoreG l rk cm k th left) (hr : Ranked l pol rk) (hc : ComingG l rk cm) (hl : left.length = l.length) (hp : p ∈ th) (hv : 0 < v) : CoreG l rk cm k th (left.set (RK rk p) v) := by
  have hpl := h.lt hc hp
  have hL : ∀ q, q < l.length → (0 < L (left.set (RK rk p) v) (RK rk q) ↔ 0 < L left (RK rk q)) := fun q hq => by
    rw [L_set (by rw [hl]; exact hr.lt hpl)]
    by_cases e : RK rk q = RK rk p
    · rw [if_pos e, e]
      exact ⟨fun _ => ((h.core.mem p).1 hp).2, fun _ => hv⟩
    · rw [if_neg e]
  refine ⟨⟨h.core.kle, h.core.asc, fun q => ?_, fun q hq => ?_⟩, fun q hq hq0 => h.full q hq ((hL q hq).1 hq0)⟩
  · rw [h.core.mem]
    constructor
    · rintro ⟨a, b⟩
      exact ⟨a, (hL q (hc.mem q (List.mem_of_mem_take a))).2 b⟩
    · rintro ⟨a, b⟩
      exact ⟨a, (hL q (hc.mem q (List.mem_of_mem_take a))).1 b⟩
  · exact (hL q (hc.mem q (List.mem_of_mem_drop hq))).2 (h.core.pos q hq)

/-- One is done, and leaves. -/
theorem CoreG.leave {l : List Jb} {pol : Int} {rk cm : List Nat} {k p : Nat} {th : List Nat} {left : List Int} (h : CoreG l rk cm k th left) (hr : Ranked l pol rk) (hc : ComingG l rk cm) (hl : left.length = l.length) (hp : p ∈ th) : CoreG l rk cm k (th.take (th.countP (· < p)) ++ th.drop (th.countP (· < p) + 1)) (left.set (RK rk p) 0) := by
  have hpl := h.lt hc hp
  obtain ⟨-, -, ha, hm⟩ := del_asc p h.core.asc hp
  have hL : ∀ q, q < l.length → (0 < L (left.set (RK rk p) 0) (RK rk q) ↔ 0 < L left (RK rk q) ∧ q ≠ p) := fun q hq => by
    rw [L_set (by rw [hl]; exact hr.lt hpl)]
    by_cases e : RK rk q = RK rk p
    · rw [if_pos e]
      exact ⟨fun h => by omega, fun ⟨_, h⟩ => absurd (hr.inj hq hpl e) h⟩
    · rw [if_neg e]
      exact ⟨fun h => ⟨h, fun e' => e (by rw [e'])⟩, fun h => h.1⟩
  refine ⟨⟨h.core.kle, ha, fun q => ?_, fun q hq => ?_⟩, fun q hq hq0 => h.full q hq ((hL q hq).1 hq0).1⟩
  · rw [hm, h.core.mem]
    constructor
    · rintro ⟨⟨a, b⟩, c⟩
      exact ⟨a, (hL q (hc.mem q (List.mem_of_mem_take a))).2 ⟨b, c⟩⟩
    · rintro ⟨a, b⟩
      have := (hL q (hc.mem q (List.mem_of_mem_take a))).1 b
      exact ⟨⟨a, this.1⟩, this.2⟩
  · refine (hL q (hc.mem q (List.mem_of_mem_drop hq))).2 ⟨h.core.pos q hq, fun e => ?_⟩
    subst e
    have hnd : (cm.take k ++ cm.drop k).Nodup := by rw [List.take_append_drop]; exact hc.nodup
    exact (List.nodup_append.1 hnd).2.2 q ((h.core.mem q).1 hp).1 q hq rfl

/-- Those of which it holds are given up. -/
theorem CoreG.give {l : List Jb} {rk cm : List Nat} {k : Nat} {th : List Nat} {left left' : List Int} {b : Nat → Bool} (h : CoreG l rk cm k th left) (hl : ∀ i, L left' i = if b i = true then L left i else 0) :
    CoreG l rk (cm.take k ++ (cm.drop k).filter (fun p => b (RK rk p))) k (th.filter (fun p => b (RK rk p))) left' := by
  have hk : (cm.take k).length = k := by rw [List.length_take]; have := h.core.kle; omega
  have e1 : (cm.take k ++ (cm.drop k).filter (fun p => b (RK rk p))).take k = cm.take k := by
    rw [List.take_append_of_le_length (by omega), List.take_of_length_le (by omega)]
  have e2 : (cm.take k ++ (cm.drop k).filter (fun p => b (RK rk p))).drop k = (cm.drop k).filter (fun p => b (RK rk p)) := by
    rw [List.drop_append_of_le_length (by omega), List.drop_of_length_le (by omega), List.nil_append]
  refine ⟨⟨by rw [List.length_append]; omega, h.core.asc.filter _, fun p => ?_, fun p hp => ?_⟩, fun p hp hp0 => ?_⟩
  · rw [e1, List.mem_filter, h.core.mem, hl]
    by_cases hb : b (RK rk p) = true
    · rw [if_pos hb]; exact ⟨fun h => h.1, fun h => ⟨h, hb⟩⟩
    · rw [if_neg hb]; exact ⟨fun h => absurd h.2 hb, fun h => by omega⟩
  · rw [e2, List.mem_filter] at hp
    rw [hl, if_pos hp.2]
    exact h.core.pos p hp.1
  · rw [hl] at hp0
    by_cases hb : b (RK rk p) = true
    · rw [if_pos hb] at hp0
      have hm := h.full p hp hp0
      rw [← List.take_append_drop k cm] at hm
      rcases List.mem_append.1 hm with hm | hm
      · exact List.mem_append_left _ hm
      · exact List.mem_append_right _ (List.mem_filter.2 ⟨hm, hb⟩)
    · rw [if_neg hb] at hp0; omega

theorem ComingG.give {l : List Jb} {rk cm : List Nat} (h : ComingG l rk cm) (k : Nat) (b : Nat → Bool) : ComingG l rk (cm.take k ++ (cm.drop k).filter b) := by
  have hs : (cm.take k ++ (cm.drop k).filter b).Sublist cm := by
    have := (List.Sublist.refl (cm.take k)).append (List.filter_sublist (p := b) (l := cm.drop k))
    rwa [List.take_append_drop] at this
  exact ⟨hs.nodup h.nodup, fun p hp => h.mem p (hs.subset hp), h.sorted.sublist hs⟩
end Go.Proofs.YtccoobcggbbciaiGreatDoor.S8
