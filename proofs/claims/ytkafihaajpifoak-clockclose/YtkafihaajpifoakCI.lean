import Derived.Test.YtkafihaajpifoakCH
namespace Go.Proofs.Ytkafihaajpifoak
open Go.ChangeShapes Go.WideShapes Go.ChangeAt Go.RowKit Go.Sort

/-- One more. -/
theorem Cop.push2 {w W : World} {js : List Ro} {ov : Value} (h : Cop w W js ov) (x : Ro) (hl : js.length ≤ 1000000) (hx : RowSl nuV W x.xs x.v) (hone : x.v.oneCell' = true) (hap : ∀ k, x.v.ownBlock = some k → k < W.heap.size ∧ ov.ownBlock ≠ some k) (hlow : ∀ k, x.v.ownBlock = some k → w.heap.size ≤ k) :
    ∃ ov' W', (Builtin.append_ #[23, 23] 23 #[ov, .slice (some ⟨W.heap.size, 0, none⟩) 1 1]).run Try.prog (W.alloc (.cells #[x.v] 22)) = .ok ov' W' ∧ Cop w W' (js ++ [x]) ov' ∧ (∀ k, k < W.heap.size → ov.ownBlock ≠ some k → W'.heap[k]? = W.heap[k]?) ∧ (∀ k, ov'.ownBlock = some k → ov.ownBlock = some k ∨ W.heap.size ≤ k) ∧ (∃ ad c, ov' = .slice ad (js.length + 1) c) ∧ W.heap.size ≤ W'.heap.size ∧ Below w.heap.size W W' := by
  obtain ⟨i0, hi0, hz0, hz1, hz2⟩ := info_parts infoTb
  have h1 := h.grow (below_new W (.cells #[x.v] 22))
  obtain ⟨ov', W', hrun, ho, hg, -, hu⟩ := run_append_own_at (P := Try.prog) (w := W.alloc (.cells #[x.v] 22)) w.heap.size 23 23 22 i0 _ 1 24 Try.underlying23 hi0 hz0 hz1 hz2 rfl (by decide) ov js.length (js.flatMap Ro.vals) h1.own ⟨W.heap.size, 0, none⟩ 1 1 x.vals rfl (fun j u hj => by rw [Addr.add_lit]; have := (cells_of (l := x.vals) (heap_alloc_new W (.cells #[x.v] 22))).1 j u hj; simpa using this) (fun u hu => by
      simp only [Ro.vals, List.mem_cons, List.not_mem_nil, or_false] at hu
      subst hu
      exact hone) (by unfold maxLen; omega) (by omega) (by have := h.bel.size; simp; omega)
  have hkeep : ∀ k, k < W.heap.size → ov.ownBlock ≠ some k → W'.heap[k]? = W.heap[k]? := fun k hk hne => by
    rw [hg.block k (by simp; omega) (fun e => hne e.symm), (below_new W _).block k hk]
  have hnew : ∀ k, k < W.heap.size → ov.ownBlock ≠ some k → ov'.ownBlock ≠ some k := fun k hk hne e => by
    rcases hu with hu | hu
    · rw [hu] at e; exact hne e
    · rw [hu] at e; simp at e; omega
  have hsz : W.heap.size ≤ W'.heap.size := by have := hg.size; simp at this; omega
  refine ⟨ov', W', hrun, ⟨h1.bel.grown hg (by have := h.bel.size; simp; omega) (fun k hk => ?_), by rw [List.length_append, List.flatMap_append]; simpa using ho, fun y hy => ?_, fun y hy => ?_, fun y hy => ?_, fun y hy => ?_⟩, hkeep, fun k hk => ?_, ?_, hsz, ((below_new W _).mono h.bel.size).grown hg (by have := h.bel.size; simp; omega) (fun k hk => ?_)⟩
  · obtain ⟨-, ⟨e, -⟩ | ⟨g, cap, cur, e, hB, -⟩⟩ := h.own
    · rw [e] at hk; cases hk
    · rw [e] at hk; cases hk; exact hB
  · rcases List.mem_append.1 hy with hy | hy
    · exact (h.xss y hy).keep fun k hk => hkeep k (h.apart y hy k hk).1 (h.apart y hy k hk).2
    · simp at hy; subst hy
      exact hx.keep fun k hk => hkeep k (hap k hk).1 (hap k hk).2
  · rcases List.mem_append.1 hy with hy | hy
    · exact h.one y hy
    · simp at hy; subst hy; exact hone
  · rcases List.mem_append.1 hy with hy | hy
    · exact fun k hk => ⟨Nat.lt_of_lt_of_le (h.apart y hy k hk).1 hsz, hnew k (h.apart y hy k hk).1 (h.apart y hy k hk).2⟩
    · simp at hy; subst hy
      exact fun k hk => ⟨Nat.lt_of_lt_of_le (hap k hk).1 hsz, hnew k (hap k hk).1 (hap k hk).2⟩
  · rcases List.mem_append.1 hy with hy | hy
    · exact h.low y hy
    · simp at hy; subst hy
      exact hlow
  · rcases hu with hu | hu
    · rw [hu] at hk; exact .inl hk
    · rw [hu] at hk; cases hk; exact .inr (by simp)
  · obtain ⟨ad, c, e⟩ := owns_value ho
    exact ⟨ad, c, e⟩
  · obtain ⟨-, ⟨e, -⟩ | ⟨g, cap, cur, e, hB, -⟩⟩ := h.own
    · rw [e] at hk; cases hk
    · rw [e] at hk; cases hk; exact hB

/-- One number more. -/
theorem num_push {W : World} {B : Nat} {acc : List Int} {av : Value} (h : W.ownsRow B 3 1 av acc.length (acc.flatMap nuV)) (hB : B ≤ W.heap.size) (x : Int) (hl : acc.length ≤ 100000) :
    ∃ ad c w4, (Builtin.append_ #[22, 22] 22 #[av, .slice (some ⟨W.heap.size, 0, none⟩) 1 1]).run Try.prog (W.alloc (.cells #[.int .i64 x] 3)) = .ok (.slice ad (acc.length + 1) c) w4 ∧ w4.ownsRow B 3 1 (.slice ad (acc.length + 1) c) (acc ++ [x]).length ((acc ++ [x]).flatMap nuV) ∧ Below B W w4 ∧ (∀ k, k < W.heap.size → av.ownBlock ≠ some k → w4.heap[k]? = W.heap[k]?) ∧ (∀ k, (Value.slice ad (acc.length + 1) c).ownBlock = some k → av.ownBlock = some k ∨ W.heap.size ≤ k) ∧ W.heap.size ≤ w4.heap.size := by
  obtain ⟨i0, hi0, hz0, hz1, hz2⟩ := info_parts infoNu
  have h1 := ownsRow_below h (below_new W (.cells #[.int .i64 x] 3))
  obtain ⟨v4, w4, hrun, ho4, hg4, -, hv4⟩ := run_append_own_at (P := Try.prog) (w := W.alloc (.cells #[.int .i64 x] 3)) B 22 22 3 i0 _ 1 8 Try.underlying22 hi0 hz0 hz1 hz2 rfl (by decide) av acc.length (acc.flatMap nuV) h1 ⟨W.heap.size, 0, none⟩ 1 1 (nuV x) rfl (fun j u hj => by rw [Addr.add_lit]; have := (cells_of (l := nuV x) (heap_alloc_new W (.cells #[.int .i64 x] 3))).1 j u hj; simpa using this) (fun u hu => by simp [nuV] at hu; subst hu; rfl) (by unfold maxLen; omega) (by omega) (by simp; omega)
  obtain ⟨ad, c, rfl⟩ := owns_value ho4
  refine ⟨ad, c, w4, hrun, ?_, ((below_new W _).mono (by omega)).grown hg4 (by simp; omega) (fun k hk => (h.lt k hk).1), fun k hk hn => (hg4.block k (by simp; omega) (fun e => hn e.symm)).trans (Below.heap_alloc _ _ _ hk), fun k hk => ?_, by have := hg4.size; simp at this; omega⟩
  · rw [List.length_append, show (acc ++ [x]).flatMap nuV = acc.flatMap nuV ++ nuV x by simp]
    exact ho4
  · rcases hv4 with hu | hu
    · rw [hu] at hk; exact .inl hk
    · rw [hu] at hk; cases hk; exact .inr (by simp)

/-- What is heard so far, and what is added. -/
structure MD (w W : World) (js : List Ro) (hv : Value) (off : List Int) (ov : Value) : Prop where
  cop : Cop w W js hv
  off : W.ownsRow w.heap.size 3 1 ov off.length (off.flatMap nuV)
  ne : ∀ k, hv.ownBlock = some k → ov.ownBlock ≠ some k
  rne : ∀ x ∈ js, ∀ k, x.v.ownBlock = some k → ov.ownBlock ≠ some k

theorem MD.start (w : World) : MD w w [] (.slice none 0 0) [] (.slice none 0 0) := ⟨⟨Below.refl _ _, ⟨rfl, .inl ⟨rfl, rfl⟩⟩, fun x hx => by simp at hx, fun x hx => by simp at hx, fun x hx => by simp at hx, fun x hx => by simp at hx⟩, ⟨rfl, .inl ⟨rfl, rfl⟩⟩, (fun k hk => by cases hk), fun x hx => by simp at hx⟩

theorem MD.grow {w W W' : World} {js : List Ro} {hv : Value} {off : List Int} {ov : Value} (h : MD w W js hv off ov) (hb : Below W.heap.size W W') : MD w W' js hv off ov := ⟨h.cop.grow hb, ownsRow_below h.off hb, h.ne, h.rne⟩

theorem ownsRow_keep' {W W' : World} {B n : Nat} {v : Value} {xs : List Value} (h : W.ownsRow B 3 1 v n xs) (hk : ∀ k, v.ownBlock = some k → W'.heap[k]? = W.heap[k]?) : W'.ownsRow B 3 1 v n xs := by
  obtain ⟨hl, h | ⟨g, cap, cur, he, hB, hg, hr⟩⟩ := h
  · exact ⟨hl, .inl h⟩
  · exact ⟨hl, .inr ⟨g, cap, cur, he, hB, (hk g (by rw [he]; rfl)).trans hg, hr⟩⟩

/-- A row more: it was made behind W1. -/
theorem MD.row {w W1 W : World} {js : List Ro} {hv : Value} {off : List Int} {ov : Value} (h : MD w W1 js hv off ov) (hb : Below W1.heap.size W1 W) (x : Ro) (hl : js.length ≤ 1000000) (hx : RowSl nuV W x.xs x.v) (hone : x.v.oneCell' = true) (hk : ∀ k, x.v.ownBlock = some k → W1.heap.size ≤ k ∧ k < W.heap.size) :
    ∃ ad c W', (Builtin.append_ #[23, 23] 23 #[hv, .slice (some ⟨W.heap.size, 0, none⟩) 1 1]).run Try.prog (W.alloc (.cells #[x.v] 22)) = .ok (.slice ad (js.length + 1) c) W' ∧ MD w W' (js ++ [x]) (.slice ad (js.length + 1) c) off ov ∧ W.heap.size ≤ W'.heap.size ∧ Below w.heap.size W W' := by
  have hvl : ∀ k, hv.ownBlock = some k → k < W1.heap.size := fun k e => h.cop.block_lt e
  have ovl : ∀ k, ov.ownBlock = some k → k < W1.heap.size := fun k e => (h.off.lt k e).2
  have h2 := h.grow hb
  obtain ⟨ov', W', hrun, hcop, hkeep, hnew, ⟨ad, c, rfl⟩, hsz, hbW⟩ := h2.cop.push2 x hl hx hone (fun k e => ⟨(hk k e).2, fun e' => by have := hvl k e'; have := hk k e; omega⟩) (fun k e => by have := (hk k e).1; have := h.cop.bel.size; omega)
  refine ⟨ad, c, W', hrun, ⟨hcop, ownsRow_keep' h2.off (fun k e => hkeep k (by have := ovl k e; have := hb.size; omega) (fun e' => h.ne k e' e)), fun k e e' => ?_, fun y hy k e e' => ?_⟩, hsz, hbW⟩
  · rcases hnew k e with e2 | e2
    · exact h.ne k e2 e'
    · have := ovl k e'; have := hb.size; omega
  · rcases List.mem_append.1 hy with hy | hy
    · exact h.rne y hy k e e'
    · simp at hy; subst hy
      have := ovl k e'; have := hk k e; omega

/-- A number more. -/
theorem MD.num {w W : World} {js : List Ro} {hv : Value} {off : List Int} {ov : Value} (h : MD w W js hv off ov) (x : Int) (hl : off.length ≤ 100000) :
    ∃ ad c W', (Builtin.append_ #[22, 22] 22 #[ov, .slice (some ⟨W.heap.size, 0, none⟩) 1 1]).run Try.prog (W.alloc (.cells #[.int .i64 x] 3)) = .ok (.slice ad (off.length + 1) c) W' ∧ MD w W' js hv (off ++ [x]) (.slice ad (off.length + 1) c) ∧ W.heap.size ≤ W'.heap.size ∧ Below w.heap.size W W' := by
  obtain ⟨ad, c, W', hrun, ho, hb, hkeep, hnew, hsz⟩ := num_push h.off h.cop.bel.size x hl
  have hvl : ∀ k, hv.ownBlock = some k → k < W.heap.size := fun k e => h.cop.block_lt e
  refine ⟨ad, c, W', hrun, ⟨⟨h.cop.bel.trans hb, ?_, fun y hy => (h.cop.xss y hy).keep fun k hk => hkeep k (h.cop.apart y hy k hk).1 (h.rne y hy k hk), h.cop.one, fun y hy k hk => ⟨Nat.lt_of_lt_of_le (h.cop.apart y hy k hk).1 hsz, (h.cop.apart y hy k hk).2⟩, h.cop.low⟩, ho, fun k e e' => ?_, fun y hy k e e' => ?_⟩, hsz, hb⟩
  · obtain ⟨hl, h1 | ⟨g, cap, cur, he, hB, hg, hr⟩⟩ := h.cop.own
    · exact ⟨hl, .inl h1⟩
    · exact ⟨hl, .inr ⟨g, cap, cur, he, hB, (hkeep g (ltH hg) (h.ne g (by rw [he]; rfl))).trans hg, hr⟩⟩
  · rcases hnew k e' with e2 | e2
    · exact h.ne k e e2
    · have := hvl k e; omega
  · rcases hnew k e' with e2 | e2
    · exact h.rne y hy k e e2
    · have := (h.cop.apart y hy k e).1; omega

/-- The clocks, and how many don't lie. -/
structure NW (w W : World) (n Wb Nb Gb g : Nat) (now : List Int) : Prop where
  bel : Below w.heap.size w W
  row : W.heap[Wb]? = some (.cells (now.map (Value.int .i64)).toArray 3 (0, 0))
  box : W.heap[Nb]? = some (.cells #[.slice (some ⟨Wb, 0, none⟩) n n] 22 (0, 0))
  gd : W.heap[Gb]? = some (.cells #[.int .i64 (g : Int)] 3 (0, 0))
  low : w.heap.size ≤ Wb
  nb : Nb ≠ Wb
  gb : Gb ≠ Wb

theorem NW.grow {w W W' : World} {n Wb Nb Gb g : Nat} {now : List Int} (h : NW w W n Wb Nb Gb g now) (hb : Below W.heap.size W W') : NW w W' n Wb Nb Gb g now := ⟨below_seq h.bel hb, (hb.block _ (ltH h.row)).trans h.row, (hb.block _ (ltH h.box)).trans h.box, (hb.block _ (ltH h.gd)).trans h.gd, h.low, h.nb, h.gb⟩

theorem NW.cells {w W : World} {n Wb Nb Gb g : Nat} {now : List Int} (h : NW w W n Wb Nb Gb g now) : W.cell? ⟨Nb, 0, none⟩ = some (.slice (some ⟨Wb, 0, none⟩) n n) ∧ W.cell? ⟨Gb, 0, none⟩ = some (.int .i64 (g : Int)) ∧ ∀ j, j < now.length → W.cell? ⟨Wb, j, none⟩ = some (.int .i64 (now.getD j 0)) := by
  refine ⟨(cells_of (l := [_]) h.box).1 0 _ rfl, (cells_of (l := [_]) h.gd).1 0 _ rfl, fun j hj => (cells_of h.row).1 j _ ?_⟩
  rw [List.getElem?_map, List.getD_eq_getElem?_getD, List.getElem?_eq_getElem hj]
  rfl

theorem NW.set {w W : World} {n Wb Nb Gb g : Nat} {now : List Int} (h : NW w W n Wb Nb Gb g now) (j : Nat) (v : Int) : NW w (W.setCell ⟨Wb, j, none⟩ (.int .i64 v)) n Wb Nb Gb g (now.set j v) := by
  refine ⟨h.bel.setCell h.low _, ?_, ?_, ?_, h.low, h.nb, h.gb⟩
  · rw [setCell_list h.row, List.map_set]
  · rw [Below.heap_setCell _ _ _ _ (show Nb ≠ Wb from h.nb)]; exact h.box
  · rw [Below.heap_setCell _ _ _ _ (show Gb ≠ Wb from h.gb)]; exact h.gd

/-- copy of as many. -/
theorem NW.copy {w W : World} {n Wb Nb Gb g : Nat} {now : List Int} (h : NW w W n Wb Nb Gb g now) (hn : now.length = n) (L : List Int) (hL : L.length = n) (h0 : 0 < n) (a : Option Addr) (c : Nat) (hr : RowSl nuV W L (.slice a L.length c)) :
    ∃ W', (Builtin.copy_ #[22, 22] 3 #[.slice (some ⟨Wb, 0, none⟩) n n, .slice a n c]).run Try.prog W = .ok (.int .i64 (n : Int)) W' ∧ NW w W' n Wb Nb Gb g L ∧ W'.heap.size = W.heap.size := by
  obtain ⟨a', c', e, hnil, hcap, hrow⟩ := hr
  cases e
  rcases hrow with e | ⟨b, o, rfl, hrow⟩
  · rw [e] at hL; simp at hL; omega
  have hrun := run_copy_row Try.prog W 22 22 3 3 Wb 0 n n ⟨b, o, none⟩ n c _ 3 (L.map (Value.int .i64)) Try.underlying22 (by kernel_rfl) h.row (by rw [List.length_map, hL]; exact (Nat.min_self n).symm) (fun j v hj => by
    rw [Addr.add_lit]
    exact hrow j v (by rw [flat_nuN]; exact hj)) (by simp [hL, hn]) (fun v hv => by obtain ⟨x, -, rfl⟩ := List.mem_map.1 hv; rfl)
  have e2 : ((now.map (Value.int .i64)).toArray.toList.take 0 ++ L.map (Value.int .i64) ++ (now.map (Value.int .i64)).toArray.toList.drop (0 + (L.map (Value.int .i64)).length)) = L.map (Value.int .i64) := by
    rw [List.take_zero, List.nil_append, List.drop_eq_nil_of_le (by simp [hL, hn]), List.append_nil]
  rw [e2] at hrun
  have e3 : goInt ((L.map (Value.int .i64)).length : Int) = .int .i64 (n : Int) := by rw [List.length_map, hL]; rfl
  rw [e3] at hrun
  refine ⟨_, hrun, ⟨?_, ?_, ?_, ?_, h.low, h.nb, h.gb⟩, ?_⟩
  · refine h.bel.trans ⟨rfl, rfl, rfl, by simp [World.setRow], fun k hk => ?_⟩
    have := h.low
    simp [World.setRow, Array.getElem?_modify, show Wb ≠ k by omega]
  · exact setRow_heap W Wb _ _ 3 _ h.row
  · have := h.nb
    simp [World.setRow, Array.getElem?_modify, Ne.symm this]
    exact h.box
  · have := h.gb
    simp [World.setRow, Array.getElem?_modify, Ne.symm this]
    exact h.gd
  · simp [World.setRow]
end Go.Proofs.Ytkafihaajpifoak
