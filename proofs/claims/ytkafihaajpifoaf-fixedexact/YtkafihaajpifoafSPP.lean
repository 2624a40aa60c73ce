import Derived.Test.YtkafihaajpifoafSPV
namespace Go.Proofs.Ytkafihaajpifoaf.S8
open Go.ChangeShapes Go.WideShapes Go.ChangeAt Go.RowKit Go.Sort

/-- What play makes ahead of its first tick, in any order. -/
structure RegW (n N : Nat) (W0 W : World) (m b r a : Option Nat) : Prop where
  bel : Below W0.heap.size W0 W
  hm : ∀ g, m = some g → W.heap[g]? = some (.cells (repCells n 0).toArray 3 (0, 0)) ∧ W0.heap.size ≤ g
  hb : ∀ g, b = some g → W.heap[g]? = some (.cells #[.int .i64 (-1)] 3 (0, 0)) ∧ W0.heap.size ≤ g
  hr : ∀ g, r = some g → W.heap[g]? = some (.cells (List.replicate N (Value.int .i64 (-1))).toArray 3 (0, 0)) ∧ W0.heap.size ≤ g
  ha : ∀ g, a = some g → W.heap[g]? = some (.cells #[.slice none 0 0, .slice none 0 0] 37 (0, 0)) ∧ W0.heap.size ≤ g
  dma : ∀ g h, m = some g → a = some h → g ≠ h
  dmr : ∀ g h, m = some g → r = some h → g ≠ h
  dra : ∀ g h, r = some g → a = some h → g ≠ h

section

variable {n N : Nat} {W0 W W' : World} {m b r a : Option Nat}

theorem RegW.start (n N : Nat) (W0 : World) : RegW n N W0 W0 none none none none := ⟨Below.refl _ _, nofun, nofun, nofun, nofun, nofun, nofun, nofun⟩

theorem RegW.grow (h : RegW n N W0 W m b r a) (hb : Below W.heap.size W W') : RegW n N W0 W' m b r a :=
  ⟨below_seq h.bel hb, fun g e => ⟨(hb.block g (lt_of_heap (h.hm g e).1)).trans (h.hm g e).1, (h.hm g e).2⟩, fun g e => ⟨(hb.block g (lt_of_heap (h.hb g e).1)).trans (h.hb g e).1, (h.hb g e).2⟩, fun g e => ⟨(hb.block g (lt_of_heap (h.hr g e).1)).trans (h.hr g e).1, (h.hr g e).2⟩, fun g e => ⟨(hb.block g (lt_of_heap (h.ha g e).1)).trans (h.ha g e).1, (h.ha g e).2⟩, h.dma, h.dmr, h.dra⟩

theorem RegW.addM (h : RegW n N W0 W none b r a) (hb : Below W.heap.size W W') {g : Nat} (hg : W.heap.size ≤ g) (hh : W'.heap[g]? = some (.cells (repCells n 0).toArray 3 (0, 0))) : RegW n N W0 W' (some g) b r a := by
  have h' := h.grow hb
  have hs := h.bel.size
  exact ⟨h'.bel, fun q e => by cases e; exact ⟨hh, by omega⟩, h'.hb, h'.hr, h'.ha, fun q x e e' => by cases e; have := lt_of_heap (h.ha x e').1; omega, fun q x e e' => by cases e; have := lt_of_heap (h.hr x e').1; omega, h'.dra⟩

theorem RegW.addB (h : RegW n N W0 W m none r a) (hb : Below W.heap.size W W') {g : Nat} (hg : W.heap.size ≤ g) (hh : W'.heap[g]? = some (.cells #[.int .i64 (-1)] 3 (0, 0))) : RegW n N W0 W' m (some g) r a := by
  have h' := h.grow hb
  have hs := h.bel.size
  exact ⟨h'.bel, h'.hm, fun q e => by cases e; exact ⟨hh, by omega⟩, h'.hr, h'.ha, h'.dma, h'.dmr, h'.dra⟩

theorem RegW.addR (h : RegW n N W0 W m b none a) (hb : Below W.heap.size W W') {g : Nat} (hg : W.heap.size ≤ g) (hh : W'.heap[g]? = some (.cells (List.replicate N (Value.int .i64 (-1))).toArray 3 (0, 0))) : RegW n N W0 W' m b (some g) a := by
  have h' := h.grow hb
  have hs := h.bel.size
  exact ⟨h'.bel, h'.hm, h'.hb, fun q e => by cases e; exact ⟨hh, by omega⟩, h'.ha, h'.dma, fun q x e e' => by cases e'; have := lt_of_heap (h.hm q e).1; omega, fun q x e e' => by cases e; have := lt_of_heap (h.ha x e').1; omega⟩

theorem RegW.addA (h : RegW n N W0 W m b r none) (hb : Below W.heap.size W W') {g : Nat} (hg : W.heap.size ≤ g) (hh : W'.heap[g]? = some (.cells #[.slice none 0 0, .slice none 0 0] 37 (0, 0))) : RegW n N W0 W' m b r (some g) := by
  have h' := h.grow hb
  have hs := h.bel.size
  exact ⟨h'.bel, h'.hm, h'.hb, h'.hr, fun q e => by cases e; exact ⟨hh, by omega⟩, fun q x e e' => by cases e'; have := lt_of_heap (h.hm q e).1; omega, h'.dmr, fun q x e e' => by cases e'; have := lt_of_heap (h.hr q e).1; omega⟩

end

theorem RegW.fin {w W W0 Wz : World} {B K Lf Rn Rd C : Nat} {l : List Jb} {rk cm : List Nat} {jv tv cv : Value} {n m b r a : Nat} (hc : LineW w B K Lf Rn Rd C W l rk cm 0 [] (l.map (·.c)) jv tv cv) (hW0 : (W.alloc (.cells #[.slice none 0 0, .slice none 0 0] 37)).drew = W0) (h : RegW n l.length W0 Wz (some m) (some b) (some r) (some a)) :
    PlayL w B K Lf Rn Rd C ((Wz.setCell ⟨a, 0, none⟩ (.slice (some ⟨m, 0, none⟩) n n)).setCell ⟨a, 1, none⟩ (.slice (some ⟨r, 0, none⟩) l.length l.length)) l rk cm 0 [] (l.map (·.c)) jv tv cv W.heap.size a m r n [] (List.replicate l.length (-1)) := by
  subst hW0
  have hs0 : (W.alloc (.cells #[.slice none 0 0, .slice none 0 0] 37)).drew.heap.size = W.heap.size + 1 := by simp
  obtain ⟨m1, m2⟩ := h.hm m rfl
  obtain ⟨r1, r2⟩ := h.hr r rfl
  obtain ⟨a1, a2⟩ := h.ha a rfl
  rw [hs0] at m2 r2 a2
  have dma := h.dma m a rfl rfl
  have dmr := h.dmr m r rfl rfl
  have dra := h.dra r a rfl rfl
  have hbW : Below W.heap.size W Wz := (below_new W _).trans ((Below.refl _ _).drew.trans (h.bel.mono (by omega)))
  have hbZ : Below W.heap.size W ((Wz.setCell ⟨a, 0, none⟩ (.slice (some ⟨m, 0, none⟩) n n)).setCell ⟨a, 1, none⟩ (.slice (some ⟨r, 0, none⟩) l.length l.length)) := (hbW.setCell (show W.heap.size ≤ a by omega) _).setCell (show W.heap.size ≤ a by omega) _
  have hrs : Wz.heap[W.heap.size]? = some (.cells #[.slice none 0 0, .slice none 0 0] 37 (0, 0)) := (h.bel.block W.heap.size (by omega)).trans (heap_alloc_new _ _)
  have keep : ∀ q, q ≠ a → ((Wz.setCell ⟨a, 0, none⟩ (.slice (some ⟨m, 0, none⟩) n n)).setCell ⟨a, 1, none⟩ (.slice (some ⟨r, 0, none⟩) l.length l.length)).heap[q]? = Wz.heap[q]? := fun q hq => by
    rw [Below.heap_setCell _ _ _ _ hq, Below.heap_setCell _ _ _ _ hq]
  have bs := hc.bs
  have ow : ∀ q, W.heap.size ≤ q → tv.ownBlock ≠ some q := fun q hq e => by have := (hc.there.low e).2; omega
  refine ⟨hc.below hbZ, (keep _ (by omega)).trans hrs, ?_, (keep _ dma).trans ?_, (keep _ dra).trans ?_, ⟨by omega, by omega, by omega, by omega⟩, ⟨by omega, by omega, by omega, Ne.symm dma, Ne.symm dra, dmr⟩, ow _ (Nat.le_refl _), ow _ (by omega), ow _ (by omega), ow _ (by omega)⟩
  · rw [setCell_at (setCell_at a1)]; rfl
  · rw [m1]; rfl
  · rw [r1]; simp

theorem make_ex (W : World) (n : Nat) (hn : n ≤ 1000000) : ∃ W', (Instr.makeSlice 24 (.int .i64 (n : Int)) (.int .i64 (n : Int))).run Try.prog W = .ok (.slice (some ⟨W.heap.size, 0, none⟩) n n) W' ∧ Below W.heap.size W W' ∧ W'.heap[W.heap.size]? = some (.cells (repCells n 0).toArray 3 (0, 0)) :=
  ⟨_, make_row W n W.heap.size hn rfl, below_new _ _, by rw [heap_alloc_new]; simp [repCells]⟩

theorem play_ends {w : World} {g : Nat} {c k : Value} {a : Act} (h : w.heap[g]? = some (.cells #[c, k] 37 (0, 0))) (h3 : a.tmps[8]?.getD undef = .pointer (some ⟨g, 0, none⟩)) :
    (results Try.f29 a.tmps).run Try.prog w = .ok (.agg #[c, k]) w := by
  obtain ⟨c1, f1, l1⟩ := cells_of (l := [_, _]) h
  have c10 := c1 0 _ rfl
  have c11 := c1 1 _ rfl
  simp [results, Try.results29, go_sem, h3, c10, c11]

theorem from_K {P : Program} {c : Code} {q : Exit → Act → World → Prop} {K : Act → World → Prop} (h : ∀ a w, Code.wp P c q a w → K a w) (a : Act) (w : World) (g : Code.wp P c q a w) : K a w := h a w g

set_option maxRecDepth 20000 in
set_option maxHeartbeats 2000000 in
theorem play_any (w W : World) (B K Lf Rn Rd C : Nat) (l : List Jb) (pol : Int) (rk cm : List Nat) (jv tv cv : Value) (pre : Bool) (n : Nat) (hcore : LineW w B K Lf Rn Rd C W l rk cm 0 [] (l.map (·.c)) jv tv cv) (hr : Ranked l pol rk) (hc : Coming l rk cm) (hl : l.length ≤ 4000) (hok : ∀ x ∈ l, okJ x) (hn : n ≤ 20000) :
    Calls Try.prog 29 #[.pointer (some ⟨K, 0, none⟩), .int .i64 (l.length : Int), .bool pre, .int .i64 (n : Int)] W fun r W' => ∃ s rb eb, Plays l pol pre n s ∧ r = .returned (.agg #[.slice (some ⟨rb, 0, none⟩) n n, .slice (some ⟨eb, 0, none⟩) l.length l.length]) ∧ W'.heap[rb]? = some (.cells (s.runs.map (Value.int .i64)).toArray 3 (0, 0)) ∧ W'.heap[eb]? = some (.cells (s.ends.map (Value.int .i64)).toArray 3 (0, 0)) ∧ rb ≠ eb ∧ w.heap.size ≤ rb ∧ w.heap.size ≤ eb ∧ Below w.heap.size w W' := by
  go_enter Try.func29, Try.ntmps29
  go_upto_region 1 with fail
  go_cut [9] from 12 to 17 (fun v wc => ∃ pb rb eb, v = .pointer (some ⟨pb, 0, none⟩) ∧ PlayL w B K Lf Rn Rd C wc l rk cm 0 [] (l.map (·.c)) jv tv cv W.heap.size pb rb eb n [] (List.replicate l.length (-1)))
  case first =>
    have HW : Hid (LineW w B K Lf Rn Rd C W l rk cm 0 [] (l.map (·.c)) jv tv cv) := hcore
    clear hcore
    have hS0 : (fun _ : World => True) (W.alloc (.cells #[.slice none 0 0, .slice none 0 0] 37)).drew := trivial
    have hX : Hid (RegW n l.length (W.alloc (.cells #[.slice none 0 0, .slice none 0 0] 37)).drew (W.alloc (.cells #[.slice none 0 0, .slice none 0 0] 37)).drew none none none none) := RegW.start _ _ _
    refine wp_region_noPanic ?_
    refine wp_region_held_drew (S := fun _ => True) (by kernel_rfl) hS0 (fun hHeld => ?_)
    refine take_at (i := 0) (n := 12) (v := ?_) rfl rfl (by kernel_rfl) (by kernel_rfl) (by kernel_rfl) (fun _ _ _ h => h) (Or.inl ⟨by rfl, ?_⟩) (by assumption) ?_
    rotate_left 1
    · intro wz hSw
      first | (go_simp; done) | (go_simp; with_reducible rfl)
    simp only [List.set_cons_zero, List.set_cons_succ]
    refine take_at (i := 3) (n := 15) (v := ?_) rfl rfl (by kernel_rfl) (by kernel_rfl) (by kernel_rfl) (fun _ _ _ h => h) (Or.inl ⟨by rfl, ?_⟩) (by assumption) ?_
    rotate_left 1
    · intro wz hSw
      first | (go_simp; done) | (go_simp; with_reducible rfl)
    simp only [List.set_cons_zero, List.set_cons_succ]
    generalize hW0 : (W.alloc (.cells #[.slice none 0 0, .slice none 0 0] 37)).drew = W0 at *
    have HW0 : Hid ((W.alloc (.cells #[.slice none 0 0, .slice none 0 0] 37)).drew = W0) := hW0
    clear hW0
    refine wpAnyH_ready (rs := [1, 2, 6]) (by kernel_rfl) (by simp) ?_
    refine AllReadyH.cons rfl (fun K' hK' => ?_) (AllReadyH.cons rfl (fun K' hK' => ?_) (AllReadyH.cons rfl (fun K' hK' => ?_) (AllReadyH.nil)))
    · skip
      obtain ⟨wn1, hmk, hb9, hh9⟩ := make_ex W0 n (by omega)
      have hY := hX.out.addM hb9 (Nat.le_refl _) hh9
      go_simp
      refine hK'.out _ _ trivial (fun hHeld => ?_)
      clear hK' K' hX
      have hX : Hid (RegW n l.length W0 wn1 (some W0.heap.size) none none none) := hY
      clear hY
      refine wpAnyH_ready (rs := [2, 6]) (by kernel_rfl) (by simp) ?_
      refine AllReadyH.cons rfl (fun K' hK' => ?_) (AllReadyH.cons rfl (fun K' hK' => ?_) (AllReadyH.nil))
      · skip
        have hY := hX.out.addB (below_new wn1 (.cells #[.int .i64 (-1)] 3)) (Nat.le_refl _) (heap_alloc_new _ _)
        go_simp
        generalize wn1.alloc (.cells #[.int .i64 (-1)] 3) = wn2 at hY ⊢
        refine hK'.out _ _ trivial (fun hHeld => ?_)
        clear hK' K' hX
        have hX : Hid (RegW n l.length W0 wn2 (some W0.heap.size) (some wn1.heap.size) none none) := hY
        clear hY
        refine wpAnyH_ready (rs := [4, 6]) (by kernel_rfl) (by simp) ?_
        refine AllReadyH.cons rfl (fun K' hK' => ?_) (AllReadyH.cons rfl (fun K' hK' => ?_) (AllReadyH.nil))
        · skip
          go_simp
          go_wp2_with (go_at_call 51; refine (Repeat_any wn2 _ l.length (hX.out.hb _ rfl).1 (by omega)).mono ?_; rintro r wn3 ⟨gr3, rfl, hge, hh9, hb9⟩)
          have hY := hX.out.addR hb9 hge hh9
          refine hK'.out _ _ trivial (fun hHeld => ?_)
          clear hK' K' hX
          have hX : Hid (RegW n l.length W0 wn3 (some W0.heap.size) (some wn1.heap.size) (some gr3) none) := hY
          clear hY
          refine take_at (i := 5) (n := 17) (v := ?_) rfl rfl (by kernel_rfl) (by kernel_rfl) (by kernel_rfl) (fun _ _ _ h => h) (Or.inl ⟨by rfl, ?_⟩) (by assumption) ?_
          rotate_left 1
          · intro wz hSw
            first | (go_simp; done) | (go_simp; with_reducible rfl)
          simp only [List.set_cons_zero, List.set_cons_succ]
          refine wpAnyH_ready (rs := [6]) (by kernel_rfl) (by simp) ?_
          refine AllReadyH.cons rfl (fun K' hK' => ?_) (AllReadyH.nil)
          · skip
            have hY := hX.out.addA (below_new wn3 (.cells #[.slice none 0 0, .slice none 0 0] 37)) (Nat.le_refl _) (heap_alloc_new _ _)
            go_simp
            generalize wn3.alloc (.cells #[.slice none 0 0, .slice none 0 0] 37) = wn4 at hY ⊢
            refine hK'.out _ _ trivial (fun hHeld => ?_)
            clear hK' K' hX
            have hX : Hid (RegW n l.length W0 wn4 (some W0.heap.size) (some wn1.heap.size) (some gr3) (some wn3.heap.size)) := hY
            clear hY
            obtain ⟨ps, pf, pl⟩ := cells_of (l := [_, _]) (hX.out.ha _ rfl).1
            have p0 := ps 0 _ rfl
            have p1 := ps 1 _ rfl
            have pf0 := pf 0
            have pf1 := pf 1
            clear ps pf
            refine wpAnyH_ready (rs := [7]) (by kernel_rfl) (by simp) ?_
            refine AllReadyH.cons rfl (fun K' hK' => ?_) AllReadyH.nil
            go_simp
            refine hK'.out _ _ trivial (fun hHeld => ?_)
            clear hK' K'
            refine wpAnyH_done (by kernel_rfl) ?_ _
            refine NoPanic.normal ?_
            go_wp2_with fail
            go_meet
            case rel =>
              exact ⟨_, _, _, rfl, RegW.fin HW.out HW0.out hX.out⟩
        · skip
          have hY := hX.out.addA (below_new wn2 (.cells #[.slice none 0 0, .slice none 0 0] 37)) (Nat.le_refl _) (heap_alloc_new _ _)
          go_simp
          generalize wn2.alloc (.cells #[.slice none 0 0, .slice none 0 0] 37) = wn5 at hY ⊢
          refine hK'.out _ _ trivial (fun hHeld => ?_)
          clear hK' K' hX
          have hX : Hid (RegW n l.length W0 wn5 (some W0.heap.size) (some wn1.heap.size) none (some wn2.heap.size)) := hY
          clear hY
          refine wpAnyH_ready (rs := [4]) (by kernel_rfl) (by simp) ?_
          refine AllReadyH.cons rfl (fun K' hK' => ?_) (AllReadyH.nil)
          · skip
            go_simp
            go_wp2_with (go_at_call 51; refine (Repeat_any wn5 _ l.length (hX.out.hb _ rfl).1 (by omega)).mono ?_; rintro r wn6 ⟨gr6, rfl, hge, hh9, hb9⟩)
            have hY := hX.out.addR hb9 hge hh9
            refine hK'.out _ _ trivial (fun hHeld => ?_)
            clear hK' K' hX
            have hX : Hid (RegW n l.length W0 wn6 (some W0.heap.size) (some wn1.heap.size) (some gr6) (some wn2.heap.size)) := hY
            clear hY
            refine take_at (i := 5) (n := 17) (v := ?_) rfl rfl (by kernel_rfl) (by kernel_rfl) (by kernel_rfl) (fun _ _ _ h => h) (Or.inl ⟨by rfl, ?_⟩) (by assumption) ?_
            rotate_left 1
            · intro wz hSw
              first | (go_simp; done) | (go_simp; with_reducible rfl)
            simp only [List.set_cons_zero, List.set_cons_succ]
            obtain ⟨ps, pf, pl⟩ := cells_of (l := [_, _]) (hX.out.ha _ rfl).1
            have p0 := ps 0 _ rfl
            have p1 := ps 1 _ rfl
            have pf0 := pf 0
            have pf1 := pf 1
            clear ps pf
            refine wpAnyH_ready (rs := [7]) (by kernel_rfl) (by simp) ?_
            refine AllReadyH.cons rfl (fun K' hK' => ?_) AllReadyH.nil
            go_simp
            refine hK'.out _ _ trivial (fun hHeld => ?_)
            clear hK' K'
            refine wpAnyH_done (by kernel_rfl) ?_ _
            refine NoPanic.normal ?_
            go_wp2_with fail
            go_meet
            case rel =>
              exact ⟨_, _, _, rfl, RegW.fin HW.out HW0.out hX.out⟩
      · skip
        have hY := hX.out.addA (below_new wn1 (.cells #[.slice none 0 0, .slice none 0 0] 37)) (Nat.le_refl _) (heap_alloc_new _ _)
        go_simp
        generalize wn1.alloc (.cells #[.slice none 0 0, .slice none 0 0] 37) = wn7 at hY ⊢
        refine hK'.out _ _ trivial (fun hHeld => ?_)
        clear hK' K' hX
        have hX : Hid (RegW n l.length W0 wn7 (some W0.heap.size) none none (some wn1.heap.size)) := hY
        clear hY
        refine wpAnyH_ready (rs := [2]) (by kernel_rfl) (by simp) ?_
        refine AllReadyH.cons rfl (fun K' hK' => ?_) (AllReadyH.nil)
        · skip
          have hY := hX.out.addB (below_new wn7 (.cells #[.int .i64 (-1)] 3)) (Nat.le_refl _) (heap_alloc_new _ _)
          go_simp
          generalize wn7.alloc (.cells #[.int .i64 (-1)] 3) = wn8 at hY ⊢
          refine hK'.out _ _ trivial (fun hHeld => ?_)
          clear hK' K' hX
          have hX : Hid (RegW n l.length W0 wn8 (some W0.heap.size) (some wn7.heap.size) none (some wn1.heap.size)) := hY
          clear hY
          refine wpAnyH_ready (rs := [4]) (by kernel_rfl) (by simp) ?_
          refine AllReadyH.cons rfl (fun K' hK' => ?_) (AllReadyH.nil)
          · skip
            go_simp
            go_wp2_with (go_at_call 51; refine (Repeat_any wn8 _ l.length (hX.out.hb _ rfl).1 (by omega)).mono ?_; rintro r wn9 ⟨gr9, rfl, hge, hh9, hb9⟩)
            have hY := hX.out.addR hb9 hge hh9
            refine hK'.out _ _ trivial (fun hHeld => ?_)
            clear hK' K' hX
            have hX : Hid (RegW n l.length W0 wn9 (some W0.heap.size) (some wn7.heap.size) (some gr9) (some wn1.heap.size)) := hY
            clear hY
            refine take_at (i := 5) (n := 17) (v := ?_) rfl rfl (by kernel_rfl) (by kernel_rfl) (by kernel_rfl) (fun _ _ _ h => h) (Or.inl ⟨by rfl, ?_⟩) (by assumption) ?_
            rotate_left 1
            · intro wz hSw
              first | (go_simp; done) | (go_simp; with_reducible rfl)
            simp only [List.set_cons_zero, List.set_cons_succ]
            obtain ⟨ps, pf, pl⟩ := cells_of (l := [_, _]) (hX.out.ha _ rfl).1
            have p0 := ps 0 _ rfl
            have p1 := ps 1 _ rfl
            have pf0 := pf 0
            have pf1 := pf 1
            clear ps pf
            refine wpAnyH_ready (rs := [7]) (by kernel_rfl) (by simp) ?_
            refine AllReadyH.cons rfl (fun K' hK' => ?_) AllReadyH.nil
            go_simp
            refine hK'.out _ _ trivial (fun hHeld => ?_)
            clear hK' K'
            refine wpAnyH_done (by kernel_rfl) ?_ _
            refine NoPanic.normal ?_
            go_wp2_with fail
            go_meet
            case rel =>
              exact ⟨_, _, _, rfl, RegW.fin HW.out HW0.out hX.out⟩
    · skip
      have hY := hX.out.addB (below_new W0 (.cells #[.int .i64 (-1)] 3)) (Nat.le_refl _) (heap_alloc_new _ _)
      go_simp
      generalize W0.alloc (.cells #[.int .i64 (-1)] 3) = wn10 at hY ⊢
      refine hK'.out _ _ trivial (fun hHeld => ?_)
      clear hK' K' hX
      have hX : Hid (RegW n l.length W0 wn10 none (some W0.heap.size) none none) := hY
      clear hY
      refine wpAnyH_ready (rs := [1, 4, 6]) (by kernel_rfl) (by simp) ?_
      refine AllReadyH.cons rfl (fun K' hK' => ?_) (AllReadyH.cons rfl (fun K' hK' => ?_) (AllReadyH.cons rfl (fun K' hK' => ?_) (AllReadyH.nil)))
      · skip
        obtain ⟨wn11, hmk, hb9, hh9⟩ := make_ex wn10 n (by omega)
        have hY := hX.out.addM hb9 (Nat.le_refl _) hh9
        go_simp
        refine hK'.out _ _ trivial (fun hHeld => ?_)
        clear hK' K' hX
        have hX : Hid (RegW n l.length W0 wn11 (some wn10.heap.size) (some W0.heap.size) none none) := hY
        clear hY
        refine wpAnyH_ready (rs := [4, 6]) (by kernel_rfl) (by simp) ?_
        refine AllReadyH.cons rfl (fun K' hK' => ?_) (AllReadyH.cons rfl (fun K' hK' => ?_) (AllReadyH.nil))
        · skip
          go_simp
          go_wp2_with (go_at_call 51; refine (Repeat_any wn11 _ l.length (hX.out.hb _ rfl).1 (by omega)).mono ?_; rintro r wn12 ⟨gr12, rfl, hge, hh9, hb9⟩)
          have hY := hX.out.addR hb9 hge hh9
          refine hK'.out _ _ trivial (fun hHeld => ?_)
          clear hK' K' hX
          have hX : Hid (RegW n l.length W0 wn12 (some wn10.heap.size) (some W0.heap.size) (some gr12) none) := hY
          clear hY
          refine take_at (i := 5) (n := 17) (v := ?_) rfl rfl (by kernel_rfl) (by kernel_rfl) (by kernel_rfl) (fun _ _ _ h => h) (Or.inl ⟨by rfl, ?_⟩) (by assumption) ?_
          rotate_left 1
          · intro wz hSw
            first | (go_simp; done) | (go_simp; with_reducible rfl)
          simp only [List.set_cons_zero, List.set_cons_succ]
          refine wpAnyH_ready (rs := [6]) (by kernel_rfl) (by simp) ?_
          refine AllReadyH.cons rfl (fun K' hK' => ?_) (AllReadyH.nil)
          · skip
            have hY := hX.out.addA (below_new wn12 (.cells #[.slice none 0 0, .slice none 0 0] 37)) (Nat.le_refl _) (heap_alloc_new _ _)
            go_simp
            generalize wn12.alloc (.cells #[.slice none 0 0, .slice none 0 0] 37) = wn13 at hY ⊢
            refine hK'.out _ _ trivial (fun hHeld => ?_)
            clear hK' K' hX
            have hX : Hid (RegW n l.length W0 wn13 (some wn10.heap.size) (some W0.heap.size) (some gr12) (some wn12.heap.size)) := hY
            clear hY
            obtain ⟨ps, pf, pl⟩ := cells_of (l := [_, _]) (hX.out.ha _ rfl).1
            have p0 := ps 0 _ rfl
            have p1 := ps 1 _ rfl
            have pf0 := pf 0
            have pf1 := pf 1
            clear ps pf
            refine wpAnyH_ready (rs := [7]) (by kernel_rfl) (by simp) ?_
            refine AllReadyH.cons rfl (fun K' hK' => ?_) AllReadyH.nil
            go_simp
            refine hK'.out _ _ trivial (fun hHeld => ?_)
            clear hK' K'
            refine wpAnyH_done (by kernel_rfl) ?_ _
            refine NoPanic.normal ?_
            go_wp2_with fail
            go_meet
            case rel =>
              exact ⟨_, _, _, rfl, RegW.fin HW.out HW0.out hX.out⟩
        · skip
          have hY := hX.out.addA (below_new wn11 (.cells #[.slice none 0 0, .slice none 0 0] 37)) (Nat.le_refl _) (heap_alloc_new _ _)
          go_simp
          generalize wn11.alloc (.cells #[.slice none 0 0, .slice none 0 0] 37) = wn14 at hY ⊢
          refine hK'.out _ _ trivial (fun hHeld => ?_)
          clear hK' K' hX
          have hX : Hid (RegW n l.length W0 wn14 (some wn10.heap.size) (some W0.heap.size) none (some wn11.heap.size)) := hY
          clear hY
          refine wpAnyH_ready (rs := [4]) (by kernel_rfl) (by simp) ?_
          refine AllReadyH.cons rfl (fun K' hK' => ?_) (AllReadyH.nil)
          · skip
            go_simp
            go_wp2_with (go_at_call 51; refine (Repeat_any wn14 _ l.length (hX.out.hb _ rfl).1 (by omega)).mono ?_; rintro r wn15 ⟨gr15, rfl, hge, hh9, hb9⟩)
            have hY := hX.out.addR hb9 hge hh9
            refine hK'.out _ _ trivial (fun hHeld => ?_)
            clear hK' K' hX
            have hX : Hid (RegW n l.length W0 wn15 (some wn10.heap.size) (some W0.heap.size) (some gr15) (some wn11.heap.size)) := hY
            clear hY
            refine take_at (i := 5) (n := 17) (v := ?_) rfl rfl (by kernel_rfl) (by kernel_rfl) (by kernel_rfl) (fun _ _ _ h => h) (Or.inl ⟨by rfl, ?_⟩) (by assumption) ?_
            rotate_left 1
            · intro wz hSw
              first | (go_simp; done) | (go_simp; with_reducible rfl)
            simp only [List.set_cons_zero, List.set_cons_succ]
            obtain ⟨ps, pf, pl⟩ := cells_of (l := [_, _]) (hX.out.ha _ rfl).1
            have p0 := ps 0 _ rfl
            have p1 := ps 1 _ rfl
            have pf0 := pf 0
            have pf1 := pf 1
            clear ps pf
            refine wpAnyH_ready (rs := [7]) (by kernel_rfl) (by simp) ?_
            refine AllReadyH.cons rfl (fun K' hK' => ?_) AllReadyH.nil
            go_simp
            refine hK'.out _ _ trivial (fun hHeld => ?_)
            clear hK' K'
            refine wpAnyH_done (by kernel_rfl) ?_ _
            refine NoPanic.normal ?_
            go_wp2_with fail
            go_meet
            case rel =>
              exact ⟨_, _, _, rfl, RegW.fin HW.out HW0.out hX.out⟩
      · skip
        go_simp
        go_wp2_with (go_at_call 51; refine (Repeat_any wn10 _ l.length (hX.out.hb _ rfl).1 (by omega)).mono ?_; rintro r wn16 ⟨gr16, rfl, hge, hh9, hb9⟩)
        have hY := hX.out.addR hb9 hge hh9
        refine hK'.out _ _ trivial (fun hHeld => ?_)
        clear hK' K' hX
        have hX : Hid (RegW n l.length W0 wn16 none (some W0.heap.size) (some gr16) none) := hY
        clear hY
        refine wpAnyH_ready (rs := [1, 6]) (by kernel_rfl) (by simp) ?_
        refine AllReadyH.cons rfl (fun K' hK' => ?_) (AllReadyH.cons rfl (fun K' hK' => ?_) (AllReadyH.nil))
        · skip
          obtain ⟨wn17, hmk, hb9, hh9⟩ := make_ex wn16 n (by omega)
          have hY := hX.out.addM hb9 (Nat.le_refl _) hh9
          go_simp
          refine hK'.out _ _ trivial (fun hHeld => ?_)
          clear hK' K' hX
          have hX : Hid (RegW n l.length W0 wn17 (some wn16.heap.size) (some W0.heap.size) (some gr16) none) := hY
          clear hY
          refine take_at (i := 5) (n := 17) (v := ?_) rfl rfl (by kernel_rfl) (by kernel_rfl) (by kernel_rfl) (fun _ _ _ h => h) (Or.inl ⟨by rfl, ?_⟩) (by assumption) ?_
          rotate_left 1
          · intro wz hSw
            first | (go_simp; done) | (go_simp; with_reducible rfl)
          simp only [List.set_cons_zero, List.set_cons_succ]
          refine wpAnyH_ready (rs := [6]) (by kernel_rfl) (by simp) ?_
          refine AllReadyH.cons rfl (fun K' hK' => ?_) (AllReadyH.nil)
          · skip
            have hY := hX.out.addA (below_new wn17 (.cells #[.slice none 0 0, .slice none 0 0] 37)) (Nat.le_refl _) (heap_alloc_new _ _)
            go_simp
            generalize wn17.alloc (.cells #[.slice none 0 0, .slice none 0 0] 37) = wn18 at hY ⊢
            refine hK'.out _ _ trivial (fun hHeld => ?_)
            clear hK' K' hX
            have hX : Hid (RegW n l.length W0 wn18 (some wn16.heap.size) (some W0.heap.size) (some gr16) (some wn17.heap.size)) := hY
            clear hY
            obtain ⟨ps, pf, pl⟩ := cells_of (l := [_, _]) (hX.out.ha _ rfl).1
            have p0 := ps 0 _ rfl
            have p1 := ps 1 _ rfl
            have pf0 := pf 0
            have pf1 := pf 1
            clear ps pf
            refine wpAnyH_ready (rs := [7]) (by kernel_rfl) (by simp) ?_
            refine AllReadyH.cons rfl (fun K' hK' => ?_) AllReadyH.nil
            go_simp
            refine hK'.out _ _ trivial (fun hHeld => ?_)
            clear hK' K'
            refine wpAnyH_done (by kernel_rfl) ?_ _
            refine NoPanic.normal ?_
            go_wp2_with fail
            go_meet
            case rel =>
              exact ⟨_, _, _, rfl, RegW.fin HW.out HW0.out hX.out⟩
        · skip
          have hY := hX.out.addA (below_new wn16 (.cells #[.slice none 0 0, .slice none 0 0] 37)) (Nat.le_refl _) (heap_alloc_new _ _)
          go_simp
          generalize wn16.alloc (.cells #[.slice none 0 0, .slice none 0 0] 37) = wn19 at hY ⊢
          refine hK'.out _ _ trivial (fun hHeld => ?_)
          clear hK' K' hX
          have hX : Hid (RegW n l.length W0 wn19 none (some W0.heap.size) (some gr16) (some wn16.heap.size)) := hY
          clear hY
          refine wpAnyH_ready (rs := [1]) (by kernel_rfl) (by simp) ?_
          refine AllReadyH.cons rfl (fun K' hK' => ?_) (AllReadyH.nil)
          · skip
            obtain ⟨wn20, hmk, hb9, hh9⟩ := make_ex wn19 n (by omega)
            have hY := hX.out.addM hb9 (Nat.le_refl _) hh9
            go_simp
            refine hK'.out _ _ trivial (fun hHeld => ?_)
            clear hK' K' hX
            have hX : Hid (RegW n l.length W0 wn20 (some wn19.heap.size) (some W0.heap.size) (some gr16) (some wn16.heap.size)) := hY
            clear hY
            refine take_at (i := 5) (n := 17) (v := ?_) rfl rfl (by kernel_rfl) (by kernel_rfl) (by kernel_rfl) (fun _ _ _ h => h) (Or.inl ⟨by rfl, ?_⟩) (by assumption) ?_
            rotate_left 1
            · intro wz hSw
              first | (go_simp; done) | (go_simp; with_reducible rfl)
            simp only [List.set_cons_zero, List.set_cons_succ]
            obtain ⟨ps, pf, pl⟩ := cells_of (l := [_, _]) (hX.out.ha _ rfl).1
            have p0 := ps 0 _ rfl
            have p1 := ps 1 _ rfl
            have pf0 := pf 0
            have pf1 := pf 1
            clear ps pf
            refine wpAnyH_ready (rs := [7]) (by kernel_rfl) (by simp) ?_
            refine AllReadyH.cons rfl (fun K' hK' => ?_) AllReadyH.nil
            go_simp
            refine hK'.out _ _ trivial (fun hHeld => ?_)
            clear hK' K'
            refine wpAnyH_done (by kernel_rfl) ?_ _
            refine NoPanic.normal ?_
            go_wp2_with fail
            go_meet
            case rel =>
              exact ⟨_, _, _, rfl, RegW.fin HW.out HW0.out hX.out⟩
      · skip
        have hY := hX.out.addA (below_new wn10 (.cells #[.slice none 0 0, .slice none 0 0] 37)) (Nat.le_refl _) (heap_alloc_new _ _)
        go_simp
        generalize wn10.alloc (.cells #[.slice none 0 0, .slice none 0 0] 37) = wn21 at hY ⊢
        refine hK'.out _ _ trivial (fun hHeld => ?_)
        clear hK' K' hX
        have hX : Hid (RegW n l.length W0 wn21 none (some W0.heap.size) none (some wn10.heap.size)) := hY
        clear hY
        refine wpAnyH_ready (rs := [1, 4]) (by kernel_rfl) (by simp) ?_
        refine AllReadyH.cons rfl (fun K' hK' => ?_) (AllReadyH.cons rfl (fun K' hK' => ?_) (AllReadyH.nil))
        · skip
          obtain ⟨wn22, hmk, hb9, hh9⟩ := make_ex wn21 n (by omega)
          have hY := hX.out.addM hb9 (Nat.le_refl _) hh9
          go_simp
          refine hK'.out _ _ trivial (fun hHeld => ?_)
          clear hK' K' hX
          have hX : Hid (RegW n l.length W0 wn22 (some wn21.heap.size) (some W0.heap.size) none (some wn10.heap.size)) := hY
          clear hY
          refine wpAnyH_ready (rs := [4]) (by kernel_rfl) (by simp) ?_
          refine AllReadyH.cons rfl (fun K' hK' => ?_) (AllReadyH.nil)
          · skip
            go_simp
            go_wp2_with (go_at_call 51; refine (Repeat_any wn22 _ l.length (hX.out.hb _ rfl).1 (by omega)).mono ?_; rintro r wn23 ⟨gr23, rfl, hge, hh9, hb9⟩)
            have hY := hX.out.addR hb9 hge hh9
            refine hK'.out _ _ trivial (fun hHeld => ?_)
            clear hK' K' hX
            have hX : Hid (RegW n l.length W0 wn23 (some wn21.heap.size) (some W0.heap.size) (some gr23) (some wn10.heap.size)) := hY
            clear hY
            refine take_at (i := 5) (n := 17) (v := ?_) rfl rfl (by kernel_rfl) (by kernel_rfl) (by kernel_rfl) (fun _ _ _ h => h) (Or.inl ⟨by rfl, ?_⟩) (by assumption) ?_
            rotate_left 1
            · intro wz hSw
              first | (go_simp; done) | (go_simp; with_reducible rfl)
            simp only [List.set_cons_zero, List.set_cons_succ]
            obtain ⟨ps, pf, pl⟩ := cells_of (l := [_, _]) (hX.out.ha _ rfl).1
            have p0 := ps 0 _ rfl
            have p1 := ps 1 _ rfl
            have pf0 := pf 0
            have pf1 := pf 1
            clear ps pf
            refine wpAnyH_ready (rs := [7]) (by kernel_rfl) (by simp) ?_
            refine AllReadyH.cons rfl (fun K' hK' => ?_) AllReadyH.nil
            go_simp
            refine hK'.out _ _ trivial (fun hHeld => ?_)
            clear hK' K'
            refine wpAnyH_done (by kernel_rfl) ?_ _
            refine NoPanic.normal ?_
            go_wp2_with fail
            go_meet
            case rel =>
              exact ⟨_, _, _, rfl, RegW.fin HW.out HW0.out hX.out⟩
        · skip
          go_simp
          go_wp2_with (go_at_call 51; refine (Repeat_any wn21 _ l.length (hX.out.hb _ rfl).1 (by omega)).mono ?_; rintro r wn24 ⟨gr24, rfl, hge, hh9, hb9⟩)
          have hY := hX.out.addR hb9 hge hh9
          refine hK'.out _ _ trivial (fun hHeld => ?_)
          clear hK' K' hX
          have hX : Hid (RegW n l.length W0 wn24 none (some W0.heap.size) (some gr24) (some wn10.heap.size)) := hY
          clear hY
          refine wpAnyH_ready (rs := [1]) (by kernel_rfl) (by simp) ?_
          refine AllReadyH.cons rfl (fun K' hK' => ?_) (AllReadyH.nil)
          · skip
            obtain ⟨wn25, hmk, hb9, hh9⟩ := make_ex wn24 n (by omega)
            have hY := hX.out.addM hb9 (Nat.le_refl _) hh9
            go_simp
            refine hK'.out _ _ trivial (fun hHeld => ?_)
            clear hK' K' hX
            have hX : Hid (RegW n l.length W0 wn25 (some wn24.heap.size) (some W0.heap.size) (some gr24) (some wn10.heap.size)) := hY
            clear hY
            refine take_at (i := 5) (n := 17) (v := ?_) rfl rfl (by kernel_rfl) (by kernel_rfl) (by kernel_rfl) (fun _ _ _ h => h) (Or.inl ⟨by rfl, ?_⟩) (by assumption) ?_
            rotate_left 1
            · intro wz hSw
              first | (go_simp; done) | (go_simp; with_reducible rfl)
            simp only [List.set_cons_zero, List.set_cons_succ]
            obtain ⟨ps, pf, pl⟩ := cells_of (l := [_, _]) (hX.out.ha _ rfl).1
            have p0 := ps 0 _ rfl
            have p1 := ps 1 _ rfl
            have pf0 := pf 0
            have pf1 := pf 1
            clear ps pf
            refine wpAnyH_ready (rs := [7]) (by kernel_rfl) (by simp) ?_
            refine AllReadyH.cons rfl (fun K' hK' => ?_) AllReadyH.nil
            go_simp
            refine hK'.out _ _ trivial (fun hHeld => ?_)
            clear hK' K'
            refine wpAnyH_done (by kernel_rfl) ?_ _
            refine NoPanic.normal ?_
            go_wp2_with fail
            go_meet
            case rel =>
              exact ⟨_, _, _, rfl, RegW.fin HW.out HW0.out hX.out⟩
    · skip
      have hY := hX.out.addA (below_new W0 (.cells #[.slice none 0 0, .slice none 0 0] 37)) (Nat.le_refl _) (heap_alloc_new _ _)
      go_simp
      generalize W0.alloc (.cells #[.slice none 0 0, .slice none 0 0] 37) = wn26 at hY ⊢
      refine hK'.out _ _ trivial (fun hHeld => ?_)
      clear hK' K' hX
      have hX : Hid (RegW n l.length W0 wn26 none none none (some W0.heap.size)) := hY
      clear hY
      refine wpAnyH_ready (rs := [1, 2]) (by kernel_rfl) (by simp) ?_
      refine AllReadyH.cons rfl (fun K' hK' => ?_) (AllReadyH.cons rfl (fun K' hK' => ?_) (AllReadyH.nil))
      · skip
        obtain ⟨wn27, hmk, hb9, hh9⟩ := make_ex wn26 n (by omega)
        have hY := hX.out.addM hb9 (Nat.le_refl _) hh9
        go_simp
        refine hK'.out _ _ trivial (fun hHeld => ?_)
        clear hK' K' hX
        have hX : Hid (RegW n l.length W0 wn27 (some wn26.heap.size) none none (some W0.heap.size)) := hY
        clear hY
        refine wpAnyH_ready (rs := [2]) (by kernel_rfl) (by simp) ?_
        refine AllReadyH.cons rfl (fun K' hK' => ?_) (AllReadyH.nil)
        · skip
          have hY := hX.out.addB (below_new wn27 (.cells #[.int .i64 (-1)] 3)) (Nat.le_refl _) (heap_alloc_new _ _)
          go_simp
          generalize wn27.alloc (.cells #[.int .i64 (-1)] 3) = wn28 at hY ⊢
          refine hK'.out _ _ trivial (fun hHeld => ?_)
          clear hK' K' hX
          have hX : Hid (RegW n l.length W0 wn28 (some wn26.heap.size) (some wn27.heap.size) none (some W0.heap.size)) := hY
          clear hY
          refine wpAnyH_ready (rs := [4]) (by kernel_rfl) (by simp) ?_
          refine AllReadyH.cons rfl (fun K' hK' => ?_) (AllReadyH.nil)
          · skip
            go_simp
            go_wp2_with (go_at_call 51; refine (Repeat_any wn28 _ l.length (hX.out.hb _ rfl).1 (by omega)).mono ?_; rintro r wn29 ⟨gr29, rfl, hge, hh9, hb9⟩)
            have hY := hX.out.addR hb9 hge hh9
            refine hK'.out _ _ trivial (fun hHeld => ?_)
            clear hK' K' hX
            have hX : Hid (RegW n l.length W0 wn29 (some wn26.heap.size) (some wn27.heap.size) (some gr29) (some W0.heap.size)) := hY
            clear hY
            refine take_at (i := 5) (n := 17) (v := ?_) rfl rfl (by kernel_rfl) (by kernel_rfl) (by kernel_rfl) (fun _ _ _ h => h) (Or.inl ⟨by rfl, ?_⟩) (by assumption) ?_
            rotate_left 1
            · intro wz hSw
              first | (go_simp; done) | (go_simp; with_reducible rfl)
            simp only [List.set_cons_zero, List.set_cons_succ]
            obtain ⟨ps, pf, pl⟩ := cells_of (l := [_, _]) (hX.out.ha _ rfl).1
            have p0 := ps 0 _ rfl
            have p1 := ps 1 _ rfl
            have pf0 := pf 0
            have pf1 := pf 1
            clear ps pf
            refine wpAnyH_ready (rs := [7]) (by kernel_rfl) (by simp) ?_
            refine AllReadyH.cons rfl (fun K' hK' => ?_) AllReadyH.nil
            go_simp
            refine hK'.out _ _ trivial (fun hHeld => ?_)
            clear hK' K'
            refine wpAnyH_done (by kernel_rfl) ?_ _
            refine NoPanic.normal ?_
            go_wp2_with fail
            go_meet
            case rel =>
              exact ⟨_, _, _, rfl, RegW.fin HW.out HW0.out hX.out⟩
      · skip
        have hY := hX.out.addB (below_new wn26 (.cells #[.int .i64 (-1)] 3)) (Nat.le_refl _) (heap_alloc_new _ _)
        go_simp
        generalize wn26.alloc (.cells #[.int .i64 (-1)] 3) = wn30 at hY ⊢
        refine hK'.out _ _ trivial (fun hHeld => ?_)
        clear hK' K' hX
        have hX : Hid (RegW n l.length W0 wn30 none (some wn26.heap.size) none (some W0.heap.size)) := hY
        clear hY
        refine wpAnyH_ready (rs := [1, 4]) (by kernel_rfl) (by simp) ?_
        refine AllReadyH.cons rfl (fun K' hK' => ?_) (AllReadyH.cons rfl (fun K' hK' => ?_) (AllReadyH.nil))
        · skip
          obtain ⟨wn31, hmk, hb9, hh9⟩ := make_ex wn30 n (by omega)
          have hY := hX.out.addM hb9 (Nat.le_refl _) hh9
          go_simp
          refine hK'.out _ _ trivial (fun hHeld => ?_)
          clear hK' K' hX
          have hX : Hid (RegW n l.length W0 wn31 (some wn30.heap.size) (some wn26.heap.size) none (some W0.heap.size)) := hY
          clear hY
          refine wpAnyH_ready (rs := [4]) (by kernel_rfl) (by simp) ?_
          refine AllReadyH.cons rfl (fun K' hK' => ?_) (AllReadyH.nil)
          · skip
            go_simp
            go_wp2_with (go_at_call 51; refine (Repeat_any wn31 _ l.length (hX.out.hb _ rfl).1 (by omega)).mono ?_; rintro r wn32 ⟨gr32, rfl, hge, hh9, hb9⟩)
            have hY := hX.out.addR hb9 hge hh9
            refine hK'.out _ _ trivial (fun hHeld => ?_)
            clear hK' K' hX
            have hX : Hid (RegW n l.length W0 wn32 (some wn30.heap.size) (some wn26.heap.size) (some gr32) (some W0.heap.size)) := hY
            clear hY
            refine take_at (i := 5) (n := 17) (v := ?_) rfl rfl (by kernel_rfl) (by kernel_rfl) (by kernel_rfl) (fun _ _ _ h => h) (Or.inl ⟨by rfl, ?_⟩) (by assumption) ?_
            rotate_left 1
            · intro wz hSw
              first | (go_simp; done) | (go_simp; with_reducible rfl)
            simp only [List.set_cons_zero, List.set_cons_succ]
            obtain ⟨ps, pf, pl⟩ := cells_of (l := [_, _]) (hX.out.ha _ rfl).1
            have p0 := ps 0 _ rfl
            have p1 := ps 1 _ rfl
            have pf0 := pf 0
            have pf1 := pf 1
            clear ps pf
            refine wpAnyH_ready (rs := [7]) (by kernel_rfl) (by simp) ?_
            refine AllReadyH.cons rfl (fun K' hK' => ?_) AllReadyH.nil
            go_simp
            refine hK'.out _ _ trivial (fun hHeld => ?_)
            clear hK' K'
            refine wpAnyH_done (by kernel_rfl) ?_ _
            refine NoPanic.normal ?_
            go_wp2_with fail
            go_meet
            case rel =>
              exact ⟨_, _, _, rfl, RegW.fin HW.out HW0.out hX.out⟩
        · skip
          go_simp
          go_wp2_with (go_at_call 51; refine (Repeat_any wn30 _ l.length (hX.out.hb _ rfl).1 (by omega)).mono ?_; rintro r wn33 ⟨gr33, rfl, hge, hh9, hb9⟩)
          have hY := hX.out.addR hb9 hge hh9
          refine hK'.out _ _ trivial (fun hHeld => ?_)
          clear hK' K' hX
          have hX : Hid (RegW n l.length W0 wn33 none (some wn26.heap.size) (some gr33) (some W0.heap.size)) := hY
          clear hY
          refine wpAnyH_ready (rs := [1]) (by kernel_rfl) (by simp) ?_
          refine AllReadyH.cons rfl (fun K' hK' => ?_) (AllReadyH.nil)
          · skip
            obtain ⟨wn34, hmk, hb9, hh9⟩ := make_ex wn33 n (by omega)
            have hY := hX.out.addM hb9 (Nat.le_refl _) hh9
            go_simp
            refine hK'.out _ _ trivial (fun hHeld => ?_)
            clear hK' K' hX
            have hX : Hid (RegW n l.length W0 wn34 (some wn33.heap.size) (some wn26.heap.size) (some gr33) (some W0.heap.size)) := hY
            clear hY
            refine take_at (i := 5) (n := 17) (v := ?_) rfl rfl (by kernel_rfl) (by kernel_rfl) (by kernel_rfl) (fun _ _ _ h => h) (Or.inl ⟨by rfl, ?_⟩) (by assumption) ?_
            rotate_left 1
            · intro wz hSw
              first | (go_simp; done) | (go_simp; with_reducible rfl)
            simp only [List.set_cons_zero, List.set_cons_succ]
            obtain ⟨ps, pf, pl⟩ := cells_of (l := [_, _]) (hX.out.ha _ rfl).1
            have p0 := ps 0 _ rfl
            have p1 := ps 1 _ rfl
            have pf0 := pf 0
            have pf1 := pf 1
            clear ps pf
            refine wpAnyH_ready (rs := [7]) (by kernel_rfl) (by simp) ?_
            refine AllReadyH.cons rfl (fun K' hK' => ?_) AllReadyH.nil
            go_simp
            refine hK'.out _ _ trivial (fun hHeld => ?_)
            clear hK' K'
            refine wpAnyH_done (by kernel_rfl) ?_ _
            refine NoPanic.normal ?_
            go_wp2_with fail
            go_meet
            case rel =>
              exact ⟨_, _, _, rfl, RegW.fin HW.out HW0.out hX.out⟩
  case rest =>
    obtain ⟨pb, rb, eb, rfl, hpw⟩ := hcut
    have HQ : Hid (Ranked l pol rk ∧ Coming l rk cm ∧ (∀ x ∈ l, okJ x)) := ⟨hr, hc, hok⟩
    have H0 : Hid (PlayL w B K Lf Rn Rd C wc l rk cm 0 [] (l.map (·.c)) jv tv cv W.heap.size pb rb eb n [] (List.replicate l.length (-1)) ∧ Core l rk cm 0 [] (l.map (·.c))) := ⟨hpw, core_start hr hc hok⟩
    clear hpw hcore hr hc hok
    go_wp2_with fail
    go_loopw [10, 19] (fun v8 i wr => ∃ (t : Nat) (s : St) (k1 : Nat) (th1 : List Nat) (tv1 cv1 : Value) (run : Int), t ≤ n ∧ i = .int .i64 t ∧ v8 = .int .i64 run ∧ PlayL w B K Lf Rn Rd C wr l rk cm k1 th1 s.left jv tv1 cv1 W.heap.size pb rb eb n s.runs s.ends ∧ Core l rk cm k1 th1 s.left ∧ (∀ p ∈ cm.take k1, (J l (RK rk p)).a ≤ (t : Int)) ∧ RunJ rk th1 s run ∧ Plays l pol pre t s) (fun _ i _ => n - (intOf i).toNat)
    case atStart =>
      refine ⟨0, St.init l, 0, [], tv, cv, -1, Nat.zero_le _, rfl, rfl, H0.out.1, H0.out.2, by simp, .inl ⟨?_, rfl⟩, rfl⟩
      intro h
      have := h.1
      simp [St.last, St.init] at this
    case round =>
      obtain ⟨t, s, k0, th0, tv0, cv0, run, ht, rfl, rfl, hpw, hco, hbd, hrun, hpl⟩ := hrel
      have hokt := plays_ok HQ.out.2.2 t s hpl
      by_cases hlt : t < n
      · have HR : Hid (PlayL w B K Lf Rn Rd C wr l rk cm k0 th0 s.left jv tv0 cv0 W.heap.size pb rb eb n s.runs s.ends ∧ Core l rk cm k0 th0 s.left ∧ (∀ p ∈ cm.take k0, (J l (RK rk p)).a ≤ (t : Int)) ∧ RunJ rk th0 s run ∧ Plays l pol pre t s ∧ Ok l t s) := ⟨hpw, hco, hbd, hrun, hpl, hokt⟩
        clear hpw hco hbd hrun hpl hokt
        go_upto_region 7 with (go_at_call 52; refine (Come_any w B K Lf Rn Rd C wr l pol rk cm k0 th0 s.left jv tv0 cv0 (t : Int) HR.out.1.line HR.out.2.1 HQ.out.1 HQ.out.2.1 hl HR.out.2.2.1).mono ?_; rintro r w1 ⟨⟨cb, rfl⟩, k1, th1, tv1, cv1, hcw, hco1, hnow, hmv, hsub⟩; have H1 : Hid (PlayL w B K Lf Rn Rd C w1 l rk cm k1 th1 s.left jv tv1 cv1 W.heap.size pb rb eb n s.runs s.ends ∧ Core l rk cm k1 th1 s.left ∧ Now l rk cm k1 (t : Int) ∧ (∀ x ∈ th0, x ∈ th1)) := ⟨HR.out.1.moved hcw hmv, hco1, hnow, hsub⟩; clear hcw hco1 hnow hmv hsub)
        go_cut [29] from 25 to 29 (fun v wc => v = .bool (pre || (run == -1)) ∧ wc = w1)
        case first =>
          cases pre with
          | true =>
            go_wp2_with fail
            go_meet
            case rel => exact ⟨by simp, rfl⟩
          | false =>
            go_wp2_with fail
            go_meet
            case rel => exact ⟨by simp, rfl⟩
        case rest =>
        obtain ⟨rfl, rfl⟩ := hcut
        have hcd : (pre || (run == -1)) = true ∨ (pre || (run == -1)) = false := by cases (pre || (run == -1)) <;> simp
        have Hcd : Hid (nextRun rk pre run th1 = if (pre || (run == -1)) = true then foreJ rk th1 else run) := by
          have e : nextRun rk pre run th1 = if (pre || (run == -1)) = true then foreJ rk th1 else run := by unfold nextRun; simp
          exact e
        generalize (pre || (run == -1)) = cd at *
        refine from_K (by assumption) _ _ ?_
        go_cut [10] from 30 to 31 (fun v wd => v = .int .i64 (nextRun rk pre run th1) ∧ ∃ q, wd = wc.drewN q)
        case first =>
          rcases hcd with rfl | rfl
          · go_wp2_with (go_at_call 53; refine (First_any w B K Lf Rn Rd C wc l pol rk cm k1 th1 s.left jv tv1 cv1 H1.out.1.line HQ.out.1 (fun p hp => H1.out.2.1.lt HQ.out.2.1 hp)).mono ?_; rintro r w2 ⟨rfl, q2, rfl⟩)
            go_meet
            case rel => exact ⟨by rw [Hcd.out]; rfl, q2, rfl⟩
          · go_wp2_with fail
            go_meet
            case rel => exact ⟨by rw [Hcd.out]; rfl, 0, rfl⟩
        case rest =>
          obtain ⟨rfl, q2, rfl⟩ := hcut
          clear hcd Hcd
          have hpk := pick_of (pre := pre) HQ.out.1 HQ.out.2.1 H1.out.2.1 H1.out.2.2.1 HR.out.2.2.2.1 H1.out.2.2.2
          have hrl := HR.out.2.2.2.2.2.runs
          have H1' : Hid (PlayL w B K Lf Rn Rd C (wc.drewN q2) l rk cm k1 th1 s.left jv tv1 cv1 W.heap.size pb rb eb n s.runs s.ends ∧ Core l rk cm k1 th1 s.left ∧ Now l rk cm k1 (t : Int) ∧ (∀ x ∈ th0, x ∈ th1)) := ⟨H1.out.1.drewN q2, H1.out.2⟩
          clear H1
          generalize wc.drewN q2 = wd at *
          obtain ⟨ps, pf, pl⟩ := cells_of (l := [_, _]) H1'.out.1.p
          have p0 := ps 0 _ rfl
          obtain ⟨rc, rf, rl⟩ := cells_of (l := runCells n s.runs) H1'.out.1.rv
          have r0 := rc t _ (List.getElem?_eq_getElem (by rw [runCells_len (by omega)]; exact hlt))
          have rf0 := rf t
          generalize (runCells n s.runs)[t]'(by rw [runCells_len (by omega)]; exact hlt) = rold at r0
          clear ps pf rc rf
          have hti : (t : Int) < (n : Int) := by omega
          rcases hpk with ⟨hnr, hpick⟩ | ⟨p, hnr, hpt, hpick⟩
          · rw [hnr]
            have HP : Hid (Pick l pol pre t s (-1)) := hpick
            have H2 := H1'.out.1.run (i := t) (v := -1) (runs' := s.runs ++ [-1]) (by rw [← hrl]; exact runCells_snoc (by omega))
            have H2' : Hid (PlayL w B K Lf Rn Rd C (wd.setCell ⟨rb, t, none⟩ (.int .i64 (-1))) l rk cm k1 th1 s.left jv tv1 cv1 W.heap.size pb rb eb n (s.runs ++ [-1]) s.ends) := H2
            clear H2 hpick hnr
            go_wp2_with fail
            refine ⟨⟨t + 1, s.after t (-1), k1, th1, tv1, cv1, -1, by omega, by simp, rfl, H2'.out, H1'.out.2.1, fun q hq => by have := H1'.out.2.2.1.come q hq; omega, .inl ⟨?_, rfl⟩, ⟨s, -1, HR.out.2.2.2.2.1, HP.out, rfl⟩⟩, by simp [intOf]; omega⟩
            intro h
            have := h.1
            rw [show s.after t (-1) = ⟨s.left, s.ends, s.runs ++ [-1]⟩ from rfl, last_snoc] at this
            omega
          · rw [hnr]
            have hpl : p < l.length := H1'.out.2.1.lt HQ.out.2.1 hpt
            have hqm : (((RK rk p : Nat) : Int) != -1) = true := by
              rw [bne_iff_ne]
              omega
            have HP : Hid (Pick l pol pre t s ((RK rk p : Nat) : Int) ∧ p ∈ th1) := ⟨hpick, hpt⟩
            have hrkl : RK rk p < l.length := HQ.out.1.lt hpl
            have H2 := H1'.out.1.run (i := t) (v := ((RK rk p : Nat) : Int)) (runs' := s.runs ++ [((RK rk p : Nat) : Int)]) (by rw [← hrl]; exact runCells_snoc (by omega))
            have HB : Hid (PlayL w B K Lf Rn Rd C (wd.setCell ⟨rb, t, none⟩ (.int .i64 ((RK rk p : Nat) : Int))) l rk cm k1 th1 s.left jv tv1 cv1 W.heap.size pb rb eb n (s.runs ++ [((RK rk p : Nat) : Int)]) s.ends) := H2
            clear H2 hpick hpt hnr
            obtain ⟨Lv, hLv⟩ : ∃ Lv, L s.left (RK rk p) = Lv := ⟨_, rfl⟩
            have hL0 : 0 < Lv := by rw [← hLv]; exact ((H1'.out.2.1.mem p).1 HP.out.2).2
            have hL1 : Lv ≤ 10000 := by rw [← hLv]; exact HR.out.2.2.2.2.2.small _
            have hll := HR.out.2.2.2.2.2.left
            have haft : s.after t ((RK rk p : Nat) : Int) = ⟨s.left.set (RK rk p) (Lv - 1), if Lv - 1 = 0 then s.ends.set (RK rk p) ((t : Int) + 1) else s.ends, s.runs ++ [((RK rk p : Nat) : Int)]⟩ := by
              unfold St.after
              rw [if_neg (by omega), Int.toNat_natCast, hLv]
            have hthl := H1'.out.2.1.len HQ.out.2.1
            have HC : Hid (L s.left (RK rk p) = Lv ∧ s.left.length = l.length ∧ RK rk p < l.length ∧ p < l.length ∧ th1.length ≤ l.length) := ⟨hLv, hll, hrkl, hpl, by omega⟩
            by_cases hz : Lv = 1
            · subst hz
              have HA : Hid (s.after t ((RK rk p : Nat) : Int) = ⟨s.left.set (RK rk p) 0, s.ends.set (RK rk p) ((t : Int) + 1), s.runs ++ [((RK rk p : Nat) : Int)]⟩) := by
                rw [if_pos (by decide)] at haft
                exact haft
              have hqi : ((RK rk p : Nat) : Int) < (l.length : Int) := by omega
              have hel := HR.out.2.2.2.2.2.ends
              have HEL : Hid (RK rk p < (s.ends.map (Value.int .i64)).length) := by
                have e : RK rk p < (s.ends.map (Value.int .i64)).length := by rw [List.length_map, hel]; exact hrkl
                exact e
              clear hLv hL0 hL1 hll haft hthl hel hrkl hpl
              go_upto_region 11 with (go_at_call 54; refine (Work_last w B K Lf Rn Rd C _ l pol rk cm k1 p th1 s.left jv tv1 cv1 HB.out.line HQ.out.1 HP.out.2 HC.out.2.2.2.1 HC.out.2.1 HC.out.1 H1'.out.2.1.asc (by have := HC.out.2.2.2.2; omega)).mono ?_; rintro r w6 ⟨rfl, tv6, hc6, hm6⟩; have H6 : Hid (PlayL w B K Lf Rn Rd C w6 l rk cm k1 (th1.take (th1.countP (· < p)) ++ th1.drop (th1.countP (· < p) + 1)) (s.left.set (RK rk p) 0) jv tv6 cv1 W.heap.size pb rb eb n (s.runs ++ [((RK rk p : Nat) : Int)]) s.ends) := HB.out.moved hc6 hm6; clear hc6 hm6)
              obtain ⟨ps, pf, pl⟩ := cells_of (l := [_, _]) H6.out.p
              have p1 := ps 1 _ rfl
              obtain ⟨ec, ef, el⟩ := cells_of (l := s.ends.map (Value.int .i64)) H6.out.ev
              have e0 := ec (RK rk p) _ (List.getElem?_eq_getElem HEL.out)
              have ef0 := ef (RK rk p)
              generalize (s.ends.map (Value.int .i64))[RK rk p]'HEL.out = eold at e0
              clear ps pf ec ef
              go_wp2_with fail
              refine ⟨⟨t + 1, ⟨s.left.set (RK rk p) 0, s.ends.set (RK rk p) ((t : Int) + 1), s.runs ++ [((RK rk p : Nat) : Int)]⟩, k1, _, tv6, cv1, -1, by omega, by simp, rfl, H6.out.done, H1'.out.2.1.leave HQ.out.1 HQ.out.2.1 HC.out.2.1 HP.out.2, fun q hq => by have := H1'.out.2.2.1.come q hq; omega, .inl ⟨?_, rfl⟩, ⟨s, _, HR.out.2.2.2.2.1, HP.out.1, HA.out.symm⟩⟩, by simp [intOf]; omega⟩
              rintro ⟨-, h2⟩
              rw [last_snoc, Int.toNat_natCast] at h2
              have h3 : 0 < L (s.left.set (RK rk p) 0) (RK rk p) := h2
              rw [L_set (by rw [HC.out.2.1]; exact HC.out.2.2.1), if_pos rfl] at h3
              omega
            · have HA : Hid (s.after t ((RK rk p : Nat) : Int) = ⟨s.left.set (RK rk p) (Lv - 1), s.ends, s.runs ++ [((RK rk p : Nat) : Int)]⟩) := by
                rw [if_neg (by omega)] at haft
                exact haft
              have HZ : Hid (1 < Lv ∧ Lv ≤ 10000) := by
                have e : 1 < Lv ∧ Lv ≤ 10000 := by omega
                exact e
              clear hLv hL0 hL1 hll haft hthl hrkl hpl hz
              go_wp2_with (go_at_call 54; refine (Work_on w B K Lf Rn Rd C _ l rk cm k1 (RK rk p) Lv th1 s.left jv tv1 cv1 HB.out.line HC.out.2.2.1 HC.out.2.1 HC.out.1 HZ.out.1 HZ.out.2).mono ?_; rintro r w6 ⟨rfl, hc6, hm6⟩; have H6 : Hid (PlayL w B K Lf Rn Rd C w6 l rk cm k1 th1 (s.left.set (RK rk p) (Lv - 1)) jv tv1 cv1 W.heap.size pb rb eb n (s.runs ++ [((RK rk p : Nat) : Int)]) s.ends) := HB.out.moved hc6 hm6; clear hc6 hm6)
              refine ⟨⟨t + 1, ⟨s.left.set (RK rk p) (Lv - 1), s.ends, s.runs ++ [((RK rk p : Nat) : Int)]⟩, k1, th1, tv1, cv1, ((RK rk p : Nat) : Int), by omega, by simp, rfl, H6.out, H1'.out.2.1.tick HQ.out.1 HQ.out.2.1 HC.out.2.1 HP.out.2 (by have := HZ.out.1; omega), fun q hq => by have := H1'.out.2.2.1.come q hq; omega, .inr ⟨⟨?_, ?_⟩, p, rfl, HP.out.2, last_snoc _ _ _ _⟩, ⟨s, _, HR.out.2.2.2.2.1, HP.out.1, HA.out.symm⟩⟩, by simp [intOf]; omega⟩
              · rw [last_snoc]; omega
              · rw [last_snoc, Int.toNat_natCast]
                show 0 < L (s.left.set (RK rk p) (Lv - 1)) (RK rk p)
                rw [L_set (by rw [HC.out.2.1]; exact HC.out.2.2.1), if_pos rfl]
                have := HZ.out.1
                omega
      · have hte : t = n := by omega
        subst hte
        have HE : Hid (PlayL w B K Lf Rn Rd C wr l rk cm k0 th0 s.left jv tv0 cv0 W.heap.size pb rb eb t s.runs s.ends ∧ Plays l pol pre t s ∧ Ok l t s) := ⟨hpw, hpl, hokt⟩
        obtain ⟨ps, pf, pl⟩ := cells_of (l := [_, _]) hpw.p
        have p0 := ps 0 _ rfl
        have p1 := ps 1 _ rfl
        obtain ⟨qs, qf, ql⟩ := cells_of (l := [_, _]) hpw.res
        have q0 := qs 0 _ rfl
        have q1 := qs 1 _ rfl
        have qf0 := qf 0
        have qf1 := qf 1
        clear ps pf qs qf hpw hpl hokt hco hbd hrun
        go_wp2_with fail
        refine bodyPost_ret (play_ends (g := W.heap.size) (c := .slice (some ⟨rb, 0, none⟩) t t) (k := .slice (some ⟨eb, 0, none⟩) l.length l.length) (by rw [setCell_at (setCell_at HE.out.1.res)]; rfl) rfl) rfl ?_
        obtain ⟨d1, d2, d3, d4, d5, d6⟩ := HE.out.1.ds
        obtain ⟨b1, b2, b3, b4⟩ := HE.out.1.bs
        have hbs := HE.out.1.base
        refine ⟨s, rb, eb, HE.out.2.1, rfl, ?_, ?_, d6, by omega, by omega, (HE.out.1.line.bel.setCell (show w.heap.size ≤ W.heap.size by omega) _).setCell (show w.heap.size ≤ W.heap.size by omega) _⟩
        · rw [Below.heap_setCell _ _ _ _ (Ne.symm d2), Below.heap_setCell _ _ _ _ (Ne.symm d2), HE.out.1.rv, ← HE.out.2.2.runs, runCells_full]
        · rw [Below.heap_setCell _ _ _ _ (Ne.symm d3), Below.heap_setCell _ _ _ _ (Ne.symm d3), HE.out.1.ev]
end Go.Proofs.Ytkafihaajpifoaf.S8
