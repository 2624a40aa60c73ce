import Derived.Test.YthhkmgafacmjpagPV
namespace Go.Proofs.Ythhkmgafacmjpag
open Go.ChangeShapes Go.WideShapes Go.ChangeAt Go.RowKit Go.Sort

theorem CoreW.below {B K R C : Nat} {W W' : World} {l : List Jb} {rk cm : List Nat} {k : Nat} {th : List Nat} {left : List Int} {tv cv : Value} (h : CoreW B K R C W l rk cm k th left tv cv) (hb : Below W.heap.size W W') : CoreW B K R C W' l rk cm k th left tv cv := by
  have lK := h.lK
  have lR := h.lR
  have lC := h.lC
  have bs := h.bs
  have sz := hb.size
  exact ⟨(hb.block K (by omega)).trans h.core, (hb.block R (by omega)).trans h.ranked, (hb.block C (by omega)).trans h.comes, h.there.same (fun g e => hb.block g (h.there.low e).2), lK, lR, lC, h.dR, h.dC, h.dRC, by omega, h.cval⟩

/-- What play makes ahead of its first tick, in any order. -/
structure RegW (n N : Nat) (W0 W : World) (m b r a : Option Nat) : Prop where
  bel : Below W0.heap.size W0 W
  hm : ∀ g, m = some g → W.heap[g]? = some (.cells (repCells n 0).toArray 3 (0, 0)) ∧ W0.heap.size ≤ g
  hb : ∀ g, b = some g → W.heap[g]? = some (.cells #[.int .i64 (-1)] 3 (0, 0)) ∧ W0.heap.size ≤ g
  hr : ∀ g, r = some g → W.heap[g]? = some (.cells (List.replicate N (Value.int .i64 (-1))).toArray 3 (0, 0)) ∧ W0.heap.size ≤ g
  ha : ∀ g, a = some g → W.heap[g]? = some (.cells #[.slice none 0 0, .slice none 0 0] 34 (0, 0)) ∧ W0.heap.size ≤ g
  dma : ∀ g h, m = some g → a = some h → g ≠ h
  dmr : ∀ g h, m = some g → r = some h → g ≠ h
  dra : ∀ g h, r = some g → a = some h → g ≠ h

section

variable {n N : Nat} {W0 W W' : World} {m b r a : Option Nat}

theorem lt_of_heap {W : World} {g : Nat} {o : Obj} (h : W.heap[g]? = some o) : g < W.heap.size := (Array.getElem?_eq_some_iff.1 h).1

theorem RegW.start (n N : Nat) (W0 : World) : RegW n N W0 W0 none none none none := ⟨Below.refl _ _, nofun, nofun, nofun, nofun, nofun, nofun, nofun⟩

theorem RegW.grow (h : RegW n N W0 W m b r a) (hb : Below W.heap.size W W') : RegW n N W0 W' m b r a :=
  ⟨below_seq h.bel hb, fun g e => ⟨(hb.block g (lt_of_heap (h.hm g e).1)).trans (h.hm g e).1, (h.hm g e).2⟩, fun g e => ⟨(hb.block g (lt_of_heap (h.hb g e).1)).trans (h.hb g e).1, (h.hb g e).2⟩, fun g e => ⟨(hb.block g (lt_of_heap (h.hr g e).1)).trans (h.hr g e).1, (h.hr g e).2⟩, fun g e => ⟨(hb.block g (lt_of_heap (h.ha g e).1)).trans (h.ha g e).1, (h.ha g e).2⟩, h.dma, h.dmr, h.dra⟩

theorem RegW.addM (h : RegW n N W0 W none b r a) (hb : Below W.heap.size W W') {g : Nat} (hg : W.heap.size ≤ g) (hh : W'.heap[g]? = some (.cells (repCells n 0).toArray 3 (0, 0))) : RegW n N W0 W' (some g) b r a := by
  have h' := h.grow hb
  have hs := h.bel.size
  exact ⟨h'.bel, fun q e => by cases e; exact ⟨hh, by omega⟩, h'.hb, h'.hr, h'.ha, fun q x e e' => by cases e; have := lt_of_heap (h.ha x e').1; omega, fun q x e e' => by cases e; have := lt_of_heap (h.hr x e').1; omega, h'.dra⟩

theorem RegW.addB (h : RegW n N W0 W m none r a) (hb : Below W.heap.size W W') {g : Nat} (hg : W.heap.size ≤ g) (hh : W'.heap[g]? = some (.cells #[.int .i64 (-1)] 3 (0, 0))) : RegW n N W0 W' m (some g) r a := by
  have h' := h.grow hb
  have hs := h.bel.size
  exact ⟨h'.bel, h'.hm, fun q e => by cases e; exact ⟨hh, by omega⟩, h'.hr, h'.ha, h'.dma, h'.dmr, h'.dra⟩

theorem RegW.addR (h : RegW n N W0 W m b none a) (hb : Below W.heap.size W W') {g : Nat} (hg : W.heap.size ≤ g) (hh : W'.heap[g]? = some (.cells (List.replicate N (Value.int .i64 (-1))).toArray 3 (0, 0))) : RegW n N W0 W' m b (some g) a := by
  have h' := h.grow hb
  have hs := h.bel.size
  exact ⟨h'.bel, h'.hm, h'.hb, fun q e => by cases e; exact ⟨hh, by omega⟩, h'.ha, h'.dma, fun q x e e' => by cases e'; have := lt_of_heap (h.hm q e).1; omega, fun q x e e' => by cases e; have := lt_of_heap (h.ha x e').1; omega⟩

theorem RegW.addA (h : RegW n N W0 W m b r none) (hb : Below W.heap.size W W') {g : Nat} (hg : W.heap.size ≤ g) (hh : W'.heap[g]? = some (.cells #[.slice none 0 0, .slice none 0 0] 34 (0, 0))) : RegW n N W0 W' m b r (some g) := by
  have h' := h.grow hb
  have hs := h.bel.size
  exact ⟨h'.bel, h'.hm, h'.hb, h'.hr, fun q e => by cases e; exact ⟨hh, by omega⟩, fun q x e e' => by cases e'; have := lt_of_heap (h.hm q e).1; omega, h'.dmr, fun q x e e' => by cases e'; have := lt_of_heap (h.hr q e).1; omega⟩

end

theorem RegW.fin {w W W0 Wz : World} {B K R C : Nat} {l : List Jb} {rk cm : List Nat} {tv cv : Value} {n m b r a : Nat} (hc : CoreW B K R C W l rk cm 0 [] (l.map (·.c)) tv cv) (hbel : Below w.heap.size w W) (lK : w.heap.size ≤ K) (lR : w.heap.size ≤ R) (lC : w.heap.size ≤ C) (hW0 : (W.alloc (.cells #[.slice none 0 0, .slice none 0 0] 34)).drew = W0) (h : RegW n l.length W0 Wz (some m) (some b) (some r) (some a)) :
    PlayW w B K R C ((Wz.setCell ⟨a, 0, none⟩ (.slice (some ⟨m, 0, none⟩) n n)).setCell ⟨a, 1, none⟩ (.slice (some ⟨r, 0, none⟩) l.length l.length)) l rk cm 0 [] (l.map (·.c)) tv cv W.heap.size a m r n [] (List.replicate l.length (-1)) := by
  subst hW0
  have hs0 : (W.alloc (.cells #[.slice none 0 0, .slice none 0 0] 34)).drew.heap.size = W.heap.size + 1 := by simp
  obtain ⟨m1, m2⟩ := h.hm m rfl
  obtain ⟨r1, r2⟩ := h.hr r rfl
  obtain ⟨a1, a2⟩ := h.ha a rfl
  rw [hs0] at m2 r2 a2
  have dma := h.dma m a rfl rfl
  have dmr := h.dmr m r rfl rfl
  have dra := h.dra r a rfl rfl
  have hbW : Below W.heap.size W Wz := (below_new W _).trans ((Below.refl _ _).drew.trans (h.bel.mono (by omega)))
  have hbZ : Below W.heap.size W ((Wz.setCell ⟨a, 0, none⟩ (.slice (some ⟨m, 0, none⟩) n n)).setCell ⟨a, 1, none⟩ (.slice (some ⟨r, 0, none⟩) l.length l.length)) := (hbW.setCell (show W.heap.size ≤ a by omega) _).setCell (show W.heap.size ≤ a by omega) _
  have hrs : Wz.heap[W.heap.size]? = some (.cells #[.slice none 0 0, .slice none 0 0] 34 (0, 0)) := (h.bel.block W.heap.size (by omega)).trans (heap_alloc_new _ _)
  have keep : ∀ q, q ≠ a → ((Wz.setCell ⟨a, 0, none⟩ (.slice (some ⟨m, 0, none⟩) n n)).setCell ⟨a, 1, none⟩ (.slice (some ⟨r, 0, none⟩) l.length l.length)).heap[q]? = Wz.heap[q]? := fun q hq => by
    rw [Below.heap_setCell _ _ _ _ hq, Below.heap_setCell _ _ _ _ hq]
  have bs := hc.bs
  have ow : ∀ q, W.heap.size ≤ q → tv.ownBlock ≠ some q := fun q hq e => by have := (hc.there.low e).2; omega
  have hlw := hbel.size
  refine ⟨hc.below hbZ, hbel.trans (hbZ.mono hlw), lK, lR, lC, (keep _ (by omega)).trans hrs, ?_, (keep _ dma).trans ?_, (keep _ dra).trans ?_, ⟨by omega, by omega, by omega, by omega⟩, ⟨by omega, by omega, by omega, Ne.symm dma, Ne.symm dra, dmr⟩, ow _ (Nat.le_refl _), ow _ (by omega), ow _ (by omega), ow _ (by omega)⟩
  · rw [setCell_at (setCell_at a1)]; rfl
  · rw [m1]; rfl
  · rw [r1]; simp

theorem make_ex (W : World) (n : Nat) (hn : n ≤ 1000000) : ∃ W', (Instr.makeSlice 23 (.int .i64 (n : Int)) (.int .i64 (n : Int))).run Try.prog W = .ok (.slice (some ⟨W.heap.size, 0, none⟩) n n) W' ∧ Below W.heap.size W W' ∧ W'.heap[W.heap.size]? = some (.cells (repCells n 0).toArray 3 (0, 0)) :=
  ⟨_, make_row W n W.heap.size hn rfl, below_new _ _, by rw [heap_alloc_new]; simp [repCells]⟩

theorem core_start {l : List Jb} {pol : Int} {rk cm : List Nat} (hr : Ranked l pol rk) (hc : Coming l rk cm) (hok : ∀ x ∈ l, okJ x) : Core l rk cm 0 [] (l.map (·.c)) := by
  refine ⟨Nat.zero_le _, List.Pairwise.nil, fun p => by simp, fun p hp => ?_⟩
  have hp' : p < l.length := hc.mem.1 (by simpa using hp)
  have hn := hr.lt hp'
  unfold L
  rw [List.getD_eq_getElem?_getD, List.getElem?_map, List.getElem?_eq_getElem hn]
  have := hok _ (List.getElem_mem hn)
  unfold okJ at this
  simp
  omega

theorem play_ends {w : World} {g : Nat} {c k : Value} {a : Act} (h : w.heap[g]? = some (.cells #[c, k] 34 (0, 0))) (h3 : a.tmps[6]?.getD undef = .pointer (some ⟨g, 0, none⟩)) :
    (results Try.f20 a.tmps).run Try.prog w = .ok (.agg #[c, k]) w := by
  obtain ⟨c1, f1, l1⟩ := cells_of (l := [_, _]) h
  have c10 := c1 0 _ rfl
  have c11 := c1 1 _ rfl
  simp [results, Try.results20, go_sem, h3, c10, c11]

theorem from_K {P : Program} {c : Code} {q : Exit → Act → World → Prop} {K : Act → World → Prop} (h : ∀ a w, Code.wp P c q a w → K a w) (a : Act) (w : World) (g : Code.wp P c q a w) : K a w := h a w g

/-- Who runs next. -/
def nextRun (pre : Bool) (run : Int) (th : List Nat) : Int := if pre = true ∨ run = -1 then fore th else run

theorem pick_of {l : List Jb} {pol : Int} {rk cm : List Nat} {k : Nat} {th th0 : List Nat} {s : St} {t : Nat} {run : Int} {pre : Bool} (hr : Ranked l pol rk) (hc : Coming l rk cm) (hco : Core l rk cm k th s.left) (hn : Now l rk cm k (t : Int)) (hrun : RunAt rk th0 s run) (hsub : ∀ x ∈ th0, x ∈ th) :
    (nextRun pre run th = -1 ∧ Pick l pol pre t s (-1)) ∨ (∃ p : Nat, nextRun pre run th = (p : Int) ∧ p ∈ th ∧ Pick l pol pre t s ((RK rk p : Nat) : Int)) := by
  by_cases hcond : pre = true ∨ run = -1
  · have hnot : ¬ (pre = false ∧ s.on) := by
      rintro ⟨h1, h2⟩
      rcases hcond with h | h
      · rw [h1] at h; cases h
      · rcases hrun with ⟨h3, -⟩ | ⟨-, p, h3, -⟩
        · exact h3 h2
        · omega
    unfold nextRun
    rw [if_pos hcond]
    cases th with
    | nil => exact .inl ⟨rfl, .inr ⟨hnot, hco.best_none hr hc hn⟩⟩
    | cons p r => exact .inr ⟨p, rfl, List.mem_cons_self, .inr ⟨hnot, hco.best_some hr hc hn⟩⟩
  · unfold nextRun
    rw [if_neg hcond]
    rcases hrun with ⟨-, h3⟩ | ⟨hon, p, h3, h4, h5⟩
    · exact absurd (.inr h3) hcond
    · refine .inr ⟨p, h3, hsub p h4, .inl ⟨?_, hon, h5.symm⟩⟩
      cases pre with
      | true => exact absurd (.inl rfl) hcond
      | false => rfl

set_option maxRecDepth 20000 in
set_option maxHeartbeats 2000000 in
theorem play_any (w W : World) (B K R C : Nat) (l : List Jb) (pol : Int) (rk cm : List Nat) (tv cv : Value) (pre : Bool) (n : Nat) (hcore : CoreW B K R C W l rk cm 0 [] (l.map (·.c)) tv cv) (hbel : Below w.heap.size w W) (lK : w.heap.size ≤ K) (lR : w.heap.size ≤ R) (lC : w.heap.size ≤ C) (hr : Ranked l pol rk) (hc : Coming l rk cm) (hl : l.length ≤ 4000) (hok : ∀ x ∈ l, okJ x) (hn : n ≤ 20000) :
    Calls Try.prog 20 #[.pointer (some ⟨K, 0, none⟩), .bool pre, .int .i64 (n : Int)] W fun r W' => ∃ s rb eb, Plays l pol pre n s ∧ r = .returned (.agg #[.slice (some ⟨rb, 0, none⟩) n n, .slice (some ⟨eb, 0, none⟩) l.length l.length]) ∧ W'.heap[rb]? = some (.cells (s.runs.map (Value.int .i64)).toArray 3 (0, 0)) ∧ W'.heap[eb]? = some (.cells (s.ends.map (Value.int .i64)).toArray 3 (0, 0)) ∧ rb ≠ eb ∧ w.heap.size ≤ rb ∧ w.heap.size ≤ eb ∧ Below w.heap.size w W' := by
  go_enter Try.func20, Try.ntmps20
  go_upto_region 1 with fail
  go_cut [7] from 11 to 20 (fun v wc => ∃ pb rb eb, v = .pointer (some ⟨pb, 0, none⟩) ∧ PlayW w B K R C wc l rk cm 0 [] (l.map (·.c)) tv cv W.heap.size pb rb eb n [] (List.replicate l.length (-1)))
  case first =>
    have HW : Hid (CoreW B K R C W l rk cm 0 [] (l.map (·.c)) tv cv ∧ Below w.heap.size w W ∧ w.heap.size ≤ K ∧ w.heap.size ≤ R ∧ w.heap.size ≤ C) := ⟨hcore, hbel, lK, lR, lC⟩
    have hKW : K < W.heap.size := by have := hcore.lK; have := hcore.bs; omega
    have hS00 : ∀ w', Below (W.alloc (.cells #[.slice none 0 0, .slice none 0 0] 34)).drew.heap.size (W.alloc (.cells #[.slice none 0 0, .slice none 0 0] 34)).drew w' → w'.cell? ⟨K, 0, none⟩ = some (.slice (some ⟨R, 0, none⟩) l.length l.length) := fun w' hb' => below_cell hb' (below_cell (below_new _ _) ((cells_of (l := [_, _, _]) hcore.core).1 0 _ rfl))
    have HS : Hid (∀ w', Below (W.alloc (.cells #[.slice none 0 0, .slice none 0 0] 34)).drew.heap.size (W.alloc (.cells #[.slice none 0 0, .slice none 0 0] 34)).drew w' → w'.cell? ⟨K, 0, none⟩ = some (.slice (some ⟨R, 0, none⟩) l.length l.length)) := hS00
    clear hS00 hcore hbel lK lR lC
    have hS0 := HS.out _ (Below.refl _ _)
    have hX : Hid (RegW n l.length (W.alloc (.cells #[.slice none 0 0, .slice none 0 0] 34)).drew (W.alloc (.cells #[.slice none 0 0, .slice none 0 0] 34)).drew none none none none) := RegW.start _ _ _
    refine wp_region_noPanic ?_
    refine wp_region_held_drew (S := fun w' => w'.cell? ⟨K, 0, none⟩ = some (.slice (some ⟨R, 0, none⟩) l.length l.length)) (by kernel_rfl) hS0 (fun hHeld => ?_)
    refine take_at (i := 0) (n := 11) (v := ?_) rfl rfl (by kernel_rfl) (by kernel_rfl) (by kernel_rfl) (fun _ _ _ h => h) (Or.inl ⟨by rfl, ?_⟩) (by assumption) ?_
    rotate_left 1
    · intro wz hSw
      first | (go_simp; done) | (go_simp; with_reducible rfl)
    simp only [List.set_cons_zero, List.set_cons_succ]
    refine take_at (i := 3) (n := 14) (v := ?_) rfl rfl (by kernel_rfl) (by kernel_rfl) (by kernel_rfl) (fun _ _ _ h => h) (Or.inl ⟨by rfl, ?_⟩) (by assumption) ?_
    rotate_left 1
    · intro wz hSw
      first | (go_simp; done) | (go_simp; with_reducible rfl)
    simp only [List.set_cons_zero, List.set_cons_succ]
    refine take_at (i := 4) (n := 15) (v := ?_) rfl rfl (by kernel_rfl) (by kernel_rfl) (by kernel_rfl) (fun _ _ _ h => h) (Or.inl ⟨by rfl, ?_⟩) (by assumption) ?_
    rotate_left 1
    · intro wz hSw
      first | (go_simp; done) | (go_simp; with_reducible rfl)
    simp only [List.set_cons_zero, List.set_cons_succ]
    refine take_at (i := 5) (n := 16) (v := ?_) rfl rfl (by kernel_rfl) (by kernel_rfl) (by kernel_rfl) (fun _ _ _ h => h) (Or.inl ⟨by rfl, ?_⟩) (by assumption) ?_
    rotate_left 1
    · intro wz hSw
      first | (go_simp; done) | (go_simp; with_reducible rfl)
    simp only [List.set_cons_zero, List.set_cons_succ]
    refine take_at (i := 6) (n := 17) (v := ?_) rfl rfl (by kernel_rfl) (by kernel_rfl) (by kernel_rfl) (fun _ _ _ h => h) (Or.inl ⟨by rfl, ?_⟩) (by assumption) ?_
    rotate_left 1
    · intro wz hSw
      first | (go_simp; done) | (go_simp; with_reducible rfl)
    simp only [List.set_cons_zero, List.set_cons_succ]
    refine take_at (i := 7) (n := 18) (v := ?_) rfl rfl (by kernel_rfl) (by kernel_rfl) (by kernel_rfl) (fun _ _ _ h => h) (Or.inl ⟨by rfl, ?_⟩) (by assumption) ?_
    rotate_left 1
    · intro wz hSw
      first | (go_simp; done) | (go_simp; with_reducible rfl)
    simp only [List.set_cons_zero, List.set_cons_succ]
    generalize hW0 : (W.alloc (.cells #[.slice none 0 0, .slice none 0 0] 34)).drew = W0 at *
    have HW0 : Hid ((W.alloc (.cells #[.slice none 0 0, .slice none 0 0] 34)).drew = W0) := hW0
    clear hW0
    refine wpAnyH_ready (rs := [1, 2, 10]) (by kernel_rfl) (by simp) ?_
    refine AllReadyH.cons rfl (fun K' hK' => ?_) (AllReadyH.cons rfl (fun K' hK' => ?_) (AllReadyH.cons rfl (fun K' hK' => ?_) (AllReadyH.nil)))
    · skip
      obtain ⟨wn1, hmk, hb9, hh9⟩ := make_ex W0 n (by omega)
      have hY := hX.out.addM hb9 (Nat.le_refl _) hh9
      go_simp
      refine hK'.out _ _ (HS.out _ hY.bel) (fun hHeld => ?_)
      clear hK' K' hX
      have hSn := HS.out _ hY.bel
      have hX : Hid (RegW n l.length W0 wn1 (some W0.heap.size) none none none) := hY
      clear hY
      refine wpAnyH_ready (rs := [2, 10]) (by kernel_rfl) (by simp) ?_
      refine AllReadyH.cons rfl (fun K' hK' => ?_) (AllReadyH.cons rfl (fun K' hK' => ?_) (AllReadyH.nil))
      · skip
        have hY := hX.out.addB (below_new wn1 (.cells #[.int .i64 (-1)] 3)) (Nat.le_refl _) (heap_alloc_new _ _)
        go_simp
        generalize wn1.alloc (.cells #[.int .i64 (-1)] 3) = wn2 at hY ⊢
        refine hK'.out _ _ (HS.out _ hY.bel) (fun hHeld => ?_)
        clear hK' K' hX
        have hSn := HS.out _ hY.bel
        have hX : Hid (RegW n l.length W0 wn2 (some W0.heap.size) (some wn1.heap.size) none none) := hY
        clear hY
        refine wpAnyH_ready (rs := [8, 10]) (by kernel_rfl) (by simp) ?_
        refine AllReadyH.cons rfl (fun K' hK' => ?_) (AllReadyH.cons rfl (fun K' hK' => ?_) (AllReadyH.nil))
        · skip
          go_simp
          go_wp2_with (go_at_call 31; refine (Repeat_any wn2 _ l.length (hX.out.hb _ rfl).1 (by omega)).mono ?_; rintro r wn3 ⟨gr3, rfl, hge, hh9, hb9⟩)
          have hY := hX.out.addR hb9 hge hh9
          refine hK'.out _ _ (HS.out _ hY.bel) (fun hHeld => ?_)
          clear hK' K' hX
          have hSn := HS.out _ hY.bel
          have hX : Hid (RegW n l.length W0 wn3 (some W0.heap.size) (some wn1.heap.size) (some gr3) none) := hY
          clear hY
          refine take_at (i := 9) (n := 20) (v := ?_) rfl rfl (by kernel_rfl) (by kernel_rfl) (by kernel_rfl) (fun _ _ _ h => h) (Or.inl ⟨by rfl, ?_⟩) (by assumption) ?_
          rotate_left 1
          · intro wz hSw
            first | (go_simp; done) | (go_simp; with_reducible rfl)
          simp only [List.set_cons_zero, List.set_cons_succ]
          refine wpAnyH_ready (rs := [10]) (by kernel_rfl) (by simp) ?_
          refine AllReadyH.cons rfl (fun K' hK' => ?_) (AllReadyH.nil)
          · skip
            have hY := hX.out.addA (below_new wn3 (.cells #[.slice none 0 0, .slice none 0 0] 34)) (Nat.le_refl _) (heap_alloc_new _ _)
            go_simp
            generalize wn3.alloc (.cells #[.slice none 0 0, .slice none 0 0] 34) = wn4 at hY ⊢
            refine hK'.out _ _ (HS.out _ hY.bel) (fun hHeld => ?_)
            clear hK' K' hX
            have hSn := HS.out _ hY.bel
            have hX : Hid (RegW n l.length W0 wn4 (some W0.heap.size) (some wn1.heap.size) (some gr3) (some wn3.heap.size)) := hY
            clear hY
            obtain ⟨ps, pf, pl⟩ := cells_of (l := [_, _]) (hX.out.ha _ rfl).1
            have p0 := ps 0 _ rfl
            have p1 := ps 1 _ rfl
            have pf0 := pf 0
            have pf1 := pf 1
            clear ps pf
            refine wpAnyH_ready (rs := [11]) (by kernel_rfl) (by simp) ?_
            refine AllReadyH.cons rfl (fun K' hK' => ?_) AllReadyH.nil
            go_simp
            refine hK'.out _ _ (HS.out _ ((hX.out.bel.setCell (hX.out.ha _ rfl).2 _).setCell (hX.out.ha _ rfl).2 _)) (fun hHeld => ?_)
            clear hK' K'
            refine wpAnyH_done (by kernel_rfl) ?_ _
            refine NoPanic.normal ?_
            go_wp2_with fail
            go_meet
            case rel =>
              exact ⟨_, _, _, rfl, RegW.fin HW.out.1 HW.out.2.1 HW.out.2.2.1 HW.out.2.2.2.1 HW.out.2.2.2.2 HW0.out hX.out⟩
        · skip
          have hY := hX.out.addA (below_new wn2 (.cells #[.slice none 0 0, .slice none 0 0] 34)) (Nat.le_refl _) (heap_alloc_new _ _)
          go_simp
          generalize wn2.alloc (.cells #[.slice none 0 0, .slice none 0 0] 34) = wn5 at hY ⊢
          refine hK'.out _ _ (HS.out _ hY.bel) (fun hHeld => ?_)
          clear hK' K' hX
          have hSn := HS.out _ hY.bel
          have hX : Hid (RegW n l.length W0 wn5 (some W0.heap.size) (some wn1.heap.size) none (some wn2.heap.size)) := hY
          clear hY
          refine wpAnyH_ready (rs := [8]) (by kernel_rfl) (by simp) ?_
          refine AllReadyH.cons rfl (fun K' hK' => ?_) (AllReadyH.nil)
          · skip
            go_simp
            go_wp2_with (go_at_call 31; refine (Repeat_any wn5 _ l.length (hX.out.hb _ rfl).1 (by omega)).mono ?_; rintro r wn6 ⟨gr6, rfl, hge, hh9, hb9⟩)
            have hY := hX.out.addR hb9 hge hh9
            refine hK'.out _ _ (HS.out _ hY.bel) (fun hHeld => ?_)
            clear hK' K' hX
            have hSn := HS.out _ hY.bel
            have hX : Hid (RegW n l.length W0 wn6 (some W0.heap.size) (some wn1.heap.size) (some gr6) (some wn2.heap.size)) := hY
            clear hY
            refine take_at (i := 9) (n := 20) (v := ?_) rfl rfl (by kernel_rfl) (by kernel_rfl) (by kernel_rfl) (fun _ _ _ h => h) (Or.inl ⟨by rfl, ?_⟩) (by assumption) ?_
            rotate_left 1
            · intro wz hSw
              first | (go_simp; done) | (go_simp; with_reducible rfl)
            simp only [List.set_cons_zero, List.set_cons_succ]
            obtain ⟨ps, pf, pl⟩ := cells_of (l := [_, _]) (hX.out.ha _ rfl).1
            have p0 := ps 0 _ rfl
            have p1 := ps 1 _ rfl
            have pf0 := pf 0
            have pf1 := pf 1
            clear ps pf
            refine wpAnyH_ready (rs := [11]) (by kernel_rfl) (by simp) ?_
            refine AllReadyH.cons rfl (fun K' hK' => ?_) AllReadyH.nil
            go_simp
            refine hK'.out _ _ (HS.out _ ((hX.out.bel.setCell (hX.out.ha _ rfl).2 _).setCell (hX.out.ha _ rfl).2 _)) (fun hHeld => ?_)
            clear hK' K'
            refine wpAnyH_done (by kernel_rfl) ?_ _
            refine NoPanic.normal ?_
            go_wp2_with fail
            go_meet
            case rel =>
              exact ⟨_, _, _, rfl, RegW.fin HW.out.1 HW.out.2.1 HW.out.2.2.1 HW.out.2.2.2.1 HW.out.2.2.2.2 HW0.out hX.out⟩
      · skip
        have hY := hX.out.addA (below_new wn1 (.cells #[.slice none 0 0, .slice none 0 0] 34)) (Nat.le_refl _) (heap_alloc_new _ _)
        go_simp
        generalize wn1.alloc (.cells #[.slice none 0 0, .slice none 0 0] 34) = wn7 at hY ⊢
        refine hK'.out _ _ (HS.out _ hY.bel) (fun hHeld => ?_)
        clear hK' K' hX
        have hSn := HS.out _ hY.bel
        have hX : Hid (RegW n l.length W0 wn7 (some W0.heap.size) none none (some wn1.heap.size)) := hY
        clear hY
        refine wpAnyH_ready (rs := [2]) (by kernel_rfl) (by simp) ?_
        refine AllReadyH.cons rfl (fun K' hK' => ?_) (AllReadyH.nil)
        · skip
          have hY := hX.out.addB (below_new wn7 (.cells #[.int .i64 (-1)] 3)) (Nat.le_refl _) (heap_alloc_new _ _)
          go_simp
          generalize wn7.alloc (.cells #[.int .i64 (-1)] 3) = wn8 at hY ⊢
          refine hK'.out _ _ (HS.out _ hY.bel) (fun hHeld => ?_)
          clear hK' K' hX
          have hSn := HS.out _ hY.bel
          have hX : Hid (RegW n l.length W0 wn8 (some W0.heap.size) (some wn7.heap.size) none (some wn1.heap.size)) := hY
          clear hY
          refine wpAnyH_ready (rs := [8]) (by kernel_rfl) (by simp) ?_
          refine AllReadyH.cons rfl (fun K' hK' => ?_) (AllReadyH.nil)
          · skip
            go_simp
            go_wp2_with (go_at_call 31; refine (Repeat_any wn8 _ l.length (hX.out.hb _ rfl).1 (by omega)).mono ?_; rintro r wn9 ⟨gr9, rfl, hge, hh9, hb9⟩)
            have hY := hX.out.addR hb9 hge hh9
            refine hK'.out _ _ (HS.out _ hY.bel) (fun hHeld => ?_)
            clear hK' K' hX
            have hSn := HS.out _ hY.bel
            have hX : Hid (RegW n l.length W0 wn9 (some W0.heap.size) (some wn7.heap.size) (some gr9) (some wn1.heap.size)) := hY
            clear hY
            refine take_at (i := 9) (n := 20) (v := ?_) rfl rfl (by kernel_rfl) (by kernel_rfl) (by kernel_rfl) (fun _ _ _ h => h) (Or.inl ⟨by rfl, ?_⟩) (by assumption) ?_
            rotate_left 1
            · intro wz hSw
              first | (go_simp; done) | (go_simp; with_reducible rfl)
            simp only [List.set_cons_zero, List.set_cons_succ]
            obtain ⟨ps, pf, pl⟩ := cells_of (l := [_, _]) (hX.out.ha _ rfl).1
            have p0 := ps 0 _ rfl
            have p1 := ps 1 _ rfl
            have pf0 := pf 0
            have pf1 := pf 1
            clear ps pf
            refine wpAnyH_ready (rs := [11]) (by kernel_rfl) (by simp) ?_
            refine AllReadyH.cons rfl (fun K' hK' => ?_) AllReadyH.nil
            go_simp
            refine hK'.out _ _ (HS.out _ ((hX.out.bel.setCell (hX.out.ha _ rfl).2 _).setCell (hX.out.ha _ rfl).2 _)) (fun hHeld => ?_)
            clear hK' K'
            refine wpAnyH_done (by kernel_rfl) ?_ _
            refine NoPanic.normal ?_
            go_wp2_with fail
            go_meet
            case rel =>
              exact ⟨_, _, _, rfl, RegW.fin HW.out.1 HW.out.2.1 HW.out.2.2.1 HW.out.2.2.2.1 HW.out.2.2.2.2 HW0.out hX.out⟩
    · skip
      have hY := hX.out.addB (below_new W0 (.cells #[.int .i64 (-1)] 3)) (Nat.le_refl _) (heap_alloc_new _ _)
      go_simp
      generalize W0.alloc (.cells #[.int .i64 (-1)] 3) = wn10 at hY ⊢
      refine hK'.out _ _ (HS.out _ hY.bel) (fun hHeld => ?_)
      clear hK' K' hX
      have hSn := HS.out _ hY.bel
      have hX : Hid (RegW n l.length W0 wn10 none (some W0.heap.size) none none) := hY
      clear hY
      refine wpAnyH_ready (rs := [1, 8, 10]) (by kernel_rfl) (by simp) ?_
      refine AllReadyH.cons rfl (fun K' hK' => ?_) (AllReadyH.cons rfl (fun K' hK' => ?_) (AllReadyH.cons rfl (fun K' hK' => ?_) (AllReadyH.nil)))
      · skip
        obtain ⟨wn11, hmk, hb9, hh9⟩ := make_ex wn10 n (by omega)
        have hY := hX.out.addM hb9 (Nat.le_refl _) hh9
        go_simp
        refine hK'.out _ _ (HS.out _ hY.bel) (fun hHeld => ?_)
        clear hK' K' hX
        have hSn := HS.out _ hY.bel
        have hX : Hid (RegW n l.length W0 wn11 (some wn10.heap.size) (some W0.heap.size) none none) := hY
        clear hY
        refine wpAnyH_ready (rs := [8, 10]) (by kernel_rfl) (by simp) ?_
        refine AllReadyH.cons rfl (fun K' hK' => ?_) (AllReadyH.cons rfl (fun K' hK' => ?_) (AllReadyH.nil))
        · skip
          go_simp
          go_wp2_with (go_at_call 31; refine (Repeat_any wn11 _ l.length (hX.out.hb _ rfl).1 (by omega)).mono ?_; rintro r wn12 ⟨gr12, rfl, hge, hh9, hb9⟩)
          have hY := hX.out.addR hb9 hge hh9
          refine hK'.out _ _ (HS.out _ hY.bel) (fun hHeld => ?_)
          clear hK' K' hX
          have hSn := HS.out _ hY.bel
          have hX : Hid (RegW n l.length W0 wn12 (some wn10.heap.size) (some W0.heap.size) (some gr12) none) := hY
          clear hY
          refine take_at (i := 9) (n := 20) (v := ?_) rfl rfl (by kernel_rfl) (by kernel_rfl) (by kernel_rfl) (fun _ _ _ h => h) (Or.inl ⟨by rfl, ?_⟩) (by assumption) ?_
          rotate_left 1
          · intro wz hSw
            first | (go_simp; done) | (go_simp; with_reducible rfl)
          simp only [List.set_cons_zero, List.set_cons_succ]
          refine wpAnyH_ready (rs := [10]) (by kernel_rfl) (by simp) ?_
          refine AllReadyH.cons rfl (fun K' hK' => ?_) (AllReadyH.nil)
          · skip
            have hY := hX.out.addA (below_new wn12 (.cells #[.slice none 0 0, .slice none 0 0] 34)) (Nat.le_refl _) (heap_alloc_new _ _)
            go_simp
            generalize wn12.alloc (.cells #[.slice none 0 0, .slice none 0 0] 34) = wn13 at hY ⊢
            refine hK'.out _ _ (HS.out _ hY.bel) (fun hHeld => ?_)
            clear hK' K' hX
            have hSn := HS.out _ hY.bel
            have hX : Hid (RegW n l.length W0 wn13 (some wn10.heap.size) (some W0.heap.size) (some gr12) (some wn12.heap.size)) := hY
            clear hY
            obtain ⟨ps, pf, pl⟩ := cells_of (l := [_, _]) (hX.out.ha _ rfl).1
            have p0 := ps 0 _ rfl
            have p1 := ps 1 _ rfl
            have pf0 := pf 0
            have pf1 := pf 1
            clear ps pf
            refine wpAnyH_ready (rs := [11]) (by kernel_rfl) (by simp) ?_
            refine AllReadyH.cons rfl (fun K' hK' => ?_) AllReadyH.nil
            go_simp
            refine hK'.out _ _ (HS.out _ ((hX.out.bel.setCell (hX.out.ha _ rfl).2 _).setCell (hX.out.ha _ rfl).2 _)) (fun hHeld => ?_)
            clear hK' K'
            refine wpAnyH_done (by kernel_rfl) ?_ _
            refine NoPanic.normal ?_
            go_wp2_with fail
            go_meet
            case rel =>
              exact ⟨_, _, _, rfl, RegW.fin HW.out.1 HW.out.2.1 HW.out.2.2.1 HW.out.2.2.2.1 HW.out.2.2.2.2 HW0.out hX.out⟩
        · skip
          have hY := hX.out.addA (below_new wn11 (.cells #[.slice none 0 0, .slice none 0 0] 34)) (Nat.le_refl _) (heap_alloc_new _ _)
          go_simp
          generalize wn11.alloc (.cells #[.slice none 0 0, .slice none 0 0] 34) = wn14 at hY ⊢
          refine hK'.out _ _ (HS.out _ hY.bel) (fun hHeld => ?_)
          clear hK' K' hX
          have hSn := HS.out _ hY.bel
          have hX : Hid (RegW n l.length W0 wn14 (some wn10.heap.size) (some W0.heap.size) none (some wn11.heap.size)) := hY
          clear hY
          refine wpAnyH_ready (rs := [8]) (by kernel_rfl) (by simp) ?_
          refine AllReadyH.cons rfl (fun K' hK' => ?_) (AllReadyH.nil)
          · skip
            go_simp
            go_wp2_with (go_at_call 31; refine (Repeat_any wn14 _ l.length (hX.out.hb _ rfl).1 (by omega)).mono ?_; rintro r wn15 ⟨gr15, rfl, hge, hh9, hb9⟩)
            have hY := hX.out.addR hb9 hge hh9
            refine hK'.out _ _ (HS.out _ hY.bel) (fun hHeld => ?_)
            clear hK' K' hX
            have hSn := HS.out _ hY.bel
            have hX : Hid (RegW n l.length W0 wn15 (some wn10.heap.size) (some W0.heap.size) (some gr15) (some wn11.heap.size)) := hY
            clear hY
            refine take_at (i := 9) (n := 20) (v := ?_) rfl rfl (by kernel_rfl) (by kernel_rfl) (by kernel_rfl) (fun _ _ _ h => h) (Or.inl ⟨by rfl, ?_⟩) (by assumption) ?_
            rotate_left 1
            · intro wz hSw
              first | (go_simp; done) | (go_simp; with_reducible rfl)
            simp only [List.set_cons_zero, List.set_cons_succ]
            obtain ⟨ps, pf, pl⟩ := cells_of (l := [_, _]) (hX.out.ha _ rfl).1
            have p0 := ps 0 _ rfl
            have p1 := ps 1 _ rfl
            have pf0 := pf 0
            have pf1 := pf 1
            clear ps pf
            refine wpAnyH_ready (rs := [11]) (by kernel_rfl) (by simp) ?_
            refine AllReadyH.cons rfl (fun K' hK' => ?_) AllReadyH.nil
            go_simp
            refine hK'.out _ _ (HS.out _ ((hX.out.bel.setCell (hX.out.ha _ rfl).2 _).setCell (hX.out.ha _ rfl).2 _)) (fun hHeld => ?_)
            clear hK' K'
            refine wpAnyH_done (by kernel_rfl) ?_ _
            refine NoPanic.normal ?_
            go_wp2_with fail
            go_meet
            case rel =>
              exact ⟨_, _, _, rfl, RegW.fin HW.out.1 HW.out.2.1 HW.out.2.2.1 HW.out.2.2.2.1 HW.out.2.2.2.2 HW0.out hX.out⟩
      · skip
        go_simp
        go_wp2_with (go_at_call 31; refine (Repeat_any wn10 _ l.length (hX.out.hb _ rfl).1 (by omega)).mono ?_; rintro r wn16 ⟨gr16, rfl, hge, hh9, hb9⟩)
        have hY := hX.out.addR hb9 hge hh9
        refine hK'.out _ _ (HS.out _ hY.bel) (fun hHeld => ?_)
        clear hK' K' hX
        have hSn := HS.out _ hY.bel
        have hX : Hid (RegW n l.length W0 wn16 none (some W0.heap.size) (some gr16) none) := hY
        clear hY
        refine wpAnyH_ready (rs := [1, 10]) (by kernel_rfl) (by simp) ?_
        refine AllReadyH.cons rfl (fun K' hK' => ?_) (AllReadyH.cons rfl (fun K' hK' => ?_) (AllReadyH.nil))
        · skip
          obtain ⟨wn17, hmk, hb9, hh9⟩ := make_ex wn16 n (by omega)
          have hY := hX.out.addM hb9 (Nat.le_refl _) hh9
          go_simp
          refine hK'.out _ _ (HS.out _ hY.bel) (fun hHeld => ?_)
          clear hK' K' hX
          have hSn := HS.out _ hY.bel
          have hX : Hid (RegW n l.length W0 wn17 (some wn16.heap.size) (some W0.heap.size) (some gr16) none) := hY
          clear hY
          refine take_at (i := 9) (n := 20) (v := ?_) rfl rfl (by kernel_rfl) (by kernel_rfl) (by kernel_rfl) (fun _ _ _ h => h) (Or.inl ⟨by rfl, ?_⟩) (by assumption) ?_
          rotate_left 1
          · intro wz hSw
            first | (go_simp; done) | (go_simp; with_reducible rfl)
          simp only [List.set_cons_zero, List.set_cons_succ]
          refine wpAnyH_ready (rs := [10]) (by kernel_rfl) (by simp) ?_
          refine AllReadyH.cons rfl (fun K' hK' => ?_) (AllReadyH.nil)
          · skip
            have hY := hX.out.addA (below_new wn17 (.cells #[.slice none 0 0, .slice none 0 0] 34)) (Nat.le_refl _) (heap_alloc_new _ _)
            go_simp
            generalize wn17.alloc (.cells #[.slice none 0 0, .slice none 0 0] 34) = wn18 at hY ⊢
            refine hK'.out _ _ (HS.out _ hY.bel) (fun hHeld => ?_)
            clear hK' K' hX
            have hSn := HS.out _ hY.bel
            have hX : Hid (RegW n l.length W0 wn18 (some wn16.heap.size) (some W0.heap.size) (some gr16) (some wn17.heap.size)) := hY
            clear hY
            obtain ⟨ps, pf, pl⟩ := cells_of (l := [_, _]) (hX.out.ha _ rfl).1
            have p0 := ps 0 _ rfl
            have p1 := ps 1 _ rfl
            have pf0 := pf 0
            have pf1 := pf 1
            clear ps pf
            refine wpAnyH_ready (rs := [11]) (by kernel_rfl) (by simp) ?_
            refine AllReadyH.cons rfl (fun K' hK' => ?_) AllReadyH.nil
            go_simp
            refine hK'.out _ _ (HS.out _ ((hX.out.bel.setCell (hX.out.ha _ rfl).2 _).setCell (hX.out.ha _ rfl).2 _)) (fun hHeld => ?_)
            clear hK' K'
            refine wpAnyH_done (by kernel_rfl) ?_ _
            refine NoPanic.normal ?_
            go_wp2_with fail
            go_meet
            case rel =>
              exact ⟨_, _, _, rfl, RegW.fin HW.out.1 HW.out.2.1 HW.out.2.2.1 HW.out.2.2.2.1 HW.out.2.2.2.2 HW0.out hX.out⟩
        · skip
          have hY := hX.out.addA (below_new wn16 (.cells #[.slice none 0 0, .slice none 0 0] 34)) (Nat.le_refl _) (heap_alloc_new _ _)
          go_simp
          generalize wn16.alloc (.cells #[.slice none 0 0, .slice none 0 0] 34) = wn19 at hY ⊢
          refine hK'.out _ _ (HS.out _ hY.bel) (fun hHeld => ?_)
          clear hK' K' hX
          have hSn := HS.out _ hY.bel
          have hX : Hid (RegW n l.length W0 wn19 none (some W0.heap.size) (some gr16) (some wn16.heap.size)) := hY
          clear hY
          refine wpAnyH_ready (rs := [1]) (by kernel_rfl) (by simp) ?_
          refine AllReadyH.cons rfl (fun K' hK' => ?_) (AllReadyH.nil)
          · skip
            obtain ⟨wn20, hmk, hb9, hh9⟩ := make_ex wn19 n (by omega)
            have hY := hX.out.addM hb9 (Nat.le_refl _) hh9
            go_simp
            refine hK'.out _ _ (HS.out _ hY.bel) (fun hHeld => ?_)
            clear hK' K' hX
            have hSn := HS.out _ hY.bel
            have hX : Hid (RegW n l.length W0 wn20 (some wn19.heap.size) (some W0.heap.size) (some gr16) (some wn16.heap.size)) := hY
            clear hY
            refine take_at (i := 9) (n := 20) (v := ?_) rfl rfl (by kernel_rfl) (by kernel_rfl) (by kernel_rfl) (fun _ _ _ h => h) (Or.inl ⟨by rfl, ?_⟩) (by assumption) ?_
            rotate_left 1
            · intro wz hSw
              first | (go_simp; done) | (go_simp; with_reducible rfl)
            simp only [List.set_cons_zero, List.set_cons_succ]
            obtain ⟨ps, pf, pl⟩ := cells_of (l := [_, _]) (hX.out.ha _ rfl).1
            have p0 := ps 0 _ rfl
            have p1 := ps 1 _ rfl
            have pf0 := pf 0
            have pf1 := pf 1
            clear ps pf
            refine wpAnyH_ready (rs := [11]) (by kernel_rfl) (by simp) ?_
            refine AllReadyH.cons rfl (fun K' hK' => ?_) AllReadyH.nil
            go_simp
            refine hK'.out _ _ (HS.out _ ((hX.out.bel.setCell (hX.out.ha _ rfl).2 _).setCell (hX.out.ha _ rfl).2 _)) (fun hHeld => ?_)
            clear hK' K'
            refine wpAnyH_done (by kernel_rfl) ?_ _
            refine NoPanic.normal ?_
            go_wp2_with fail
            go_meet
            case rel =>
              exact ⟨_, _, _, rfl, RegW.fin HW.out.1 HW.out.2.1 HW.out.2.2.1 HW.out.2.2.2.1 HW.out.2.2.2.2 HW0.out hX.out⟩
      · skip
        have hY := hX.out.addA (below_new wn10 (.cells #[.slice none 0 0, .slice none 0 0] 34)) (Nat.le_refl _) (heap_alloc_new _ _)
        go_simp
        generalize wn10.alloc (.cells #[.slice none 0 0, .slice none 0 0] 34) = wn21 at hY ⊢
        refine hK'.out _ _ (HS.out _ hY.bel) (fun hHeld => ?_)
        clear hK' K' hX
        have hSn := HS.out _ hY.bel
        have hX : Hid (RegW n l.length W0 wn21 none (some W0.heap.size) none (some wn10.heap.size)) := hY
        clear hY
        refine wpAnyH_ready (rs := [1, 8]) (by kernel_rfl) (by simp) ?_
        refine AllReadyH.cons rfl (fun K' hK' => ?_) (AllReadyH.cons rfl (fun K' hK' => ?_) (AllReadyH.nil))
        · skip
          obtain ⟨wn22, hmk, hb9, hh9⟩ := make_ex wn21 n (by omega)
          have hY := hX.out.addM hb9 (Nat.le_refl _) hh9
          go_simp
          refine hK'.out _ _ (HS.out _ hY.bel) (fun hHeld => ?_)
          clear hK' K' hX
          have hSn := HS.out _ hY.bel
          have hX : Hid (RegW n l.length W0 wn22 (some wn21.heap.size) (some W0.heap.size) none (some wn10.heap.size)) := hY
          clear hY
          refine wpAnyH_ready (rs := [8]) (by kernel_rfl) (by simp) ?_
          refine AllReadyH.cons rfl (fun K' hK' => ?_) (AllReadyH.nil)
          · skip
            go_simp
            go_wp2_with (go_at_call 31; refine (Repeat_any wn22 _ l.length (hX.out.hb _ rfl).1 (by omega)).mono ?_; rintro r wn23 ⟨gr23, rfl, hge, hh9, hb9⟩)
            have hY := hX.out.addR hb9 hge hh9
            refine hK'.out _ _ (HS.out _ hY.bel) (fun hHeld => ?_)
            clear hK' K' hX
            have hSn := HS.out _ hY.bel
            have hX : Hid (RegW n l.length W0 wn23 (some wn21.heap.size) (some W0.heap.size) (some gr23) (some wn10.heap.size)) := hY
            clear hY
            refine take_at (i := 9) (n := 20) (v := ?_) rfl rfl (by kernel_rfl) (by kernel_rfl) (by kernel_rfl) (fun _ _ _ h => h) (Or.inl ⟨by rfl, ?_⟩) (by assumption) ?_
            rotate_left 1
            · intro wz hSw
              first | (go_simp; done) | (go_simp; with_reducible rfl)
            simp only [List.set_cons_zero, List.set_cons_succ]
            obtain ⟨ps, pf, pl⟩ := cells_of (l := [_, _]) (hX.out.ha _ rfl).1
            have p0 := ps 0 _ rfl
            have p1 := ps 1 _ rfl
            have pf0 := pf 0
            have pf1 := pf 1
            clear ps pf
            refine wpAnyH_ready (rs := [11]) (by kernel_rfl) (by simp) ?_
            refine AllReadyH.cons rfl (fun K' hK' => ?_) AllReadyH.nil
            go_simp
            refine hK'.out _ _ (HS.out _ ((hX.out.bel.setCell (hX.out.ha _ rfl).2 _).setCell (hX.out.ha _ rfl).2 _)) (fun hHeld => ?_)
            clear hK' K'
            refine wpAnyH_done (by kernel_rfl) ?_ _
            refine NoPanic.normal ?_
            go_wp2_with fail
            go_meet
            case rel =>
              exact ⟨_, _, _, rfl, RegW.fin HW.out.1 HW.out.2.1 HW.out.2.2.1 HW.out.2.2.2.1 HW.out.2.2.2.2 HW0.out hX.out⟩
        · skip
          go_simp
          go_wp2_with (go_at_call 31; refine (Repeat_any wn21 _ l.length (hX.out.hb _ rfl).1 (by omega)).mono ?_; rintro r wn24 ⟨gr24, rfl, hge, hh9, hb9⟩)
          have hY := hX.out.addR hb9 hge hh9
          refine hK'.out _ _ (HS.out _ hY.bel) (fun hHeld => ?_)
          clear hK' K' hX
          have hSn := HS.out _ hY.bel
          have hX : Hid (RegW n l.length W0 wn24 none (some W0.heap.size) (some gr24) (some wn10.heap.size)) := hY
          clear hY
          refine wpAnyH_ready (rs := [1]) (by kernel_rfl) (by simp) ?_
          refine AllReadyH.cons rfl (fun K' hK' => ?_) (AllReadyH.nil)
          · skip
            obtain ⟨wn25, hmk, hb9, hh9⟩ := make_ex wn24 n (by omega)
            have hY := hX.out.addM hb9 (Nat.le_refl _) hh9
            go_simp
            refine hK'.out _ _ (HS.out _ hY.bel) (fun hHeld => ?_)
            clear hK' K' hX
            have hSn := HS.out _ hY.bel
            have hX : Hid (RegW n l.length W0 wn25 (some wn24.heap.size) (some W0.heap.size) (some gr24) (some wn10.heap.size)) := hY
            clear hY
            refine take_at (i := 9) (n := 20) (v := ?_) rfl rfl (by kernel_rfl) (by kernel_rfl) (by kernel_rfl) (fun _ _ _ h => h) (Or.inl ⟨by rfl, ?_⟩) (by assumption) ?_
            rotate_left 1
            · intro wz hSw
              first | (go_simp; done) | (go_simp; with_reducible rfl)
            simp only [List.set_cons_zero, List.set_cons_succ]
            obtain ⟨ps, pf, pl⟩ := cells_of (l := [_, _]) (hX.out.ha _ rfl).1
            have p0 := ps 0 _ rfl
            have p1 := ps 1 _ rfl
            have pf0 := pf 0
            have pf1 := pf 1
            clear ps pf
            refine wpAnyH_ready (rs := [11]) (by kernel_rfl) (by simp) ?_
            refine AllReadyH.cons rfl (fun K' hK' => ?_) AllReadyH.nil
            go_simp
            refine hK'.out _ _ (HS.out _ ((hX.out.bel.setCell (hX.out.ha _ rfl).2 _).setCell (hX.out.ha _ rfl).2 _)) (fun hHeld => ?_)
            clear hK' K'
            refine wpAnyH_done (by kernel_rfl) ?_ _
            refine NoPanic.normal ?_
            go_wp2_with fail
            go_meet
            case rel =>
              exact ⟨_, _, _, rfl, RegW.fin HW.out.1 HW.out.2.1 HW.out.2.2.1 HW.out.2.2.2.1 HW.out.2.2.2.2 HW0.out hX.out⟩
    · skip
      have hY := hX.out.addA (below_new W0 (.cells #[.slice none 0 0, .slice none 0 0] 34)) (Nat.le_refl _) (heap_alloc_new _ _)
      go_simp
      generalize W0.alloc (.cells #[.slice none 0 0, .slice none 0 0] 34) = wn26 at hY ⊢
      refine hK'.out _ _ (HS.out _ hY.bel) (fun hHeld => ?_)
      clear hK' K' hX
      have hSn := HS.out _ hY.bel
      have hX : Hid (RegW n l.length W0 wn26 none none none (some W0.heap.size)) := hY
      clear hY
      refine wpAnyH_ready (rs := [1, 2]) (by kernel_rfl) (by simp) ?_
      refine AllReadyH.cons rfl (fun K' hK' => ?_) (AllReadyH.cons rfl (fun K' hK' => ?_) (AllReadyH.nil))
      · skip
        obtain ⟨wn27, hmk, hb9, hh9⟩ := make_ex wn26 n (by omega)
        have hY := hX.out.addM hb9 (Nat.le_refl _) hh9
        go_simp
        refine hK'.out _ _ (HS.out _ hY.bel) (fun hHeld => ?_)
        clear hK' K' hX
        have hSn := HS.out _ hY.bel
        have hX : Hid (RegW n l.length W0 wn27 (some wn26.heap.size) none none (some W0.heap.size)) := hY
        clear hY
        refine wpAnyH_ready (rs := [2]) (by kernel_rfl) (by simp) ?_
        refine AllReadyH.cons rfl (fun K' hK' => ?_) (AllReadyH.nil)
        · skip
          have hY := hX.out.addB (below_new wn27 (.cells #[.int .i64 (-1)] 3)) (Nat.le_refl _) (heap_alloc_new _ _)
          go_simp
          generalize wn27.alloc (.cells #[.int .i64 (-1)] 3) = wn28 at hY ⊢
          refine hK'.out _ _ (HS.out _ hY.bel) (fun hHeld => ?_)
          clear hK' K' hX
          have hSn := HS.out _ hY.bel
          have hX : Hid (RegW n l.length W0 wn28 (some wn26.heap.size) (some wn27.heap.size) none (some W0.heap.size)) := hY
          clear hY
          refine wpAnyH_ready (rs := [8]) (by kernel_rfl) (by simp) ?_
          refine AllReadyH.cons rfl (fun K' hK' => ?_) (AllReadyH.nil)
          · skip
            go_simp
            go_wp2_with (go_at_call 31; refine (Repeat_any wn28 _ l.length (hX.out.hb _ rfl).1 (by omega)).mono ?_; rintro r wn29 ⟨gr29, rfl, hge, hh9, hb9⟩)
            have hY := hX.out.addR hb9 hge hh9
            refine hK'.out _ _ (HS.out _ hY.bel) (fun hHeld => ?_)
            clear hK' K' hX
            have hSn := HS.out _ hY.bel
            have hX : Hid (RegW n l.length W0 wn29 (some wn26.heap.size) (some wn27.heap.size) (some gr29) (some W0.heap.size)) := hY
            clear hY
            refine take_at (i := 9) (n := 20) (v := ?_) rfl rfl (by kernel_rfl) (by kernel_rfl) (by kernel_rfl) (fun _ _ _ h => h) (Or.inl ⟨by rfl, ?_⟩) (by assumption) ?_
            rotate_left 1
            · intro wz hSw
              first | (go_simp; done) | (go_simp; with_reducible rfl)
            simp only [List.set_cons_zero, List.set_cons_succ]
            obtain ⟨ps, pf, pl⟩ := cells_of (l := [_, _]) (hX.out.ha _ rfl).1
            have p0 := ps 0 _ rfl
            have p1 := ps 1 _ rfl
            have pf0 := pf 0
            have pf1 := pf 1
            clear ps pf
            refine wpAnyH_ready (rs := [11]) (by kernel_rfl) (by simp) ?_
            refine AllReadyH.cons rfl (fun K' hK' => ?_) AllReadyH.nil
            go_simp
            refine hK'.out _ _ (HS.out _ ((hX.out.bel.setCell (hX.out.ha _ rfl).2 _).setCell (hX.out.ha _ rfl).2 _)) (fun hHeld => ?_)
            clear hK' K'
            refine wpAnyH_done (by kernel_rfl) ?_ _
            refine NoPanic.normal ?_
            go_wp2_with fail
            go_meet
            case rel =>
              exact ⟨_, _, _, rfl, RegW.fin HW.out.1 HW.out.2.1 HW.out.2.2.1 HW.out.2.2.2.1 HW.out.2.2.2.2 HW0.out hX.out⟩
      · skip
        have hY := hX.out.addB (below_new wn26 (.cells #[.int .i64 (-1)] 3)) (Nat.le_refl _) (heap_alloc_new _ _)
        go_simp
        generalize wn26.alloc (.cells #[.int .i64 (-1)] 3) = wn30 at hY ⊢
        refine hK'.out _ _ (HS.out _ hY.bel) (fun hHeld => ?_)
        clear hK' K' hX
        have hSn := HS.out _ hY.bel
        have hX : Hid (RegW n l.length W0 wn30 none (some wn26.heap.size) none (some W0.heap.size)) := hY
        clear hY
        refine wpAnyH_ready (rs := [1, 8]) (by kernel_rfl) (by simp) ?_
        refine AllReadyH.cons rfl (fun K' hK' => ?_) (AllReadyH.cons rfl (fun K' hK' => ?_) (AllReadyH.nil))
        · skip
          obtain ⟨wn31, hmk, hb9, hh9⟩ := make_ex wn30 n (by omega)
          have hY := hX.out.addM hb9 (Nat.le_refl _) hh9
          go_simp
          refine hK'.out _ _ (HS.out _ hY.bel) (fun hHeld => ?_)
          clear hK' K' hX
          have hSn := HS.out _ hY.bel
          have hX : Hid (RegW n l.length W0 wn31 (some wn30.heap.size) (some wn26.heap.size) none (some W0.heap.size)) := hY
          clear hY
          refine wpAnyH_ready (rs := [8]) (by kernel_rfl) (by simp) ?_
          refine AllReadyH.cons rfl (fun K' hK' => ?_) (AllReadyH.nil)
          · skip
            go_simp
            go_wp2_with (go_at_call 31; refine (Repeat_any wn31 _ l.length (hX.out.hb _ rfl).1 (by omega)).mono ?_; rintro r wn32 ⟨gr32, rfl, hge, hh9, hb9⟩)
            have hY := hX.out.addR hb9 hge hh9
            refine hK'.out _ _ (HS.out _ hY.bel) (fun hHeld => ?_)
            clear hK' K' hX
            have hSn := HS.out _ hY.bel
            have hX : Hid (RegW n l.length W0 wn32 (some wn30.heap.size) (some wn26.heap.size) (some gr32) (some W0.heap.size)) := hY
            clear hY
            refine take_at (i := 9) (n := 20) (v := ?_) rfl rfl (by kernel_rfl) (by kernel_rfl) (by kernel_rfl) (fun _ _ _ h => h) (Or.inl ⟨by rfl, ?_⟩) (by assumption) ?_
            rotate_left 1
            · intro wz hSw
              first | (go_simp; done) | (go_simp; with_reducible rfl)
            simp only [List.set_cons_zero, List.set_cons_succ]
            obtain ⟨ps, pf, pl⟩ := cells_of (l := [_, _]) (hX.out.ha _ rfl).1
            have p0 := ps 0 _ rfl
            have p1 := ps 1 _ rfl
            have pf0 := pf 0
            have pf1 := pf 1
            clear ps pf
            refine wpAnyH_ready (rs := [11]) (by kernel_rfl) (by simp) ?_
            refine AllReadyH.cons rfl (fun K' hK' => ?_) AllReadyH.nil
            go_simp
            refine hK'.out _ _ (HS.out _ ((hX.out.bel.setCell (hX.out.ha _ rfl).2 _).setCell (hX.out.ha _ rfl).2 _)) (fun hHeld => ?_)
            clear hK' K'
            refine wpAnyH_done (by kernel_rfl) ?_ _
            refine NoPanic.normal ?_
            go_wp2_with fail
            go_meet
            case rel =>
              exact ⟨_, _, _, rfl, RegW.fin HW.out.1 HW.out.2.1 HW.out.2.2.1 HW.out.2.2.2.1 HW.out.2.2.2.2 HW0.out hX.out⟩
        · skip
          go_simp
          go_wp2_with (go_at_call 31; refine (Repeat_any wn30 _ l.length (hX.out.hb _ rfl).1 (by omega)).mono ?_; rintro r wn33 ⟨gr33, rfl, hge, hh9, hb9⟩)
          have hY := hX.out.addR hb9 hge hh9
          refine hK'.out _ _ (HS.out _ hY.bel) (fun hHeld => ?_)
          clear hK' K' hX
          have hSn := HS.out _ hY.bel
          have hX : Hid (RegW n l.length W0 wn33 none (some wn26.heap.size) (some gr33) (some W0.heap.size)) := hY
          clear hY
          refine wpAnyH_ready (rs := [1]) (by kernel_rfl) (by simp) ?_
          refine AllReadyH.cons rfl (fun K' hK' => ?_) (AllReadyH.nil)
          · skip
            obtain ⟨wn34, hmk, hb9, hh9⟩ := make_ex wn33 n (by omega)
            have hY := hX.out.addM hb9 (Nat.le_refl _) hh9
            go_simp
            refine hK'.out _ _ (HS.out _ hY.bel) (fun hHeld => ?_)
            clear hK' K' hX
            have hSn := HS.out _ hY.bel
            have hX : Hid (RegW n l.length W0 wn34 (some wn33.heap.size) (some wn26.heap.size) (some gr33) (some W0.heap.size)) := hY
            clear hY
            refine take_at (i := 9) (n := 20) (v := ?_) rfl rfl (by kernel_rfl) (by kernel_rfl) (by kernel_rfl) (fun _ _ _ h => h) (Or.inl ⟨by rfl, ?_⟩) (by assumption) ?_
            rotate_left 1
            · intro wz hSw
              first | (go_simp; done) | (go_simp; with_reducible rfl)
            simp only [List.set_cons_zero, List.set_cons_succ]
            obtain ⟨ps, pf, pl⟩ := cells_of (l := [_, _]) (hX.out.ha _ rfl).1
            have p0 := ps 0 _ rfl
            have p1 := ps 1 _ rfl
            have pf0 := pf 0
            have pf1 := pf 1
            clear ps pf
            refine wpAnyH_ready (rs := [11]) (by kernel_rfl) (by simp) ?_
            refine AllReadyH.cons rfl (fun K' hK' => ?_) AllReadyH.nil
            go_simp
            refine hK'.out _ _ (HS.out _ ((hX.out.bel.setCell (hX.out.ha _ rfl).2 _).setCell (hX.out.ha _ rfl).2 _)) (fun hHeld => ?_)
            clear hK' K'
            refine wpAnyH_done (by kernel_rfl) ?_ _
            refine NoPanic.normal ?_
            go_wp2_with fail
            go_meet
            case rel =>
              exact ⟨_, _, _, rfl, RegW.fin HW.out.1 HW.out.2.1 HW.out.2.2.1 HW.out.2.2.2.1 HW.out.2.2.2.2 HW0.out hX.out⟩
  case rest =>
    obtain ⟨pb, rb, eb, rfl, hpw⟩ := hcut
    have HQ : Hid (Ranked l pol rk ∧ Coming l rk cm ∧ (∀ x ∈ l, okJ x)) := ⟨hr, hc, hok⟩
    have H0 : Hid (PlayW w B K R C wc l rk cm 0 [] (l.map (·.c)) tv cv W.heap.size pb rb eb n [] (List.replicate l.length (-1)) ∧ Core l rk cm 0 [] (l.map (·.c))) := ⟨hpw, core_start hr hc hok⟩
    clear hpw hcore hbel lK lR lC hr hc hok
    go_wp2_with fail
    go_loopw [8, 22] (fun v8 i wr => ∃ (t : Nat) (s : St) (k1 : Nat) (th1 : List Nat) (tv1 cv1 : Value) (run : Int), t ≤ n ∧ i = .int .i64 t ∧ v8 = .int .i64 run ∧ PlayW w B K R C wr l rk cm k1 th1 s.left tv1 cv1 W.heap.size pb rb eb n s.runs s.ends ∧ Core l rk cm k1 th1 s.left ∧ (∀ p ∈ cm.take k1, (J l (RK rk p)).a ≤ (t : Int)) ∧ RunAt rk th1 s run ∧ Plays l pol pre t s) (fun _ i _ => n - (intOf i).toNat)
    case atStart =>
      refine ⟨0, St.init l, 0, [], tv, cv, -1, Nat.zero_le _, rfl, rfl, H0.out.1, H0.out.2, by simp, .inl ⟨?_, rfl⟩, rfl⟩
      intro h
      have := h.1
      simp [St.last, St.init] at this
    case round =>
      obtain ⟨t, s, k0, th0, tv0, cv0, run, ht, rfl, rfl, hpw, hco, hbd, hrun, hpl⟩ := hrel
      have hokt := plays_ok HQ.out.2.2 t s hpl
      by_cases hlt : t < n
      · have HR : Hid (PlayW w B K R C wr l rk cm k0 th0 s.left tv0 cv0 W.heap.size pb rb eb n s.runs s.ends ∧ Core l rk cm k0 th0 s.left ∧ (∀ p ∈ cm.take k0, (J l (RK rk p)).a ≤ (t : Int)) ∧ RunAt rk th0 s run ∧ Plays l pol pre t s ∧ Ok l t s) := ⟨hpw, hco, hbd, hrun, hpl, hokt⟩
        clear hpw hco hbd hrun hpl hokt
        go_upto_region 7 with (go_at_call 32; refine (come_any B K R C wr l pol rk cm k0 th0 s.left tv0 cv0 (t : Int) HR.out.1.core HR.out.2.1 HQ.out.1 HQ.out.2.1 hl HR.out.2.2.1).mono ?_; rintro r w1 ⟨rfl, k1, th1, tv1, cv1, hcw, hco1, hnow, hmv, hsub⟩; have H1 : Hid (PlayW w B K R C w1 l rk cm k1 th1 s.left tv1 cv1 W.heap.size pb rb eb n s.runs s.ends ∧ Core l rk cm k1 th1 s.left ∧ Now l rk cm k1 (t : Int) ∧ (∀ x ∈ th0, x ∈ th1)) := ⟨HR.out.1.moved hcw hmv, hco1, hnow, hsub⟩; clear hcw hco1 hnow hmv hsub)
        go_cut [32] from 28 to 32 (fun v wc => v = .bool (pre || (run == -1)) ∧ wc = w1)
        case first =>
          cases pre with
          | true =>
            go_wp2_with fail
            go_meet
            case rel => exact ⟨by simp, rfl⟩
          | false =>
            go_wp2_with fail
            go_meet
            case rel => exact ⟨by simp, rfl⟩
        case rest =>
        obtain ⟨rfl, rfl⟩ := hcut
        have hcd : (pre || (run == -1)) = true ∨ (pre || (run == -1)) = false := by cases (pre || (run == -1)) <;> simp
        have Hcd : Hid (nextRun pre run th1 = if (pre || (run == -1)) = true then fore th1 else run) := by
          have e : nextRun pre run th1 = if (pre || (run == -1)) = true then fore th1 else run := by unfold nextRun; simp
          exact e
        generalize (pre || (run == -1)) = cd at *
        refine from_K (by assumption) _ _ ?_
        go_cut [8] from 33 to 34 (fun v wd => v = .int .i64 (nextRun pre run th1) ∧ wd = wc)
        case first =>
          rcases hcd with rfl | rfl
          · go_wp2_with (go_at_call 33; refine (foremost_any B K R C wc l rk cm k1 th1 s.left tv1 cv1 H1.out.1.core).mono ?_; rintro r w2 ⟨rfl, rfl⟩)
            go_meet
            case rel => exact ⟨by rw [Hcd.out]; rfl, rfl⟩
          · go_wp2_with fail
            go_meet
            case rel => exact ⟨by rw [Hcd.out]; rfl, rfl⟩
        case rest =>
          obtain ⟨rfl, rfl⟩ := hcut
          clear hcd Hcd
          have hpk := pick_of (pre := pre) HQ.out.1 HQ.out.2.1 H1.out.2.1 H1.out.2.2.1 HR.out.2.2.2.1 H1.out.2.2.2
          have hrl := HR.out.2.2.2.2.2.runs
          obtain ⟨ps, pf, pl⟩ := cells_of (l := [_, _]) H1.out.1.p
          have p0 := ps 0 _ rfl
          obtain ⟨rc, rf, rl⟩ := cells_of (l := runCells n s.runs) H1.out.1.rv
          have r0 := rc t _ (List.getElem?_eq_getElem (by rw [runCells_len (by omega)]; exact hlt))
          have rf0 := rf t
          generalize (runCells n s.runs)[t]'(by rw [runCells_len (by omega)]; exact hlt) = rold at r0
          clear ps pf rc rf
          have hti : (t : Int) < (n : Int) := by omega
          rcases hpk with ⟨hnr, hpick⟩ | ⟨p, hnr, hpt, hpick⟩
          · rw [hnr]
            have HP : Hid (Pick l pol pre t s (-1)) := hpick
            have H2 := H1.out.1.run (i := t) (v := -1) (runs' := s.runs ++ [-1]) (by rw [← hrl]; exact runCells_snoc (by omega))
            have H2' : Hid (PlayW w B K R C (wc.setCell ⟨rb, t, none⟩ (.int .i64 (-1))) l rk cm k1 th1 s.left tv1 cv1 W.heap.size pb rb eb n (s.runs ++ [-1]) s.ends) := H2
            clear H2 hpick hnr
            go_wp2_with fail
            refine ⟨⟨t + 1, s.after t (-1), k1, th1, tv1, cv1, -1, by omega, by simp, rfl, H2'.out, H1.out.2.1, fun q hq => by have := H1.out.2.2.1.come q hq; omega, .inl ⟨?_, rfl⟩, ⟨s, -1, HR.out.2.2.2.2.1, HP.out, rfl⟩⟩, by simp [intOf]; omega⟩
            intro h
            have := h.1
            rw [show s.after t (-1) = ⟨s.left, s.ends, s.runs ++ [-1]⟩ from rfl, last_snoc] at this
            omega
          · rw [hnr]
            have hpl : p < l.length := H1.out.2.1.lt HQ.out.2.1 hpt
            have HP : Hid (Pick l pol pre t s ((RK rk p : Nat) : Int) ∧ p ∈ th1) := ⟨hpick, hpt⟩
            have H2 := H1.out.1.run (i := t) (v := -1) (runs' := s.runs ++ [-1]) (by rw [← hrl]; exact runCells_snoc (by omega))
            have hpm : ((p : Int) == -1) = false := by simp
            clear hpick hpt hnr
            go_upto_region 10 with fail
            generalize wc.setCell ⟨rb, t, none⟩ (.int .i64 (-1)) = wB at *
            have HB : Hid (PlayW w B K R C wB l rk cm k1 th1 s.left tv1 cv1 W.heap.size pb rb eb n (s.runs ++ [-1]) s.ends) := H2
            clear H2 p0 r0 rf0 pl rl
            have hpr : p < rk.length := by rw [HQ.out.1.len]; exact hpl
            have hpi : (p : Int) < (l.length : Int) := by omega
            have kc0 := (cells_of (l := [_, _, _]) HB.out.core.core).1 0 _ rfl
            have e5 : wB.cell? ⟨R, p * 7 + 5, none⟩ = some (.int .i64 ((RK rk p : Nat) : Int)) := HB.out.core.ent (i := 5) hpr (by omega) rfl
            obtain ⟨ps, pf, pl⟩ := cells_of (l := [_, _]) HB.out.p
            have p0 := ps 0 _ rfl
            obtain ⟨rc, rf, rl⟩ := cells_of (l := runCells n (s.runs ++ [-1])) HB.out.rv
            have hrl2 : t < (runCells n (s.runs ++ [-1])).length := by rw [runCells_len (by simp; omega)]; exact hlt
            have r0 := rc t _ (List.getElem?_eq_getElem hrl2)
            have rf0 := rf t
            generalize (runCells n (s.runs ++ [-1]))[t] = rold2 at r0
            clear ps pf rc rf hrl2
            go_upto_region 12 with fail
            have hS0 : (fun w' : World => w'.cell? ⟨pb, 0, none⟩ = some (.slice (some ⟨rb, 0, none⟩) n n) ∧ w'.cell? ⟨R, p * 7 + 5, none⟩ = some (.int .i64 ((RK rk p : Nat) : Int))) wB.drew := ⟨p0, e5⟩
            refine wp_region_noPanic ?_
            refine wp_region_last (S := fun w' => w'.cell? ⟨pb, 0, none⟩ = some (.slice (some ⟨rb, 0, none⟩) n n) ∧ w'.cell? ⟨R, p * 7 + 5, none⟩ = some (.int .i64 ((RK rk p : Nat) : Int))) (L := 8) (by kernel_rfl) ?_
            refine takeL_at (i := 0) (n := 47) (v := ?_) rfl rfl (by kernel_rfl) (by kernel_rfl) (by decide) (by kernel_rfl) (by kernel_rfl) (by kernel_rfl) (fun _ _ _ h => h) (Or.inl ⟨by rfl, ?_⟩) (by assumption) ?_
            rotate_left 1
            · intro wz hSw
              obtain ⟨s0, s1⟩ := hSw
              first | (go_simp; done) | (go_simp; with_reducible rfl)
            simp only [List.set_cons_zero, List.set_cons_succ]
            refine takeL_at (i := 1) (n := 48) (v := ?_) rfl rfl (by kernel_rfl) (by kernel_rfl) (by decide) (by kernel_rfl) (by kernel_rfl) (by kernel_rfl) (fun _ _ _ h => h) (Or.inl ⟨by rfl, ?_⟩) (by assumption) ?_
            rotate_left 1
            · intro wz hSw
              obtain ⟨s0, s1⟩ := hSw
              first | (go_simp; done) | (go_simp; with_reducible rfl)
            simp only [List.set_cons_zero, List.set_cons_succ]
            refine takeL_at (i := 2) (n := 49) (v := ?_) rfl rfl (by kernel_rfl) (by kernel_rfl) (by decide) (by kernel_rfl) (by kernel_rfl) (by kernel_rfl) (fun _ _ _ h => h) (Or.inl ⟨by rfl, ?_⟩) (by assumption) ?_
            rotate_left 1
            · intro wz hSw
              obtain ⟨s0, s1⟩ := hSw
              first | (go_simp; done) | (go_simp; with_reducible rfl)
            simp only [List.set_cons_zero, List.set_cons_succ]
            refine takeL_at (i := 3) (n := 50) (v := ?_) rfl rfl (by kernel_rfl) (by kernel_rfl) (by decide) (by kernel_rfl) (by kernel_rfl) (by kernel_rfl) (fun _ _ _ h => h) (Or.inl ⟨by rfl, ?_⟩) (by assumption) ?_
            rotate_left 1
            · intro wz hSw
              obtain ⟨s0, s1⟩ := hSw
              first | (go_simp; done) | (go_simp; with_reducible rfl)
            simp only [List.set_cons_zero, List.set_cons_succ]
            refine takeL_at (i := 4) (n := 51) (v := ?_) rfl rfl (by kernel_rfl) (by kernel_rfl) (by decide) (by kernel_rfl) (by kernel_rfl) (by kernel_rfl) (fun _ _ _ h => h) (Or.inl ⟨by rfl, ?_⟩) (by assumption) ?_
            rotate_left 1
            · intro wz hSw
              obtain ⟨s0, s1⟩ := hSw
              first | (go_simp; done) | (go_simp; with_reducible rfl)
            simp only [List.set_cons_zero, List.set_cons_succ]
            refine takeL_at (i := 5) (n := 52) (v := ?_) rfl rfl (by kernel_rfl) (by kernel_rfl) (by decide) (by kernel_rfl) (by kernel_rfl) (by kernel_rfl) (fun _ _ _ h => h) (Or.inl ⟨by rfl, ?_⟩) (by assumption) ?_
            rotate_left 1
            · intro wz hSw
              obtain ⟨s0, s1⟩ := hSw
              first | (go_simp; done) | (go_simp; with_reducible rfl)
            simp only [List.set_cons_zero, List.set_cons_succ]
            refine takeL_at (i := 6) (n := 53) (v := ?_) rfl rfl (by kernel_rfl) (by kernel_rfl) (by decide) (by kernel_rfl) (by kernel_rfl) (by kernel_rfl) (fun _ _ _ h => h) (Or.inl ⟨by rfl, ?_⟩) (by assumption) ?_
            rotate_left 1
            · intro wz hSw
              obtain ⟨s0, s1⟩ := hSw
              first | (go_simp; done) | (go_simp; with_reducible rfl)
            simp only [List.set_cons_zero, List.set_cons_succ]
            refine takeL_at (i := 7) (n := 54) (v := ?_) rfl rfl (by kernel_rfl) (by kernel_rfl) (by decide) (by kernel_rfl) (by kernel_rfl) (by kernel_rfl) (fun _ _ _ h => h) (Or.inl ⟨by rfl, ?_⟩) (by assumption) ?_
            rotate_left 1
            · intro wz hSw
              obtain ⟨s0, s1⟩ := hSw
              first | (go_simp; done) | (go_simp; with_reducible rfl)
            simp only [List.set_cons_zero, List.set_cons_succ]
            refine wpAnyL_one (i := 8) (by kernel_rfl) rfl (fun K' hK' => ?_)
            go_simp
            refine hK'.out _ _ (fun h => absurd rfl h) ?_
            clear hK' K'
            refine wpAnyL_done (by kernel_rfl) ?_ _
            refine NoPanic.normal ?_
            have H3 : PlayW w B K R C (wB.setCell ⟨rb, t, none⟩ (.int .i64 ((RK rk p : Nat) : Int))).drew l rk cm k1 th1 s.left tv1 cv1 W.heap.size pb rb eb n (s.runs ++ [((RK rk p : Nat) : Int)]) s.ends := (HB.out.run (i := t) (v := ((RK rk p : Nat) : Int)) (runs' := s.runs ++ [((RK rk p : Nat) : Int)]) (by rw [← hrl]; exact runCells_again)).drewN 1
            generalize (wB.setCell ⟨rb, t, none⟩ (.int .i64 ((RK rk p : Nat) : Int))).drew = wC at *
            clear hS0 p0 e5 kc0 r0 rf0 pl rl HB
            obtain ⟨Lv, hLv⟩ : ∃ Lv, L s.left (RK rk p) = Lv := ⟨_, rfl⟩
            have hL0 : 0 < Lv := by rw [← hLv]; exact ((H1.out.2.1.mem p).1 HP.out.2).2
            have hL1 : Lv ≤ 10000 := by rw [← hLv]; exact HR.out.2.2.2.2.2.small _
            have e6 : wC.cell? ⟨R, p * 7 + 6, none⟩ = some (.int .i64 Lv) := H3.core.ent (i := 6) hpr (by omega) (by rw [hLv]; rfl)
            have e6f : wC.frozen? ⟨R, p * 7 + 6, none⟩ = false := (cells_of (l := (entsOf l rk s.left).flatMap En.vals) H3.core.ranked).2.1 _
            have hll := HR.out.2.2.2.2.2.left
            have HC : Hid (PlayW w B K R C wC l rk cm k1 th1 s.left tv1 cv1 W.heap.size pb rb eb n (s.runs ++ [((RK rk p : Nat) : Int)]) s.ends ∧ L s.left (RK rk p) = Lv ∧ s.left.length = l.length) := ⟨H3, hLv, hll⟩
            clear H3 hLv hll
            have haft : s.after t ((RK rk p : Nat) : Int) = ⟨s.left.set (RK rk p) (Lv - 1), if Lv - 1 = 0 then s.ends.set (RK rk p) ((t : Int) + 1) else s.ends, s.runs ++ [((RK rk p : Nat) : Int)]⟩ := by
              unfold St.after
              rw [if_neg (by omega), Int.toNat_natCast, HC.out.2.1]
            have HA : Hid (s.after t ((RK rk p : Nat) : Int) = ⟨s.left.set (RK rk p) (Lv - 1), if Lv - 1 = 0 then s.ends.set (RK rk p) ((t : Int) + 1) else s.ends, s.runs ++ [((RK rk p : Nat) : Int)]⟩) := haft
            clear haft
            by_cases hz : Lv = 1
            · subst hz
              have hz' : ((1 : Int) - 1 == 0) = true := rfl
              go_upto_region 15 with fail
              have H4 := HC.out.1.tick HQ.out.1 HC.out.2.2 (v := 0) hpl
              generalize wC.setCell ⟨R, p * 7 + 6, none⟩ (.int .i64 0) = wD at *
              have HD : Hid (PlayW w B K R C wD l rk cm k1 th1 (s.left.set (RK rk p) 0) tv1 cv1 W.heap.size pb rb eb n (s.runs ++ [((RK rk p : Nat) : Int)]) s.ends) := H4
              clear H4 e6 e6f
              have e5 : wD.cell? ⟨R, p * 7 + 5, none⟩ = some (.int .i64 ((RK rk p : Nat) : Int)) := HD.out.core.ent (i := 5) hpr (by omega) rfl
              obtain ⟨ps, pf, pl⟩ := cells_of (l := [_, _]) HD.out.p
              have p1 := ps 1 _ rfl
              have hrkl : RK rk p < l.length := HQ.out.1.lt hpl
              have hrki : ((RK rk p : Nat) : Int) < (l.length : Int) := by omega
              obtain ⟨ec, ef, el⟩ := cells_of (l := s.ends.map (Value.int .i64)) HD.out.ev
              have hel := HR.out.2.2.2.2.2.ends
              have hel2 : RK rk p < (s.ends.map (Value.int .i64)).length := by rw [List.length_map, hel]; exact hrkl
              have e0 := ec (RK rk p) _ (List.getElem?_eq_getElem hel2)
              have ef0 := ef (RK rk p)
              generalize (s.ends.map (Value.int .i64))[RK rk p] = eold at e0
              clear ps pf ec ef hel hel2
              have hS0 : (fun w' : World => w'.cell? ⟨pb, 1, none⟩ = some (.slice (some ⟨eb, 0, none⟩) l.length l.length) ∧ w'.cell? ⟨R, p * 7 + 5, none⟩ = some (.int .i64 ((RK rk p : Nat) : Int))) wD.drew := ⟨p1, e5⟩
              refine wp_region_noPanic ?_
              refine wp_region_last (S := fun w' => w'.cell? ⟨pb, 1, none⟩ = some (.slice (some ⟨eb, 0, none⟩) l.length l.length) ∧ w'.cell? ⟨R, p * 7 + 5, none⟩ = some (.int .i64 ((RK rk p : Nat) : Int))) (L := 9) (by kernel_rfl) ?_
              refine takeL_at (i := 0) (n := 67) (v := ?_) rfl rfl (by kernel_rfl) (by kernel_rfl) (by decide) (by kernel_rfl) (by kernel_rfl) (by kernel_rfl) (fun _ _ _ h => h) (Or.inl ⟨by rfl, ?_⟩) (by assumption) ?_
              rotate_left 1
              · intro wz hSw
                obtain ⟨s0, s1⟩ := hSw
                first | (go_simp; done) | (go_simp; with_reducible rfl)
              simp only [List.set_cons_zero, List.set_cons_succ]
              refine takeL_at (i := 1) (n := 68) (v := ?_) rfl rfl (by kernel_rfl) (by kernel_rfl) (by decide) (by kernel_rfl) (by kernel_rfl) (by kernel_rfl) (fun _ _ _ h => h) (Or.inl ⟨by rfl, ?_⟩) (by assumption) ?_
              rotate_left 1
              · intro wz hSw
                obtain ⟨s0, s1⟩ := hSw
                first | (go_simp; done) | (go_simp; with_reducible rfl)
              simp only [List.set_cons_zero, List.set_cons_succ]
              refine takeL_at (i := 2) (n := 69) (v := ?_) rfl rfl (by kernel_rfl) (by kernel_rfl) (by decide) (by kernel_rfl) (by kernel_rfl) (by kernel_rfl) (fun _ _ _ h => h) (Or.inl ⟨by rfl, ?_⟩) (by assumption) ?_
              rotate_left 1
              · intro wz hSw
                obtain ⟨s0, s1⟩ := hSw
                first | (go_simp; done) | (go_simp; with_reducible rfl)
              simp only [List.set_cons_zero, List.set_cons_succ]
              refine takeL_at (i := 3) (n := 70) (v := ?_) rfl rfl (by kernel_rfl) (by kernel_rfl) (by decide) (by kernel_rfl) (by kernel_rfl) (by kernel_rfl) (fun _ _ _ h => h) (Or.inl ⟨by rfl, ?_⟩) (by assumption) ?_
              rotate_left 1
              · intro wz hSw
                obtain ⟨s0, s1⟩ := hSw
                first | (go_simp; done) | (go_simp; with_reducible rfl)
              simp only [List.set_cons_zero, List.set_cons_succ]
              refine takeL_at (i := 4) (n := 71) (v := ?_) rfl rfl (by kernel_rfl) (by kernel_rfl) (by decide) (by kernel_rfl) (by kernel_rfl) (by kernel_rfl) (fun _ _ _ h => h) (Or.inl ⟨by rfl, ?_⟩) (by assumption) ?_
              rotate_left 1
              · intro wz hSw
                obtain ⟨s0, s1⟩ := hSw
                first | (go_simp; done) | (go_simp; with_reducible rfl)
              simp only [List.set_cons_zero, List.set_cons_succ]
              refine takeL_at (i := 5) (n := 72) (v := ?_) rfl rfl (by kernel_rfl) (by kernel_rfl) (by decide) (by kernel_rfl) (by kernel_rfl) (by kernel_rfl) (fun _ _ _ h => h) (Or.inl ⟨by rfl, ?_⟩) (by assumption) ?_
              rotate_left 1
              · intro wz hSw
                obtain ⟨s0, s1⟩ := hSw
                first | (go_simp; done) | (go_simp; with_reducible rfl)
              simp only [List.set_cons_zero, List.set_cons_succ]
              refine takeL_at (i := 6) (n := 73) (v := ?_) rfl rfl (by kernel_rfl) (by kernel_rfl) (by decide) (by kernel_rfl) (by kernel_rfl) (by kernel_rfl) (fun _ _ _ h => h) (Or.inl ⟨by rfl, ?_⟩) (by assumption) ?_
              rotate_left 1
              · intro wz hSw
                obtain ⟨s0, s1⟩ := hSw
                first | (go_simp; done) | (go_simp; with_reducible rfl)
              simp only [List.set_cons_zero, List.set_cons_succ]
              refine takeL_at (i := 7) (n := 74) (v := ?_) rfl rfl (by kernel_rfl) (by kernel_rfl) (by decide) (by kernel_rfl) (by kernel_rfl) (by kernel_rfl) (fun _ _ _ h => h) (Or.inl ⟨by rfl, ?_⟩) (by assumption) ?_
              rotate_left 1
              · intro wz hSw
                obtain ⟨s0, s1⟩ := hSw
                first | (go_simp; done) | (go_simp; with_reducible rfl)
              simp only [List.set_cons_zero, List.set_cons_succ]
              refine takeL_at (i := 8) (n := 75) (v := ?_) rfl rfl (by kernel_rfl) (by kernel_rfl) (by decide) (by kernel_rfl) (by kernel_rfl) (by kernel_rfl) (fun _ _ _ h => h) (Or.inl ⟨by rfl, ?_⟩) (by assumption) ?_
              rotate_left 1
              · intro wz hSw
                obtain ⟨s0, s1⟩ := hSw
                first | (go_simp; done) | (go_simp; with_reducible rfl)
              simp only [List.set_cons_zero, List.set_cons_succ]
              refine wpAnyL_one (i := 9) (by kernel_rfl) rfl (fun K' hK' => ?_)
              go_simp
              refine hK'.out _ _ (fun h => absurd rfl h) ?_
              clear hK' K'
              refine wpAnyL_done (by kernel_rfl) ?_ _
              refine NoPanic.normal ?_
              have H5 : PlayW w B K R C (wD.setCell ⟨eb, RK rk p, none⟩ (.int .i64 ((t : Int) + 1))).drew l rk cm k1 th1 (s.left.set (RK rk p) 0) tv1 cv1 W.heap.size pb rb eb n (s.runs ++ [((RK rk p : Nat) : Int)]) (s.ends.set (RK rk p) ((t : Int) + 1)) := HD.out.done.drewN 1
              have HE : Hid (PlayW w B K R C (wD.setCell ⟨eb, RK rk p, none⟩ (.int .i64 ((t : Int) + 1))).drew l rk cm k1 th1 (s.left.set (RK rk p) 0) tv1 cv1 W.heap.size pb rb eb n (s.runs ++ [((RK rk p : Nat) : Int)]) (s.ends.set (RK rk p) ((t : Int) + 1))) := H5
              clear H5 hS0 p1 e5 e0 ef0 pl el HD
              have hthl := H1.out.2.1.len HQ.out.2.1
              have HA2 := HA.out
              rw [if_pos (by decide)] at HA2
              have HA3 : Hid (s.after t ((RK rk p : Nat) : Int) = ⟨s.left.set (RK rk p) 0, s.ends.set (RK rk p) ((t : Int) + 1), s.runs ++ [((RK rk p : Nat) : Int)]⟩) := HA2
              clear HA2 HA
              go_wp2_with (go_at_call 34; refine (leave_any B K R C _ l rk cm k1 p th1 (s.left.set (RK rk p) 0) tv1 cv1 HE.out.core H1.out.2.1.asc (by omega) HP.out.2).mono ?_; rintro r w6 ⟨rfl, tv6, hc6, hm6⟩; have H6 : Hid (PlayW w B K R C w6 l rk cm k1 (th1.take (th1.countP (· < p)) ++ th1.drop (th1.countP (· < p) + 1)) (s.left.set (RK rk p) 0) tv6 cv1 W.heap.size pb rb eb n (s.runs ++ [((RK rk p : Nat) : Int)]) (s.ends.set (RK rk p) ((t : Int) + 1))) := HE.out.moved hc6 hm6; clear hc6 hm6)
              refine ⟨⟨t + 1, ⟨s.left.set (RK rk p) 0, s.ends.set (RK rk p) ((t : Int) + 1), s.runs ++ [((RK rk p : Nat) : Int)]⟩, k1, _, tv6, cv1, -1, by omega, by simp, rfl, H6.out, H1.out.2.1.leave HQ.out.1 HQ.out.2.1 HC.out.2.2 HP.out.2, fun q hq => by have := H1.out.2.2.1.come q hq; omega, .inl ⟨?_, rfl⟩, ⟨s, _, HR.out.2.2.2.2.1, HP.out.1, HA3.out.symm⟩⟩, by simp [intOf]; omega⟩
              rintro ⟨-, h2⟩
              rw [last_snoc, Int.toNat_natCast] at h2
              have h3 : 0 < L (s.left.set (RK rk p) 0) (RK rk p) := h2
              rw [L_set (by rw [HC.out.2.2]; exact hrkl), if_pos rfl] at h3
              omega
            · have hz' : (Lv - 1 == 0) = false := by simp; omega
              have hz2 : ¬ (Lv - 1 = 0) := by omega
              have HZ : Hid (0 < Lv - 1) := by have : 0 < Lv - 1 := by omega
                                               exact this
              go_wp2_with fail
              have HA2 := HA.out
              rw [if_neg (by have := HZ.out; omega)] at HA2
              refine ⟨⟨t + 1, ⟨s.left.set (RK rk p) (Lv - 1), s.ends, s.runs ++ [((RK rk p : Nat) : Int)]⟩, k1, th1, tv1, cv1, (p : Int), by omega, by simp, rfl, HC.out.1.tick HQ.out.1 HC.out.2.2 hpl, H1.out.2.1.tick HQ.out.1 HQ.out.2.1 HC.out.2.2 HP.out.2 HZ.out, fun q hq => by have := H1.out.2.2.1.come q hq; omega, .inr ⟨⟨?_, ?_⟩, p, rfl, HP.out.2, last_snoc _ _ _ _⟩, ⟨s, _, HR.out.2.2.2.2.1, HP.out.1, HA2.symm⟩⟩, by simp [intOf]; omega⟩
              · rw [last_snoc]; omega
              · rw [last_snoc, Int.toNat_natCast]
                show 0 < L (s.left.set (RK rk p) (Lv - 1)) (RK rk p)
                rw [L_set (by rw [HC.out.2.2]; exact HQ.out.1.lt hpl), if_pos rfl]
                exact HZ.out
      · have hte : t = n := by omega
        subst hte
        have HE : Hid (PlayW w B K R C wr l rk cm k0 th0 s.left tv0 cv0 W.heap.size pb rb eb t s.runs s.ends ∧ Plays l pol pre t s ∧ Ok l t s) := ⟨hpw, hpl, hokt⟩
        obtain ⟨ps, pf, pl⟩ := cells_of (l := [_, _]) hpw.p
        have p0 := ps 0 _ rfl
        have p1 := ps 1 _ rfl
        obtain ⟨qs, qf, ql⟩ := cells_of (l := [_, _]) hpw.res
        have q0 := qs 0 _ rfl
        have q1 := qs 1 _ rfl
        have qf0 := qf 0
        have qf1 := qf 1
        clear ps pf qs qf hpw hpl hokt hco hbd hrun
        go_wp2_with fail
        refine bodyPost_ret (play_ends (g := W.heap.size) (c := .slice (some ⟨rb, 0, none⟩) t t) (k := .slice (some ⟨eb, 0, none⟩) l.length l.length) (by rw [setCell_at (setCell_at HE.out.1.res)]; rfl) rfl) rfl ?_
        obtain ⟨d1, d2, d3, d4, d5, d6⟩ := HE.out.1.ds
        obtain ⟨b1, b2, b3, b4⟩ := HE.out.1.bs
        have hbs := HE.out.1.base
        refine ⟨s, rb, eb, HE.out.2.1, rfl, ?_, ?_, d6, by omega, by omega, (HE.out.1.bel.setCell (show w.heap.size ≤ W.heap.size by omega) _).setCell (show w.heap.size ≤ W.heap.size by omega) _⟩
        · rw [Below.heap_setCell _ _ _ _ (Ne.symm d2), Below.heap_setCell _ _ _ _ (Ne.symm d2), HE.out.1.rv, ← HE.out.2.2.runs, runCells_full]
        · rw [Below.heap_setCell _ _ _ _ (Ne.symm d3), Below.heap_setCell _ _ _ _ (Ne.symm d3), HE.out.1.ev]
end Go.Proofs.Ythhkmgafacmjpag
