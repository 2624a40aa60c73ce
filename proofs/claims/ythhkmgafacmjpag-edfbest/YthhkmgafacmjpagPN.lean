import Derived.Test.YthhkmgafacmjpagPP
import Derived.Test.YthhkmgafacmjpagPO
namespace Go.Proofs.Ythhkmgafacmjpag
open Go.ChangeShapes Go.WideShapes Go.ChangeAt Go.RowKit Go.Sort

theorem info63 : (Try.prog.info? 63).map (fun i => (i.zero, i.size, i.bytes)) = some (some (.agg #[.int .i64 0, .int .i64 0, .int .i64 0, .int .i64 0, .int .i64 0, .int .i64 0, .int .i64 0]), 7, 56) := by kernel_rfl

theorem made_rep7 (n : Nat) : madeCells (Value.agg #[.int .i64 0, .int .i64 0, .int .i64 0, .int .i64 0, .int .i64 0, .int .i64 0, .int .i64 0]).cells (n * 7) = (List.replicate (n * 7) (Value.int .i64 0)).toArray := by
  have hc : (Value.agg #[.int .i64 0, .int .i64 0, .int .i64 0, .int .i64 0, .int .i64 0, .int .i64 0, .int .i64 0]).cells = #[.int .i64 0, .int .i64 0, .int .i64 0, .int .i64 0, .int .i64 0, .int .i64 0, .int .i64 0] := by simp [Value.cells]
  rw [hc]
  apply Array.ext
  · simp [madeCells]
  · intro i h1 h2
    have : i % 7 < 7 := Nat.mod_lt _ (by decide)
    have h7 : i % 7 = 0 ∨ i % 7 = 1 ∨ i % 7 = 2 ∨ i % 7 = 3 ∨ i % 7 = 4 ∨ i % 7 = 5 ∨ i % 7 = 6 := by omega
    simp only [madeCells, Array.getElem_map, Array.getElem_range, List.getElem_toArray, List.getElem_replicate]
    show (#[.int .i64 0, .int .i64 0, .int .i64 0, .int .i64 0, .int .i64 0, .int .i64 0, .int .i64 0] : Array Value)[i % 7]! = _
    rcases h7 with e | e | e | e | e | e | e <;> rw [e] <;> rfl

theorem make_ents (W : World) (n : Nat) (hn : n ≤ 1000000) : ∃ W', (Instr.makeSlice 59 (.int .i64 (n : Int)) (.int .i64 (n : Int))).run Try.prog W = .ok (.slice (some ⟨W.heap.size, 0, none⟩) n n) W' ∧ Below W.heap.size W W' ∧ W'.heap[W.heap.size]? = some (.cells (List.replicate (n * 7) (Value.int .i64 0)).toArray 63 (0, 0)) := by
  obtain ⟨i0, hi0, hz0, hz1, hz2⟩ := info_parts info63
  have h := run_make (P := Try.prog) W 59 63 i0 _ Try.underlying59 hi0 hz0 .i64 .i64 (n : Int) (n : Int) (by omega) (by omega) (by rw [hz2]; omega) (by omega)
  rw [Int.toNat_natCast, hz1, made_rep7] at h
  exact ⟨_, h, below_new _ _, heap_alloc_new _ _⟩

/-- Two that are there are not one. -/
def Dis (x y : Option Nat) : Prop := ∀ g h, x = some g → y = some h → g ≠ h

theorem Dis.symm {x y : Option Nat} (h : Dis x y) : Dis y x := fun g q e e' => Ne.symm (h q g e' e)

theorem Dis.new {n g : Nat} {y : Option Nat} (hy : ∀ q, y = some q → q < n) (hg : n ≤ g) : Dis (some g) y := fun a q e e' => by cases e; have := hy q e'; omega

/-- What newCore makes first, in any order. -/
structure RegN (N : Nat) (W0 W : World) (m c k a : Option Nat) : Prop where
  bel : Below W0.heap.size W0 W
  hm : ∀ g, m = some g → W.heap[g]? = some (.cells (List.replicate (N * 7) (Value.int .i64 0)).toArray 63 (0, 0)) ∧ W0.heap.size ≤ g
  hc : ∀ g, c = some g → W.heap[g]? = some (.cells (repCells N 0).toArray 3 (0, 0)) ∧ W0.heap.size ≤ g
  hk : ∀ g, k = some g → (∃ gm gc, m = some gm ∧ c = some gc ∧ W.heap[g]? = some (.cells #[.slice (some ⟨gm, 0, none⟩) N N, .slice (some ⟨gc, 0, none⟩) N N, .slice none 0 0] 61 (0, 0))) ∧ W0.heap.size ≤ g
  ha : ∀ g, a = some g → W.heap[g]? = some (.cells #[.pointer none] 50 (0, 0)) ∧ W0.heap.size ≤ g
  dmc : Dis m c
  dmk : Dis m k
  dma : Dis m a
  dck : Dis c k
  dca : Dis c a
  dka : Dis k a

section

variable {N : Nat} {W0 W W' : World} {m c k a : Option Nat}

theorem RegN.start (N : Nat) (W0 : World) : RegN N W0 W0 none none none none := ⟨Below.refl _ _, nofun, nofun, nofun, nofun, nofun, nofun, nofun, nofun, nofun, nofun⟩

theorem RegN.grow (h : RegN N W0 W m c k a) (hb : Below W.heap.size W W') : RegN N W0 W' m c k a :=
  ⟨below_seq h.bel hb, fun g e => ⟨(hb.block g (lt_of_heap (h.hm g e).1)).trans (h.hm g e).1, (h.hm g e).2⟩, fun g e => ⟨(hb.block g (lt_of_heap (h.hc g e).1)).trans (h.hc g e).1, (h.hc g e).2⟩, fun g e => by
    obtain ⟨⟨gm, gc, e1, e2, e3⟩, e4⟩ := h.hk g e
    exact ⟨⟨gm, gc, e1, e2, (hb.block g (lt_of_heap e3)).trans e3⟩, e4⟩, fun g e => ⟨(hb.block g (lt_of_heap (h.ha g e).1)).trans (h.ha g e).1, (h.ha g e).2⟩, h.dmc, h.dmk, h.dma, h.dck, h.dca, h.dka⟩

theorem RegN.lm (h : RegN N W0 W m c k a) : ∀ q, m = some q → q < W.heap.size := fun q e => lt_of_heap (h.hm q e).1

theorem RegN.lc (h : RegN N W0 W m c k a) : ∀ q, c = some q → q < W.heap.size := fun q e => lt_of_heap (h.hc q e).1

theorem RegN.lk (h : RegN N W0 W m c k a) : ∀ q, k = some q → q < W.heap.size := fun q e => by obtain ⟨⟨_, _, _, _, e3⟩, -⟩ := h.hk q e; exact lt_of_heap e3

theorem RegN.la (h : RegN N W0 W m c k a) : ∀ q, a = some q → q < W.heap.size := fun q e => lt_of_heap (h.ha q e).1

theorem RegN.addM (h : RegN N W0 W none c none a) (hb : Below W.heap.size W W') {g : Nat} (hg : W.heap.size ≤ g) (hh : W'.heap[g]? = some (.cells (List.replicate (N * 7) (Value.int .i64 0)).toArray 63 (0, 0))) : RegN N W0 W' (some g) c none a := by
  have h' := h.grow hb
  have hs := h.bel.size
  exact ⟨h'.bel, fun q e => by cases e; exact ⟨hh, by omega⟩, h'.hc, nofun, h'.ha, .new h.lc hg, .new h.lk hg, .new h.la hg, h'.dck, h'.dca, h'.dka⟩

theorem RegN.addC (h : RegN N W0 W m none none a) (hb : Below W.heap.size W W') {g : Nat} (hg : W.heap.size ≤ g) (hh : W'.heap[g]? = some (.cells (repCells N 0).toArray 3 (0, 0))) : RegN N W0 W' m (some g) none a := by
  have h' := h.grow hb
  have hs := h.bel.size
  exact ⟨h'.bel, h'.hm, fun q e => by cases e; exact ⟨hh, by omega⟩, nofun, h'.ha, (Dis.new h.lm hg).symm, h'.dmk, h'.dma, .new h.lk hg, .new h.la hg, h'.dka⟩

theorem RegN.addK {gm gc : Nat} (h : RegN N W0 W (some gm) (some gc) none a) (hb : Below W.heap.size W W') {g : Nat} (hg : W.heap.size ≤ g) (hh : W'.heap[g]? = some (.cells #[.slice (some ⟨gm, 0, none⟩) N N, .slice (some ⟨gc, 0, none⟩) N N, .slice none 0 0] 61 (0, 0))) : RegN N W0 W' (some gm) (some gc) (some g) a := by
  have h' := h.grow hb
  have hs := h.bel.size
  exact ⟨h'.bel, h'.hm, h'.hc, fun q e => by cases e; exact ⟨⟨gm, gc, rfl, rfl, hh⟩, by omega⟩, h'.ha, h'.dmc, (Dis.new h.lm hg).symm, h'.dma, (Dis.new h.lc hg).symm, h'.dca, .new h.la hg⟩

theorem RegN.addA (h : RegN N W0 W m c k none) (hb : Below W.heap.size W W') {g : Nat} (hg : W.heap.size ≤ g) (hh : W'.heap[g]? = some (.cells #[.pointer none] 50 (0, 0))) : RegN N W0 W' m c k (some g) := by
  have h' := h.grow hb
  have hs := h.bel.size
  exact ⟨h'.bel, h'.hm, h'.hc, h'.hk, fun q e => by cases e; exact ⟨hh, by omega⟩, h'.dmc, h'.dmk, (Dis.new h.lm hg).symm, h'.dck, (Dis.new h.lc hg).symm, (Dis.new h.lk hg).symm⟩

end

/-- A core that is being made. -/
structure NewW (w : World) (W : World) (pol : Int) (N pb R C K V : Nat) (rc cc : List Value) : Prop where
  bel : Below w.heap.size w W
  box : W.heap[pb]? = some (.cells #[.int .i64 pol] 3 (0, 0))
  ranked : W.heap[R]? = some (.cells rc.toArray 63 (0, 0))
  comes : W.heap[C]? = some (.cells cc.toArray 3 (0, 0))
  core : W.heap[K]? = some (.cells #[.slice (some ⟨R, 0, none⟩) N N, .slice (some ⟨C, 0, none⟩) N N, .slice none 0 0] 61 (0, 0))
  var : W.heap[V]? = some (.cells #[.pointer (some ⟨K, 0, none⟩)] 50 (0, 0))
  low : w.heap.size ≤ pb ∧ w.heap.size ≤ R ∧ w.heap.size ≤ C ∧ w.heap.size ≤ K ∧ w.heap.size ≤ V
  ds : pb ≠ R ∧ pb ≠ C ∧ pb ≠ K ∧ pb ≠ V ∧ R ≠ C ∧ R ≠ K ∧ R ≠ V ∧ C ≠ K ∧ C ≠ V ∧ K ≠ V

section

variable {w W W' : World} {pol : Int} {N pb R C K V : Nat} {rc cc rc' cc' : List Value}

theorem NewW.grow (h : NewW w W pol N pb R C K V rc cc) (hb : Below W.heap.size W W') : NewW w W' pol N pb R C K V rc cc :=
  ⟨below_seq h.bel hb, (hb.block _ (lt_of_heap h.box)).trans h.box, (hb.block _ (lt_of_heap h.ranked)).trans h.ranked, (hb.block _ (lt_of_heap h.comes)).trans h.comes, (hb.block _ (lt_of_heap h.core)).trans h.core, (hb.block _ (lt_of_heap h.var)).trans h.var, h.low, h.ds⟩

theorem NewW.rank (h : NewW w W pol N pb R C K V rc cc) (hg : W.grownBy W' (some R)) (hh : W'.heap[R]? = some (.cells rc'.toArray 63 (0, 0))) : NewW w W' pol N pb R C K V rc' cc := by
  obtain ⟨d1, d2, d3, d4, d5, d6, d7, d8, d9, d10⟩ := h.ds
  have keep : ∀ q, q < W.heap.size → q ≠ R → W'.heap[q]? = W.heap[q]? := fun q hq hne => hg.block q hq (fun e => hne (Option.some.inj e))
  have hs := h.bel.size
  exact ⟨h.bel.trans (grownBy_below hg hs (fun q e => by cases e; exact h.low.2.1)), (keep _ (lt_of_heap h.box) d1).trans h.box, hh, (keep _ (lt_of_heap h.comes) (Ne.symm d5)).trans h.comes, (keep _ (lt_of_heap h.core) (Ne.symm d6)).trans h.core, (keep _ (lt_of_heap h.var) (Ne.symm d7)).trans h.var, h.low, h.ds⟩

theorem NewW.come (h : NewW w W pol N pb R C K V rc cc) (hg : W.grownBy W' (some C)) (hh : W'.heap[C]? = some (.cells cc'.toArray 3 (0, 0))) : NewW w W' pol N pb R C K V rc cc' := by
  obtain ⟨d1, d2, d3, d4, d5, d6, d7, d8, d9, d10⟩ := h.ds
  have keep : ∀ q, q < W.heap.size → q ≠ C → W'.heap[q]? = W.heap[q]? := fun q hq hne => hg.block q hq (fun e => hne (Option.some.inj e))
  have hs := h.bel.size
  exact ⟨h.bel.trans (grownBy_below hg hs (fun q e => by cases e; exact h.low.2.2.1)), (keep _ (lt_of_heap h.box) d2).trans h.box, (keep _ (lt_of_heap h.ranked) d5).trans h.ranked, hh, (keep _ (lt_of_heap h.core) (Ne.symm d8)).trans h.core, (keep _ (lt_of_heap h.var) (Ne.symm d9)).trans h.var, h.low, h.ds⟩

end

theorem RegN.fin {w W0 Wz : World} {pol : Int} {N m c k a : Nat} (hW0 : (w.alloc (.cells #[.int .i64 pol] 3)).drew = W0) (h : RegN N W0 Wz (some m) (some c) (some k) (some a)) : NewW w (Wz.setCell ⟨a, 0, none⟩ (.pointer (some ⟨k, 0, none⟩))) pol N w.heap.size m c k a (List.replicate (N * 7) (.int .i64 0)) (repCells N 0) := by
  subst hW0
  have hs0 : (w.alloc (.cells #[.int .i64 pol] 3)).drew.heap.size = w.heap.size + 1 := by simp
  obtain ⟨m1, m2⟩ := h.hm m rfl
  obtain ⟨c1, c2⟩ := h.hc c rfl
  obtain ⟨⟨gm, gc, e1, e2, k1⟩, k2⟩ := h.hk k rfl
  cases e1
  cases e2
  obtain ⟨a1, a2⟩ := h.ha a rfl
  rw [hs0] at m2 c2 k2 a2
  have d1 := h.dmc m c rfl rfl
  have d2 := h.dmk m k rfl rfl
  have d3 := h.dma m a rfl rfl
  have d4 := h.dck c k rfl rfl
  have d5 := h.dca c a rfl rfl
  have d6 := h.dka k a rfl rfl
  have hbW : Below w.heap.size w Wz := (below_new w _).trans ((Below.refl _ _).drew.trans (h.bel.mono (by omega)))
  have hbx : Wz.heap[w.heap.size]? = some (.cells #[.int .i64 pol] 3 (0, 0)) := (h.bel.block w.heap.size (by omega)).trans (heap_alloc_new _ _)
  have keep : ∀ q, q ≠ a → (Wz.setCell ⟨a, 0, none⟩ (.pointer (some ⟨k, 0, none⟩))).heap[q]? = Wz.heap[q]? := fun q hq => Below.heap_setCell _ _ _ _ hq
  refine ⟨hbW.setCell (show w.heap.size ≤ a by omega) _, (keep _ (by omega)).trans hbx, (keep _ d3).trans m1, (keep _ d5).trans c1, (keep _ d6).trans k1, ?_, ⟨Nat.le_refl _, by omega, by omega, by omega, by omega⟩, ⟨by omega, by omega, by omega, by omega, d1, d2, d3, d4, d5, d6⟩⟩
  rw [setCell_at a1]; rfl

set_option maxRecDepth 20000 in
set_option maxHeartbeats 2000000 in
theorem newCore_any (w : World) (l : List Jb) (pol : Int) (v : Value) (hv : RowSl Jb.vals w l v) (hp : pol = 1 ∨ pol = 2) (hl : l.length ≤ 4000) :
    Calls Try.prog 19 #[v, .int .i64 pol] w fun r W => ∃ B K R C rk cm tv cv, r = .returned (.pointer (some ⟨K, 0, none⟩)) ∧ CoreW B K R C W l rk cm 0 [] (l.map (·.c)) tv cv ∧ Ranked l pol rk ∧ Coming l rk cm ∧ Below w.heap.size w W ∧ w.heap.size ≤ K ∧ w.heap.size ≤ R ∧ w.heap.size ≤ C := by
  obtain ⟨ad, c, rfl⟩ := hv.len
  have HV : Hid (RowSl Jb.vals w l (.slice ad l.length c)) := hv
  clear hv
  go_enter Try.func19, Try.ntmps19
  go_upto_region 1 with fail
  go_cut [5] from 9 to 16 (fun v wc => ∃ R C K V, v = .pointer (some ⟨V, 0, none⟩) ∧ NewW w wc pol l.length w.heap.size R C K V (List.replicate (l.length * 7) (.int .i64 0)) (repCells l.length 0))
  case first =>
    have hS0 : (fun _ : World => True) (w.alloc (.cells #[.int .i64 pol] 3)).drew := trivial
    have hX : Hid (RegN l.length (w.alloc (.cells #[.int .i64 pol] 3)).drew (w.alloc (.cells #[.int .i64 pol] 3)).drew none none none none) := RegN.start _ _
    refine wp_region_noPanic ?_
    refine wp_region_held_drew (S := fun _ => True) (by kernel_rfl) hS0 (fun hHeld => ?_)
    refine take_at (i := 0) (n := 9) (v := ?_) rfl rfl (by kernel_rfl) (by kernel_rfl) (by kernel_rfl) (fun _ _ _ h => h) (Or.inl ⟨by rfl, ?_⟩) (by assumption) ?_
    rotate_left 1
    · intro wz hSw
      first | (go_simp; done) | (go_simp; with_reducible rfl)
    simp only [List.set_cons_zero, List.set_cons_succ]
    refine take_at (i := 1) (n := 10) (v := ?_) rfl rfl (by kernel_rfl) (by kernel_rfl) (by kernel_rfl) (fun _ _ _ h => h) (Or.inl ⟨by rfl, ?_⟩) (by assumption) ?_
    rotate_left 1
    · intro wz hSw
      first | (go_simp; done) | (go_simp; with_reducible rfl)
    simp only [List.set_cons_zero, List.set_cons_succ]
    refine take_at (i := 3) (n := 12) (v := ?_) rfl rfl (by kernel_rfl) (by kernel_rfl) (by kernel_rfl) (fun _ _ _ h => h) (Or.inl ⟨by rfl, ?_⟩) (by assumption) ?_
    rotate_left 1
    · intro wz hSw
      first | (go_simp; done) | (go_simp; with_reducible rfl)
    simp only [List.set_cons_zero, List.set_cons_succ]
    refine take_at (i := 4) (n := 13) (v := ?_) rfl rfl (by kernel_rfl) (by kernel_rfl) (by kernel_rfl) (fun _ _ _ h => h) (Or.inl ⟨by rfl, ?_⟩) (by assumption) ?_
    rotate_left 1
    · intro wz hSw
      first | (go_simp; done) | (go_simp; with_reducible rfl)
    simp only [List.set_cons_zero, List.set_cons_succ]
    generalize hW0 : (w.alloc (.cells #[.int .i64 pol] 3)).drew = W0 at *
    have HW0 : Hid ((w.alloc (.cells #[.int .i64 pol] 3)).drew = W0) := hW0
    clear hW0
    refine wpAnyH_ready (rs := [2, 5, 8]) (by kernel_rfl) (by simp) ?_
    refine AllReadyH.cons rfl (fun K' hK' => ?_) (AllReadyH.cons rfl (fun K' hK' => ?_) (AllReadyH.cons rfl (fun K' hK' => ?_) (AllReadyH.nil)))
    · skip
      obtain ⟨wn1, hmk, hb9, hh9⟩ := make_ents W0 l.length (by omega)
      have hY := hX.out.addM hb9 (Nat.le_refl _) hh9
      go_simp
      refine hK'.out _ _ trivial (fun hHeld => ?_)
      clear hK' K' hX
      have hX : Hid (RegN l.length W0 wn1 (some W0.heap.size) none none none) := hY
      clear hY
      refine wpAnyH_ready (rs := [5, 8]) (by kernel_rfl) (by simp) ?_
      refine AllReadyH.cons rfl (fun K' hK' => ?_) (AllReadyH.cons rfl (fun K' hK' => ?_) (AllReadyH.nil))
      · skip
        obtain ⟨wn2, hmk, hb9, hh9⟩ := make_ex wn1 l.length (by omega)
        have hY := hX.out.addC hb9 (Nat.le_refl _) hh9
        go_simp
        refine hK'.out _ _ trivial (fun hHeld => ?_)
        clear hK' K' hX
        have hX : Hid (RegN l.length W0 wn2 (some W0.heap.size) (some wn1.heap.size) none none) := hY
        clear hY
        refine take_at (i := 6) (n := 15) (v := ?_) rfl rfl (by kernel_rfl) (by kernel_rfl) (by kernel_rfl) (fun _ _ _ h => h) (Or.inl ⟨by rfl, ?_⟩) (by assumption) ?_
        rotate_left 1
        · intro wz hSw
          first | (go_simp; done) | (go_simp; with_reducible rfl)
        simp only [List.set_cons_zero, List.set_cons_succ]
        refine wpAnyH_ready (rs := [7, 8]) (by kernel_rfl) (by simp) ?_
        refine AllReadyH.cons rfl (fun K' hK' => ?_) (AllReadyH.cons rfl (fun K' hK' => ?_) (AllReadyH.nil))
        · skip
          have hY := hX.out.addK (below_new wn2 (.cells #[.slice (some ⟨W0.heap.size, 0, none⟩) l.length l.length, .slice (some ⟨wn1.heap.size, 0, none⟩) l.length l.length, .slice none 0 0] 61)) (Nat.le_refl _) (heap_alloc_new _ _)
          go_simp
          generalize wn2.alloc (.cells #[.slice (some ⟨W0.heap.size, 0, none⟩) l.length l.length, .slice (some ⟨wn1.heap.size, 0, none⟩) l.length l.length, .slice none 0 0] 61) = wn3 at hY ⊢
          refine hK'.out _ _ trivial (fun hHeld => ?_)
          clear hK' K' hX
          have hX : Hid (RegN l.length W0 wn3 (some W0.heap.size) (some wn1.heap.size) (some wn2.heap.size) none) := hY
          clear hY
          refine wpAnyH_ready (rs := [8]) (by kernel_rfl) (by simp) ?_
          refine AllReadyH.cons rfl (fun K' hK' => ?_) (AllReadyH.nil)
          · skip
            have hY := hX.out.addA (below_new wn3 (.cells #[.pointer none] 50)) (Nat.le_refl _) (heap_alloc_new _ _)
            go_simp
            generalize wn3.alloc (.cells #[.pointer none] 50) = wn4 at hY ⊢
            refine hK'.out _ _ trivial (fun hHeld => ?_)
            clear hK' K' hX
            have hX : Hid (RegN l.length W0 wn4 (some W0.heap.size) (some wn1.heap.size) (some wn2.heap.size) (some wn3.heap.size)) := hY
            clear hY
            obtain ⟨ps, pf, pl⟩ := cells_of (l := [_]) (hX.out.ha _ rfl).1
            have p0 := ps 0 _ rfl
            have pf0 := pf 0
            clear ps pf
            refine wpAnyH_ready (rs := [9]) (by kernel_rfl) (by simp) ?_
            refine AllReadyH.cons rfl (fun K' hK' => ?_) AllReadyH.nil
            go_simp
            refine hK'.out _ _ trivial (fun hHeld => ?_)
            clear hK' K'
            refine wpAnyH_done (by kernel_rfl) ?_ _
            refine NoPanic.normal ?_
            go_wp2_with fail
            go_meet
            case rel =>
              exact ⟨_, _, _, _, rfl, RegN.fin HW0.out hX.out⟩
        · skip
          have hY := hX.out.addA (below_new wn2 (.cells #[.pointer none] 50)) (Nat.le_refl _) (heap_alloc_new _ _)
          go_simp
          generalize wn2.alloc (.cells #[.pointer none] 50) = wn5 at hY ⊢
          refine hK'.out _ _ trivial (fun hHeld => ?_)
          clear hK' K' hX
          have hX : Hid (RegN l.length W0 wn5 (some W0.heap.size) (some wn1.heap.size) none (some wn2.heap.size)) := hY
          clear hY
          refine wpAnyH_ready (rs := [7]) (by kernel_rfl) (by simp) ?_
          refine AllReadyH.cons rfl (fun K' hK' => ?_) (AllReadyH.nil)
          · skip
            have hY := hX.out.addK (below_new wn5 (.cells #[.slice (some ⟨W0.heap.size, 0, none⟩) l.length l.length, .slice (some ⟨wn1.heap.size, 0, none⟩) l.length l.length, .slice none 0 0] 61)) (Nat.le_refl _) (heap_alloc_new _ _)
            go_simp
            generalize wn5.alloc (.cells #[.slice (some ⟨W0.heap.size, 0, none⟩) l.length l.length, .slice (some ⟨wn1.heap.size, 0, none⟩) l.length l.length, .slice none 0 0] 61) = wn6 at hY ⊢
            refine hK'.out _ _ trivial (fun hHeld => ?_)
            clear hK' K' hX
            have hX : Hid (RegN l.length W0 wn6 (some W0.heap.size) (some wn1.heap.size) (some wn5.heap.size) (some wn2.heap.size)) := hY
            clear hY
            obtain ⟨ps, pf, pl⟩ := cells_of (l := [_]) (hX.out.ha _ rfl).1
            have p0 := ps 0 _ rfl
            have pf0 := pf 0
            clear ps pf
            refine wpAnyH_ready (rs := [9]) (by kernel_rfl) (by simp) ?_
            refine AllReadyH.cons rfl (fun K' hK' => ?_) AllReadyH.nil
            go_simp
            refine hK'.out _ _ trivial (fun hHeld => ?_)
            clear hK' K'
            refine wpAnyH_done (by kernel_rfl) ?_ _
            refine NoPanic.normal ?_
            go_wp2_with fail
            go_meet
            case rel =>
              exact ⟨_, _, _, _, rfl, RegN.fin HW0.out hX.out⟩
      · skip
        have hY := hX.out.addA (below_new wn1 (.cells #[.pointer none] 50)) (Nat.le_refl _) (heap_alloc_new _ _)
        go_simp
        generalize wn1.alloc (.cells #[.pointer none] 50) = wn7 at hY ⊢
        refine hK'.out _ _ trivial (fun hHeld => ?_)
        clear hK' K' hX
        have hX : Hid (RegN l.length W0 wn7 (some W0.heap.size) none none (some wn1.heap.size)) := hY
        clear hY
        refine wpAnyH_ready (rs := [5]) (by kernel_rfl) (by simp) ?_
        refine AllReadyH.cons rfl (fun K' hK' => ?_) (AllReadyH.nil)
        · skip
          obtain ⟨wn8, hmk, hb9, hh9⟩ := make_ex wn7 l.length (by omega)
          have hY := hX.out.addC hb9 (Nat.le_refl _) hh9
          go_simp
          refine hK'.out _ _ trivial (fun hHeld => ?_)
          clear hK' K' hX
          have hX : Hid (RegN l.length W0 wn8 (some W0.heap.size) (some wn7.heap.size) none (some wn1.heap.size)) := hY
          clear hY
          refine take_at (i := 6) (n := 15) (v := ?_) rfl rfl (by kernel_rfl) (by kernel_rfl) (by kernel_rfl) (fun _ _ _ h => h) (Or.inl ⟨by rfl, ?_⟩) (by assumption) ?_
          rotate_left 1
          · intro wz hSw
            first | (go_simp; done) | (go_simp; with_reducible rfl)
          simp only [List.set_cons_zero, List.set_cons_succ]
          refine wpAnyH_ready (rs := [7]) (by kernel_rfl) (by simp) ?_
          refine AllReadyH.cons rfl (fun K' hK' => ?_) (AllReadyH.nil)
          · skip
            have hY := hX.out.addK (below_new wn8 (.cells #[.slice (some ⟨W0.heap.size, 0, none⟩) l.length l.length, .slice (some ⟨wn7.heap.size, 0, none⟩) l.length l.length, .slice none 0 0] 61)) (Nat.le_refl _) (heap_alloc_new _ _)
            go_simp
            generalize wn8.alloc (.cells #[.slice (some ⟨W0.heap.size, 0, none⟩) l.length l.length, .slice (some ⟨wn7.heap.size, 0, none⟩) l.length l.length, .slice none 0 0] 61) = wn9 at hY ⊢
            refine hK'.out _ _ trivial (fun hHeld => ?_)
            clear hK' K' hX
            have hX : Hid (RegN l.length W0 wn9 (some W0.heap.size) (some wn7.heap.size) (some wn8.heap.size) (some wn1.heap.size)) := hY
            clear hY
            obtain ⟨ps, pf, pl⟩ := cells_of (l := [_]) (hX.out.ha _ rfl).1
            have p0 := ps 0 _ rfl
            have pf0 := pf 0
            clear ps pf
            refine wpAnyH_ready (rs := [9]) (by kernel_rfl) (by simp) ?_
            refine AllReadyH.cons rfl (fun K' hK' => ?_) AllReadyH.nil
            go_simp
            refine hK'.out _ _ trivial (fun hHeld => ?_)
            clear hK' K'
            refine wpAnyH_done (by kernel_rfl) ?_ _
            refine NoPanic.normal ?_
            go_wp2_with fail
            go_meet
            case rel =>
              exact ⟨_, _, _, _, rfl, RegN.fin HW0.out hX.out⟩
    · skip
      obtain ⟨wn10, hmk, hb9, hh9⟩ := make_ex W0 l.length (by omega)
      have hY := hX.out.addC hb9 (Nat.le_refl _) hh9
      go_simp
      refine hK'.out _ _ trivial (fun hHeld => ?_)
      clear hK' K' hX
      have hX : Hid (RegN l.length W0 wn10 none (some W0.heap.size) none none) := hY
      clear hY
      refine wpAnyH_ready (rs := [2, 8]) (by kernel_rfl) (by simp) ?_
      refine AllReadyH.cons rfl (fun K' hK' => ?_) (AllReadyH.cons rfl (fun K' hK' => ?_) (AllReadyH.nil))
      · skip
        obtain ⟨wn11, hmk, hb9, hh9⟩ := make_ents wn10 l.length (by omega)
        have hY := hX.out.addM hb9 (Nat.le_refl _) hh9
        go_simp
        refine hK'.out _ _ trivial (fun hHeld => ?_)
        clear hK' K' hX
        have hX : Hid (RegN l.length W0 wn11 (some wn10.heap.size) (some W0.heap.size) none none) := hY
        clear hY
        refine take_at (i := 6) (n := 15) (v := ?_) rfl rfl (by kernel_rfl) (by kernel_rfl) (by kernel_rfl) (fun _ _ _ h => h) (Or.inl ⟨by rfl, ?_⟩) (by assumption) ?_
        rotate_left 1
        · intro wz hSw
          first | (go_simp; done) | (go_simp; with_reducible rfl)
        simp only [List.set_cons_zero, List.set_cons_succ]
        refine wpAnyH_ready (rs := [7, 8]) (by kernel_rfl) (by simp) ?_
        refine AllReadyH.cons rfl (fun K' hK' => ?_) (AllReadyH.cons rfl (fun K' hK' => ?_) (AllReadyH.nil))
        · skip
          have hY := hX.out.addK (below_new wn11 (.cells #[.slice (some ⟨wn10.heap.size, 0, none⟩) l.length l.length, .slice (some ⟨W0.heap.size, 0, none⟩) l.length l.length, .slice none 0 0] 61)) (Nat.le_refl _) (heap_alloc_new _ _)
          go_simp
          generalize wn11.alloc (.cells #[.slice (some ⟨wn10.heap.size, 0, none⟩) l.length l.length, .slice (some ⟨W0.heap.size, 0, none⟩) l.length l.length, .slice none 0 0] 61) = wn12 at hY ⊢
          refine hK'.out _ _ trivial (fun hHeld => ?_)
          clear hK' K' hX
          have hX : Hid (RegN l.length W0 wn12 (some wn10.heap.size) (some W0.heap.size) (some wn11.heap.size) none) := hY
          clear hY
          refine wpAnyH_ready (rs := [8]) (by kernel_rfl) (by simp) ?_
          refine AllReadyH.cons rfl (fun K' hK' => ?_) (AllReadyH.nil)
          · skip
            have hY := hX.out.addA (below_new wn12 (.cells #[.pointer none] 50)) (Nat.le_refl _) (heap_alloc_new _ _)
            go_simp
            generalize wn12.alloc (.cells #[.pointer none] 50) = wn13 at hY ⊢
            refine hK'.out _ _ trivial (fun hHeld => ?_)
            clear hK' K' hX
            have hX : Hid (RegN l.length W0 wn13 (some wn10.heap.size) (some W0.heap.size) (some wn11.heap.size) (some wn12.heap.size)) := hY
            clear hY
            obtain ⟨ps, pf, pl⟩ := cells_of (l := [_]) (hX.out.ha _ rfl).1
            have p0 := ps 0 _ rfl
            have pf0 := pf 0
            clear ps pf
            refine wpAnyH_ready (rs := [9]) (by kernel_rfl) (by simp) ?_
            refine AllReadyH.cons rfl (fun K' hK' => ?_) AllReadyH.nil
            go_simp
            refine hK'.out _ _ trivial (fun hHeld => ?_)
            clear hK' K'
            refine wpAnyH_done (by kernel_rfl) ?_ _
            refine NoPanic.normal ?_
            go_wp2_with fail
            go_meet
            case rel =>
              exact ⟨_, _, _, _, rfl, RegN.fin HW0.out hX.out⟩
        · skip
          have hY := hX.out.addA (below_new wn11 (.cells #[.pointer none] 50)) (Nat.le_refl _) (heap_alloc_new _ _)
          go_simp
          generalize wn11.alloc (.cells #[.pointer none] 50) = wn14 at hY ⊢
          refine hK'.out _ _ trivial (fun hHeld => ?_)
          clear hK' K' hX
          have hX : Hid (RegN l.length W0 wn14 (some wn10.heap.size) (some W0.heap.size) none (some wn11.heap.size)) := hY
          clear hY
          refine wpAnyH_ready (rs := [7]) (by kernel_rfl) (by simp) ?_
          refine AllReadyH.cons rfl (fun K' hK' => ?_) (AllReadyH.nil)
          · skip
            have hY := hX.out.addK (below_new wn14 (.cells #[.slice (some ⟨wn10.heap.size, 0, none⟩) l.length l.length, .slice (some ⟨W0.heap.size, 0, none⟩) l.length l.length, .slice none 0 0] 61)) (Nat.le_refl _) (heap_alloc_new _ _)
            go_simp
            generalize wn14.alloc (.cells #[.slice (some ⟨wn10.heap.size, 0, none⟩) l.length l.length, .slice (some ⟨W0.heap.size, 0, none⟩) l.length l.length, .slice none 0 0] 61) = wn15 at hY ⊢
            refine hK'.out _ _ trivial (fun hHeld => ?_)
            clear hK' K' hX
            have hX : Hid (RegN l.length W0 wn15 (some wn10.heap.size) (some W0.heap.size) (some wn14.heap.size) (some wn11.heap.size)) := hY
            clear hY
            obtain ⟨ps, pf, pl⟩ := cells_of (l := [_]) (hX.out.ha _ rfl).1
            have p0 := ps 0 _ rfl
            have pf0 := pf 0
            clear ps pf
            refine wpAnyH_ready (rs := [9]) (by kernel_rfl) (by simp) ?_
            refine AllReadyH.cons rfl (fun K' hK' => ?_) AllReadyH.nil
            go_simp
            refine hK'.out _ _ trivial (fun hHeld => ?_)
            clear hK' K'
            refine wpAnyH_done (by kernel_rfl) ?_ _
            refine NoPanic.normal ?_
            go_wp2_with fail
            go_meet
            case rel =>
              exact ⟨_, _, _, _, rfl, RegN.fin HW0.out hX.out⟩
      · skip
        have hY := hX.out.addA (below_new wn10 (.cells #[.pointer none] 50)) (Nat.le_refl _) (heap_alloc_new _ _)
        go_simp
        generalize wn10.alloc (.cells #[.pointer none] 50) = wn16 at hY ⊢
        refine hK'.out _ _ trivial (fun hHeld => ?_)
        clear hK' K' hX
        have hX : Hid (RegN l.length W0 wn16 none (some W0.heap.size) none (some wn10.heap.size)) := hY
        clear hY
        refine wpAnyH_ready (rs := [2]) (by kernel_rfl) (by simp) ?_
        refine AllReadyH.cons rfl (fun K' hK' => ?_) (AllReadyH.nil)
        · skip
          obtain ⟨wn17, hmk, hb9, hh9⟩ := make_ents wn16 l.length (by omega)
          have hY := hX.out.addM hb9 (Nat.le_refl _) hh9
          go_simp
          refine hK'.out _ _ trivial (fun hHeld => ?_)
          clear hK' K' hX
          have hX : Hid (RegN l.length W0 wn17 (some wn16.heap.size) (some W0.heap.size) none (some wn10.heap.size)) := hY
          clear hY
          refine take_at (i := 6) (n := 15) (v := ?_) rfl rfl (by kernel_rfl) (by kernel_rfl) (by kernel_rfl) (fun _ _ _ h => h) (Or.inl ⟨by rfl, ?_⟩) (by assumption) ?_
          rotate_left 1
          · intro wz hSw
            first | (go_simp; done) | (go_simp; with_reducible rfl)
          simp only [List.set_cons_zero, List.set_cons_succ]
          refine wpAnyH_ready (rs := [7]) (by kernel_rfl) (by simp) ?_
          refine AllReadyH.cons rfl (fun K' hK' => ?_) (AllReadyH.nil)
          · skip
            have hY := hX.out.addK (below_new wn17 (.cells #[.slice (some ⟨wn16.heap.size, 0, none⟩) l.length l.length, .slice (some ⟨W0.heap.size, 0, none⟩) l.length l.length, .slice none 0 0] 61)) (Nat.le_refl _) (heap_alloc_new _ _)
            go_simp
            generalize wn17.alloc (.cells #[.slice (some ⟨wn16.heap.size, 0, none⟩) l.length l.length, .slice (some ⟨W0.heap.size, 0, none⟩) l.length l.length, .slice none 0 0] 61) = wn18 at hY ⊢
            refine hK'.out _ _ trivial (fun hHeld => ?_)
            clear hK' K' hX
            have hX : Hid (RegN l.length W0 wn18 (some wn16.heap.size) (some W0.heap.size) (some wn17.heap.size) (some wn10.heap.size)) := hY
            clear hY
            obtain ⟨ps, pf, pl⟩ := cells_of (l := [_]) (hX.out.ha _ rfl).1
            have p0 := ps 0 _ rfl
            have pf0 := pf 0
            clear ps pf
            refine wpAnyH_ready (rs := [9]) (by kernel_rfl) (by simp) ?_
            refine AllReadyH.cons rfl (fun K' hK' => ?_) AllReadyH.nil
            go_simp
            refine hK'.out _ _ trivial (fun hHeld => ?_)
            clear hK' K'
            refine wpAnyH_done (by kernel_rfl) ?_ _
            refine NoPanic.normal ?_
            go_wp2_with fail
            go_meet
            case rel =>
              exact ⟨_, _, _, _, rfl, RegN.fin HW0.out hX.out⟩
    · skip
      have hY := hX.out.addA (below_new W0 (.cells #[.pointer none] 50)) (Nat.le_refl _) (heap_alloc_new _ _)
      go_simp
      generalize W0.alloc (.cells #[.pointer none] 50) = wn19 at hY ⊢
      refine hK'.out _ _ trivial (fun hHeld => ?_)
      clear hK' K' hX
      have hX : Hid (RegN l.length W0 wn19 none none none (some W0.heap.size)) := hY
      clear hY
      refine wpAnyH_ready (rs := [2, 5]) (by kernel_rfl) (by simp) ?_
      refine AllReadyH.cons rfl (fun K' hK' => ?_) (AllReadyH.cons rfl (fun K' hK' => ?_) (AllReadyH.nil))
      · skip
        obtain ⟨wn20, hmk, hb9, hh9⟩ := make_ents wn19 l.length (by omega)
        have hY := hX.out.addM hb9 (Nat.le_refl _) hh9
        go_simp
        refine hK'.out _ _ trivial (fun hHeld => ?_)
        clear hK' K' hX
        have hX : Hid (RegN l.length W0 wn20 (some wn19.heap.size) none none (some W0.heap.size)) := hY
        clear hY
        refine wpAnyH_ready (rs := [5]) (by kernel_rfl) (by simp) ?_
        refine AllReadyH.cons rfl (fun K' hK' => ?_) (AllReadyH.nil)
        · skip
          obtain ⟨wn21, hmk, hb9, hh9⟩ := make_ex wn20 l.length (by omega)
          have hY := hX.out.addC hb9 (Nat.le_refl _) hh9
          go_simp
          refine hK'.out _ _ trivial (fun hHeld => ?_)
          clear hK' K' hX
          have hX : Hid (RegN l.length W0 wn21 (some wn19.heap.size) (some wn20.heap.size) none (some W0.heap.size)) := hY
          clear hY
          refine take_at (i := 6) (n := 15) (v := ?_) rfl rfl (by kernel_rfl) (by kernel_rfl) (by kernel_rfl) (fun _ _ _ h => h) (Or.inl ⟨by rfl, ?_⟩) (by assumption) ?_
          rotate_left 1
          · intro wz hSw
            first | (go_simp; done) | (go_simp; with_reducible rfl)
          simp only [List.set_cons_zero, List.set_cons_succ]
          refine wpAnyH_ready (rs := [7]) (by kernel_rfl) (by simp) ?_
          refine AllReadyH.cons rfl (fun K' hK' => ?_) (AllReadyH.nil)
          · skip
            have hY := hX.out.addK (below_new wn21 (.cells #[.slice (some ⟨wn19.heap.size, 0, none⟩) l.length l.length, .slice (some ⟨wn20.heap.size, 0, none⟩) l.length l.length, .slice none 0 0] 61)) (Nat.le_refl _) (heap_alloc_new _ _)
            go_simp
            generalize wn21.alloc (.cells #[.slice (some ⟨wn19.heap.size, 0, none⟩) l.length l.length, .slice (some ⟨wn20.heap.size, 0, none⟩) l.length l.length, .slice none 0 0] 61) = wn22 at hY ⊢
            refine hK'.out _ _ trivial (fun hHeld => ?_)
            clear hK' K' hX
            have hX : Hid (RegN l.length W0 wn22 (some wn19.heap.size) (some wn20.heap.size) (some wn21.heap.size) (some W0.heap.size)) := hY
            clear hY
            obtain ⟨ps, pf, pl⟩ := cells_of (l := [_]) (hX.out.ha _ rfl).1
            have p0 := ps 0 _ rfl
            have pf0 := pf 0
            clear ps pf
            refine wpAnyH_ready (rs := [9]) (by kernel_rfl) (by simp) ?_
            refine AllReadyH.cons rfl (fun K' hK' => ?_) AllReadyH.nil
            go_simp
            refine hK'.out _ _ trivial (fun hHeld => ?_)
            clear hK' K'
            refine wpAnyH_done (by kernel_rfl) ?_ _
            refine NoPanic.normal ?_
            go_wp2_with fail
            go_meet
            case rel =>
              exact ⟨_, _, _, _, rfl, RegN.fin HW0.out hX.out⟩
      · skip
        obtain ⟨wn23, hmk, hb9, hh9⟩ := make_ex wn19 l.length (by omega)
        have hY := hX.out.addC hb9 (Nat.le_refl _) hh9
        go_simp
        refine hK'.out _ _ trivial (fun hHeld => ?_)
        clear hK' K' hX
        have hX : Hid (RegN l.length W0 wn23 none (some wn19.heap.size) none (some W0.heap.size)) := hY
        clear hY
        refine wpAnyH_ready (rs := [2]) (by kernel_rfl) (by simp) ?_
        refine AllReadyH.cons rfl (fun K' hK' => ?_) (AllReadyH.nil)
        · skip
          obtain ⟨wn24, hmk, hb9, hh9⟩ := make_ents wn23 l.length (by omega)
          have hY := hX.out.addM hb9 (Nat.le_refl _) hh9
          go_simp
          refine hK'.out _ _ trivial (fun hHeld => ?_)
          clear hK' K' hX
          have hX : Hid (RegN l.length W0 wn24 (some wn23.heap.size) (some wn19.heap.size) none (some W0.heap.size)) := hY
          clear hY
          refine take_at (i := 6) (n := 15) (v := ?_) rfl rfl (by kernel_rfl) (by kernel_rfl) (by kernel_rfl) (fun _ _ _ h => h) (Or.inl ⟨by rfl, ?_⟩) (by assumption) ?_
          rotate_left 1
          · intro wz hSw
            first | (go_simp; done) | (go_simp; with_reducible rfl)
          simp only [List.set_cons_zero, List.set_cons_succ]
          refine wpAnyH_ready (rs := [7]) (by kernel_rfl) (by simp) ?_
          refine AllReadyH.cons rfl (fun K' hK' => ?_) (AllReadyH.nil)
          · skip
            have hY := hX.out.addK (below_new wn24 (.cells #[.slice (some ⟨wn23.heap.size, 0, none⟩) l.length l.length, .slice (some ⟨wn19.heap.size, 0, none⟩) l.length l.length, .slice none 0 0] 61)) (Nat.le_refl _) (heap_alloc_new _ _)
            go_simp
            generalize wn24.alloc (.cells #[.slice (some ⟨wn23.heap.size, 0, none⟩) l.length l.length, .slice (some ⟨wn19.heap.size, 0, none⟩) l.length l.length, .slice none 0 0] 61) = wn25 at hY ⊢
            refine hK'.out _ _ trivial (fun hHeld => ?_)
            clear hK' K' hX
            have hX : Hid (RegN l.length W0 wn25 (some wn23.heap.size) (some wn19.heap.size) (some wn24.heap.size) (some W0.heap.size)) := hY
            clear hY
            obtain ⟨ps, pf, pl⟩ := cells_of (l := [_]) (hX.out.ha _ rfl).1
            have p0 := ps 0 _ rfl
            have pf0 := pf 0
            clear ps pf
            refine wpAnyH_ready (rs := [9]) (by kernel_rfl) (by simp) ?_
            refine AllReadyH.cons rfl (fun K' hK' => ?_) AllReadyH.nil
            go_simp
            refine hK'.out _ _ trivial (fun hHeld => ?_)
            clear hK' K'
            refine wpAnyH_done (by kernel_rfl) ?_ _
            refine NoPanic.normal ?_
            go_wp2_with fail
            go_meet
            case rel =>
              exact ⟨_, _, _, _, rfl, RegN.fin HW0.out hX.out⟩
  case rest =>
    obtain ⟨R, C, K, V, rfl, hnw⟩ := hcut
    have H0 : Hid (NewW w wc pol l.length w.heap.size R C K V (List.replicate (l.length * 7) (.int .i64 0)) (repCells l.length 0)) := hnw
    clear hnw
    go_wp2_with fail
    go_loopw [19] (fun i wr => ∃ j : Nat, j ≤ l.length ∧ i = .int .i64 j ∧ NewW w wr pol l.length w.heap.size R C K V ((rkRow l j).flatMap En.vals) (repCells l.length 0)) (fun i _ => l.length - (intOf i).toNat)
    case atStart => exact ⟨0, Nat.zero_le _, rfl, by rw [rkRow_start]; exact H0.out⟩
    case round =>
      obtain ⟨j, hj, rfl, hn⟩ := hrel
      by_cases hjl : j < l.length
      · obtain ⟨x, hx, -⟩ := drop_at hjl
        have hJ : J l j = x := by unfold J; rw [List.getD_eq_getElem?_getD, hx]; rfl
        obtain ⟨_, _, e, -, -, hrow⟩ := HV.out
        cases e
        rcases hrow with h | ⟨gb, go, rfl, hr1⟩
        · rw [h] at hjl; simp at hjl
        obtain ⟨y0, y1, y2, y3, y4⟩ := jb_at (fun q u hq => below_cell hn.bel (hr1 q u hq)) hx
        obtain ⟨xk, xa, xc, xd, xp⟩ := x
        dsimp only at y0 y1 y2 y3 y4
        have HJ : Hid (J l j = ⟨xk, xa, xc, xd, xp⟩) := hJ
        have HN : Hid (NewW w (wr.alloc (.cells #[.int .i64 xk, .int .i64 xa, .int .i64 xc, .int .i64 xd, .int .i64 xp] 30)) pol l.length w.heap.size R C K V ((rkRow l j).flatMap En.vals) (repCells l.length 0)) := hn.grow (below_new _ _)
        have hbx := heap_alloc_new wr (.cells #[.int .i64 xk, .int .i64 xa, .int .i64 xc, .int .i64 xd, .int .i64 xp] 30)
        clear hr1 hx hJ hn
        go_upto_region 5 with fail
        have hji : (j : Int) < (l.length : Int) := by omega
        obtain ⟨bs, -, bl⟩ := cells_of (l := [_, _, _, _, _]) hbx
        have v0 := (cells_of (l := [_]) HN.out.var).1 0 _ rfl
        have k0 := (cells_of (l := [_, _, _]) HN.out.core).1 0 _ rfl
        have hS0 : (fun w' : World => w'.cell? ⟨V, 0, none⟩ = some (.pointer (some ⟨K, 0, none⟩)) ∧ w'.cell? ⟨K, 0, none⟩ = some (.slice (some ⟨R, 0, none⟩) l.length l.length) ∧ w'.cell? ⟨wr.heap.size, 0, none⟩ = some (.int .i64 xk) ∧ w'.cell? ⟨wr.heap.size, 1, none⟩ = some (.int .i64 xa) ∧ w'.cell? ⟨wr.heap.size, 2, none⟩ = some (.int .i64 xc) ∧ w'.cell? ⟨wr.heap.size, 3, none⟩ = some (.int .i64 xd) ∧ w'.cell? ⟨wr.heap.size, 4, none⟩ = some (.int .i64 xp)) (wr.alloc (.cells #[.int .i64 xk, .int .i64 xa, .int .i64 xc, .int .i64 xd, .int .i64 xp] 30)).drew := ⟨v0, k0, bs 0 _ rfl, bs 1 _ rfl, bs 2 _ rfl, bs 3 _ rfl, bs 4 _ rfl⟩
        have rcell : ∀ i, i < 7 → (wr.alloc (.cells #[.int .i64 xk, .int .i64 xa, .int .i64 xc, .int .i64 xd, .int .i64 xp] 30)).cell? ⟨R, j * 7 + i, none⟩ = some (.int .i64 0) := fun i hi => by
          refine (cells_of (l := (rkRow l j).flatMap En.vals) HN.out.ranked).1 _ _ ?_
          rw [flat_at En.vals 7 En.len _ j i _ (rkRow_at hjl) hi]
          have h7 : i = 0 ∨ i = 1 ∨ i = 2 ∨ i = 3 ∨ i = 4 ∨ i = 5 ∨ i = 6 := by omega
          rcases h7 with rfl | rfl | rfl | rfl | rfl | rfl | rfl <;> rfl
        have rfz := (cells_of (l := (rkRow l j).flatMap En.vals) HN.out.ranked).2.1
        have m0 := rcell 0 (by omega)
        have f0 := rfz (j * 7 + 0)
        have m1 := rcell 1 (by omega)
        have f1 := rfz (j * 7 + 1)
        have m2 := rcell 2 (by omega)
        have f2 := rfz (j * 7 + 2)
        have m3 := rcell 3 (by omega)
        have f3 := rfz (j * 7 + 3)
        have m4 := rcell 4 (by omega)
        have f4 := rfz (j * 7 + 4)
        have m5 := rcell 5 (by omega)
        have f5 := rfz (j * 7 + 5)
        have m6 := rcell 6 (by omega)
        have f6 := rfz (j * 7 + 6)
        rw [Nat.add_zero] at m0 f0
        clear rcell rfz bs v0 k0 hbx y0 y1 y2 y3 y4
        generalize wr.alloc (.cells #[.int .i64 xk, .int .i64 xa, .int .i64 xc, .int .i64 xd, .int .i64 xp] 30) = w2 at *
        refine wp_region_noPanic ?_
        refine wp_region_last (S := fun w' => w'.cell? ⟨V, 0, none⟩ = some (.pointer (some ⟨K, 0, none⟩)) ∧ w'.cell? ⟨K, 0, none⟩ = some (.slice (some ⟨R, 0, none⟩) l.length l.length) ∧ w'.cell? ⟨wr.heap.size, 0, none⟩ = some (.int .i64 xk) ∧ w'.cell? ⟨wr.heap.size, 1, none⟩ = some (.int .i64 xa) ∧ w'.cell? ⟨wr.heap.size, 2, none⟩ = some (.int .i64 xc) ∧ w'.cell? ⟨wr.heap.size, 3, none⟩ = some (.int .i64 xd) ∧ w'.cell? ⟨wr.heap.size, 4, none⟩ = some (.int .i64 xp)) (L := 11) (by kernel_rfl) ?_
        refine takeL_at (i := 0) (n := 24) (v := ?_) rfl rfl (by kernel_rfl) (by kernel_rfl) (by decide) (by kernel_rfl) (by kernel_rfl) (by kernel_rfl) (fun _ _ _ h => h) (Or.inl ⟨by rfl, ?_⟩) (by assumption) ?_
        rotate_left 1
        · intro wz hSw
          obtain ⟨s0, s1, s2, s3, s4, s5, s6⟩ := hSw
          first | (go_simp; done) | (go_simp; with_reducible rfl)
        simp only [List.set_cons_zero, List.set_cons_succ]
        refine takeL_at (i := 1) (n := 25) (v := ?_) rfl rfl (by kernel_rfl) (by kernel_rfl) (by decide) (by kernel_rfl) (by kernel_rfl) (by kernel_rfl) (fun _ _ _ h => h) (Or.inl ⟨by rfl, ?_⟩) (by assumption) ?_
        rotate_left 1
        · intro wz hSw
          obtain ⟨s0, s1, s2, s3, s4, s5, s6⟩ := hSw
          first | (go_simp; done) | (go_simp; with_reducible rfl)
        simp only [List.set_cons_zero, List.set_cons_succ]
        refine takeL_at (i := 2) (n := 26) (v := ?_) rfl rfl (by kernel_rfl) (by kernel_rfl) (by decide) (by kernel_rfl) (by kernel_rfl) (by kernel_rfl) (fun _ _ _ h => h) (Or.inl ⟨by rfl, ?_⟩) (by assumption) ?_
        rotate_left 1
        · intro wz hSw
          obtain ⟨s0, s1, s2, s3, s4, s5, s6⟩ := hSw
          first | (go_simp; done) | (go_simp; with_reducible rfl)
        simp only [List.set_cons_zero, List.set_cons_succ]
        refine takeL_at (i := 3) (n := 27) (v := ?_) rfl rfl (by kernel_rfl) (by kernel_rfl) (by decide) (by kernel_rfl) (by kernel_rfl) (by kernel_rfl) (fun _ _ _ h => h) (Or.inl ⟨by rfl, ?_⟩) (by assumption) ?_
        rotate_left 1
        · intro wz hSw
          obtain ⟨s0, s1, s2, s3, s4, s5, s6⟩ := hSw
          first | (go_simp; done) | (go_simp; with_reducible rfl)
        simp only [List.set_cons_zero, List.set_cons_succ]
        refine takeL_at (i := 4) (n := 28) (v := ?_) rfl rfl (by kernel_rfl) (by kernel_rfl) (by decide) (by kernel_rfl) (by kernel_rfl) (by kernel_rfl) (fun _ _ _ h => h) (Or.inl ⟨by rfl, ?_⟩) (by assumption) ?_
        rotate_left 1
        · intro wz hSw
          obtain ⟨s0, s1, s2, s3, s4, s5, s6⟩ := hSw
          first | (go_simp; done) | (go_simp; with_reducible rfl)
        simp only [List.set_cons_zero, List.set_cons_succ]
        refine takeL_at (i := 5) (n := 29) (v := ?_) rfl rfl (by kernel_rfl) (by kernel_rfl) (by decide) (by kernel_rfl) (by kernel_rfl) (by kernel_rfl) (fun _ _ _ h => h) (Or.inl ⟨by rfl, ?_⟩) (by assumption) ?_
        rotate_left 1
        · intro wz hSw
          obtain ⟨s0, s1, s2, s3, s4, s5, s6⟩ := hSw
          first | (go_simp; done) | (go_simp; with_reducible rfl)
        simp only [List.set_cons_zero, List.set_cons_succ]
        refine takeL_at (i := 6) (n := 30) (v := ?_) rfl rfl (by kernel_rfl) (by kernel_rfl) (by decide) (by kernel_rfl) (by kernel_rfl) (by kernel_rfl) (fun _ _ _ h => h) (Or.inl ⟨by rfl, ?_⟩) (by assumption) ?_
        rotate_left 1
        · intro wz hSw
          obtain ⟨s0, s1, s2, s3, s4, s5, s6⟩ := hSw
          first | (go_simp; done) | (go_simp; with_reducible rfl)
        simp only [List.set_cons_zero, List.set_cons_succ]
        refine takeL_at (i := 7) (n := 31) (v := ?_) rfl rfl (by kernel_rfl) (by kernel_rfl) (by decide) (by kernel_rfl) (by kernel_rfl) (by kernel_rfl) (fun _ _ _ h => h) (Or.inl ⟨by rfl, ?_⟩) (by assumption) ?_
        rotate_left 1
        · intro wz hSw
          obtain ⟨s0, s1, s2, s3, s4, s5, s6⟩ := hSw
          first | (go_simp; done) | (go_simp; with_reducible rfl)
        simp only [List.set_cons_zero, List.set_cons_succ]
        refine takeL_at (i := 8) (n := 32) (v := ?_) rfl rfl (by kernel_rfl) (by kernel_rfl) (by decide) (by kernel_rfl) (by kernel_rfl) (by kernel_rfl) (fun _ _ _ h => h) (Or.inl ⟨by rfl, ?_⟩) (by assumption) ?_
        rotate_left 1
        · intro wz hSw
          obtain ⟨s0, s1, s2, s3, s4, s5, s6⟩ := hSw
          first | (go_simp; done) | (go_simp; with_reducible rfl)
        simp only [List.set_cons_zero, List.set_cons_succ]
        refine takeL_at (i := 9) (n := 33) (v := ?_) rfl rfl (by kernel_rfl) (by kernel_rfl) (by decide) (by kernel_rfl) (by kernel_rfl) (by kernel_rfl) (fun _ _ _ h => h) (Or.inl ⟨by rfl, ?_⟩) (by assumption) ?_
        rotate_left 1
        · intro wz hSw
          obtain ⟨s0, s1, s2, s3, s4, s5, s6⟩ := hSw
          first | (go_simp; done) | (go_simp; with_reducible rfl)
        simp only [List.set_cons_zero, List.set_cons_succ]
        refine takeL_at (i := 10) (n := 34) (v := ?_) rfl rfl (by kernel_rfl) (by kernel_rfl) (by decide) (by kernel_rfl) (by kernel_rfl) (by kernel_rfl) (fun _ _ _ h => h) (Or.inl ⟨by rfl, ?_⟩) (by assumption) ?_
        rotate_left 1
        · intro wz hSw
          obtain ⟨s0, s1, s2, s3, s4, s5, s6⟩ := hSw
          first | (go_simp; done) | (go_simp; with_reducible rfl)
        simp only [List.set_cons_zero, List.set_cons_succ]
        refine wpAnyL_one (i := 11) (by kernel_rfl) rfl (fun K' hK' => ?_)
        go_simp
        refine hK'.out _ _ (fun h => absurd rfl h) ?_
        clear hK' K'
        refine wpAnyL_done (by kernel_rfl) ?_ _
        refine NoPanic.normal ?_
        have H2 : NewW w (((((((w2.setCell ⟨R, j * 7, none⟩ (.int .i64 xk)).setCell ⟨R, j * 7 + 1, none⟩ (.int .i64 xa)).setCell ⟨R, j * 7 + 2, none⟩ (.int .i64 xc)).setCell ⟨R, j * 7 + 3, none⟩ (.int .i64 xd)).setCell ⟨R, j * 7 + 4, none⟩ (.int .i64 xp)).setCell ⟨R, j * 7 + 5, none⟩ (.int .i64 (j : Int))).setCell ⟨R, j * 7 + 6, none⟩ (.int .i64 xc)).drew pol l.length w.heap.size R C K V ((rkRow l (j + 1)).flatMap En.vals) (repCells l.length 0) := by
          obtain ⟨cur', h1, h2⟩ := setCells_heap R 63 (0, 0) [.int .i64 xk, .int .i64 xa, .int .i64 xc, .int .i64 xd, .int .i64 xp, .int .i64 (j : Int), .int .i64 xc] (j * 7) w2 _ HN.out.ranked (by rw [List.size_toArray, flat_length En.vals 7 En.len, rkRow_len hj]; simp; omega)
          have hg := setCells_keep R [.int .i64 xk, .int .i64 xa, .int .i64 xc, .int .i64 xd, .int .i64 xp, .int .i64 (j : Int), .int .i64 xc] (j * 7) w2
          have hcur : cur' = ((rkRow l (j + 1)).flatMap En.vals).toArray := by
            apply Array.toList_inj.1
            rw [h2, ← rkRow_set hjl, flat_put En.vals 7 En.len _ _ _ (by rw [rkRow_len hj]; exact hjl)]
            unfold enN
            rw [HJ.out]
            rfl
          rw [hcur] at h1
          exact (HN.out.rank hg h1).grow (Below.refl _ _).drew
        have H2' : Hid (NewW w (((((((w2.setCell ⟨R, j * 7, none⟩ (.int .i64 xk)).setCell ⟨R, j * 7 + 1, none⟩ (.int .i64 xa)).setCell ⟨R, j * 7 + 2, none⟩ (.int .i64 xc)).setCell ⟨R, j * 7 + 3, none⟩ (.int .i64 xd)).setCell ⟨R, j * 7 + 4, none⟩ (.int .i64 xp)).setCell ⟨R, j * 7 + 5, none⟩ (.int .i64 (j : Int))).setCell ⟨R, j * 7 + 6, none⟩ (.int .i64 xc)).drew pol l.length w.heap.size R C K V ((rkRow l (j + 1)).flatMap En.vals) (repCells l.length 0)) := H2
        clear H2 hS0 m0 f0 m1 f1 m2 f2 m3 f3 m4 f4 m5 f5 m6 f6
        go_wp2_with fail
        exact ⟨⟨j + 1, by omega, by simp, H2'.out⟩, by simp [intOf]; omega⟩
      · have hje : j = l.length := by omega
        subst hje
        rw [rkRow_full] at hn
        have HN : Hid (NewW w wr pol l.length w.heap.size R C K V (((List.range l.length).map (enN l)).flatMap En.vals) (repCells l.length 0)) := hn
        have v0 := (cells_of (l := [_]) hn.var).1 0 _ rfl
        have k0 := (cells_of (l := [_, _, _]) hn.core).1 0 _ rfl
        clear hn
        have HSo := sortEn_any wr l pol R w.heap.size hp hl HN.out.ranked HN.out.box HN.out.ds.1
        go_wp2_with (go_at_call 26; refine HSo.mono ?_; rintro r w3 ⟨rfl, rk, hrk, hR3, hg3⟩; have H3 : Hid (NewW w w3 pol l.length w.heap.size R C K V ((entsOf l rk (l.map (·.c))).flatMap En.vals) (repCells l.length 0) ∧ Ranked l pol rk) := ⟨HN.out.rank hg3 hR3, hrk⟩; clear hR3 hg3 hrk HSo; have v3 := (cells_of (l := [_]) H3.out.1.var).1 0 _ rfl; have k31 := (cells_of (l := [_, _, _]) H3.out.1.core).1 1 _ rfl)
        go_loopw [47] (fun i wr => ∃ j : Nat, j ≤ l.length ∧ i = .int .i64 j ∧ NewW w wr pol l.length w.heap.size R C K V ((entsOf l rk (l.map (·.c))).flatMap En.vals) (runCells l.length (zI (List.range j)))) (fun i _ => l.length - (intOf i).toNat)
        case atStart => exact ⟨0, Nat.zero_le _, rfl, H3.out.1⟩
        case round =>
          obtain ⟨j, hj, rfl, hn⟩ := hrel
          have v4 := (cells_of (l := [_]) hn.var).1 0 _ rfl
          have k4 := (cells_of (l := [_, _, _]) hn.core).1 1 _ rfl
          have HM : Hid (NewW w wr pol l.length w.heap.size R C K V ((entsOf l rk (l.map (·.c))).flatMap En.vals) (runCells l.length (zI (List.range j)))) := hn
          have hzl : (zI (List.range j)).length = j := by rw [zI_len, List.length_range]
          by_cases hjl : j < l.length
          · have hji : (j : Int) < (l.length : Int) := by omega
            have hlen : j < (runCells l.length (zI (List.range j))).length := by rw [runCells_len (by omega)]; exact hjl
            obtain ⟨cc, cf, cl⟩ := cells_of (l := runCells l.length (zI (List.range j))) hn.comes
            have c0 := cc j _ (List.getElem?_eq_getElem hlen)
            have cf0 := cf j
            generalize (runCells l.length (zI (List.range j)))[j] = cold at c0
            have H5 : Hid (NewW w (wr.setCell ⟨C, j, none⟩ (.int .i64 (j : Int))) pol l.length w.heap.size R C K V ((entsOf l rk (l.map (·.c))).flatMap En.vals) (runCells l.length (zI (List.range (j + 1))))) := by
              refine hn.come ?_ ?_
              · refine ⟨rfl, rfl, rfl, ?_, fun q hq hne => Below.heap_setCell _ _ _ _ (fun e => hne (by rw [show q = C from e]))⟩
                simp
              · rw [setCell_list hn.comes]
                have e := runCells_snoc (n := l.length) (runs := zI (List.range j)) (v := (j : Int)) (by omega)
                rw [hzl] at e
                rw [e, show zI (List.range j) ++ [(j : Int)] = zI (List.range (j + 1)) by simp [zI, List.range_succ]]
            clear hn cc cf hlen
            go_wp2_with fail
            exact ⟨⟨j + 1, by omega, by simp, H5.out⟩, by simp [intOf]; omega⟩
          · have hje : j = l.length := by omega
            subst hje
            have hcc : runCells l.length (zI (List.range l.length)) = (zI (List.range l.length)).map (Value.int .i64) := by
              have e := runCells_full (runs := zI (List.range l.length))
              rw [hzl] at e
              exact e
            rw [hcc] at hn
            obtain ⟨d1, d2, d3, d4, d5, d6, d7, d8, d9, d10⟩ := hn.ds
            have HSc := sortCm_any wr l pol rk (l.map (·.c)) R K C V _ _ H3.out.2 hl hn.var hn.core hn.ranked hn.comes (Ne.symm d9) (Ne.symm d8) d5
            have HN4 : Hid (NewW w wr pol l.length w.heap.size R C K V ((entsOf l rk (l.map (·.c))).flatMap En.vals) ((zI (List.range l.length)).map (Value.int .i64))) := hn
            clear hn HM
            go_wp2_with (go_at_call 29; refine HSc.mono ?_; rintro r w6 ⟨rfl, cm, hcm, hC6, hg6⟩; have H6 : Hid (NewW w w6 pol l.length w.heap.size R C K V ((entsOf l rk (l.map (·.c))).flatMap En.vals) ((zI cm).map (Value.int .i64)) ∧ Coming l rk cm) := ⟨HN4.out.come hg6 hC6, hcm⟩; clear hC6 hg6 hcm HSc; have v6 := (cells_of (l := [_]) H6.out.1.var).1 0 _ rfl)
            go_ret
            obtain ⟨l1, l2, l3, l4, l5⟩ := H6.out.1.low
            refine ⟨w6.heap.size, K, R, C, rk, cm, _, _, rfl, ⟨H6.out.1.core, H6.out.1.ranked, H6.out.1.comes, ⟨rfl, .inl ⟨rfl, rfl⟩⟩, lt_of_heapP H6.out.1.core, lt_of_heapP H6.out.1.ranked, lt_of_heapP H6.out.1.comes, d6, d8, d5, Nat.le_refl _, ⟨_, by rw [Nat.sub_zero], fun _ => rfl⟩⟩, H3.out.2, H6.out.2, H6.out.1.bel, l4, l2, l3⟩
end Go.Proofs.Ythhkmgafacmjpag
