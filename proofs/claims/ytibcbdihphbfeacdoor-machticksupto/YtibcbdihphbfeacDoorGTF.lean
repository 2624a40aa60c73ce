import Derived.Test.YtibcbdihphbfeacDoorGLawR
import Derived.Test.YtibcbdihphbfeacDoorGSSy
import Derived.Test.YtibcbdihphbfeacDoorGMHelp
namespace Go.Proofs.YtibcbdihphbfeacDoor
open Go.ChangeShapes Go.WideShapes Go.ChangeAt Go.RowKit
section
variable {w w' : World} {mb B : Nat} {l : List In} {iv ov : Value} {ins : List Int} {sp : Int} {s : MS} {sv pv : Value}
theorem MM.aside (h : MM w mb B l iv ov ins sp s sv pv) {b : Nat} (hb : mb < b) (hs : sv.ownBlock ≠ some b) (hp : pv.ownBlock ≠ some b) (i : Nat) (u : Value) : MM (w.setCell ⟨b, i, none⟩ u) mb B l iv ov ins sp s sv pv := by
 have e : ∀ k, k ≠ b → (w.setCell ⟨b, i, none⟩ u).heap[k]? = w.heap[k]? := fun k hk => Below.heap_setCell _ _ _ _ hk
 exact ⟨(e mb (by omega)).trans h.blk, ownsRow_own h.stk (fun k hk => e k (fun q => hs (by rw [hk, q]))), ownsRow_own h.pts (fun k hk => e k (fun q => hp (by rw [hk, q]))), h.apt, h.lv, h.li, h.lc, h.nmb, by have := h.bas; simp; omega, h.img.keep (fun k hk => e k (by omega)), h.ops.keep (fun k hk => e k (by omega))⟩
theorem MR.aside {a b : World} {sv' pv' : Value} (h : MR mb a b sv pv sv' pv') {g : Nat} (hg : a.heap.size ≤ g) (i : Nat) (u : Value) : MR mb a (b.setCell ⟨g, i, none⟩ u) sv pv sv' pv' :=
 ⟨h.os, h.tape, h.output, by have := h.size; simp; omega, fun k h0 h1 h2 h3 => (Below.heap_setCell _ _ _ _ (by show k ≠ g; omega)).trans (h.block k h0 h1 h2 h3), h.ownS, h.ownP⟩
end
structure TQ (w W : World) (mb B : Nat) (l : List In) (iv ov : Value) (ins : List Int) (sv0 pv0 : Value) (sp : Int) (s : MS) (sv pv : Value) : Prop where
 mm : MM W mb B l iv ov ins sp s sv pv
 mr : MR mb w W sv0 pv0 sv pv
 rb : W.heap[w.heap.size]? = some (.cells #[.int .i64 0, .int .i64 0, .int .i64 0] 35 (0, 0))
theorem TQ.grow {w W W' : World} {mb B : Nat} {l : List In} {iv ov : Value} {ins : List Int} {sv0 pv0 : Value} {sp : Int} {s : MS} {sv pv : Value} (h : TQ w W mb B l iv ov ins sv0 pv0 sp s sv pv) (hb : Below W.heap.size W W') : TQ w W' mb B l iv ov ins sv0 pv0 sp s sv pv :=
 ⟨h.mm.grow hb, h.mr.trans (MR.of_below hb), (hb.block _ (Array.getElem?_eq_some_iff.1 h.rb).1).trans h.rb⟩
theorem TQ.setT {w W : World} {mb B : Nat} {l : List In} {iv ov : Value} {ins : List Int} {sv0 pv0 : Value} {sp : Int} {s : MS} {sv pv : Value} (h : TQ w W mb B l iv ov ins sv0 pv0 sp s sv pv) (hm : mb < w.heap.size) (z : Int) : TQ w (W.setCell ⟨mb, 24, none⟩ (.int .i64 z)) mb B l iv ov ins sv0 pv0 z s sv pv :=
 ⟨h.mm.setT z, h.mr.set 24 _, (Below.heap_setCell _ _ _ _ (by show w.heap.size ≠ mb; omega)).trans h.rb⟩
theorem Tick_ends {w : World} {g : Nat} {a0 a1 a2 b : Value} {a : Act} (h6 : w.heap[g]? = some (.cells #[a0, a1, a2] 35 (0, 0))) (h2 : a.tmps[2]?.getD undef = .pointer (some ⟨g, 0, none⟩)) (h3 : a.tmps[3]?.getD undef = b) :
  (results Tryd.f20 a.tmps).run Tryd.prog w = .ok (.tuple #[.agg #[a0, a1, a2], b]) w := by
 obtain ⟨c1, f1, l1⟩ := cells_of (l := [_, _, _]) h6
 have c10 := c1 0 _ rfl
 have c11 := c1 1 _ rfl
 have c12 := c1 2 _ rfl
 simp [results, Tryd.results20, go_sem, h2, h3, c10, c11, c12]
def TickPost (w : World) (mb B : Nat) (l : List In) (iv ov : Value) (ins : List Int) (sp : Int) (s : MS) (sv pv : Value) (r : Ending) (w' : World) : Prop :=
 ∃ sp' s' sv' pv' wh, r = .returned (.tuple #[(atI l s).val, .bool wh]) ∧ MM w' mb B l iv ov ins sp' s' sv' pv' ∧ MR mb w w' sv pv sv' pv' ∧
  ((sp + 1 < costI (atI l s) (overI (atI l s) s) ∧ wh = false ∧ sp' = sp + 1 ∧ s' = s) ∨ (¬ sp + 1 < costI (atI l s) (overI (atI l s) s) ∧ wh = true ∧ sp' = 0 ∧ s' = mdo ins (atI l s) s))
set_option maxRecDepth 20000 in
set_option maxHeartbeats 4000000 in
theorem Tick_over (w : World) (mb B : Nat) (l : List In) (iv ov : Value) (ins : List Int) (sp : Int) (s : MS) (sv pv : Value) (h : MM w mb B l iv ov ins sp s sv pv) (hd : s.pc = l.length) :
  Calls Tryd.prog 20 #[.pointer (some ⟨mb, 0, none⟩)] w fun r w' => r = .returned (.tuple #[.agg #[.int .i64 0, .int .i64 0, .int .i64 0], .bool false]) ∧ Below w.heap.size w w' := by
 have hdn : decide (s.pc = l.length) = true := by simpa using hd
 have HM : Hid (MM w mb B l iv ov ins sp s sv pv) := h
 clear h hd
 go_enter Tryd.func20, Tryd.ntmps20
 go_wp2_with (go_at_call 22; refine (Done_any _ mb B l iv ov ins sp s sv pv (HM.out.grow (below_new _ _))).mono ?_; rw [hdn]; rintro r w2 ⟨rfl, hb2⟩; have H2 : Hid (Below w.heap.size w w2 ∧ w2.heap[w.heap.size]? = some (.cells #[.int .i64 0, .int .i64 0, .int .i64 0] 35 (0, 0))) := ⟨below_seq (below_new _ _) hb2, (hb2.block _ (by simp)).trans (heap_alloc_new _ _)⟩; obtain ⟨c1, f1, l1⟩ := cells_of (l := [_, _, _]) H2.out.2; have c10 := c1 0 _ rfl; have c11 := c1 1 _ rfl; have c12 := c1 2 _ rfl; clear c1 hb2)
 refine bodyPost_ret (v := .tuple #[.agg #[.int .i64 0, .int .i64 0, .int .i64 0], .bool false]) (Tick_ends (by simpa using setCell_at (i := 2) (u := .int .i64 0) (setCell_at (i := 1) (u := .int .i64 0) (setCell_at (i := 0) (u := .int .i64 0) H2.out.2))) rfl rfl) rfl ⟨rfl, ((H2.out.1.setCell (Nat.le_refl _) _).setCell (Nat.le_refl _) _).setCell (Nat.le_refl _) _⟩
theorem KindsIn.through {w W : World} {mb : Nat} {sv pv sv' pv' : Value} (h : KindsIn w) (hr : MR mb w W sv pv sv' pv') (hm : 1 < mb) (hs : ∀ k, sv.ownBlock = some k → k ≠ 1) (hp : ∀ k, pv.ownBlock = some k → k ≠ 1) : KindsIn W := by
 have e : W.heap[1]? = w.heap[1]? := by
  have hl : 1 < w.heap.size := World.block_lt_of_cell? _ _ (h 1 (by omega) (by omega)).1
  exact hr.block 1 hl (by omega) (fun e => hs _ e.symm rfl) (fun e => hp _ e.symm rfl)
 intro m h1 h2
 obtain ⟨k0, k1, k2, k3, k4, k5⟩ := h m h1 h2
 exact ⟨(cell_same e).trans k0, (cell_same e).trans k1, (cell_same e).trans k2, (cell_same e).trans k3, (cell_same e).trans k4, (cell_same e).trans k5⟩
set_option maxRecDepth 20000 in
set_option maxHeartbeats 4000000 in
theorem Tick_go (w : World) (mb B : Nat) (l : List In) (M : Int → Option Int) (iv ov : Value) (ins : List Int) (sp : Int) (s : MS) (sv pv : Value) (h : MM w mb B l iv ov ins sp s sv pv) (g : GoodI l M) (hm : MI l M s) (hk : KindsIn w) (hmb : 1 < mb) (hlt : s.pc < l.length) (hsp : 0 ≤ sp ∧ sp ≤ 2000) (hps : s.ps.length ≤ 100000) :
  Calls Tryd.prog 20 #[.pointer (some ⟨mb, 0, none⟩)] w (TickPost w mb B l iv ov ins sp s sv pv) := by
 have hdn : decide (s.pc = l.length) = false := by simp; omega
 obtain ⟨hform, htk, hht, hnx⟩ := MI.here g hm hlt
 have hstl : s.st.length ≤ 1000 := by have t1 := takes_le (m := (atI l s).op.toNat) (by have := form_op hform; omega); omega
 have hlen := g.len
 obtain ⟨ib, io, icc, rfl, -⟩ := id (h.next hlt)
 have lmw := h.lt
 have HN : Hid ((∀ k, sv.ownBlock = some k → k < w.heap.size) ∧ (∀ k, pv.ownBlock = some k → k < w.heap.size) ∧ KindsIn w ∧ (∀ j, 0 ≤ s.cs.getD j 0 ∧ s.cs.getD j 0 ≤ 1000) ∧ (∀ k, sv.ownBlock = some k → mb < k) ∧ (∀ k, pv.ownBlock = some k → mb < k)) := ⟨fun k hk => (h.stk.lt k hk).2, fun k hk => (h.pts.lt k hk).2, hk, hm.low, fun k hk => by have := (h.stk.lt k hk).1; have := h.nmb; omega, fun k hk => by have := (h.pts.lt k hk).1; have := h.nmb; omega⟩
 have H0 : Hid (TQ w (w.alloc (.cells #[.int .i64 0, .int .i64 0, .int .i64 0] 35)) mb B l (.slice (some ⟨ib, io, none⟩) l.length icc) ov ins sv pv sp s sv pv) := ⟨h.grow (below_new _ _), MR.of_below (below_new _ _), heap_alloc_new _ _⟩
 clear h hm hk g
 go_enter Tryd.func20, Tryd.ntmps20
 go_wp2_with (go_at_call 22; refine (Done_any _ mb B l _ ov ins sp s sv pv H0.out.mm).mono ?_; rw [hdn]; rintro r w2 ⟨rfl, hb2⟩; have H2 : Hid (TQ w w2 mb B l (.slice (some ⟨ib, io, none⟩) l.length icc) ov ins sv pv sp s sv pv) := H0.out.grow hb2; clear hb2)
 obtain ⟨ib', io', icc', hiv, x0, x1, x2⟩ := H2.out.mm.next hlt
 simp only [Value.slice.injEq, Option.some.injEq, Addr.mk.injEq, and_true, true_and] at hiv
 obtain ⟨⟨rfl, rfl⟩, rfl⟩ := hiv
 have c23 := H2.out.mm.c_pc
 have c0 := H2.out.mm.c_iv
 have lmb := H2.out.mm.lt
 have hli : (s.pc : Int) < (l.length : Int) := by omega
 generalize hx : atI l s = x at *
 have HX : Hid (atI l s = x) := hx
 clear hx
 obtain ⟨xo, xa, xb⟩ := x
 dsimp only at x0 x1 x2
 refine wp_region_noPanic ?_
 refine wp_region_held_drew (S := fun w' => w'.cell? ⟨mb, 0, none⟩ = some (.slice (some ⟨ib, io, none⟩) l.length icc) ∧ w'.cell? ⟨mb, 23, none⟩ = some (.int .i64 (s.pc : Int)) ∧ w'.cell? ⟨ib, io + s.pc * 3, none⟩ = some (.int .i64 xo) ∧ w'.cell? ⟨ib, io + s.pc * 3 + 1, none⟩ = some (.int .i64 xa) ∧ w'.cell? ⟨ib, io + s.pc * 3 + 2, none⟩ = some (.int .i64 xb)) (by kernel_rfl) (show w2.drew.cell? ⟨mb, 0, none⟩ = some (.slice (some ⟨ib, io, none⟩) l.length icc) ∧ w2.drew.cell? ⟨mb, 23, none⟩ = some (.int .i64 (s.pc : Int)) ∧ w2.drew.cell? ⟨ib, io + s.pc * 3, none⟩ = some (.int .i64 xo) ∧ w2.drew.cell? ⟨ib, io + s.pc * 3 + 1, none⟩ = some (.int .i64 xa) ∧ w2.drew.cell? ⟨ib, io + s.pc * 3 + 2, none⟩ = some (.int .i64 xb) from ⟨c0, c23, x0, x1, x2⟩) (fun hHeld => ?_)
 refine take_at (i := 0) (n := 8) (v := ?_) rfl rfl (by kernel_rfl) (by kernel_rfl) (by kernel_rfl) (fun _ _ _ h => h) (Or.inl ⟨by rfl, ?_⟩) (by assumption) ?_
 rotate_left 1
 ·intro wz hSw
  first | (go_simp; done) | (go_simp; with_reducible rfl)
 simp only [List.set_cons_zero, List.set_cons_succ]
 refine take_at (i := 1) (n := 9) (v := ?_) rfl rfl (by kernel_rfl) (by kernel_rfl) (by kernel_rfl) (fun _ _ _ h => h) (Or.inl ⟨by rfl, ?_⟩) (by assumption) ?_
 rotate_left 1
 ·intro wz hSw
  first | (go_simp; done) | (go_simp; with_reducible rfl)
 simp only [List.set_cons_zero, List.set_cons_succ]
 refine take_at (i := 2) (n := 10) (v := ?_) rfl rfl (by kernel_rfl) (by kernel_rfl) (by kernel_rfl) (fun _ _ _ h => h) (Or.inl ⟨by rfl, ?_⟩) (by assumption) ?_
 rotate_left 1
 ·intro wz hSw
  first | (go_simp; done) | (go_simp; with_reducible rfl)
 simp only [List.set_cons_zero, List.set_cons_succ]
 refine take_at (i := 3) (n := 11) (v := ?_) rfl rfl (by kernel_rfl) (by kernel_rfl) (by kernel_rfl) (fun _ _ _ h => h) (Or.inl ⟨by rfl, ?_⟩) (by assumption) ?_
 rotate_left 1
 ·intro wz hSw
  first | (go_simp; done) | (go_simp; with_reducible rfl)
 simp only [List.set_cons_zero, List.set_cons_succ]
 refine take_at (i := 4) (n := 12) (v := ?_) rfl rfl (by kernel_rfl) (by kernel_rfl) (by kernel_rfl) (fun _ _ _ h => h) (Or.inl ⟨by rfl, ?_⟩) (by assumption) ?_
 rotate_left 1
 ·intro wz hSw
  first | (go_simp; done) | (go_simp; with_reducible rfl)
 simp only [List.set_cons_zero, List.set_cons_succ]
 refine take_at (i := 5) (n := 13) (v := ?_) rfl rfl (by kernel_rfl) (by kernel_rfl) (by kernel_rfl) (fun _ _ _ h => h) (Or.inl ⟨by rfl, ?_⟩) (by assumption) ?_
 rotate_left 1
 ·intro wz hSw
  first | (go_simp; done) | (go_simp; with_reducible rfl)
 simp only [List.set_cons_zero, List.set_cons_succ]
 refine take_at (i := 6) (n := 14) (v := ?_) rfl rfl (by kernel_rfl) (by kernel_rfl) (by kernel_rfl) (fun _ _ _ h => h) (Or.inl ⟨by rfl, ?_⟩) (by assumption) ?_
 rotate_left 1
 ·intro wz hSw
  first | (go_simp; done) | (go_simp; with_reducible rfl)
 simp only [List.set_cons_zero, List.set_cons_succ]
 refine take_at (i := 7) (n := 15) (v := ?_) rfl rfl (by kernel_rfl) (by kernel_rfl) (by kernel_rfl) (fun _ _ _ h => h) (Or.inl ⟨by rfl, ?_⟩) (by assumption) ?_
 rotate_left 1
 ·intro wz hSw
  first | (go_simp; done) | (go_simp; with_reducible rfl)
 simp only [List.set_cons_zero, List.set_cons_succ]
 refine take_at (i := 8) (n := 16) (v := ?_) rfl rfl (by kernel_rfl) (by kernel_rfl) (by kernel_rfl) (fun _ _ _ h => h) (Or.inl ⟨by rfl, ?_⟩) (by assumption) ?_
 rotate_left 1
 ·intro wz hSw
  first | (go_simp; done) | (go_simp; with_reducible rfl)
 simp only [List.set_cons_zero, List.set_cons_succ]
 refine take_at (i := 9) (n := 17) (v := ?_) rfl rfl (by kernel_rfl) (by kernel_rfl) (by kernel_rfl) (fun _ _ _ h => h) (Or.inl ⟨by rfl, ?_⟩) (by assumption) ?_
 rotate_left 1
 ·intro wz hSw
  first | (go_simp; done) | (go_simp; with_reducible rfl)
 simp only [List.set_cons_zero, List.set_cons_succ]
 refine wpAnyH_ready (rs := [10]) (by kernel_rfl) (by simp) ?_
 refine AllReadyH.cons rfl (fun K hK => ?_) AllReadyH.nil
 go_simp
 refine hK.out _ ((w2.alloc (.cells #[.int .i64 0, .int .i64 0, .int .i64 0] 35)).drew) ⟨below_cell (below_new w2 (.cells #[.int .i64 0, .int .i64 0, .int .i64 0] 35)) c0, below_cell (below_new w2 (.cells #[.int .i64 0, .int .i64 0, .int .i64 0] 35)) c23, below_cell (below_new w2 (.cells #[.int .i64 0, .int .i64 0, .int .i64 0] 35)) x0, below_cell (below_new w2 (.cells #[.int .i64 0, .int .i64 0, .int .i64 0] 35)) x1, below_cell (below_new w2 (.cells #[.int .i64 0, .int .i64 0, .int .i64 0] 35)) x2⟩ (fun hHeld => ?_)
 clear hK K
 refine wpAnyH_ready (rs := [11]) (by kernel_rfl) (by simp) ?_
 refine AllReadyH.cons rfl (fun K hK => ?_) AllReadyH.nil
 go_simp
 refine hK.out _ ((w2.alloc (.cells #[.int .i64 xo, .int .i64 xa, .int .i64 xb] 35)).drew) ⟨below_cell (below_new w2 (.cells #[.int .i64 xo, .int .i64 xa, .int .i64 xb] 35)) c0, below_cell (below_new w2 (.cells #[.int .i64 xo, .int .i64 xa, .int .i64 xb] 35)) c23, below_cell (below_new w2 (.cells #[.int .i64 xo, .int .i64 xa, .int .i64 xb] 35)) x0, below_cell (below_new w2 (.cells #[.int .i64 xo, .int .i64 xa, .int .i64 xb] 35)) x1, below_cell (below_new w2 (.cells #[.int .i64 xo, .int .i64 xa, .int .i64 xb] 35)) x2⟩ (fun hHeld => ?_)
 clear hK K
 refine wpAnyH_done (by kernel_rfl) ?_ _
 refine NoPanic.normal ?_
 have H3 : Hid (TQ w (w2.alloc (.cells #[.int .i64 xo, .int .i64 xa, .int .i64 xb] 35)).drew mb B l (.slice (some ⟨ib, io, none⟩) l.length icc) ov ins sv pv sp s sv pv ∧ (w2.alloc (.cells #[.int .i64 xo, .int .i64 xa, .int .i64 xb] 35)).drew.heap[w2.heap.size]? = some (.cells #[.int .i64 xo, .int .i64 xa, .int .i64 xb] 35 (0, 0)) ∧ w.heap.size < w2.heap.size) := ⟨H2.out.grow (below_new _ _).drew, heap_alloc_new _ _, (Array.getElem?_eq_some_iff.1 H2.out.rb).1⟩
 clear x0 x1 x2 c23 c0 H2 H0 lmb
 generalize hw3 : (w2.alloc (.cells #[.int .i64 xo, .int .i64 xa, .int .i64 xb] 35)).drew = w3 at *
 generalize hg : w2.heap.size = xg at *
 clear hw3 hg
 have c24 := H3.out.1.mm.c_sp
 have f24 := H3.out.1.mm.cells.2.1 24
 have l24 := H3.out.1.mm.lt
 have hwr : IntKind.i64.wrap (sp + 1) = sp + 1 := by rw [IntKind.wrap_i64]; omega
 go_wp2_with fail
 have H4 : Hid (TQ w (w3.setCell ⟨mb, 24, none⟩ (.int .i64 (sp + 1))) mb B l (.slice (some ⟨ib, io, none⟩) l.length icc) ov ins sv pv (sp + 1) s sv pv ∧ (w3.setCell ⟨mb, 24, none⟩ (.int .i64 (sp + 1))).heap[xg]? = some (.cells #[.int .i64 xo, .int .i64 xa, .int .i64 xb] 35 (0, 0)) ∧ w.heap.size < xg) := ⟨H3.out.1.setT lmw _, (Below.heap_setCell _ _ _ _ (by have := H3.out.2.2; show xg ≠ mb; omega)).trans H3.out.2.1, H3.out.2.2⟩
 clear c24 f24 l24 H3
 generalize hw4 : (w3.setCell ⟨mb, 24, none⟩ (.int .i64 (sp + 1))) = w4 at *
 clear hw4
 have c24 := H4.out.1.mm.c_sp
 obtain ⟨cx, -, lx⟩ := cells_of (l := [_, _, _]) H4.out.2.1
 have y0 := cx 0 _ rfl
 have y1 := cx 1 _ rfl
 have y2 := cx 2 _ rfl
 clear cx
 refine wp_region_noPanic ?_
 refine wp_region_held_drew (S := fun w' => w'.cell? ⟨mb, 24, none⟩ = some (.int .i64 (sp + 1)) ∧ w'.cell? ⟨xg, 0, none⟩ = some (.int .i64 xo) ∧ w'.cell? ⟨xg, 1, none⟩ = some (.int .i64 xa) ∧ w'.cell? ⟨xg, 2, none⟩ = some (.int .i64 xb)) (by kernel_rfl) (show w4.drew.cell? ⟨mb, 24, none⟩ = some (.int .i64 (sp + 1)) ∧ w4.drew.cell? ⟨xg, 0, none⟩ = some (.int .i64 xo) ∧ w4.drew.cell? ⟨xg, 1, none⟩ = some (.int .i64 xa) ∧ w4.drew.cell? ⟨xg, 2, none⟩ = some (.int .i64 xb) from ⟨c24, y0, y1, y2⟩) (fun hHeld => ?_)
 refine take_at (i := 0) (n := 25) (v := ?_) rfl rfl (by kernel_rfl) (by kernel_rfl) (by kernel_rfl) (fun _ _ _ h => h) (Or.inl ⟨by rfl, ?_⟩) (by assumption) ?_
 rotate_left 1
 ·intro wz hSw
  first | (go_simp; done) | (go_simp; with_reducible rfl)
 simp only [List.set_cons_zero, List.set_cons_succ]
 refine take_at (i := 1) (n := 26) (v := ?_) rfl rfl (by kernel_rfl) (by kernel_rfl) (by kernel_rfl) (fun _ _ _ h => h) (Or.inl ⟨by rfl, ?_⟩) (by assumption) ?_
 rotate_left 1
 ·intro wz hSw
  first | (go_simp; done) | (go_simp; with_reducible rfl)
 simp only [List.set_cons_zero, List.set_cons_succ]
 refine take_at (i := 2) (n := 27) (v := ?_) rfl rfl (by kernel_rfl) (by kernel_rfl) (by kernel_rfl) (fun _ _ _ h => h) (Or.inl ⟨by rfl, ?_⟩) (by assumption) ?_
 rotate_left 1
 ·intro wz hSw
  first | (go_simp; done) | (go_simp; with_reducible rfl)
 simp only [List.set_cons_zero, List.set_cons_succ]
 refine take_at (i := 3) (n := 28) (v := ?_) rfl rfl (by kernel_rfl) (by kernel_rfl) (by kernel_rfl) (fun _ _ _ h => h) (Or.inl ⟨by rfl, ?_⟩) (by assumption) ?_
 rotate_left 1
 ·intro wz hSw
  first | (go_simp; done) | (go_simp; with_reducible rfl)
 simp only [List.set_cons_zero, List.set_cons_succ]
 refine take_at (i := 4) (n := 29) (v := ?_) rfl rfl (by kernel_rfl) (by kernel_rfl) (by kernel_rfl) (fun _ _ _ h => h) (Or.inl ⟨by rfl, ?_⟩) (by assumption) ?_
 rotate_left 1
 ·intro wz hSw
  first | (go_simp; done) | (go_simp; with_reducible rfl)
 simp only [List.set_cons_zero, List.set_cons_succ]
 refine take_at (i := 5) (n := 30) (v := ?_) rfl rfl (by kernel_rfl) (by kernel_rfl) (by kernel_rfl) (fun _ _ _ h => h) (Or.inl ⟨by rfl, ?_⟩) (by assumption) ?_
 rotate_left 1
 ·intro wz hSw
  first | (go_simp; done) | (go_simp; with_reducible rfl)
 simp only [List.set_cons_zero, List.set_cons_succ]
 refine take_at (i := 6) (n := 31) (v := ?_) rfl rfl (by kernel_rfl) (by kernel_rfl) (by kernel_rfl) (fun _ _ _ h => h) (Or.inl ⟨by rfl, ?_⟩) (by assumption) ?_
 rotate_left 1
 ·intro wz hSw
  first | (go_simp; done) | (go_simp; with_reducible rfl)
 simp only [List.set_cons_zero, List.set_cons_succ]
 refine wpAnyH_ready (rs := [7]) (by kernel_rfl) (by simp) ?_
 refine AllReadyH.cons rfl (fun K hK => ?_) AllReadyH.nil
 go_simp
 have H4d : Hid (TQ w w4.drew mb B l (.slice (some ⟨ib, io, none⟩) l.length icc) ov ins sv pv (sp + 1) s sv pv) := H4.out.1.grow (Below.refl _ _).drew
 refine (over_any _ mb B l _ ov ins (sp + 1) s sv pv ⟨xo, xa, xb⟩ H4d.out.mm hform htk (by omega)).mono ?_
 rintro r w5 ⟨rfl, hb5⟩
 have H5 : Hid (TQ w w5 mb B l (.slice (some ⟨ib, io, none⟩) l.length icc) ov ins sv pv (sp + 1) s sv pv ∧ w5.heap[xg]? = some (.cells #[.int .i64 xo, .int .i64 xa, .int .i64 xb] 35 (0, 0)) ∧ w.heap.size < xg) := ⟨H4d.out.grow hb5, (hb5.block xg lx).trans H4.out.2.1, H4.out.2.2⟩
 have hS5 : w5.cell? ⟨mb, 24, none⟩ = some (.int .i64 (sp + 1)) ∧ w5.cell? ⟨xg, 0, none⟩ = some (.int .i64 xo) ∧ w5.cell? ⟨xg, 1, none⟩ = some (.int .i64 xa) ∧ w5.cell? ⟨xg, 2, none⟩ = some (.int .i64 xb) := ⟨below_cell hb5 c24, below_cell hb5 y0, below_cell hb5 y1, below_cell hb5 y2⟩
 clear hb5
 refine hK.out _ _ hS5 (fun hHeld => ?_)
 clear hK K
 generalize hov : overI ⟨xo, xa, xb⟩ s = ovr at *
 have HO : Hid (overI ⟨xo, xa, xb⟩ s = ovr) := hov
 clear hov
 refine wpAnyH_ready (rs := [8]) (by kernel_rfl) (by simp) ?_
 refine AllReadyH.cons rfl (fun K hK => ?_) AllReadyH.nil
 go_simp
 refine (cost_any _ ⟨xo, xa, xb⟩ ovr (KindsIn.through HN.out.2.2.1 H5.out.1.mr hmb (fun k e => by have := HN.out.2.2.2.2.1 k e; omega) (fun k e => by have := HN.out.2.2.2.2.2 k e; omega)) hform).mono ?_
 rintro r w6 ⟨rfl, hb6⟩
 have H6 : Hid (TQ w w6 mb B l (.slice (some ⟨ib, io, none⟩) l.length icc) ov ins sv pv (sp + 1) s sv pv ∧ w6.heap[xg]? = some (.cells #[.int .i64 xo, .int .i64 xa, .int .i64 xb] 35 (0, 0)) ∧ w.heap.size < xg) := ⟨H5.out.1.grow hb6, (hb6.block xg (Array.getElem?_eq_some_iff.1 H5.out.2.1).1).trans H5.out.2.1, H5.out.2.2⟩
 have hS6 : w6.cell? ⟨mb, 24, none⟩ = some (.int .i64 (sp + 1)) ∧ w6.cell? ⟨xg, 0, none⟩ = some (.int .i64 xo) ∧ w6.cell? ⟨xg, 1, none⟩ = some (.int .i64 xa) ∧ w6.cell? ⟨xg, 2, none⟩ = some (.int .i64 xb) := ⟨below_cell hb6 hS5.1, below_cell hb6 hS5.2.1, below_cell hb6 hS5.2.2.1, below_cell hb6 hS5.2.2.2⟩
 clear hb6
 refine hK.out _ _ hS6 (fun hHeld => ?_)
 clear hK K
 have hcz := cost_le hform ovr
 generalize hco : costI ⟨xo, xa, xb⟩ ovr = cz at *
 have HC : Hid (costI ⟨xo, xa, xb⟩ ovr = cz) := hco
 clear hco H4 H4d H5 hS5
 by_cases hcmp : sp + 1 < cz
 ·have hcb : decide (sp + 1 < cz) = true := by simpa using hcmp
  refine take_at (i := 9) (n := 34) (v := ?_) rfl rfl (by kernel_rfl) (by kernel_rfl) (by kernel_rfl) (fun _ _ _ h => h) (Or.inl ⟨by rfl, ?_⟩) (by assumption) ?_
  rotate_left 1
  ·intro wz hSw
   first | (go_simp; done) | (go_simp; with_reducible rfl)
  simp only [List.set_cons_zero, List.set_cons_succ]
  refine wpAnyH_done (by kernel_rfl) ?_ _
  refine NoPanic.normal ?_
  obtain ⟨-, q0, q1, q2⟩ := hS6
  obtain ⟨cr, fr, lr⟩ := cells_of (l := [_, _, _]) H6.out.1.rb
  have r0 := cr 0 _ rfl
  have r1 := cr 1 _ rfl
  have r2 := cr 2 _ rfl
  have lxg := H6.out.2.2
  clear cr
  go_wp2_with fail
  refine bodyPost_ret (v := .tuple #[.agg #[.int .i64 xo, .int .i64 xa, .int .i64 xb], .bool false]) (Tick_ends (by simpa using setCell_at (i := 2) (u := .int .i64 xb) (setCell_at (i := 1) (u := .int .i64 xa) (setCell_at (i := 0) (u := .int .i64 xo) H6.out.1.rb))) rfl rfl) rfl ?_
  have n1 : sv.ownBlock ≠ some w.heap.size := fun e => by have := HN.out.1 _ e; omega
  have n2 : pv.ownBlock ≠ some w.heap.size := fun e => by have := HN.out.2.1 _ e; omega
  refine ⟨sp + 1, s, sv, pv, false, by rw [HX.out]; rfl, ((H6.out.1.mm.aside lmw n1 n2 _ _).aside lmw n1 n2 _ _).aside lmw n1 n2 _ _, ((H6.out.1.mr.aside (Nat.le_refl _) _ _).aside (Nat.le_refl _) _ _).aside (Nat.le_refl _) _ _, .inl ⟨?_, rfl, rfl, rfl⟩⟩
  rw [HX.out, HO.out, HC.out]
  exact hcmp
 ·have hcb : decide (sp + 1 < cz) = false := by simpa using hcmp
  refine take_at (i := 9) (n := 34) (v := ?_) rfl rfl (by kernel_rfl) (by kernel_rfl) (by kernel_rfl) (fun _ _ _ h => h) (Or.inl ⟨by rfl, ?_⟩) (by assumption) ?_
  rotate_left 1
  ·intro wz hSw
   first | (go_simp; done) | (go_simp; with_reducible rfl)
  simp only [List.set_cons_zero, List.set_cons_succ]
  refine wpAnyH_done (by kernel_rfl) ?_ _
  refine NoPanic.normal ?_
  obtain ⟨q9, q0, q1, q2⟩ := hS6
  have f24 := H6.out.1.mm.cells.2.1 24
  have l24 := H6.out.1.mm.lt
  have lxg := H6.out.2.2
  have nxg : mb ≠ xg := by omega
  have H7 : Hid (TQ w (w6.setCell ⟨mb, 24, none⟩ (.int .i64 0)) mb B l (.slice (some ⟨ib, io, none⟩) l.length icc) ov ins sv pv 0 s sv pv ∧ (w6.setCell ⟨mb, 24, none⟩ (.int .i64 0)).heap[xg]? = some (.cells #[.int .i64 xo, .int .i64 xa, .int .i64 xb] 35 (0, 0))) := ⟨H6.out.1.setT lmw _, (Below.heap_setCell _ _ _ _ (by show xg ≠ mb; omega)).trans H6.out.2.1⟩
  go_wp2_with (go_at_call 43; refine (do_any _ mb B l _ ov ins 0 s sv pv ⟨xo, xa, xb⟩ H7.out.1.mm hform htk hstl (by omega) (by omega) HN.out.2.2.2.1).mono ?_; rintro r w8 ⟨rfl, sv8, pv8, hm8, hr8⟩; have n1 : some w.heap.size ≠ sv.ownBlock := (fun e => by have := HN.out.1 _ e.symm; omega); have n2 : some w.heap.size ≠ pv.ownBlock := (fun e => by have := HN.out.2.1 _ e.symm; omega); have n3 : some xg ≠ sv.ownBlock := (fun e => by have := HN.out.1 _ e.symm; omega); have n4 : some xg ≠ pv.ownBlock := (fun e => by have := HN.out.2.1 _ e.symm; omega); have H8 : Hid (MM w8 mb B l (.slice (some ⟨ib, io, none⟩) l.length icc) ov ins 0 (mdo ins ⟨xo, xa, xb⟩ s) sv8 pv8 ∧ MR mb (w6.setCell ⟨mb, 24, none⟩ (.int .i64 0)) w8 sv pv sv8 pv8) := ⟨hm8, hr8⟩; have hr : w8.heap[w.heap.size]? = some (.cells #[.int .i64 0, .int .i64 0, .int .i64 0] 35 (0, 0)) := (hr8.block _ (Array.getElem?_eq_some_iff.1 H7.out.1.rb).1 (by omega) n1 n2).trans H7.out.1.rb; have hxx : w8.heap[xg]? = some (.cells #[.int .i64 xo, .int .i64 xa, .int .i64 xb] 35 (0, 0)) := (hr8.block _ (Array.getElem?_eq_some_iff.1 H7.out.2).1 (Ne.symm nxg) n3 n4).trans H7.out.2; obtain ⟨cr, fr, lr⟩ := cells_of (l := [_, _, _]) hr; have r0 := cr 0 _ rfl; have r1 := cr 1 _ rfl; have r2 := cr 2 _ rfl; obtain ⟨cx, -, lx8⟩ := cells_of (l := [_, _, _]) hxx; have z0 := cx 0 _ rfl; have z1 := cx 1 _ rfl; have z2 := cx 2 _ rfl; have HR : Hid (w8.heap[w.heap.size]? = some (.cells #[.int .i64 0, .int .i64 0, .int .i64 0] 35 (0, 0))) := hr; clear cr cx hm8 hr8 hr hxx)
  refine bodyPost_ret (v := .tuple #[.agg #[.int .i64 xo, .int .i64 xa, .int .i64 xb], .bool true]) (Tick_ends (by simpa using setCell_at (i := 2) (u := .int .i64 xb) (setCell_at (i := 1) (u := .int .i64 xa) (setCell_at (i := 0) (u := .int .i64 xo) HR.out))) rfl rfl) rfl ?_
  have hMR := H7.out.1.mr.trans H8.out.2
  have o1 : sv8.ownBlock ≠ some w.heap.size := fun e => by rcases H8.out.2.ownS with q | q; exact n1 (q ▸ e).symm; have := q _ e; have := (Array.getElem?_eq_some_iff.1 H7.out.1.rb).1; omega
  have o2 : pv8.ownBlock ≠ some w.heap.size := fun e => by rcases H8.out.2.ownP with q | q; exact n2 (q ▸ e).symm; have := q _ e; have := (Array.getElem?_eq_some_iff.1 H7.out.1.rb).1; omega
  refine ⟨0, _, sv8, pv8, true, by rw [HX.out]; rfl, ((H8.out.1.aside lmw o1 o2 _ _).aside lmw o1 o2 _ _).aside lmw o1 o2 _ _, ((hMR.aside (Nat.le_refl _) _ _).aside (Nat.le_refl _) _ _).aside (Nat.le_refl _) _ _, .inr ⟨?_, rfl, rfl, by rw [HX.out]⟩⟩
  rw [HX.out, HO.out, HC.out]
  omega
set_option maxRecDepth 20000 in
set_option maxHeartbeats 4000000 in
theorem At_any (w : World) (mb B : Nat) (l : List In) (iv ov : Value) (ins : List Int) (sp : Int) (s : MS) (sv pv : Value) (h : MM w mb B l iv ov ins sp s sv pv) :
  Calls Tryd.prog 21 #[.pointer (some ⟨mb, 0, none⟩)] w fun r w' => r = .returned (.int .i64 (s.pc : Int)) ∧ w' = w := by
 have lm := h.lt
 have c23 := h.c_pc
 clear h
 go_enter Tryd.func21, Tryd.ntmps21
 go_wp2_with fail
 go_ret
 exact ⟨rfl, rfl⟩
theorem trace_nth (l : List In) (ins : List Int) : ∀ (k n : Nat) (s : MS) (t : Int), k < (traceF l ins n s).length →
  (lastF l ins k s t).1.pc ≠ l.length ∧ (traceF l ins n s).getD k (0, 0) = ((lastF l ins k s t).1.pc, costI (atI l (lastF l ins k s t).1) (overI (atI l (lastF l ins k s t).1) (lastF l ins k s t).1)) ∧
  lastF l ins (k + 1) s t = (mdo ins (atI l (lastF l ins k s t).1) (lastF l ins k s t).1, (lastF l ins k s t).2 + costI (atI l (lastF l ins k s t).1) (overI (atI l (lastF l ins k s t).1) (lastF l ins k s t).1))
 | k, 0, s, t, h => by simp [traceF] at h
 | 0, n + 1, s, t, h => by
  by_cases hp : s.pc = l.length
  ·rw [trace_end hp] at h; simp at h
  ·refine ⟨hp, by rw [trace_at hp]; rfl, ?_⟩
   rw [last_at hp]; rfl
 | k + 1, n + 1, s, t, h => by
  by_cases hp : s.pc = l.length
  ·rw [trace_end hp] at h; simp at h
  ·rw [trace_at hp] at h ⊢
   have ih := trace_nth l ins k n (mdo ins (atI l s) s) (t + costI (atI l s) (overI (atI l s) s)) (by simpa using h)
   rw [last_at (n := k) hp, last_at (n := k + 1) hp]
   exact ⟨ih.1, by simpa using ih.2.1, ih.2.2⟩
theorem trace_len (l : List In) (ins : List Int) : ∀ (n : Nat) (s : MS) (t : Int), (traceF l ins n s).length ≤ n ∧ ((traceF l ins n s).length < n → (lastF l ins (traceF l ins n s).length s t).1.pc = l.length)
 | 0, s, t => by simp [traceF]
 | n + 1, s, t => by
  by_cases hp : s.pc = l.length
  ·rw [trace_end hp]
   exact ⟨Nat.zero_le _, fun _ => hp⟩
  ·rw [trace_at hp]
   obtain ⟨h1, h2⟩ := trace_len l ins n (mdo ins (atI l s) s) (t + costI (atI l s) (overI (atI l s) s))
   refine ⟨by simp; omega, fun h => ?_⟩
   rw [List.length_cons, last_at hp]
   exact h2 (by simpa using h)
structure TI (w1 wr : World) (mb B : Nat) (l : List In) (M : Int → Option Int) (iv ov : Value) (ins vs : List Int) (n j a p : Nat) (sv pv : Value) : Prop where
 mm : MM wr mb B l iv ov ins (p : Int) (lastF l ins a (ms0 vs) 0).1 sv pv
 mr : MR mb w1 wr (.slice none 0 0) (.slice none 0 0) sv pv
 mi : MI l M (lastF l ins a (ms0 vs) 0).1
 ps : (lastF l ins a (ms0 vs) 0).1.ps.length ≤ a
 le : a ≤ j
 tr : a ≤ (traceF l ins (n + 1) (ms0 vs)).length
 pa : a < (traceF l ins (n + 1) (ms0 vs)).length → (p : Int) < costI (atI l (lastF l ins a (ms0 vs) 0).1) (overI (atI l (lastF l ins a (ms0 vs) 0).1) (lastF l ins a (ms0 vs) 0).1)
 pz : a = (traceF l ins (n + 1) (ms0 vs)).length → p = 0
theorem TI.grow {w1 wr w' : World} {mb B : Nat} {l : List In} {M : Int → Option Int} {iv ov : Value} {ins vs : List Int} {n j a p : Nat} {sv pv : Value} (h : TI w1 wr mb B l M iv ov ins vs n j a p sv pv) (hb : Below wr.heap.size wr w') : TI w1 w' mb B l M iv ov ins vs n j a p sv pv :=
 ⟨h.mm.grow hb, h.mr.trans (MR.of_below hb), h.mi, h.ps, h.le, h.tr, h.pa, h.pz⟩
theorem TI.later {w1 wr : World} {mb B : Nat} {l : List In} {M : Int → Option Int} {iv ov : Value} {ins vs : List Int} {n j a p : Nat} {sv pv : Value} (h : TI w1 wr mb B l M iv ov ins vs n j a p sv pv) : TI w1 wr mb B l M iv ov ins vs n (j + 1) a p sv pv :=
 ⟨h.mm, h.mr, h.mi, h.ps, Nat.le_succ_of_le h.le, h.tr, h.pa, h.pz⟩
theorem TI.tick {w1 wr w' : World} {mb B : Nat} {l : List In} {M : Int → Option Int} {iv ov : Value} {ins vs : List Int} {n j a p : Nat} {sv pv : Value} {r : Ending} (h : TI w1 wr mb B l M iv ov ins vs n j a p sv pv) (g : GoodI l M) (ha : a < (traceF l ins (n + 1) (ms0 vs)).length)
  (ht : TickPost wr mb B l iv ov ins (p : Int) (lastF l ins a (ms0 vs) 0).1 sv pv r w') :
  ∃ sv' pv' wh, r = .returned (.tuple #[(l.getD ((traceF l ins (n + 1) (ms0 vs)).getD a (0, 0)).1 in0).val, .bool wh]) ∧ wh = decide ((p : Int) + 1 = ((traceF l ins (n + 1) (ms0 vs)).getD a (0, 0)).2) ∧ TI w1 w' mb B l M iv ov ins vs n (j + 1) (if wh = true then a + 1 else a) (if wh = true then 0 else p + 1) sv' pv' := by
 obtain ⟨h1, h2, h3⟩ := trace_nth l ins a (n + 1) (ms0 vs) 0 ha
 have hpa := h.pa ha
 obtain ⟨sp', s', sv', pv', wh, e, hm, hr, hc⟩ := ht
 rw [h2]
 refine ⟨sv', pv', wh, e, ?_, ?_⟩
 ·rcases hc with ⟨c1, rfl, -⟩ | ⟨c1, rfl, -⟩
  ·symm; simp; omega
  ·symm; simp; omega
 ·rcases hc with ⟨c1, rfl, rfl, rfl⟩ | ⟨c1, rfl, rfl, rfl⟩
  ·simp only [Bool.false_eq_true, if_false]
   have e1 : ((p + 1 : Nat) : Int) = (p : Int) + 1 := by omega
   rw [← e1] at hm
   exact ⟨hm, h.mr.trans hr, h.mi, h.ps, Nat.le_succ_of_le h.le, h.tr, fun _ => by omega, fun q => by omega⟩
  ·simp only [if_true]
   have hmi := h.mi.step g (by have := h.mi.pc; omega) ins
   have hps := mdo_ps ins (atI l (lastF l ins a (ms0 vs) 0).1) (lastF l ins a (ms0 vs) 0).1
   have hp0 := h.ps
   refine ⟨by rw [h3]; exact hm, h.mr.trans hr, by rw [h3]; exact hmi, by rw [h3]; dsimp only; omega, Nat.succ_le_succ h.le, ha, fun q => ?_, fun _ => rfl⟩
   obtain ⟨q1, -, -⟩ := trace_nth l ins (a + 1) (n + 1) (ms0 vs) 0 q
   rw [h3] at q1 ⊢
   dsimp only at q1 ⊢
   generalize mdo ins (atI l (lastF l ins a (ms0 vs) 0).1) (lastF l ins a (ms0 vs) 0).1 = s2 at *
   have hlt : s2.pc < l.length := by have := hmi.pc; omega
   have h9 := (cost_le (g.form _ hlt) (overI (atI l s2) s2)).1
   have e9 : costI (l.getD s2.pc in0) (overI (atI l s2) s2) = costI (atI l s2) (overI (atI l s2) s2) := rfl
   rw [e9] at h9
   have e0 : ((0 : Nat) : Int) = 0 := rfl
   omega
theorem StepSl.keep {w w' : World} {tr : List (Nat × Int)} {v : Value} (h : StepSl w tr v) (hb : ∀ k, k < w.heap.size → v.ownBlock = some k → w'.heap[k]? = w.heap[k]?) : StepSl w' tr v := by
 obtain ⟨ad, c, e, h0 | ⟨b, o, rfl, hc⟩⟩ := h
 ·exact ⟨ad, c, e, .inl h0⟩
 ·by_cases hl : tr.length = 0
  ·exact ⟨_, c, e, .inl (List.length_eq_zero_iff.1 hl)⟩
  have hk := hb b (World.block_lt_of_cell? _ _ (hc 0 (by omega)).1) (by rw [e]; rfl)
  exact ⟨_, c, e, .inr ⟨b, o, rfl, fun j hj => ⟨(cell_same hk).trans (hc j hj).1, (cell_same hk).trans (hc j hj).2⟩⟩⟩
theorem InSl.keep {w w' : World} {l : List In} {v : Value} (h : InSl w l v) (hb : l ≠ [] → ∀ k, k < w.heap.size → v.ownBlock = some k → w'.heap[k]? = w.heap[k]?) : InSl w' l v := by
 obtain ⟨ad, c, e, h0 | ⟨b, o, rfl, hc⟩⟩ := h
 ·exact ⟨ad, c, e, .inl h0⟩
 ·by_cases hl : l.length = 0
  ·exact ⟨_, c, e, .inl (List.length_eq_zero_iff.1 hl)⟩
  have hk := hb (fun q => hl (by rw [q]; rfl)) b (World.block_lt_of_cell? _ _ (hc 0 (by omega)).1) (by rw [e]; rfl)
  exact ⟨_, c, e, .inr ⟨b, o, rfl, fun j hj => ⟨(cell_same hk).trans (hc j hj).1, (cell_same hk).trans (hc j hj).2.1, (cell_same hk).trans (hc j hj).2.2⟩⟩⟩
theorem IntSl.keep {w w' : World} {vs : List Int} {v : Value} (h : IntSl w vs v) (hb : ∀ k, k < w.heap.size → v.ownBlock = some k → w'.heap[k]? = w.heap[k]?) : IntSl w' vs v := by
 obtain ⟨ad, c, e, h0 | ⟨b, o, rfl, hc⟩⟩ := h
 ·exact ⟨ad, c, e, .inl h0⟩
 ·by_cases hl : vs.length = 0
  ·exact ⟨_, c, e, .inl (List.length_eq_zero_iff.1 hl)⟩
  have hk := hb b (World.block_lt_of_cell? _ _ (hc 0 (by omega))) (by rw [e]; rfl)
  exact ⟨_, c, e, .inr ⟨b, o, rfl, fun j hj => (cell_same hk).trans (hc j hj)⟩⟩
structure TF (w1 : World) (mb : Nat) (l : List In) (M : Int → Option Int) (ins vs : List Int) (n : Nat) (lv vv nv tv : Value) : Prop where
 kin : KindsIn w1
 good : GoodI l M
 img : InSl w1 l lv
 var : IntSl w1 vs vv
 inp : IntSl w1 ins nv
 stp : StepSl w1 (traceF l ins (n + 1) (ms0 vs)) tv
 apart : ∀ k, ((l ≠ [] ∧ lv.ownBlock = some k) ∨ vv.ownBlock = some k ∨ nv.ownBlock = some k ∨ tv.ownBlock = some k) → k ≠ mb
 mb1 : 1 < mb
 mlt : mb < w1.heap.size
theorem TF.now {w1 wr : World} {mb B : Nat} {l : List In} {M : Int → Option Int} {iv ov : Value} {ins vs : List Int} {n j a p : Nat} {sv pv lv vv nv tv : Value} (h : TF w1 mb l M ins vs n lv vv nv tv) (t : TI w1 wr mb B l M iv ov ins vs n j a p sv pv) :
  KindsIn wr ∧ InSl wr l lv ∧ IntSl wr vs vv ∧ IntSl wr ins nv ∧ StepSl wr (traceF l ins (n + 1) (ms0 vs)) tv := by
 have hk : ∀ k, k < w1.heap.size → ((l ≠ [] ∧ lv.ownBlock = some k) ∨ vv.ownBlock = some k ∨ nv.ownBlock = some k ∨ tv.ownBlock = some k) → wr.heap[k]? = w1.heap[k]? := fun k hl hk => t.mr.block k hl (h.apart k hk) (by simp [Value.ownBlock]) (by simp [Value.ownBlock])
 exact ⟨h.kin.through t.mr h.mb1 (fun k e => by cases e) (fun k e => by cases e), h.img.keep (fun hl k q e => hk k q (.inl ⟨hl, e⟩)), h.var.keep (fun k q e => hk k q (.inr (.inl e))), h.inp.keep (fun k q e => hk k q (.inr (.inr (.inl e)))), h.stp.keep (fun k q e => hk k q (.inr (.inr (.inr e))))⟩
end Go.Proofs.YtibcbdihphbfeacDoor
