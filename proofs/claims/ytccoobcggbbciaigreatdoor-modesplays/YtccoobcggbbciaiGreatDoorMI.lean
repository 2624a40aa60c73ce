import Derived.Test.YtccoobcggbbciaiGreatDoorMH
import Derived.Test.YtccoobcggbbciaiGreatDoorGC
namespace Go.Proofs.YtccoobcggbbciaiGreatDoor
open Go.ChangeShapes Go.WideShapes Go.ChangeAt Go.RowKit

theorem cell_drewM (w : World) (a : Addr) : w.drew.cell? a = w.cell? a := rfl
theorem heap_drewM (w : World) (g : Nat) : w.drew.heap[g]? = w.heap[g]? := rfl

theorem set_six {w : World} {g : Nat} {a0 a1 a2 a3 a4 a5 b0 b1 b2 b3 b4 b5 : Value} {t : TypeId} {fr : Nat × Nat} (h : w.heap[g]? = some (.cells #[a0, a1, a2, a3, a4, a5] t fr)) : ((((((w.setCell ⟨g, 0, none⟩ b0).setCell ⟨g, 1, none⟩ b1).setCell ⟨g, 2, none⟩ b2).setCell ⟨g, 3, none⟩ b3).setCell ⟨g, 4, none⟩ b4).setCell ⟨g, 5, none⟩ b5).heap[g]? = some (.cells #[b0, b1, b2, b3, b4, b5] t fr) := by
  rw [setCell_at (setCell_at (setCell_at (setCell_at (setCell_at (setCell_at h)))))]; rfl

theorem cell_six {w : World} {g : Nat} {b0 b1 b2 b3 b4 b5 : Value} {a : Addr} (h : ¬ a.block = g) : ((((((w.setCell ⟨g, 0, none⟩ b0).setCell ⟨g, 1, none⟩ b1).setCell ⟨g, 2, none⟩ b2).setCell ⟨g, 3, none⟩ b3).setCell ⟨g, 4, none⟩ b4).setCell ⟨g, 5, none⟩ b5).cell? a = w.cell? a := by
  refine World.cell?_of_block ?_
  rw [Below.heap_setCell _ _ _ _ h, Below.heap_setCell _ _ _ _ h, Below.heap_setCell _ _ _ _ h, Below.heap_setCell _ _ _ _ h, Below.heap_setCell _ _ _ _ h, Below.heap_setCell _ _ _ _ h]

theorem below_six {W w : World} {B g : Nat} {b0 b1 b2 b3 b4 b5 : Value} (h : Below B W w) (hg : B ≤ g) : Below B W ((((((w.setCell ⟨g, 0, none⟩ b0).setCell ⟨g, 1, none⟩ b1).setCell ⟨g, 2, none⟩ b2).setCell ⟨g, 3, none⟩ b3).setCell ⟨g, 4, none⟩ b4).setCell ⟨g, 5, none⟩ b5) :=
  (((((h.setCell hg _).setCell hg _).setCell hg _).setCell hg _).setCell hg _).setCell hg _

theorem cell_sixd {w : World} {g : Nat} {b0 b1 b2 b3 b4 b5 : Value} {a : Addr} (h : ¬ a.block = g) : ((((((w.setCell ⟨g, 0, none⟩ b0).setCell ⟨g, 1, none⟩ b1).setCell ⟨g, 2, none⟩ b2).setCell ⟨g, 3, none⟩ b3).setCell ⟨g, 4, none⟩ b4).setCell ⟨g, 5, none⟩ b5).drew.cell? a = w.cell? a := (cell_drewM _ _).trans (cell_six h)

theorem set_sixd {w : World} {g : Nat} {a0 a1 a2 a3 a4 a5 b0 b1 b2 b3 b4 b5 : Value} {t : TypeId} {fr : Nat × Nat} (h : w.heap[g]? = some (.cells #[a0, a1, a2, a3, a4, a5] t fr)) : ((((((w.setCell ⟨g, 0, none⟩ b0).setCell ⟨g, 1, none⟩ b1).setCell ⟨g, 2, none⟩ b2).setCell ⟨g, 3, none⟩ b3).setCell ⟨g, 4, none⟩ b4).setCell ⟨g, 5, none⟩ b5).drew.heap[g]? = some (.cells #[b0, b1, b2, b3, b4, b5] t fr) := (heap_drewM _ _).trans (set_six h)

theorem of_ends {w : World} {g : Nat} {b0 b1 b2 b3 b4 b5 : Value} {a : Act} (h : w.heap[g]? = some (.cells #[b0, b1, b2, b3, b4, b5] 35 (0, 0))) (h3 : a.tmps[4]?.getD undef = .pointer (some ⟨g, 0, none⟩)) :
    (results Tryz.f67 a.tmps).run Tryz.prog w = .ok (.agg #[b0, b1, b2, b3, b4, b5]) w := by
  obtain ⟨c1, f1, l1⟩ := cells_of (l := [_, _, _, _, _, _]) h
  have c10 := c1 0 _ rfl
  have c11 := c1 1 _ rfl
  have c12 := c1 2 _ rfl
  have c13 := c1 3 _ rfl
  have c14 := c1 4 _ rfl
  have c15 := c1 5 _ rfl
  simp [results, Tryz.results67, go_sem, h3, c10, c11, c12, c13, c14, c15]

set_option maxRecDepth 20000 in
set_option maxHeartbeats 2000000 in
theorem of_any (W : World) (l : List Cr) (cs : List Co) (sv cv : Value) (sb cb j k : Nat) (c : Co) (x : Cr) (hs : W.cell? ⟨sb, 0, none⟩ = some sv) (hc : W.cell? ⟨cb, 0, none⟩ = some cv) (hv : RowSl Cr.vals W l sv) (hw : RowSl Co.vals W cs cv) (hj : cs[j]? = some c) (hk : c.k = (k : Int)) (hx : l[k]? = some x) :
    Calls Tryz.prog 67 #[.int .i64 (j : Int), .pointer (some ⟨sb, 0, none⟩), .pointer (some ⟨cb, 0, none⟩)] W fun r w' => r = .returned x.val ∧ Below W.heap.size W w' := by
  have hjl : j < cs.length := (List.getElem?_eq_some_iff.1 hj).1
  have hkl : k < l.length := (List.getElem?_eq_some_iff.1 hx).1
  obtain ⟨ad, ac, rfl, -, hac, hr⟩ := hv
  obtain ⟨bd, bc, rfl, -, hbc, hr2⟩ := hw
  rcases hr with hr | ⟨ab, ao, rfl, hr⟩
  · rw [hr] at hkl; simp at hkl
  rcases hr2 with hr2 | ⟨bb, bo, rfl, hr2⟩
  · rw [hr2] at hjl; simp at hjl
  have hck : W.cell? ⟨bb, bo + j * 2, none⟩ = some (.int .i64 (k : Int)) := by
    rw [← hk]
    exact hr2 _ _ ((flat_at Co.vals 2 Co.len cs j 0 c hj (by omega)).trans rfl)
  obtain ⟨y0, y1, y2, y3, y4, y5⟩ := cr_at hr hx
  obtain ⟨xc, xh, xt, xd, xi, xp⟩ := x
  dsimp only at y0 y1 y2 y3 y4 y5
  have hb := below_new W (.cells #[.int .i64 0, .int .i64 0, .int .i64 0, .int .i64 0, .bool false, .int .i64 0] 35)
  have hji : (j : Int) < (cs.length : Int) := by omega
  have hki : (k : Int) < (l.length : Int) := by omega
  clear hr hr2 hj hx
  go_enter Tryz.func67, Tryz.ntmps67
  go_upto_region 1 with fail
  have HB : Hid (Below W.heap.size W (W.alloc (.cells #[.int .i64 0, .int .i64 0, .int .i64 0, .int .i64 0, .bool false, .int .i64 0] 35)) ∧ (W.alloc (.cells #[.int .i64 0, .int .i64 0, .int .i64 0, .int .i64 0, .bool false, .int .i64 0] 35)).heap[W.heap.size]? = some (.cells #[.int .i64 0, .int .i64 0, .int .i64 0, .int .i64 0, .bool false, .int .i64 0] 35)) := ⟨hb, heap_alloc_new _ _⟩
  have z0 := below_cell hb hs
  have z1 := below_cell hb hc
  have z2 := below_cell hb hck
  have z3 := below_cell hb y0
  have z4 := below_cell hb y1
  have z5 := below_cell hb y2
  have z6 := below_cell hb y3
  have z7 := below_cell hb y4
  have z8 := below_cell hb y5
  have n0 : ¬ sb = W.heap.size := by have := World.block_lt_of_cell? _ _ hs; dsimp only at this; omega
  have n1 : ¬ cb = W.heap.size := by have := World.block_lt_of_cell? _ _ hc; dsimp only at this; omega
  have n2 : ¬ bb = W.heap.size := by have := World.block_lt_of_cell? _ _ hck; dsimp only at this; omega
  have n3 : ¬ ab = W.heap.size := by have := World.block_lt_of_cell? _ _ y0; dsimp only at this; omega
  obtain ⟨qs, qf, ql⟩ := cells_of (l := [_, _, _, _, _, _]) HB.out.2
  have q0 := qs 0 _ rfl
  have q1 := qs 1 _ rfl
  have q2 := qs 2 _ rfl
  have q3 := qs 3 _ rfl
  have q4 := qs 4 _ rfl
  have q5 := qs 5 _ rfl
  have f0 := qf 0
  have f1 := qf 1
  have f2 := qf 2
  have f3 := qf 3
  have f4 := qf 4
  have f5 := qf 5
  clear qs qf hs hc hck y0 y1 y2 y3 y4 y5 hb
  obtain ⟨G, hG⟩ : ∃ G, W.heap.size = G := ⟨_, rfl⟩
  rw [hG] at HB n0 n1 n2 n3 q0 q1 q2 q3 q4 q5 f0 f1 f2 f3 f4 f5 ql
  simp only [hG]
  generalize W.alloc (.cells #[.int .i64 0, .int .i64 0, .int .i64 0, .int .i64 0, .bool false, .int .i64 0] 35) = W1 at *
  refine wp_region_noPanic ?_
  refine wp_region_held_drew (S := fun w' => w'.cell? ⟨sb, 0, none⟩ = some (.slice (some ⟨ab, ao, none⟩) l.length ac) ∧ w'.cell? ⟨cb, 0, none⟩ = some (.slice (some ⟨bb, bo, none⟩) cs.length bc) ∧ w'.cell? ⟨bb, bo + j * 2, none⟩ = some (.int .i64 (k : Int)) ∧ w'.cell? ⟨ab, ao + k * 6, none⟩ = some (.int .i64 xc) ∧ w'.cell? ⟨ab, ao + k * 6 + 1, none⟩ = some (.int .i64 xh) ∧ w'.cell? ⟨ab, ao + k * 6 + 2, none⟩ = some (.int .i64 xt) ∧ w'.cell? ⟨ab, ao + k * 6 + 3, none⟩ = some (.int .i64 xd) ∧ w'.cell? ⟨ab, ao + k * 6 + 4, none⟩ = some (.bool xi) ∧ w'.cell? ⟨ab, ao + k * 6 + 5, none⟩ = some (.int .i64 xp)) (by kernel_rfl) ⟨z0, z1, z2, z3, z4, z5, z6, z7, z8⟩ (fun hHeld => ?_)
  refine take_at (i := 0) (n := 5) (v := ?_) rfl rfl (by kernel_rfl) (by kernel_rfl) (by kernel_rfl) (fun _ _ _ h => h) (Or.inl ⟨by rfl, ?_⟩) (by assumption) ?_
  rotate_left 1
  · intro wz hSw
    obtain ⟨s0, s1, s2, s3, s4, s5, s6, s7, s8⟩ := hSw
    first | (go_simp; done) | (go_simp; with_reducible rfl)
  simp only [List.set_cons_zero, List.set_cons_succ]
  refine take_at (i := 1) (n := 6) (v := ?_) rfl rfl (by kernel_rfl) (by kernel_rfl) (by kernel_rfl) (fun _ _ _ h => h) (Or.inl ⟨by rfl, ?_⟩) (by assumption) ?_
  rotate_left 1
  · intro wz hSw
    obtain ⟨s0, s1, s2, s3, s4, s5, s6, s7, s8⟩ := hSw
    first | (go_simp; done) | (go_simp; with_reducible rfl)
  simp only [List.set_cons_zero, List.set_cons_succ]
  refine take_at (i := 2) (n := 7) (v := ?_) rfl rfl (by kernel_rfl) (by kernel_rfl) (by kernel_rfl) (fun _ _ _ h => h) (Or.inl ⟨by rfl, ?_⟩) (by assumption) ?_
  rotate_left 1
  · intro wz hSw
    obtain ⟨s0, s1, s2, s3, s4, s5, s6, s7, s8⟩ := hSw
    first | (go_simp; done) | (go_simp; with_reducible rfl)
  simp only [List.set_cons_zero, List.set_cons_succ]
  refine take_at (i := 3) (n := 8) (v := ?_) rfl rfl (by kernel_rfl) (by kernel_rfl) (by kernel_rfl) (fun _ _ _ h => h) (Or.inl ⟨by rfl, ?_⟩) (by assumption) ?_
  rotate_left 1
  · intro wz hSw
    obtain ⟨s0, s1, s2, s3, s4, s5, s6, s7, s8⟩ := hSw
    first | (go_simp; done) | (go_simp; with_reducible rfl)
  simp only [List.set_cons_zero, List.set_cons_succ]
  refine take_at (i := 4) (n := 9) (v := ?_) rfl rfl (by kernel_rfl) (by kernel_rfl) (by kernel_rfl) (fun _ _ _ h => h) (Or.inl ⟨by rfl, ?_⟩) (by assumption) ?_
  rotate_left 1
  · intro wz hSw
    obtain ⟨s0, s1, s2, s3, s4, s5, s6, s7, s8⟩ := hSw
    first | (go_simp; done) | (go_simp; with_reducible rfl)
  simp only [List.set_cons_zero, List.set_cons_succ]
  refine take_at (i := 5) (n := 10) (v := ?_) rfl rfl (by kernel_rfl) (by kernel_rfl) (by kernel_rfl) (fun _ _ _ h => h) (Or.inl ⟨by rfl, ?_⟩) (by assumption) ?_
  rotate_left 1
  · intro wz hSw
    obtain ⟨s0, s1, s2, s3, s4, s5, s6, s7, s8⟩ := hSw
    first | (go_simp; done) | (go_simp; with_reducible rfl)
  simp only [List.set_cons_zero, List.set_cons_succ]
  refine take_at (i := 6) (n := 11) (v := ?_) rfl rfl (by kernel_rfl) (by kernel_rfl) (by kernel_rfl) (fun _ _ _ h => h) (Or.inl ⟨by rfl, ?_⟩) (by assumption) ?_
  rotate_left 1
  · intro wz hSw
    obtain ⟨s0, s1, s2, s3, s4, s5, s6, s7, s8⟩ := hSw
    first | (go_simp; done) | (go_simp; with_reducible rfl)
  simp only [List.set_cons_zero, List.set_cons_succ]
  refine take_at (i := 7) (n := 12) (v := ?_) rfl rfl (by kernel_rfl) (by kernel_rfl) (by kernel_rfl) (fun _ _ _ h => h) (Or.inl ⟨by rfl, ?_⟩) (by assumption) ?_
  rotate_left 1
  · intro wz hSw
    obtain ⟨s0, s1, s2, s3, s4, s5, s6, s7, s8⟩ := hSw
    first | (go_simp; done) | (go_simp; with_reducible rfl)
  simp only [List.set_cons_zero, List.set_cons_succ]
  refine wpAnyH_ready (rs := [8]) (by kernel_rfl) (by simp) ?_
  refine AllReadyH.cons rfl (fun K hK => ?_) AllReadyH.nil
  go_simp
  refine hK.out _ _ ⟨(cell_sixd (by simpa using n0)).trans z0, (cell_sixd (by simpa using n1)).trans z1, (cell_sixd (by simpa using n2)).trans z2, (cell_sixd (by simpa using n3)).trans z3, (cell_sixd (by simpa using n3)).trans z4, (cell_sixd (by simpa using n3)).trans z5, (cell_sixd (by simpa using n3)).trans z6, (cell_sixd (by simpa using n3)).trans z7, (cell_sixd (by simpa using n3)).trans z8⟩ (fun hHeld => ?_)
  clear hK K
  try simp only [List.set_cons_zero, List.set_cons_succ]
  refine wpAnyH_done (by kernel_rfl) ?_ _
  refine NoPanic.normal ?_
  clear hHeld
  go_wp2_with fail
  refine bodyPost_ret (of_ends (g := G) (set_sixd HB.out.2) rfl) rfl ?_
  rw [hG]
  exact ⟨rfl, (below_six HB.out.1 (Nat.le_refl _)).drew⟩

/-- What the closure that gives up reads: the boxes of the set, the comings, and of. -/
structure OfW (W : World) (l : List Cr) (cs : List Co) (sv cv : Value) (sb cb ob : Nat) : Prop where
  s : W.cell? ⟨sb, 0, none⟩ = some sv
  c : W.cell? ⟨cb, 0, none⟩ = some cv
  o : W.cell? ⟨ob, 0, none⟩ = some (.func (.func 67) #[] #[.pointer (some ⟨sb, 0, none⟩), .pointer (some ⟨cb, 0, none⟩)])
  sr : RowSl Cr.vals W l sv
  cr : RowSl Co.vals W cs cv

theorem OfW.below {W W' : World} {l : List Cr} {cs : List Co} {sv cv : Value} {sb cb ob : Nat} (h : OfW W l cs sv cv sb cb ob) (hb : Below W.heap.size W W') : OfW W' l cs sv cv sb cb ob :=
  ⟨below_cell hb h.s, below_cell hb h.c, below_cell hb h.o, h.sr.below hb, h.cr.below hb⟩

/-- Whose a job is, and whether it is a high one. -/
def crOf (l : List Cr) (cs : List Co) (j : Nat) : Cr := l.getD (cs.getD j ⟨0, 0⟩).k.toNat ⟨0, 0, 0, 0, false, 0⟩
def hiOf (l : List Cr) (cs : List Co) (j : Nat) : Bool := (crOf l cs j).hi

/-- Each coming is one of a task. -/
def Whose (l : List Cr) (cs : List Co) : Prop := ∀ c ∈ cs, 0 ≤ c.k ∧ c.k < (l.length : Int)

theorem Whose.at {l : List Cr} {cs : List Co} (h : Whose l cs) {j : Nat} (hj : j < cs.length) : ∃ c, ∃ k : Nat, cs[j]? = some c ∧ c.k = (k : Int) ∧ l[k]? = some (crOf l cs j) := by
  obtain ⟨c, hc⟩ : ∃ c, cs[j]? = some c := ⟨_, List.getElem?_eq_getElem hj⟩
  have hk := h c (List.mem_of_getElem? hc)
  refine ⟨c, c.k.toNat, hc, by omega, ?_⟩
  unfold crOf
  have e : cs.getD j ⟨0, 0⟩ = c := by rw [List.getD_eq_getElem?_getD, hc]; rfl
  rw [e, List.getD_eq_getElem?_getD, List.getElem?_eq_getElem (by omega)]
  rfl

theorem OfW.call {W : World} {l : List Cr} {cs : List Co} {sv cv : Value} {sb cb ob : Nat} (h : OfW W l cs sv cv sb cb ob) (hw : Whose l cs) {j : Nat} (hj : j < cs.length) : Calls Tryz.prog 67 #[.int .i64 (j : Int), .pointer (some ⟨sb, 0, none⟩), .pointer (some ⟨cb, 0, none⟩)] W fun r w' => r = .returned (crOf l cs j).val ∧ Below W.heap.size W w' := by
  obtain ⟨c, k, h1, h2, h3⟩ := hw.at hj
  exact of_any W l cs sv cv sb cb j k c _ h.s h.c h.sr h.cr h1 h2 h3

set_option maxRecDepth 20000 in
set_option maxHeartbeats 2000000 in
theorem which_any (W : World) (l : List Cr) (cs : List Co) (sv cv : Value) (sb cb ob : Nat) (h : OfW W l cs sv cv sb cb ob) (hw : Whose l cs) (j : Nat) (hj : j < cs.length) :
    Calls Tryz.prog 71 #[.int .i64 (j : Int), .pointer (some ⟨ob, 0, none⟩)] W fun r w' => r = .returned (.bool (!hiOf l cs j)) ∧ Below W.heap.size W w' := by
  have ho := h.o
  have HC := h.call hw hj
  unfold hiOf
  generalize crOf l cs j = x at *
  obtain ⟨xc, xh, xt, xd, xi, xp⟩ := x
  unfold Cr.val at HC
  dsimp only at HC ⊢
  have hfd : ∀ W : World, (Instr.field 35 (.agg #[.int .i64 xc, .int .i64 xh, .int .i64 xt, .int .i64 xd, .bool xi, .int .i64 xp]) 4).run Tryz.prog W = .ok (.bool xi) W := fun _ => by kernel_rfl
  clear h hw
  go_enter Tryz.func71, Tryz.ntmps71
  go_wp2_with (go_at_call 67; refine HC.mono ?_; rintro r w1 ⟨rfl, hb1⟩; clear HC)
  go_ret
  exact ⟨rfl, hb1⟩

set_option maxRecDepth 20000 in
set_option maxHeartbeats 2000000 in
theorem rank_any (W : World) (l : List Cr) (cs : List Co) (sv cv : Value) (sb cb ob pb lb kb Rd : Nat) (rk : List Nat) (p : Nat) (h : OfW W l cs sv cv sb cb ob) (hw : Whose l cs) (h1 : W.cell? ⟨pb, 0, none⟩ = some (.func (.func 71) #[] #[.pointer (some ⟨ob, 0, none⟩)])) (h2 : W.cell? ⟨lb, 0, none⟩ = some (.pointer (some ⟨kb, 0, none⟩))) (h3 : W.cell? ⟨kb, 3, none⟩ = some (.slice (some ⟨Rd, 0, none⟩) cs.length cs.length)) (hp : p < cs.length) (h4 : W.cell? ⟨Rd, p, none⟩ = some (.int .i64 ((S8.RK rk p : Nat) : Int))) (hr : S8.RK rk p < cs.length) :
    Calls Tryz.prog 114 #[.int .i64 (p : Int), .pointer (some ⟨pb, 0, none⟩), .pointer (some ⟨lb, 0, none⟩)] W fun r w' => r = .returned (.bool (!hiOf l cs (S8.RK rk p))) ∧ Below W.heap.size W w' := by
  have HC := which_any W.drew l cs sv cv sb cb ob (h.below (Below.refl _ _).drew) hw (S8.RK rk p) hr
  have hpi : (p : Int) < (cs.length : Int) := by omega
  generalize S8.RK rk p = q at *
  generalize (!hiOf l cs q) = b at *
  clear h hw
  go_enter Tryz.func114, Tryz.ntmps114
  go_upto_region 1 with fail
  refine wp_region_noPanic ?_
  refine wp_region_held_drew (S := fun w' => w'.cell? ⟨pb, 0, none⟩ = some (.func (.func 71) #[] #[.pointer (some ⟨ob, 0, none⟩)]) ∧ w'.cell? ⟨lb, 0, none⟩ = some (.pointer (some ⟨kb, 0, none⟩)) ∧ w'.cell? ⟨kb, 3, none⟩ = some (.slice (some ⟨Rd, 0, none⟩) cs.length cs.length) ∧ w'.cell? ⟨Rd, p, none⟩ = some (.int .i64 (q : Int))) (by kernel_rfl) ⟨h1, h2, h3, h4⟩ (fun hHeld => ?_)
  refine take_at (i := 0) (n := 5) (v := ?_) rfl rfl (by kernel_rfl) (by kernel_rfl) (by kernel_rfl) (fun _ _ _ h => h) (Or.inl ⟨by rfl, ?_⟩) (by assumption) ?_
  rotate_left 1
  · intro wz hSw
    obtain ⟨s0, s1, s2, s3⟩ := hSw
    first | (go_simp; done) | (go_simp; with_reducible rfl)
  simp only [List.set_cons_zero, List.set_cons_succ]
  refine take_at (i := 1) (n := 6) (v := ?_) rfl rfl (by kernel_rfl) (by kernel_rfl) (by kernel_rfl) (fun _ _ _ h => h) (Or.inl ⟨by rfl, ?_⟩) (by assumption) ?_
  rotate_left 1
  · intro wz hSw
    obtain ⟨s0, s1, s2, s3⟩ := hSw
    first | (go_simp; done) | (go_simp; with_reducible rfl)
  simp only [List.set_cons_zero, List.set_cons_succ]
  refine take_at (i := 2) (n := 7) (v := ?_) rfl rfl (by kernel_rfl) (by kernel_rfl) (by kernel_rfl) (fun _ _ _ h => h) (Or.inl ⟨by rfl, ?_⟩) (by assumption) ?_
  rotate_left 1
  · intro wz hSw
    obtain ⟨s0, s1, s2, s3⟩ := hSw
    first | (go_simp; done) | (go_simp; with_reducible rfl)
  simp only [List.set_cons_zero, List.set_cons_succ]
  refine take_at (i := 3) (n := 8) (v := ?_) rfl rfl (by kernel_rfl) (by kernel_rfl) (by kernel_rfl) (fun _ _ _ h => h) (Or.inl ⟨by rfl, ?_⟩) (by assumption) ?_
  rotate_left 1
  · intro wz hSw
    obtain ⟨s0, s1, s2, s3⟩ := hSw
    first | (go_simp; done) | (go_simp; with_reducible rfl)
  simp only [List.set_cons_zero, List.set_cons_succ]
  refine take_at (i := 4) (n := 9) (v := ?_) rfl rfl (by kernel_rfl) (by kernel_rfl) (by kernel_rfl) (fun _ _ _ h => h) (Or.inl ⟨by rfl, ?_⟩) (by assumption) ?_
  rotate_left 1
  · intro wz hSw
    obtain ⟨s0, s1, s2, s3⟩ := hSw
    first | (go_simp; done) | (go_simp; with_reducible rfl)
  simp only [List.set_cons_zero, List.set_cons_succ]
  refine take_at (i := 5) (n := 10) (v := ?_) rfl rfl (by kernel_rfl) (by kernel_rfl) (by kernel_rfl) (fun _ _ _ h => h) (Or.inl ⟨by rfl, ?_⟩) (by assumption) ?_
  rotate_left 1
  · intro wz hSw
    obtain ⟨s0, s1, s2, s3⟩ := hSw
    first | (go_simp; done) | (go_simp; with_reducible rfl)
  simp only [List.set_cons_zero, List.set_cons_succ]
  refine take_at (i := 6) (n := 11) (v := ?_) rfl rfl (by kernel_rfl) (by kernel_rfl) (by kernel_rfl) (fun _ _ _ h => h) (Or.inl ⟨by rfl, ?_⟩) (by assumption) ?_
  rotate_left 1
  · intro wz hSw
    obtain ⟨s0, s1, s2, s3⟩ := hSw
    first | (go_simp; done) | (go_simp; with_reducible rfl)
  simp only [List.set_cons_zero, List.set_cons_succ]
  refine take_at (i := 7) (n := 12) (v := ?_) rfl rfl (by kernel_rfl) (by kernel_rfl) (by kernel_rfl) (fun _ _ _ h => h) (Or.inl ⟨by rfl, ?_⟩) (by assumption) ?_
  rotate_left 1
  · intro wz hSw
    obtain ⟨s0, s1, s2, s3⟩ := hSw
    first | (go_simp; done) | (go_simp; with_reducible rfl)
  simp only [List.set_cons_zero, List.set_cons_succ]
  refine wpAnyH_ready (rs := [8]) (by kernel_rfl) (by simp) ?_
  refine AllReadyH.cons rfl (fun K hK => ?_) AllReadyH.nil
  go_simp
  go_wp2_with (go_at_call 71; refine HC.mono ?_; rintro r w1 ⟨rfl, hb0⟩; have hb1 := below_seq (Below.refl _ _).drew hb0; clear hb0 HC)
  refine hK.out _ _ ⟨below_cell hb1 h1, below_cell hb1 h2, below_cell hb1 h3, below_cell hb1 h4⟩ (fun hHeld => ?_)
  clear hK K
  try simp only [List.set_cons_zero, List.set_cons_succ]
  refine take_at (i := 9) (n := 4) (v := ?_) rfl rfl (by kernel_rfl) (by kernel_rfl) (by kernel_rfl) (fun _ _ _ h => h) (Or.inl ⟨by rfl, ?_⟩) (by assumption) ?_
  rotate_left 1
  · intro wz hSw
    obtain ⟨s0, s1, s2, s3⟩ := hSw
    first | (go_simp; done) | (go_simp; with_reducible rfl)
  simp only [List.set_cons_zero, List.set_cons_succ]
  refine wpAnyH_done (by kernel_rfl) ?_ _
  refine NoPanic.normal ?_
  clear hHeld
  go_wp2_with fail
  go_ret
  exact ⟨rfl, hb1⟩
end Go.Proofs.YtccoobcggbbciaiGreatDoor
