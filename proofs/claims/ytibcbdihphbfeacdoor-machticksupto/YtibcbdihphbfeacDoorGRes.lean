import Derived.Test.YtibcbdihphbfeacDoorGSSm
import Derived.Test.YtibcbdihphbfeacDoorGMHelp
namespace Go.Proofs.YtibcbdihphbfeacDoor
open Go.ChangeShapes Go.WideShapes Go.ChangeAt Go.RowKit
theorem SR.step {w wr W : World} {l : List In} {M : Int → Option Int} {ins vs : List Int} {most ob ub sb cb B uc d N N' : Nat} {s s' : MS} {t cz : Int} {tr : List (Nat × Int)} {sv pv tv sv' pv' tv' : Value} {x : In} (h : SR w wr l M ins vs most ob ub sb cb B uc d N s t tr sv pv tv) (g : GoodI l M) (hpc : s.pc < l.length) (hd : d < most) (hx : atI l s = x) (hs : mdo ins x s = s') (hc : costI x (overI x s) = cz) (hN : N' ≤ N + 1)
  (hdm : DM w W ob ub sb cb B N' uc s' (t + cz) (tr ++ [(s.pc, cz)]) sv' pv' tv') : SR w W l M ins vs most ob ub sb cb B uc (d + 1) N' s' (t + cz) (tr ++ [(s.pc, cz)]) sv' pv' tv' := by
 subst hx hs hc
 have hcl := cost_le (g.form _ hpc) (overI (atI l s) s)
 have hcl' : 1 ≤ costI (atI l s) (overI (atI l s) s) ∧ costI (atI l s) (overI (atI l s) s) ≤ 1000 := hcl
 refine ⟨hdm, h.mi.step g hpc ins, by rw [List.length_append, h.len]; rfl, hd, by have := h.nn; omega, Nat.le_trans (mdo_ps ins _ s) (by have := h.ps; omega), by have := h.tl; omega, ?_, ?_⟩
 ·rw [← h.last, show most - d = (most - (d + 1)) + 1 by omega, last_at (by omega)]
 ·rw [← h.trace, show most - d = (most - (d + 1)) + 1 by omega, trace_at (by omega), List.append_assoc]
  rfl
theorem DX.booked {w wr w6 : World} {ob ub sb cb B N uc xb nb : Nat} {x : In} {n : Int} {s : MS} {t : Int} {tr : List (Nat × Int)} {sv pv tv : Value} (h : DX w wr ob ub sb cb B N uc xb nb x n s t tr sv pv tv) (p : Nat) (q : Int) {ad : Option Addr} {c : Nat} (ho : w6.ownsRow B 80 2 (.slice ad (tr.length + 1) c) (tr.length + 1) (stepVs (tr ++ [(p, q)]))) (hg : (wr.alloc (.cells #[.int .i64 (p : Int), .int .i64 q] 80)).grownBy w6 tv.ownBlock) (hv : (Value.slice ad (tr.length + 1) c).ownBlock = tv.ownBlock ∨ ∀ k, (Value.slice ad (tr.length + 1) c).ownBlock = some k → (wr.alloc (.cells #[.int .i64 (p : Int), .int .i64 q] 80)).heap.size ≤ k) :
  DX w w6 ob ub sb cb B N uc xb nb x n s t (tr ++ [(p, q)]) sv pv (.slice ad (tr.length + 1) c) :=
 (h.grow (below_new _ _)).pushT hg (by rw [List.length_append]; exact ho) hv
theorem DM.tops {w wr : World} {ob ub sb cb B N uc : Nat} {s : MS} {t : Int} {tr : List (Nat × Int)} {sa : Option Addr} {sc : Nat} {pv tv : Value} (h : DM w wr ob ub sb cb B N uc s t tr (.slice sa s.st.length sc) pv tv) {m : Nat} (hn : s.st.length = m + 1) : ∃ b, sa = some ⟨b, 0, none⟩ ∧ wr.cell? ⟨b, m, none⟩ = some (.int .i64 s.top) ∧ (∀ k, m = k + 1 → wr.cell? ⟨b, k, none⟩ = some (.int .i64 s.second)) ∧ b < wr.heap.size ∧ B ≤ b ∧ m + 1 ≤ sc := by
 have h1 : DX w ((wr.alloc (.cells #[.int .i64 0, .int .i64 0, .int .i64 0] 35)).alloc (.cells #[.int .i64 0] 3)) ob ub sb cb B N uc wr.heap.size (wr.heap.size + 1) ⟨0, 0, 0⟩ 0 s t tr (.slice sa s.st.length sc) pv tv := DX.start h ⟨0, 0, 0⟩ 0
 obtain ⟨b, c, e, c1, c2, l1, l2, l3⟩ := h1.tops hn
 simp only [Value.slice.injEq] at e
 obtain ⟨rfl, -, rfl⟩ := e
 have hlt : b < wr.heap.size := (h.stk.lt b rfl).2
 have old : ∀ j, ((wr.alloc (.cells #[.int .i64 0, .int .i64 0, .int .i64 0] 35)).alloc (.cells #[.int .i64 0] 3)).cell? ⟨b, j, none⟩ = wr.cell? ⟨b, j, none⟩ := fun j => cell_same (((below_new _ _).alloc (by simp) _).block b hlt)
 exact ⟨b, rfl, (old _).symm.trans c1, fun k hk => (old _).symm.trans (c2 k hk), hlt, l2, l3⟩
theorem DX.pushed {w wr w4 : World} {ob ub sb cb B N uc xb nb : Nat} {x : In} {n z : Int} {s : MS} {t : Int} {tr : List (Nat × Int)} {sv pv tv : Value} (h : DX w wr ob ub sb cb B N uc xb nb x n s t tr sv pv tv) (hg : (wr.alloc (.cells #[.int .i64 z] 3)).grownBy w4 sv.ownBlock) :
  w4.cell? ⟨sb, 0, none⟩ = some sv ∧ (∀ j, w4.frozen? ⟨sb, j, none⟩ = false) ∧ sb < w4.heap.size ∧ (w4.cell? ⟨xb, 0, none⟩ = some (.int .i64 x.op) ∧ w4.cell? ⟨xb, 1, none⟩ = some (.int .i64 x.a) ∧ w4.cell? ⟨xb, 2, none⟩ = some (.int .i64 x.b)) ∧ xb < w4.heap.size := by
 have h1 := h.grow (below_new wr (.cells #[.int .i64 z] 3))
 have o := h.dm.ord
 have hsb := (hg.block sb (Array.getElem?_eq_some_iff.1 h1.dm.sbx).1 (fun e => by have := (h1.dm.stk.lt sb e.symm).1; omega)).trans h1.dm.sbx
 have hxb := (hg.block xb h1.lts.1 h1.nx.1).trans h1.bx
 obtain ⟨a1, a2, a3⟩ := cells_of (l := [_]) hsb
 obtain ⟨b1, b2, b3⟩ := cells_of (l := [_, _, _]) hxb
 exact ⟨a1 0 _ rfl, a2, a3, ⟨b1 0 _ rfl, b1 1 _ rfl, b1 2 _ rfl⟩, b3⟩
theorem DX.pushRun {w W : World} {ob ub sb cb B N uc xb nb : Nat} {x : In} {n : Int} {s : MS} {t : Int} {tr : List (Nat × Int)} {sv pv tv : Value} (h : DX w W ob ub sb cb B N uc xb nb x n s t tr sv pv tv) (z : Int) (hl : s.st.length ≤ 4000000) :
  ∃ ad c w4, (Builtin.append_ #[23, 23] 23 #[sv, .slice (some ⟨W.heap.size, 0, none⟩) 1 1]).run Tryd.prog (W.alloc (.cells #[.int .i64 z] 3)) = .ok (.slice ad (s.st.length + 1) c) w4 ∧ DX w (w4.setCell ⟨sb, 0, none⟩ (.slice ad (s.st.length + 1) c)) ob ub sb cb B N uc xb nb x n { s with st := s.st ++ [z] } t tr (.slice ad (s.st.length + 1) c) pv tv ∧ (w4.cell? ⟨sb, 0, none⟩ = some sv ∧ (∀ j, w4.frozen? ⟨sb, j, none⟩ = false) ∧ sb < w4.heap.size) ∧ ∀ k, k < W.heap.size → some k ≠ sv.ownBlock → w4.heap[k]? = W.heap[k]? := by
 obtain ⟨i0, hi0, hz0, hz1, hz2⟩ := info_parts info3
 have hB := h.dm.bas
 have h1 := h.grow (below_new W (.cells #[.int .i64 z] 3))
 obtain ⟨v4, w4, hrun, ho4, hg4, hv4⟩ := append_two (P := Tryd.prog) (W.alloc (.cells #[.int .i64 z] 3)) B W.heap.size 23 23 3 i0 _ 1 8 Tryd.underlying23 hi0 hz0 hz1 hz2 rfl (by decide) sv s.st.length (intVs s.st) h1.dm.stk _ 1 [.int .i64 z] (World.ownsRow_lit W #[.int .i64 z] 1 (Nat.le_refl _) (by decide) rfl) (by intro u hu; simp at hu; subst hu; rfl) (by unfold maxLen; omega) (by omega) (by simp; omega)
 obtain ⟨ad, c, rfl⟩ := owns_value ho4
 have hp := h.pushed (z := z) hg4
 refine ⟨ad, c, w4, hrun, h1.pushS hg4 (by rw [List.length_append]; simpa [intVs] using ho4) hv4, ⟨hp.1, hp.2.1, hp.2.2.1⟩, fun k hk hne => ?_⟩
 exact (hg4.block k (by simp; omega) hne).trans ((below_new W _).block k hk)
theorem DX.putRun {w W : World} {ob ub sb cb B N uc xb nb : Nat} {x : In} {n : Int} {s : MS} {t : Int} {tr : List (Nat × Int)} {sv pv tv : Value} (h : DX w W ob ub sb cb B N uc xb nb x n s t tr sv pv tv) (y z : Int) (hl : s.ps.length ≤ 4000000) :
  ∃ ad c w4, (Builtin.append_ #[25, 25] 25 #[pv, .slice (some ⟨W.heap.size, 0, none⟩) 1 1]).run Tryd.prog (W.alloc (.cells #[.int .i64 y, .int .i64 z] 43)) = .ok (.slice ad (s.ps.length + 1) c) w4 ∧ DX w (w4.setCell ⟨ob, 1, none⟩ (.slice ad (s.ps.length + 1) c)) ob ub sb cb B N uc xb nb x n { s with ps := s.ps ++ [(y, z)] } t tr sv (.slice ad (s.ps.length + 1) c) tv ∧ (w4.cell? ⟨ob, 1, none⟩ = some pv ∧ (∀ j, w4.frozen? ⟨ob, j, none⟩ = false) ∧ ob < w4.heap.size) ∧ ∀ k, k < W.heap.size → some k ≠ pv.ownBlock → w4.heap[k]? = W.heap[k]? := by
 obtain ⟨i0, hi0, hz0, hz1, hz2⟩ := info_parts infoPut
 have hB := h.dm.bas
 have o := h.dm.ord
 have h1 := h.grow (below_new W (.cells #[.int .i64 y, .int .i64 z] 43))
 obtain ⟨v4, w4, hrun, ho4, hg4, hv4⟩ := append_two (P := Tryd.prog) (W.alloc (.cells #[.int .i64 y, .int .i64 z] 43)) B W.heap.size 25 25 43 i0 _ 2 16 Tryd.underlying25 hi0 hz0 hz1 hz2 rfl (by decide) pv s.ps.length (putVs s.ps) h1.dm.pts _ 1 [.int .i64 y, .int .i64 z] (World.ownsRow_lit W #[.int .i64 y, .int .i64 z] 1 (Nat.le_refl _) (by decide) rfl) (by intro u hu; simp at hu; rcases hu with hu | hu <;> subst hu <;> rfl) (by unfold maxLen; omega) (by omega) (by simp; omega)
 obtain ⟨ad, c, rfl⟩ := owns_value ho4
 have hob := (hg4.block ob (Array.getElem?_eq_some_iff.1 h1.dm.out).1 (fun e => by have := (h1.dm.pts.lt ob e.symm).1; omega)).trans h1.dm.out
 obtain ⟨a1, a2, a3⟩ := cells_of (l := [_, _, _]) hob
 refine ⟨ad, c, w4, hrun, h1.pushP hg4 (by rw [List.length_append, putVs_snoc]; exact ho4) hv4, ⟨a1 1 _ rfl, a2, a3⟩, fun k hk hne => ?_⟩
 exact (hg4.block k (by simp; omega) hne).trans ((below_new W _).block k hk)
theorem docI_zero {l : List In} {k : Int} (h : docI l = (0, k)) : k = 0 := by
 unfold docI at h
 by_cases hl : 2000 < l.length
 ·rw [if_pos hl] at h; simp at h
 rw [if_neg hl] at h
 rcases hf : scan (fun _ x => formErr x) l 0 with _ | ⟨c, j⟩
 rotate_left 1
 ·rw [hf] at h; exact absurd (congrArg Prod.fst h) (scan_bad _ l 0 hf)
 rw [hf] at h
 dsimp only at h
 rcases hn : docNest l l 0 [] [] with ⟨c, j⟩ | ⟨_ | ⟨o, os⟩, rs⟩
 ·rw [hn] at h; exact absurd (congrArg Prod.fst h) (docNest_bad l l 0 [] [] hn)
 rotate_left 1
 ·rw [hn] at h
  have := congrArg Prod.fst h
  dsimp only at this
  split at this <;> simp at this
 rw [hn] at h
 dsimp only at h
 rcases hj : scan (docJump l rs) l 0 with _ | ⟨c, j⟩
 rotate_left 1
 ·rw [hj] at h; exact absurd (congrArg Prod.fst h) (scan_bad _ l 0 hj)
 rw [hj] at h
 dsimp only at h
 rcases hs : stackScan l 0 M0 with ⟨c, j⟩ | M
 ·rw [hs] at h; exact absurd (congrArg Prod.fst h) (stackScan_bad l 0 M0 hs)
 rw [hs] at h
 dsimp only at h
 split at h
 ·simp at h
 ·exact (congrArg Prod.snd h).symm
def resF (l : List In) (vs ins : List Int) : (Int × Int) × List Int × List (Int × Int) × Int :=
 if (docI l).1 ≠ 0 then (docI l, [], [], 0) else if vs.length ≠ 8 ∨ ins.length ≠ 4 then ((3, 0), [], [], 0) else
 match runF l ins 20000 (ms0 vs) 0 with
 | .inl p => ((11, (p : Int)), [], [], 0)
 | .inr (s, t) => ((0, 0), s.vs, s.ps, t)
def ansV (u q : Value) (m : (Int × Int) × List Int × List (Int × Int) × Int) : Value := .tuple #[.agg #[u, q, .int .i64 m.2.2.2], .agg #[.int .i64 m.1.1, .int .i64 m.1.2]]
def RunIs (w : World) (l : List In) (vs ins : List Int) (r : Ending) (w' : World) : Prop := Below w.heap.size w w' ∧ ∃ u q, r = .returned (ansV u q (resF l vs ins)) ∧
 w'.ownsRow w.heap.size 3 1 u (resF l vs ins).2.1.length (intVs (resF l vs ins).2.1) ∧ w'.ownsRow w.heap.size 43 2 q (resF l vs ins).2.2.1.length (putVs (resF l vs ins).2.2.1) ∧ (∀ k, u.ownBlock = some k → q.ownBlock ≠ some k)
def ExecIs (w : World) (l : List In) (vs ins : List Int) (r : Ending) (w' : World) : Prop := Below w.heap.size w w' ∧ ∃ u q, r = .returned (ansV u q (resF l vs ins)) ∧ IntSl w' (resF l vs ins).2.1 u ∧ PutSl w' (resF l vs ins).2.2.1 q
theorem RunIs.fail {w w' : World} {l : List In} {vs ins : List Int} {r : Ending} {c k : Int} (hr : resF l vs ins = ((c, k), [], [], 0)) (h : r = .returned (failV c k) ∧ Below w.heap.size w w') : RunIs w l vs ins r w' := by
 refine ⟨h.2, .slice none 0 0, .slice none 0 0, ?_, ?_, ?_, fun k hk => by cases hk⟩
 ·rw [h.1, hr]; rfl
 ·rw [hr]; exact World.ownsRow_nil _ _ _ _
 ·rw [hr]; exact World.ownsRow_nil _ _ _ _
theorem ExecIs.fail {w w' : World} {l : List In} {vs ins : List Int} {r : Ending} {c k : Int} (hr : resF l vs ins = ((c, k), [], [], 0)) (h : r = .returned (failV c k) ∧ Below w.heap.size w w') : ExecIs w l vs ins r w' := by
 refine ⟨h.2, .slice none 0 0, .slice none 0 0, ?_, ?_, ?_⟩
 ·rw [h.1, hr]; rfl
 ·rw [hr]; exact ⟨_, _, rfl, .inl rfl⟩
 ·rw [hr]; exact ⟨_, _, rfl, .inl rfl⟩
end Go.Proofs.YtibcbdihphbfeacDoor
