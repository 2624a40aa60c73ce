import Derived.Test.YtibcbdihphbfeacDoorGMOver
import Derived.Test.YtibcbdihphbfeacDoorGRIa
import Derived.Test.YtibcbdihphbfeacDoorGRIb
import Derived.Test.YtibcbdihphbfeacDoorGRIc
import Derived.Test.YtibcbdihphbfeacDoorGRId
import Derived.Test.YtibcbdihphbfeacDoorGRIe
import Derived.Test.YtibcbdihphbfeacDoorGRIf
import Derived.Test.YtibcbdihphbfeacDoorGRIg
import Derived.Test.YtibcbdihphbfeacDoorGRIh
import Derived.Test.YtibcbdihphbfeacDoorGStF
import Derived.Test.YtibcbdihphbfeacDoorGMHelp
namespace Go.Proofs.YtibcbdihphbfeacDoor
open Go.ChangeShapes Go.WideShapes Go.ChangeAt Go.RowKit
set_option maxRecDepth 20000 in
set_option maxHeartbeats 4000000 in
theorem ReadImage_many (w : World) (n : Nat) (iad : Option Addr) (ic : Nat) (hl : 2000 < n) : Calls Tryd.prog 23 #[.slice iad n ic] w fun r w' => (∃ p, r = .returned (.tuple #[p, .agg #[.int .i64 2, .int .i64 0]])) ∧ Below w.heap.size w w' := by
 have hg : (2000 : Int) < (n : Int) := by omega
 go_enter Tryd.func23, Tryd.ntmps23
 go_wp2_with (go_at_call 24; refine (F_any 2 0 _).mono ?_; rintro r w9 ⟨rfl, hb9⟩; have H9 : Hid (R1 w w9 (.slice iad n ic)) := (R1.start w (.slice iad n ic)).grow hb9; obtain ⟨rs9, rf9, rl9⟩ := cells_of (l := [_, _]) H9.out.res; have r90 := rs9 0 _ rfl; have r91 := rs9 1 _ rfl; clear hb9 rs9)
 exact bodyPost_ret (v := .tuple #[.pointer none, .agg #[.int .i64 2, .int .i64 0]]) (RI_ends (by simpa using setCell_at (i := 1) (u := .int .i64 0) (setCell_at (i := 0) (u := .int .i64 2) H9.out.res)) rfl rfl) rfl ⟨⟨_, rfl⟩, (H9.out.bel.setCell (by show w.heap.size ≤ w.heap.size + 1; omega) _).setCell (by show w.heap.size ≤ w.heap.size + 1; omega) _⟩
theorem ReadImage_walk (hstk : ∀ (w : World) (l : List In) (iad : Option Addr) (ic : Nat) (_ : InSl w l (.slice iad l.length ic)) (_ : l.length ≤ 2000) (_ : ∀ j, j < l.length → formErr (l.getD j in0) = 0) (c k : Int) (_ : stackEnd l = (c, k)), Calls Tryd.prog 51 #[.slice iad l.length ic] w fun r w' => r = .returned (.agg #[.int .i64 c, .int .i64 k]) ∧ Below w.heap.size w w') (w : World) (l : List In) (iad : Option Addr) (ic : Nat) (h : InSl w l (.slice iad l.length ic)) (hl : l.length ≤ 2000) (c k : Int) (hc : docI l = (c, k)) :
  Calls Tryd.prog 23 #[.slice iad l.length ic] w fun r w' => (∃ p, r = .returned (.tuple #[p, .agg #[.int .i64 c, .int .i64 k]])) ∧ Below w.heap.size w w' :=
 RIp.2.2.2.2.2.2.2.2.2.2.2.2.2.2.2.2.2.2.2.2.2.2.2.2.2 ⟨ri_e13⟩ ⟨ri_e16⟩ ⟨ri_e14⟩ ⟨ri_e17⟩ ⟨ri_e15⟩ ⟨ri_eo⟩ ⟨ri_f13n⟩ ⟨ri_f13y⟩ ⟨ri_f16n⟩ ⟨ri_f16y⟩ ⟨ri_f14d⟩ ⟨ri_f14c⟩ ⟨ri_f14b⟩ ⟨ri_f14a⟩ ⟨ri_f17d⟩ ⟨ri_f17b⟩ ⟨ri_f17a⟩ ⟨ri_f15n⟩ ⟨ri_f15y⟩ ⟨ri_fo⟩ ⟨ri_O9⟩ ⟨ri_O10⟩ ⟨ri_J11⟩ ⟨ri_J12⟩ ⟨ri_S⟩ hstk w l iad ic h hl c k hc
theorem ReadImage_any (w : World) (l : List In) (iad : Option Addr) (ic : Nat) (h : InSl w l (.slice iad l.length ic)) (c k : Int) (hc : docI l = (c, k)) : Calls Tryd.prog 23 #[.slice iad l.length ic] w fun r w' => (∃ p, r = .returned (.tuple #[p, .agg #[.int .i64 c, .int .i64 k]])) ∧ Below w.heap.size w w' := by
 by_cases hl : l.length ≤ 2000
 ·exact ReadImage_walk (fun w l iad ic h hl hf c k hc => stackFault_any w l iad ic h hl hf c k hc) w l iad ic h hl c k hc
 ·have e : docI l = (2, 0) := by unfold docI; rw [if_pos (by omega)]
  rw [e] at hc
  cases hc
  exact ReadImage_many w l.length iad ic (by omega)
def VB (w : World) (ub uc : Nat) (vs : List Int) : Prop := vs.length = 8 ∧ ∃ cs : Array Value, w.heap[ub]? = some (.cells cs 3 (0, 0)) ∧ (8 ≤ uc ∧ uc ≤ cs.size) ∧ ∀ j, j < 8 → cs[j]? = some (.int .i64 (vs.getD j 0))
theorem VB.same {w w' : World} {ub uc : Nat} {vs : List Int} (h : VB w ub uc vs) (hb : w'.heap[ub]? = w.heap[ub]?) : VB w' ub uc vs := by
 obtain ⟨h1, cs, h2, h3⟩ := h
 exact ⟨h1, cs, hb.trans h2, h3⟩
theorem VB.set {w : World} {ub uc : Nat} {vs : List Int} (h : VB w ub uc vs) {j : Nat} (hj : j < 8) (v : Int) : VB (w.setCell ⟨ub, j, none⟩ (.int .i64 v)) ub uc (vs.set j v) := by
 obtain ⟨h1, cs, h2, h3, h4⟩ := h
 refine ⟨by simp [h1], cs.setIfInBounds j (.int .i64 v), setCell_at h2, by simpa using h3, fun i hi => ?_⟩
 rw [getD_set]
 by_cases e : j = i
 ·subst e
  rw [if_pos ⟨rfl, by omega⟩, Array.getElem?_setIfInBounds_self_of_lt (by omega)]
 ·rw [if_neg (fun z => e z.1), Array.getElem?_setIfInBounds_ne e]
  exact h4 i hi
theorem VB.cell {w : World} {ub uc : Nat} {vs : List Int} (h : VB w ub uc vs) {j : Nat} (hj : j < 8) : w.cell? ⟨ub, j, none⟩ = some (.int .i64 (vs.getD j 0)) ∧ (∀ i, w.frozen? ⟨ub, i, none⟩ = false) ∧ ub < w.heap.size := by
 obtain ⟨h1, cs, h2, h3, h4⟩ := h
 have hc : w.heap[ub]? = some (.cells cs.toList.toArray 3 (0, 0)) := by simpa using h2
 obtain ⟨c1, c2, c3⟩ := cells_of hc
 exact ⟨c1 j _ (by have := h4 j hj; simpa using this), c2, c3⟩
def stepVs : List (Nat × Int) → List Value
 | [] => []
 | r :: t => .int .i64 (r.1 : Int) :: .int .i64 r.2 :: stepVs t
theorem stepVs_append (a b : List (Nat × Int)) : stepVs (a ++ b) = stepVs a ++ stepVs b := by
 induction a with
 | nil => rfl
 | cons r t ih => rw [List.cons_append, stepVs, stepVs, ih, List.cons_append, List.cons_append]
theorem stepVs_at : ∀ (rs : List (Nat × Int)) (j : Nat), j < rs.length → (stepVs rs)[j * 2]? = some (.int .i64 ((rs.getD j (0, 0)).1 : Int)) ∧ (stepVs rs)[j * 2 + 1]? = some (.int .i64 (rs.getD j (0, 0)).2)
 | [], j, h => by simp at h
 | r :: t, 0, _ => ⟨rfl, rfl⟩
 | r :: t, j + 1, h => by
  have := stepVs_at t j (by simpa using h)
  rw [stepVs, show (j + 1) * 2 = j * 2 + 1 + 1 by omega, show j * 2 + 1 + 1 + 1 = (j * 2 + 1) + 1 + 1 by omega]
  simpa using this
def CM (w : World) (cb N : Nat) (cs : List Int) : Prop := ∃ M : Int → Option Int, HtAt w cb N M ∧ ∀ z : Nat, z < 8 → (M z).getD 0 = cs.getD z 0
theorem CM.same {w w' : World} {cb N : Nat} {cs : List Int} (h : CM w cb N cs) (hb : w'.heap[cb]? = w.heap[cb]?) : CM w' cb N cs := by
 obtain ⟨M, h1, h2⟩ := h
 exact ⟨M, h1.same hb, h2⟩
theorem CM.look {w : World} {cb N : Nat} {cs : List Int} (h : CM w cb N cs) {z : Nat} (hz : z < 8) : (Instr.lookup 98 (.map (some cb)) (.int .i64 (z : Int)) false).run Tryd.prog w = .ok (.int .i64 (cs.getD z 0)) w := by
 obtain ⟨M, h1, h2⟩ := h
 rw [← h2 z hz]
 exact h1.look1 (by omega)
theorem CM.set {w : World} {cb N : Nat} {cs : List Int} (h : CM w cb N cs) (hc : cs.length = 8) (hN : N < 1048576) {z : Nat} (hz : z < 8) {v : Int} (hv : 0 ≤ v ∧ v ≤ 1000) : ∃ w', (Instr.mapUpdate 98 (.map (some cb)) (.int .i64 (z : Int)) (.int .i64 v)).run Tryd.prog w = .ok () w' ∧ CM w' cb (N + 1) (cs.set z v) ∧ w.grownBy w' (some cb) := by
 obtain ⟨M, h1, h2⟩ := h
 obtain ⟨w', hr, hh, hg⟩ := h1.set hN (z := (z : Int)) (v := v) (by omega) (by omega)
 refine ⟨w', hr, ⟨_, hh, fun y hy => ?_⟩, hg⟩
 rw [getD_set]
 unfold setH
 by_cases e : z = y
 ·subst e
  rw [if_pos rfl, if_pos ⟨rfl, by omega⟩]; rfl
 ·rw [if_neg (by omega), if_neg (fun q => e q.1)]
  exact h2 y hy
structure DM (w wr : World) (ob ub sb cb B N uc : Nat) (s : MS) (t : Int) (tr : List (Nat × Int)) (sv pv tv : Value) : Prop where
 bel : Below w.heap.size w wr
 g8 : wr.heap[w.heap.size]? = some (.cells #[.slice none 0 0, .slice none 0 0, .int .i64 0] 27 (0, 0))
 out : wr.heap[ob]? = some (.cells #[.slice (some ⟨ub, 0, none⟩) 8 uc, pv, .int .i64 t] 27 (0, 0))
 var : VB wr ub uc s.vs
 sbx : wr.heap[sb]? = some (.cells #[sv] 23 (0, 0))
 cmap : CM wr cb N s.cs
 stk : wr.ownsRow B 3 1 sv s.st.length (intVs s.st)
 pts : wr.ownsRow B 43 2 pv s.ps.length (putVs s.ps)
 stp : wr.ownsRow B 80 2 tv tr.length (stepVs tr)
 a1 : ∀ k, sv.ownBlock = some k → pv.ownBlock ≠ some k
 a2 : ∀ k, sv.ownBlock = some k → tv.ownBlock ≠ some k
 a3 : ∀ k, pv.ownBlock = some k → tv.ownBlock ≠ some k
 ord : w.heap.size < ub ∧ w.heap.size < ob ∧ w.heap.size < sb ∧ w.heap.size < cb ∧ ub < B ∧ ob < B ∧ sb < B ∧ cb < B
 dis : ub ≠ ob ∧ ub ≠ sb ∧ ub ≠ cb ∧ ob ≠ sb ∧ ob ≠ cb ∧ sb ≠ cb
 bas : B ≤ wr.heap.size
 lc : s.cs.length = 8
section
variable {w wr w' : World} {ob ub sb cb B N uc : Nat} {s : MS} {t : Int} {tr : List (Nat × Int)} {sv pv tv : Value}
theorem DM.grow (h : DM w wr ob ub sb cb B N uc s t tr sv pv tv) (hb : Below wr.heap.size wr w') : DM w w' ob ub sb cb B N uc s t tr sv pv tv := by
 have old : ∀ (k : Nat), k < B → w'.heap[k]? = wr.heap[k]? := fun k hk => hb.block k (Nat.lt_of_lt_of_le hk h.bas)
 obtain ⟨o1, o2, o3, o4, o5, o6, o7, o8⟩ := h.ord
 exact ⟨below_seq h.bel hb, (old _ (by omega)).trans h.g8, (old _ o6).trans h.out, h.var.same (old _ o5), (old _ o7).trans h.sbx, h.cmap.same (old _ o8), ownsRow_below h.stk hb, ownsRow_below h.pts hb, ownsRow_below h.stp hb, h.a1, h.a2, h.a3, h.ord, h.dis, Nat.le_trans h.bas hb.size, h.lc⟩
theorem ownsRow_else {e : TypeId} {size n : Nat} {v : Value} {xs : List Value} {row : Option Nat} (h : wr.ownsRow B e size v n xs) (hg : wr.grownBy w' row) (hn : ∀ k, v.ownBlock = some k → row ≠ some k) : w'.ownsRow B e size v n xs := by
 obtain ⟨hl, h1 | ⟨g, cap, cur, he, hb, hgg, hr⟩⟩ := h
 ·exact ⟨hl, .inl h1⟩
 ·exact ⟨hl, .inr ⟨g, cap, cur, he, hb, (hg.block g (Array.getElem?_eq_some_iff.1 hgg).1 (fun e => hn g (by rw [he]; rfl) e.symm)).trans hgg, hr⟩⟩
theorem DM.low (h : DM w wr ob ub sb cb B N uc s t tr sv pv tv) {row : Option Nat} (hg : wr.grownBy w' row) (hr : ∀ k, row = some k → B ≤ k) : ∀ k, k < B → w'.heap[k]? = wr.heap[k]? := fun k hk =>
 hg.block k (Nat.lt_of_lt_of_le hk h.bas) (fun e => by have := hr k e.symm; omega)
theorem DM.pushS (h : DM w wr ob ub sb cb B N uc s t tr sv pv tv) {st' : List Int} {sv' : Value} (hg : wr.grownBy w' sv.ownBlock) (ho : w'.ownsRow B 3 1 sv' st'.length (intVs st')) (hv : sv'.ownBlock = sv.ownBlock ∨ ∀ k, sv'.ownBlock = some k → wr.heap.size ≤ k) :
  DM w (w'.setCell ⟨sb, 0, none⟩ sv') ob ub sb cb B N uc { s with st := st' } t tr sv' pv tv := by
 obtain ⟨o1, o2, o3, o4, o5, o6, o7, o8⟩ := h.ord
 obtain ⟨d1, d2, d3, d4, d5, d6⟩ := h.dis
 have old := h.low hg (fun k hk => (h.stk.lt k hk).1)
 have set : ∀ k, k ≠ sb → (w'.setCell ⟨sb, 0, none⟩ sv').heap[k]? = w'.heap[k]? := fun k hk => Below.heap_setCell _ _ _ _ (by show k ≠ sb; exact hk)
 have rows : ∀ {e : TypeId} {size n : Nat} {v : Value} {xs : List Value}, w'.ownsRow B e size v n xs → (w'.setCell ⟨sb, 0, none⟩ sv').ownsRow B e size v n xs := fun hr => ownsRow_same hr (fun k hk _ => set k (by omega))
 refine ⟨(h.bel.grown hg h.bel.size (fun k hk => by have := (h.stk.lt k hk).1; omega)).setCell (by show w.heap.size ≤ sb; omega) _, (set _ (by omega)).trans ((old _ (by omega)).trans h.g8), (set _ (by omega)).trans ((old _ o6).trans h.out), h.var.same ((set _ (by omega)).trans (old _ o5)), ?_, h.cmap.same ((set _ (by omega)).trans (old _ o8)), rows ho, rows (ownsRow_else h.pts hg (fun k hk e => h.a1 k e hk)), rows (ownsRow_else h.stp hg (fun k hk e => h.a2 k e hk)), ?_, ?_, h.a3, h.ord, h.dis, by have := h.bas; have := hg.size; simp; omega, h.lc⟩
 ·rw [setCell_at ((old _ o7).trans h.sbx)]; rfl
 ·intro k hk hk'
  rcases hv with hv | hv
  ·rw [hv] at hk; exact h.a1 k hk hk'
  ·have h1 := hv k hk; have h2 := (h.pts.lt k hk').2; omega
 ·intro k hk hk'
  rcases hv with hv | hv
  ·rw [hv] at hk; exact h.a2 k hk hk'
  ·have h1 := hv k hk; have h2 := (h.stp.lt k hk').2; omega
theorem DM.popS {ad : Option Addr} {n c : Nat} (h : DM w wr ob ub sb cb B N uc s t tr (.slice ad (n + 1) c) pv tv) (hn : s.st.length = n + 1) : DM w (wr.setCell ⟨sb, 0, none⟩ (.slice ad n c)) ob ub sb cb B N uc { s with st := s.st.dropLast } t tr (.slice ad n c) pv tv :=
 h.pushS ⟨rfl, rfl, rfl, Nat.le_refl _, fun _ _ _ => rfl⟩ (st_shrink h.stk hn) (.inl (by cases ad <;> rfl))
theorem DM.setV (h : DM w wr ob ub sb cb B N uc s t tr sv pv tv) {j : Nat} (hj : j < 8) (v : Int) : DM w (wr.setCell ⟨ub, j, none⟩ (.int .i64 v)) ob ub sb cb B N uc { s with vs := s.vs.set j v } t tr sv pv tv := by
 obtain ⟨o1, o2, o3, o4, o5, o6, o7, o8⟩ := h.ord
 obtain ⟨d1, d2, d3, d4, d5, d6⟩ := h.dis
 have set : ∀ k, k ≠ ub → (wr.setCell ⟨ub, j, none⟩ (.int .i64 v)).heap[k]? = wr.heap[k]? := fun k hk => Below.heap_setCell _ _ _ _ (by show k ≠ ub; exact hk)
 have rows : ∀ {e : TypeId} {size n : Nat} {x : Value} {xs : List Value}, wr.ownsRow B e size x n xs → (wr.setCell ⟨ub, j, none⟩ (.int .i64 v)).ownsRow B e size x n xs := fun hr => ownsRow_same hr (fun k hk _ => set k (by omega))
 exact ⟨h.bel.setCell (by show w.heap.size ≤ ub; omega) _, (set _ (by omega)).trans h.g8, (set _ (by omega)).trans h.out, h.var.set hj v, (set _ (by omega)).trans h.sbx, h.cmap.same (set _ (by omega)), rows h.stk, rows h.pts, rows h.stp, h.a1, h.a2, h.a3, h.ord, h.dis, by have := h.bas; simpa using this, h.lc⟩
theorem DM.pushP (h : DM w wr ob ub sb cb B N uc s t tr sv pv tv) {ps' : List (Int × Int)} {pv' : Value} (hg : wr.grownBy w' pv.ownBlock) (ho : w'.ownsRow B 43 2 pv' ps'.length (putVs ps')) (hv : pv'.ownBlock = pv.ownBlock ∨ ∀ k, pv'.ownBlock = some k → wr.heap.size ≤ k) :
  DM w (w'.setCell ⟨ob, 1, none⟩ pv') ob ub sb cb B N uc { s with ps := ps' } t tr sv pv' tv := by
 obtain ⟨o1, o2, o3, o4, o5, o6, o7, o8⟩ := h.ord
 obtain ⟨d1, d2, d3, d4, d5, d6⟩ := h.dis
 have old := h.low hg (fun k hk => (h.pts.lt k hk).1)
 have set : ∀ k, k ≠ ob → (w'.setCell ⟨ob, 1, none⟩ pv').heap[k]? = w'.heap[k]? := fun k hk => Below.heap_setCell _ _ _ _ (by show k ≠ ob; exact hk)
 have rows : ∀ {e : TypeId} {size n : Nat} {v : Value} {xs : List Value}, w'.ownsRow B e size v n xs → (w'.setCell ⟨ob, 1, none⟩ pv').ownsRow B e size v n xs := fun hr => ownsRow_same hr (fun k hk _ => set k (by omega))
 refine ⟨(h.bel.grown hg h.bel.size (fun k hk => by have := (h.pts.lt k hk).1; omega)).setCell (by show w.heap.size ≤ ob; omega) _, (set _ (by omega)).trans ((old _ (by omega)).trans h.g8), ?_, h.var.same ((set _ (by omega)).trans (old _ o5)), (set _ (by omega)).trans ((old _ o7).trans h.sbx), h.cmap.same ((set _ (by omega)).trans (old _ o8)), rows (ownsRow_else h.stk hg (fun k hk e => h.a1 k hk e)), rows ho, rows (ownsRow_else h.stp hg (fun k hk e => h.a3 k e hk)), ?_, h.a2, ?_, h.ord, h.dis, by have := h.bas; have := hg.size; simp; omega, h.lc⟩
 ·rw [setCell_at ((old _ o6).trans h.out)]; rfl
 ·intro k hk hk'
  rcases hv with hv | hv
  ·rw [hv] at hk'; exact h.a1 k hk hk'
  ·have h1 := hv k hk'; have h2 := (h.stk.lt k hk).2; omega
 ·intro k hk hk'
  rcases hv with hv | hv
  ·rw [hv] at hk; exact h.a3 k hk hk'
  ·have h1 := hv k hk; have h2 := (h.stp.lt k hk').2; omega
theorem DM.setM (h : DM w wr ob ub sb cb B N uc s t tr sv pv tv) {z : Nat} {v : Int} (hg : wr.grownBy w' (some cb)) (hc : CM w' cb (N + 1) (s.cs.set z v)) : DM w w' ob ub sb cb B (N + 1) uc { s with cs := s.cs.set z v } t tr sv pv tv := by
 obtain ⟨o1, o2, o3, o4, o5, o6, o7, o8⟩ := h.ord
 obtain ⟨d1, d2, d3, d4, d5, d6⟩ := h.dis
 have old : ∀ k, k < B → k ≠ cb → w'.heap[k]? = wr.heap[k]? := fun k hk hne => hg.block k (Nat.lt_of_lt_of_le hk h.bas) (fun e => by cases e; exact hne rfl)
 have els : ∀ {v : Value} {e : TypeId} {size n : Nat} {xs : List Value}, wr.ownsRow B e size v n xs → w'.ownsRow B e size v n xs := fun hr => ownsRow_else hr hg (fun k hk e => by cases e; have := (hr.lt cb hk).1; omega)
 exact ⟨h.bel.grown hg h.bel.size (fun k hk => by cases hk; omega), (old _ (by omega) (by omega)).trans h.g8, (old _ o6 (by omega)).trans h.out, h.var.same (old _ o5 (by omega)), (old _ o7 (by omega)).trans h.sbx, hc, els h.stk, els h.pts, els h.stp, h.a1, h.a2, h.a3, h.ord, h.dis, Nat.le_trans h.bas hg.size, by simp [h.lc]⟩
theorem DM.pushT (h : DM w wr ob ub sb cb B N uc s t tr sv pv tv) {tr' : List (Nat × Int)} {tv' : Value} (hg : wr.grownBy w' tv.ownBlock) (ho : w'.ownsRow B 80 2 tv' tr'.length (stepVs tr')) (hv : tv'.ownBlock = tv.ownBlock ∨ ∀ k, tv'.ownBlock = some k → wr.heap.size ≤ k) :
  DM w w' ob ub sb cb B N uc s t tr' sv pv tv' := by
 obtain ⟨o1, o2, o3, o4, o5, o6, o7, o8⟩ := h.ord
 have old := h.low hg (fun k hk => (h.stp.lt k hk).1)
 refine ⟨h.bel.grown hg h.bel.size (fun k hk => by have := (h.stp.lt k hk).1; omega), (old _ (by omega)).trans h.g8, (old _ o6).trans h.out, h.var.same (old _ o5), (old _ o7).trans h.sbx, h.cmap.same (old _ o8), ownsRow_else h.stk hg (fun k hk e => h.a2 k hk e), ownsRow_else h.pts hg (fun k hk e => h.a3 k hk e), ho, h.a1, ?_, ?_, h.ord, h.dis, Nat.le_trans h.bas hg.size, h.lc⟩
 ·intro k hk hk'
  rcases hv with hv | hv
  ·rw [hv] at hk'; exact h.a2 k hk hk'
  ·have h1 := hv k hk'; have h2 := (h.stk.lt k hk).2; omega
 ·intro k hk hk'
  rcases hv with hv | hv
  ·rw [hv] at hk'; exact h.a3 k hk hk'
  ·have h1 := hv k hk'; have h2 := (h.pts.lt k hk).2; omega
theorem DM.addT (h : DM w wr ob ub sb cb B N uc s t tr sv pv tv) (t' : Int) : DM w (wr.setCell ⟨ob, 2, none⟩ (.int .i64 t')) ob ub sb cb B N uc s t' tr sv pv tv := by
 obtain ⟨o1, o2, o3, o4, o5, o6, o7, o8⟩ := h.ord
 obtain ⟨d1, d2, d3, d4, d5, d6⟩ := h.dis
 have set : ∀ k, k ≠ ob → (wr.setCell ⟨ob, 2, none⟩ (.int .i64 t')).heap[k]? = wr.heap[k]? := fun k hk => Below.heap_setCell _ _ _ _ (by show k ≠ ob; exact hk)
 have rows : ∀ {e : TypeId} {size n : Nat} {x : Value} {xs : List Value}, wr.ownsRow B e size x n xs → (wr.setCell ⟨ob, 2, none⟩ (.int .i64 t')).ownsRow B e size x n xs := fun hr => ownsRow_same hr (fun k hk _ => set k (by omega))
 refine ⟨h.bel.setCell (by show w.heap.size ≤ ob; omega) _, (set _ (by omega)).trans h.g8, ?_, h.var.same (set _ (by omega)), (set _ (by omega)).trans h.sbx, h.cmap.same (set _ (by omega)), rows h.stk, rows h.pts, rows h.stp, h.a1, h.a2, h.a3, h.ord, h.dis, by have := h.bas; simpa using this, h.lc⟩
 rw [setCell_at h.out]; rfl
theorem DM.setPc (h : DM w wr ob ub sb cb B N uc s t tr sv pv tv) (p : Nat) : DM w wr ob ub sb cb B N uc { s with pc := p } t tr sv pv tv :=
 ⟨h.bel, h.g8, h.out, h.var, h.sbx, h.cmap, h.stk, h.pts, h.stp, h.a1, h.a2, h.a3, h.ord, h.dis, h.bas, h.lc⟩
end
def lastF (l : List In) (ins : List Int) : Nat → MS → Int → MS × Int
 | 0, s, t => (s, t)
 | n + 1, s, t => if s.pc = l.length then (s, t) else lastF l ins n (mdo ins (atI l s) s) (t + costI (atI l s) (overI (atI l s) s))
theorem last_at {l : List In} {ins : List Int} {n : Nat} {s : MS} {t : Int} (h : s.pc ≠ l.length) : lastF l ins (n + 1) s t = lastF l ins n (mdo ins (atI l s) s) (t + costI (atI l s) (overI (atI l s) s)) := by
 rw [lastF, if_neg h]
theorem last_end {l : List In} {ins : List Int} {n : Nat} {s : MS} {t : Int} (h : s.pc = l.length) : lastF l ins n s t = (s, t) := by
 cases n with
 | zero => rfl
 | succ n => rw [lastF, if_pos h]
structure DX (w wr : World) (ob ub sb cb B N uc xb nb : Nat) (x : In) (n : Int) (s : MS) (t : Int) (tr : List (Nat × Int)) (sv pv tv : Value) : Prop where
 dm : DM w wr ob ub sb cb B N uc s t tr sv pv tv
 bx : wr.heap[xb]? = some (.cells #[.int .i64 x.op, .int .i64 x.a, .int .i64 x.b] 35 (0, 0))
 bn : wr.heap[nb]? = some (.cells #[.int .i64 n] 3 (0, 0))
 lx : B ≤ xb
 ln : B ≤ nb
 nx : some xb ≠ sv.ownBlock ∧ some xb ≠ pv.ownBlock ∧ some xb ≠ tv.ownBlock
 nn : some nb ≠ sv.ownBlock ∧ some nb ≠ pv.ownBlock ∧ some nb ≠ tv.ownBlock
section
variable {w wr w' : World} {ob ub sb cb B N uc xb nb : Nat} {x : In} {n : Int} {s : MS} {t : Int} {tr : List (Nat × Int)} {sv pv tv : Value}
theorem DX.lts (h : DX w wr ob ub sb cb B N uc xb nb x n s t tr sv pv tv) : xb < wr.heap.size ∧ nb < wr.heap.size := ⟨(Array.getElem?_eq_some_iff.1 h.bx).1, (Array.getElem?_eq_some_iff.1 h.bn).1⟩
theorem DX.start (h : DM w wr ob ub sb cb B N uc s t tr sv pv tv) (x : In) (n : Int) : DX w ((wr.alloc (.cells #[.int .i64 x.op, .int .i64 x.a, .int .i64 x.b] 35)).alloc (.cells #[.int .i64 n] 3)) ob ub sb cb B N uc wr.heap.size (wr.heap.size + 1) x n s t tr sv pv tv := by
 refine ⟨h.grow ((below_new _ _).alloc (by simp) _), ?_, ?_, h.bas, by have := h.bas; omega, ⟨fun e => ?_, fun e => ?_, fun e => ?_⟩, ⟨fun e => ?_, fun e => ?_, fun e => ?_⟩⟩
 ·rw [Below.heap_alloc _ _ _ (by simp)]; exact heap_alloc_new _ _
 ·have := heap_alloc_new (wr.alloc (.cells #[.int .i64 x.op, .int .i64 x.a, .int .i64 x.b] 35)) (.cells #[.int .i64 n] 3)
  simpa using this
 ·have := (h.stk.lt _ e.symm).2; omega
 ·have := (h.pts.lt _ e.symm).2; omega
 ·have := (h.stp.lt _ e.symm).2; omega
 ·have := (h.stk.lt _ e.symm).2; omega
 ·have := (h.pts.lt _ e.symm).2; omega
 ·have := (h.stp.lt _ e.symm).2; omega
theorem DX.grow (h : DX w wr ob ub sb cb B N uc xb nb x n s t tr sv pv tv) (hb : Below wr.heap.size wr w') : DX w w' ob ub sb cb B N uc xb nb x n s t tr sv pv tv :=
 ⟨h.dm.grow hb, (hb.block _ h.lts.1).trans h.bx, (hb.block _ h.lts.2).trans h.bn, h.lx, h.ln, h.nx, h.nn⟩
theorem own_else {v v' : Value} {k : Nat} (h : some k ≠ v.ownBlock) (hk : k < wr.heap.size) (hv : v'.ownBlock = v.ownBlock ∨ ∀ j, v'.ownBlock = some j → wr.heap.size ≤ j) : some k ≠ v'.ownBlock := by
 intro e
 rcases hv with hv | hv
 ·exact h (e.trans hv)
 ·have := hv k e.symm; omega
theorem DX.pushS (h : DX w wr ob ub sb cb B N uc xb nb x n s t tr sv pv tv) {st' : List Int} {sv' : Value} (hg : wr.grownBy w' sv.ownBlock) (ho : w'.ownsRow B 3 1 sv' st'.length (intVs st')) (hv : sv'.ownBlock = sv.ownBlock ∨ ∀ k, sv'.ownBlock = some k → wr.heap.size ≤ k) :
  DX w (w'.setCell ⟨sb, 0, none⟩ sv') ob ub sb cb B N uc xb nb x n { s with st := st' } t tr sv' pv tv := by
 have o := h.dm.ord
 have lx := h.lx
 have ln := h.ln
 refine ⟨h.dm.pushS hg ho hv, ?_, ?_, h.lx, h.ln, ⟨own_else h.nx.1 h.lts.1 hv, h.nx.2⟩, ⟨own_else h.nn.1 h.lts.2 hv, h.nn.2⟩⟩
 ·exact (Below.heap_setCell _ _ _ _ (by show xb ≠ sb; omega)).trans ((hg.block xb h.lts.1 h.nx.1).trans h.bx)
 ·exact (Below.heap_setCell _ _ _ _ (by show nb ≠ sb; omega)).trans ((hg.block nb h.lts.2 h.nn.1).trans h.bn)
theorem DX.popS {ad : Option Addr} {m c : Nat} (h : DX w wr ob ub sb cb B N uc xb nb x n s t tr (.slice ad (m + 1) c) pv tv) (hn : s.st.length = m + 1) : DX w (wr.setCell ⟨sb, 0, none⟩ (.slice ad m c)) ob ub sb cb B N uc xb nb x n { s with st := s.st.dropLast } t tr (.slice ad m c) pv tv :=
 h.pushS ⟨rfl, rfl, rfl, Nat.le_refl _, fun _ _ _ => rfl⟩ (st_shrink h.dm.stk hn) (.inl (by cases ad <;> rfl))
theorem DX.setV (h : DX w wr ob ub sb cb B N uc xb nb x n s t tr sv pv tv) {j : Nat} (hj : j < 8) (v : Int) : DX w (wr.setCell ⟨ub, j, none⟩ (.int .i64 v)) ob ub sb cb B N uc xb nb x n { s with vs := s.vs.set j v } t tr sv pv tv := by
 have o := h.dm.ord
 have lx := h.lx
 have ln := h.ln
 exact ⟨h.dm.setV hj v, (Below.heap_setCell _ _ _ _ (by show xb ≠ ub; omega)).trans h.bx, (Below.heap_setCell _ _ _ _ (by show nb ≠ ub; omega)).trans h.bn, h.lx, h.ln, h.nx, h.nn⟩
theorem DX.pushP (h : DX w wr ob ub sb cb B N uc xb nb x n s t tr sv pv tv) {ps' : List (Int × Int)} {pv' : Value} (hg : wr.grownBy w' pv.ownBlock) (ho : w'.ownsRow B 43 2 pv' ps'.length (putVs ps')) (hv : pv'.ownBlock = pv.ownBlock ∨ ∀ k, pv'.ownBlock = some k → wr.heap.size ≤ k) :
  DX w (w'.setCell ⟨ob, 1, none⟩ pv') ob ub sb cb B N uc xb nb x n { s with ps := ps' } t tr sv pv' tv := by
 have o := h.dm.ord
 have lx := h.lx
 have ln := h.ln
 refine ⟨h.dm.pushP hg ho hv, ?_, ?_, h.lx, h.ln, ⟨h.nx.1, own_else h.nx.2.1 h.lts.1 hv, h.nx.2.2⟩, ⟨h.nn.1, own_else h.nn.2.1 h.lts.2 hv, h.nn.2.2⟩⟩
 ·exact (Below.heap_setCell _ _ _ _ (by show xb ≠ ob; omega)).trans ((hg.block xb h.lts.1 h.nx.2.1).trans h.bx)
 ·exact (Below.heap_setCell _ _ _ _ (by show nb ≠ ob; omega)).trans ((hg.block nb h.lts.2 h.nn.2.1).trans h.bn)
theorem DX.setM (h : DX w wr ob ub sb cb B N uc xb nb x n s t tr sv pv tv) {z : Nat} {v : Int} (hg : wr.grownBy w' (some cb)) (hc : CM w' cb (N + 1) (s.cs.set z v)) : DX w w' ob ub sb cb B (N + 1) uc xb nb x n { s with cs := s.cs.set z v } t tr sv pv tv := by
 have o := h.dm.ord
 have lx := h.lx
 have ln := h.ln
 exact ⟨h.dm.setM hg hc, (hg.block xb h.lts.1 (fun e => by cases e; omega)).trans h.bx, (hg.block nb h.lts.2 (fun e => by cases e; omega)).trans h.bn, h.lx, h.ln, h.nx, h.nn⟩
theorem DX.pushT (h : DX w wr ob ub sb cb B N uc xb nb x n s t tr sv pv tv) {tr' : List (Nat × Int)} {tv' : Value} (hg : wr.grownBy w' tv.ownBlock) (ho : w'.ownsRow B 80 2 tv' tr'.length (stepVs tr')) (hv : tv'.ownBlock = tv.ownBlock ∨ ∀ k, tv'.ownBlock = some k → wr.heap.size ≤ k) :
  DX w w' ob ub sb cb B N uc xb nb x n s t tr' sv pv tv' :=
 ⟨h.dm.pushT hg ho hv, (hg.block xb h.lts.1 h.nx.2.2).trans h.bx, (hg.block nb h.lts.2 h.nn.2.2).trans h.bn, h.lx, h.ln, ⟨h.nx.1, h.nx.2.1, own_else h.nx.2.2 h.lts.1 hv⟩, ⟨h.nn.1, h.nn.2.1, own_else h.nn.2.2 h.lts.2 hv⟩⟩
theorem DX.addT (h : DX w wr ob ub sb cb B N uc xb nb x n s t tr sv pv tv) (t' : Int) : DX w (wr.setCell ⟨ob, 2, none⟩ (.int .i64 t')) ob ub sb cb B N uc xb nb x n s t' tr sv pv tv := by
 have o := h.dm.ord
 have lx := h.lx
 have ln := h.ln
 exact ⟨h.dm.addT t', (Below.heap_setCell _ _ _ _ (by show xb ≠ ob; omega)).trans h.bx, (Below.heap_setCell _ _ _ _ (by show nb ≠ ob; omega)).trans h.bn, h.lx, h.ln, h.nx, h.nn⟩
theorem DX.reads (h : DX w wr ob ub sb cb B N uc xb nb x n s t tr sv pv tv) : (wr.cell? ⟨xb, 0, none⟩ = some (.int .i64 x.op) ∧ wr.cell? ⟨xb, 1, none⟩ = some (.int .i64 x.a) ∧ wr.cell? ⟨xb, 2, none⟩ = some (.int .i64 x.b)) ∧ wr.cell? ⟨nb, 0, none⟩ = some (.int .i64 n) ∧ (wr.cell? ⟨sb, 0, none⟩ = some sv ∧ wr.frozen? ⟨sb, 0, none⟩ = false ∧ sb < wr.heap.size) ∧ (wr.cell? ⟨ob, 0, none⟩ = some (.slice (some ⟨ub, 0, none⟩) 8 uc) ∧ wr.cell? ⟨ob, 1, none⟩ = some pv ∧ wr.cell? ⟨ob, 2, none⟩ = some (.int .i64 t) ∧ (∀ j, wr.frozen? ⟨ob, j, none⟩ = false) ∧ ob < wr.heap.size) := by
 obtain ⟨c1, -, -⟩ := cells_of (l := [_, _, _]) h.bx
 obtain ⟨d1, -, -⟩ := cells_of (l := [_]) h.bn
 obtain ⟨e1, e2, e3⟩ := cells_of (l := [_]) h.dm.sbx
 obtain ⟨f1, f2, f3⟩ := cells_of (l := [_, _, _]) h.dm.out
 exact ⟨⟨c1 0 _ rfl, c1 1 _ rfl, c1 2 _ rfl⟩, d1 0 _ rfl, ⟨e1 0 _ rfl, e2 0, e3⟩, f1 0 _ rfl, f1 1 _ rfl, f1 2 _ rfl, f2, f3⟩
theorem DX.tops (h : DX w wr ob ub sb cb B N uc xb nb x n s t tr sv pv tv) {m : Nat} (hn : s.st.length = m + 1) : ∃ (b c : Nat), sv = .slice (some ⟨b, 0, none⟩) (m + 1) c ∧ wr.cell? ⟨b, m, none⟩ = some (.int .i64 s.top) ∧ (∀ k, m = k + 1 → wr.cell? ⟨b, k, none⟩ = some (.int .i64 s.second)) ∧ b < wr.heap.size ∧ B ≤ b ∧ m + 1 ≤ c := by
 have hb := h.dm.stk
 rw [hn] at hb
 have hb' := hb
 obtain ⟨-, ⟨e, he⟩ | ⟨g, cap, cur, e, hB, hg, hc, -, -, -⟩⟩ := hb'
 ·omega
 ·subst e
  refine ⟨g, cap, rfl, ?_, fun k hk => ?_, (Array.getElem?_eq_some_iff.1 hg).1, hB, hc⟩
  ·have h1 := hb.cellAt m (by omega)
   rw [intVs_at (by omega)] at h1
   have ht : s.top = s.st.getD m 0 := by
    unfold MS.top
    rw [List.getLast?_eq_getElem?, hn, Nat.add_sub_cancel, List.getD_eq_getElem?_getD]
   rw [ht]
   exact h1
  ·subst hk
   have h1 := hb.cellAt k (by omega)
   rw [intVs_at (by omega)] at h1
   have ht : s.second = s.st.getD k 0 := by
    unfold MS.second
    rw [List.getLast?_eq_getElem?, List.length_dropLast, hn, List.getD_eq_getElem?_getD, List.getElem?_dropLast, if_pos (by omega)]
    congr 2
   rw [ht]
   exact h1
end
theorem VB.of_owns {w : World} {B : Nat} {v : Value} {vs : List Int} (h : w.ownsRow B 3 1 v vs.length (intVs vs)) (hl : vs.length = 8) : ∃ ub uc, v = .slice (some ⟨ub, 0, none⟩) 8 uc ∧ VB w ub uc vs ∧ B ≤ ub := by
 have h' := h
 rw [hl] at h'
 obtain ⟨-, ⟨e, he⟩ | ⟨g, cap, cur, rfl, hB, hg, hc, hm, hs, ht⟩⟩ := h'
 ·omega
 ·refine ⟨g, cap, rfl, ⟨hl, cur, hg, ⟨by omega, by omega⟩, fun j hj => ?_⟩, hB⟩
  have e : (cur.toList.take (8 * 1))[j]? = (intVs vs)[j]? := by rw [ht]
  rw [List.getElem?_take_of_lt (by omega), intVs_at (by omega)] at e
  simpa using e
theorem DM.start {w w3 : World} {ub uc : Nat} {vs : List Int} (hb : Below w.heap.size w w3) (hg : w3.heap[w.heap.size]? = some (.cells #[.slice none 0 0, .slice none 0 0, .int .i64 0] 27 (0, 0))) (hv : VB w3 ub uc vs) (hub : w.heap.size < ub) :
  DM w (((w3.alloc (.cells #[.slice (some ⟨ub, 0, none⟩) 8 uc, .slice none 0 0, .int .i64 0] 27)).alloc (.cells #[.slice none 0 0] 23)).alloc (.map #[] 0)) w3.heap.size ub (w3.heap.size + 1) (w3.heap.size + 1 + 1) (w3.heap.size + 1 + 1 + 1) 0 uc (ms0 vs) 0 [] (.slice none 0 0) (.slice none 0 0) (.slice none 0 0) := by
 have lu : ub < w3.heap.size := by obtain ⟨-, cs, h2, -⟩ := hv; exact (Array.getElem?_eq_some_iff.1 h2).1
 have lw : w.heap.size < w3.heap.size := (Array.getElem?_eq_some_iff.1 hg).1
 have bb : Below w3.heap.size w3 (((w3.alloc (.cells #[.slice (some ⟨ub, 0, none⟩) 8 uc, .slice none 0 0, .int .i64 0] 27)).alloc (.cells #[.slice none 0 0] 23)).alloc (.map #[] 0)) := ((below_new _ _).alloc (by simp) _).alloc (by simp; omega) _
 refine ⟨below_seq hb bb, (bb.block _ lw).trans hg, ?_, hv.same (bb.block _ lu), ?_, ⟨fun _ => none, ?_, fun z hz => ?_⟩, ⟨rfl, .inl ⟨rfl, rfl⟩⟩, ⟨rfl, .inl ⟨rfl, rfl⟩⟩, ⟨rfl, .inl ⟨rfl, rfl⟩⟩, (fun k hk => by cases hk), (fun k hk => by cases hk), (fun k hk => by cases hk), ?_, ?_, by simp, rfl⟩
 ·rw [Below.heap_alloc _ _ _ (by simp; omega), Below.heap_alloc _ _ _ (by simp)]; exact heap_alloc_new _ _
 ·rw [Below.heap_alloc _ _ _ (by simp)]
  have := heap_alloc_new (w3.alloc (.cells #[.slice (some ⟨ub, 0, none⟩) 8 uc, .slice none 0 0, .int .i64 0] 27)) (.cells #[.slice none 0 0] 23)
  simpa using this
 ·have := HtAt.made ((w3.alloc (.cells #[.slice (some ⟨ub, 0, none⟩) 8 uc, .slice none 0 0, .int .i64 0] 27)).alloc (.cells #[.slice none 0 0] 23))
  simpa using this
 ·have : z = 0 ∨ z = 1 ∨ z = 2 ∨ z = 3 ∨ z = 4 ∨ z = 5 ∨ z = 6 ∨ z = 7 := by omega
  rcases this with rfl | rfl | rfl | rfl | rfl | rfl | rfl | rfl <;> rfl
 ·omega
 ·omega
theorem infoStep : (Tryd.prog.info? 80).map (fun i => (i.zero, i.size, i.bytes)) = some (some (.agg #[.int .i64 0, .int .i64 0]), 2, 16) := by kernel_rfl
theorem wp_pushT {w : World} {ops : Array Oper} {rest : List Oper} {o : Oper} {a : Act} {Q : Exit → Act → World → Prop} (hgd : o.guard = none) (s x : Operand)
  (ho : o.op = .call { callee := .builtin .append, args := #[s, x], argTypes := #[76, 76] }) (B : Nat) (v : Value) (rs : List (Nat × Int)) (p : Nat) (q : Int) (g : Nat) (hgg : w.heap.size = g) (hs : a.eval s = v) (hx : a.eval x = .slice (some ⟨g, 0, none⟩) 1 1)
  (hown : w.ownsRow B 80 2 v rs.length (stepVs rs)) (hB : B ≤ w.heap.size) (hl : rs.length ≤ 4000000)
  (h : ∀ ad c w', w'.ownsRow B 80 2 (.slice ad (rs.length + 1) c) (rs.length + 1) (stepVs (rs ++ [(p, q)])) → (w.alloc (.cells #[.int .i64 (p : Int), .int .i64 q] 80)).grownBy w' v.ownBlock → ((Value.slice ad (rs.length + 1) c).ownBlock = v.ownBlock ∨ ∀ k, (Value.slice ad (rs.length + 1) c).ownBlock = some k → (w.alloc (.cells #[.int .i64 (p : Int), .int .i64 q] 80)).heap.size ≤ k) → wpList Tryd.prog ops Q rest (a.put o.dst (.slice ad (rs.length + 1) c)) w') : wpList Tryd.prog ops Q (o :: rest) a (w.alloc (.cells #[.int .i64 (p : Int), .int .i64 q] 80)) := by
 subst hgg
 obtain ⟨i0, hi0, hz0, hz1, hz2⟩ := info_parts infoStep
 have hown' : (w.alloc (.cells #[.int .i64 (p : Int), .int .i64 q] 80)).ownsRow B 80 2 v rs.length (stepVs rs) := ownsRow_same hown (fun k _ hk => (below_new w _).block k hk)
 obtain ⟨v4, w4, hrun, ho4, hg4, hv4⟩ := append_two (P := Tryd.prog) (w.alloc (.cells #[.int .i64 (p : Int), .int .i64 q] 80)) B w.heap.size 76 o.type 80 i0 _ 2 16 Tryd.underlying76 hi0 hz0 hz1 hz2 rfl (by decide) v rs.length (stepVs rs) hown' _ 1 [.int .i64 (p : Int), .int .i64 q] (World.ownsRow_lit w #[.int .i64 (p : Int), .int .i64 q] 1 (Nat.le_refl _) (by decide) rfl) (by intro u hu; simp at hu; rcases hu with hu | hu <;> subst hu <;> rfl) (by unfold maxLen; omega) (by omega) (by simp; omega)
 obtain ⟨vad, vcap, rfl⟩ := owns_value ho4
 refine append_known hgd s x 76 ho hs hx hrun ?_
 exact h vad vcap w4 (by rw [stepVs_append]; exact ho4) hg4 hv4
def StepSl (w : World) (tr : List (Nat × Int)) (v : Value) : Prop := ∃ ad c, v = .slice ad tr.length c ∧ (tr = [] ∨ ∃ b o, ad = some ⟨b, o, none⟩ ∧ ∀ j, j < tr.length → w.cell? ⟨b, o + j * 2, none⟩ = some (.int .i64 ((tr.getD j (0, 0)).1 : Int)) ∧ w.cell? ⟨b, o + j * 2 + 1, none⟩ = some (.int .i64 (tr.getD j (0, 0)).2))
theorem StepSl.of_own {w : World} {B : Nat} {v : Value} {tr : List (Nat × Int)} (h : w.ownsRow B 80 2 v tr.length (stepVs tr)) : StepSl w tr v := by
 obtain ⟨ad, cap, rfl⟩ := owns_value h
 refine ⟨ad, cap, rfl, ?_⟩
 by_cases h0 : tr = []
 ·exact .inl h0
 have h' := h
 obtain ⟨-, ⟨e, he⟩ | ⟨g, cap', cur, e, -, hg, -, -, -, ht⟩⟩ := h'
 ·exact absurd (List.length_eq_zero_iff.1 he) h0
 cases e
 refine .inr ⟨g, 0, rfl, fun j hj => ?_⟩
 obtain ⟨h1, h2⟩ := stepVs_at tr j hj
 rw [Nat.zero_add]
 exact ⟨(h.cellAt (j * 2) (by omega)).trans h1, (h.cellAt (j * 2 + 1) (by omega)).trans h2⟩
def Fresh3 (w : World) (u q tv : Value) : Prop := (∀ k, u.ownBlock = some k → w.heap.size ≤ k) ∧ (∀ k, q.ownBlock = some k → w.heap.size ≤ k) ∧ ∀ k, tv.ownBlock = some k → w.heap.size ≤ k
def StepsPost (w : World) (l : List In) (ins vs : List Int) (most : Nat) (r : Ending) (w' : World) : Prop := Below w.heap.size w w' ∧ ∃ u q tv, r = .returned (.tuple #[.agg #[u, q, .int .i64 (lastF l ins most (ms0 vs) 0).2], tv, .bool (decide ((lastF l ins most (ms0 vs) 0).1.pc = l.length))]) ∧ IntSl w' (lastF l ins most (ms0 vs) 0).1.vs u ∧ PutSl w' (lastF l ins most (ms0 vs) 0).1.ps q ∧ StepSl w' (traceF l ins most (ms0 vs)) tv ∧ Fresh3 w u q tv
structure SR (w wr : World) (l : List In) (M : Int → Option Int) (ins vs : List Int) (most ob ub sb cb B uc d N : Nat) (s : MS) (t : Int) (tr : List (Nat × Int)) (sv pv tv : Value) : Prop where
 dm : DM w wr ob ub sb cb B N uc s t tr sv pv tv
 mi : MI l M s
 len : tr.length = d
 le : d ≤ most
 nn : N ≤ d
 ps : s.ps.length ≤ d
 tl : 0 ≤ t ∧ t ≤ 1000 * d
 last : lastF l ins (most - d) s t = lastF l ins most (ms0 vs) 0
 trace : tr ++ traceF l ins (most - d) s = traceF l ins most (ms0 vs)
theorem putVs_at : ∀ (ps : List (Int × Int)) (j : Nat), j < ps.length → (putVs ps)[j * 2]? = some (.int .i64 (ps.getD j (0, 0)).1) ∧ (putVs ps)[j * 2 + 1]? = some (.int .i64 (ps.getD j (0, 0)).2)
 | [], j, h => by simp at h
 | p :: r, 0, _ => by simp [putVs]
 | p :: r, j + 1, h => by
  have ih := putVs_at r j (by simpa using h)
  have e : putVs (p :: r) = .int .i64 p.1 :: .int .i64 p.2 :: putVs r := by simp [putVs]
  rw [e, show (j + 1) * 2 = j * 2 + 1 + 1 by omega, show j * 2 + 1 + 1 + 1 = (j * 2 + 1) + 1 + 1 by omega]
  simpa using ih
theorem PutSl.of_own {w : World} {B : Nat} {v : Value} {ps : List (Int × Int)} (h : w.ownsRow B 43 2 v ps.length (putVs ps)) : PutSl w ps v := by
 obtain ⟨ad, cap, rfl⟩ := owns_value h
 refine ⟨ad, cap, rfl, ?_⟩
 by_cases h0 : ps = []
 ·exact .inl h0
 have h' := h
 obtain ⟨-, ⟨e, he⟩ | ⟨g, cap', cur, e, -, hg, -, -, -, ht⟩⟩ := h'
 ·exact absurd (List.length_eq_zero_iff.1 he) h0
 cases e
 refine .inr ⟨g, 0, rfl, fun j hj => ?_⟩
 obtain ⟨h1, h2⟩ := putVs_at ps j hj
 rw [Nat.zero_add]
 exact ⟨(h.cellAt (j * 2) (by omega)).trans h1, (h.cellAt (j * 2 + 1) (by omega)).trans h2⟩
theorem DM.told {w wr : World} {ob ub sb cb B N uc : Nat} {s : MS} {t : Int} {tr : List (Nat × Int)} {sv pv tv : Value} (h : DM w wr ob ub sb cb B N uc s t tr sv pv tv) (a0 a1 a2 : Value) :
  let W := ((wr.setCell ⟨w.heap.size, 0, none⟩ a0).setCell ⟨w.heap.size, 1, none⟩ a1).setCell ⟨w.heap.size, 2, none⟩ a2
  W.heap[w.heap.size]? = some (.cells #[a0, a1, a2] 27 (0, 0)) ∧ Below w.heap.size w W ∧ IntSl W s.vs (.slice (some ⟨ub, 0, none⟩) 8 uc) ∧ PutSl W s.ps pv ∧ StepSl W tr tv ∧ Fresh3 w (.slice (some ⟨ub, 0, none⟩) 8 uc) pv tv := by
 obtain ⟨o1, o2, o3, o4, o5, o6, o7, o8⟩ := h.ord
 have set : ∀ k, k ≠ w.heap.size → (((wr.setCell ⟨w.heap.size, 0, none⟩ a0).setCell ⟨w.heap.size, 1, none⟩ a1).setCell ⟨w.heap.size, 2, none⟩ a2).heap[k]? = wr.heap[k]? := fun k hk => by
  rw [Below.heap_setCell _ _ _ _ (by show k ≠ w.heap.size; exact hk), Below.heap_setCell _ _ _ _ (by show k ≠ w.heap.size; exact hk), Below.heap_setCell _ _ _ _ (by show k ≠ w.heap.size; exact hk)]
 refine ⟨?_, ((h.bel.setCell (Nat.le_refl _) _).setCell (Nat.le_refl _) _).setCell (Nat.le_refl _) _, ?_, PutSl.of_own (ownsRow_same h.pts (fun k hk _ => set k (by omega))), StepSl.of_own (ownsRow_same h.stp (fun k hk _ => set k (by omega))), (fun k hk => by have e : ub = k := Option.some.inj hk; omega), (fun k hk => by have := (h.pts.lt k hk).1; omega), fun k hk => by have := (h.stp.lt k hk).1; omega⟩
 ·rw [setCell_at (setCell_at (setCell_at h.g8))]; rfl
 ·have hv := h.var.same (set ub (by omega))
  refine ⟨some ⟨ub, 0, none⟩, uc, by rw [hv.1], .inr ⟨ub, 0, rfl, fun j hj => ?_⟩⟩
  rw [Nat.zero_add]
  exact (hv.cell (by have := hv.1; omega)).1
theorem Steps_ends {w : World} {g : Nat} {a0 a1 a2 p q : Value} {a : Act} (h6 : w.heap[g]? = some (.cells #[a0, a1, a2] 27 (0, 0))) (h8 : a.tmps[8]?.getD undef = .pointer (some ⟨g, 0, none⟩)) (h9 : a.tmps[9]?.getD undef = p) (h10 : a.tmps[10]?.getD undef = q) :
  (results Tryd.f41 a.tmps).run Tryd.prog w = .ok (.tuple #[.agg #[a0, a1, a2], p, q]) w := by
 obtain ⟨c1, f1, l1⟩ := cells_of (l := [_, _, _]) h6
 have c10 := c1 0 _ rfl
 have c11 := c1 1 _ rfl
 have c12 := c1 2 _ rfl
 subst h9 h10
 simp [results, Tryd.results41, go_sem, h8, c10, c11, c12]
end Go.Proofs.YtibcbdihphbfeacDoor
