import Derived.Test.YtibcbdihphbfeacDoorGMOver
import Derived.MapKept
namespace Go.Proofs.YtibcbdihphbfeacDoor
open Go.ChangeShapes Go.WideShapes Go.ChangeAt Go.RowKit
theorem look_found {w : World} {q clock i : Nat} {es : Array MapEntry} {z : Int} {v : Value} (h : w.heap[q]? = some (.map es clock)) (hf : Instr.findNow (.int .i64) (.int .i64 z) es.toList 0 = some (some (i, v))) :
  (Instr.lookup 83 (.map (some q)) (.int .i64 z) true).run Tryd.prog w = .ok (.tuple #[v, .bool true]) w := by
 have hck : ∀ e : Bool, (Instr.checkKey e 10000 3 (.int .i64 z)).run Tryd.prog w = .ok () w := fun e => MapKept.run_checkKey (d := .int .i64) (k := .int .i64 z) Tryd.underlying3 (by simp [MapKept.IsKey]) e 9999
 simp [Instr.lookup, run_underlying Tryd.underlying83, MapKept.run_getObj_map h, hck, MapKept.run_findKey (d := .int .i64) Tryd.underlying3 hf, Result.andThen]
theorem infoOp : (Tryd.prog.info? 138).map (fun i => (i.zero, i.size, i.bytes)) = some (some .nilFunc, 1, 8) := by kernel_rfl
theorem look_none {w : World} {q clock : Nat} {es : Array MapEntry} {z : Int} (h : w.heap[q]? = some (.map es clock)) (hf : Instr.findNow (.int .i64) (.int .i64 z) es.toList 0 = some none) :
  (Instr.lookup 83 (.map (some q)) (.int .i64 z) true).run Tryd.prog w = .ok (.tuple #[.nilFunc, .bool false]) w := by
 have hck : ∀ e : Bool, (Instr.checkKey e 10000 3 (.int .i64 z)).run Tryd.prog w = .ok () w := fun e => MapKept.run_checkKey (d := .int .i64) (k := .int .i64 z) Tryd.underlying3 (by simp [MapKept.IsKey]) e 9999
 obtain ⟨i0, hi0, hz0, hz1, hz2⟩ := info_parts infoOp
 simp [Instr.lookup, run_underlying Tryd.underlying83, MapKept.run_getObj_map h, hck, MapKept.run_findKey (d := .int .i64) Tryd.underlying3 hf, Result.andThen, zeroValue, typeInfo, hi0, hz0]
theorem ops_find (g : Nat) : Instr.findNow (.int .i64) (.int .i64 4) (opsEs g).toList 0 = some (some (0, .func (Fn.func 76) #[] #[])) ∧ Instr.findNow (.int .i64) (.int .i64 5) (opsEs g).toList 0 = some (some (1, .func (Fn.func 77) #[] #[])) ∧ Instr.findNow (.int .i64) (.int .i64 6) (opsEs g).toList 0 = some (some (2, .func (Fn.func 78) #[] #[])) ∧ Instr.findNow (.int .i64) (.int .i64 7) (opsEs g).toList 0 = some (some (3, .func (Fn.func 79) #[] #[.pointer (some ⟨g, 0, none⟩)])) ∧ Instr.findNow (.int .i64) (.int .i64 8) (opsEs g).toList 0 = some (some (4, .func (Fn.func 80) #[] #[.pointer (some ⟨g, 0, none⟩)])) :=
 ⟨rfl, rfl, rfl, rfl, rfl⟩
theorem ops_none (g : Nat) {z : Int} (h : z < 4 ∨ 8 < z) : Instr.findNow (.int .i64) (.int .i64 z) (opsEs g).toList 0 = some none := by
 have e4 : (z == 4) = false := by simp; omega
 have e5 : (z == 5) = false := by simp; omega
 have e6 : (z == 6) = false := by simp; omega
 have e7 : (z == 7) = false := by simp; omega
 have e8 : (z == 8) = false := by simp; omega
 simp [opsEs, Instr.findNow, Instr.sameNow, e4, e5, e6, e7, e8]
section
variable (w : World) (a b : Int)
set_option maxRecDepth 20000 in
set_option maxHeartbeats 4000000 in
theorem holds_any (w : World) (so : Bool) : Calls Tryd.prog 75 #[.bool so] w fun r w' => r = .returned (.int .i64 (if so = true then 1 else 0)) ∧ w' = w := by
 cases so
 ·go_enter Tryd.func75, Tryd.ntmps75
  go_wp2_with fail
  go_ret
  exact ⟨rfl, rfl⟩
 ·go_enter Tryd.func75, Tryd.ntmps75
  go_wp2_with fail
  go_ret
  exact ⟨rfl, rfl⟩
set_option maxRecDepth 20000 in
set_option maxHeartbeats 4000000 in
theorem add_any : Calls Tryd.prog 76 #[.int .i64 a, .int .i64 b] w fun r w' => r = .returned (.int .i64 (wrap64 (a + b))) ∧ w' = w := by
 go_enter Tryd.func76, Tryd.ntmps76
 go_wp2_with fail
 go_ret
 exact ⟨rfl, rfl⟩
set_option maxRecDepth 20000 in
set_option maxHeartbeats 4000000 in
theorem sub_any : Calls Tryd.prog 77 #[.int .i64 a, .int .i64 b] w fun r w' => r = .returned (.int .i64 (wrap64 (a - b))) ∧ w' = w := by
 go_enter Tryd.func77, Tryd.ntmps77
 go_wp2_with fail
 go_ret
 exact ⟨rfl, rfl⟩
set_option maxRecDepth 20000 in
set_option maxHeartbeats 4000000 in
theorem mul_any : Calls Tryd.prog 78 #[.int .i64 a, .int .i64 b] w fun r w' => r = .returned (.int .i64 (wrap64 (a * b))) ∧ w' = w := by
 go_enter Tryd.func78, Tryd.ntmps78
 go_wp2_with fail
 go_ret
 exact ⟨rfl, rfl⟩
set_option maxRecDepth 20000 in
set_option maxHeartbeats 4000000 in
theorem less_any (g : Nat) (h : w.cell? ⟨g, 0, none⟩ = some (.func (Fn.func 75) #[] #[])) : Calls Tryd.prog 79 #[.int .i64 a, .int .i64 b, .pointer (some ⟨g, 0, none⟩)] w fun r w' => r = .returned (.int .i64 (if a < b then 1 else 0)) ∧ w' = w := by
 by_cases hab : a < b
 ·rw [if_pos hab]
  go_enter Tryd.func79, Tryd.ntmps79
  go_wp2_with (go_at_call 75; refine (holds_any _ _).mono ?_; rintro r w3 ⟨rfl, rfl⟩)
  go_ret
  exact ⟨by simp, rfl⟩
 ·rw [if_neg hab]
  go_enter Tryd.func79, Tryd.ntmps79
  go_wp2_with (go_at_call 75; refine (holds_any _ _).mono ?_; rintro r w3 ⟨rfl, rfl⟩)
  go_ret
  exact ⟨by simp, rfl⟩
set_option maxRecDepth 20000 in
set_option maxHeartbeats 4000000 in
theorem same_any (g : Nat) (h : w.cell? ⟨g, 0, none⟩ = some (.func (Fn.func 75) #[] #[])) : Calls Tryd.prog 80 #[.int .i64 a, .int .i64 b, .pointer (some ⟨g, 0, none⟩)] w fun r w' => r = .returned (.int .i64 (if a = b then 1 else 0)) ∧ w' = w := by
 by_cases hab : a = b
 ·rw [if_pos hab]
  go_enter Tryd.func80, Tryd.ntmps80
  go_wp2_with (go_at_call 75; refine (holds_any _ _).mono ?_; rintro r w3 ⟨rfl, rfl⟩)
  go_ret
  exact ⟨by simp, rfl⟩
 ·rw [if_neg hab]
  go_enter Tryd.func80, Tryd.ntmps80
  go_wp2_with (go_at_call 75; refine (holds_any _ _).mono ?_; rintro r w3 ⟨rfl, rfl⟩)
  go_ret
  exact ⟨by simp, rfl⟩
end
structure XB (w : World) (mb xb : Nat) (x : In) (sv pv : Value) : Prop where
 blk : w.heap[xb]? = some (.cells #[.int .i64 x.op, .int .i64 x.a, .int .i64 x.b] 35 (0, 0))
 nmb : xb ≠ mb
 nsv : some xb ≠ sv.ownBlock
 npv : some xb ≠ pv.ownBlock
theorem XB.step {w w' : World} {mb xb : Nat} {x : In} {sv pv sv' pv' : Value} (h : XB w mb xb x sv pv) (hr : MR mb w w' sv pv sv' pv') : XB w' mb xb x sv' pv' := by
 have lx : xb < w.heap.size := (Array.getElem?_eq_some_iff.1 h.blk).1
 refine ⟨(hr.block xb lx h.nmb h.nsv h.npv).trans h.blk, h.nmb, fun e => ?_, fun e => ?_⟩
 ·rcases hr.ownS with ho | ho
  ·exact h.nsv (e.trans ho)
  ·have := ho xb e.symm; omega
 ·rcases hr.ownP with ho | ho
  ·exact h.npv (e.trans ho)
  ·have := ho xb e.symm; omega
structure DS (w W : World) (mb B : Nat) (l : List In) (iv ov : Value) (ins : List Int) (sp : Int) (x : In) (s' : MS) (sv pv sv' pv' : Value) : Prop where
 mm : MM W mb B l iv ov ins sp s' sv' pv'
 xb : XB W mb w.heap.size x sv' pv'
 mr : MR mb w W sv pv sv' pv'
section
variable {w W W' : World} {mb B : Nat} {l : List In} {iv ov : Value} {ins : List Int} {sp : Int} {x : In} {s s' s'' : MS} {sv pv sv' pv' sv'' pv'' : Value}
theorem DS.start (h : MM w mb B l iv ov ins sp s sv pv) (x : In) : DS w (w.alloc (.cells #[.int .i64 x.op, .int .i64 x.a, .int .i64 x.b] 35)) mb B l iv ov ins sp x s sv pv sv pv := by
 have hlt := h.lt
 refine ⟨h.grow (below_new _ _), ⟨heap_alloc_new _ _, by omega, fun e => ?_, fun e => ?_⟩, MR.of_below (below_new _ _)⟩
 ·have := (h.stk.lt _ e.symm).2; omega
 ·have := (h.pts.lt _ e.symm).2; omega
theorem DS.step (h : DS w W mb B l iv ov ins sp x s' sv pv sv' pv') (hm : MM W' mb B l iv ov ins sp s'' sv'' pv'') (hr : MR mb W W' sv' pv' sv'' pv'') : DS w W' mb B l iv ov ins sp x s'' sv pv sv'' pv'' :=
 ⟨hm, h.xb.step hr, h.mr.trans hr⟩
theorem DS.grow (h : DS w W mb B l iv ov ins sp x s' sv pv sv' pv') (hb : Below W.heap.size W W') : DS w W' mb B l iv ov ins sp x s' sv pv sv' pv' :=
 h.step (h.mm.grow hb) (MR.of_below hb)
theorem DS.setV (h : DS w W mb B l iv ov ins sp x s' sv pv sv' pv') {j : Nat} (hj : j < 8) (v : Int) : DS w (W.setCell ⟨mb, 1 + j, none⟩ (.int .i64 v)) mb B l iv ov ins sp x { s' with vs := s'.vs.set j v } sv pv sv' pv' := by
 rw [Nat.add_comm]
 exact h.step (h.mm.setV hj v) ((MR.refl _ _ _ _).set _ _)
theorem DS.setC (h : DS w W mb B l iv ov ins sp x s' sv pv sv' pv') {j : Nat} (hj : j < 8) (v : Int) : DS w (W.setCell ⟨mb, 13 + j, none⟩ (.int .i64 v)) mb B l iv ov ins sp x { s' with cs := s'.cs.set j v } sv pv sv' pv' := by
 rw [Nat.add_comm]
 exact h.step (h.mm.setC hj v) ((MR.refl _ _ _ _).set _ _)
theorem DS.setA (h : DS w W mb B l iv ov ins sp x s' sv pv sv' pv') (z : Nat) : DS w (W.setCell ⟨mb, 23, none⟩ (.int .i64 (z : Int))) mb B l iv ov ins sp x { s' with pc := z } sv pv sv' pv' :=
 h.step (h.mm.setA z) ((MR.refl _ _ _ _).set _ _)
theorem DS.setA1 (h : DS w W mb B l iv ov ins sp x s' sv pv sv' pv') : DS w (W.setCell ⟨mb, 23, none⟩ (.int .i64 ((s'.pc : Int) + 1))) mb B l iv ov ins sp x { s' with pc := s'.pc + 1 } sv pv sv' pv' := by
 have := h.setA (s'.pc + 1)
 rwa [show ((s'.pc + 1 : Nat) : Int) = (s'.pc : Int) + 1 by simp] at this
theorem DS.reads (h : DS w W mb B l iv ov ins sp x s' sv pv sv' pv') : W.cell? ⟨w.heap.size, 0, none⟩ = some (.int .i64 x.op) ∧ W.cell? ⟨w.heap.size, 1, none⟩ = some (.int .i64 x.a) ∧ W.cell? ⟨w.heap.size, 2, none⟩ = some (.int .i64 x.b) ∧ W.cell? ⟨mb, 23, none⟩ = some (.int .i64 s'.pc) ∧ W.cell? ⟨mb, 25, none⟩ = some ov ∧ (∀ j, W.frozen? ⟨mb, j, none⟩ = false) ∧ mb < W.heap.size ∧ w.heap.size < W.heap.size ∧ w.heap.size ≠ mb := by
 obtain ⟨c1, c2, c3⟩ := cells_of (l := [_, _, _]) h.xb.blk
 exact ⟨c1 0 _ rfl, c1 1 _ rfl, c1 2 _ rfl, h.mm.c_pc, h.mm.c_ov, h.mm.cells.2.1, h.mm.lt, c3, h.xb.nmb⟩
end
section
variable (w : World) (mb B : Nat) (l : List In) (iv ov : Value) (ins : List Int) (sp : Int) (s : MS) (sv pv : Value)
def Does (x : In) (r : Ending) (w' : World) : Prop := r = .returned (.tuple #[]) ∧ ∃ sv' pv', MM w' mb B l iv ov ins sp (mdo ins x s) sv' pv' ∧ MR mb w w' sv pv sv' pv'
end
theorem infoPut : (Tryd.prog.info? 43).map (fun i => (i.zero, i.size, i.bytes)) = some (some (.agg #[.int .i64 0, .int .i64 0]), 2, 16) := by kernel_rfl
theorem region_append {P : Program} {ops : Array Oper} {o : Oper} {a : Act} {w : World} {K : Act → World → Prop} {Q : Exit → Act → World → Prop} {E : Prop} [Decidable (Region.wanted o (yielded ops a.tmps) = true)] (hgd : o.guard = none) (s x : Operand) (t : TypeId)
  (ho : o.op = .call { callee := .builtin .append, args := #[s, x], argTypes := #[t, t] }) {v u v' : Value} {w' : World} (hs : a.eval s = v) (hx : a.eval x = u)
  (hrun : (Builtin.append_ #[t, t] o.type #[v, u]).run P w = .ok v' w') (h : K (a.put o.dst v') w') : if Region.wanted o (yielded ops a.tmps) = true then Oper.wp P o a w K Q else E := by
 have hw : Region.wanted o (yielded ops a.tmps) = true := by simp [Region.wanted, hgd]
 rw [if_pos hw]
 unfold Oper.wp
 simp [execOp, ho, resolve, invoke, builtin, hs, hx, hrun, Result.andThen]
 exact h
theorem DS.put {w W : World} {mb B : Nat} {l : List In} {iv ov : Value} {ins : List Int} {sp : Int} {x : In} {s' : MS} {sv pv sv' pv' : Value} (h : DS w W mb B l iv ov ins sp x s' sv pv sv' pv') (a t : Int) (hl : s'.ps.length ≤ 4000000) :
  ∃ ad c w4, (Builtin.append_ #[25, 25] 25 #[pv', .slice (some ⟨W.heap.size, 0, none⟩) 1 1]).run Tryd.prog (W.alloc (.cells #[.int .i64 a, .int .i64 t] 43)) = .ok (.slice ad (s'.ps.length + 1) c) w4 ∧
   DS w (w4.setCell ⟨mb, 22, none⟩ (.slice ad (s'.ps.length + 1) c)) mb B l iv ov ins sp x { s' with ps := s'.ps ++ [(a, t)] } sv pv sv' (.slice ad (s'.ps.length + 1) c) ∧ w4.cell? ⟨mb, 22, none⟩ = some pv' ∧ w4.frozen? ⟨mb, 22, none⟩ = false ∧ mb < w4.heap.size ∧ w4.cell? ⟨w.heap.size, 1, none⟩ = some (.int .i64 x.a) := by
 obtain ⟨i0, hi0, hz0, hz1, hz2⟩ := info_parts infoPut
 have hB := h.mm.bas
 have hn := h.mm.nmb
 have h1 := h.grow (below_new W (.cells #[.int .i64 a, .int .i64 t] 43))
 obtain ⟨v4, w4, hrun, ho4, hg4, hv4⟩ := append_two (P := Tryd.prog) (W.alloc (.cells #[.int .i64 a, .int .i64 t] 43)) B W.heap.size 25 25 43 i0 _ 2 16 Tryd.underlying25 hi0 hz0 hz1 hz2 rfl (by decide) pv' s'.ps.length (putVs s'.ps) h1.mm.pts _ 1 [.int .i64 a, .int .i64 t] (World.ownsRow_lit W #[.int .i64 a, .int .i64 t] 1 (Nat.le_refl _) (by decide) rfl) (by intro u hu; simp at hu; rcases hu with hu | hu <;> subst hu <;> rfl) (by unfold maxLen; omega) (by omega) (by simp; omega)
 obtain ⟨ad, c, rfl⟩ := owns_value ho4
 have hb4 := (hg4.block mb h1.mm.lt (fun e => by have := (h1.mm.pts.lt mb e.symm).1; omega)).trans h1.mm.blk
 obtain ⟨p1, p2⟩ := h1.mm.pushP hg4 (ps' := s'.ps ++ [(a, t)]) (by rw [List.length_append, putVs_snoc]; exact ho4) hv4
 have hx4 := (hg4.block w.heap.size (Array.getElem?_eq_some_iff.1 h1.xb.blk).1 h1.xb.npv).trans h1.xb.blk
 exact ⟨ad, c, w4, hrun, h1.step p1 p2, (cells_of hb4).1 _ _ (machVs_rest h.mm.lv h.mm.li h.mm.lc 1), (cells_of hb4).2.1 22, (cells_of hb4).2.2, (cells_of (l := [_, _, _]) hx4).1 1 _ rfl⟩
theorem ways_first (w : World) (k : Nat) (x : In) (z : Int) (hk : k ≤ 4194304) (hz : (waysOf k x).head? = some z) : Calls Tryd.prog 71 #[.int .i64 k, x.val] w fun r w' => (∃ b o n c, r = .returned (.slice (some ⟨b, o, none⟩) (n + 1) c) ∧ w'.cell? ⟨b, o, none⟩ = some (.int .i64 z)) ∧ Below w.heap.size w w' := by
 refine (ways_any w k x hk).mono ?_
 rintro r w' ⟨⟨v, rfl, ad, c, rfl, h1⟩, hb⟩
 refine ⟨?_, hb⟩
 rcases hw : waysOf k x with _ | ⟨y, t⟩
 ·rw [hw] at hz; simp at hz
 ·rw [hw] at hz h1
  simp only [List.head?_cons, Option.some.injEq] at hz
  subst hz
  rcases h1 with h1 | ⟨b, o, rfl, h1⟩
  ·simp at h1
  ·have := h1 0 (by simp)
   exact ⟨b, o, t.length, c, by simp, by simpa using this⟩
theorem DS.old {w W : World} {mb B : Nat} {l : List In} {iv ov : Value} {ins : List Int} {sp : Int} {x : In} {s s' : MS} {sv pv sv' pv' : Value} (h : DS w W mb B l iv ov ins sp x s' sv pv sv' pv') (h0 : MM w mb B l iv ov ins sp s sv pv) {k : Nat} (hk : k < mb) : W.heap[k]? = w.heap[k]? :=
 h.mr.block k (by have := h0.lt; omega) (by omega) (fun e => by have := (h0.stk.lt k e.symm).1; have := h0.nmb; omega) (fun e => by have := (h0.pts.lt k e.symm).1; have := h0.nmb; omega)
theorem DS.c_vs {w W : World} {mb B : Nat} {l : List In} {iv ov : Value} {ins : List Int} {sp : Int} {x : In} {s' : MS} {sv pv sv' pv' : Value} (h : DS w W mb B l iv ov ins sp x s' sv pv sv' pv') {m : Nat} (hm : m < 8) : W.cell? ⟨mb, 1 + m, none⟩ = some (.int .i64 (s'.vs.getD m 0)) := by
 rw [Nat.add_comm]; exact h.mm.c_vs hm
theorem DS.c_in {w W : World} {mb B : Nat} {l : List In} {iv ov : Value} {ins : List Int} {sp : Int} {x : In} {s' : MS} {sv pv sv' pv' : Value} (h : DS w W mb B l iv ov ins sp x s' sv pv sv' pv') {m : Nat} (hm : m < 4) : W.cell? ⟨mb, 9 + m, none⟩ = some (.int .i64 (ins.getD m 0)) := by
 rw [Nat.add_comm]; exact h.mm.c_in hm
theorem DS.c_cs {w W : World} {mb B : Nat} {l : List In} {iv ov : Value} {ins : List Int} {sp : Int} {x : In} {s' : MS} {sv pv sv' pv' : Value} (h : DS w W mb B l iv ov ins sp x s' sv pv sv' pv') {m : Nat} (hm : m < 8) : W.cell? ⟨mb, 13 + m, none⟩ = some (.int .i64 (s'.cs.getD m 0)) := by
 rw [Nat.add_comm]; exact h.mm.c_cs hm
section
variable (w : World) (mb B : Nat) (l : List In) (iv ov : Value) (ins : List Int) (sp : Int) (s : MS) (sv pv : Value)
set_option maxRecDepth 20000 in
set_option maxHeartbeats 4000000 in
theorem do_1 (a b : Int) (h : MM w mb B l iv ov ins sp s sv pv) (hl : s.st.length ≤ 1000) (hpc : s.pc ≤ 1000000) : Calls Tryd.prog 43 #[.pointer (some ⟨mb, 0, none⟩), .agg #[.int .i64 1, .int .i64 a, .int .i64 b]] w (Does w mb B l iv ov ins sp s sv pv ⟨1, a, b⟩) := by
 have HM : Hid (DS w (w.alloc (.cells #[.int .i64 1, .int .i64 a, .int .i64 b] 35)) mb B l iv ov ins sp ⟨1, a, b⟩ s sv pv sv pv) := DS.start h ⟨1, a, b⟩
 have c23 := h.c_pc
 have lm := h.lt
 obtain ⟨q, g, hov, hq, hg, hqm, hgm⟩ := h.ops
 subst hov
 have HO : Hid (MM w mb B l iv (.map (some q)) ins sp s sv pv ∧ q < mb ∧ g < mb ∧ w.heap[q]? = some (.map (opsEs g) 5) ∧ w.heap[g]? = some (.cells #[.func (Fn.func 75) #[] #[]] 135 (0, 0))) := ⟨h, hq, hg, hqm, hgm⟩
 clear h hqm hgm hq hg
 go_enter Tryd.func43, Tryd.ntmps43
 go_wp2_with (first
  | (go_at_call 42; refine (over_other _ mb 1 _ _ (by first | decide | omega) (by first | decide | omega) (by first | decide | omega)).mono ?_; rintro r w3 ⟨rfl, hb3⟩; have H3 : Hid (DS _ w3 _ _ _ _ _ _ _ _ _ _ _ _ _) := HM.out.grow hb3; obtain ⟨x0, x1, x2, y0, y1, yf, ym, yx, yn⟩ := H3.out.reads; clear hb3)
  | (go_at_call 72; refine (push_any _ mb B l iv _ ins sp _ _ _ a H3.out.setA1.mm (by dsimp only; omega)).mono ?_; rintro r w5 ⟨rfl, sv5, hm5, hr5⟩; have H5 : Hid (DS w w5 _ _ _ _ _ _ _ _ _ _ _ _ _) := H3.out.setA1.step hm5 hr5; obtain ⟨u0, u1, u2, v0, v1, vf, vm, vx, vn⟩ := H5.out.reads; clear hm5 hr5))
 have hqk := (H5.out.old HO.out.1 HO.out.2.1).trans HO.out.2.2.2.1
 obtain ⟨ku0, -, -, -, kv1, -, -, -, -⟩ := H5.out.reads
 have hlk := look_none (w := w5.drew) (z := 1) hqk (ops_none g (by omega))
 have hS0 : w5.drew.cell? ⟨w.heap.size, 0, none⟩ = some (.int .i64 1) ∧ w5.drew.cell? ⟨mb, 25, none⟩ = some (.map (some q)) := ⟨ku0, kv1⟩
 refine wp_region_noPanic ?_
 refine wp_region_held_drew (S := fun w' => w'.cell? ⟨w.heap.size, 0, none⟩ = some (.int .i64 1) ∧ w'.cell? ⟨mb, 25, none⟩ = some (.map (some q))) (by kernel_rfl) hS0 (fun hHeld => ?_)
 refine take_at (i := 0) (n := 125) (v := ?_) rfl rfl (by kernel_rfl) (by kernel_rfl) (by kernel_rfl) (fun _ _ _ h => h) (Or.inl ⟨by rfl, ?_⟩) (by assumption) ?_
 rotate_left 1
 ·intro wz hSw
  first | (go_simp; done) | (go_simp; with_reducible rfl)
 simp only [List.set_cons_zero, List.set_cons_succ]
 refine take_at (i := 1) (n := 126) (v := ?_) rfl rfl (by kernel_rfl) (by kernel_rfl) (by kernel_rfl) (fun _ _ _ h => h) (Or.inl ⟨by rfl, ?_⟩) (by assumption) ?_
 rotate_left 1
 ·intro wz hSw
  first | (go_simp; done) | (go_simp; with_reducible rfl)
 simp only [List.set_cons_zero, List.set_cons_succ]
 refine take_at (i := 2) (n := 127) (v := ?_) rfl rfl (by kernel_rfl) (by kernel_rfl) (by kernel_rfl) (fun _ _ _ h => h) (Or.inl ⟨by rfl, ?_⟩) (by assumption) ?_
 rotate_left 1
 ·intro wz hSw
  first | (go_simp; done) | (go_simp; with_reducible rfl)
 simp only [List.set_cons_zero, List.set_cons_succ]
 refine take_at (i := 3) (n := 128) (v := ?_) rfl rfl (by kernel_rfl) (by kernel_rfl) (by kernel_rfl) (fun _ _ _ h => h) (Or.inl ⟨by rfl, ?_⟩) (by assumption) ?_
 rotate_left 1
 ·intro wz hSw
  first | (go_simp; done) | (go_simp; with_reducible rfl)
 simp only [List.set_cons_zero, List.set_cons_succ]
 refine take_at (i := 4) (n := 129) (v := ?_) rfl rfl (by kernel_rfl) (by kernel_rfl) (by kernel_rfl) (fun _ _ _ h => h) (Or.inl ⟨by rfl, ?_⟩) (by assumption) ?_
 rotate_left 1
 ·intro wz hSw
  first | (go_simp; done) | (go_simp; with_reducible rfl)
 simp only [List.set_cons_zero, List.set_cons_succ]
 refine take_at (i := 5) (n := 130) (v := ?_) rfl rfl (by kernel_rfl) (by kernel_rfl) (by kernel_rfl) (fun _ _ _ h => h) (Or.inl ⟨by rfl, ?_⟩) (by assumption) ?_
 rotate_left 1
 ·intro wz hSw
  first | (go_simp; done) | (go_simp; with_reducible rfl)
 simp only [List.set_cons_zero, List.set_cons_succ]
 refine wpAnyH_ready (rs := [6]) (by kernel_rfl) (by simp) ?_
 refine AllReadyH.cons rfl (fun K hK => ?_) AllReadyH.nil
 go_simp
 refine hK.out _ _ hS0 (fun hHeld => ?_)
 clear hK K
 refine take_at (i := 7) (n := 124) (v := ?_) rfl rfl (by kernel_rfl) (by kernel_rfl) (by kernel_rfl) (fun _ _ _ h => h) (Or.inl ⟨by rfl, ?_⟩) (by assumption) ?_
 rotate_left 1
 ·intro wz hSw
  first | (go_simp; done) | (go_simp; with_reducible rfl)
 simp only [List.set_cons_zero, List.set_cons_succ]
 refine take_at (i := 8) (n := 132) (v := ?_) rfl rfl (by kernel_rfl) (by kernel_rfl) (by kernel_rfl) (fun _ _ _ h => h) (Or.inl ⟨by rfl, ?_⟩) (by assumption) ?_
 rotate_left 1
 ·intro wz hSw
  first | (go_simp; done) | (go_simp; with_reducible rfl)
 simp only [List.set_cons_zero, List.set_cons_succ]
 refine take_at (i := 9) (n := 133) (v := ?_) rfl rfl (by kernel_rfl) (by kernel_rfl) (by kernel_rfl) (fun _ _ _ h => h) (Or.inl ⟨by rfl, ?_⟩) (by assumption) ?_
 rotate_left 1
 ·intro wz hSw
  first | (go_simp; done) | (go_simp; with_reducible rfl)
 simp only [List.set_cons_zero, List.set_cons_succ]
 refine take_at (i := 10) (n := 5) (v := ?_) rfl rfl (by kernel_rfl) (by kernel_rfl) (by kernel_rfl) (fun _ _ _ h => h) (Or.inl ⟨by rfl, ?_⟩) (by assumption) ?_
 rotate_left 1
 ·intro wz hSw
  first | (go_simp; done) | (go_simp; with_reducible rfl)
 simp only [List.set_cons_zero, List.set_cons_succ]
 refine take_at (i := 11) (n := 6) (v := ?_) rfl rfl (by kernel_rfl) (by kernel_rfl) (by kernel_rfl) (fun _ _ _ h => h) (Or.inl ⟨by rfl, ?_⟩) (by assumption) ?_
 rotate_left 1
 ·intro wz hSw
  first | (go_simp; done) | (go_simp; with_reducible rfl)
 simp only [List.set_cons_zero, List.set_cons_succ]
 refine wpAnyH_done (by kernel_rfl) ?_ _
 refine NoPanic.normal ?_
 go_wp2_with fail
 go_end0
 exact ⟨rfl, sv5, pv, (H5.out.grow (Below.refl _ _).drew).mm, (H5.out.grow (Below.refl _ _).drew).mr⟩
set_option maxRecDepth 20000 in
set_option maxHeartbeats 4000000 in
theorem do_16 (a b : Int) (h : MM w mb B l iv ov ins sp s sv pv) (_ : s.st.length ≤ 1000) (hpc : s.pc ≤ 1000000) : Calls Tryd.prog 43 #[.pointer (some ⟨mb, 0, none⟩), .agg #[.int .i64 16, .int .i64 a, .int .i64 b]] w (Does w mb B l iv ov ins sp s sv pv ⟨16, a, b⟩) := by
 have HM : Hid (DS w (w.alloc (.cells #[.int .i64 16, .int .i64 a, .int .i64 b] 35)) mb B l iv ov ins sp ⟨16, a, b⟩ s sv pv sv pv) := DS.start h ⟨16, a, b⟩
 have c23 := h.c_pc
 have lm := h.lt
 obtain ⟨q, g, hov, hq, hg, hqm, hgm⟩ := h.ops
 subst hov
 have HO : Hid (MM w mb B l iv (.map (some q)) ins sp s sv pv ∧ q < mb ∧ g < mb ∧ w.heap[q]? = some (.map (opsEs g) 5) ∧ w.heap[g]? = some (.cells #[.func (Fn.func 75) #[] #[]] 135 (0, 0))) := ⟨h, hq, hg, hqm, hgm⟩
 clear h hqm hgm hq hg
 go_enter Tryd.func43, Tryd.ntmps43
 go_wp2_with (go_at_call 42; refine (over_other _ mb 16 _ _ (by first | decide | omega) (by first | decide | omega) (by first | decide | omega)).mono ?_; rintro r w3 ⟨rfl, hb3⟩; have H3 : Hid (DS _ w3 _ _ _ _ _ _ _ _ _ _ _ _ _) := HM.out.grow hb3; obtain ⟨x0, x1, x2, y0, y1, yf, ym, yx, yn⟩ := H3.out.reads; clear hb3)
 have H4 : Hid (DS w (w3.setCell ⟨mb, 23, none⟩ (.int .i64 ((s.pc : Int) + 1))) _ _ _ _ _ _ _ _ _ _ _ _ _) := H3.out.setA1
 generalize hw4 : (w3.setCell ⟨mb, 23, none⟩ (.int .i64 ((s.pc : Int) + 1))) = w4 at *
 clear hw4
 have hqk := (H4.out.old HO.out.1 HO.out.2.1).trans HO.out.2.2.2.1
 obtain ⟨ku0, -, -, -, kv1, -, -, -, -⟩ := H4.out.reads
 have hlk := look_none (w := w4.drew) (z := 16) hqk (ops_none g (by omega))
 have hS0 : w4.drew.cell? ⟨w.heap.size, 0, none⟩ = some (.int .i64 16) ∧ w4.drew.cell? ⟨mb, 25, none⟩ = some (.map (some q)) := ⟨ku0, kv1⟩
 refine wp_region_noPanic ?_
 refine wp_region_held_drew (S := fun w' => w'.cell? ⟨w.heap.size, 0, none⟩ = some (.int .i64 16) ∧ w'.cell? ⟨mb, 25, none⟩ = some (.map (some q))) (by kernel_rfl) hS0 (fun hHeld => ?_)
 refine take_at (i := 0) (n := 125) (v := ?_) rfl rfl (by kernel_rfl) (by kernel_rfl) (by kernel_rfl) (fun _ _ _ h => h) (Or.inl ⟨by rfl, ?_⟩) (by assumption) ?_
 rotate_left 1
 ·intro wz hSw
  first | (go_simp; done) | (go_simp; with_reducible rfl)
 simp only [List.set_cons_zero, List.set_cons_succ]
 refine take_at (i := 1) (n := 126) (v := ?_) rfl rfl (by kernel_rfl) (by kernel_rfl) (by kernel_rfl) (fun _ _ _ h => h) (Or.inl ⟨by rfl, ?_⟩) (by assumption) ?_
 rotate_left 1
 ·intro wz hSw
  first | (go_simp; done) | (go_simp; with_reducible rfl)
 simp only [List.set_cons_zero, List.set_cons_succ]
 refine take_at (i := 2) (n := 127) (v := ?_) rfl rfl (by kernel_rfl) (by kernel_rfl) (by kernel_rfl) (fun _ _ _ h => h) (Or.inl ⟨by rfl, ?_⟩) (by assumption) ?_
 rotate_left 1
 ·intro wz hSw
  first | (go_simp; done) | (go_simp; with_reducible rfl)
 simp only [List.set_cons_zero, List.set_cons_succ]
 refine take_at (i := 3) (n := 128) (v := ?_) rfl rfl (by kernel_rfl) (by kernel_rfl) (by kernel_rfl) (fun _ _ _ h => h) (Or.inl ⟨by rfl, ?_⟩) (by assumption) ?_
 rotate_left 1
 ·intro wz hSw
  first | (go_simp; done) | (go_simp; with_reducible rfl)
 simp only [List.set_cons_zero, List.set_cons_succ]
 refine take_at (i := 4) (n := 129) (v := ?_) rfl rfl (by kernel_rfl) (by kernel_rfl) (by kernel_rfl) (fun _ _ _ h => h) (Or.inl ⟨by rfl, ?_⟩) (by assumption) ?_
 rotate_left 1
 ·intro wz hSw
  first | (go_simp; done) | (go_simp; with_reducible rfl)
 simp only [List.set_cons_zero, List.set_cons_succ]
 refine take_at (i := 5) (n := 130) (v := ?_) rfl rfl (by kernel_rfl) (by kernel_rfl) (by kernel_rfl) (fun _ _ _ h => h) (Or.inl ⟨by rfl, ?_⟩) (by assumption) ?_
 rotate_left 1
 ·intro wz hSw
  first | (go_simp; done) | (go_simp; with_reducible rfl)
 simp only [List.set_cons_zero, List.set_cons_succ]
 refine wpAnyH_ready (rs := [6]) (by kernel_rfl) (by simp) ?_
 refine AllReadyH.cons rfl (fun K hK => ?_) AllReadyH.nil
 go_simp
 refine hK.out _ _ hS0 (fun hHeld => ?_)
 clear hK K
 refine take_at (i := 7) (n := 124) (v := ?_) rfl rfl (by kernel_rfl) (by kernel_rfl) (by kernel_rfl) (fun _ _ _ h => h) (Or.inl ⟨by rfl, ?_⟩) (by assumption) ?_
 rotate_left 1
 ·intro wz hSw
  first | (go_simp; done) | (go_simp; with_reducible rfl)
 simp only [List.set_cons_zero, List.set_cons_succ]
 refine take_at (i := 8) (n := 132) (v := ?_) rfl rfl (by kernel_rfl) (by kernel_rfl) (by kernel_rfl) (fun _ _ _ h => h) (Or.inl ⟨by rfl, ?_⟩) (by assumption) ?_
 rotate_left 1
 ·intro wz hSw
  first | (go_simp; done) | (go_simp; with_reducible rfl)
 simp only [List.set_cons_zero, List.set_cons_succ]
 refine take_at (i := 9) (n := 133) (v := ?_) rfl rfl (by kernel_rfl) (by kernel_rfl) (by kernel_rfl) (fun _ _ _ h => h) (Or.inl ⟨by rfl, ?_⟩) (by assumption) ?_
 rotate_left 1
 ·intro wz hSw
  first | (go_simp; done) | (go_simp; with_reducible rfl)
 simp only [List.set_cons_zero, List.set_cons_succ]
 refine take_at (i := 10) (n := 5) (v := ?_) rfl rfl (by kernel_rfl) (by kernel_rfl) (by kernel_rfl) (fun _ _ _ h => h) (Or.inl ⟨by rfl, ?_⟩) (by assumption) ?_
 rotate_left 1
 ·intro wz hSw
  first | (go_simp; done) | (go_simp; with_reducible rfl)
 simp only [List.set_cons_zero, List.set_cons_succ]
 refine take_at (i := 11) (n := 6) (v := ?_) rfl rfl (by kernel_rfl) (by kernel_rfl) (by kernel_rfl) (fun _ _ _ h => h) (Or.inl ⟨by rfl, ?_⟩) (by assumption) ?_
 rotate_left 1
 ·intro wz hSw
  first | (go_simp; done) | (go_simp; with_reducible rfl)
 simp only [List.set_cons_zero, List.set_cons_succ]
 refine wpAnyH_done (by kernel_rfl) ?_ _
 refine NoPanic.normal ?_
 go_wp2_with fail
 go_end0
 exact ⟨rfl, sv, pv, (H4.out.grow (Below.refl _ _).drew).mm, (H4.out.grow (Below.refl _ _).drew).mr⟩
set_option maxRecDepth 20000 in
set_option maxHeartbeats 4000000 in
theorem do_17 (a b : Int) (h : MM w mb B l iv ov ins sp s sv pv) (_ : s.st.length ≤ 1000) (hpc : s.pc ≤ 1000000) : Calls Tryd.prog 43 #[.pointer (some ⟨mb, 0, none⟩), .agg #[.int .i64 17, .int .i64 a, .int .i64 b]] w (Does w mb B l iv ov ins sp s sv pv ⟨17, a, b⟩) := by
 have HM : Hid (DS w (w.alloc (.cells #[.int .i64 17, .int .i64 a, .int .i64 b] 35)) mb B l iv ov ins sp ⟨17, a, b⟩ s sv pv sv pv) := DS.start h ⟨17, a, b⟩
 have c23 := h.c_pc
 have lm := h.lt
 obtain ⟨q, g, hov, hq, hg, hqm, hgm⟩ := h.ops
 subst hov
 have HO : Hid (MM w mb B l iv (.map (some q)) ins sp s sv pv ∧ q < mb ∧ g < mb ∧ w.heap[q]? = some (.map (opsEs g) 5) ∧ w.heap[g]? = some (.cells #[.func (Fn.func 75) #[] #[]] 135 (0, 0))) := ⟨h, hq, hg, hqm, hgm⟩
 clear h hqm hgm hq hg
 go_enter Tryd.func43, Tryd.ntmps43
 go_wp2_with (go_at_call 42; refine (over_other _ mb 17 _ _ (by first | decide | omega) (by first | decide | omega) (by first | decide | omega)).mono ?_; rintro r w3 ⟨rfl, hb3⟩; have H3 : Hid (DS _ w3 _ _ _ _ _ _ _ _ _ _ _ _ _) := HM.out.grow hb3; obtain ⟨x0, x1, x2, y0, y1, yf, ym, yx, yn⟩ := H3.out.reads; clear hb3)
 have H4 : Hid (DS w (w3.setCell ⟨mb, 23, none⟩ (.int .i64 ((s.pc : Int) + 1))) _ _ _ _ _ _ _ _ _ _ _ _ _) := H3.out.setA1
 generalize hw4 : (w3.setCell ⟨mb, 23, none⟩ (.int .i64 ((s.pc : Int) + 1))) = w4 at *
 clear hw4
 have hqk := (H4.out.old HO.out.1 HO.out.2.1).trans HO.out.2.2.2.1
 obtain ⟨ku0, -, -, -, kv1, -, -, -, -⟩ := H4.out.reads
 have hlk := look_none (w := w4.drew) (z := 17) hqk (ops_none g (by omega))
 have hS0 : w4.drew.cell? ⟨w.heap.size, 0, none⟩ = some (.int .i64 17) ∧ w4.drew.cell? ⟨mb, 25, none⟩ = some (.map (some q)) := ⟨ku0, kv1⟩
 refine wp_region_noPanic ?_
 refine wp_region_held_drew (S := fun w' => w'.cell? ⟨w.heap.size, 0, none⟩ = some (.int .i64 17) ∧ w'.cell? ⟨mb, 25, none⟩ = some (.map (some q))) (by kernel_rfl) hS0 (fun hHeld => ?_)
 refine take_at (i := 0) (n := 125) (v := ?_) rfl rfl (by kernel_rfl) (by kernel_rfl) (by kernel_rfl) (fun _ _ _ h => h) (Or.inl ⟨by rfl, ?_⟩) (by assumption) ?_
 rotate_left 1
 ·intro wz hSw
  first | (go_simp; done) | (go_simp; with_reducible rfl)
 simp only [List.set_cons_zero, List.set_cons_succ]
 refine take_at (i := 1) (n := 126) (v := ?_) rfl rfl (by kernel_rfl) (by kernel_rfl) (by kernel_rfl) (fun _ _ _ h => h) (Or.inl ⟨by rfl, ?_⟩) (by assumption) ?_
 rotate_left 1
 ·intro wz hSw
  first | (go_simp; done) | (go_simp; with_reducible rfl)
 simp only [List.set_cons_zero, List.set_cons_succ]
 refine take_at (i := 2) (n := 127) (v := ?_) rfl rfl (by kernel_rfl) (by kernel_rfl) (by kernel_rfl) (fun _ _ _ h => h) (Or.inl ⟨by rfl, ?_⟩) (by assumption) ?_
 rotate_left 1
 ·intro wz hSw
  first | (go_simp; done) | (go_simp; with_reducible rfl)
 simp only [List.set_cons_zero, List.set_cons_succ]
 refine take_at (i := 3) (n := 128) (v := ?_) rfl rfl (by kernel_rfl) (by kernel_rfl) (by kernel_rfl) (fun _ _ _ h => h) (Or.inl ⟨by rfl, ?_⟩) (by assumption) ?_
 rotate_left 1
 ·intro wz hSw
  first | (go_simp; done) | (go_simp; with_reducible rfl)
 simp only [List.set_cons_zero, List.set_cons_succ]
 refine take_at (i := 4) (n := 129) (v := ?_) rfl rfl (by kernel_rfl) (by kernel_rfl) (by kernel_rfl) (fun _ _ _ h => h) (Or.inl ⟨by rfl, ?_⟩) (by assumption) ?_
 rotate_left 1
 ·intro wz hSw
  first | (go_simp; done) | (go_simp; with_reducible rfl)
 simp only [List.set_cons_zero, List.set_cons_succ]
 refine take_at (i := 5) (n := 130) (v := ?_) rfl rfl (by kernel_rfl) (by kernel_rfl) (by kernel_rfl) (fun _ _ _ h => h) (Or.inl ⟨by rfl, ?_⟩) (by assumption) ?_
 rotate_left 1
 ·intro wz hSw
  first | (go_simp; done) | (go_simp; with_reducible rfl)
 simp only [List.set_cons_zero, List.set_cons_succ]
 refine wpAnyH_ready (rs := [6]) (by kernel_rfl) (by simp) ?_
 refine AllReadyH.cons rfl (fun K hK => ?_) AllReadyH.nil
 go_simp
 refine hK.out _ _ hS0 (fun hHeld => ?_)
 clear hK K
 refine take_at (i := 7) (n := 124) (v := ?_) rfl rfl (by kernel_rfl) (by kernel_rfl) (by kernel_rfl) (fun _ _ _ h => h) (Or.inl ⟨by rfl, ?_⟩) (by assumption) ?_
 rotate_left 1
 ·intro wz hSw
  first | (go_simp; done) | (go_simp; with_reducible rfl)
 simp only [List.set_cons_zero, List.set_cons_succ]
 refine take_at (i := 8) (n := 132) (v := ?_) rfl rfl (by kernel_rfl) (by kernel_rfl) (by kernel_rfl) (fun _ _ _ h => h) (Or.inl ⟨by rfl, ?_⟩) (by assumption) ?_
 rotate_left 1
 ·intro wz hSw
  first | (go_simp; done) | (go_simp; with_reducible rfl)
 simp only [List.set_cons_zero, List.set_cons_succ]
 refine take_at (i := 9) (n := 133) (v := ?_) rfl rfl (by kernel_rfl) (by kernel_rfl) (by kernel_rfl) (fun _ _ _ h => h) (Or.inl ⟨by rfl, ?_⟩) (by assumption) ?_
 rotate_left 1
 ·intro wz hSw
  first | (go_simp; done) | (go_simp; with_reducible rfl)
 simp only [List.set_cons_zero, List.set_cons_succ]
 refine take_at (i := 10) (n := 5) (v := ?_) rfl rfl (by kernel_rfl) (by kernel_rfl) (by kernel_rfl) (fun _ _ _ h => h) (Or.inl ⟨by rfl, ?_⟩) (by assumption) ?_
 rotate_left 1
 ·intro wz hSw
  first | (go_simp; done) | (go_simp; with_reducible rfl)
 simp only [List.set_cons_zero, List.set_cons_succ]
 refine take_at (i := 11) (n := 6) (v := ?_) rfl rfl (by kernel_rfl) (by kernel_rfl) (by kernel_rfl) (fun _ _ _ h => h) (Or.inl ⟨by rfl, ?_⟩) (by assumption) ?_
 rotate_left 1
 ·intro wz hSw
  first | (go_simp; done) | (go_simp; with_reducible rfl)
 simp only [List.set_cons_zero, List.set_cons_succ]
 refine wpAnyH_done (by kernel_rfl) ?_ _
 refine NoPanic.normal ?_
 go_wp2_with fail
 go_end0
 exact ⟨rfl, sv, pv, (H4.out.grow (Below.refl _ _).drew).mm, (H4.out.grow (Below.refl _ _).drew).mr⟩
set_option maxRecDepth 20000 in
set_option maxHeartbeats 4000000 in
theorem do_18 (a b : Int) (h : MM w mb B l iv ov ins sp s sv pv) (_ : s.st.length ≤ 1000) (hpc : s.pc ≤ 1000000) : Calls Tryd.prog 43 #[.pointer (some ⟨mb, 0, none⟩), .agg #[.int .i64 18, .int .i64 a, .int .i64 b]] w (Does w mb B l iv ov ins sp s sv pv ⟨18, a, b⟩) := by
 have HM : Hid (DS w (w.alloc (.cells #[.int .i64 18, .int .i64 a, .int .i64 b] 35)) mb B l iv ov ins sp ⟨18, a, b⟩ s sv pv sv pv) := DS.start h ⟨18, a, b⟩
 have c23 := h.c_pc
 have lm := h.lt
 obtain ⟨q, g, hov, hq, hg, hqm, hgm⟩ := h.ops
 subst hov
 have HO : Hid (MM w mb B l iv (.map (some q)) ins sp s sv pv ∧ q < mb ∧ g < mb ∧ w.heap[q]? = some (.map (opsEs g) 5) ∧ w.heap[g]? = some (.cells #[.func (Fn.func 75) #[] #[]] 135 (0, 0))) := ⟨h, hq, hg, hqm, hgm⟩
 clear h hqm hgm hq hg
 go_enter Tryd.func43, Tryd.ntmps43
 go_wp2_with (go_at_call 42; refine (over_other _ mb 18 _ _ (by first | decide | omega) (by first | decide | omega) (by first | decide | omega)).mono ?_; rintro r w3 ⟨rfl, hb3⟩; have H3 : Hid (DS _ w3 _ _ _ _ _ _ _ _ _ _ _ _ _) := HM.out.grow hb3; obtain ⟨x0, x1, x2, y0, y1, yf, ym, yx, yn⟩ := H3.out.reads; clear hb3)
 have H4 : Hid (DS w (w3.setCell ⟨mb, 23, none⟩ (.int .i64 ((s.pc : Int) + 1))) _ _ _ _ _ _ _ _ _ _ _ _ _) := H3.out.setA1
 generalize hw4 : (w3.setCell ⟨mb, 23, none⟩ (.int .i64 ((s.pc : Int) + 1))) = w4 at *
 clear hw4
 have hqk := (H4.out.old HO.out.1 HO.out.2.1).trans HO.out.2.2.2.1
 obtain ⟨ku0, -, -, -, kv1, -, -, -, -⟩ := H4.out.reads
 have hlk := look_none (w := w4.drew) (z := 18) hqk (ops_none g (by omega))
 have hS0 : w4.drew.cell? ⟨w.heap.size, 0, none⟩ = some (.int .i64 18) ∧ w4.drew.cell? ⟨mb, 25, none⟩ = some (.map (some q)) := ⟨ku0, kv1⟩
 refine wp_region_noPanic ?_
 refine wp_region_held_drew (S := fun w' => w'.cell? ⟨w.heap.size, 0, none⟩ = some (.int .i64 18) ∧ w'.cell? ⟨mb, 25, none⟩ = some (.map (some q))) (by kernel_rfl) hS0 (fun hHeld => ?_)
 refine take_at (i := 0) (n := 125) (v := ?_) rfl rfl (by kernel_rfl) (by kernel_rfl) (by kernel_rfl) (fun _ _ _ h => h) (Or.inl ⟨by rfl, ?_⟩) (by assumption) ?_
 rotate_left 1
 ·intro wz hSw
  first | (go_simp; done) | (go_simp; with_reducible rfl)
 simp only [List.set_cons_zero, List.set_cons_succ]
 refine take_at (i := 1) (n := 126) (v := ?_) rfl rfl (by kernel_rfl) (by kernel_rfl) (by kernel_rfl) (fun _ _ _ h => h) (Or.inl ⟨by rfl, ?_⟩) (by assumption) ?_
 rotate_left 1
 ·intro wz hSw
  first | (go_simp; done) | (go_simp; with_reducible rfl)
 simp only [List.set_cons_zero, List.set_cons_succ]
 refine take_at (i := 2) (n := 127) (v := ?_) rfl rfl (by kernel_rfl) (by kernel_rfl) (by kernel_rfl) (fun _ _ _ h => h) (Or.inl ⟨by rfl, ?_⟩) (by assumption) ?_
 rotate_left 1
 ·intro wz hSw
  first | (go_simp; done) | (go_simp; with_reducible rfl)
 simp only [List.set_cons_zero, List.set_cons_succ]
 refine take_at (i := 3) (n := 128) (v := ?_) rfl rfl (by kernel_rfl) (by kernel_rfl) (by kernel_rfl) (fun _ _ _ h => h) (Or.inl ⟨by rfl, ?_⟩) (by assumption) ?_
 rotate_left 1
 ·intro wz hSw
  first | (go_simp; done) | (go_simp; with_reducible rfl)
 simp only [List.set_cons_zero, List.set_cons_succ]
 refine take_at (i := 4) (n := 129) (v := ?_) rfl rfl (by kernel_rfl) (by kernel_rfl) (by kernel_rfl) (fun _ _ _ h => h) (Or.inl ⟨by rfl, ?_⟩) (by assumption) ?_
 rotate_left 1
 ·intro wz hSw
  first | (go_simp; done) | (go_simp; with_reducible rfl)
 simp only [List.set_cons_zero, List.set_cons_succ]
 refine take_at (i := 5) (n := 130) (v := ?_) rfl rfl (by kernel_rfl) (by kernel_rfl) (by kernel_rfl) (fun _ _ _ h => h) (Or.inl ⟨by rfl, ?_⟩) (by assumption) ?_
 rotate_left 1
 ·intro wz hSw
  first | (go_simp; done) | (go_simp; with_reducible rfl)
 simp only [List.set_cons_zero, List.set_cons_succ]
 refine wpAnyH_ready (rs := [6]) (by kernel_rfl) (by simp) ?_
 refine AllReadyH.cons rfl (fun K hK => ?_) AllReadyH.nil
 go_simp
 refine hK.out _ _ hS0 (fun hHeld => ?_)
 clear hK K
 refine take_at (i := 7) (n := 124) (v := ?_) rfl rfl (by kernel_rfl) (by kernel_rfl) (by kernel_rfl) (fun _ _ _ h => h) (Or.inl ⟨by rfl, ?_⟩) (by assumption) ?_
 rotate_left 1
 ·intro wz hSw
  first | (go_simp; done) | (go_simp; with_reducible rfl)
 simp only [List.set_cons_zero, List.set_cons_succ]
 refine take_at (i := 8) (n := 132) (v := ?_) rfl rfl (by kernel_rfl) (by kernel_rfl) (by kernel_rfl) (fun _ _ _ h => h) (Or.inl ⟨by rfl, ?_⟩) (by assumption) ?_
 rotate_left 1
 ·intro wz hSw
  first | (go_simp; done) | (go_simp; with_reducible rfl)
 simp only [List.set_cons_zero, List.set_cons_succ]
 refine take_at (i := 9) (n := 133) (v := ?_) rfl rfl (by kernel_rfl) (by kernel_rfl) (by kernel_rfl) (fun _ _ _ h => h) (Or.inl ⟨by rfl, ?_⟩) (by assumption) ?_
 rotate_left 1
 ·intro wz hSw
  first | (go_simp; done) | (go_simp; with_reducible rfl)
 simp only [List.set_cons_zero, List.set_cons_succ]
 refine take_at (i := 10) (n := 5) (v := ?_) rfl rfl (by kernel_rfl) (by kernel_rfl) (by kernel_rfl) (fun _ _ _ h => h) (Or.inl ⟨by rfl, ?_⟩) (by assumption) ?_
 rotate_left 1
 ·intro wz hSw
  first | (go_simp; done) | (go_simp; with_reducible rfl)
 simp only [List.set_cons_zero, List.set_cons_succ]
 refine take_at (i := 11) (n := 6) (v := ?_) rfl rfl (by kernel_rfl) (by kernel_rfl) (by kernel_rfl) (fun _ _ _ h => h) (Or.inl ⟨by rfl, ?_⟩) (by assumption) ?_
 rotate_left 1
 ·intro wz hSw
  first | (go_simp; done) | (go_simp; with_reducible rfl)
 simp only [List.set_cons_zero, List.set_cons_succ]
 refine wpAnyH_done (by kernel_rfl) ?_ _
 refine NoPanic.normal ?_
 go_wp2_with fail
 go_end0
 exact ⟨rfl, sv, pv, (H4.out.grow (Below.refl _ _).drew).mm, (H4.out.grow (Below.refl _ _).drew).mr⟩
end
end Go.Proofs.YtibcbdihphbfeacDoor
