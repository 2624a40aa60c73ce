import Derived.Test.YtcmoehednkaehadDoorGMDo
namespace Go.Proofs.YtcmoehednkaehadDoor
open Go.ChangeShapes Go.WideShapes Go.ChangeAt Go.RowKit

theorem infoPut : (Tryd.prog.info? 76).map (fun i => (i.zero, i.size, i.bytes)) = some (some (.agg #[.int .i64 0, .int .i64 0]), 2, 16) := by kernel_rfl

theorem region_append {P : Program} {ops : Array Oper} {o : Oper} {a : Act} {w : World} {K : Act → World → Prop} {Q : Exit → Act → World → Prop} {E : Prop} [Decidable (Region.wanted o (yielded ops a.tmps) = true)] (hgd : o.guard = none) (s x : Operand) (t : TypeId)
    (ho : o.op = .call { callee := .builtin .append, args := #[s, x], argTypes := #[t, t] }) {v u v' : Value} {w' : World} (hs : a.eval s = v) (hx : a.eval x = u)
    (hrun : (Builtin.append_ #[t, t] o.type #[v, u]).run P w = .ok v' w') (h : K (a.put o.dst v') w') : if Region.wanted o (yielded ops a.tmps) = true then Oper.wp P o a w K Q else E := by
  have hw : Region.wanted o (yielded ops a.tmps) = true := by simp [Region.wanted, hgd]
  rw [if_pos hw]
  unfold Oper.wp
  simp [execOp, ho, resolve, invoke, builtin, hs, hx, hrun, Result.andThen]
  exact h

/-- Something goes out: the append, and what it leaves. -/
theorem DS.put {w W : World} {mb B : Nat} {l : List In} {iv ov : Value} {ins : List Int} {sp : Int} {x : In} {s' : MS} {sv pv sv' pv' : Value} (h : DS w W mb B l iv ov ins sp x s' sv pv sv' pv') (a t : Int) (hl : s'.ps.length ≤ 4000000) :
    ∃ ad c w4, (Builtin.append_ #[41, 41] 41 #[pv', .slice (some ⟨W.heap.size, 0, none⟩) 1 1]).run Tryd.prog (W.alloc (.cells #[.int .i64 a, .int .i64 t] 76)) = .ok (.slice ad (s'.ps.length + 1) c) w4 ∧
      DS w (w4.setCell ⟨mb, 22, none⟩ (.slice ad (s'.ps.length + 1) c)) mb B l iv ov ins sp x { s' with ps := s'.ps ++ [(a, t)] } sv pv sv' (.slice ad (s'.ps.length + 1) c) ∧ w4.cell? ⟨mb, 22, none⟩ = some pv' ∧ w4.frozen? ⟨mb, 22, none⟩ = false ∧ mb < w4.heap.size ∧ w4.cell? ⟨w.heap.size, 1, none⟩ = some (.int .i64 x.a) := by
  obtain ⟨i0, hi0, hz0, hz1, hz2⟩ := info_parts infoPut
  have hB := h.mm.bas
  have hn := h.mm.nmb
  have h1 := h.grow (below_new W (.cells #[.int .i64 a, .int .i64 t] 76))
  obtain ⟨v4, w4, hrun, ho4, hg4, hv4⟩ := append_two (P := Tryd.prog) (W.alloc (.cells #[.int .i64 a, .int .i64 t] 76)) B W.heap.size 41 41 76 i0 _ 2 16 Tryd.underlying41 hi0 hz0 hz1 hz2 rfl (by decide) pv' s'.ps.length (putVs s'.ps) h1.mm.pts _ 1 [.int .i64 a, .int .i64 t] (World.ownsRow_lit W #[.int .i64 a, .int .i64 t] 1 (Nat.le_refl _) (by decide) rfl) (by intro u hu; simp at hu; rcases hu with hu | hu <;> subst hu <;> rfl) (by unfold maxLen; omega) (by omega) (by simp; omega)
  obtain ⟨ad, c, rfl⟩ := owns_value ho4
  have hb4 := (hg4.block mb h1.mm.lt (fun e => by have := (h1.mm.pts.lt mb e.symm).1; omega)).trans h1.mm.blk
  obtain ⟨p1, p2⟩ := h1.mm.pushP hg4 (ps' := s'.ps ++ [(a, t)]) (by rw [List.length_append, putVs_snoc]; exact ho4) hv4
  have hx4 := (hg4.block w.heap.size (Array.getElem?_eq_some_iff.1 h1.xb.blk).1 h1.xb.npv).trans h1.xb.blk
  exact ⟨ad, c, w4, hrun, h1.step p1 p2, (cells_of hb4).1 _ _ (machVs_rest h.mm.lv h.mm.li h.mm.lc 1), (cells_of hb4).2.1 22, (cells_of hb4).2.2, (cells_of (l := [_, _, _]) hx4).1 1 _ rfl⟩

/-- Where an instruction goes on elsewhere. -/
theorem ways_first (w : World) (k : Nat) (x : In) (z : Int) (hk : k ≤ 4194304) (hz : (waysOf k x).head? = some z) : Calls Tryd.prog 82 #[.int .i64 k, x.val] w fun r w' => (∃ b o n c, r = .returned (.slice (some ⟨b, o, none⟩) (n + 1) c) ∧ w'.cell? ⟨b, o, none⟩ = some (.int .i64 z)) ∧ Below w.heap.size w w' := by
  refine (ways_any w k x hk).mono ?_
  rintro r w' ⟨⟨v, rfl, ad, c, rfl, h1⟩, hb⟩
  refine ⟨?_, hb⟩
  rcases hw : waysOf k x with _ | ⟨y, t⟩
  · rw [hw] at hz; simp at hz
  · rw [hw] at hz h1
    simp only [List.head?_cons, Option.some.injEq] at hz
    subst hz
    rcases h1 with h1 | ⟨b, o, rfl, h1⟩
    · simp at h1
    · have := h1 0 (by simp)
      exact ⟨b, o, t.length, c, by simp, by simpa using this⟩

theorem DS.old {w W : World} {mb B : Nat} {l : List In} {iv ov : Value} {ins : List Int} {sp : Int} {x : In} {s s' : MS} {sv pv sv' pv' : Value} (h : DS w W mb B l iv ov ins sp x s' sv pv sv' pv') (h0 : MM w mb B l iv ov ins sp s sv pv) {k : Nat} (hk : k < mb) : W.heap[k]? = w.heap[k]? :=
  h.mr.block k (by have := h0.lt; omega) (by omega) (fun e => by have := (h0.stk.lt k e.symm).1; have := h0.nmb; omega) (fun e => by have := (h0.pts.lt k e.symm).1; have := h0.nmb; omega)

theorem DS.c_vs {w W : World} {mb B : Nat} {l : List In} {iv ov : Value} {ins : List Int} {sp : Int} {x : In} {s' : MS} {sv pv sv' pv' : Value} (h : DS w W mb B l iv ov ins sp x s' sv pv sv' pv') {m : Nat} (hm : m < 8) : W.cell? ⟨mb, 1 + m, none⟩ = some (.int .i64 (s'.vs.getD m 0)) := by
  rw [Nat.add_comm]; exact h.mm.c_vs hm
theorem DS.c_in {w W : World} {mb B : Nat} {l : List In} {iv ov : Value} {ins : List Int} {sp : Int} {x : In} {s' : MS} {sv pv sv' pv' : Value} (h : DS w W mb B l iv ov ins sp x s' sv pv sv' pv') {m : Nat} (hm : m < 4) : W.cell? ⟨mb, 9 + m, none⟩ = some (.int .i64 (ins.getD m 0)) := by
  rw [Nat.add_comm]; exact h.mm.c_in hm
theorem DS.c_cs {w W : World} {mb B : Nat} {l : List In} {iv ov : Value} {ins : List Int} {sp : Int} {x : In} {s' : MS} {sv pv sv' pv' : Value} (h : DS w W mb B l iv ov ins sp x s' sv pv sv' pv') {m : Nat} (hm : m < 8) : W.cell? ⟨mb, 13 + m, none⟩ = some (.int .i64 (s'.cs.getD m 0)) := by
  rw [Nat.add_comm]; exact h.mm.c_cs hm
end Go.Proofs.YtcmoehednkaehadDoor
