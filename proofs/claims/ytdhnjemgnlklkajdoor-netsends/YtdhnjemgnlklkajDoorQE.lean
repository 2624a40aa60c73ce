import Derived.Test.YtdhnjemgnlklkajDoorQC
namespace Go.Proofs.YtdhnjemgnlklkajDoor
open Go.ChangeShapes Go.WideShapes Go.ChangeAt Go.RowKit

theorem Own.take {W : World} {B g cap k : Nat} {th : List Int} (h : Own W B (.slice (some ⟨g, 0, none⟩) th.length cap) th) (hk : k ≤ th.length) : Own W B (.slice (some ⟨g, 0, none⟩) k cap) (th.take k) := by
  rcases h.cases with ⟨e, -⟩ | ⟨g', cap', cur, e, hB, hg, hcap, hm, hs, hcur⟩
  · cases e
  · cases e
    refine Own.mk (rest := (th.map (Value.int .i64)).drop k ++ cur.toList.drop th.length) (by simp; omega) hB hg (by omega) hm hs ?_
    rw [← List.append_assoc, List.map_take, List.take_append_drop]
    exact hcur

theorem own_one (W : World) (i : Int) : (W.alloc (.cells #[.int .i64 i] 3)).ownsRow W.heap.size 3 1 (.slice (some ⟨W.heap.size, 0, none⟩) 1 1) 1 [.int .i64 i] :=
  ⟨rfl, .inr ⟨W.heap.size, 1, _, rfl, Nat.le_refl _, heap_alloc_new _ _, Nat.le_refl _, by unfold maxLen; omega, rfl, rfl⟩⟩

/-- A list with one more, put in at a place: as the document does it. -/
theorem ins_run (W : World) (B g cap k : Nat) (th : List Int) (i : Int) (h : Own W B (.slice (some ⟨g, 0, none⟩) th.length cap) th) (hk : k ≤ th.length) (hl : th.length ≤ 100000) :
    ∃ ad1 n1 c1 W2 ad2 n2 c2 W3, (Builtin.append_ #[28, 28] 28 #[.slice (some ⟨W.heap.size, 0, none⟩) 1 1, .slice (if cap = k then some ⟨g, 0, none⟩ else some ⟨g, k, none⟩) (th.length - k) (cap - k)]).run Tryd.prog (W.alloc (.cells #[.int .i64 i] 3)) = .ok (.slice ad1 n1 c1) W2 ∧ (Builtin.append_ #[28, 28] 28 #[.slice (some ⟨g, 0, none⟩) k cap, .slice ad1 n1 c1]).run Tryd.prog W2 = .ok (.slice ad2 n2 c2) W3 ∧ Own W3 B (.slice ad2 n2 c2) (th.take k ++ i :: th.drop k) ∧ W.grownBy W3 (some g) := by
  obtain ⟨i0, hi0, hz0, hz1, hz2⟩ := info_parts info3
  have hgl := (h.low (g := g) rfl)
  have hb1 := below_new W (.cells #[.int .i64 i] 3)
  have hs1 : (W.alloc (.cells #[.int .i64 i] 3)).heap.size = W.heap.size + 1 := by simp
  have hO1 : Own (W.alloc (.cells #[.int .i64 i] 3)) B (.slice (some ⟨g, 0, none⟩) th.length cap) th := h.same (fun q e => by cases e; exact hb1.block g hgl.2)
  have hcap : th.length ≤ cap := by
    rcases h.cases with ⟨e, -⟩ | ⟨g', cap', cur, e, _, _, hc, _⟩
    · cases e
    · cases e; exact hc
  have hsrc : (if cap = k then some (⟨g, 0, none⟩ : Addr) else some ⟨g, k, none⟩) = some (if cap = k then ⟨g, 0, none⟩ else ⟨g, k, none⟩) := by split <;> rfl
  rw [hsrc]
  obtain ⟨v1, W2, hr1, ho1, hg1, -, hv1⟩ := run_append_own_at (P := Tryd.prog) (w := W.alloc (.cells #[.int .i64 i] 3)) W.heap.size 28 28 3 i0 _ 1 8 Tryd.underlying28 hi0 hz0 hz1 hz2 rfl (by decide) _ 1 [.int .i64 i] (own_one W i) (if cap = k then ⟨g, 0, none⟩ else ⟨g, k, none⟩) (th.length - k) (cap - k) ((th.drop k).map (Value.int .i64)) (by simp) (fun j u hj => by
    have hj1 := (List.getElem?_eq_some_iff.1 hj).1
    rw [List.length_map, List.length_drop] at hj1
    rw [if_neg (by omega), Addr.add_lit]
    rw [List.getElem?_map, List.getElem?_drop] at hj
    cases hz : th[k + j]? with
    | none => rw [hz] at hj; simp at hj
    | some z =>
      rw [hz] at hj
      simp at hj
      subst hj
      exact hO1.cell hz) (fun u hu => by obtain ⟨z, -, rfl⟩ := List.mem_map.1 hu; rfl) (by unfold maxLen; omega) (by omega) (by omega)
  obtain ⟨ad1, c1, rfl⟩ := owns_value ho1
  have hO2 : Own W2 B (.slice (some ⟨g, 0, none⟩) k cap) (th.take k) := (hO1.take hk).same (fun q e => by cases e; exact hg1.block g (by omega) (fun e => by have h9 : g = W.heap.size := Option.some.inj e; omega))
  obtain ⟨-, ⟨e, en⟩ | ⟨q, cp, cur, e, hq1, hq2, hq3, hq4, hq5, hq6⟩⟩ := ho1
  · omega
  · cases e
    have hcell : ∀ j u, ([Value.int .i64 i] ++ (th.drop k).map (Value.int .i64))[j]? = some u → W2.cell? ((⟨q, 0, none⟩ : Addr).add j) = some u := fun j u hj => by
      rw [Addr.add_lit, Nat.zero_add]
      rw [← hq6] at hj
      have hjl := (List.getElem?_eq_some_iff.1 hj).1
      rw [List.length_take] at hjl
      rw [List.getElem?_take_of_lt (by omega)] at hj
      unfold World.cell?
      rw [hq2]
      simpa using hj
    obtain ⟨v2, W3, hr2, ho2, hg2, -, hv2⟩ := run_append_own_at (P := Tryd.prog) (w := W2) B 28 28 3 i0 _ 1 8 Tryd.underlying28 hi0 hz0 hz1 hz2 rfl (by decide) (.slice (some ⟨g, 0, none⟩) k cap) k ((th.take k).map (Value.int .i64)) (by have := hO2; unfold Own at this; rwa [List.length_take, Nat.min_eq_left hk] at this) ⟨q, 0, none⟩ (1 + (th.length - k)) c1 ([Value.int .i64 i] ++ (th.drop k).map (Value.int .i64)) (by simp; omega) hcell (fun u hu => by
      rcases List.mem_append.1 hu with hu | hu
      · simp at hu; subst hu; rfl
      · obtain ⟨z, -, rfl⟩ := List.mem_map.1 hu; rfl) (by unfold maxLen; omega) (by omega) (by have := hg1.size; omega)
    obtain ⟨ad2, c2, rfl⟩ := owns_value ho2
    refine ⟨_, _, _, W2, _, _, _, W3, hr1, hr2, ?_, ?_⟩
    · unfold Own
      rw [show (th.take k ++ i :: th.drop k).length = k + (1 + (th.length - k)) by simp; omega, show (th.take k ++ i :: th.drop k).map (Value.int .i64) = (th.take k).map (Value.int .i64) ++ ([Value.int .i64 i] ++ (th.drop k).map (Value.int .i64)) by simp]
      exact ho2
    · have s1 := hg1.size
      refine ⟨hg2.os.trans hg1.os, hg2.tape.trans hg1.tape, hg2.output.trans hg1.output, by have := hg2.size; omega, fun p hp hne => ?_⟩
      exact ((hg2.block p (by omega) hne).trans (hg1.block p (by omega) (fun e => by have h9 : p = W.heap.size := Option.some.inj e; omega))).trans (hb1.block p hp)

/-- An append whose run is known, as a step of a region. -/
theorem region_append_at {P : Program} {ops : Array Oper} {o : Oper} {lst : List Value} {ds : List Deferred} {w : World} {K : Act → World → Prop} {Q : Exit → Act → World → Prop} {E : Prop} (hg : o.guard = none) (nd : Nat) (hnd : o.dst = some nd) (s x : Operand) (t : TypeId) (hop : o.op = Op.call { callee := .builtin .append, args := #[s, x], argTypes := #[t, t] }) {v u v' : Value} {w' : World} (hs : (Act.mk lst.toArray ds).eval s = v) (hx : (Act.mk lst.toArray ds).eval x = u) (hrun : (Builtin.append_ #[t, t] o.type #[v, u]).run P w = .ok v' w') (hK : K ⟨(lst.set nd v').toArray, ds⟩ w') :
    if Region.wanted o (yielded ops (Act.mk lst.toArray ds).tmps) = true then Oper.wp P o ⟨lst.toArray, ds⟩ w K Q else E := by
  have hw : Region.wanted o (yielded ops (Act.mk lst.toArray ds).tmps) = true := by simp [Region.wanted, hg]
  rw [if_pos hw]
  have ep : Act.put ⟨lst.toArray, ds⟩ o.dst v' = ⟨(lst.set nd v').toArray, ds⟩ := by rw [hnd]; simp [Act.put]
  rw [← ep] at hK
  unfold Oper.wp
  simp [execOp, hop, resolve, invoke, builtin, hs, hx, hrun, Result.andThen]
  exact hK

/-- The first one. -/
theorem ins_run0 (W : World) (B : Nat) (i : Int) (hB : B ≤ W.heap.size) :
    (Builtin.append_ #[28, 28] 28 #[.slice (some ⟨W.heap.size, 0, none⟩) 1 1, .slice none 0 0]).run Tryd.prog (W.alloc (.cells #[.int .i64 i] 3)) = .ok (.slice (some ⟨W.heap.size, 0, none⟩) 1 1) (W.alloc (.cells #[.int .i64 i] 3)) ∧ ∃ ad2 n2 c2 W3, (Builtin.append_ #[28, 28] 28 #[.slice none 0 0, .slice (some ⟨W.heap.size, 0, none⟩) 1 1]).run Tryd.prog (W.alloc (.cells #[.int .i64 i] 3)) = .ok (.slice ad2 n2 c2) W3 ∧ Own W3 B (.slice ad2 n2 c2) [i] ∧ W.grownBy W3 none := by
  obtain ⟨i0, hi0, hz0, hz1, hz2⟩ := info_parts info3
  refine ⟨run_append_owned_none _ W.heap.size 28 28 3 i0 1 Tryd.underlying28 hi0 _ 1 _ (own_one W i), ?_⟩
  obtain ⟨v2, W3, hr2, ho2, hg2, -, -⟩ := run_append_own_at (P := Tryd.prog) (w := W.alloc (.cells #[.int .i64 i] 3)) B 28 28 3 i0 _ 1 8 Tryd.underlying28 hi0 hz0 hz1 hz2 rfl (by decide) (.slice none 0 0) 0 [] ⟨rfl, .inl ⟨rfl, rfl⟩⟩ ⟨W.heap.size, 0, none⟩ 1 1 [.int .i64 i] rfl (fun j u hj => by
    rw [Addr.add_lit, Nat.zero_add]
    exact (cells_of (l := [_]) (heap_alloc_new W (.cells #[.int .i64 i] 3))).1 j u hj) (fun u hu => by simp at hu; subst hu; rfl) (by unfold maxLen; omega) (by omega) (by simp; omega)
  obtain ⟨ad2, c2, rfl⟩ := owns_value ho2
  refine ⟨_, _, _, W3, hr2, ho2, ?_⟩
  have hg0 := World.grownBy_alloc W (.cells #[.int .i64 i] 3) none
  exact grownBy_seq hg0 hg2
end Go.Proofs.YtdhnjemgnlklkajDoor
