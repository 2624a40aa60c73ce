import Derived.Test.YtgemadoieielcacDoorGRB
import Derived.Laws.MakeOwn
import Derived.OwnWalk
namespace Go.Proofs.YtgemadoieielcacDoor
open Go.ChangeShapes Go.WideShapes Go.ChangeAt Go.RowKit

def insVs : List In → List Value
  | [] => []
  | x :: t => .int .i64 x.op :: .int .i64 x.a :: .int .i64 x.b :: insVs t

theorem insVs_length (l : List In) : (insVs l).length = l.length * 3 := by
  induction l with
  | nil => rfl
  | cons x t ih => simp only [insVs, List.length_cons, ih]; omega

theorem insVs_at : ∀ (l : List In) (j : Nat), j < l.length → (insVs l)[j * 3]? = some (.int .i64 (l.getD j in0).op) ∧ (insVs l)[j * 3 + 1]? = some (.int .i64 (l.getD j in0).a) ∧ (insVs l)[j * 3 + 2]? = some (.int .i64 (l.getD j in0).b)
  | [], j, h => by simp at h
  | x :: t, 0, _ => ⟨rfl, rfl, rfl⟩
  | x :: t, j + 1, h => by
    have := insVs_at t j (by simpa using h)
    rw [insVs, show (j + 1) * 3 = j * 3 + 1 + 1 + 1 by omega, show j * 3 + 1 + 1 + 1 + 1 = (j * 3 + 1) + 1 + 1 + 1 by omega, show j * 3 + 1 + 1 + 1 + 2 = (j * 3 + 2) + 1 + 1 + 1 by omega]
    simpa using this

theorem insVs_one {l : List In} {u : Value} (h : u ∈ insVs l) : u.oneCell' = true := by
  induction l with
  | nil => simp [insVs] at h
  | cons x t ih =>
    simp only [insVs, List.mem_cons] at h
    rcases h with rfl | rfl | rfl | h
    · rfl
    · rfl
    · rfl
    · exact ih h

theorem insVs_cell {w : World} {l : List In} {b o : Nat} (h : ∀ j, j < l.length → w.cell? ⟨b, o + j * 3, none⟩ = some (.int .i64 (l.getD j in0).op) ∧ w.cell? ⟨b, o + j * 3 + 1, none⟩ = some (.int .i64 (l.getD j in0).a) ∧ w.cell? ⟨b, o + j * 3 + 2, none⟩ = some (.int .i64 (l.getD j in0).b)) (q : Nat) (u : Value) (hq : (insVs l)[q]? = some u) : w.cell? ⟨b, o + q, none⟩ = some u := by
  have hql : q < l.length * 3 := by have := (List.getElem?_eq_some_iff.1 hq).1; rwa [insVs_length] at this
  have hj : q / 3 < l.length := by omega
  obtain ⟨a0, a1, a2⟩ := insVs_at l (q / 3) hj
  obtain ⟨c0, c1, c2⟩ := h (q / 3) hj
  have e : q = q / 3 * 3 ∨ q = q / 3 * 3 + 1 ∨ q = q / 3 * 3 + 2 := by omega
  rcases e with e | e | e
  · rw [e] at hq ⊢; rw [a0] at hq; rw [← hq]; exact c0
  · rw [e] at hq ⊢; rw [a1] at hq; rw [← hq, ← Nat.add_assoc]; exact c1
  · rw [e] at hq ⊢; rw [a2] at hq; rw [← hq, ← Nat.add_assoc]; exact c2

/-- A list of instructions that was lent, and its room. -/
def LentI (w : World) (l : List In) (m : In) (v : Value) : Prop := ∃ b o cap, v = .slice (some ⟨b, o, none⟩) l.length cap ∧ l.length + 3 ≤ cap ∧ (∀ j, j < l.length → w.cell? ⟨b, o + j * 3, none⟩ = some (.int .i64 (l.getD j in0).op) ∧ w.cell? ⟨b, o + j * 3 + 1, none⟩ = some (.int .i64 (l.getD j in0).a) ∧ w.cell? ⟨b, o + j * 3 + 2, none⟩ = some (.int .i64 (l.getD j in0).b)) ∧ (∀ j, l.length ≤ j → j < l.length + 3 → w.cell? ⟨b, o + j * 3, none⟩ = some (.int .i64 m.op) ∧ w.cell? ⟨b, o + j * 3 + 1, none⟩ = some (.int .i64 m.a) ∧ w.cell? ⟨b, o + j * 3 + 2, none⟩ = some (.int .i64 m.b))

theorem LentI.below {w w' : World} {l : List In} {m : In} {v : Value} (h : LentI w l m v) (hb : Below w.heap.size w w') : LentI w' l m v := by
  obtain ⟨b, o, cap, h1, h2, h3, h4⟩ := h
  exact ⟨b, o, cap, h1, h2, fun j hj => ⟨below_cell hb (h3 j hj).1, below_cell hb (h3 j hj).2.1, below_cell hb (h3 j hj).2.2⟩, fun j hj hj' => ⟨below_cell hb (h4 j hj hj').1, below_cell hb (h4 j hj hj').2.1, below_cell hb (h4 j hj hj').2.2⟩⟩

theorem LentI.plain {w : World} {l : List In} {m : In} {v : Value} (h : LentI w l m v) : InSl w l v := by
  obtain ⟨b, o, cap, h1, -, h3, -⟩ := h
  exact ⟨_, _, h1, .inr ⟨b, o, rfl, h3⟩⟩

theorem info52 : (Tryd.prog.info? 35).map (fun i => (i.zero, i.size, i.bytes)) = some (some (.agg #[.int .i64 0, .int .i64 0, .int .i64 0]), 3, 24) := by kernel_rfl

def marksL (m : In) : List Value := [.int .i64 m.op, .int .i64 m.a, .int .i64 m.b, .int .i64 m.op, .int .i64 m.a, .int .i64 m.b, .int .i64 m.op, .int .i64 m.a, .int .i64 m.b]

theorem marks_at (m : In) (j : Nat) (h : j < 3) : (marksL m)[j * 3]? = some (.int .i64 m.op) ∧ (marksL m)[j * 3 + 1]? = some (.int .i64 m.a) ∧ (marksL m)[j * 3 + 2]? = some (.int .i64 m.b) := by
  have : j = 0 ∨ j = 1 ∨ j = 2 := by omega
  rcases this with rfl | rfl | rfl <;> exact ⟨rfl, rfl, rfl⟩

theorem LentI.of_own {w : World} {B g : Nat} {l : List In} {m : In} (h : w.ownsRow B 35 3 (.slice (some ⟨g, 0, none⟩) (l.length + 3) (l.length + 3)) (l.length + 3) (insVs l ++ marksL m)) : LentI w l m (.slice (some ⟨g, 0, none⟩) l.length (l.length + 3)) := by
  have hc : ∀ q u, (insVs l ++ marksL m)[q]? = some u → w.cell? ⟨g, 0 + q, none⟩ = some u := fun q u hq => by
    have hql := (List.getElem?_eq_some_iff.1 hq).1
    rw [List.length_append, insVs_length] at hql
    have h9 : (marksL m).length = 9 := rfl
    rw [Nat.zero_add]
    exact (h.cellAt q (by omega)).trans hq
  refine ⟨g, 0, l.length + 3, rfl, Nat.le_refl _, fun j hj => ?_, fun j hj hj' => ?_⟩
  · obtain ⟨a0, a1, a2⟩ := insVs_at l j hj
    have hl := insVs_length l
    refine ⟨hc (j * 3) _ ?_, hc (j * 3 + 1) _ ?_, hc (j * 3 + 2) _ ?_⟩
    · rw [List.getElem?_append_left (by omega)]; exact a0
    · rw [List.getElem?_append_left (by omega)]; exact a1
    · rw [List.getElem?_append_left (by omega)]; exact a2
  · obtain ⟨a0, a1, a2⟩ := marks_at m (j - l.length) (by omega)
    have hl := insVs_length l
    refine ⟨hc (j * 3) _ ?_, hc (j * 3 + 1) _ ?_, hc (j * 3 + 2) _ ?_⟩
    · rw [List.getElem?_append_right (by omega), hl, show j * 3 - l.length * 3 = (j - l.length) * 3 by omega]; exact a0
    · rw [List.getElem?_append_right (by omega), hl, show j * 3 + 1 - l.length * 3 = (j - l.length) * 3 + 1 by omega]; exact a1
    · rw [List.getElem?_append_right (by omega), hl, show j * 3 + 2 - l.length * 3 = (j - l.length) * 3 + 2 by omega]; exact a2

/-- An append that has room, as a step of a region. -/
theorem step_fits {P : Program} {ops : Array Oper} {o : Oper} {lst : List Value} {ds : List Deferred} {w : World} {K : Act → World → Prop} {Q : Exit → Act → World → Prop} {E : Prop} (hg : o.guard = none) (nd : Nat) (hnd : o.dst = some nd) (s x : Operand) (t : TypeId) (hop : o.op = Op.call { callee := Callee.builtin Builtin.append, args := #[s, x], argTypes := #[t, t] })
    (base : Nat) (e : TypeId) (i : TypeInfo) (size : Nat) (h1 : P.underlying t = some (.slice e)) (h2 : P.info? e = some i) (h4 : i.size = size)
    (g k cap : Nat) (xs : List Value) (hs : (Act.mk lst.toArray ds).eval s = .slice (some ⟨g, 0, none⟩) k cap) (hown : w.ownsRow base e size (.slice (some ⟨g, 0, none⟩) k cap) k xs) (ao : Option Addr) (m c : Nat) (news : List Value) (hx : (Act.mk lst.toArray ds).eval x = .slice ao m c) (hn : news.length = m * size)
    (hnone : ao = none → m = 0 ∧ c = 0) (hc : ∀ ad, ao = some ad → ∀ j u, news[j]? = some u → w.cell? (ad.add j) = some u) (h1c : ∀ u ∈ news, u.oneCell' = true) (b1 : k + m ≤ cap) (n' : Nat) (hn' : k + m = n') (ys : List Value) (hys : xs ++ news = ys)
    (hK : ∀ w', w'.ownsRow base e size (.slice (some ⟨g, 0, none⟩) n' cap) n' ys → w.grownBy w' (some g) → K ⟨(lst.set nd (.slice (some ⟨g, 0, none⟩) n' cap)).toArray, ds⟩ w') :
    if Region.wanted o (yielded ops (Act.mk lst.toArray ds).tmps) = true then Oper.wp P o ⟨lst.toArray, ds⟩ w K Q else E := by
  subst hn' hys
  have hw : Region.wanted o (yielded ops (Act.mk lst.toArray ds).tmps) = true := by simp [Region.wanted, hg]
  rw [if_pos hw]
  obtain ⟨w', hrun, ho, hgr⟩ : ∃ w', (Builtin.append_ #[t, t] o.type #[.slice (some ⟨g, 0, none⟩) k cap, .slice ao m c]).run P w = .ok (.slice (some ⟨g, 0, none⟩) (k + m) cap) w' ∧ w'.ownsRow base e size (.slice (some ⟨g, 0, none⟩) (k + m) cap) (k + m) (xs ++ news) ∧ w.grownBy w' (some g) := by
    cases ao with
    | some ad => exact run_append_fits w base t o.type e i size h1 h2 h4 g k cap xs hown ad m c news hn (hc ad rfl) h1c b1
    | none =>
      obtain ⟨rfl, rfl⟩ := hnone rfl
      have hnil : news = [] := List.eq_nil_of_length_eq_zero (by rw [hn]; omega)
      subst hnil
      exact ⟨w, run_append_owned_none w base t o.type e i size h1 h2 _ k xs hown, by simpa using hown, ⟨rfl, rfl, rfl, Nat.le_refl _, fun _ _ _ => rfl⟩⟩
  have hk2 := hK _ ho hgr
  have ep : Act.put ⟨lst.toArray, ds⟩ o.dst (.slice (some ⟨g, 0, none⟩) (k + m) cap) = ⟨(lst.set nd (.slice (some ⟨g, 0, none⟩) (k + m) cap)).toArray, ds⟩ := by rw [hnd]; simp [Act.put]
  rw [← ep] at hk2
  unfold Oper.wp
  simp [execOp, hop, resolve, invoke, builtin, hs, hx, hrun, Result.andThen]
  exact hk2

theorem InSl.arg {w w1 : World} {l : List In} {ad : Option Addr} {c : Nat} (h : InSl w l (.slice ad l.length c)) (hb : Below w.heap.size w w1) : ∀ ad', ad = some ad' → ∀ j u, (insVs l)[j]? = some u → w1.cell? (ad'.add j) = some u := by
  intro ad' hd j u hj
  have hjl : j < l.length * 3 := by have := (List.getElem?_eq_some_iff.1 hj).1; rwa [insVs_length] at this
  obtain ⟨ad2, c2, e, h2⟩ := h
  cases e
  rcases h2 with h2 | ⟨b, o, h2, h3⟩
  · subst h2; simp at hjl
  · rw [hd] at h2
    cases h2
    rw [Addr.add_lit]
    exact below_cell hb (insVs_cell h3 j u hj)

/-- make, with room, as an equation. -/
theorem make_ins (W : World) (n g : Nat) (hn : n ≤ 100003) (hg : W.heap.size = g) : ∃ w1, (Instr.makeSlice 22 (.int .i64 0) (.int .i64 ((n : Int) + 3))).run Tryd.prog W = .ok (.slice (some ⟨g, 0, none⟩) 0 (n + 3)) w1 ∧ w1.ownsRow g 35 3 (.slice (some ⟨g, 0, none⟩) 0 (n + 3)) 0 [] ∧ Below g W w1 ∧ g < w1.heap.size := by
  subst hg
  obtain ⟨i0, hi0, hz0, hz1, hz2⟩ := info_parts info52
  obtain ⟨w1, hrun, hown, hgr⟩ := run_make_own (P := Tryd.prog) W W.heap.size 22 35 i0 _ 3 Tryd.underlying22 hi0 hz0 hz1 .i64 .i64 (n + 3) (by rw [hz2]; omega) (by unfold maxLen; omega) (Nat.le_refl _)
  exact ⟨w1, hrun, hown, (Below.refl _ W).grown hgr (Nat.le_refl _) (by intro k hk; cases hk), (hown.lt _ rfl).2⟩

theorem marks_cells (W : World) (m : In) (g : Nat) (hg : W.heap.size = g) (q : Nat) (u : Value) (hq : (marksL m)[q]? = some u) : (W.alloc (.cells #[.int .i64 m.op, .int .i64 m.a, .int .i64 m.b, .int .i64 m.op, .int .i64 m.a, .int .i64 m.b, .int .i64 m.op, .int .i64 m.a, .int .i64 m.b] 35)).cell? ((⟨g, 0, none⟩ : Addr).add q) = some u := by
  subst hg
  rw [Addr.add_lit]
  have := (cells_of (l := marksL m) (heap_alloc_new W (.cells #[.int .i64 m.op, .int .i64 m.a, .int .i64 m.b, .int .i64 m.op, .int .i64 m.a, .int .i64 m.b, .int .i64 m.op, .int .i64 m.a, .int .i64 m.b] 35))).1 q u hq
  simpa using this

theorem marks_one (m : In) : ∀ u ∈ marksL m, u.oneCell' = true := by
  intro u hu
  simp only [marksL, List.mem_cons, List.not_mem_nil, or_false] at hu
  rcases hu with rfl | rfl | rfl | rfl | rfl | rfl | rfl | rfl | rfl <;> rfl

set_option maxRecDepth 20000 in
set_option maxHeartbeats 4000000 in
/-- Lend. -/
theorem Lend_any (w : World) (l : List In) (m : In) (ad : Option Addr) (c : Nat) (hl : l.length ≤ 100000) (h : InSl w l (.slice ad l.length c)) (hnil : ad = none → l.length = 0 ∧ c = 0) :
    Calls Tryd.prog 11 #[.slice ad l.length c, .agg #[.int .i64 m.op, .int .i64 m.a, .int .i64 m.b]] w fun r w' => ∃ u, r = .returned u ∧ LentI w' l m u ∧ Below w.heap.size w w' := by
  obtain ⟨i0, hi0, hz0, hz1, hz2⟩ := info_parts info52
  have hB0 : Below (w.heap.size + 1) (w.alloc (.cells #[.int .i64 m.op, .int .i64 m.a, .int .i64 m.b] 35)) ((w.alloc (.cells #[.int .i64 m.op, .int .i64 m.a, .int .i64 m.b] 35)).drew) := (Below.refl _ _).drew
  have hKeep : ∀ W, Below (w.heap.size + 1) (w.alloc (.cells #[.int .i64 m.op, .int .i64 m.a, .int .i64 m.b] 35)) W → W.cell? ⟨w.heap.size, 0, none⟩ = some (.int .i64 m.op) ∧ W.cell? ⟨w.heap.size, 1, none⟩ = some (.int .i64 m.a) ∧ W.cell? ⟨w.heap.size, 2, none⟩ = some (.int .i64 m.b) := fun W hb => ⟨(hb.cell (by show w.heap.size < w.heap.size + 1; omega)).trans (by go_simp), (hb.cell (by show w.heap.size < w.heap.size + 1; omega)).trans (by go_simp), (hb.cell (by show w.heap.size < w.heap.size + 1; omega)).trans (by go_simp)⟩
  have hA : ∀ W, Below (w.heap.size + 1) (w.alloc (.cells #[.int .i64 m.op, .int .i64 m.a, .int .i64 m.b] 35)) W → ∀ ad', ad = some ad' → ∀ j u, (insVs l)[j]? = some u → W.cell? (ad'.add j) = some u := fun W hb => h.arg ((below_new w (.cells #[.int .i64 m.op, .int .i64 m.a, .int .i64 m.b] 35)).trans (hb.mono (by omega)))
  obtain ⟨w1, hm1, ho1, hb1, hl1⟩ := make_ins ((w.alloc (.cells #[.int .i64 m.op, .int .i64 m.a, .int .i64 m.b] 35)).drew) l.length (w.heap.size + 1) (by omega) (by simp)
  obtain ⟨v1, hm2, ho2, hb2, hl2⟩ := make_ins (((w.alloc (.cells #[.int .i64 m.op, .int .i64 m.a, .int .i64 m.b] 35)).drew).alloc (.cells #[.int .i64 m.op, .int .i64 m.a, .int .i64 m.b, .int .i64 m.op, .int .i64 m.a, .int .i64 m.b, .int .i64 m.op, .int .i64 m.a, .int .i64 m.b] 35)) l.length (w.heap.size + 1 + 1) (by omega) (by simp)
  rw [show (((w.alloc (.cells #[.int .i64 m.op, .int .i64 m.a, .int .i64 m.b] 35)).drew).alloc (.cells #[.int .i64 m.op, .int .i64 m.a, .int .i64 m.b, .int .i64 m.op, .int .i64 m.a, .int .i64 m.b, .int .i64 m.op, .int .i64 m.a, .int .i64 m.b] 35)) = ((w.alloc (.cells #[.int .i64 m.op, .int .i64 m.a, .int .i64 m.b] 35)).alloc (.cells #[.int .i64 m.op, .int .i64 m.a, .int .i64 m.b, .int .i64 m.op, .int .i64 m.a, .int .i64 m.b, .int .i64 m.op, .int .i64 m.a, .int .i64 m.b] 35)).drew from rfl] at hm2
  have hBw1 : Below (w.heap.size + 1) (w.alloc (.cells #[.int .i64 m.op, .int .i64 m.a, .int .i64 m.b] 35)) w1 := hB0.trans hb1
  have hBv1 : Below (w.heap.size + 1) (w.alloc (.cells #[.int .i64 m.op, .int .i64 m.a, .int .i64 m.b] 35)) v1 := (hB0.alloc (by simp) (.cells #[.int .i64 m.op, .int .i64 m.a, .int .i64 m.b, .int .i64 m.op, .int .i64 m.a, .int .i64 m.b, .int .i64 m.op, .int .i64 m.a, .int .i64 m.b] 35)).trans (hb2.mono (by omega))
  have hmk2 : ∀ j u, (marksL m)[j]? = some u → v1.cell? ((⟨w.heap.size + 1, 0, none⟩ : Addr).add j) = some u := fun j u hj => (hb2.cell (by rw [Addr.add_lit]; show w.heap.size + 1 < w.heap.size + 1 + 1; omega)).trans (marks_cells ((w.alloc (.cells #[.int .i64 m.op, .int .i64 m.a, .int .i64 m.b] 35)).drew) m _ (by simp) j u hj)
  have hwr : IntKind.i64.wrap ((l.length : Int) + 3) = (l.length : Int) + 3 := by rw [IntKind.wrap_i64]; omega
  go_enter Tryd.func11, Tryd.ntmps11
  go_wp2_with fail
  refine wp_region_noPanic ?_
  refine wp_region_held_drew (S := fun w' => w'.cell? ⟨w.heap.size, 0, none⟩ = some (.int .i64 m.op) ∧ w'.cell? ⟨w.heap.size, 1, none⟩ = some (.int .i64 m.a) ∧ w'.cell? ⟨w.heap.size, 2, none⟩ = some (.int .i64 m.b)) (by kernel_rfl) (hKeep _ hB0) (fun hHeld => ?_)
  refine take_at (i := 0) (n := 6) (v := ?_) rfl rfl (by kernel_rfl) (by kernel_rfl) (by kernel_rfl) (fun _ _ _ h => h) (Or.inl ⟨by rfl, ?_⟩) (by assumption) ?_
  rotate_left 1
  · intro wz hSw
    first | (go_simp; done) | (go_simp; with_reducible rfl)
  simp only [List.set_cons_zero, List.set_cons_succ]
  refine take_at (i := 1) (n := 7) (v := ?_) rfl rfl (by kernel_rfl) (by kernel_rfl) (by kernel_rfl) (fun _ _ _ h => h) (Or.inl ⟨by rfl, ?_⟩) (by assumption) ?_
  rotate_left 1
  · intro wz hSw
    first | (go_simp; done) | (go_simp; with_reducible rfl)
  simp only [List.set_cons_zero, List.set_cons_succ]
  refine take_at (i := 2) (n := 8) (v := ?_) rfl rfl (by kernel_rfl) (by kernel_rfl) (by kernel_rfl) (fun _ _ _ h => h) (Or.inl ⟨by rfl, ?_⟩) (by assumption) ?_
  rotate_left 1
  · intro wz hSw
    first | (go_simp; done) | (go_simp; with_reducible rfl)
  simp only [List.set_cons_zero, List.set_cons_succ]
  refine take_at (i := 4) (n := 10) (v := ?_) rfl rfl (by kernel_rfl) (by kernel_rfl) (by kernel_rfl) (fun _ _ _ h => h) (Or.inl ⟨by rfl, ?_⟩) (by assumption) ?_
  rotate_left 1
  · intro wz hSw
    first | (go_simp; done) | (go_simp; with_reducible rfl)
  simp only [List.set_cons_zero, List.set_cons_succ]
  refine take_at (i := 6) (n := 12) (v := ?_) rfl rfl (by kernel_rfl) (by kernel_rfl) (by kernel_rfl) (fun _ _ _ h => h) (Or.inl ⟨by rfl, ?_⟩) (by assumption) ?_
  rotate_left 1
  · intro wz hSw
    first | (go_simp; done) | (go_simp; with_reducible rfl)
  simp only [List.set_cons_zero, List.set_cons_succ]
  refine take_at (i := 7) (n := 13) (v := ?_) rfl rfl (by kernel_rfl) (by kernel_rfl) (by kernel_rfl) (fun _ _ _ h => h) (Or.inl ⟨by rfl, ?_⟩) (by assumption) ?_
  rotate_left 1
  · intro wz hSw
    first | (go_simp; done) | (go_simp; with_reducible rfl)
  simp only [List.set_cons_zero, List.set_cons_succ]
  refine take_at (i := 8) (n := 14) (v := ?_) rfl rfl (by kernel_rfl) (by kernel_rfl) (by kernel_rfl) (fun _ _ _ h => h) (Or.inl ⟨by rfl, ?_⟩) (by assumption) ?_
  rotate_left 1
  · intro wz hSw
    first | (go_simp; done) | (go_simp; with_reducible rfl)
  simp only [List.set_cons_zero, List.set_cons_succ]
  refine wpAnyH_ready (rs := [3, 9]) (by kernel_rfl) (by simp) ?_
  refine AllReadyH.cons rfl (fun K hK => ?_) (AllReadyH.cons rfl (fun K hK => ?_) AllReadyH.nil)
  · go_simp
    refine hK.out _ _ (hKeep _ hBw1) (fun hHeld => ?_)
    clear hK K
    refine wpAnyH_ready (rs := [5, 9]) (by kernel_rfl) (by simp) ?_
    refine AllReadyH.cons rfl (fun K hK => ?_) (AllReadyH.cons rfl (fun K hK => ?_) AllReadyH.nil)
    · refine step_fits rfl 11 rfl (.tmp 9) (.tmp 10) 22 rfl (w.heap.size + 1) 35 i0 3 Tryd.underlying22 hi0 hz1 (w.heap.size + 1) (0) (l.length + 3) ([]) rfl ho1 (ad) (l.length) (c) (insVs l) rfl (insVs_length l) hnil (hA w1 hBw1) (fun u hu => insVs_one hu) (by omega) l.length (by omega) (insVs l) rfl ?_
      intro w2 how2 hgw2
      have hBw2 : Below (w.heap.size + 1) (w.alloc (.cells #[.int .i64 m.op, .int .i64 m.a, .int .i64 m.b] 35)) w2 := hBw1.grown hgw2 (by omega) (by intro q hq; cases hq; omega)
      have hszw2 := hgw2.size
      refine hK.out _ _ (hKeep _ hBw2) (fun hHeld => ?_)
      clear hK K
      simp only [List.set_cons_zero, List.set_cons_succ]
      refine wpAnyH_ready (rs := [9]) (by kernel_rfl) (by simp) ?_
      refine AllReadyH.cons rfl (fun K hK => ?_) AllReadyH.nil
      go_simp
      refine hK.out _ _ (hKeep _ (hBw2.alloc (by omega) _)) (fun hHeld => ?_)
      clear hK K
      refine wpAnyH_ready (rs := [10]) (by kernel_rfl) (by simp) ?_
      refine AllReadyH.cons rfl (fun K hK => ?_) AllReadyH.nil
      refine step_fits rfl 16 rfl (.tmp 11) (.tmp 15) 22 rfl (w.heap.size + 1) 35 i0 3 Tryd.underlying22 hi0 hz1 (w.heap.size + 1) l.length (l.length + 3) (insVs l) rfl (ownsRow_same how2 (fun k _ hk => (below_new w2 _).block k hk)) (some ⟨w2.heap.size, 0, none⟩) (3) (3) (marksL m) rfl rfl (by intro e; cases e) (by intro ad' e j u hj; cases e; exact marks_cells w2 m _ rfl j u hj) (marks_one m) (by omega) (l.length + 3) rfl (insVs l ++ marksL m) rfl ?_
      intro w3 how3 hgw3
      have hBw3 : Below (w.heap.size + 1) (w.alloc (.cells #[.int .i64 m.op, .int .i64 m.a, .int .i64 m.b] 35)) w3 := (hBw2.alloc (by omega) _).grown hgw3 (by simp; omega) (by intro q hq; cases hq; omega)
      have hszw3 := hgw3.size
      refine hK.out _ _ (hKeep _ hBw3) (fun hHeld => ?_)
      clear hK K
      simp only [List.set_cons_zero, List.set_cons_succ]
      refine take_at (i := 11) (n := 5) (v := ?_) rfl rfl (by kernel_rfl) (by kernel_rfl) (by kernel_rfl) (fun _ _ _ h => h) (Or.inl ⟨by rfl, ?_⟩) (by assumption) ?_
      rotate_left 1
      · intro wz hSw
        first | (go_simp; done) | (go_simp; with_reducible rfl)
      simp only [List.set_cons_zero, List.set_cons_succ]
      refine wpAnyH_done (by kernel_rfl) ?_ _
      refine NoPanic.normal ?_
      go_wp2_with fail
      go_ret
      refine ⟨_, rfl, LentI.of_own how3, (below_new w (.cells #[.int .i64 m.op, .int .i64 m.a, .int .i64 m.b] 35)).trans (hBw3.mono (by omega))⟩
    · go_simp
      refine hK.out _ _ (hKeep _ (hBw1.alloc (by omega) _)) (fun hHeld => ?_)
      clear hK K
      refine wpAnyH_ready (rs := [5]) (by kernel_rfl) (by simp) ?_
      refine AllReadyH.cons rfl (fun K hK => ?_) AllReadyH.nil
      refine step_fits rfl 11 rfl (.tmp 9) (.tmp 10) 22 rfl (w.heap.size + 1) 35 i0 3 Tryd.underlying22 hi0 hz1 (w.heap.size + 1) (0) (l.length + 3) ([]) rfl (ownsRow_same ho1 (fun k _ hk => (below_new w1 _).block k hk)) (ad) (l.length) (c) (insVs l) rfl (insVs_length l) hnil (hA (w1.alloc (.cells #[.int .i64 m.op, .int .i64 m.a, .int .i64 m.b, .int .i64 m.op, .int .i64 m.a, .int .i64 m.b, .int .i64 m.op, .int .i64 m.a, .int .i64 m.b] 35)) (hBw1.alloc (by omega) _)) (fun u hu => insVs_one hu) (by omega) l.length (by omega) (insVs l) rfl ?_
      intro w2 how2 hgw2
      have hBw2 : Below (w.heap.size + 1) (w.alloc (.cells #[.int .i64 m.op, .int .i64 m.a, .int .i64 m.b] 35)) w2 := (hBw1.alloc (by omega) _).grown hgw2 (by simp; omega) (by intro q hq; cases hq; omega)
      have hszw2 := hgw2.size
      refine hK.out _ _ (hKeep _ hBw2) (fun hHeld => ?_)
      clear hK K
      simp only [List.set_cons_zero, List.set_cons_succ]
      refine wpAnyH_ready (rs := [10]) (by kernel_rfl) (by simp) ?_
      refine AllReadyH.cons rfl (fun K hK => ?_) AllReadyH.nil
      refine step_fits rfl 16 rfl (.tmp 11) (.tmp 15) 22 rfl (w.heap.size + 1) 35 i0 3 Tryd.underlying22 hi0 hz1 (w.heap.size + 1) l.length (l.length + 3) (insVs l) rfl how2 (some ⟨w1.heap.size, 0, none⟩) (3) (3) (marksL m) rfl rfl (by intro e; cases e) (by intro ad' e j u hj; cases e; exact (hgw2.cell (marks_cells w1 m _ rfl j u hj) (by first | (simp [Addr.add_lit]; done) | (simp [Addr.add_lit]; omega)))) (marks_one m) (by omega) (l.length + 3) rfl (insVs l ++ marksL m) rfl ?_
      intro w3 how3 hgw3
      have hBw3 : Below (w.heap.size + 1) (w.alloc (.cells #[.int .i64 m.op, .int .i64 m.a, .int .i64 m.b] 35)) w3 := hBw2.grown hgw3 (by simp at hszw2; omega) (by intro q hq; cases hq; omega)
      have hszw3 := hgw3.size
      refine hK.out _ _ (hKeep _ hBw3) (fun hHeld => ?_)
      clear hK K
      simp only [List.set_cons_zero, List.set_cons_succ]
      refine take_at (i := 11) (n := 5) (v := ?_) rfl rfl (by kernel_rfl) (by kernel_rfl) (by kernel_rfl) (fun _ _ _ h => h) (Or.inl ⟨by rfl, ?_⟩) (by assumption) ?_
      rotate_left 1
      · intro wz hSw
        first | (go_simp; done) | (go_simp; with_reducible rfl)
      simp only [List.set_cons_zero, List.set_cons_succ]
      refine wpAnyH_done (by kernel_rfl) ?_ _
      refine NoPanic.normal ?_
      go_wp2_with fail
      go_ret
      refine ⟨_, rfl, LentI.of_own how3, (below_new w (.cells #[.int .i64 m.op, .int .i64 m.a, .int .i64 m.b] 35)).trans (hBw3.mono (by omega))⟩
  · go_simp
    refine hK.out _ _ (hKeep _ (hB0.alloc (by simp) _)) (fun hHeld => ?_)
    clear hK K
    refine wpAnyH_ready (rs := [3]) (by kernel_rfl) (by simp) ?_
    refine AllReadyH.cons rfl (fun K hK => ?_) AllReadyH.nil
    go_simp
    refine hK.out _ _ (hKeep _ hBv1) (fun hHeld => ?_)
    clear hK K
    refine wpAnyH_ready (rs := [5]) (by kernel_rfl) (by simp) ?_
    refine AllReadyH.cons rfl (fun K hK => ?_) AllReadyH.nil
    refine step_fits rfl 11 rfl (.tmp 9) (.tmp 10) 22 rfl (w.heap.size + 1 + 1) 35 i0 3 Tryd.underlying22 hi0 hz1 (w.heap.size + 1 + 1) (0) (l.length + 3) ([]) rfl ho2 (ad) (l.length) (c) (insVs l) rfl (insVs_length l) hnil (hA v1 hBv1) (fun u hu => insVs_one hu) (by omega) l.length (by omega) (insVs l) rfl ?_
    intro w2 how2 hgw2
    have hBw2 : Below (w.heap.size + 1) (w.alloc (.cells #[.int .i64 m.op, .int .i64 m.a, .int .i64 m.b] 35)) w2 := hBv1.grown hgw2 (by omega) (by intro q hq; cases hq; omega)
    have hszw2 := hgw2.size
    refine hK.out _ _ (hKeep _ hBw2) (fun hHeld => ?_)
    clear hK K
    simp only [List.set_cons_zero, List.set_cons_succ]
    refine wpAnyH_ready (rs := [10]) (by kernel_rfl) (by simp) ?_
    refine AllReadyH.cons rfl (fun K hK => ?_) AllReadyH.nil
    refine step_fits rfl 16 rfl (.tmp 11) (.tmp 15) 22 rfl (w.heap.size + 1 + 1) 35 i0 3 Tryd.underlying22 hi0 hz1 (w.heap.size + 1 + 1) l.length (l.length + 3) (insVs l) rfl how2 (some ⟨w.heap.size + 1, 0, none⟩) (3) (3) (marksL m) rfl rfl (by intro e; cases e) (by intro ad' e j u hj; cases e; exact (hgw2.cell (hmk2 j u hj) (by first | (simp [Addr.add_lit]; done) | (simp [Addr.add_lit]; omega)))) (marks_one m) (by omega) (l.length + 3) rfl (insVs l ++ marksL m) rfl ?_
    intro w3 how3 hgw3
    have hBw3 : Below (w.heap.size + 1) (w.alloc (.cells #[.int .i64 m.op, .int .i64 m.a, .int .i64 m.b] 35)) w3 := hBw2.grown hgw3 (by omega) (by intro q hq; cases hq; omega)
    have hszw3 := hgw3.size
    refine hK.out _ _ (hKeep _ hBw3) (fun hHeld => ?_)
    clear hK K
    simp only [List.set_cons_zero, List.set_cons_succ]
    refine take_at (i := 11) (n := 5) (v := ?_) rfl rfl (by kernel_rfl) (by kernel_rfl) (by kernel_rfl) (fun _ _ _ h => h) (Or.inl ⟨by rfl, ?_⟩) (by assumption) ?_
    rotate_left 1
    · intro wz hSw
      first | (go_simp; done) | (go_simp; with_reducible rfl)
    simp only [List.set_cons_zero, List.set_cons_succ]
    refine wpAnyH_done (by kernel_rfl) ?_ _
    refine NoPanic.normal ?_
    go_wp2_with fail
    go_ret
    refine ⟨_, rfl, LentI.of_own how3, (below_new w (.cells #[.int .i64 m.op, .int .i64 m.a, .int .i64 m.b] 35)).trans (hBw3.mono (by omega))⟩
end Go.Proofs.YtgemadoieielcacDoor
namespace Go.Proofs.YtgemadoieielcacDoor
open Go.ChangeShapes Go.WideShapes Go.ChangeAt Go.RowKit

theorem ownsRow_belowX {w w' : World} {B n size : Nat} {e : TypeId} {v : Value} {xs : List Value} (h : w.ownsRow B e size v n xs) (hb : Below w.heap.size w w') : w'.ownsRow B e size v n xs := ownsRow_same h (fun k _ hk => hb.block k hk)

theorem IntSl.belowX {w w' : World} {vs : List Int} {v : Value} (h : IntSl w vs v) (hb : Below w.heap.size w w') : IntSl w' vs v := by
  obtain ⟨ad, c, h1, h2⟩ := h
  refine ⟨ad, c, h1, ?_⟩
  rcases h2 with h2 | ⟨b, o, h2, h3⟩
  · exact .inl h2
  · exact .inr ⟨b, o, h2, fun j hj => below_cell hb (h3 j hj)⟩

/-- A list that was lent, and its room. -/
def LentSl (w : World) (vs : List Int) (m : Int) (v : Value) : Prop := ∃ b o cap, v = .slice (some ⟨b, o, none⟩) vs.length cap ∧ vs.length + 3 ≤ cap ∧ (∀ j, j < vs.length → w.cell? ⟨b, o + j, none⟩ = some (.int .i64 (vs.getD j 0))) ∧ (∀ j, vs.length ≤ j → j < vs.length + 3 → w.cell? ⟨b, o + j, none⟩ = some (.int .i64 m))

theorem LentSl.below {w w' : World} {vs : List Int} {m : Int} {v : Value} (h : LentSl w vs m v) (hb : Below w.heap.size w w') : LentSl w' vs m v := by
  obtain ⟨b, o, cap, h1, h2, h3, h4⟩ := h
  exact ⟨b, o, cap, h1, h2, fun j hj => below_cell hb (h3 j hj), fun j hj hj' => below_cell hb (h4 j hj hj')⟩

theorem LentSl.plain {w : World} {vs : List Int} {m : Int} {v : Value} (h : LentSl w vs m v) : IntSl w vs v := by
  obtain ⟨b, o, cap, h1, -, h3, -⟩ := h
  exact ⟨_, _, h1, .inr ⟨b, o, rfl, h3⟩⟩

set_option maxRecDepth 20000 in
set_option maxHeartbeats 4000000 in
/-- Still, of a list that was lent and stands as it did. -/
theorem StillN_any (w : World) (vs : List Int) (m : Int) (v v' : Value) (hl : vs.length ≤ 4194304) (h : LentSl w vs m v) (h' : IntSl w vs v') :
    Calls Tryd.prog 16 #[v, v', .int .i64 m] w fun r w' => r = .returned (.bool true) ∧ Below w.heap.size w w' := by
  obtain ⟨b, o, cap, rfl, hcap, hrow, hmark⟩ := h
  obtain ⟨ad', c', rfl, hc'⟩ := h'
  have HR : Hid ((∀ j, j < vs.length → w.cell? ⟨b, o + j, none⟩ = some (.int .i64 (vs.getD j 0))) ∧ (∀ j, vs.length ≤ j → j < vs.length + 3 → w.cell? ⟨b, o + j, none⟩ = some (.int .i64 m)) ∧ (vs = [] ∨ ∃ b o, ad' = some ⟨b, o, none⟩ ∧ ∀ j, j < vs.length → w.cell? ⟨b, o + j, none⟩ = some (.int .i64 (vs.getD j 0)))) := ⟨hrow, hmark, hc'⟩
  clear hrow hmark hc'
  go_enter Tryd.func16, Tryd.ntmps16
  go_wp2_with fail
  go_loopw [17] (fun x wr => ∃ j : Nat, j ≤ vs.length + 3 ∧ x = .int .i64 j ∧ Below w.heap.size w wr) (fun x _ => vs.length + 3 - (intOf x).toNat)
  case atStart => exact ⟨0, Nat.zero_le _, rfl, Below.refl _ _⟩
  case round =>
    obtain ⟨j, hj, rfl, hb⟩ := hrel
    by_cases hlt : j < vs.length
    · have c0 := below_cell hb (HR.out.1 j hlt)
      rcases HR.out.2.2 with h | ⟨b', o', had', hrow'⟩
      · rw [h] at hlt; simp at hlt
      subst had'
      have d0 := below_cell hb (hrow' j hlt)
      clear hrow'
      generalize vs.getD j 0 = z at *
      have HB : Hid (Below w.heap.size w wr) := hb
      clear hb
      go_wp2_with fail
      go_roundw
      case rel => exact ⟨j + 1, by omega, by go_num, HB.out⟩
      case measure => simp [intOf]; omega
    · by_cases hlt2 : j < vs.length + 3
      · have c0 := below_cell hb (HR.out.2.1 j (by omega) hlt2)
        have HB : Hid (Below w.heap.size w wr) := hb
        clear hb
        go_wp2_with fail
        go_roundw
        case rel => exact ⟨j + 1, by omega, by go_num, HB.out⟩
        case measure => simp [intOf]; omega
      · have hje : j = vs.length + 3 := by omega
        subst hje
        go_wp2_with fail
        go_ret
        exact ⟨rfl, hb⟩

theorem IntSl.arg {w w1 : World} {vs : List Int} {ad : Option Addr} {c : Nat} (h : IntSl w vs (.slice ad vs.length c)) (hb : Below w.heap.size w w1) : ∀ ad', ad = some ad' → ∀ j u, (intVs vs)[j]? = some u → w1.cell? (ad'.add j) = some u := by
  intro ad' hd j u hj
  have hjl : j < vs.length := by have := (List.getElem?_eq_some_iff.1 hj).1; simpa [intVs] using this
  obtain ⟨ad2, c2, e, h2⟩ := h
  cases e
  rcases h2 with h2 | ⟨b, o, h2, h3⟩
  · subst h2; simp at hjl
  · rw [hd] at h2
    cases h2
    rw [Addr.add_lit]
    refine below_cell hb ?_
    rw [h3 j hjl]
    have e : (intVs vs)[j]? = some (Value.int .i64 (vs.getD j 0)) := by simp [intVs, List.getD, hjl]
    rw [e] at hj
    exact hj

theorem marks_cell (w : World) (m : Int) (j : Nat) (u : Value) (hj : [Value.int .i64 m, .int .i64 m, .int .i64 m][j]? = some u) : (w.alloc (.cells #[.int .i64 m, .int .i64 m, .int .i64 m] 3)).cell? ((⟨w.heap.size, 0, none⟩ : Addr).add j) = some u := by
  rw [Addr.add_lit]
  have := (cells_of (l := [_, _, _]) (heap_alloc_new w (.cells #[.int .i64 m, .int .i64 m, .int .i64 m] 3))).1 j u hj
  simpa using this

set_option maxRecDepth 20000 in
set_option maxHeartbeats 4000000 in
/-- Lend. -/
theorem LendN_any (w : World) (vs : List Int) (m : Int) (ad : Option Addr) (c : Nat) (hl : vs.length ≤ 4194304) (h : IntSl w vs (.slice ad vs.length c)) (hnil : ad = none → vs.length = 0 ∧ c = 0) :
    Calls Tryd.prog 12 #[.slice ad vs.length c, .int .i64 m] w fun r w' => ∃ u, r = .returned u ∧ LentSl w' vs m u ∧ Below w.heap.size w w' := by
  obtain ⟨i0, hi0, hz0, hz1, hz2⟩ := info_parts info3
  obtain ⟨w1, hrun, hown, hgr⟩ := run_make_own (P := Tryd.prog) w w.heap.size 23 3 i0 _ 1 Tryd.underlying23 hi0 hz0 hz1 .i64 .i64 (vs.length + 3) (by rw [hz2]; omega) (by unfold maxLen; omega) (Nat.le_refl _)
  have hmk : (Instr.makeSlice 23 (.int .i64 0) (.int .i64 ((vs.length : Int) + 3))).run Tryd.prog w = .ok (.slice (some ⟨w.heap.size, 0, none⟩) 0 (vs.length + 3)) w1 := hrun
  have hb1 : Below w.heap.size w w1 := (Below.refl _ w).grown hgr (Nat.le_refl _) (by intro k hk; cases hk)
  have HM : Hid (w1.ownsRow w.heap.size 3 1 (.slice (some ⟨w.heap.size, 0, none⟩) 0 (vs.length + 3)) 0 [] ∧ Below w.heap.size w w1 ∧ (∀ ad', ad = some ad' → ∀ j u, (intVs vs)[j]? = some u → w1.cell? (ad'.add j) = some u) ∧ (ad = none → vs.length = 0 ∧ c = 0)) := ⟨hown, hb1, h.arg hb1, hnil⟩
  clear hrun hown hgr hb1 h hnil
  go_enter Tryd.func12, Tryd.ntmps12
  go_wp2_with (first
    | (at_builtin; refine wpList_append_fits_any _ rfl (.tmp 9) (.tmp 10) 23 rfl w.heap.size 3 i0 1 Tryd.underlying23 hi0 hz1 w.heap.size 0 (vs.length + 3) [] rfl HM.out.1 ad vs.length c (intVs vs) rfl (by simp [intVs]) HM.out.2.2.2 HM.out.2.2.1 (fun u hu => by obtain ⟨x, _, rfl⟩ := List.mem_map.1 hu; rfl) (by omega) ?_; intro w2 ho2 hg2; simp only [Nat.zero_add, List.nil_append] at ho2 ⊢; have H2 : Hid (w2.ownsRow w.heap.size 3 1 (.slice (some ⟨w.heap.size, 0, none⟩) vs.length (vs.length + 3)) vs.length (intVs vs) ∧ Below w.heap.size w w2) := ⟨ho2, HM.out.2.1.grown hg2 HM.out.2.1.size (by intro k hk; cases hk; exact Nat.le_refl _)⟩; clear ho2 hg2)
    | (at_builtin; refine wpList_append_fits_any _ rfl (.tmp 11) (.tmp 15) 23 rfl w.heap.size 3 i0 1 Tryd.underlying23 hi0 hz1 w.heap.size vs.length (vs.length + 3) (intVs vs) rfl (ownsRow_belowX H2.out.1 ((Below.refl _ _).alloc (Nat.le_refl _) _)) (some ⟨w2.heap.size, 0, none⟩) 3 3 [.int .i64 m, .int .i64 m, .int .i64 m] rfl rfl (by intro e; cases e) (by intro ad' e j u hj; cases e; exact marks_cell w2 m j u hj) (by intro u hu; simp at hu; subst hu; rfl) (Nat.le_refl _) ?_; intro w3 ho3 hg3; have H3 : Hid (w3.ownsRow w.heap.size 3 1 (.slice (some ⟨w.heap.size, 0, none⟩) (vs.length + 3) (vs.length + 3)) (vs.length + 3) (intVs vs ++ [.int .i64 m, .int .i64 m, .int .i64 m]) ∧ Below w.heap.size w w3) := ⟨ho3, (H2.out.2.alloc H2.out.2.size _).grown hg3 (by have := H2.out.2.size; simp; omega) (by intro k hk; cases hk; exact Nat.le_refl _)⟩; clear ho3 hg3))
  go_ret
  refine ⟨_, rfl, ⟨w.heap.size, 0, vs.length + 3, rfl, Nat.le_refl _, fun j hj => ?_, fun j hj hj' => ?_⟩, H3.out.2⟩
  · have := H3.out.1.cells rfl j (.int .i64 (vs.getD j 0)) (by rw [List.getElem?_append_left (by simpa [intVs] using hj)]; simp [intVs, List.getD, hj])
    rwa [Addr.add_lit] at this
  · have := H3.out.1.cells rfl j (.int .i64 m) (by
      rw [List.getElem?_append_right (by simpa [intVs] using hj)]
      have e : j - (intVs vs).length = 0 ∨ j - (intVs vs).length = 1 ∨ j - (intVs vs).length = 2 := by simp [intVs]; omega
      rcases e with e | e | e <;> rw [e] <;> rfl)
    rwa [Addr.add_lit] at this

end Go.Proofs.YtgemadoieielcacDoor
