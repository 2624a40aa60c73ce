import Derived.Test.YtcmoehednkaehadDoorGMOver
import Derived.Laws.MakeOwn
namespace Go.Proofs.YtcmoehednkaehadDoor
open Go.ChangeShapes Go.WideShapes Go.ChangeAt Go.RowKit

def insVs : List In → List Value
  | [] => []
  | x :: t => .int .i64 x.op :: .int .i64 x.a :: .int .i64 x.b :: insVs t

theorem insVs_length (l : List In) : (insVs l).length = l.length * 3 := by
  induction l with
  | nil => rfl
  | cons x t ih => simp only [insVs, List.length_cons, ih]; omega

theorem insVs_at : ∀ (l : List In) (j : Nat), j < l.length → (insVs l)[j * 3]? = some (.int .i64 (l.getD j in0).op) ∧ (insVs l)[j * 3 + 1]? = some (.int .i64 (l.getD j in0).a) ∧ (insVs l)[j * 3 + 2]? = some (.int .i64 (l.getD j in0).b)
  | [], j, h => by simp at h
  | x :: t, 0, _ => ⟨rfl, rfl, rfl⟩
  | x :: t, j + 1, h => by
    have := insVs_at t j (by simpa using h)
    rw [insVs, show (j + 1) * 3 = j * 3 + 1 + 1 + 1 by omega, show j * 3 + 1 + 1 + 1 + 1 = (j * 3 + 1) + 1 + 1 + 1 by omega, show j * 3 + 1 + 1 + 1 + 2 = (j * 3 + 2) + 1 + 1 + 1 by omega]
    simpa using this

theorem insVs_one {l : List In} {u : Value} (h : u ∈ insVs l) : u.oneCell' = true := by
  induction l with
  | nil => simp [insVs] at h
  | cons x t ih =>
    simp only [insVs, List.mem_cons] at h
    rcases h with rfl | rfl | rfl | h
    · rfl
    · rfl
    · rfl
    · exact ih h

theorem insVs_cell {w : World} {l : List In} {b o : Nat} (h : ∀ j, j < l.length → w.cell? ⟨b, o + j * 3, none⟩ = some (.int .i64 (l.getD j in0).op) ∧ w.cell? ⟨b, o + j * 3 + 1, none⟩ = some (.int .i64 (l.getD j in0).a) ∧ w.cell? ⟨b, o + j * 3 + 2, none⟩ = some (.int .i64 (l.getD j in0).b)) (q : Nat) (u : Value) (hq : (insVs l)[q]? = some u) : w.cell? ⟨b, o + q, none⟩ = some u := by
  have hql : q < l.length * 3 := by have := (List.getElem?_eq_some_iff.1 hq).1; rwa [insVs_length] at this
  have hj : q / 3 < l.length := by omega
  obtain ⟨a0, a1, a2⟩ := insVs_at l (q / 3) hj
  obtain ⟨c0, c1, c2⟩ := h (q / 3) hj
  have e : q = q / 3 * 3 ∨ q = q / 3 * 3 + 1 ∨ q = q / 3 * 3 + 2 := by omega
  rcases e with e | e | e
  · rw [e] at hq ⊢; rw [a0] at hq; rw [← hq]; exact c0
  · rw [e] at hq ⊢; rw [a1] at hq; rw [← hq, ← Nat.add_assoc]; exact c1
  · rw [e] at hq ⊢; rw [a2] at hq; rw [← hq, ← Nat.add_assoc]; exact c2

/-- A list of instructions that was lent, and its room. -/
def LentI (w : World) (l : List In) (m : In) (v : Value) : Prop := ∃ b o cap, v = .slice (some ⟨b, o, none⟩) l.length cap ∧ l.length + 3 ≤ cap ∧ (∀ j, j < l.length → w.cell? ⟨b, o + j * 3, none⟩ = some (.int .i64 (l.getD j in0).op) ∧ w.cell? ⟨b, o + j * 3 + 1, none⟩ = some (.int .i64 (l.getD j in0).a) ∧ w.cell? ⟨b, o + j * 3 + 2, none⟩ = some (.int .i64 (l.getD j in0).b)) ∧ (∀ j, l.length ≤ j → j < l.length + 3 → w.cell? ⟨b, o + j * 3, none⟩ = some (.int .i64 m.op) ∧ w.cell? ⟨b, o + j * 3 + 1, none⟩ = some (.int .i64 m.a) ∧ w.cell? ⟨b, o + j * 3 + 2, none⟩ = some (.int .i64 m.b))

theorem LentI.below {w w' : World} {l : List In} {m : In} {v : Value} (h : LentI w l m v) (hb : Below w.heap.size w w') : LentI w' l m v := by
  obtain ⟨b, o, cap, h1, h2, h3, h4⟩ := h
  exact ⟨b, o, cap, h1, h2, fun j hj => ⟨below_cell hb (h3 j hj).1, below_cell hb (h3 j hj).2.1, below_cell hb (h3 j hj).2.2⟩, fun j hj hj' => ⟨below_cell hb (h4 j hj hj').1, below_cell hb (h4 j hj hj').2.1, below_cell hb (h4 j hj hj').2.2⟩⟩

theorem LentI.plain {w : World} {l : List In} {m : In} {v : Value} (h : LentI w l m v) : InSl w l v := by
  obtain ⟨b, o, cap, h1, -, h3, -⟩ := h
  exact ⟨_, _, h1, .inr ⟨b, o, rfl, h3⟩⟩

theorem info52 : (Tryd.prog.info? 27).map (fun i => (i.zero, i.size, i.bytes)) = some (some (.agg #[.int .i64 0, .int .i64 0, .int .i64 0]), 3, 24) := by kernel_rfl

def marksL (m : In) : List Value := [.int .i64 m.op, .int .i64 m.a, .int .i64 m.b, .int .i64 m.op, .int .i64 m.a, .int .i64 m.b, .int .i64 m.op, .int .i64 m.a, .int .i64 m.b]

theorem marks_at (m : In) (j : Nat) (h : j < 3) : (marksL m)[j * 3]? = some (.int .i64 m.op) ∧ (marksL m)[j * 3 + 1]? = some (.int .i64 m.a) ∧ (marksL m)[j * 3 + 2]? = some (.int .i64 m.b) := by
  have : j = 0 ∨ j = 1 ∨ j = 2 := by omega
  rcases this with rfl | rfl | rfl <;> exact ⟨rfl, rfl, rfl⟩

theorem LentI.of_own {w : World} {B g : Nat} {l : List In} {m : In} (h : w.ownsRow B 27 3 (.slice (some ⟨g, 0, none⟩) (l.length + 3) (l.length + 3)) (l.length + 3) (insVs l ++ marksL m)) : LentI w l m (.slice (some ⟨g, 0, none⟩) l.length (l.length + 3)) := by
  have hc : ∀ q u, (insVs l ++ marksL m)[q]? = some u → w.cell? ⟨g, 0 + q, none⟩ = some u := fun q u hq => by
    have hql := (List.getElem?_eq_some_iff.1 hq).1
    rw [List.length_append, insVs_length] at hql
    have h9 : (marksL m).length = 9 := rfl
    rw [Nat.zero_add]
    exact (h.cellAt q (by omega)).trans hq
  refine ⟨g, 0, l.length + 3, rfl, Nat.le_refl _, fun j hj => ?_, fun j hj hj' => ?_⟩
  · obtain ⟨a0, a1, a2⟩ := insVs_at l j hj
    have hl := insVs_length l
    refine ⟨hc (j * 3) _ ?_, hc (j * 3 + 1) _ ?_, hc (j * 3 + 2) _ ?_⟩
    · rw [List.getElem?_append_left (by omega)]; exact a0
    · rw [List.getElem?_append_left (by omega)]; exact a1
    · rw [List.getElem?_append_left (by omega)]; exact a2
  · obtain ⟨a0, a1, a2⟩ := marks_at m (j - l.length) (by omega)
    have hl := insVs_length l
    refine ⟨hc (j * 3) _ ?_, hc (j * 3 + 1) _ ?_, hc (j * 3 + 2) _ ?_⟩
    · rw [List.getElem?_append_right (by omega), hl, show j * 3 - l.length * 3 = (j - l.length) * 3 by omega]; exact a0
    · rw [List.getElem?_append_right (by omega), hl, show j * 3 + 1 - l.length * 3 = (j - l.length) * 3 + 1 by omega]; exact a1
    · rw [List.getElem?_append_right (by omega), hl, show j * 3 + 2 - l.length * 3 = (j - l.length) * 3 + 2 by omega]; exact a2

/-- An append that has room, as a step of a region. -/
theorem step_fits {P : Program} {ops : Array Oper} {o : Oper} {lst : List Value} {ds : List Deferred} {w : World} {K : Act → World → Prop} {Q : Exit → Act → World → Prop} {E : Prop} (hg : o.guard = none) (nd : Nat) (hnd : o.dst = some nd) (s x : Operand) (t : TypeId) (hop : o.op = Op.call { callee := Callee.builtin Builtin.append, args := #[s, x], argTypes := #[t, t] })
    (base : Nat) (e : TypeId) (i : TypeInfo) (size : Nat) (h1 : P.underlying t = some (.slice e)) (h2 : P.info? e = some i) (h4 : i.size = size)
    (g k cap : Nat) (xs : List Value) (hs : (Act.mk lst.toArray ds).eval s = .slice (some ⟨g, 0, none⟩) k cap) (hown : w.ownsRow base e size (.slice (some ⟨g, 0, none⟩) k cap) k xs) (ao : Option Addr) (m c : Nat) (news : List Value) (hx : (Act.mk lst.toArray ds).eval x = .slice ao m c) (hn : news.length = m * size)
    (hnone : ao = none → m = 0 ∧ c = 0) (hc : ∀ ad, ao = some ad → ∀ j u, news[j]? = some u → w.cell? (ad.add j) = some u) (h1c : ∀ u ∈ news, u.oneCell' = true) (b1 : k + m ≤ cap) (n' : Nat) (hn' : k + m = n') (ys : List Value) (hys : xs ++ news = ys)
    (hK : ∀ w', w'.ownsRow base e size (.slice (some ⟨g, 0, none⟩) n' cap) n' ys → w.grownBy w' (some g) → K ⟨(lst.set nd (.slice (some ⟨g, 0, none⟩) n' cap)).toArray, ds⟩ w') :
    if Region.wanted o (yielded ops (Act.mk lst.toArray ds).tmps) = true then Oper.wp P o ⟨lst.toArray, ds⟩ w K Q else E := by
  subst hn' hys
  have hw : Region.wanted o (yielded ops (Act.mk lst.toArray ds).tmps) = true := by simp [Region.wanted, hg]
  rw [if_pos hw]
  obtain ⟨w', hrun, ho, hgr⟩ : ∃ w', (Builtin.append_ #[t, t] o.type #[.slice (some ⟨g, 0, none⟩) k cap, .slice ao m c]).run P w = .ok (.slice (some ⟨g, 0, none⟩) (k + m) cap) w' ∧ w'.ownsRow base e size (.slice (some ⟨g, 0, none⟩) (k + m) cap) (k + m) (xs ++ news) ∧ w.grownBy w' (some g) := by
    cases ao with
    | some ad => exact run_append_fits w base t o.type e i size h1 h2 h4 g k cap xs hown ad m c news hn (hc ad rfl) h1c b1
    | none =>
      obtain ⟨rfl, rfl⟩ := hnone rfl
      have hnil : news = [] := List.eq_nil_of_length_eq_zero (by rw [hn]; omega)
      subst hnil
      exact ⟨w, run_append_owned_none w base t o.type e i size h1 h2 _ k xs hown, by simpa using hown, ⟨rfl, rfl, rfl, Nat.le_refl _, fun _ _ _ => rfl⟩⟩
  have hk2 := hK _ ho hgr
  have ep : Act.put ⟨lst.toArray, ds⟩ o.dst (.slice (some ⟨g, 0, none⟩) (k + m) cap) = ⟨(lst.set nd (.slice (some ⟨g, 0, none⟩) (k + m) cap)).toArray, ds⟩ := by rw [hnd]; simp [Act.put]
  rw [← ep] at hk2
  unfold Oper.wp
  simp [execOp, hop, resolve, invoke, builtin, hs, hx, hrun, Result.andThen]
  exact hk2

theorem InSl.arg {w w1 : World} {l : List In} {ad : Option Addr} {c : Nat} (h : InSl w l (.slice ad l.length c)) (hb : Below w.heap.size w w1) : ∀ ad', ad = some ad' → ∀ j u, (insVs l)[j]? = some u → w1.cell? (ad'.add j) = some u := by
  intro ad' hd j u hj
  have hjl : j < l.length * 3 := by have := (List.getElem?_eq_some_iff.1 hj).1; rwa [insVs_length] at this
  obtain ⟨ad2, c2, e, h2⟩ := h
  cases e
  rcases h2 with h2 | ⟨b, o, h2, h3⟩
  · subst h2; simp at hjl
  · rw [hd] at h2
    cases h2
    rw [Addr.add_lit]
    exact below_cell hb (insVs_cell h3 j u hj)

/-- make, with room, as an equation. -/
theorem make_ins (W : World) (n g : Nat) (hn : n ≤ 100003) (hg : W.heap.size = g) : ∃ w1, (Instr.makeSlice 22 (.int .i64 0) (.int .i64 ((n : Int) + 3))).run Tryd.prog W = .ok (.slice (some ⟨g, 0, none⟩) 0 (n + 3)) w1 ∧ w1.ownsRow g 27 3 (.slice (some ⟨g, 0, none⟩) 0 (n + 3)) 0 [] ∧ Below g W w1 ∧ g < w1.heap.size := by
  subst hg
  obtain ⟨i0, hi0, hz0, hz1, hz2⟩ := info_parts info52
  obtain ⟨w1, hrun, hown, hgr⟩ := run_make_own (P := Tryd.prog) W W.heap.size 22 27 i0 _ 3 Tryd.underlying22 hi0 hz0 hz1 .i64 .i64 (n + 3) (by rw [hz2]; omega) (by unfold maxLen; omega) (Nat.le_refl _)
  exact ⟨w1, hrun, hown, (Below.refl _ W).grown hgr (Nat.le_refl _) (by intro k hk; cases hk), (hown.lt _ rfl).2⟩

theorem marks_cells (W : World) (m : In) (g : Nat) (hg : W.heap.size = g) (q : Nat) (u : Value) (hq : (marksL m)[q]? = some u) : (W.alloc (.cells #[.int .i64 m.op, .int .i64 m.a, .int .i64 m.b, .int .i64 m.op, .int .i64 m.a, .int .i64 m.b, .int .i64 m.op, .int .i64 m.a, .int .i64 m.b] 27)).cell? ((⟨g, 0, none⟩ : Addr).add q) = some u := by
  subst hg
  rw [Addr.add_lit]
  have := (cells_of (l := marksL m) (heap_alloc_new W (.cells #[.int .i64 m.op, .int .i64 m.a, .int .i64 m.b, .int .i64 m.op, .int .i64 m.a, .int .i64 m.b, .int .i64 m.op, .int .i64 m.a, .int .i64 m.b] 27))).1 q u hq
  simpa using this

theorem marks_one (m : In) : ∀ u ∈ marksL m, u.oneCell' = true := by
  intro u hu
  simp only [marksL, List.mem_cons, List.not_mem_nil, or_false] at hu
  rcases hu with rfl | rfl | rfl | rfl | rfl | rfl | rfl | rfl | rfl <;> rfl

set_option maxRecDepth 20000 in
set_option maxHeartbeats 4000000 in
/-- Lend. -/
theorem Lend_any (w : World) (l : List In) (m : In) (ad : Option Addr) (c : Nat) (hl : l.length ≤ 100000) (h : InSl w l (.slice ad l.length c)) (hnil : ad = none → l.length = 0 ∧ c = 0) :
    Calls Tryd.prog 10 #[.slice ad l.length c, .agg #[.int .i64 m.op, .int .i64 m.a, .int .i64 m.b]] w fun r w' => ∃ u, r = .returned u ∧ LentI w' l m u ∧ Below w.heap.size w w' := by
  obtain ⟨i0, hi0, hz0, hz1, hz2⟩ := info_parts info52
  have hB0 : Below (w.heap.size + 1) (w.alloc (.cells #[.int .i64 m.op, .int .i64 m.a, .int .i64 m.b] 27)) ((w.alloc (.cells #[.int .i64 m.op, .int .i64 m.a, .int .i64 m.b] 27)).drew) := (Below.refl _ _).drew
  have hKeep : ∀ W, Below (w.heap.size + 1) (w.alloc (.cells #[.int .i64 m.op, .int .i64 m.a, .int .i64 m.b] 27)) W → W.cell? ⟨w.heap.size, 0, none⟩ = some (.int .i64 m.op) ∧ W.cell? ⟨w.heap.size, 1, none⟩ = some (.int .i64 m.a) ∧ W.cell? ⟨w.heap.size, 2, none⟩ = some (.int .i64 m.b) := fun W hb => ⟨(hb.cell (by show w.heap.size < w.heap.size + 1; omega)).trans (by go_simp), (hb.cell (by show w.heap.size < w.heap.size + 1; omega)).trans (by go_simp), (hb.cell (by show w.heap.size < w.heap.size + 1; omega)).trans (by go_simp)⟩
  have hA : ∀ W, Below (w.heap.size + 1) (w.alloc (.cells #[.int .i64 m.op, .int .i64 m.a, .int .i64 m.b] 27)) W → ∀ ad', ad = some ad' → ∀ j u, (insVs l)[j]? = some u → W.cell? (ad'.add j) = some u := fun W hb => h.arg ((below_new w (.cells #[.int .i64 m.op, .int .i64 m.a, .int .i64 m.b] 27)).trans (hb.mono (by omega)))
  obtain ⟨w1, hm1, ho1, hb1, hl1⟩ := make_ins ((w.alloc (.cells #[.int .i64 m.op, .int .i64 m.a, .int .i64 m.b] 27)).drew) l.length (w.heap.size + 1) (by omega) (by simp)
  obtain ⟨v1, hm2, ho2, hb2, hl2⟩ := make_ins (((w.alloc (.cells #[.int .i64 m.op, .int .i64 m.a, .int .i64 m.b] 27)).drew).alloc (.cells #[.int .i64 m.op, .int .i64 m.a, .int .i64 m.b, .int .i64 m.op, .int .i64 m.a, .int .i64 m.b, .int .i64 m.op, .int .i64 m.a, .int .i64 m.b] 27)) l.length (w.heap.size + 1 + 1) (by omega) (by simp)
  rw [show (((w.alloc (.cells #[.int .i64 m.op, .int .i64 m.a, .int .i64 m.b] 27)).drew).alloc (.cells #[.int .i64 m.op, .int .i64 m.a, .int .i64 m.b, .int .i64 m.op, .int .i64 m.a, .int .i64 m.b, .int .i64 m.op, .int .i64 m.a, .int .i64 m.b] 27)) = ((w.alloc (.cells #[.int .i64 m.op, .int .i64 m.a, .int .i64 m.b] 27)).alloc (.cells #[.int .i64 m.op, .int .i64 m.a, .int .i64 m.b, .int .i64 m.op, .int .i64 m.a, .int .i64 m.b, .int .i64 m.op, .int .i64 m.a, .int .i64 m.b] 27)).drew from rfl] at hm2
  have hBw1 : Below (w.heap.size + 1) (w.alloc (.cells #[.int .i64 m.op, .int .i64 m.a, .int .i64 m.b] 27)) w1 := hB0.trans hb1
  have hBv1 : Below (w.heap.size + 1) (w.alloc (.cells #[.int .i64 m.op, .int .i64 m.a, .int .i64 m.b] 27)) v1 := (hB0.alloc (by simp) (.cells #[.int .i64 m.op, .int .i64 m.a, .int .i64 m.b, .int .i64 m.op, .int .i64 m.a, .int .i64 m.b, .int .i64 m.op, .int .i64 m.a, .int .i64 m.b] 27)).trans (hb2.mono (by omega))
  have hmk2 : ∀ j u, (marksL m)[j]? = some u → v1.cell? ((⟨w.heap.size + 1, 0, none⟩ : Addr).add j) = some u := fun j u hj => (hb2.cell (by rw [Addr.add_lit]; show w.heap.size + 1 < w.heap.size + 1 + 1; omega)).trans (marks_cells ((w.alloc (.cells #[.int .i64 m.op, .int .i64 m.a, .int .i64 m.b] 27)).drew) m _ (by simp) j u hj)
  have hwr : IntKind.i64.wrap ((l.length : Int) + 3) = (l.length : Int) + 3 := by rw [IntKind.wrap_i64]; omega
  go_enter Tryd.func10, Tryd.ntmps10
  go_wp2_with fail
  refine wp_region_noPanic ?_
  refine wp_region_held_drew (S := fun w' => w'.cell? ⟨w.heap.size, 0, none⟩ = some (.int .i64 m.op) ∧ w'.cell? ⟨w.heap.size, 1, none⟩ = some (.int .i64 m.a) ∧ w'.cell? ⟨w.heap.size, 2, none⟩ = some (.int .i64 m.b)) (by kernel_rfl) (hKeep _ hB0) (fun hHeld => ?_)
  refine take_at (i := 0) (n := 6) (v := ?_) rfl rfl (by kernel_rfl) (by kernel_rfl) (by kernel_rfl) (fun _ _ _ h => h) (Or.inl ⟨by rfl, ?_⟩) (by assumption) ?_
  rotate_left 1
  · intro wz hSw
    first | (go_simp; done) | (go_simp; with_reducible rfl)
  simp only [List.set_cons_zero, List.set_cons_succ]
  refine take_at (i := 1) (n := 7) (v := ?_) rfl rfl (by kernel_rfl) (by kernel_rfl) (by kernel_rfl) (fun _ _ _ h => h) (Or.inl ⟨by rfl, ?_⟩) (by assumption) ?_
  rotate_left 1
  · intro wz hSw
    first | (go_simp; done) | (go_simp; with_reducible rfl)
  simp only [List.set_cons_zero, List.set_cons_succ]
  refine take_at (i := 2) (n := 8) (v := ?_) rfl rfl (by kernel_rfl) (by kernel_rfl) (by kernel_rfl) (fun _ _ _ h => h) (Or.inl ⟨by rfl, ?_⟩) (by assumption) ?_
  rotate_left 1
  · intro wz hSw
    first | (go_simp; done) | (go_simp; with_reducible rfl)
  simp only [List.set_cons_zero, List.set_cons_succ]
  refine take_at (i := 4) (n := 10) (v := ?_) rfl rfl (by kernel_rfl) (by kernel_rfl) (by kernel_rfl) (fun _ _ _ h => h) (Or.inl ⟨by rfl, ?_⟩) (by assumption) ?_
  rotate_left 1
  · intro wz hSw
    first | (go_simp; done) | (go_simp; with_reducible rfl)
  simp only [List.set_cons_zero, List.set_cons_succ]
  refine take_at (i := 6) (n := 12) (v := ?_) rfl rfl (by kernel_rfl) (by kernel_rfl) (by kernel_rfl) (fun _ _ _ h => h) (Or.inl ⟨by rfl, ?_⟩) (by assumption) ?_
  rotate_left 1
  · intro wz hSw
    first | (go_simp; done) | (go_simp; with_reducible rfl)
  simp only [List.set_cons_zero, List.set_cons_succ]
  refine take_at (i := 7) (n := 13) (v := ?_) rfl rfl (by kernel_rfl) (by kernel_rfl) (by kernel_rfl) (fun _ _ _ h => h) (Or.inl ⟨by rfl, ?_⟩) (by assumption) ?_
  rotate_left 1
  · intro wz hSw
    first | (go_simp; done) | (go_simp; with_reducible rfl)
  simp only [List.set_cons_zero, List.set_cons_succ]
  refine take_at (i := 8) (n := 14) (v := ?_) rfl rfl (by kernel_rfl) (by kernel_rfl) (by kernel_rfl) (fun _ _ _ h => h) (Or.inl ⟨by rfl, ?_⟩) (by assumption) ?_
  rotate_left 1
  · intro wz hSw
    first | (go_simp; done) | (go_simp; with_reducible rfl)
  simp only [List.set_cons_zero, List.set_cons_succ]
  refine wpAnyH_ready (rs := [3, 9]) (by kernel_rfl) (by simp) ?_
  refine AllReadyH.cons rfl (fun K hK => ?_) (AllReadyH.cons rfl (fun K hK => ?_) AllReadyH.nil)
  · go_simp
    refine hK.out _ _ (hKeep _ hBw1) (fun hHeld => ?_)
    clear hK K
    refine wpAnyH_ready (rs := [5, 9]) (by kernel_rfl) (by simp) ?_
    refine AllReadyH.cons rfl (fun K hK => ?_) (AllReadyH.cons rfl (fun K hK => ?_) AllReadyH.nil)
    · refine step_fits rfl 11 rfl (.tmp 9) (.tmp 10) 22 rfl (w.heap.size + 1) 27 i0 3 Tryd.underlying22 hi0 hz1 (w.heap.size + 1) (0) (l.length + 3) ([]) rfl ho1 (ad) (l.length) (c) (insVs l) rfl (insVs_length l) hnil (hA w1 hBw1) (fun u hu => insVs_one hu) (by omega) l.length (by omega) (insVs l) rfl ?_
      intro w2 how2 hgw2
      have hBw2 : Below (w.heap.size + 1) (w.alloc (.cells #[.int .i64 m.op, .int .i64 m.a, .int .i64 m.b] 27)) w2 := hBw1.grown hgw2 (by omega) (by intro q hq; cases hq; omega)
      have hszw2 := hgw2.size
      refine hK.out _ _ (hKeep _ hBw2) (fun hHeld => ?_)
      clear hK K
      simp only [List.set_cons_zero, List.set_cons_succ]
      refine wpAnyH_ready (rs := [9]) (by kernel_rfl) (by simp) ?_
      refine AllReadyH.cons rfl (fun K hK => ?_) AllReadyH.nil
      go_simp
      refine hK.out _ _ (hKeep _ (hBw2.alloc (by omega) _)) (fun hHeld => ?_)
      clear hK K
      refine wpAnyH_ready (rs := [10]) (by kernel_rfl) (by simp) ?_
      refine AllReadyH.cons rfl (fun K hK => ?_) AllReadyH.nil
      refine step_fits rfl 16 rfl (.tmp 11) (.tmp 15) 22 rfl (w.heap.size + 1) 27 i0 3 Tryd.underlying22 hi0 hz1 (w.heap.size + 1) l.length (l.length + 3) (insVs l) rfl (ownsRow_same how2 (fun k _ hk => (below_new w2 _).block k hk)) (some ⟨w2.heap.size, 0, none⟩) (3) (3) (marksL m) rfl rfl (by intro e; cases e) (by intro ad' e j u hj; cases e; exact marks_cells w2 m _ rfl j u hj) (marks_one m) (by omega) (l.length + 3) rfl (insVs l ++ marksL m) rfl ?_
      intro w3 how3 hgw3
      have hBw3 : Below (w.heap.size + 1) (w.alloc (.cells #[.int .i64 m.op, .int .i64 m.a, .int .i64 m.b] 27)) w3 := (hBw2.alloc (by omega) _).grown hgw3 (by simp; omega) (by intro q hq; cases hq; omega)
      have hszw3 := hgw3.size
      refine hK.out _ _ (hKeep _ hBw3) (fun hHeld => ?_)
      clear hK K
      simp only [List.set_cons_zero, List.set_cons_succ]
      refine take_at (i := 11) (n := 5) (v := ?_) rfl rfl (by kernel_rfl) (by kernel_rfl) (by kernel_rfl) (fun _ _ _ h => h) (Or.inl ⟨by rfl, ?_⟩) (by assumption) ?_
      rotate_left 1
      · intro wz hSw
        first | (go_simp; done) | (go_simp; with_reducible rfl)
      simp only [List.set_cons_zero, List.set_cons_succ]
      refine wpAnyH_done (by kernel_rfl) ?_ _
      refine NoPanic.normal ?_
      go_wp2_with fail
      go_ret
      refine ⟨_, rfl, LentI.of_own how3, (below_new w (.cells #[.int .i64 m.op, .int .i64 m.a, .int .i64 m.b] 27)).trans (hBw3.mono (by omega))⟩
    · go_simp
      refine hK.out _ _ (hKeep _ (hBw1.alloc (by omega) _)) (fun hHeld => ?_)
      clear hK K
      refine wpAnyH_ready (rs := [5]) (by kernel_rfl) (by simp) ?_
      refine AllReadyH.cons rfl (fun K hK => ?_) AllReadyH.nil
      refine step_fits rfl 11 rfl (.tmp 9) (.tmp 10) 22 rfl (w.heap.size + 1) 27 i0 3 Tryd.underlying22 hi0 hz1 (w.heap.size + 1) (0) (l.length + 3) ([]) rfl (ownsRow_same ho1 (fun k _ hk => (below_new w1 _).block k hk)) (ad) (l.length) (c) (insVs l) rfl (insVs_length l) hnil (hA (w1.alloc (.cells #[.int .i64 m.op, .int .i64 m.a, .int .i64 m.b, .int .i64 m.op, .int .i64 m.a, .int .i64 m.b, .int .i64 m.op, .int .i64 m.a, .int .i64 m.b] 27)) (hBw1.alloc (by omega) _)) (fun u hu => insVs_one hu) (by omega) l.length (by omega) (insVs l) rfl ?_
      intro w2 how2 hgw2
      have hBw2 : Below (w.heap.size + 1) (w.alloc (.cells #[.int .i64 m.op, .int .i64 m.a, .int .i64 m.b] 27)) w2 := (hBw1.alloc (by omega) _).grown hgw2 (by simp; omega) (by intro q hq; cases hq; omega)
      have hszw2 := hgw2.size
      refine hK.out _ _ (hKeep _ hBw2) (fun hHeld => ?_)
      clear hK K
      simp only [List.set_cons_zero, List.set_cons_succ]
      refine wpAnyH_ready (rs := [10]) (by kernel_rfl) (by simp) ?_
      refine AllReadyH.cons rfl (fun K hK => ?_) AllReadyH.nil
      refine step_fits rfl 16 rfl (.tmp 11) (.tmp 15) 22 rfl (w.heap.size + 1) 27 i0 3 Tryd.underlying22 hi0 hz1 (w.heap.size + 1) l.length (l.length + 3) (insVs l) rfl how2 (some ⟨w1.heap.size, 0, none⟩) (3) (3) (marksL m) rfl rfl (by intro e; cases e) (by intro ad' e j u hj; cases e; exact (hgw2.cell (marks_cells w1 m _ rfl j u hj) (by first | (simp [Addr.add_lit]; done) | (simp [Addr.add_lit]; omega)))) (marks_one m) (by omega) (l.length + 3) rfl (insVs l ++ marksL m) rfl ?_
      intro w3 how3 hgw3
      have hBw3 : Below (w.heap.size + 1) (w.alloc (.cells #[.int .i64 m.op, .int .i64 m.a, .int .i64 m.b] 27)) w3 := hBw2.grown hgw3 (by simp at hszw2; omega) (by intro q hq; cases hq; omega)
      have hszw3 := hgw3.size
      refine hK.out _ _ (hKeep _ hBw3) (fun hHeld => ?_)
      clear hK K
      simp only [List.set_cons_zero, List.set_cons_succ]
      refine take_at (i := 11) (n := 5) (v := ?_) rfl rfl (by kernel_rfl) (by kernel_rfl) (by kernel_rfl) (fun _ _ _ h => h) (Or.inl ⟨by rfl, ?_⟩) (by assumption) ?_
      rotate_left 1
      · intro wz hSw
        first | (go_simp; done) | (go_simp; with_reducible rfl)
      simp only [List.set_cons_zero, List.set_cons_succ]
      refine wpAnyH_done (by kernel_rfl) ?_ _
      refine NoPanic.normal ?_
      go_wp2_with fail
      go_ret
      refine ⟨_, rfl, LentI.of_own how3, (below_new w (.cells #[.int .i64 m.op, .int .i64 m.a, .int .i64 m.b] 27)).trans (hBw3.mono (by omega))⟩
  · go_simp
    refine hK.out _ _ (hKeep _ (hB0.alloc (by simp) _)) (fun hHeld => ?_)
    clear hK K
    refine wpAnyH_ready (rs := [3]) (by kernel_rfl) (by simp) ?_
    refine AllReadyH.cons rfl (fun K hK => ?_) AllReadyH.nil
    go_simp
    refine hK.out _ _ (hKeep _ hBv1) (fun hHeld => ?_)
    clear hK K
    refine wpAnyH_ready (rs := [5]) (by kernel_rfl) (by simp) ?_
    refine AllReadyH.cons rfl (fun K hK => ?_) AllReadyH.nil
    refine step_fits rfl 11 rfl (.tmp 9) (.tmp 10) 22 rfl (w.heap.size + 1 + 1) 27 i0 3 Tryd.underlying22 hi0 hz1 (w.heap.size + 1 + 1) (0) (l.length + 3) ([]) rfl ho2 (ad) (l.length) (c) (insVs l) rfl (insVs_length l) hnil (hA v1 hBv1) (fun u hu => insVs_one hu) (by omega) l.length (by omega) (insVs l) rfl ?_
    intro w2 how2 hgw2
    have hBw2 : Below (w.heap.size + 1) (w.alloc (.cells #[.int .i64 m.op, .int .i64 m.a, .int .i64 m.b] 27)) w2 := hBv1.grown hgw2 (by omega) (by intro q hq; cases hq; omega)
    have hszw2 := hgw2.size
    refine hK.out _ _ (hKeep _ hBw2) (fun hHeld => ?_)
    clear hK K
    simp only [List.set_cons_zero, List.set_cons_succ]
    refine wpAnyH_ready (rs := [10]) (by kernel_rfl) (by simp) ?_
    refine AllReadyH.cons rfl (fun K hK => ?_) AllReadyH.nil
    refine step_fits rfl 16 rfl (.tmp 11) (.tmp 15) 22 rfl (w.heap.size + 1 + 1) 27 i0 3 Tryd.underlying22 hi0 hz1 (w.heap.size + 1 + 1) l.length (l.length + 3) (insVs l) rfl how2 (some ⟨w.heap.size + 1, 0, none⟩) (3) (3) (marksL m) rfl rfl (by intro e; cases e) (by intro ad' e j u hj; cases e; exact (hgw2.cell (hmk2 j u hj) (by first | (simp [Addr.add_lit]; done) | (simp [Addr.add_lit]; omega)))) (marks_one m) (by omega) (l.length + 3) rfl (insVs l ++ marksL m) rfl ?_
    intro w3 how3 hgw3
    have hBw3 : Below (w.heap.size + 1) (w.alloc (.cells #[.int .i64 m.op, .int .i64 m.a, .int .i64 m.b] 27)) w3 := hBw2.grown hgw3 (by omega) (by intro q hq; cases hq; omega)
    have hszw3 := hgw3.size
    refine hK.out _ _ (hKeep _ hBw3) (fun hHeld => ?_)
    clear hK K
    simp only [List.set_cons_zero, List.set_cons_succ]
    refine take_at (i := 11) (n := 5) (v := ?_) rfl rfl (by kernel_rfl) (by kernel_rfl) (by kernel_rfl) (fun _ _ _ h => h) (Or.inl ⟨by rfl, ?_⟩) (by assumption) ?_
    rotate_left 1
    · intro wz hSw
      first | (go_simp; done) | (go_simp; with_reducible rfl)
    simp only [List.set_cons_zero, List.set_cons_succ]
    refine wpAnyH_done (by kernel_rfl) ?_ _
    refine NoPanic.normal ?_
    go_wp2_with fail
    go_ret
    refine ⟨_, rfl, LentI.of_own how3, (below_new w (.cells #[.int .i64 m.op, .int .i64 m.a, .int .i64 m.b] 27)).trans (hBw3.mono (by omega))⟩
end Go.Proofs.YtcmoehednkaehadDoor
