import Derived.Test.YtibcbdihphbfeacDoorGMDoA
import Derived.Test.YtibcbdihphbfeacDoorGMDoB
import Derived.Test.YtibcbdihphbfeacDoorGMDoC
import Derived.Test.YtibcbdihphbfeacDoorGMDoD
import Derived.Test.YtibcbdihphbfeacDoorGMDoE
import Derived.Test.YtibcbdihphbfeacDoorGMDoF
import Derived.Test.YtibcbdihphbfeacDoorGMDoG
import Derived.Test.YtibcbdihphbfeacDoorGMCost
import Derived.Test.YtibcbdihphbfeacDoorGMOver
import Derived.Laws.MakeOwn
import Derived.Lib.SliceRun
import Derived.OwnWalk
namespace Go.Proofs.YtibcbdihphbfeacDoor
open Go.ChangeShapes Go.WideShapes Go.ChangeAt Go.RowKit
theorem do_any (w : World) (mb B : Nat) (l : List In) (iv ov : Value) (ins : List Int) (sp : Int) (s : MS) (sv pv : Value) (x : In) (h : MM w mb B l iv ov ins sp s sv pv) (hf : formErr x = 0) (ht : takesOf x.op.toNat ≤ (s.st.length : Int)) (hl : s.st.length ≤ 1000) (hpc : s.pc ≤ 1000000) (hps : s.ps.length ≤ 4000000) (hc : ∀ j, 0 ≤ s.cs.getD j 0 ∧ s.cs.getD j 0 ≤ 1000) :
  Calls Tryd.prog 43 #[.pointer (some ⟨mb, 0, none⟩), x.val] w (Does w mb B l iv ov ins sp s sv pv x) := by
 obtain ⟨h1, h2, -⟩ := form_op hf
 obtain ⟨ha, h7, h3, -, -, -, -, hb, -⟩ := form_a hf
 obtain ⟨op, a, b⟩ := x
 dsimp only at h1 h2 ha h7 h3 hb ht
 obtain ⟨m, rfl⟩ : ∃ m : Nat, a = m := ⟨a.toNat, by omega⟩
 obtain ⟨t, rfl⟩ : ∃ t : Nat, b = t := ⟨b.toNat, by omega⟩
 show Calls Tryd.prog 43 #[.pointer (some ⟨mb, 0, none⟩), .agg #[.int .i64 op, .int .i64 m, .int .i64 t]] w _
 have tk1 : ∀ q : Nat, takesOf q = 1 → takesOf q ≤ (s.st.length : Int) → ∃ n, s.st.length = n + 1 := fun q e h => ⟨s.st.length - 1, by omega⟩
 have tk2 : ∀ q : Nat, takesOf q = 2 → takesOf q ≤ (s.st.length : Int) → ∃ n, s.st.length = n + 2 := fun q e h => ⟨s.st.length - 2, by omega⟩
 rcases eighteen h1 h2 with e | e | e | e | e | e | e | e | e | e | e | e | e | e | e | e | e | e <;> subst e
 ·exact do_1 w mb B l iv ov ins sp s sv pv _ _ h hl hpc
 ·exact do_2 w mb B l iv ov ins sp s sv pv m _ h hl hpc (by have := h7 (by omega); omega)
 ·obtain ⟨n, hn⟩ := tk1 _ (by decide) ht
  exact do_3 w mb B l iv ov ins sp s sv pv m _ n h hl hpc (by have := h7 (by omega); omega) hn
 ·obtain ⟨n, hn⟩ := tk2 _ (by decide) ht
  exact do_4 w mb B l iv ov ins sp s sv pv _ _ n h hl hpc hn
 ·obtain ⟨n, hn⟩ := tk2 _ (by decide) ht
  exact do_5 w mb B l iv ov ins sp s sv pv _ _ n h hl hpc hn
 ·obtain ⟨n, hn⟩ := tk2 _ (by decide) ht
  exact do_6 w mb B l iv ov ins sp s sv pv _ _ n h hl hpc hn
 ·obtain ⟨n, hn⟩ := tk2 _ (by decide) ht
  exact do_7 w mb B l iv ov ins sp s sv pv _ _ n h hl hpc hn
 ·obtain ⟨n, hn⟩ := tk2 _ (by decide) ht
  exact do_8 w mb B l iv ov ins sp s sv pv _ _ n h hl hpc hn
 ·exact do_9 w mb B l iv ov ins sp s sv pv m _ h hl hpc (by have := h3 (by omega); omega)
 ·obtain ⟨n, hn⟩ := tk1 _ (by decide) ht
  exact do_10 w mb B l iv ov ins sp s sv pv m _ n h hl hpc hn hps
 ·exact do_11 w mb B l iv ov ins sp s sv pv m _ h hl hpc
 ·obtain ⟨n, hn⟩ := tk1 _ (by decide) ht
  by_cases hz : s.top = 0
  ·exact do_12t w mb B l iv ov ins sp s sv pv m _ n h hl hpc hn hz
  ·exact do_12f w mb B l iv ov ins sp s sv pv _ _ n h hl hpc hn hz
 ·exact do_13 w mb B l iv ov ins sp s sv pv m _ h hl hpc (by have := h7 (by omega); omega)
 ·have hm : m < 8 := by have := h7 (by omega); omega
  have hcm := hc m
  by_cases hz : s.cs.getD m 0 = 0
  ·exact do_14f w mb B l iv ov ins sp s sv pv m _ h hl hpc hm hz
  ·exact do_14t w mb B l iv ov ins sp s sv pv m t _ h hl hpc hm rfl (by omega) hcm.2
 ·exact do_15 w mb B l iv ov ins sp s sv pv m _ h hl hpc (by have := h7 (by omega); omega)
 ·exact do_16 w mb B l iv ov ins sp s sv pv _ _ h hl hpc
 ·exact do_17 w mb B l iv ov ins sp s sv pv _ _ h hl hpc
 ·exact do_18 w mb B l iv ov ins sp s sv pv _ _ h hl hpc
def insVs : List In → List Value
 | [] => []
 | x :: t => .int .i64 x.op :: .int .i64 x.a :: .int .i64 x.b :: insVs t
theorem insVs_length (l : List In) : (insVs l).length = l.length * 3 := by
 induction l with
 | nil => rfl
 | cons x t ih => simp only [insVs, List.length_cons, ih]; omega
theorem insVs_at : ∀ (l : List In) (j : Nat), j < l.length → (insVs l)[j * 3]? = some (.int .i64 (l.getD j in0).op) ∧ (insVs l)[j * 3 + 1]? = some (.int .i64 (l.getD j in0).a) ∧ (insVs l)[j * 3 + 2]? = some (.int .i64 (l.getD j in0).b)
 | [], j, h => by simp at h
 | x :: t, 0, _ => ⟨rfl, rfl, rfl⟩
 | x :: t, j + 1, h => by
  have := insVs_at t j (by simpa using h)
  rw [insVs, show (j + 1) * 3 = j * 3 + 1 + 1 + 1 by omega, show j * 3 + 1 + 1 + 1 + 1 = (j * 3 + 1) + 1 + 1 + 1 by omega, show j * 3 + 1 + 1 + 1 + 2 = (j * 3 + 2) + 1 + 1 + 1 by omega]
  simpa using this
theorem insVs_one {l : List In} {u : Value} (h : u ∈ insVs l) : u.oneCell' = true := by
 induction l with
 | nil => simp [insVs] at h
 | cons x t ih =>
  simp only [insVs, List.mem_cons] at h
  rcases h with rfl | rfl | rfl | h
  ·rfl
  ·rfl
  ·rfl
  ·exact ih h
theorem insVs_cell {w : World} {l : List In} {b o : Nat} (h : ∀ j, j < l.length → w.cell? ⟨b, o + j * 3, none⟩ = some (.int .i64 (l.getD j in0).op) ∧ w.cell? ⟨b, o + j * 3 + 1, none⟩ = some (.int .i64 (l.getD j in0).a) ∧ w.cell? ⟨b, o + j * 3 + 2, none⟩ = some (.int .i64 (l.getD j in0).b)) (q : Nat) (u : Value) (hq : (insVs l)[q]? = some u) : w.cell? ⟨b, o + q, none⟩ = some u := by
 have hql : q < l.length * 3 := by have := (List.getElem?_eq_some_iff.1 hq).1; rwa [insVs_length] at this
 have hj : q / 3 < l.length := by omega
 obtain ⟨a0, a1, a2⟩ := insVs_at l (q / 3) hj
 obtain ⟨c0, c1, c2⟩ := h (q / 3) hj
 have e : q = q / 3 * 3 ∨ q = q / 3 * 3 + 1 ∨ q = q / 3 * 3 + 2 := by omega
 rcases e with e | e | e
 ·rw [e] at hq ⊢; rw [a0] at hq; rw [← hq]; exact c0
 ·rw [e] at hq ⊢; rw [a1] at hq; rw [← hq, ← Nat.add_assoc]; exact c1
 ·rw [e] at hq ⊢; rw [a2] at hq; rw [← hq, ← Nat.add_assoc]; exact c2
def LentI (w : World) (l : List In) (m : In) (v : Value) : Prop := ∃ b o cap, v = .slice (some ⟨b, o, none⟩) l.length cap ∧ l.length + 3 ≤ cap ∧ (∀ j, j < l.length → w.cell? ⟨b, o + j * 3, none⟩ = some (.int .i64 (l.getD j in0).op) ∧ w.cell? ⟨b, o + j * 3 + 1, none⟩ = some (.int .i64 (l.getD j in0).a) ∧ w.cell? ⟨b, o + j * 3 + 2, none⟩ = some (.int .i64 (l.getD j in0).b)) ∧ (∀ j, l.length ≤ j → j < l.length + 3 → w.cell? ⟨b, o + j * 3, none⟩ = some (.int .i64 m.op) ∧ w.cell? ⟨b, o + j * 3 + 1, none⟩ = some (.int .i64 m.a) ∧ w.cell? ⟨b, o + j * 3 + 2, none⟩ = some (.int .i64 m.b))
theorem LentI.below {w w' : World} {l : List In} {m : In} {v : Value} (h : LentI w l m v) (hb : Below w.heap.size w w') : LentI w' l m v := by
 obtain ⟨b, o, cap, h1, h2, h3, h4⟩ := h
 exact ⟨b, o, cap, h1, h2, fun j hj => ⟨below_cell hb (h3 j hj).1, below_cell hb (h3 j hj).2.1, below_cell hb (h3 j hj).2.2⟩, fun j hj hj' => ⟨below_cell hb (h4 j hj hj').1, below_cell hb (h4 j hj hj').2.1, below_cell hb (h4 j hj hj').2.2⟩⟩
theorem LentI.plain {w : World} {l : List In} {m : In} {v : Value} (h : LentI w l m v) : InSl w l v := by
 obtain ⟨b, o, cap, h1, -, h3, -⟩ := h
 exact ⟨_, _, h1, .inr ⟨b, o, rfl, h3⟩⟩
theorem info52 : (Tryd.prog.info? 35).map (fun i => (i.zero, i.size, i.bytes)) = some (some (.agg #[.int .i64 0, .int .i64 0, .int .i64 0]), 3, 24) := by kernel_rfl
def marksL (m : In) : List Value := [.int .i64 m.op, .int .i64 m.a, .int .i64 m.b, .int .i64 m.op, .int .i64 m.a, .int .i64 m.b, .int .i64 m.op, .int .i64 m.a, .int .i64 m.b]
theorem marks_at (m : In) (j : Nat) (h : j < 3) : (marksL m)[j * 3]? = some (.int .i64 m.op) ∧ (marksL m)[j * 3 + 1]? = some (.int .i64 m.a) ∧ (marksL m)[j * 3 + 2]? = some (.int .i64 m.b) := by
 have : j = 0 ∨ j = 1 ∨ j = 2 := by omega
 rcases this with rfl | rfl | rfl <;> exact ⟨rfl, rfl, rfl⟩
theorem LentI.of_own {w : World} {B g : Nat} {l : List In} {m : In} (h : w.ownsRow B 35 3 (.slice (some ⟨g, 0, none⟩) (l.length + 3) (l.length + 3)) (l.length + 3) (insVs l ++ marksL m)) : LentI w l m (.slice (some ⟨g, 0, none⟩) l.length (l.length + 3)) := by
 have hc : ∀ q u, (insVs l ++ marksL m)[q]? = some u → w.cell? ⟨g, 0 + q, none⟩ = some u := fun q u hq => by
  have hql := (List.getElem?_eq_some_iff.1 hq).1
  rw [List.length_append, insVs_length] at hql
  have h9 : (marksL m).length = 9 := rfl
  rw [Nat.zero_add]
  exact (h.cellAt q (by omega)).trans hq
 refine ⟨g, 0, l.length + 3, rfl, Nat.le_refl _, fun j hj => ?_, fun j hj hj' => ?_⟩
 ·obtain ⟨a0, a1, a2⟩ := insVs_at l j hj
  have hl := insVs_length l
  refine ⟨hc (j * 3) _ ?_, hc (j * 3 + 1) _ ?_, hc (j * 3 + 2) _ ?_⟩
  ·rw [List.getElem?_append_left (by omega)]; exact a0
  ·rw [List.getElem?_append_left (by omega)]; exact a1
  ·rw [List.getElem?_append_left (by omega)]; exact a2
 ·obtain ⟨a0, a1, a2⟩ := marks_at m (j - l.length) (by omega)
  have hl := insVs_length l
  refine ⟨hc (j * 3) _ ?_, hc (j * 3 + 1) _ ?_, hc (j * 3 + 2) _ ?_⟩
  ·rw [List.getElem?_append_right (by omega), hl, show j * 3 - l.length * 3 = (j - l.length) * 3 by omega]; exact a0
  ·rw [List.getElem?_append_right (by omega), hl, show j * 3 + 1 - l.length * 3 = (j - l.length) * 3 + 1 by omega]; exact a1
  ·rw [List.getElem?_append_right (by omega), hl, show j * 3 + 2 - l.length * 3 = (j - l.length) * 3 + 2 by omega]; exact a2
theorem step_fits {P : Program} {ops : Array Oper} {o : Oper} {lst : List Value} {ds : List Deferred} {w : World} {K : Act → World → Prop} {Q : Exit → Act → World → Prop} {E : Prop} (hg : o.guard = none) (nd : Nat) (hnd : o.dst = some nd) (s x : Operand) (t : TypeId) (hop : o.op = Op.call { callee := Callee.builtin Builtin.append, args := #[s, x], argTypes := #[t, t] })
  (base : Nat) (e : TypeId) (i : TypeInfo) (size : Nat) (h1 : P.underlying t = some (.slice e)) (h2 : P.info? e = some i) (h4 : i.size = size)
  (g k cap : Nat) (xs : List Value) (hs : (Act.mk lst.toArray ds).eval s = .slice (some ⟨g, 0, none⟩) k cap) (hown : w.ownsRow base e size (.slice (some ⟨g, 0, none⟩) k cap) k xs) (ao : Option Addr) (m c : Nat) (news : List Value) (hx : (Act.mk lst.toArray ds).eval x = .slice ao m c) (hn : news.length = m * size)
  (hnone : ao = none → m = 0 ∧ c = 0) (hc : ∀ ad, ao = some ad → ∀ j u, news[j]? = some u → w.cell? (ad.add j) = some u) (h1c : ∀ u ∈ news, u.oneCell' = true) (b1 : k + m ≤ cap) (n' : Nat) (hn' : k + m = n') (ys : List Value) (hys : xs ++ news = ys)
  (hK : ∀ w', w'.ownsRow base e size (.slice (some ⟨g, 0, none⟩) n' cap) n' ys → w.grownBy w' (some g) → K ⟨(lst.set nd (.slice (some ⟨g, 0, none⟩) n' cap)).toArray, ds⟩ w') :
  if Region.wanted o (yielded ops (Act.mk lst.toArray ds).tmps) = true then Oper.wp P o ⟨lst.toArray, ds⟩ w K Q else E := by
 subst hn' hys
 have hw : Region.wanted o (yielded ops (Act.mk lst.toArray ds).tmps) = true := by simp [Region.wanted, hg]
 rw [if_pos hw]
 obtain ⟨w', hrun, ho, hgr⟩ : ∃ w', (Builtin.append_ #[t, t] o.type #[.slice (some ⟨g, 0, none⟩) k cap, .slice ao m c]).run P w = .ok (.slice (some ⟨g, 0, none⟩) (k + m) cap) w' ∧ w'.ownsRow base e size (.slice (some ⟨g, 0, none⟩) (k + m) cap) (k + m) (xs ++ news) ∧ w.grownBy w' (some g) := by
  cases ao with
  | some ad => exact run_append_fits w base t o.type e i size h1 h2 h4 g k cap xs hown ad m c news hn (hc ad rfl) h1c b1
  | none =>
   obtain ⟨rfl, rfl⟩ := hnone rfl
   have hnil : news = [] := List.eq_nil_of_length_eq_zero (by rw [hn]; omega)
   subst hnil
   exact ⟨w, run_append_owned_none w base t o.type e i size h1 h2 _ k xs hown, by simpa using hown, ⟨rfl, rfl, rfl, Nat.le_refl _, fun _ _ _ => rfl⟩⟩
 have hk2 := hK _ ho hgr
 have ep : Act.put ⟨lst.toArray, ds⟩ o.dst (.slice (some ⟨g, 0, none⟩) (k + m) cap) = ⟨(lst.set nd (.slice (some ⟨g, 0, none⟩) (k + m) cap)).toArray, ds⟩ := by rw [hnd]; simp [Act.put]
 rw [← ep] at hk2
 unfold Oper.wp
 simp [execOp, hop, resolve, invoke, builtin, hs, hx, hrun, Result.andThen]
 exact hk2
theorem InSl.arg {w w1 : World} {l : List In} {ad : Option Addr} {c : Nat} (h : InSl w l (.slice ad l.length c)) (hb : Below w.heap.size w w1) : ∀ ad', ad = some ad' → ∀ j u, (insVs l)[j]? = some u → w1.cell? (ad'.add j) = some u := by
 intro ad' hd j u hj
 have hjl : j < l.length * 3 := by have := (List.getElem?_eq_some_iff.1 hj).1; rwa [insVs_length] at this
 obtain ⟨ad2, c2, e, h2⟩ := h
 cases e
 rcases h2 with h2 | ⟨b, o, h2, h3⟩
 ·subst h2; simp at hjl
 ·rw [hd] at h2
  cases h2
  rw [Addr.add_lit]
  exact below_cell hb (insVs_cell h3 j u hj)
theorem make_ins (W : World) (n g : Nat) (hn : n ≤ 100003) (hg : W.heap.size = g) : ∃ w1, (Instr.makeSlice 22 (.int .i64 0) (.int .i64 ((n : Int) + 3))).run Tryd.prog W = .ok (.slice (some ⟨g, 0, none⟩) 0 (n + 3)) w1 ∧ w1.ownsRow g 35 3 (.slice (some ⟨g, 0, none⟩) 0 (n + 3)) 0 [] ∧ Below g W w1 ∧ g < w1.heap.size := by
 subst hg
 obtain ⟨i0, hi0, hz0, hz1, hz2⟩ := info_parts info52
 obtain ⟨w1, hrun, hown, hgr⟩ := run_make_own (P := Tryd.prog) W W.heap.size 22 35 i0 _ 3 Tryd.underlying22 hi0 hz0 hz1 .i64 .i64 (n + 3) (by rw [hz2]; omega) (by unfold maxLen; omega) (Nat.le_refl _)
 exact ⟨w1, hrun, hown, (Below.refl _ W).grown hgr (Nat.le_refl _) (by intro k hk; cases hk), (hown.lt _ rfl).2⟩
theorem marks_cells (W : World) (m : In) (g : Nat) (hg : W.heap.size = g) (q : Nat) (u : Value) (hq : (marksL m)[q]? = some u) : (W.alloc (.cells #[.int .i64 m.op, .int .i64 m.a, .int .i64 m.b, .int .i64 m.op, .int .i64 m.a, .int .i64 m.b, .int .i64 m.op, .int .i64 m.a, .int .i64 m.b] 35)).cell? ((⟨g, 0, none⟩ : Addr).add q) = some u := by
 subst hg
 rw [Addr.add_lit]
 have := (cells_of (l := marksL m) (heap_alloc_new W (.cells #[.int .i64 m.op, .int .i64 m.a, .int .i64 m.b, .int .i64 m.op, .int .i64 m.a, .int .i64 m.b, .int .i64 m.op, .int .i64 m.a, .int .i64 m.b] 35))).1 q u hq
 simpa using this
theorem marks_one (m : In) : ∀ u ∈ marksL m, u.oneCell' = true := by
 intro u hu
 simp only [marksL, List.mem_cons, List.not_mem_nil, or_false] at hu
 rcases hu with rfl | rfl | rfl | rfl | rfl | rfl | rfl | rfl | rfl <;> rfl
theorem append_mine {P : Program} (w : World) {ops : Array Oper} {rest : List Oper} {o : Oper} {a : Act} {Q : Exit → Act → World → Prop}
  (hg : o.guard = none) (s x : Operand) (t : TypeId) (hop : o.op = Op.call { callee := Callee.builtin Builtin.append, args := #[s, x], argTypes := #[t, t] })
  (base : Nat) (e : TypeId) (i : TypeInfo) (z : Value) (size bytes : Nat) (h1 : P.underlying t = some (.slice e)) (h2 : P.info? e = some i) (h3 : i.zero = some z) (h4 : i.size = size) (h5 : i.bytes = bytes) (h6 : z.cells.size = size) (h7 : 0 < size)
  (v : Value) (n : Nat) (xs : List Value) (hs : a.eval s = v) (hown : w.ownsRow base e size v n xs)
  (ad : Addr) (m c : Nat) (news : List Value) (hx : a.eval x = .slice (some ad) m c) (hn : news.length = m * size) (hc : ∀ j u, news[j]? = some u → w.cell? (ad.add j) = some u) (h1c : ∀ u ∈ news, u.oneCell' = true)
  (hm : 0 < m) (b1 : n + m ≤ maxLen) (b2 : (n + m) * bytes ≤ 140737488355328) (hbase : base ≤ w.heap.size)
  (hK : ∀ v' w', w'.ownsRow base e size v' (n + m) (xs ++ news) → w.grownBy w' v.ownBlock → (v'.ownBlock = v.ownBlock ∨ ∀ k, v'.ownBlock = some k → w.heap.size ≤ k) → wpList P ops Q rest (a.put o.dst v') w') :
  wpList P ops Q (o :: rest) a w := by
 have up : ∀ v' w', w'.ownsRow w.heap.size e size v' (n + m) (xs ++ news) → w.grownBy w' none → wpList P ops Q rest (a.put o.dst v') w' := by
  intro v' w' ho hgr
  refine hK v' w' ?_ ⟨hgr.os, hgr.tape, hgr.output, hgr.size, fun k hk _ => hgr.block k hk (by simp)⟩ (.inr fun k hk => (ho.lt k hk).1)
  obtain ⟨q1, q2⟩ := ho
  refine ⟨q1, ?_⟩
  rcases q2 with q2 | ⟨g, cap, cur, hv, hb, r⟩
  ·exact .inl q2
  ·exact .inr ⟨g, cap, cur, hv, Nat.le_trans hbase hb, r⟩
 have hown' := hown
 obtain ⟨hl, ho⟩ := hown
 rcases ho with ⟨rfl, rfl⟩ | ⟨g, cap, cur, rfl, hb, hgg, hcap, hcm, hcs, htk⟩
 ·have hxs : xs = [] := List.eq_nil_of_length_eq_zero (by simpa using hl)
  subst hxs
  exact wpList_append_grows w hg s x t hop e i z size bytes h1 h2 h3 h4 h5 h6 h7 none 0 0 [] hs (fun _ => ⟨rfl, rfl⟩) (by simp) (fun b hb => by cases hb) ad m c news hx hn hc h1c (by omega) b1 b2 up
 ·by_cases hr : n + m ≤ cap
  ·exact wpList_append_fits w hg s x t hop base e i size h1 h2 h4 g n cap xs hs hown' ad m c news hx hn hc h1c hr fun w' q1 q2 => hK _ w' q1 q2 (.inl rfl)
  ·exact wpList_append_grows w hg s x t hop e i z size bytes h1 h2 h3 h4 h5 h6 h7 (some ⟨g, 0, none⟩) n cap xs hs (fun h => by cases h) hl (fun b hb' => by cases hb'; exact hown'.cells rfl) ad m c news hx hn hc h1c (by omega) b1 b2 up
theorem InSl.of_own {w : World} {B : Nat} {v : Value} {l : List In} (h : w.ownsRow B 35 3 v l.length (insVs l)) : InSl w l v ∧ ∀ ad n c, v = .slice (some ad) n c → B ≤ ad.block ∧ ad.block < w.heap.size := by
 obtain ⟨ad, cap, rfl⟩ := owns_value h
 have h' := h
 obtain ⟨-, ⟨e, he⟩ | ⟨g, cap', cur, e, hB, hg, -, -, -, ht⟩⟩ := h'
 ·have hl0 : l = [] := List.length_eq_zero_iff.1 he
  subst hl0
  simp only [Value.slice.injEq] at e
  obtain ⟨rfl, -, rfl⟩ := e
  exact ⟨⟨_, _, rfl, .inl rfl⟩, fun ad n c e => by cases e⟩
 ·simp only [Value.slice.injEq] at e
  obtain ⟨rfl, -, rfl⟩ := e
  refine ⟨⟨_, _, rfl, .inr ⟨g, 0, rfl, fun j hj => ?_⟩⟩, fun ad n c e => by cases e; exact ⟨hB, (Array.getElem?_eq_some_iff.1 hg).1⟩⟩
  obtain ⟨h0, h1, h2⟩ := insVs_at l j hj
  rw [Nat.zero_add]
  exact ⟨(h.cellAt (j * 3) (by omega)).trans h0, (h.cellAt (j * 3 + 1) (by omega)).trans h1, (h.cellAt (j * 3 + 2) (by omega)).trans h2⟩
set_option maxRecDepth 20000 in
set_option maxHeartbeats 2000000 in
theorem cloneI_any (w : World) (l : List In) (ad : Option Addr) (c : Nat) (hl : l.length ≤ 100000) (h : InSl w l (.slice ad l.length c)) (hnil : ad = none → l.length = 0 ∧ c = 0) :
  Calls Tryd.prog 46 #[.slice ad l.length c] w fun r w' => ∃ u, r = .returned u ∧ (InSl w' l u ∧ ∀ ad n c, u = .slice (some ad) n c → w.heap.size ≤ ad.block ∧ ad.block < w'.heap.size) ∧ Below w.heap.size w w' := by
 obtain ⟨i0, hi0, hz0, hz1, hz2⟩ := info_parts info52
 have q22 : ∀ (w : World) (a : Option Addr) (n c n' c' : Nat), (binOp .eql 22 (.slice a n c) (.slice none n' c')).run Tryd.prog w = .ok (.bool a.isNone) w := fun w a n c n' c' => Lib.run_eql_slice_nil w _ _ a n c n' c' Tryd.underlying22
 rcases ad with _ | ad
 ·obtain ⟨h0, rfl⟩ := hnil rfl
  have hl0 : l = [] := List.length_eq_zero_iff.1 h0
  subst hl0
  go_enter Tryd.func46, Tryd.ntmps46
  go_wp2_with fail
  go_ret
  exact ⟨_, rfl, ⟨⟨none, 0, rfl, .inl rfl⟩, fun ad n c e => by cases e⟩, Below.refl _ _⟩
 ·have HV : Hid (InSl w l (.slice (some ad) l.length c)) := h
  clear h hnil
  by_cases h0 : l.length = 0
  ·have hl0 : l = [] := List.length_eq_zero_iff.1 h0
   subst hl0
   go_enter Tryd.func46, Tryd.ntmps46
   go_wp2_with (at_builtin; refine wpList_append_fits_any _ rfl (.tmp 5) (.tmp 6) 22 rfl w.heap.size 35 i0 3 Tryd.underlying22 hi0 hz1 w.heap.size 0 0 [] rfl (World.ownsRow_made w #[] 0 (Nat.le_refl _) (Nat.zero_le _) rfl) (some ad) 0 c [] rfl rfl (by intro e; cases e) (by intro ad' e j u hj; simp at hj) (by simp) (by omega) ?_; intro w2 ho2 hg2; have H2 : Hid (w2.ownsRow w.heap.size 35 3 (.slice (some ⟨w.heap.size, 0, none⟩) 0 0) 0 [] ∧ Below w.heap.size w w2) := ⟨by simpa using ho2, ((Below.refl _ w).alloc (Nat.le_refl _) _).grown hg2 (by simp) (by intro k hk; simp at hk; omega)⟩; clear ho2 hg2)
   go_ret
   exact ⟨_, rfl, InSl.of_own (l := []) H2.out.1, H2.out.2⟩
  ·have hcell := HV.out.arg (below_new w (.cells #[] 35))
   go_enter Tryd.func46, Tryd.ntmps46
   go_wp2_with (at_builtin; refine append_mine _ rfl (.tmp 5) (.tmp 6) 22 rfl w.heap.size 35 i0 _ 3 24 Tryd.underlying22 hi0 hz0 hz1 hz2 rfl (by decide) (.slice (some ⟨w.heap.size, 0, none⟩) 0 0) 0 [] rfl (World.ownsRow_made w #[] 0 (Nat.le_refl _) (Nat.zero_le _) rfl) ad l.length c (insVs l) rfl (by rw [insVs_length]) (fun j u hj => hcell ad rfl j u hj) (fun u hu => insVs_one hu) (by omega) (by unfold maxLen; omega) (by omega) (by simp) ?_; intro v3 w3 hown3 hg3 hv3; have H3 : Hid (w3.ownsRow w.heap.size 35 3 v3 l.length (insVs l) ∧ Below w.heap.size w w3) := ⟨by simpa using hown3, ((Below.refl _ w).alloc (Nat.le_refl _) _).grown hg3 (by simp) (by intro k hk; simp [Value.ownBlock] at hk; omega)⟩; clear hown3 hg3 hv3)
   go_ret
   exact ⟨_, rfl, InSl.of_own H3.out.1, H3.out.2⟩
theorem intVs_one {vs : List Int} {u : Value} (h : u ∈ intVs vs) : u.oneCell' = true := by
 obtain ⟨x, _, rfl⟩ := List.mem_map.1 h
 rfl
theorem putVs_length (ps : List (Int × Int)) : (putVs ps).length = ps.length * 2 := by
 induction ps with
 | nil => rfl
 | cons p r ih =>
  have : putVs (p :: r) = .int .i64 p.1 :: .int .i64 p.2 :: putVs r := by simp [putVs]
  rw [this, List.length_cons, List.length_cons, ih, List.length_cons]
  omega
theorem putVs_one {ps : List (Int × Int)} {u : Value} (h : u ∈ putVs ps) : u.oneCell' = true := by
 obtain ⟨x, _, hx⟩ := List.mem_flatMap.1 h
 simp at hx
 rcases hx with rfl | rfl <;> rfl
set_option maxRecDepth 20000 in
set_option maxHeartbeats 2000000 in
theorem cloneN_any (w : World) (b o c : Nat) (vs : List Int) (n : Nat) (hn : vs.length = n) (h0 : 0 < n) (hl : n ≤ 4000000) (hv : ∀ j, j < n → w.cell? ⟨b, o + j, none⟩ = some (.int .i64 (vs.getD j 0))) :
  Calls Tryd.prog 66 #[.slice (some ⟨b, o, none⟩) n c] w fun r w' => ∃ u, r = .returned u ∧ w'.ownsRow w.heap.size 3 1 u vs.length (intVs vs) ∧ Below w.heap.size w w' := by
 subst hn
 obtain ⟨i0, hi0, hz0, hz1, hz2⟩ := info_parts info3
 have q22 : ∀ (w : World) (a : Option Addr) (n c n' c' : Nat), (binOp .eql 23 (.slice a n c) (.slice none n' c')).run Tryd.prog w = .ok (.bool a.isNone) w := fun w a n c n' c' => Lib.run_eql_slice_nil w _ _ a n c n' c' Tryd.underlying23
 have hcell : ∀ j u, (intVs vs)[j]? = some u → (w.alloc (.cells #[] 3)).cell? ((⟨b, o, none⟩ : Addr).add j) = some u := by
  intro j u hj
  have hjl : j < vs.length := by have := (List.getElem?_eq_some_iff.1 hj).1; simpa [intVs] using this
  rw [Addr.add_lit]
  refine below_cell (below_new _ _) ?_
  rw [hv j hjl]
  rw [intVs_at hjl] at hj
  exact hj
 clear hv
 go_enter Tryd.func66, Tryd.ntmps66
 go_wp2_with (at_builtin; refine append_mine _ rfl (.tmp 5) (.tmp 6) 23 rfl w.heap.size 3 i0 _ 1 8 Tryd.underlying23 hi0 hz0 hz1 hz2 rfl (by decide) (.slice (some ⟨w.heap.size, 0, none⟩) 0 0) 0 [] rfl (World.ownsRow_made w #[] 0 (Nat.le_refl _) (Nat.zero_le _) rfl) ⟨b, o, none⟩ vs.length c (intVs vs) rfl (by rw [intVs_length, Nat.mul_one]) hcell (fun u hu => intVs_one hu) h0 (by unfold maxLen; omega) (by omega) (by simp) ?_; intro v3 w3 hown3 hg3 hv3; have H3 : Hid (w3.ownsRow w.heap.size 3 1 v3 vs.length (intVs vs) ∧ Below w.heap.size w w3) := ⟨by simpa using hown3, ((Below.refl _ w).alloc (Nat.le_refl _) _).grown hg3 (by simp) (by intro k hk; simp [Value.ownBlock] at hk; omega)⟩; clear hown3 hg3 hv3)
 go_ret
 exact ⟨_, rfl, H3.out.1, H3.out.2⟩
set_option maxRecDepth 20000 in
set_option maxHeartbeats 2000000 in
theorem cloneP_any (w : World) (B : Nat) (pv : Value) (ps : List (Int × Int)) (h : w.ownsRow B 43 2 pv ps.length (putVs ps)) (hl : ps.length ≤ 4000000) :
  Calls Tryd.prog 74 #[pv] w fun r w' => ∃ u, r = .returned u ∧ w'.ownsRow w.heap.size 43 2 u ps.length (putVs ps) ∧ Below w.heap.size w w' := by
 obtain ⟨i0, hi0, hz0, hz1, hz2⟩ := info_parts infoPut
 have q22 : ∀ (w : World) (a : Option Addr) (n c n' c' : Nat), (binOp .eql 25 (.slice a n c) (.slice none n' c')).run Tryd.prog w = .ok (.bool a.isNone) w := fun w a n c n' c' => Lib.run_eql_slice_nil w _ _ a n c n' c' Tryd.underlying25
 have h' := h
 obtain ⟨hlen, ⟨rfl, he⟩ | ⟨g, cap, cur, rfl, hB, hg, hn, hm, hs, ht⟩⟩ := h'
 ·go_enter Tryd.func74, Tryd.ntmps74
  go_wp2_with fail
  go_ret
  exact ⟨_, rfl, ⟨hlen, .inl ⟨rfl, he⟩⟩, Below.refl _ _⟩
 ·have hcell : ∀ j u, (putVs ps)[j]? = some u → (w.alloc (.cells #[] 43)).cell? ((⟨g, 0, none⟩ : Addr).add j) = some u := by
   intro j u hj
   have hjl : j < ps.length * 2 := by have := (List.getElem?_eq_some_iff.1 hj).1; rwa [putVs_length] at this
   rw [Addr.add_lit, Nat.zero_add]
   exact below_cell (below_new _ _) ((h.cellAt j (by omega)).trans hj)
  clear h hg hn hm hs ht hlen
  by_cases h0 : ps.length = 0
  ·have hp0 : ps = [] := List.length_eq_zero_iff.1 h0
   subst hp0
   go_enter Tryd.func74, Tryd.ntmps74
   go_wp2_with (at_builtin; refine wpList_append_fits_any _ rfl (.tmp 5) (.tmp 6) 25 rfl w.heap.size 43 i0 2 Tryd.underlying25 hi0 hz1 w.heap.size 0 0 [] rfl (World.ownsRow_made w #[] 0 (Nat.le_refl _) (Nat.zero_le _) rfl) (some ⟨g, 0, none⟩) 0 cap [] rfl rfl (by intro e; cases e) (by intro ad' e j u hj; simp at hj) (by simp) (by omega) ?_; intro w2 ho2 hg2; have H2 : Hid (w2.ownsRow w.heap.size 43 2 (.slice (some ⟨w.heap.size, 0, none⟩) 0 0) 0 [] ∧ Below w.heap.size w w2) := ⟨by simpa using ho2, ((Below.refl _ w).alloc (Nat.le_refl _) _).grown hg2 (by simp) (by intro k hk; simp at hk; omega)⟩; clear ho2 hg2)
   go_ret
   exact ⟨_, rfl, H2.out.1, H2.out.2⟩
  ·go_enter Tryd.func74, Tryd.ntmps74
   go_wp2_with (at_builtin; refine append_mine _ rfl (.tmp 5) (.tmp 6) 25 rfl w.heap.size 43 i0 _ 2 16 Tryd.underlying25 hi0 hz0 hz1 hz2 rfl (by decide) (.slice (some ⟨w.heap.size, 0, none⟩) 0 0) 0 [] rfl (World.ownsRow_made w #[] 0 (Nat.le_refl _) (Nat.zero_le _) rfl) ⟨g, 0, none⟩ ps.length cap (putVs ps) rfl (by rw [putVs_length]) hcell (fun u hu => putVs_one hu) (by omega) (by unfold maxLen; omega) (by omega) (by simp) ?_; intro v3 w3 hown3 hg3 hv3; have H3 : Hid (w3.ownsRow w.heap.size 43 2 v3 ps.length (putVs ps) ∧ Below w.heap.size w w3) := ⟨by simpa using hown3, ((Below.refl _ w).alloc (Nat.le_refl _) _).grown hg3 (by simp) (by intro k hk; simp [Value.ownBlock] at hk; omega)⟩; clear hown3 hg3 hv3)
   go_ret
   exact ⟨_, rfl, H3.out.1, H3.out.2⟩
theorem MM.ivs {w : World} {mb B : Nat} {l : List In} {iv ov : Value} {ins : List Int} {sp : Int} {s : MS} {sv pv : Value} (h : MM w mb B l iv ov ins sp s sv pv) : ∃ ad c, iv = .slice ad l.length c := by
 obtain ⟨⟨ad, c, e, -⟩, -⟩ := h.img
 exact ⟨ad, c, e⟩
set_option maxRecDepth 20000 in
set_option maxHeartbeats 4000000 in
theorem Done_any (w : World) (mb B : Nat) (l : List In) (iv ov : Value) (ins : List Int) (sp : Int) (s : MS) (sv pv : Value) (h : MM w mb B l iv ov ins sp s sv pv) :
  Calls Tryd.prog 22 #[.pointer (some ⟨mb, 0, none⟩)] w fun r w' => r = .returned (.bool (decide (s.pc = l.length))) ∧ Below w.heap.size w w' := by
 have lm := h.lt
 have c0 := h.c_iv
 have c23 := h.c_pc
 obtain ⟨ad, c, rfl⟩ := h.ivs
 clear h
 by_cases e : s.pc = l.length
 ·have f1 : ((s.pc : Int) == (l.length : Int)) = true := by rw [e]; simp
  have f2 : decide (s.pc = l.length) = true := by simpa using e
  rw [f2]
  clear f2
  generalize s.pc = p at *
  generalize l.length = n at *
  clear e
  go_enter Tryd.func22, Tryd.ntmps22
  go_wp2_with fail
  go_quiet (fail)
  go_wp2_with fail
  go_ret
  exact ⟨rfl, below_drewN'⟩
 ·have f1 : ((s.pc : Int) == (l.length : Int)) = false := by simp; omega
  have f2 : decide (s.pc = l.length) = false := by simpa using e
  rw [f2]
  clear f2
  generalize s.pc = p at *
  generalize l.length = n at *
  clear e
  go_enter Tryd.func22, Tryd.ntmps22
  go_wp2_with fail
  go_quiet (fail)
  go_wp2_with fail
  go_ret
  exact ⟨rfl, below_drewN'⟩
set_option maxRecDepth 20000 in
set_option maxHeartbeats 4000000 in
theorem Vars_any (w : World) (mb B : Nat) (l : List In) (iv ov : Value) (ins : List Int) (sp : Int) (s : MS) (sv pv : Value) (h : MM w mb B l iv ov ins sp s sv pv) :
  Calls Tryd.prog 44 #[.pointer (some ⟨mb, 0, none⟩)] w fun r w' => ∃ u, r = .returned u ∧ w'.ownsRow w.heap.size 3 1 u s.vs.length (intVs s.vs) ∧ Below w.heap.size w w' := by
 have lm := h.lt
 have HM : Hid (MM w mb B l iv ov ins sp s sv pv) := h
 have cv0 := h.c_vs (j := 0) (by omega)
 clear h
 go_enter Tryd.func44, Tryd.ntmps44
 go_wp2_with (go_at_call 66; refine (cloneN_any _ mb 1 8 s.vs 8 HM.out.lv (by omega) (by omega) (fun j hj => by rw [Nat.add_comm]; exact HM.out.c_vs hj)).mono ?_; rintro r w3 ⟨u, rfl, ho, hb⟩; have H3 : Hid (_ ∧ _) := ⟨ho, hb⟩; clear ho hb)
 go_ret
 exact ⟨_, rfl, H3.out.1, H3.out.2⟩
set_option maxRecDepth 20000 in
set_option maxHeartbeats 4000000 in
theorem Puts_any (w : World) (mb B : Nat) (l : List In) (iv ov : Value) (ins : List Int) (sp : Int) (s : MS) (sv pv : Value) (h : MM w mb B l iv ov ins sp s sv pv) (hl : s.ps.length ≤ 4000000) :
  Calls Tryd.prog 45 #[.pointer (some ⟨mb, 0, none⟩)] w fun r w' => ∃ u, r = .returned u ∧ w'.ownsRow w.heap.size 43 2 u s.ps.length (putVs s.ps) ∧ Below w.heap.size w w' := by
 have lm := h.lt
 have HM : Hid (MM w mb B l iv ov ins sp s sv pv) := h
 have cp := h.c_pv
 clear h
 go_enter Tryd.func45, Tryd.ntmps45
 go_wp2_with (go_at_call 74; refine (cloneP_any _ B pv s.ps HM.out.pts hl).mono ?_; rintro r w3 ⟨u, rfl, ho, hb⟩; have H3 : Hid (_ ∧ _) := ⟨ho, hb⟩; clear ho hb)
 go_ret
 exact ⟨_, rfl, H3.out.1, H3.out.2⟩
theorem ins_run (w : World) (q clock : Nat) (es : Array MapEntry) (z : Int) (v : Value) (h : w.heap[q]? = some (.map es clock)) (hf : Instr.findNow (.int .i64) (.int .i64 z) es.toList 0 = some none) :
  ∃ w', (Instr.mapUpdate 83 (.map (some q)) (.int .i64 z) v).run Tryd.prog w = .ok () w' ∧ w'.heap[q]? = some (.map (es.push ⟨.int .i64 z, v, clock⟩) (clock + 1)) ∧ w.grownBy w' (some q) := by
 have hck : ∀ e : Bool, (Instr.checkKey e 10000 3 (.int .i64 z)).run Tryd.prog w = .ok () w := fun e => MapKept.run_checkKey (d := .int .i64) (k := .int .i64 z) Tryd.underlying3 (by simp [MapKept.IsKey]) e 9999
 refine ⟨{ w with heap := w.heap.setIfInBounds q (.map (es.push ⟨.int .i64 z, v, clock⟩) (clock + 1)) }, ?_, (MapKept.heap_set h).1, ⟨rfl, rfl, rfl, by simp, fun k hk hne => (MapKept.heap_set h).2 k (fun e => hne (by rw [e]))⟩⟩
 simp [Instr.mapUpdate, run_underlying Tryd.underlying83, MapKept.run_getObj_map h, hck, MapKept.run_findKey (d := .int .i64) Tryd.underlying3 hf, MapKept.run_setObj_map _ h, Result.andThen]
theorem store_holds (w : World) : (store ⟨w.heap.size, 0, none⟩ (.func (Fn.func 75) #[] #[])).run Tryd.prog (w.alloc (.cells #[.nilFunc] 135)) = .ok () (w.alloc (.cells #[.func (Fn.func 75) #[] #[]] 135)) := by
 rw [run_store Tryd.prog _ _ (.func (Fn.func 75) #[] #[]) .plain rfl]
 simp [go_sem]
set_option maxRecDepth 20000 in
set_option maxHeartbeats 4000000 in
theorem operators_any (w : World) : Calls Tryd.prog 47 #[] w fun r w' => ∃ ov, r = .returned ov ∧ OpsAt w' w'.heap.size ov ∧ Below w.heap.size w w' := by
 have hmm := @run_makeMap Tryd.prog
 have h0 := heap_alloc_new (w.alloc (.cells #[.func (Fn.func 75) #[] #[]] 135)) (.map #[] 0)
 rw [show (w.alloc (.cells #[.func (Fn.func 75) #[] #[]] 135)).heap.size = w.heap.size + 1 by simp] at h0
 obtain ⟨w1, r1, m1, g1⟩ := ins_run _ (w.heap.size + 1) 0 #[] 4 (.func (Fn.func 76) #[] #[]) h0 rfl
 obtain ⟨w2, r2, m2, g2⟩ := ins_run _ (w.heap.size + 1) 1 _ 5 (.func (Fn.func 77) #[] #[]) m1 rfl
 obtain ⟨w3, r3, m3, g3⟩ := ins_run _ (w.heap.size + 1) 2 _ 6 (.func (Fn.func 78) #[] #[]) m2 rfl
 obtain ⟨w4, r4, m4, g4⟩ := ins_run _ (w.heap.size + 1) 3 _ 7 (.func (Fn.func 79) #[] #[.pointer (some ⟨w.heap.size, 0, none⟩)]) m3 rfl
 obtain ⟨w5, r5, m5, g5⟩ := ins_run _ (w.heap.size + 1) 4 _ 8 (.func (Fn.func 80) #[] #[.pointer (some ⟨w.heap.size, 0, none⟩)]) m4 rfl
 have gg := grown_trans (grown_trans (grown_trans (grown_trans g1 g2) g3) g4) g5
 have hw : w5.heap[w.heap.size]? = some (.cells #[.func (Fn.func 75) #[] #[]] 135 (0, 0)) := by
  rw [gg.block w.heap.size (by simp; omega) (by intro e; simp at e)]
  rw [Below.heap_alloc _ _ _ (by simp)]
  exact heap_alloc_new w _
 have HB : Hid (OpsAt w5 w5.heap.size (.map (some (w.heap.size + 1))) ∧ Below w.heap.size w w5) := by
  refine ⟨⟨w.heap.size + 1, w.heap.size, rfl, (Array.getElem?_eq_some_iff.1 m5).1, (Array.getElem?_eq_some_iff.1 hw).1, m5, hw⟩, ?_⟩
  exact (((Below.refl _ w).alloc (Nat.le_refl _) _).alloc (by simp) _).grown gg (by simp; omega) (by intro k hk; cases hk; omega)
 have hmf : ∀ (fn : Fn) (first cap : Array Value) (w : World), (Instr.makeFunc fn first cap).run Tryd.prog w = .ok (.func fn first cap) w := fun _ _ _ _ => rfl
 have hsh := store_holds w
 clear m1 m2 m3 m4 m5 g1 g2 g3 g4 g5 gg h0 hw
 go_enter Tryd.func47, Tryd.ntmps47
 go_wp2_with fail
 go_ret
 exact ⟨_, rfl, HB.out.1, HB.out.2⟩
theorem Check_all (w : World) (l : List In) (iad : Option Addr) (ic : Nat) (hkk : KindsIn w) (h : InSl w l (.slice iad l.length ic)) (c k : Int) (hc : checkI l = (c, k)) : Calls Tryd.prog 37 #[.slice iad l.length ic] w fun r w' => r = .returned (.agg #[.int .i64 c, .int .i64 k]) ∧ Below w.heap.size w w' := by
 by_cases hl : l.length ≤ 2000
 ·exact Check_walk w l iad ic hkk h hl c k hc
 ·have e : checkI l = (2, 0) := by unfold checkI; rw [if_pos (by omega)]
  rw [e] at hc
  cases hc
  exact Check_many w l.length iad ic (by omega)
theorem New_ends {w : World} {g : Nat} {c k p : Value} {a : Act} (h : w.heap[g]? = some (.cells #[c, k] 30 (0, 0))) (h2 : a.tmps[6]?.getD undef = p) (h3 : a.tmps[7]?.getD undef = .pointer (some ⟨g, 0, none⟩)) :
  (results Tryd.f18 a.tmps).run Tryd.prog w = .ok (.tuple #[p, .agg #[c, k]]) w := by
 obtain ⟨c1, f1, l1⟩ := cells_of (l := [_, _]) h
 have c10 := c1 0 _ rfl
 have c11 := c1 1 _ rfl
 subst h2
 simp [results, Tryd.results18, go_sem, h3, c10, c11]
structure FB (w W : World) (g : Nat) : Prop where
 bel : Below w.heap.size w W
 res : W.heap[g]? = some (.cells #[.int .i64 0, .int .i64 0] 30 (0, 0))
 low : w.heap.size ≤ g
theorem FB.grow {w W W' : World} {g : Nat} (h : FB w W g) (hb : Below W.heap.size W W') : FB w W' g :=
 ⟨below_seq h.bel hb, (hb.block g (Array.getElem?_eq_some_iff.1 h.res).1).trans h.res, h.low⟩
theorem FB.start (w : World) : FB w (w.alloc (.cells #[.int .i64 0, .int .i64 0] 30)) w.heap.size := ⟨below_new _ _, heap_alloc_new _ _, Nat.le_refl _⟩
set_option maxRecDepth 20000 in
set_option maxHeartbeats 4000000 in
theorem New_bad (w : World) (l : List In) (iad : Option Addr) (ic : Nat) (vv iv2 : Value) (hkk : KindsIn w) (h : InSl w l (.slice iad l.length ic)) (c k : Int) (hc : checkI l = (c, k)) (h0 : c ≠ 0) :
  Calls Tryd.prog 18 #[.slice iad l.length ic, vv, iv2] w fun r w' => r = .returned (.tuple #[.pointer none, .agg #[.int .i64 c, .int .i64 k]]) ∧ Below w.heap.size w w' := by
 have hcb : (c != 0) = true := by simpa using h0
 have HK : Hid (KindsIn w ∧ InSl w l (.slice iad l.length ic) ∧ checkI l = (c, k)) := ⟨hkk, h, hc⟩
 clear hkk h hc
 go_enter Tryd.func18, Tryd.ntmps18
 go_wp2_with (go_at_call 37; refine (Check_all _ l _ _ (HK.out.1.below (below_new _ _)) (HK.out.2.1.below (below_new _ _)) c k HK.out.2.2).mono ?_; rintro r w9 ⟨rfl, hb9⟩; have H9 : Hid (FB w w9 w.heap.size) := (FB.start w).grow hb9; obtain ⟨rs9, rf9, rl9⟩ := cells_of (l := [_, _]) H9.out.res; have r90 := rs9 0 _ rfl; have r91 := rs9 1 _ rfl; clear hb9 rs9)
 go_region
 all_goals go_wp2_with fail
 all_goals
  refine bodyPost_ret (v := .tuple #[.pointer none, .agg #[.int .i64 c, .int .i64 k]]) (New_ends (set_alloc H9.out.res) rfl rfl) rfl ?_
  exact ⟨rfl, (((H9.out.bel.setCell (Nat.le_refl _) _).setCell (Nat.le_refl _) _).alloc (by have := H9.out.bel.size; simp; omega) _).drew⟩
set_option maxRecDepth 20000 in
set_option maxHeartbeats 4000000 in
theorem New_range (w : World) (l : List In) (iad : Option Addr) (ic : Nat) (vad nad : Option Addr) (n m vc nc : Nat) (hkk : KindsIn w) (h : InSl w l (.slice iad l.length ic)) (k : Int) (hc : checkI l = (0, k)) (hnm : n ≠ 8 ∨ m ≠ 4) :
  Calls Tryd.prog 18 #[.slice iad l.length ic, .slice vad n vc, .slice nad m nc] w fun r w' => r = .returned (.tuple #[.pointer none, .agg #[.int .i64 3, .int .i64 0]]) ∧ Below w.heap.size w w' := by
 have HK : Hid (KindsIn w ∧ InSl w l (.slice iad l.length ic) ∧ checkI l = (0, k)) := ⟨hkk, h, hc⟩
 clear hkk h hc
 by_cases hn : n = 8
 ·subst hn
  have hm : ¬ ((m : Int) = 4) := by omega
  have hmb : ((m : Int) != 4) = true := by simpa using hm
  go_enter Tryd.func18, Tryd.ntmps18
  go_wp2_with (go_at_call 37; refine (Check_all _ l _ _ (HK.out.1.below (below_new _ _)) (HK.out.2.1.below (below_new _ _)) 0 k HK.out.2.2).mono ?_; rintro r w9 ⟨rfl, hb9⟩; have H9 : Hid (FB w w9 w.heap.size) := (FB.start w).grow hb9; obtain ⟨rs9, rf9, rl9⟩ := cells_of (l := [_, _]) H9.out.res; have r90 := rs9 0 _ rfl; have r91 := rs9 1 _ rfl; clear hb9 rs9)
  refine bodyPost_ret (v := .tuple #[.pointer none, .agg #[.int .i64 3, .int .i64 0]]) (New_ends (set_alloc H9.out.res) rfl rfl) rfl ?_
  exact ⟨rfl, (((H9.out.bel.setCell (Nat.le_refl _) _).setCell (Nat.le_refl _) _).alloc (by have := H9.out.bel.size; simp; omega) _)⟩
 ·have hm : ¬ ((n : Int) = 8) := by omega
  have hmb : ((n : Int) != 8) = true := by simpa using hm
  go_enter Tryd.func18, Tryd.ntmps18
  go_wp2_with (go_at_call 37; refine (Check_all _ l _ _ (HK.out.1.below (below_new _ _)) (HK.out.2.1.below (below_new _ _)) 0 k HK.out.2.2).mono ?_; rintro r w9 ⟨rfl, hb9⟩; have H9 : Hid (FB w w9 w.heap.size) := (FB.start w).grow hb9; obtain ⟨rs9, rf9, rl9⟩ := cells_of (l := [_, _]) H9.out.res; have r90 := rs9 0 _ rfl; have r91 := rs9 1 _ rfl; clear hb9 rs9)
  refine bodyPost_ret (v := .tuple #[.pointer none, .agg #[.int .i64 3, .int .i64 0]]) (New_ends (set_alloc H9.out.res) rfl rfl) rfl ?_
  exact ⟨rfl, (((H9.out.bel.setCell (Nat.le_refl _) _).setCell (Nat.le_refl _) _).alloc (by have := H9.out.bel.size; simp; omega) _)⟩
theorem eight_of {vs : List Int} (h : vs.length = 8) : ∃ v0 v1 v2 v3 v4 v5 v6 v7, vs = [v0, v1, v2, v3, v4, v5, v6, v7] := by
 match vs, h with
 | [a, b, c, d, e, f, g, i], _ => exact ⟨a, b, c, d, e, f, g, i, rfl⟩
theorem four_of {vs : List Int} (h : vs.length = 4) : ∃ i0 i1 i2 i3, vs = [i0, i1, i2, i3] := by
 match vs, h with
 | [a, b, c, d], _ => exact ⟨a, b, c, d, rfl⟩
theorem MM.made {w : World} {l : List In} {iv ov : Value} {vs ins : List Int} (hv : vs.length = 8) (hi : ins.length = 4) (himg : ImgAt w w.heap.size l iv) (hops : OpsAt w w.heap.size ov) :
  MM (w.alloc (.cells (machVs iv vs ins [0, 0, 0, 0, 0, 0, 0, 0] (.slice none 0 0) (.slice none 0 0) 0 0 ov).toArray 85)) w.heap.size (w.heap.size + 1) l iv ov ins 0 (ms0 vs) (.slice none 0 0) (.slice none 0 0) := by
 refine ⟨heap_alloc_new _ _, ⟨rfl, .inl ⟨rfl, rfl⟩⟩, ⟨rfl, .inl ⟨rfl, rfl⟩⟩, (fun k hk => by cases hk), hv, hi, rfl, Nat.lt_succ_self _, by simp, himg.keep (fun k hk => (below_new w _).block k hk), hops.keep (fun k hk => (below_new w _).block k hk)⟩
theorem arr8 (w : World) (b o c : Nat) : (Instr.arrayAt 81 (.slice (some ⟨b, o, none⟩) 8 c)).run Tryd.prog w = .ok (.pointer (some ⟨b, o, none⟩)) w := by
 simp [Instr.arrayAt, run_underlying Tryd.underlying81, Result.andThen]
theorem arr4 (w : World) (b o c : Nat) : (Instr.arrayAt 82 (.slice (some ⟨b, o, none⟩) 4 c)).run Tryd.prog w = .ok (.pointer (some ⟨b, o, none⟩)) w := by
 simp [Instr.arrayAt, run_underlying Tryd.underlying82, Result.andThen]
theorem MM.same {w w' : World} {mb B : Nat} {l : List In} {iv ov : Value} {ins : List Int} {sp : Int} {s : MS} {sv pv : Value} (h : MM w mb B l iv ov ins sp s sv pv) (hh : ∀ k : Nat, w'.heap[k]? = w.heap[k]?) (hz : w'.heap.size = w.heap.size) : MM w' mb B l iv ov ins sp s sv pv :=
 ⟨(hh mb).trans h.blk, ownsRow_same h.stk (fun k _ _ => hh k), ownsRow_same h.pts (fun k _ _ => hh k), h.apt, h.lv, h.li, h.lc, h.nmb, by rw [hz]; exact h.bas, h.img.keep (fun k _ => hh k), h.ops.keep (fun k _ => hh k)⟩
theorem no_fault {w : World} {g : Nat} (h : w.heap[g]? = some (.cells #[.int .i64 0, .int .i64 0] 30 (0, 0))) (k : Nat) : ((w.setCell ⟨g, 0, none⟩ (.int .i64 0)).setCell ⟨g, 1, none⟩ (.int .i64 0)).heap[k]? = w.heap[k]? := by
 by_cases e : k = g
 ·subst e
  rw [setCell_at (setCell_at h), h]
  rfl
 ·rw [Below.heap_setCell _ _ _ _ (by show k ≠ g; exact e), Below.heap_setCell _ _ _ _ (by show k ≠ g; exact e)]
abbrev KV (W : World) (b o b' o' : Nat) (v0 v1 v2 v3 v4 v5 v6 v7 i0 i1 i2 i3 : Int) : Prop := (W.cell? ⟨b, o, none⟩ = some (.int .i64 v0) ∧ W.cell? ⟨b, o + 1, none⟩ = some (.int .i64 v1) ∧ W.cell? ⟨b, o + 2, none⟩ = some (.int .i64 v2) ∧ W.cell? ⟨b, o + 3, none⟩ = some (.int .i64 v3) ∧ W.cell? ⟨b, o + 4, none⟩ = some (.int .i64 v4) ∧ W.cell? ⟨b, o + 5, none⟩ = some (.int .i64 v5) ∧ W.cell? ⟨b, o + 6, none⟩ = some (.int .i64 v6) ∧ W.cell? ⟨b, o + 7, none⟩ = some (.int .i64 v7)) ∧ W.cell? ⟨b', o', none⟩ = some (.int .i64 i0) ∧ W.cell? ⟨b', o' + 1, none⟩ = some (.int .i64 i1) ∧ W.cell? ⟨b', o' + 2, none⟩ = some (.int .i64 i2) ∧ W.cell? ⟨b', o' + 3, none⟩ = some (.int .i64 i3)
theorem KV.below {W W' : World} {b o b' o' : Nat} {v0 v1 v2 v3 v4 v5 v6 v7 i0 i1 i2 i3 : Int} (h : KV W b o b' o' v0 v1 v2 v3 v4 v5 v6 v7 i0 i1 i2 i3) (hb : Below W.heap.size W W') : KV W' b o b' o' v0 v1 v2 v3 v4 v5 v6 v7 i0 i1 i2 i3 :=
 ⟨⟨below_cell hb h.1.1, below_cell hb h.1.2.1, below_cell hb h.1.2.2.1, below_cell hb h.1.2.2.2.1, below_cell hb h.1.2.2.2.2.1, below_cell hb h.1.2.2.2.2.2.1, below_cell hb h.1.2.2.2.2.2.2.1, below_cell hb h.1.2.2.2.2.2.2.2⟩, below_cell hb h.2.1, below_cell hb h.2.2.1, below_cell hb h.2.2.2.1, below_cell hb h.2.2.2.2⟩
set_option maxRecDepth 20000 in
set_option maxHeartbeats 4000000 in
theorem New_ok (w : World) (l : List In) (iad : Option Addr) (ic : Nat) (vad nad : Option Addr) (vc nc : Nat) (vs ins : List Int) (hkk : KindsIn w) (h : InSl w l (.slice iad l.length ic)) (hnil : iad = none → l.length = 0 ∧ ic = 0) (k : Int) (hc : checkI l = (0, k)) (hl : l.length ≤ 100000) (hv : vs.length = 8) (hi : ins.length = 4) (hvs : IntSl w vs (.slice vad vs.length vc)) (hins : IntSl w ins (.slice nad ins.length nc)) :
  Calls Tryd.prog 18 #[.slice iad l.length ic, .slice vad 8 vc, .slice nad 4 nc] w fun r w' => ∃ mb iv ov, r = .returned (.tuple #[.pointer (some ⟨mb, 0, none⟩), .agg #[.int .i64 0, .int .i64 0]]) ∧ w.heap.size ≤ mb ∧ MM w' mb (mb + 1) l iv ov ins 0 (ms0 vs) (.slice none 0 0) (.slice none 0 0) ∧ Below w.heap.size w w' := by
 obtain ⟨vb, vo, rfl, hvr⟩ : ∃ b o, vad = some ⟨b, o, none⟩ ∧ ∀ j, j < vs.length → w.cell? ⟨b, o + j, none⟩ = some (.int .i64 (vs.getD j 0)) := by
  obtain ⟨ad, c, e, h0 | ⟨b, o, e2, h2⟩⟩ := hvs
  ·rw [h0] at hv; simp at hv
  ·cases e; exact ⟨b, o, e2, h2⟩
 obtain ⟨nb, no, rfl, hnr⟩ : ∃ b o, nad = some ⟨b, o, none⟩ ∧ ∀ j, j < ins.length → w.cell? ⟨b, o + j, none⟩ = some (.int .i64 (ins.getD j 0)) := by
  obtain ⟨ad, c, e, h0 | ⟨b, o, e2, h2⟩⟩ := hins
  ·rw [h0] at hi; simp at hi
  ·cases e; exact ⟨b, o, e2, h2⟩
 obtain ⟨v0, v1, v2, v3, v4, v5, v6, v7, rfl⟩ := eight_of hv
 obtain ⟨i0, i1, i2, i3, rfl⟩ := four_of hi
 have hkv : KV w vb vo nb no v0 v1 v2 v3 v4 v5 v6 v7 i0 i1 i2 i3 := ⟨⟨hvr 0 (by simp), hvr 1 (by simp), hvr 2 (by simp), hvr 3 (by simp), hvr 4 (by simp), hvr 5 (by simp), hvr 6 (by simp), hvr 7 (by simp)⟩, hnr 0 (by simp), hnr 1 (by simp), hnr 2 (by simp), hnr 3 (by simp)⟩
 have HK : Hid (KindsIn w ∧ (InSl w l (.slice iad l.length ic) ∧ (iad = none → l.length = 0 ∧ ic = 0)) ∧ checkI l = (0, k) ∧ KV w vb vo nb no v0 v1 v2 v3 v4 v5 v6 v7 i0 i1 i2 i3) := ⟨hkk, ⟨h, hnil⟩, hc, hkv⟩
 clear hkk h hc hvs hins hvr hnr hnil hkv
 have ha8 := fun W => arr8 W vb vo vc
 have ha4 := fun W => arr4 W nb no nc
 go_enter Tryd.func18, Tryd.ntmps18
 go_wp2_with (go_at_call 37; refine (Check_all _ l _ _ (HK.out.1.below (below_new _ _)) (HK.out.2.1.1.below (below_new _ _)) 0 k HK.out.2.2.1).mono ?_; rintro r w9 ⟨rfl, hb9⟩; have H9 : Hid (FB w w9 w.heap.size) := (FB.start w).grow hb9; obtain ⟨rs9, rf9, rl9⟩ := cells_of (l := [_, _]) H9.out.res; have r90 := rs9 0 _ rfl; have r91 := rs9 1 _ rfl; clear hb9 rs9)
 have H10 : Hid (FB w (w9.alloc (.cells #[.int .i64 0, .int .i64 k] 30)) w.heap.size) := H9.out.grow (below_new _ _)
 generalize hw1 : (w9.alloc (.cells #[.int .i64 0, .int .i64 k] 30)) = w1 at *
 clear hw1 H9 r90 r91 rf9 rl9
 have hS0 : KV w1.drew vb vo nb no v0 v1 v2 v3 v4 v5 v6 v7 i0 i1 i2 i3 := HK.out.2.2.2.below (below_seq H10.out.bel (Below.refl _ _).drew)
 refine wp_region_noPanic ?_
 refine wp_region_held_drew (S := fun w' => KV w' vb vo nb no v0 v1 v2 v3 v4 v5 v6 v7 i0 i1 i2 i3) (by kernel_rfl) hS0 (fun hHeld => ?_)
 refine take_at (i := 0) (n := 24) (v := ?_) rfl rfl (by kernel_rfl) (by kernel_rfl) (by kernel_rfl) (fun _ _ _ h => h) (Or.inl ⟨by rfl, ?_⟩) (by assumption) ?_
 rotate_left 1
 ·intro wz hSw
  first | (go_simp; done) | (go_simp; with_reducible rfl)
 simp only [List.set_cons_zero, List.set_cons_succ]
 refine take_at (i := 2) (n := 26) (v := ?_) rfl rfl (by kernel_rfl) (by kernel_rfl) (by kernel_rfl) (fun _ _ _ h => h) (Or.inl ⟨by rfl, ?_⟩) (by assumption) ?_
 rotate_left 1
 ·intro wz hSw
  first | (go_simp; done) | (go_simp; with_reducible rfl)
 simp only [List.set_cons_zero, List.set_cons_succ]
 refine take_at (i := 3) (n := 27) (v := ?_) rfl rfl (by kernel_rfl) (by kernel_rfl) (by kernel_rfl) (fun _ _ _ h => h) (Or.inl ⟨by rfl, ?_⟩) (by assumption) ?_
 rotate_left 1
 ·intro wz hSw
  first | (go_simp; done) | (go_simp; with_reducible rfl)
 simp only [List.set_cons_zero, List.set_cons_succ]
 refine take_at (i := 4) (n := 28) (v := ?_) rfl rfl (by kernel_rfl) (by kernel_rfl) (by kernel_rfl) (fun _ _ _ h => h) (Or.inl ⟨by rfl, ?_⟩) (by assumption) ?_
 rotate_left 1
 ·intro wz hSw
  first | (go_simp; done) | (go_simp; with_reducible rfl)
 simp only [List.set_cons_zero, List.set_cons_succ]
 refine take_at (i := 5) (n := 29) (v := ?_) rfl rfl (by kernel_rfl) (by kernel_rfl) (by kernel_rfl) (fun _ _ _ h => h) (Or.inl ⟨by rfl, ?_⟩) (by assumption) ?_
 rotate_left 1
 ·intro wz hSw
  first | (go_simp; done) | (go_simp; with_reducible rfl)
 simp only [List.set_cons_zero, List.set_cons_succ]
 refine take_at (i := 6) (n := 30) (v := ?_) rfl rfl (by kernel_rfl) (by kernel_rfl) (by kernel_rfl) (fun _ _ _ h => h) (Or.inl ⟨by rfl, ?_⟩) (by assumption) ?_
 rotate_left 1
 ·intro wz hSw
  first | (go_simp; done) | (go_simp; with_reducible rfl)
 simp only [List.set_cons_zero, List.set_cons_succ]
 refine take_at (i := 7) (n := 31) (v := ?_) rfl rfl (by kernel_rfl) (by kernel_rfl) (by kernel_rfl) (fun _ _ _ h => h) (Or.inl ⟨by rfl, ?_⟩) (by assumption) ?_
 rotate_left 1
 ·intro wz hSw
  first | (go_simp; done) | (go_simp; with_reducible rfl)
 simp only [List.set_cons_zero, List.set_cons_succ]
 refine take_at (i := 11) (n := 35) (v := ?_) rfl rfl (by kernel_rfl) (by kernel_rfl) (by kernel_rfl) (fun _ _ _ h => h) (Or.inl ⟨by rfl, ?_⟩) (by assumption) ?_
 rotate_left 1
 ·intro wz hSw
  first | (go_simp; done) | (go_simp; with_reducible rfl)
 simp only [List.set_cons_zero, List.set_cons_succ]
 refine wpAnyH_ready (rs := [1]) (by kernel_rfl) (by simp) ?_
 refine AllReadyH.cons rfl (fun K hK => ?_) AllReadyH.nil
 go_simp
 go_wp2_with (go_at_call 46; refine (cloneI_any _ l iad ic hl (HK.out.2.1.1.below (below_seq H10.out.bel (Below.refl _ _).drew)) HK.out.2.1.2).mono ?_; rintro r w2 ⟨iv, rfl, himg, hb2⟩; obtain ⟨ja, jc, e2⟩ : ∃ a c, iv = .slice a l.length c := (by obtain ⟨⟨a, c, e, -⟩, -⟩ := himg; exact ⟨a, c, e⟩); subst e2; have H2 : Hid (FB w w2 w.heap.size ∧ InSl w2 l (.slice ja l.length jc) ∧ ∀ ad n c, Value.slice ja l.length jc = .slice (some ad) n c → ad.block < w2.heap.size) := ⟨H10.out.grow (below_seq (Below.refl _ _).drew hb2), himg.1, fun ad n c e => (himg.2 ad n c e).2⟩; have hS2 := hS0.below hb2; clear himg hb2)
 refine hK.out _ _ hS2 (fun hHeld => ?_)
 clear hK K
 refine wpAnyH_ready (rs := [8]) (by kernel_rfl) (by simp) ?_
 refine AllReadyH.cons rfl (fun K hK => ?_) AllReadyH.nil
 go_simp
 go_wp2_with (go_at_call 47; refine (operators_any _).mono ?_; rintro r w3 ⟨ov, rfl, hop, hb3⟩; obtain ⟨jq, e3⟩ : ∃ q, ov = .map (some q) := (by obtain ⟨q, g, e, -⟩ := hop; exact ⟨q, e⟩); subst e3; have H3 : Hid (FB w w3 w.heap.size ∧ ImgAt w3 w3.heap.size l (.slice ja l.length jc) ∧ OpsAt w3 w3.heap.size (.map (some jq))) := ⟨H2.out.1.grow hb3, ⟨H2.out.2.1.below hb3, fun ad n c e => by have := H2.out.2.2 ad n c e; have := hb3.size; omega⟩, hop⟩; have hS3 := hS2.below hb3; clear hop hb3)
 refine hK.out _ _ hS3 (fun hHeld => ?_)
 clear hK K
 refine take_at (i := 9) (n := 33) (v := ?_) rfl rfl (by kernel_rfl) (by kernel_rfl) (by kernel_rfl) (fun _ _ _ h => h) (Or.inl ⟨by rfl, ?_⟩) (by assumption) ?_
 rotate_left 1
 ·intro wz hSw
  first | (go_simp; done) | (go_simp; with_reducible rfl)
 simp only [List.set_cons_zero, List.set_cons_succ]
 refine wpAnyH_ready (rs := [10]) (by kernel_rfl) (by simp) ?_
 refine AllReadyH.cons rfl (fun K hK => ?_) AllReadyH.nil
 go_simp
 have H4 : Hid (FB w (w3.alloc (.cells #[.slice ja l.length jc, .int .i64 v0, .int .i64 v1, .int .i64 v2, .int .i64 v3, .int .i64 v4, .int .i64 v5, .int .i64 v6, .int .i64 v7, .int .i64 i0, .int .i64 i1, .int .i64 i2, .int .i64 i3, .int .i64 0, .int .i64 0, .int .i64 0, .int .i64 0, .int .i64 0, .int .i64 0, .int .i64 0, .int .i64 0, .slice none 0 0, .slice none 0 0, .int .i64 0, .int .i64 0, .map (some jq)] 85)) w.heap.size ∧ MM (w3.alloc (.cells #[.slice ja l.length jc, .int .i64 v0, .int .i64 v1, .int .i64 v2, .int .i64 v3, .int .i64 v4, .int .i64 v5, .int .i64 v6, .int .i64 v7, .int .i64 i0, .int .i64 i1, .int .i64 i2, .int .i64 i3, .int .i64 0, .int .i64 0, .int .i64 0, .int .i64 0, .int .i64 0, .int .i64 0, .int .i64 0, .int .i64 0, .slice none 0 0, .slice none 0 0, .int .i64 0, .int .i64 0, .map (some jq)] 85)) w3.heap.size (w3.heap.size + 1) l (.slice ja l.length jc) (.map (some jq)) [i0, i1, i2, i3] 0 (ms0 [v0, v1, v2, v3, v4, v5, v6, v7]) (.slice none 0 0) (.slice none 0 0)) := ⟨H3.out.1.grow (below_new _ _), MM.made (vs := [v0, v1, v2, v3, v4, v5, v6, v7]) (ins := [i0, i1, i2, i3]) rfl rfl H3.out.2.1 H3.out.2.2⟩
 have l3 : w.heap.size ≤ w3.heap.size := H3.out.1.bel.size
 have hS4 := hS3.below (below_new w3 (.cells #[.slice ja l.length jc, .int .i64 v0, .int .i64 v1, .int .i64 v2, .int .i64 v3, .int .i64 v4, .int .i64 v5, .int .i64 v6, .int .i64 v7, .int .i64 i0, .int .i64 i1, .int .i64 i2, .int .i64 i3, .int .i64 0, .int .i64 0, .int .i64 0, .int .i64 0, .int .i64 0, .int .i64 0, .int .i64 0, .int .i64 0, .slice none 0 0, .slice none 0 0, .int .i64 0, .int .i64 0, .map (some jq)] 85))
 refine hK.out _ _ hS4 (fun hHeld => ?_)
 clear hK K
 generalize hw4 : (w3.alloc (.cells #[.slice ja l.length jc, .int .i64 v0, .int .i64 v1, .int .i64 v2, .int .i64 v3, .int .i64 v4, .int .i64 v5, .int .i64 v6, .int .i64 v7, .int .i64 i0, .int .i64 i1, .int .i64 i2, .int .i64 i3, .int .i64 0, .int .i64 0, .int .i64 0, .int .i64 0, .int .i64 0, .int .i64 0, .int .i64 0, .int .i64 0, .slice none 0 0, .slice none 0 0, .int .i64 0, .int .i64 0, .map (some jq)] 85)) = w4 at *
 clear hw4
 refine take_at (i := 12) (n := 6) (v := ?_) rfl rfl (by kernel_rfl) (by kernel_rfl) (by kernel_rfl) (fun _ _ _ h => h) (Or.inl ⟨by rfl, ?_⟩) (by assumption) ?_
 rotate_left 1
 ·intro wz hSw
  first | (go_simp; done) | (go_simp; with_reducible rfl)
 simp only [List.set_cons_zero, List.set_cons_succ]
 obtain ⟨rs9, rf9, rl9⟩ := cells_of (l := [_, _]) H4.out.1.res
 have r90 := rs9 0 _ rfl
 have r91 := rs9 1 _ rfl
 clear rs9
 refine wpAnyH_ready (rs := [13]) (by kernel_rfl) (by simp) ?_
 refine AllReadyH.cons rfl (fun K hK => ?_) AllReadyH.nil
 go_simp
 have hb6 : Below w.heap.size w ((w4.setCell ⟨w.heap.size, 0, none⟩ (.int .i64 0)).setCell ⟨w.heap.size, 1, none⟩ (.int .i64 0)) := (H4.out.1.bel.setCell (Nat.le_refl _) _).setCell (Nat.le_refl _) _
 refine hK.out _ _ (HK.out.2.2.2.below hb6) (fun hHeld => ?_)
 clear hK K
 refine wpAnyH_done (by kernel_rfl) ?_ _
 refine NoPanic.normal ?_
 go_wp2_with fail
 refine bodyPost_ret (v := .tuple #[.pointer (some ⟨w3.heap.size, 0, none⟩), .agg #[.int .i64 0, .int .i64 0]]) (New_ends ((no_fault H4.out.1.res _).trans H4.out.1.res) rfl rfl) rfl ?_
 exact ⟨_, _, _, rfl, l3, H4.out.2.same (no_fault H4.out.1.res) (by simp), hb6⟩
end Go.Proofs.YtibcbdihphbfeacDoor
