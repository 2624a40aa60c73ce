import Derived.Test.YtccoobcggbbciaiGreatDoorMB
import Derived.Test.YtccoobcggbbciaiGreatDoorJJ
import Derived.OwnWalk
namespace Go.Proofs.YtccoobcggbbciaiGreatDoor
open Go.ChangeShapes Go.WideShapes Go.ChangeAt Go.RowKit

/-- An append that has room, as a step of a region. -/
theorem step_fits {P : Program} {ops : Array Oper} {o : Oper} {lst : List Value} {ds : List Deferred} {w : World} {K : Act → World → Prop} {Q : Exit → Act → World → Prop} {E : Prop} (hg : o.guard = none) (nd : Nat) (hnd : o.dst = some nd) (s x : Operand) (t : TypeId) (hop : o.op = Op.call { callee := Callee.builtin Builtin.append, args := #[s, x], argTypes := #[t, t] })
    (base : Nat) (e : TypeId) (i : TypeInfo) (size : Nat) (h1 : P.underlying t = some (.slice e)) (h2 : P.info? e = some i) (h4 : i.size = size)
    (g k cap : Nat) (xs : List Value) (hs : (Act.mk lst.toArray ds).eval s = .slice (some ⟨g, 0, none⟩) k cap) (hown : w.ownsRow base e size (.slice (some ⟨g, 0, none⟩) k cap) k xs) (ao : Option Addr) (m c : Nat) (news : List Value) (hx : (Act.mk lst.toArray ds).eval x = .slice ao m c) (hn : news.length = m * size)
    (hnone : ao = none → m = 0 ∧ c = 0) (hc : ∀ ad, ao = some ad → ∀ j u, news[j]? = some u → w.cell? (ad.add j) = some u) (h1c : ∀ u ∈ news, u.oneCell' = true) (b1 : k + m ≤ cap) (n' : Nat) (hn' : k + m = n') (ys : List Value) (hys : xs ++ news = ys)
    (hK : ∀ w', w'.ownsRow base e size (.slice (some ⟨g, 0, none⟩) n' cap) n' ys → w.grownBy w' (some g) → K ⟨(lst.set nd (.slice (some ⟨g, 0, none⟩) n' cap)).toArray, ds⟩ w') :
    if Region.wanted o (yielded ops (Act.mk lst.toArray ds).tmps) = true then Oper.wp P o ⟨lst.toArray, ds⟩ w K Q else E := by
  subst hn' hys
  have hw : Region.wanted o (yielded ops (Act.mk lst.toArray ds).tmps) = true := by simp [Region.wanted, hg]
  rw [if_pos hw]
  obtain ⟨w', hrun, ho, hgr⟩ : ∃ w', (Builtin.append_ #[t, t] o.type #[.slice (some ⟨g, 0, none⟩) k cap, .slice ao m c]).run P w = .ok (.slice (some ⟨g, 0, none⟩) (k + m) cap) w' ∧ w'.ownsRow base e size (.slice (some ⟨g, 0, none⟩) (k + m) cap) (k + m) (xs ++ news) ∧ w.grownBy w' (some g) := by
    cases ao with
    | some ad => exact run_append_fits w base t o.type e i size h1 h2 h4 g k cap xs hown ad m c news hn (hc ad rfl) h1c b1
    | none =>
      obtain ⟨rfl, rfl⟩ := hnone rfl
      have hnil : news = [] := List.eq_nil_of_length_eq_zero (by rw [hn]; omega)
      subst hnil
      exact ⟨w, run_append_owned_none w base t o.type e i size h1 h2 _ k xs hown, by simpa using hown, ⟨rfl, rfl, rfl, Nat.le_refl _, fun _ _ _ => rfl⟩⟩
  have hk2 := hK _ ho hgr
  have ep : Act.put ⟨lst.toArray, ds⟩ o.dst (.slice (some ⟨g, 0, none⟩) (k + m) cap) = ⟨(lst.set nd (.slice (some ⟨g, 0, none⟩) (k + m) cap)).toArray, ds⟩ := by rw [hnd]; simp [Act.put]
  rw [← ep] at hk2
  unfold Oper.wp
  simp [execOp, hop, resolve, invoke, builtin, hs, hx, hrun, Result.andThen]
  exact hk2

theorem infoCr : (Tryz.prog.info? 35).map (fun i => (i.zero, i.size, i.bytes)) = some (some (.agg #[.int .i64 0, .int .i64 0, .int .i64 0, .int .i64 0, .bool false, .int .i64 0]), 6, 48) := by kernel_rfl

theorem flatOneCr {l : List Cr} {u : Value} (h : u ∈ l.flatMap Cr.vals) : u.oneCell' = true := by
  obtain ⟨x, h⟩ := flat_mem h
  exact Cr.one h

def marksCr (m : Cr) : List Value := [.int .i64 m.c, .int .i64 m.h, .int .i64 m.t, .int .i64 m.d, .bool m.hi, .int .i64 m.p, .int .i64 m.c, .int .i64 m.h, .int .i64 m.t, .int .i64 m.d, .bool m.hi, .int .i64 m.p, .int .i64 m.c, .int .i64 m.h, .int .i64 m.t, .int .i64 m.d, .bool m.hi, .int .i64 m.p]
theorem marksCr_eq (m : Cr) : [m, m, m].flatMap Cr.vals = marksCr m := rfl

theorem lentOfCr {w : World} {B g : Nat} {l : List Cr} {m : Cr} (h : w.ownsRow B 35 6 (.slice (some ⟨g, 0, none⟩) (l.length + 3) (l.length + 3)) (l.length + 3) (l.flatMap Cr.vals ++ marksCr m)) : Lent Cr.vals w l m (.slice (some ⟨g, 0, none⟩) l.length (l.length + 3)) := by
  refine ⟨g, 0, l.length + 3, rfl, Nat.le_refl _, fun q u hq => ?_⟩
  rw [List.flatMap_append, marksCr_eq] at hq
  have hql := (List.getElem?_eq_some_iff.1 hq).1
  rw [List.length_append, flat_length Cr.vals 6 Cr.len] at hql
  have h9 : (marksCr m).length = 18 := rfl
  rw [Nat.zero_add]
  exact (h.cellAt q (by omega)).trans hq

/-- make, with room, as an equation. -/
theorem makeCr (W : World) (n g : Nat) (hn : n ≤ 100003) (hg : W.heap.size = g) : ∃ w1, (Instr.makeSlice 22 (.int .i64 0) (.int .i64 ((n : Int) + 3))).run Tryz.prog W = .ok (.slice (some ⟨g, 0, none⟩) 0 (n + 3)) w1 ∧ w1.ownsRow g 35 6 (.slice (some ⟨g, 0, none⟩) 0 (n + 3)) 0 [] ∧ Below g W w1 ∧ g < w1.heap.size := by
  subst hg
  obtain ⟨i0, hi0, hz0, hz1, hz2⟩ := info_parts infoCr
  obtain ⟨w1, hrun, hown, hgr⟩ := run_make_own (P := Tryz.prog) W W.heap.size 22 35 i0 _ 6 Tryz.underlying22 hi0 hz0 hz1 .i64 .i64 (n + 3) (by rw [hz2]; omega) (by unfold maxLen; omega) (Nat.le_refl _)
  exact ⟨w1, hrun, hown, (Below.refl _ W).grown hgr (Nat.le_refl _) (by intro k hk; cases hk), (hown.lt _ rfl).2⟩

theorem marksCellsCr (W : World) (m : Cr) (g : Nat) (hg : W.heap.size = g) (q : Nat) (u : Value) (hq : (marksCr m)[q]? = some u) : (W.alloc (.cells #[.int .i64 m.c, .int .i64 m.h, .int .i64 m.t, .int .i64 m.d, .bool m.hi, .int .i64 m.p, .int .i64 m.c, .int .i64 m.h, .int .i64 m.t, .int .i64 m.d, .bool m.hi, .int .i64 m.p, .int .i64 m.c, .int .i64 m.h, .int .i64 m.t, .int .i64 m.d, .bool m.hi, .int .i64 m.p] 35)).cell? ((⟨g, 0, none⟩ : Addr).add q) = some u := by
  subst hg
  rw [Addr.add_lit]
  have := (cells_of (l := marksCr m) (heap_alloc_new W (.cells #[.int .i64 m.c, .int .i64 m.h, .int .i64 m.t, .int .i64 m.d, .bool m.hi, .int .i64 m.p, .int .i64 m.c, .int .i64 m.h, .int .i64 m.t, .int .i64 m.d, .bool m.hi, .int .i64 m.p, .int .i64 m.c, .int .i64 m.h, .int .i64 m.t, .int .i64 m.d, .bool m.hi, .int .i64 m.p] 35))).1 q u hq
  simpa using this

theorem marksOneCr (m : Cr) : ∀ u ∈ marksCr m, u.oneCell' = true := by
  intro u hu
  rw [← marksCr_eq] at hu
  exact flatOneCr hu

set_option maxRecDepth 20000 in
set_option maxHeartbeats 4000000 in
/-- Lend. -/
theorem LendM_any (w : World) (l : List Cr) (m : Cr) (v : Value) (hl : l.length ≤ 100000) (hv : RowSl Cr.vals w l v) :
    Calls Tryz.prog 9 #[v, m.val] w fun r w' => ∃ u, r = .returned u ∧ Lent Cr.vals w' l m u ∧ Below w.heap.size w w' := by
  obtain ⟨ad, c, rfl, hnil, -, h⟩ := hv
  unfold Cr.val
  obtain ⟨i0, hi0, hz0, hz1, hz2⟩ := info_parts infoCr
  have hB0 : Below (w.heap.size + 1) (w.alloc (.cells #[.int .i64 m.c, .int .i64 m.h, .int .i64 m.t, .int .i64 m.d, .bool m.hi, .int .i64 m.p] 35)) ((w.alloc (.cells #[.int .i64 m.c, .int .i64 m.h, .int .i64 m.t, .int .i64 m.d, .bool m.hi, .int .i64 m.p] 35)).drew) := (Below.refl _ _).drew
  have hKeep : ∀ W, Below (w.heap.size + 1) (w.alloc (.cells #[.int .i64 m.c, .int .i64 m.h, .int .i64 m.t, .int .i64 m.d, .bool m.hi, .int .i64 m.p] 35)) W → W.cell? ⟨w.heap.size, 0, none⟩ = some (.int .i64 m.c) ∧ W.cell? ⟨w.heap.size, 1, none⟩ = some (.int .i64 m.h) ∧ W.cell? ⟨w.heap.size, 2, none⟩ = some (.int .i64 m.t) ∧ W.cell? ⟨w.heap.size, 3, none⟩ = some (.int .i64 m.d) ∧ W.cell? ⟨w.heap.size, 4, none⟩ = some (.bool m.hi) ∧ W.cell? ⟨w.heap.size, 5, none⟩ = some (.int .i64 m.p) := fun W hb => ⟨(hb.cell (by show w.heap.size < w.heap.size + 1; omega)).trans (by go_simp), (hb.cell (by show w.heap.size < w.heap.size + 1; omega)).trans (by go_simp), (hb.cell (by show w.heap.size < w.heap.size + 1; omega)).trans (by go_simp), (hb.cell (by show w.heap.size < w.heap.size + 1; omega)).trans (by go_simp), (hb.cell (by show w.heap.size < w.heap.size + 1; omega)).trans (by go_simp), (hb.cell (by show w.heap.size < w.heap.size + 1; omega)).trans (by go_simp)⟩
  have hA : ∀ W, Below (w.heap.size + 1) (w.alloc (.cells #[.int .i64 m.c, .int .i64 m.h, .int .i64 m.t, .int .i64 m.d, .bool m.hi, .int .i64 m.p] 35)) W → ∀ ad', ad = some ad' → ∀ j u, (l.flatMap Cr.vals)[j]? = some u → W.cell? (ad'.add j) = some u := fun W hb => rowArg h ((below_new w (.cells #[.int .i64 m.c, .int .i64 m.h, .int .i64 m.t, .int .i64 m.d, .bool m.hi, .int .i64 m.p] 35)).trans (hb.mono (by omega)))
  obtain ⟨w1, hm1, ho1, hb1, hl1⟩ := makeCr ((w.alloc (.cells #[.int .i64 m.c, .int .i64 m.h, .int .i64 m.t, .int .i64 m.d, .bool m.hi, .int .i64 m.p] 35)).drew) l.length (w.heap.size + 1) (by omega) (by simp)
  obtain ⟨v1, hm2, ho2, hb2, hl2⟩ := makeCr (((w.alloc (.cells #[.int .i64 m.c, .int .i64 m.h, .int .i64 m.t, .int .i64 m.d, .bool m.hi, .int .i64 m.p] 35)).drew).alloc (.cells #[.int .i64 m.c, .int .i64 m.h, .int .i64 m.t, .int .i64 m.d, .bool m.hi, .int .i64 m.p, .int .i64 m.c, .int .i64 m.h, .int .i64 m.t, .int .i64 m.d, .bool m.hi, .int .i64 m.p, .int .i64 m.c, .int .i64 m.h, .int .i64 m.t, .int .i64 m.d, .bool m.hi, .int .i64 m.p] 35)) l.length (w.heap.size + 1 + 1) (by omega) (by simp)
  rw [show (((w.alloc (.cells #[.int .i64 m.c, .int .i64 m.h, .int .i64 m.t, .int .i64 m.d, .bool m.hi, .int .i64 m.p] 35)).drew).alloc (.cells #[.int .i64 m.c, .int .i64 m.h, .int .i64 m.t, .int .i64 m.d, .bool m.hi, .int .i64 m.p, .int .i64 m.c, .int .i64 m.h, .int .i64 m.t, .int .i64 m.d, .bool m.hi, .int .i64 m.p, .int .i64 m.c, .int .i64 m.h, .int .i64 m.t, .int .i64 m.d, .bool m.hi, .int .i64 m.p] 35)) = ((w.alloc (.cells #[.int .i64 m.c, .int .i64 m.h, .int .i64 m.t, .int .i64 m.d, .bool m.hi, .int .i64 m.p] 35)).alloc (.cells #[.int .i64 m.c, .int .i64 m.h, .int .i64 m.t, .int .i64 m.d, .bool m.hi, .int .i64 m.p, .int .i64 m.c, .int .i64 m.h, .int .i64 m.t, .int .i64 m.d, .bool m.hi, .int .i64 m.p, .int .i64 m.c, .int .i64 m.h, .int .i64 m.t, .int .i64 m.d, .bool m.hi, .int .i64 m.p] 35)).drew from rfl] at hm2
  have hBw1 : Below (w.heap.size + 1) (w.alloc (.cells #[.int .i64 m.c, .int .i64 m.h, .int .i64 m.t, .int .i64 m.d, .bool m.hi, .int .i64 m.p] 35)) w1 := hB0.trans hb1
  have hBv1 : Below (w.heap.size + 1) (w.alloc (.cells #[.int .i64 m.c, .int .i64 m.h, .int .i64 m.t, .int .i64 m.d, .bool m.hi, .int .i64 m.p] 35)) v1 := (hB0.alloc (by simp) (.cells #[.int .i64 m.c, .int .i64 m.h, .int .i64 m.t, .int .i64 m.d, .bool m.hi, .int .i64 m.p, .int .i64 m.c, .int .i64 m.h, .int .i64 m.t, .int .i64 m.d, .bool m.hi, .int .i64 m.p, .int .i64 m.c, .int .i64 m.h, .int .i64 m.t, .int .i64 m.d, .bool m.hi, .int .i64 m.p] 35)).trans (hb2.mono (by omega))
  have hmk2 : ∀ j u, (marksCr m)[j]? = some u → v1.cell? ((⟨w.heap.size + 1, 0, none⟩ : Addr).add j) = some u := fun j u hj => (hb2.cell (by rw [Addr.add_lit]; show w.heap.size + 1 < w.heap.size + 1 + 1; omega)).trans (marksCellsCr ((w.alloc (.cells #[.int .i64 m.c, .int .i64 m.h, .int .i64 m.t, .int .i64 m.d, .bool m.hi, .int .i64 m.p] 35)).drew) m _ (by simp) j u hj)
  have hwr : IntKind.i64.wrap ((l.length : Int) + 3) = (l.length : Int) + 3 := by rw [IntKind.wrap_i64]; omega
  go_enter Tryz.func9, Tryz.ntmps9
  go_wp2_with fail
  refine wp_region_noPanic ?_
  refine wp_region_held_drew (S := fun w' => w'.cell? ⟨w.heap.size, 0, none⟩ = some (.int .i64 m.c) ∧ w'.cell? ⟨w.heap.size, 1, none⟩ = some (.int .i64 m.h) ∧ w'.cell? ⟨w.heap.size, 2, none⟩ = some (.int .i64 m.t) ∧ w'.cell? ⟨w.heap.size, 3, none⟩ = some (.int .i64 m.d) ∧ w'.cell? ⟨w.heap.size, 4, none⟩ = some (.bool m.hi) ∧ w'.cell? ⟨w.heap.size, 5, none⟩ = some (.int .i64 m.p)) (by kernel_rfl) (hKeep _ hB0) (fun hHeld => ?_)
  refine take_at (i := 0) (n := 6) (v := ?_) rfl rfl (by kernel_rfl) (by kernel_rfl) (by kernel_rfl) (fun _ _ _ h => h) (Or.inl ⟨by rfl, ?_⟩) (by assumption) ?_
  rotate_left 1
  · intro wz hSw
    first | (go_simp; done) | (go_simp; with_reducible rfl)
  simp only [List.set_cons_zero, List.set_cons_succ]
  refine take_at (i := 1) (n := 7) (v := ?_) rfl rfl (by kernel_rfl) (by kernel_rfl) (by kernel_rfl) (fun _ _ _ h => h) (Or.inl ⟨by rfl, ?_⟩) (by assumption) ?_
  rotate_left 1
  · intro wz hSw
    first | (go_simp; done) | (go_simp; with_reducible rfl)
  simp only [List.set_cons_zero, List.set_cons_succ]
  refine take_at (i := 2) (n := 8) (v := ?_) rfl rfl (by kernel_rfl) (by kernel_rfl) (by kernel_rfl) (fun _ _ _ h => h) (Or.inl ⟨by rfl, ?_⟩) (by assumption) ?_
  rotate_left 1
  · intro wz hSw
    first | (go_simp; done) | (go_simp; with_reducible rfl)
  simp only [List.set_cons_zero, List.set_cons_succ]
  refine take_at (i := 4) (n := 10) (v := ?_) rfl rfl (by kernel_rfl) (by kernel_rfl) (by kernel_rfl) (fun _ _ _ h => h) (Or.inl ⟨by rfl, ?_⟩) (by assumption) ?_
  rotate_left 1
  · intro wz hSw
    first | (go_simp; done) | (go_simp; with_reducible rfl)
  simp only [List.set_cons_zero, List.set_cons_succ]
  refine take_at (i := 6) (n := 12) (v := ?_) rfl rfl (by kernel_rfl) (by kernel_rfl) (by kernel_rfl) (fun _ _ _ h => h) (Or.inl ⟨by rfl, ?_⟩) (by assumption) ?_
  rotate_left 1
  · intro wz hSw
    first | (go_simp; done) | (go_simp; with_reducible rfl)
  simp only [List.set_cons_zero, List.set_cons_succ]
  refine take_at (i := 7) (n := 13) (v := ?_) rfl rfl (by kernel_rfl) (by kernel_rfl) (by kernel_rfl) (fun _ _ _ h => h) (Or.inl ⟨by rfl, ?_⟩) (by assumption) ?_
  rotate_left 1
  · intro wz hSw
    first | (go_simp; done) | (go_simp; with_reducible rfl)
  simp only [List.set_cons_zero, List.set_cons_succ]
  refine take_at (i := 8) (n := 14) (v := ?_) rfl rfl (by kernel_rfl) (by kernel_rfl) (by kernel_rfl) (fun _ _ _ h => h) (Or.inl ⟨by rfl, ?_⟩) (by assumption) ?_
  rotate_left 1
  · intro wz hSw
    first | (go_simp; done) | (go_simp; with_reducible rfl)
  simp only [List.set_cons_zero, List.set_cons_succ]
  refine wpAnyH_ready (rs := [3, 9]) (by kernel_rfl) (by simp) ?_
  refine AllReadyH.cons rfl (fun K hK => ?_) (AllReadyH.cons rfl (fun K hK => ?_) AllReadyH.nil)
  · go_simp
    refine hK.out _ _ (hKeep _ hBw1) (fun hHeld => ?_)
    clear hK K
    refine wpAnyH_ready (rs := [5, 9]) (by kernel_rfl) (by simp) ?_
    refine AllReadyH.cons rfl (fun K hK => ?_) (AllReadyH.cons rfl (fun K hK => ?_) AllReadyH.nil)
    · refine step_fits rfl 11 rfl (.tmp 9) (.tmp 10) 22 rfl (w.heap.size + 1) 35 i0 6 Tryz.underlying22 hi0 hz1 (w.heap.size + 1) (0) (l.length + 3) ([]) rfl ho1 (ad) (l.length) (c) (l.flatMap Cr.vals) rfl (flat_length Cr.vals 6 Cr.len l) hnil (hA w1 hBw1) (fun u hu => flatOneCr hu) (by omega) l.length (by omega) (l.flatMap Cr.vals) rfl ?_
      intro w2 how2 hgw2
      have hBw2 : Below (w.heap.size + 1) (w.alloc (.cells #[.int .i64 m.c, .int .i64 m.h, .int .i64 m.t, .int .i64 m.d, .bool m.hi, .int .i64 m.p] 35)) w2 := hBw1.grown hgw2 (by omega) (by intro q hq; cases hq; omega)
      have hszw2 := hgw2.size
      refine hK.out _ _ (hKeep _ hBw2) (fun hHeld => ?_)
      clear hK K
      simp only [List.set_cons_zero, List.set_cons_succ]
      refine wpAnyH_ready (rs := [9]) (by kernel_rfl) (by simp) ?_
      refine AllReadyH.cons rfl (fun K hK => ?_) AllReadyH.nil
      go_simp
      refine hK.out _ _ (hKeep _ (hBw2.alloc (by omega) _)) (fun hHeld => ?_)
      clear hK K
      refine wpAnyH_ready (rs := [10]) (by kernel_rfl) (by simp) ?_
      refine AllReadyH.cons rfl (fun K hK => ?_) AllReadyH.nil
      refine step_fits rfl 16 rfl (.tmp 11) (.tmp 15) 22 rfl (w.heap.size + 1) 35 i0 6 Tryz.underlying22 hi0 hz1 (w.heap.size + 1) l.length (l.length + 3) (l.flatMap Cr.vals) rfl (ownsRow_same how2 (fun k _ hk => (below_new w2 _).block k hk)) (some ⟨w2.heap.size, 0, none⟩) (3) (3) (marksCr m) rfl rfl (by intro e; cases e) (by intro ad' e j u hj; cases e; exact marksCellsCr w2 m _ rfl j u hj) (marksOneCr m) (by omega) (l.length + 3) rfl (l.flatMap Cr.vals ++ marksCr m) rfl ?_
      intro w3 how3 hgw3
      have hBw3 : Below (w.heap.size + 1) (w.alloc (.cells #[.int .i64 m.c, .int .i64 m.h, .int .i64 m.t, .int .i64 m.d, .bool m.hi, .int .i64 m.p] 35)) w3 := (hBw2.alloc (by omega) _).grown hgw3 (by simp; omega) (by intro q hq; cases hq; omega)
      have hszw3 := hgw3.size
      refine hK.out _ _ (hKeep _ hBw3) (fun hHeld => ?_)
      clear hK K
      simp only [List.set_cons_zero, List.set_cons_succ]
      refine take_at (i := 11) (n := 5) (v := ?_) rfl rfl (by kernel_rfl) (by kernel_rfl) (by kernel_rfl) (fun _ _ _ h => h) (Or.inl ⟨by rfl, ?_⟩) (by assumption) ?_
      rotate_left 1
      · intro wz hSw
        first | (go_simp; done) | (go_simp; with_reducible rfl)
      simp only [List.set_cons_zero, List.set_cons_succ]
      refine wpAnyH_done (by kernel_rfl) ?_ _
      refine NoPanic.normal ?_
      go_wp2_with fail
      go_ret
      refine ⟨_, rfl, lentOfCr how3, (below_new w (.cells #[.int .i64 m.c, .int .i64 m.h, .int .i64 m.t, .int .i64 m.d, .bool m.hi, .int .i64 m.p] 35)).trans (hBw3.mono (by omega))⟩
    · go_simp
      refine hK.out _ _ (hKeep _ (hBw1.alloc (by omega) _)) (fun hHeld => ?_)
      clear hK K
      refine wpAnyH_ready (rs := [5]) (by kernel_rfl) (by simp) ?_
      refine AllReadyH.cons rfl (fun K hK => ?_) AllReadyH.nil
      refine step_fits rfl 11 rfl (.tmp 9) (.tmp 10) 22 rfl (w.heap.size + 1) 35 i0 6 Tryz.underlying22 hi0 hz1 (w.heap.size + 1) (0) (l.length + 3) ([]) rfl (ownsRow_same ho1 (fun k _ hk => (below_new w1 _).block k hk)) (ad) (l.length) (c) (l.flatMap Cr.vals) rfl (flat_length Cr.vals 6 Cr.len l) hnil (hA (w1.alloc (.cells #[.int .i64 m.c, .int .i64 m.h, .int .i64 m.t, .int .i64 m.d, .bool m.hi, .int .i64 m.p, .int .i64 m.c, .int .i64 m.h, .int .i64 m.t, .int .i64 m.d, .bool m.hi, .int .i64 m.p, .int .i64 m.c, .int .i64 m.h, .int .i64 m.t, .int .i64 m.d, .bool m.hi, .int .i64 m.p] 35)) (hBw1.alloc (by omega) _)) (fun u hu => flatOneCr hu) (by omega) l.length (by omega) (l.flatMap Cr.vals) rfl ?_
      intro w2 how2 hgw2
      have hBw2 : Below (w.heap.size + 1) (w.alloc (.cells #[.int .i64 m.c, .int .i64 m.h, .int .i64 m.t, .int .i64 m.d, .bool m.hi, .int .i64 m.p] 35)) w2 := (hBw1.alloc (by omega) _).grown hgw2 (by simp; omega) (by intro q hq; cases hq; omega)
      have hszw2 := hgw2.size
      refine hK.out _ _ (hKeep _ hBw2) (fun hHeld => ?_)
      clear hK K
      simp only [List.set_cons_zero, List.set_cons_succ]
      refine wpAnyH_ready (rs := [10]) (by kernel_rfl) (by simp) ?_
      refine AllReadyH.cons rfl (fun K hK => ?_) AllReadyH.nil
      refine step_fits rfl 16 rfl (.tmp 11) (.tmp 15) 22 rfl (w.heap.size + 1) 35 i0 6 Tryz.underlying22 hi0 hz1 (w.heap.size + 1) l.length (l.length + 3) (l.flatMap Cr.vals) rfl how2 (some ⟨w1.heap.size, 0, none⟩) (3) (3) (marksCr m) rfl rfl (by intro e; cases e) (by intro ad' e j u hj; cases e; exact (hgw2.cell (marksCellsCr w1 m _ rfl j u hj) (by first | (simp [Addr.add_lit]; done) | (simp [Addr.add_lit]; omega)))) (marksOneCr m) (by omega) (l.length + 3) rfl (l.flatMap Cr.vals ++ marksCr m) rfl ?_
      intro w3 how3 hgw3
      have hBw3 : Below (w.heap.size + 1) (w.alloc (.cells #[.int .i64 m.c, .int .i64 m.h, .int .i64 m.t, .int .i64 m.d, .bool m.hi, .int .i64 m.p] 35)) w3 := hBw2.grown hgw3 (by simp at hszw2; omega) (by intro q hq; cases hq; omega)
      have hszw3 := hgw3.size
      refine hK.out _ _ (hKeep _ hBw3) (fun hHeld => ?_)
      clear hK K
      simp only [List.set_cons_zero, List.set_cons_succ]
      refine take_at (i := 11) (n := 5) (v := ?_) rfl rfl (by kernel_rfl) (by kernel_rfl) (by kernel_rfl) (fun _ _ _ h => h) (Or.inl ⟨by rfl, ?_⟩) (by assumption) ?_
      rotate_left 1
      · intro wz hSw
        first | (go_simp; done) | (go_simp; with_reducible rfl)
      simp only [List.set_cons_zero, List.set_cons_succ]
      refine wpAnyH_done (by kernel_rfl) ?_ _
      refine NoPanic.normal ?_
      go_wp2_with fail
      go_ret
      refine ⟨_, rfl, lentOfCr how3, (below_new w (.cells #[.int .i64 m.c, .int .i64 m.h, .int .i64 m.t, .int .i64 m.d, .bool m.hi, .int .i64 m.p] 35)).trans (hBw3.mono (by omega))⟩
  · go_simp
    refine hK.out _ _ (hKeep _ (hB0.alloc (by simp) _)) (fun hHeld => ?_)
    clear hK K
    refine wpAnyH_ready (rs := [3]) (by kernel_rfl) (by simp) ?_
    refine AllReadyH.cons rfl (fun K hK => ?_) AllReadyH.nil
    go_simp
    refine hK.out _ _ (hKeep _ hBv1) (fun hHeld => ?_)
    clear hK K
    refine wpAnyH_ready (rs := [5]) (by kernel_rfl) (by simp) ?_
    refine AllReadyH.cons rfl (fun K hK => ?_) AllReadyH.nil
    refine step_fits rfl 11 rfl (.tmp 9) (.tmp 10) 22 rfl (w.heap.size + 1 + 1) 35 i0 6 Tryz.underlying22 hi0 hz1 (w.heap.size + 1 + 1) (0) (l.length + 3) ([]) rfl ho2 (ad) (l.length) (c) (l.flatMap Cr.vals) rfl (flat_length Cr.vals 6 Cr.len l) hnil (hA v1 hBv1) (fun u hu => flatOneCr hu) (by omega) l.length (by omega) (l.flatMap Cr.vals) rfl ?_
    intro w2 how2 hgw2
    have hBw2 : Below (w.heap.size + 1) (w.alloc (.cells #[.int .i64 m.c, .int .i64 m.h, .int .i64 m.t, .int .i64 m.d, .bool m.hi, .int .i64 m.p] 35)) w2 := hBv1.grown hgw2 (by omega) (by intro q hq; cases hq; omega)
    have hszw2 := hgw2.size
    refine hK.out _ _ (hKeep _ hBw2) (fun hHeld => ?_)
    clear hK K
    simp only [List.set_cons_zero, List.set_cons_succ]
    refine wpAnyH_ready (rs := [10]) (by kernel_rfl) (by simp) ?_
    refine AllReadyH.cons rfl (fun K hK => ?_) AllReadyH.nil
    refine step_fits rfl 16 rfl (.tmp 11) (.tmp 15) 22 rfl (w.heap.size + 1 + 1) 35 i0 6 Tryz.underlying22 hi0 hz1 (w.heap.size + 1 + 1) l.length (l.length + 3) (l.flatMap Cr.vals) rfl how2 (some ⟨w.heap.size + 1, 0, none⟩) (3) (3) (marksCr m) rfl rfl (by intro e; cases e) (by intro ad' e j u hj; cases e; exact (hgw2.cell (hmk2 j u hj) (by first | (simp [Addr.add_lit]; done) | (simp [Addr.add_lit]; omega)))) (marksOneCr m) (by omega) (l.length + 3) rfl (l.flatMap Cr.vals ++ marksCr m) rfl ?_
    intro w3 how3 hgw3
    have hBw3 : Below (w.heap.size + 1) (w.alloc (.cells #[.int .i64 m.c, .int .i64 m.h, .int .i64 m.t, .int .i64 m.d, .bool m.hi, .int .i64 m.p] 35)) w3 := hBw2.grown hgw3 (by omega) (by intro q hq; cases hq; omega)
    have hszw3 := hgw3.size
    refine hK.out _ _ (hKeep _ hBw3) (fun hHeld => ?_)
    clear hK K
    simp only [List.set_cons_zero, List.set_cons_succ]
    refine take_at (i := 11) (n := 5) (v := ?_) rfl rfl (by kernel_rfl) (by kernel_rfl) (by kernel_rfl) (fun _ _ _ h => h) (Or.inl ⟨by rfl, ?_⟩) (by assumption) ?_
    rotate_left 1
    · intro wz hSw
      first | (go_simp; done) | (go_simp; with_reducible rfl)
    simp only [List.set_cons_zero, List.set_cons_succ]
    refine wpAnyH_done (by kernel_rfl) ?_ _
    refine NoPanic.normal ?_
    go_wp2_with fail
    go_ret
    refine ⟨_, rfl, lentOfCr how3, (below_new w (.cells #[.int .i64 m.c, .int .i64 m.h, .int .i64 m.t, .int .i64 m.d, .bool m.hi, .int .i64 m.p] 35)).trans (hBw3.mono (by omega))⟩
theorem lent_at {α : Type} {f : α → List Value} {sz : Nat} (hf : ∀ x, (f x).length = sz) {w : World} {l : List α} {m : α} {b o j k : Nat} {u : Value} (h : ∀ q u, ((l ++ [m, m, m]).flatMap f)[q]? = some u → w.cell? ⟨b, o + q, none⟩ = some u) (h1 : l.length ≤ j) (h2 : j < l.length + 3) (hk : k < sz) (hu : (f m)[k]? = some u) : w.cell? ⟨b, o + (j * sz + k), none⟩ = some u := by
  refine h _ _ ((flat_at f sz hf (l ++ [m, m, m]) j k m ?_ hk).trans hu)
  rw [List.getElem?_append_right h1]
  have : j - l.length = 0 ∨ j - l.length = 1 ∨ j - l.length = 2 := by omega
  rcases this with e | e | e <;> rw [e] <;> rfl

set_option maxRecDepth 20000 in
set_option maxHeartbeats 4000000 in
/-- Still, of a list that was lent and stands as it did. -/
theorem StillM_any (w : World) (l : List Cr) (m : Cr) (v v' : Value) (hl : l.length ≤ 100000) (h : Lent Cr.vals w l m v) (h' : RowSl Cr.vals w l v') :
    Calls Tryz.prog 15 #[v, v', m.val] w fun r w' => r = .returned (.bool true) ∧ Below w.heap.size w w' := by
  obtain ⟨b, o, cap, rfl, hcap, hrow⟩ := h
  obtain ⟨ad', c', rfl, -, -, hc'⟩ := h'
  have HR : Hid (_ ∧ _) := ⟨hrow, hc'⟩
  clear hrow hc'
  have HM : Hid (∀ w2 : World, (∀ q u, ((l ++ [m, m, m]).flatMap Cr.vals)[q]? = some u → w2.cell? ⟨b, o + q, none⟩ = some u) → ∀ j, l.length ≤ j → j < l.length + 3 → CrAt w2 b (o + j * 6) m) := fun w2 h j h1 h2 => by
    have key : ∀ k u, k < 6 → m.vals[k]? = some u → w2.cell? ⟨b, o + j * 6 + k, none⟩ = some u := fun k u hk hu => by
      rw [Nat.add_assoc]
      exact lent_at Cr.len h h1 h2 hk hu
    exact ⟨key 0 _ (by omega) rfl, key 1 _ (by omega) rfl, key 2 _ (by omega) rfl, key 3 _ (by omega) rfl, key 4 _ (by omega) rfl, key 5 _ (by omega) rfl⟩
  obtain ⟨mc, mh, mt, md, mhi, mp⟩ := m
  unfold Cr.val
  dsimp only
  go_enter Tryz.func15, Tryz.ntmps15
  go_wp2_with fail
  go_loopw [17] (fun x wr => ∃ j : Nat, j ≤ l.length + 3 ∧ x = .int .i64 j ∧ Below (w.heap.size + 1) (w.alloc (.cells #[.int .i64 mc, .int .i64 mh, .int .i64 mt, .int .i64 md, .bool mhi, .int .i64 mp] 35)) wr) (fun x _ => l.length + 3 - (intOf x).toNat)
  case atStart => exact ⟨0, Nat.zero_le _, rfl, Below.refl _ _⟩
  case round =>
    obtain ⟨j, hj, rfl, hb⟩ := hrel
    have hbw : Below w.heap.size w wr := (below_new w (.cells #[.int .i64 mc, .int .i64 mh, .int .i64 mt, .int .i64 md, .bool mhi, .int .i64 mp] 35)).trans (hb.mono (by omega))
    have m_0 : wr.cell? ⟨w.heap.size, 0, none⟩ = some (.int .i64 mc) := (hb.cell (by show w.heap.size < w.heap.size + 1; omega)).trans (by go_simp)
    have m_1 : wr.cell? ⟨w.heap.size, 1, none⟩ = some (.int .i64 mh) := (hb.cell (by show w.heap.size < w.heap.size + 1; omega)).trans (by go_simp)
    have m_2 : wr.cell? ⟨w.heap.size, 2, none⟩ = some (.int .i64 mt) := (hb.cell (by show w.heap.size < w.heap.size + 1; omega)).trans (by go_simp)
    have m_3 : wr.cell? ⟨w.heap.size, 3, none⟩ = some (.int .i64 md) := (hb.cell (by show w.heap.size < w.heap.size + 1; omega)).trans (by go_simp)
    have m_4 : wr.cell? ⟨w.heap.size, 4, none⟩ = some (.bool mhi) := (hb.cell (by show w.heap.size < w.heap.size + 1; omega)).trans (by go_simp)
    have m_5 : wr.cell? ⟨w.heap.size, 5, none⟩ = some (.int .i64 mp) := (hb.cell (by show w.heap.size < w.heap.size + 1; omega)).trans (by go_simp)
    have lw : w.heap.size < wr.heap.size := World.block_lt_of_cell? _ _ m_0
    have HB : Hid (Below (w.heap.size + 1) (w.alloc (.cells #[.int .i64 mc, .int .i64 mh, .int .i64 mt, .int .i64 md, .bool mhi, .int .i64 mp] 35)) wr) := hb
    by_cases hlt : j < l.length
    · obtain ⟨x, hx, -⟩ := drop_at hlt
      have c := cr_at (fun q u hq => below_cell hbw (HR.out.1 q u hq)) (show (l ++ _)[j]? = some x by rw [List.getElem?_append_left hlt]; exact hx)
      rcases HR.out.2 with h | ⟨b', o', had', hrow'⟩
      · rw [h] at hlt; simp at hlt
      subst had'
      have d := cr_at (fun q u hq => below_cell hbw (hrow' q u hq)) hx
      obtain ⟨c0, c1, c2, c3, c4, c5⟩ := c
      obtain ⟨d0, d1, d2, d3, d4, d5⟩ := d
      have lb' : b' < wr.heap.size := World.block_lt_of_cell? _ _ d0
      have f1 : decide ((j : Int) < (l.length : Int)) = true := by simp; omega
      have f1' : decide (j < l.length) = true := by simp; omega
      have f2 : decide ((l.length : Int) ≤ (j : Int)) = false := by simp; omega
      have f2' : decide (l.length ≤ j) = false := by simp; omega
      clear hrow' hb hbw hx
      obtain ⟨xc, xh, xt, xd, xhi, xp⟩ := x
      dsimp only at c0 c1 c2 c3 c4 c5 d0 d1 d2 d3 d4 d5
      go_wp2_with fail
      go_quiet (fail)
      go_wp2_with fail
      go_roundw
      case rel => exact ⟨j + 1, by omega, by go_num, (HB.out.alloc (by omega) _).trans ((below_drewN').mono (by simp; omega))⟩
      case measure => simp [intOf]; omega
    · by_cases hlt2 : j < l.length + 3
      · have c := HM.out wr (fun q u hq => below_cell hbw (HR.out.1 q u hq)) j (by omega) hlt2
        obtain ⟨c0, c1, c2, c3, c4, c5⟩ := c
        have f1 : decide ((j : Int) < (l.length : Int)) = false := by simp; omega
        have f1' : decide (j < l.length) = false := by simp; omega
        have f2 : decide ((l.length : Int) ≤ (j : Int)) = true := by simp; omega
        have f2' : decide (l.length ≤ j) = true := by simp; omega
        clear hb hbw
        dsimp only at c0 c1 c2 c3 c4 c5
        go_wp2_with fail
        go_quiet (fail)
        go_wp2_with fail
        go_roundw
        case rel => exact ⟨j + 1, by omega, by go_num, (HB.out.alloc (by omega) _).trans ((below_drewN').mono (by simp; omega))⟩
        case measure => simp [intOf]; omega
      · have hje : j = l.length + 3 := by omega
        subst hje
        go_wp2_with fail
        go_ret
        exact ⟨rfl, hbw⟩
end Go.Proofs.YtccoobcggbbciaiGreatDoor
