import Derived.Test.YtccoobcggbbciaiGreatDoorDE0
import Derived.Test.YtccoobcggbbciaiGreatDoorFX
namespace Go.Proofs.YtccoobcggbbciaiGreatDoor
open Go.ChangeShapes Go.WideShapes Go.ChangeAt Go.RowKit

theorem infoCo : (Tryz.prog.info? 38).map (fun i => (i.zero, i.size, i.bytes)) = some (some (.agg #[.int .i64 0, .int .i64 0]), 2, 16) := by kernel_rfl

theorem flatOneCo {l : List Co} {u : Value} (h : u ∈ l.flatMap Co.vals) : u.oneCell' = true := by
  obtain ⟨x, h⟩ := flat_mem h
  exact Co.one h

def marksCo (m : Co) : List Value := [.int .i64 m.k, .int .i64 m.a, .int .i64 m.k, .int .i64 m.a, .int .i64 m.k, .int .i64 m.a]
theorem marksCo_eq (m : Co) : [m, m, m].flatMap Co.vals = marksCo m := rfl

theorem lentOfCo {w : World} {B g : Nat} {l : List Co} {m : Co} (h : w.ownsRow B 38 2 (.slice (some ⟨g, 0, none⟩) (l.length + 3) (l.length + 3)) (l.length + 3) (l.flatMap Co.vals ++ marksCo m)) : Lent Co.vals w l m (.slice (some ⟨g, 0, none⟩) l.length (l.length + 3)) := by
  refine ⟨g, 0, l.length + 3, rfl, Nat.le_refl _, fun q u hq => ?_⟩
  rw [List.flatMap_append, marksCo_eq] at hq
  have hql := (List.getElem?_eq_some_iff.1 hq).1
  rw [List.length_append, flat_length Co.vals 2 Co.len] at hql
  have h9 : (marksCo m).length = 6 := rfl
  rw [Nat.zero_add]
  exact (h.cellAt q (by omega)).trans hq

/-- make, with room, as an equation. -/
theorem makeCo (W : World) (n g : Nat) (hn : n ≤ 100003) (hg : W.heap.size = g) : ∃ w1, (Instr.makeSlice 23 (.int .i64 0) (.int .i64 ((n : Int) + 3))).run Tryz.prog W = .ok (.slice (some ⟨g, 0, none⟩) 0 (n + 3)) w1 ∧ w1.ownsRow g 38 2 (.slice (some ⟨g, 0, none⟩) 0 (n + 3)) 0 [] ∧ Below g W w1 ∧ g < w1.heap.size := by
  subst hg
  obtain ⟨i0, hi0, hz0, hz1, hz2⟩ := info_parts infoCo
  obtain ⟨w1, hrun, hown, hgr⟩ := run_make_own (P := Tryz.prog) W W.heap.size 23 38 i0 _ 2 Tryz.underlying23 hi0 hz0 hz1 .i64 .i64 (n + 3) (by rw [hz2]; omega) (by unfold maxLen; omega) (Nat.le_refl _)
  exact ⟨w1, hrun, hown, (Below.refl _ W).grown hgr (Nat.le_refl _) (by intro k hk; cases hk), (hown.lt _ rfl).2⟩

theorem marksCellsCo (W : World) (m : Co) (g : Nat) (hg : W.heap.size = g) (q : Nat) (u : Value) (hq : (marksCo m)[q]? = some u) : (W.alloc (.cells #[.int .i64 m.k, .int .i64 m.a, .int .i64 m.k, .int .i64 m.a, .int .i64 m.k, .int .i64 m.a] 38)).cell? ((⟨g, 0, none⟩ : Addr).add q) = some u := by
  subst hg
  rw [Addr.add_lit]
  have := (cells_of (l := marksCo m) (heap_alloc_new W (.cells #[.int .i64 m.k, .int .i64 m.a, .int .i64 m.k, .int .i64 m.a, .int .i64 m.k, .int .i64 m.a] 38))).1 q u hq
  simpa using this

theorem marksOneCo (m : Co) : ∀ u ∈ marksCo m, u.oneCell' = true := by
  intro u hu
  rw [← marksCo_eq] at hu
  exact flatOneCo hu

set_option maxRecDepth 20000 in
set_option maxHeartbeats 4000000 in
/-- Lend. -/
theorem LendC_any (w : World) (l : List Co) (m : Co) (v : Value) (hl : l.length ≤ 100000) (hv : RowSl Co.vals w l v) :
    Calls Tryz.prog 10 #[v, m.val] w fun r w' => ∃ u, r = .returned u ∧ Lent Co.vals w' l m u ∧ Below w.heap.size w w' := by
  obtain ⟨ad, c, rfl, hnil, -, h⟩ := hv
  unfold Co.val
  obtain ⟨i0, hi0, hz0, hz1, hz2⟩ := info_parts infoCo
  have hB0 : Below (w.heap.size + 1) (w.alloc (.cells #[.int .i64 m.k, .int .i64 m.a] 38)) ((w.alloc (.cells #[.int .i64 m.k, .int .i64 m.a] 38)).drew) := (Below.refl _ _).drew
  have hKeep : ∀ W, Below (w.heap.size + 1) (w.alloc (.cells #[.int .i64 m.k, .int .i64 m.a] 38)) W → W.cell? ⟨w.heap.size, 0, none⟩ = some (.int .i64 m.k) ∧ W.cell? ⟨w.heap.size, 1, none⟩ = some (.int .i64 m.a) := fun W hb => ⟨(hb.cell (by show w.heap.size < w.heap.size + 1; omega)).trans (by go_simp), (hb.cell (by show w.heap.size < w.heap.size + 1; omega)).trans (by go_simp)⟩
  have hA : ∀ W, Below (w.heap.size + 1) (w.alloc (.cells #[.int .i64 m.k, .int .i64 m.a] 38)) W → ∀ ad', ad = some ad' → ∀ j u, (l.flatMap Co.vals)[j]? = some u → W.cell? (ad'.add j) = some u := fun W hb => rowArg h ((below_new w (.cells #[.int .i64 m.k, .int .i64 m.a] 38)).trans (hb.mono (by omega)))
  obtain ⟨w1, hm1, ho1, hb1, hl1⟩ := makeCo ((w.alloc (.cells #[.int .i64 m.k, .int .i64 m.a] 38)).drew) l.length (w.heap.size + 1) (by omega) (by simp)
  obtain ⟨v1, hm2, ho2, hb2, hl2⟩ := makeCo (((w.alloc (.cells #[.int .i64 m.k, .int .i64 m.a] 38)).drew).alloc (.cells #[.int .i64 m.k, .int .i64 m.a, .int .i64 m.k, .int .i64 m.a, .int .i64 m.k, .int .i64 m.a] 38)) l.length (w.heap.size + 1 + 1) (by omega) (by simp)
  rw [show (((w.alloc (.cells #[.int .i64 m.k, .int .i64 m.a] 38)).drew).alloc (.cells #[.int .i64 m.k, .int .i64 m.a, .int .i64 m.k, .int .i64 m.a, .int .i64 m.k, .int .i64 m.a] 38)) = ((w.alloc (.cells #[.int .i64 m.k, .int .i64 m.a] 38)).alloc (.cells #[.int .i64 m.k, .int .i64 m.a, .int .i64 m.k, .int .i64 m.a, .int .i64 m.k, .int .i64 m.a] 38)).drew from rfl] at hm2
  have hBw1 : Below (w.heap.size + 1) (w.alloc (.cells #[.int .i64 m.k, .int .i64 m.a] 38)) w1 := hB0.trans hb1
  have hBv1 : Below (w.heap.size + 1) (w.alloc (.cells #[.int .i64 m.k, .int .i64 m.a] 38)) v1 := (hB0.alloc (by simp) (.cells #[.int .i64 m.k, .int .i64 m.a, .int .i64 m.k, .int .i64 m.a, .int .i64 m.k, .int .i64 m.a] 38)).trans (hb2.mono (by omega))
  have hmk2 : ∀ j u, (marksCo m)[j]? = some u → v1.cell? ((⟨w.heap.size + 1, 0, none⟩ : Addr).add j) = some u := fun j u hj => (hb2.cell (by rw [Addr.add_lit]; show w.heap.size + 1 < w.heap.size + 1 + 1; omega)).trans (marksCellsCo ((w.alloc (.cells #[.int .i64 m.k, .int .i64 m.a] 38)).drew) m _ (by simp) j u hj)
  have hwr : IntKind.i64.wrap ((l.length : Int) + 3) = (l.length : Int) + 3 := by rw [IntKind.wrap_i64]; omega
  go_enter Tryz.func10, Tryz.ntmps10
  go_wp2_with fail
  refine wp_region_noPanic ?_
  refine wp_region_held_drew (S := fun w' => w'.cell? ⟨w.heap.size, 0, none⟩ = some (.int .i64 m.k) ∧ w'.cell? ⟨w.heap.size, 1, none⟩ = some (.int .i64 m.a)) (by kernel_rfl) (hKeep _ hB0) (fun hHeld => ?_)
  refine take_at (i := 0) (n := 6) (v := ?_) rfl rfl (by kernel_rfl) (by kernel_rfl) (by kernel_rfl) (fun _ _ _ h => h) (Or.inl ⟨by rfl, ?_⟩) (by assumption) ?_
  rotate_left 1
  · intro wz hSw
    first | (go_simp; done) | (go_simp; with_reducible rfl)
  simp only [List.set_cons_zero, List.set_cons_succ]
  refine take_at (i := 1) (n := 7) (v := ?_) rfl rfl (by kernel_rfl) (by kernel_rfl) (by kernel_rfl) (fun _ _ _ h => h) (Or.inl ⟨by rfl, ?_⟩) (by assumption) ?_
  rotate_left 1
  · intro wz hSw
    first | (go_simp; done) | (go_simp; with_reducible rfl)
  simp only [List.set_cons_zero, List.set_cons_succ]
  refine take_at (i := 2) (n := 8) (v := ?_) rfl rfl (by kernel_rfl) (by kernel_rfl) (by kernel_rfl) (fun _ _ _ h => h) (Or.inl ⟨by rfl, ?_⟩) (by assumption) ?_
  rotate_left 1
  · intro wz hSw
    first | (go_simp; done) | (go_simp; with_reducible rfl)
  simp only [List.set_cons_zero, List.set_cons_succ]
  refine take_at (i := 4) (n := 10) (v := ?_) rfl rfl (by kernel_rfl) (by kernel_rfl) (by kernel_rfl) (fun _ _ _ h => h) (Or.inl ⟨by rfl, ?_⟩) (by assumption) ?_
  rotate_left 1
  · intro wz hSw
    first | (go_simp; done) | (go_simp; with_reducible rfl)
  simp only [List.set_cons_zero, List.set_cons_succ]
  refine take_at (i := 6) (n := 12) (v := ?_) rfl rfl (by kernel_rfl) (by kernel_rfl) (by kernel_rfl) (fun _ _ _ h => h) (Or.inl ⟨by rfl, ?_⟩) (by assumption) ?_
  rotate_left 1
  · intro wz hSw
    first | (go_simp; done) | (go_simp; with_reducible rfl)
  simp only [List.set_cons_zero, List.set_cons_succ]
  refine take_at (i := 7) (n := 13) (v := ?_) rfl rfl (by kernel_rfl) (by kernel_rfl) (by kernel_rfl) (fun _ _ _ h => h) (Or.inl ⟨by rfl, ?_⟩) (by assumption) ?_
  rotate_left 1
  · intro wz hSw
    first | (go_simp; done) | (go_simp; with_reducible rfl)
  simp only [List.set_cons_zero, List.set_cons_succ]
  refine take_at (i := 8) (n := 14) (v := ?_) rfl rfl (by kernel_rfl) (by kernel_rfl) (by kernel_rfl) (fun _ _ _ h => h) (Or.inl ⟨by rfl, ?_⟩) (by assumption) ?_
  rotate_left 1
  · intro wz hSw
    first | (go_simp; done) | (go_simp; with_reducible rfl)
  simp only [List.set_cons_zero, List.set_cons_succ]
  refine wpAnyH_ready (rs := [3, 9]) (by kernel_rfl) (by simp) ?_
  refine AllReadyH.cons rfl (fun K hK => ?_) (AllReadyH.cons rfl (fun K hK => ?_) AllReadyH.nil)
  · go_simp
    refine hK.out _ _ (hKeep _ hBw1) (fun hHeld => ?_)
    clear hK K
    refine wpAnyH_ready (rs := [5, 9]) (by kernel_rfl) (by simp) ?_
    refine AllReadyH.cons rfl (fun K hK => ?_) (AllReadyH.cons rfl (fun K hK => ?_) AllReadyH.nil)
    · refine step_fits rfl 11 rfl (.tmp 9) (.tmp 10) 23 rfl (w.heap.size + 1) 38 i0 2 Tryz.underlying23 hi0 hz1 (w.heap.size + 1) (0) (l.length + 3) ([]) rfl ho1 (ad) (l.length) (c) (l.flatMap Co.vals) rfl (flat_length Co.vals 2 Co.len l) hnil (hA w1 hBw1) (fun u hu => flatOneCo hu) (by omega) l.length (by omega) (l.flatMap Co.vals) rfl ?_
      intro w2 how2 hgw2
      have hBw2 : Below (w.heap.size + 1) (w.alloc (.cells #[.int .i64 m.k, .int .i64 m.a] 38)) w2 := hBw1.grown hgw2 (by omega) (by intro q hq; cases hq; omega)
      have hszw2 := hgw2.size
      refine hK.out _ _ (hKeep _ hBw2) (fun hHeld => ?_)
      clear hK K
      simp only [List.set_cons_zero, List.set_cons_succ]
      refine wpAnyH_ready (rs := [9]) (by kernel_rfl) (by simp) ?_
      refine AllReadyH.cons rfl (fun K hK => ?_) AllReadyH.nil
      go_simp
      refine hK.out _ _ (hKeep _ (hBw2.alloc (by omega) _)) (fun hHeld => ?_)
      clear hK K
      refine wpAnyH_ready (rs := [10]) (by kernel_rfl) (by simp) ?_
      refine AllReadyH.cons rfl (fun K hK => ?_) AllReadyH.nil
      refine step_fits rfl 16 rfl (.tmp 11) (.tmp 15) 23 rfl (w.heap.size + 1) 38 i0 2 Tryz.underlying23 hi0 hz1 (w.heap.size + 1) l.length (l.length + 3) (l.flatMap Co.vals) rfl (ownsRow_same how2 (fun k _ hk => (below_new w2 _).block k hk)) (some ⟨w2.heap.size, 0, none⟩) (3) (3) (marksCo m) rfl rfl (by intro e; cases e) (by intro ad' e j u hj; cases e; exact marksCellsCo w2 m _ rfl j u hj) (marksOneCo m) (by omega) (l.length + 3) rfl (l.flatMap Co.vals ++ marksCo m) rfl ?_
      intro w3 how3 hgw3
      have hBw3 : Below (w.heap.size + 1) (w.alloc (.cells #[.int .i64 m.k, .int .i64 m.a] 38)) w3 := (hBw2.alloc (by omega) _).grown hgw3 (by simp; omega) (by intro q hq; cases hq; omega)
      have hszw3 := hgw3.size
      refine hK.out _ _ (hKeep _ hBw3) (fun hHeld => ?_)
      clear hK K
      simp only [List.set_cons_zero, List.set_cons_succ]
      refine take_at (i := 11) (n := 5) (v := ?_) rfl rfl (by kernel_rfl) (by kernel_rfl) (by kernel_rfl) (fun _ _ _ h => h) (Or.inl ⟨by rfl, ?_⟩) (by assumption) ?_
      rotate_left 1
      · intro wz hSw
        first | (go_simp; done) | (go_simp; with_reducible rfl)
      simp only [List.set_cons_zero, List.set_cons_succ]
      refine wpAnyH_done (by kernel_rfl) ?_ _
      refine NoPanic.normal ?_
      go_wp2_with fail
      go_ret
      refine ⟨_, rfl, lentOfCo how3, (below_new w (.cells #[.int .i64 m.k, .int .i64 m.a] 38)).trans (hBw3.mono (by omega))⟩
    · go_simp
      refine hK.out _ _ (hKeep _ (hBw1.alloc (by omega) _)) (fun hHeld => ?_)
      clear hK K
      refine wpAnyH_ready (rs := [5]) (by kernel_rfl) (by simp) ?_
      refine AllReadyH.cons rfl (fun K hK => ?_) AllReadyH.nil
      refine step_fits rfl 11 rfl (.tmp 9) (.tmp 10) 23 rfl (w.heap.size + 1) 38 i0 2 Tryz.underlying23 hi0 hz1 (w.heap.size + 1) (0) (l.length + 3) ([]) rfl (ownsRow_same ho1 (fun k _ hk => (below_new w1 _).block k hk)) (ad) (l.length) (c) (l.flatMap Co.vals) rfl (flat_length Co.vals 2 Co.len l) hnil (hA (w1.alloc (.cells #[.int .i64 m.k, .int .i64 m.a, .int .i64 m.k, .int .i64 m.a, .int .i64 m.k, .int .i64 m.a] 38)) (hBw1.alloc (by omega) _)) (fun u hu => flatOneCo hu) (by omega) l.length (by omega) (l.flatMap Co.vals) rfl ?_
      intro w2 how2 hgw2
      have hBw2 : Below (w.heap.size + 1) (w.alloc (.cells #[.int .i64 m.k, .int .i64 m.a] 38)) w2 := (hBw1.alloc (by omega) _).grown hgw2 (by simp; omega) (by intro q hq; cases hq; omega)
      have hszw2 := hgw2.size
      refine hK.out _ _ (hKeep _ hBw2) (fun hHeld => ?_)
      clear hK K
      simp only [List.set_cons_zero, List.set_cons_succ]
      refine wpAnyH_ready (rs := [10]) (by kernel_rfl) (by simp) ?_
      refine AllReadyH.cons rfl (fun K hK => ?_) AllReadyH.nil
      refine step_fits rfl 16 rfl (.tmp 11) (.tmp 15) 23 rfl (w.heap.size + 1) 38 i0 2 Tryz.underlying23 hi0 hz1 (w.heap.size + 1) l.length (l.length + 3) (l.flatMap Co.vals) rfl how2 (some ⟨w1.heap.size, 0, none⟩) (3) (3) (marksCo m) rfl rfl (by intro e; cases e) (by intro ad' e j u hj; cases e; exact (hgw2.cell (marksCellsCo w1 m _ rfl j u hj) (by first | (simp [Addr.add_lit]; done) | (simp [Addr.add_lit]; omega)))) (marksOneCo m) (by omega) (l.length + 3) rfl (l.flatMap Co.vals ++ marksCo m) rfl ?_
      intro w3 how3 hgw3
      have hBw3 : Below (w.heap.size + 1) (w.alloc (.cells #[.int .i64 m.k, .int .i64 m.a] 38)) w3 := hBw2.grown hgw3 (by simp at hszw2; omega) (by intro q hq; cases hq; omega)
      have hszw3 := hgw3.size
      refine hK.out _ _ (hKeep _ hBw3) (fun hHeld => ?_)
      clear hK K
      simp only [List.set_cons_zero, List.set_cons_succ]
      refine take_at (i := 11) (n := 5) (v := ?_) rfl rfl (by kernel_rfl) (by kernel_rfl) (by kernel_rfl) (fun _ _ _ h => h) (Or.inl ⟨by rfl, ?_⟩) (by assumption) ?_
      rotate_left 1
      · intro wz hSw
        first | (go_simp; done) | (go_simp; with_reducible rfl)
      simp only [List.set_cons_zero, List.set_cons_succ]
      refine wpAnyH_done (by kernel_rfl) ?_ _
      refine NoPanic.normal ?_
      go_wp2_with fail
      go_ret
      refine ⟨_, rfl, lentOfCo how3, (below_new w (.cells #[.int .i64 m.k, .int .i64 m.a] 38)).trans (hBw3.mono (by omega))⟩
  · go_simp
    refine hK.out _ _ (hKeep _ (hB0.alloc (by simp) _)) (fun hHeld => ?_)
    clear hK K
    refine wpAnyH_ready (rs := [3]) (by kernel_rfl) (by simp) ?_
    refine AllReadyH.cons rfl (fun K hK => ?_) AllReadyH.nil
    go_simp
    refine hK.out _ _ (hKeep _ hBv1) (fun hHeld => ?_)
    clear hK K
    refine wpAnyH_ready (rs := [5]) (by kernel_rfl) (by simp) ?_
    refine AllReadyH.cons rfl (fun K hK => ?_) AllReadyH.nil
    refine step_fits rfl 11 rfl (.tmp 9) (.tmp 10) 23 rfl (w.heap.size + 1 + 1) 38 i0 2 Tryz.underlying23 hi0 hz1 (w.heap.size + 1 + 1) (0) (l.length + 3) ([]) rfl ho2 (ad) (l.length) (c) (l.flatMap Co.vals) rfl (flat_length Co.vals 2 Co.len l) hnil (hA v1 hBv1) (fun u hu => flatOneCo hu) (by omega) l.length (by omega) (l.flatMap Co.vals) rfl ?_
    intro w2 how2 hgw2
    have hBw2 : Below (w.heap.size + 1) (w.alloc (.cells #[.int .i64 m.k, .int .i64 m.a] 38)) w2 := hBv1.grown hgw2 (by omega) (by intro q hq; cases hq; omega)
    have hszw2 := hgw2.size
    refine hK.out _ _ (hKeep _ hBw2) (fun hHeld => ?_)
    clear hK K
    simp only [List.set_cons_zero, List.set_cons_succ]
    refine wpAnyH_ready (rs := [10]) (by kernel_rfl) (by simp) ?_
    refine AllReadyH.cons rfl (fun K hK => ?_) AllReadyH.nil
    refine step_fits rfl 16 rfl (.tmp 11) (.tmp 15) 23 rfl (w.heap.size + 1 + 1) 38 i0 2 Tryz.underlying23 hi0 hz1 (w.heap.size + 1 + 1) l.length (l.length + 3) (l.flatMap Co.vals) rfl how2 (some ⟨w.heap.size + 1, 0, none⟩) (3) (3) (marksCo m) rfl rfl (by intro e; cases e) (by intro ad' e j u hj; cases e; exact (hgw2.cell (hmk2 j u hj) (by first | (simp [Addr.add_lit]; done) | (simp [Addr.add_lit]; omega)))) (marksOneCo m) (by omega) (l.length + 3) rfl (l.flatMap Co.vals ++ marksCo m) rfl ?_
    intro w3 how3 hgw3
    have hBw3 : Below (w.heap.size + 1) (w.alloc (.cells #[.int .i64 m.k, .int .i64 m.a] 38)) w3 := hBw2.grown hgw3 (by omega) (by intro q hq; cases hq; omega)
    have hszw3 := hgw3.size
    refine hK.out _ _ (hKeep _ hBw3) (fun hHeld => ?_)
    clear hK K
    simp only [List.set_cons_zero, List.set_cons_succ]
    refine take_at (i := 11) (n := 5) (v := ?_) rfl rfl (by kernel_rfl) (by kernel_rfl) (by kernel_rfl) (fun _ _ _ h => h) (Or.inl ⟨by rfl, ?_⟩) (by assumption) ?_
    rotate_left 1
    · intro wz hSw
      first | (go_simp; done) | (go_simp; with_reducible rfl)
    simp only [List.set_cons_zero, List.set_cons_succ]
    refine wpAnyH_done (by kernel_rfl) ?_ _
    refine NoPanic.normal ?_
    go_wp2_with fail
    go_ret
    refine ⟨_, rfl, lentOfCo how3, (below_new w (.cells #[.int .i64 m.k, .int .i64 m.a] 38)).trans (hBw3.mono (by omega))⟩

set_option maxRecDepth 20000 in
set_option maxHeartbeats 4000000 in
/-- Still, of a list that was lent and stands as it did. -/
theorem StillC_any (w : World) (l : List Co) (m : Co) (v v' : Value) (hl : l.length ≤ 100000) (h : Lent Co.vals w l m v) (h' : RowSl Co.vals w l v') :
    Calls Tryz.prog 16 #[v, v', m.val] w fun r w' => r = .returned (.bool true) ∧ Below w.heap.size w w' := by
  obtain ⟨b, o, cap, rfl, hcap, hrow⟩ := h
  obtain ⟨ad', c', rfl, -, -, hc'⟩ := h'
  have HR : Hid (_ ∧ _) := ⟨hrow, hc'⟩
  clear hrow hc'
  have HM : Hid (∀ w2 : World, (∀ q u, ((l ++ [m, m, m]).flatMap Co.vals)[q]? = some u → w2.cell? ⟨b, o + q, none⟩ = some u) → ∀ j, l.length ≤ j → j < l.length + 3 → CoAt w2 b (o + j * 2) m) := fun w2 h j h1 h2 => by
    have key : ∀ k u, k < 2 → m.vals[k]? = some u → w2.cell? ⟨b, o + j * 2 + k, none⟩ = some u := fun k u hk hu => by
      rw [Nat.add_assoc]
      exact lent_at Co.len h h1 h2 hk hu
    exact ⟨key 0 _ (by omega) rfl, key 1 _ (by omega) rfl⟩
  obtain ⟨mk, ma⟩ := m
  unfold Co.val
  dsimp only
  go_enter Tryz.func16, Tryz.ntmps16
  go_wp2_with fail
  go_loopw [17] (fun x wr => ∃ j : Nat, j ≤ l.length + 3 ∧ x = .int .i64 j ∧ Below (w.heap.size + 1) (w.alloc (.cells #[.int .i64 mk, .int .i64 ma] 38)) wr) (fun x _ => l.length + 3 - (intOf x).toNat)
  case atStart => exact ⟨0, Nat.zero_le _, rfl, Below.refl _ _⟩
  case round =>
    obtain ⟨j, hj, rfl, hb⟩ := hrel
    have hbw : Below w.heap.size w wr := (below_new w (.cells #[.int .i64 mk, .int .i64 ma] 38)).trans (hb.mono (by omega))
    have m_0 : wr.cell? ⟨w.heap.size, 0, none⟩ = some (.int .i64 mk) := (hb.cell (by show w.heap.size < w.heap.size + 1; omega)).trans (by go_simp)
    have m_1 : wr.cell? ⟨w.heap.size, 1, none⟩ = some (.int .i64 ma) := (hb.cell (by show w.heap.size < w.heap.size + 1; omega)).trans (by go_simp)
    have lw : w.heap.size < wr.heap.size := World.block_lt_of_cell? _ _ m_0
    have HB : Hid (Below (w.heap.size + 1) (w.alloc (.cells #[.int .i64 mk, .int .i64 ma] 38)) wr) := hb
    by_cases hlt : j < l.length
    · obtain ⟨x, hx, -⟩ := drop_at hlt
      have c := co_at (fun q u hq => below_cell hbw (HR.out.1 q u hq)) (show (l ++ _)[j]? = some x by rw [List.getElem?_append_left hlt]; exact hx)
      rcases HR.out.2 with h | ⟨b', o', had', hrow'⟩
      · rw [h] at hlt; simp at hlt
      subst had'
      have d := co_at (fun q u hq => below_cell hbw (hrow' q u hq)) hx
      obtain ⟨c0, c1⟩ := c
      obtain ⟨d0, d1⟩ := d
      have lb' : b' < wr.heap.size := World.block_lt_of_cell? _ _ d0
      have f1 : decide ((j : Int) < (l.length : Int)) = true := by simp; omega
      have f1' : decide (j < l.length) = true := by simp; omega
      have f2 : decide ((l.length : Int) ≤ (j : Int)) = false := by simp; omega
      have f2' : decide (l.length ≤ j) = false := by simp; omega
      clear hrow' hb hbw hx
      obtain ⟨xk, xa⟩ := x
      dsimp only at c0 c1 d0 d1
      go_wp2_with fail
      go_quiet (fail)
      go_wp2_with fail
      go_roundw
      case rel => exact ⟨j + 1, by omega, by go_num, (HB.out.alloc (by omega) _).trans ((below_drewN').mono (by simp; omega))⟩
      case measure => simp [intOf]; omega
    · by_cases hlt2 : j < l.length + 3
      · have c := HM.out wr (fun q u hq => below_cell hbw (HR.out.1 q u hq)) j (by omega) hlt2
        obtain ⟨c0, c1⟩ := c
        have f1 : decide ((j : Int) < (l.length : Int)) = false := by simp; omega
        have f1' : decide (j < l.length) = false := by simp; omega
        have f2 : decide ((l.length : Int) ≤ (j : Int)) = true := by simp; omega
        have f2' : decide (l.length ≤ j) = true := by simp; omega
        clear hb hbw
        dsimp only at c0 c1
        go_wp2_with fail
        go_quiet (fail)
        go_wp2_with fail
        go_roundw
        case rel => exact ⟨j + 1, by omega, by go_num, (HB.out.alloc (by omega) _).trans ((below_drewN').mono (by simp; omega))⟩
        case measure => simp [intOf]; omega
      · have hje : j = l.length + 3 := by omega
        subst hje
        go_wp2_with fail
        go_ret
        exact ⟨rfl, hbw⟩
end Go.Proofs.YtccoobcggbbciaiGreatDoor
