import Derived.Test.YtdhnjemgnlklkajDoorNN
import Derived.OwnWalk
import Derived.Test.YtdhnjemgnlklkajDoorNT
import Derived.Test.YtdhnjemgnlklkajDoorNV
import Derived.Test.YtdhnjemgnlklkajDoorNU
namespace Go.Proofs.YtdhnjemgnlklkajDoor
open Go.ChangeShapes Go.WideShapes Go.ChangeAt Go.RowKit

theorem Co.one {x : Co} {u : Value} (h : u ∈ x.vals) : u.oneCell' = true := by
  unfold Co.vals at h
  simp at h
  rcases h with rfl | rfl <;> rfl

theorem infoCo : (Tryd.prog.info? 42).map (fun i => (i.zero, i.size, i.bytes)) = some (some (.agg #[.int .i64 0, .int .i64 0]), 2, 16) := by kernel_rfl

theorem flatOneCo {l : List Co} {u : Value} (h : u ∈ l.flatMap Co.vals) : u.oneCell' = true := by
  obtain ⟨x, h⟩ := flat_mem h
  exact Co.one h

def marksCo (m : Co) : List Value := [.int .i64 m.k, .int .i64 m.a, .int .i64 m.k, .int .i64 m.a, .int .i64 m.k, .int .i64 m.a]
theorem marksCo_eq (m : Co) : [m, m, m].flatMap Co.vals = marksCo m := rfl

theorem lentOfCo {w : World} {B g : Nat} {l : List Co} {m : Co} (h : w.ownsRow B 42 2 (.slice (some ⟨g, 0, none⟩) (l.length + 3) (l.length + 3)) (l.length + 3) (l.flatMap Co.vals ++ marksCo m)) : Lent Co.vals w l m (.slice (some ⟨g, 0, none⟩) l.length (l.length + 3)) := by
  refine ⟨g, 0, l.length + 3, rfl, Nat.le_refl _, fun q u hq => ?_⟩
  rw [List.flatMap_append, marksCo_eq] at hq
  have hql := (List.getElem?_eq_some_iff.1 hq).1
  rw [List.length_append, flat_length Co.vals 2 Co.len] at hql
  have h9 : (marksCo m).length = 6 := rfl
  rw [Nat.zero_add]
  exact (h.cellAt q (by omega)).trans hq

/-- make, with room, as an equation. -/
theorem makeCo (W : World) (n g : Nat) (hn : n ≤ 100003) (hg : W.heap.size = g) : ∃ w1, (Instr.makeSlice 38 (.int .i64 0) (.int .i64 ((n : Int) + 3))).run Tryd.prog W = .ok (.slice (some ⟨g, 0, none⟩) 0 (n + 3)) w1 ∧ w1.ownsRow g 42 2 (.slice (some ⟨g, 0, none⟩) 0 (n + 3)) 0 [] ∧ Below g W w1 ∧ g < w1.heap.size := by
  subst hg
  obtain ⟨i0, hi0, hz0, hz1, hz2⟩ := info_parts infoCo
  obtain ⟨w1, hrun, hown, hgr⟩ := run_make_own (P := Tryd.prog) W W.heap.size 38 42 i0 _ 2 Tryd.underlying38 hi0 hz0 hz1 .i64 .i64 (n + 3) (by rw [hz2]; omega) (by unfold maxLen; omega) (Nat.le_refl _)
  exact ⟨w1, hrun, hown, (Below.refl _ W).grown hgr (Nat.le_refl _) (by intro k hk; cases hk), (hown.lt _ rfl).2⟩

theorem marksCellsCo (W : World) (m : Co) (g : Nat) (hg : W.heap.size = g) (q : Nat) (u : Value) (hq : (marksCo m)[q]? = some u) : (W.alloc (.cells #[.int .i64 m.k, .int .i64 m.a, .int .i64 m.k, .int .i64 m.a, .int .i64 m.k, .int .i64 m.a] 42)).cell? ((⟨g, 0, none⟩ : Addr).add q) = some u := by
  subst hg
  rw [Addr.add_lit]
  have := (cells_of (l := marksCo m) (heap_alloc_new W (.cells #[.int .i64 m.k, .int .i64 m.a, .int .i64 m.k, .int .i64 m.a, .int .i64 m.k, .int .i64 m.a] 42))).1 q u hq
  simpa using this

theorem marksOneCo (m : Co) : ∀ u ∈ marksCo m, u.oneCell' = true := by
  intro u hu
  rw [← marksCo_eq] at hu
  exact flatOneCo hu

set_option maxRecDepth 20000 in
set_option maxHeartbeats 4000000 in
/-- Lend. -/
theorem LendC_any (w : World) (l : List Co) (m : Co) (v : Value) (hl : l.length ≤ 100000) (hv : RowSl Co.vals w l v) :
    Calls Tryd.prog 15 #[v, m.val] w fun r w' => ∃ u, r = .returned u ∧ Lent Co.vals w' l m u ∧ Below w.heap.size w w' := by
  obtain ⟨ad, c, rfl, hnil, -, h⟩ := hv
  unfold Co.val
  obtain ⟨i0, hi0, hz0, hz1, hz2⟩ := info_parts infoCo
  have hB0 : Below (w.heap.size + 1) (w.alloc (.cells #[.int .i64 m.k, .int .i64 m.a] 42)) ((w.alloc (.cells #[.int .i64 m.k, .int .i64 m.a] 42)).drew) := (Below.refl _ _).drew
  have hKeep : ∀ W, Below (w.heap.size + 1) (w.alloc (.cells #[.int .i64 m.k, .int .i64 m.a] 42)) W → W.cell? ⟨w.heap.size, 0, none⟩ = some (.int .i64 m.k) ∧ W.cell? ⟨w.heap.size, 1, none⟩ = some (.int .i64 m.a) := fun W hb => ⟨(hb.cell (by show w.heap.size < w.heap.size + 1; omega)).trans (by go_simp), (hb.cell (by show w.heap.size < w.heap.size + 1; omega)).trans (by go_simp)⟩
  have hA : ∀ W, Below (w.heap.size + 1) (w.alloc (.cells #[.int .i64 m.k, .int .i64 m.a] 42)) W → ∀ ad', ad = some ad' → ∀ j u, (l.flatMap Co.vals)[j]? = some u → W.cell? (ad'.add j) = some u := fun W hb => rowArg h ((below_new w (.cells #[.int .i64 m.k, .int .i64 m.a] 42)).trans (hb.mono (by omega)))
  obtain ⟨w1, hm1, ho1, hb1, hl1⟩ := makeCo ((w.alloc (.cells #[.int .i64 m.k, .int .i64 m.a] 42)).drew) l.length (w.heap.size + 1) (by omega) (by simp)
  obtain ⟨v1, hm2, ho2, hb2, hl2⟩ := makeCo (((w.alloc (.cells #[.int .i64 m.k, .int .i64 m.a] 42)).drew).alloc (.cells #[.int .i64 m.k, .int .i64 m.a, .int .i64 m.k, .int .i64 m.a, .int .i64 m.k, .int .i64 m.a] 42)) l.length (w.heap.size + 1 + 1) (by omega) (by simp)
  rw [show (((w.alloc (.cells #[.int .i64 m.k, .int .i64 m.a] 42)).drew).alloc (.cells #[.int .i64 m.k, .int .i64 m.a, .int .i64 m.k, .int .i64 m.a, .int .i64 m.k, .int .i64 m.a] 42)) = ((w.alloc (.cells #[.int .i64 m.k, .int .i64 m.a] 42)).alloc (.cells #[.int .i64 m.k, .int .i64 m.a, .int .i64 m.k, .int .i64 m.a, .int .i64 m.k, .int .i64 m.a] 42)).drew from rfl] at hm2
  have hBw1 : Below (w.heap.size + 1) (w.alloc (.cells #[.int .i64 m.k, .int .i64 m.a] 42)) w1 := hB0.trans hb1
  have hBv1 : Below (w.heap.size + 1) (w.alloc (.cells #[.int .i64 m.k, .int .i64 m.a] 42)) v1 := (hB0.alloc (by simp) (.cells #[.int .i64 m.k, .int .i64 m.a, .int .i64 m.k, .int .i64 m.a, .int .i64 m.k, .int .i64 m.a] 42)).trans (hb2.mono (by omega))
  have hmk2 : ∀ j u, (marksCo m)[j]? = some u → v1.cell? ((⟨w.heap.size + 1, 0, none⟩ : Addr).add j) = some u := fun j u hj => (hb2.cell (by rw [Addr.add_lit]; show w.heap.size + 1 < w.heap.size + 1 + 1; omega)).trans (marksCellsCo ((w.alloc (.cells #[.int .i64 m.k, .int .i64 m.a] 42)).drew) m _ (by simp) j u hj)
  have hwr : IntKind.i64.wrap ((l.length : Int) + 3) = (l.length : Int) + 3 := by rw [IntKind.wrap_i64]; omega
  go_enter Tryd.func15, Tryd.ntmps15
  go_wp2_with fail
  refine wp_region_noPanic ?_
  refine wp_region_held_drew (S := fun w' => w'.cell? ⟨w.heap.size, 0, none⟩ = some (.int .i64 m.k) ∧ w'.cell? ⟨w.heap.size, 1, none⟩ = some (.int .i64 m.a)) (by kernel_rfl) (hKeep _ hB0) (fun hHeld => ?_)
  refine take_at (i := 0) (n := 6) (v := ?_) rfl rfl (by kernel_rfl) (by kernel_rfl) (by kernel_rfl) (fun _ _ _ h => h) (Or.inl ⟨by rfl, ?_⟩) (by assumption) ?_
  rotate_left 1
  · intro wz hSw
    first | (go_simp; done) | (go_simp; with_reducible rfl)
  simp only [List.set_cons_zero, List.set_cons_succ]
  refine take_at (i := 1) (n := 7) (v := ?_) rfl rfl (by kernel_rfl) (by kernel_rfl) (by kernel_rfl) (fun _ _ _ h => h) (Or.inl ⟨by rfl, ?_⟩) (by assumption) ?_
  rotate_left 1
  · intro wz hSw
    first | (go_simp; done) | (go_simp; with_reducible rfl)
  simp only [List.set_cons_zero, List.set_cons_succ]
  refine take_at (i := 2) (n := 8) (v := ?_) rfl rfl (by kernel_rfl) (by kernel_rfl) (by kernel_rfl) (fun _ _ _ h => h) (Or.inl ⟨by rfl, ?_⟩) (by assumption) ?_
  rotate_left 1
  · intro wz hSw
    first | (go_simp; done) | (go_simp; with_reducible rfl)
  simp only [List.set_cons_zero, List.set_cons_succ]
  refine take_at (i := 4) (n := 10) (v := ?_) rfl rfl (by kernel_rfl) (by kernel_rfl) (by kernel_rfl) (fun _ _ _ h => h) (Or.inl ⟨by rfl, ?_⟩) (by assumption) ?_
  rotate_left 1
  · intro wz hSw
    first | (go_simp; done) | (go_simp; with_reducible rfl)
  simp only [List.set_cons_zero, List.set_cons_succ]
  refine take_at (i := 6) (n := 12) (v := ?_) rfl rfl (by kernel_rfl) (by kernel_rfl) (by kernel_rfl) (fun _ _ _ h => h) (Or.inl ⟨by rfl, ?_⟩) (by assumption) ?_
  rotate_left 1
  · intro wz hSw
    first | (go_simp; done) | (go_simp; with_reducible rfl)
  simp only [List.set_cons_zero, List.set_cons_succ]
  refine take_at (i := 7) (n := 13) (v := ?_) rfl rfl (by kernel_rfl) (by kernel_rfl) (by kernel_rfl) (fun _ _ _ h => h) (Or.inl ⟨by rfl, ?_⟩) (by assumption) ?_
  rotate_left 1
  · intro wz hSw
    first | (go_simp; done) | (go_simp; with_reducible rfl)
  simp only [List.set_cons_zero, List.set_cons_succ]
  refine take_at (i := 8) (n := 14) (v := ?_) rfl rfl (by kernel_rfl) (by kernel_rfl) (by kernel_rfl) (fun _ _ _ h => h) (Or.inl ⟨by rfl, ?_⟩) (by assumption) ?_
  rotate_left 1
  · intro wz hSw
    first | (go_simp; done) | (go_simp; with_reducible rfl)
  simp only [List.set_cons_zero, List.set_cons_succ]
  refine wpAnyH_ready (rs := [3, 9]) (by kernel_rfl) (by simp) ?_
  refine AllReadyH.cons rfl (fun K hK => ?_) (AllReadyH.cons rfl (fun K hK => ?_) AllReadyH.nil)
  · go_simp
    refine hK.out _ _ (hKeep _ hBw1) (fun hHeld => ?_)
    clear hK K
    refine wpAnyH_ready (rs := [5, 9]) (by kernel_rfl) (by simp) ?_
    refine AllReadyH.cons rfl (fun K hK => ?_) (AllReadyH.cons rfl (fun K hK => ?_) AllReadyH.nil)
    · refine step_fits rfl 11 rfl (.tmp 9) (.tmp 10) 38 rfl (w.heap.size + 1) 42 i0 2 Tryd.underlying38 hi0 hz1 (w.heap.size + 1) (0) (l.length + 3) ([]) rfl ho1 (ad) (l.length) (c) (l.flatMap Co.vals) rfl (flat_length Co.vals 2 Co.len l) hnil (hA w1 hBw1) (fun u hu => flatOneCo hu) (by omega) l.length (by omega) (l.flatMap Co.vals) rfl ?_
      intro w2 how2 hgw2
      have hBw2 : Below (w.heap.size + 1) (w.alloc (.cells #[.int .i64 m.k, .int .i64 m.a] 42)) w2 := hBw1.grown hgw2 (by omega) (by intro q hq; cases hq; omega)
      have hszw2 := hgw2.size
      refine hK.out _ _ (hKeep _ hBw2) (fun hHeld => ?_)
      clear hK K
      simp only [List.set_cons_zero, List.set_cons_succ]
      refine wpAnyH_ready (rs := [9]) (by kernel_rfl) (by simp) ?_
      refine AllReadyH.cons rfl (fun K hK => ?_) AllReadyH.nil
      go_simp
      refine hK.out _ _ (hKeep _ (hBw2.alloc (by omega) _)) (fun hHeld => ?_)
      clear hK K
      refine wpAnyH_ready (rs := [10]) (by kernel_rfl) (by simp) ?_
      refine AllReadyH.cons rfl (fun K hK => ?_) AllReadyH.nil
      refine step_fits rfl 16 rfl (.tmp 11) (.tmp 15) 38 rfl (w.heap.size + 1) 42 i0 2 Tryd.underlying38 hi0 hz1 (w.heap.size + 1) l.length (l.length + 3) (l.flatMap Co.vals) rfl (ownsRow_same how2 (fun k _ hk => (below_new w2 _).block k hk)) (some ⟨w2.heap.size, 0, none⟩) (3) (3) (marksCo m) rfl rfl (by intro e; cases e) (by intro ad' e j u hj; cases e; exact marksCellsCo w2 m _ rfl j u hj) (marksOneCo m) (by omega) (l.length + 3) rfl (l.flatMap Co.vals ++ marksCo m) rfl ?_
      intro w3 how3 hgw3
      have hBw3 : Below (w.heap.size + 1) (w.alloc (.cells #[.int .i64 m.k, .int .i64 m.a] 42)) w3 := (hBw2.alloc (by omega) _).grown hgw3 (by simp; omega) (by intro q hq; cases hq; omega)
      have hszw3 := hgw3.size
      refine hK.out _ _ (hKeep _ hBw3) (fun hHeld => ?_)
      clear hK K
      simp only [List.set_cons_zero, List.set_cons_succ]
      refine take_at (i := 11) (n := 5) (v := ?_) rfl rfl (by kernel_rfl) (by kernel_rfl) (by kernel_rfl) (fun _ _ _ h => h) (Or.inl ⟨by rfl, ?_⟩) (by assumption) ?_
      rotate_left 1
      · intro wz hSw
        first | (go_simp; done) | (go_simp; with_reducible rfl)
      simp only [List.set_cons_zero, List.set_cons_succ]
      refine wpAnyH_done (by kernel_rfl) ?_ _
      refine NoPanic.normal ?_
      go_wp2_with fail
      go_ret
      refine ⟨_, rfl, lentOfCo how3, (below_new w (.cells #[.int .i64 m.k, .int .i64 m.a] 42)).trans (hBw3.mono (by omega))⟩
    · go_simp
      refine hK.out _ _ (hKeep _ (hBw1.alloc (by omega) _)) (fun hHeld => ?_)
      clear hK K
      refine wpAnyH_ready (rs := [5]) (by kernel_rfl) (by simp) ?_
      refine AllReadyH.cons rfl (fun K hK => ?_) AllReadyH.nil
      refine step_fits rfl 11 rfl (.tmp 9) (.tmp 10) 38 rfl (w.heap.size + 1) 42 i0 2 Tryd.underlying38 hi0 hz1 (w.heap.size + 1) (0) (l.length + 3) ([]) rfl (ownsRow_same ho1 (fun k _ hk => (below_new w1 _).block k hk)) (ad) (l.length) (c) (l.flatMap Co.vals) rfl (flat_length Co.vals 2 Co.len l) hnil (hA (w1.alloc (.cells #[.int .i64 m.k, .int .i64 m.a, .int .i64 m.k, .int .i64 m.a, .int .i64 m.k, .int .i64 m.a] 42)) (hBw1.alloc (by omega) _)) (fun u hu => flatOneCo hu) (by omega) l.length (by omega) (l.flatMap Co.vals) rfl ?_
      intro w2 how2 hgw2
      have hBw2 : Below (w.heap.size + 1) (w.alloc (.cells #[.int .i64 m.k, .int .i64 m.a] 42)) w2 := (hBw1.alloc (by omega) _).grown hgw2 (by simp; omega) (by intro q hq; cases hq; omega)
      have hszw2 := hgw2.size
      refine hK.out _ _ (hKeep _ hBw2) (fun hHeld => ?_)
      clear hK K
      simp only [List.set_cons_zero, List.set_cons_succ]
      refine wpAnyH_ready (rs := [10]) (by kernel_rfl) (by simp) ?_
      refine AllReadyH.cons rfl (fun K hK => ?_) AllReadyH.nil
      refine step_fits rfl 16 rfl (.tmp 11) (.tmp 15) 38 rfl (w.heap.size + 1) 42 i0 2 Tryd.underlying38 hi0 hz1 (w.heap.size + 1) l.length (l.length + 3) (l.flatMap Co.vals) rfl how2 (some ⟨w1.heap.size, 0, none⟩) (3) (3) (marksCo m) rfl rfl (by intro e; cases e) (by intro ad' e j u hj; cases e; exact (hgw2.cell (marksCellsCo w1 m _ rfl j u hj) (by first | (simp [Addr.add_lit]; done) | (simp [Addr.add_lit]; omega)))) (marksOneCo m) (by omega) (l.length + 3) rfl (l.flatMap Co.vals ++ marksCo m) rfl ?_
      intro w3 how3 hgw3
      have hBw3 : Below (w.heap.size + 1) (w.alloc (.cells #[.int .i64 m.k, .int .i64 m.a] 42)) w3 := hBw2.grown hgw3 (by simp at hszw2; omega) (by intro q hq; cases hq; omega)
      have hszw3 := hgw3.size
      refine hK.out _ _ (hKeep _ hBw3) (fun hHeld => ?_)
      clear hK K
      simp only [List.set_cons_zero, List.set_cons_succ]
      refine take_at (i := 11) (n := 5) (v := ?_) rfl rfl (by kernel_rfl) (by kernel_rfl) (by kernel_rfl) (fun _ _ _ h => h) (Or.inl ⟨by rfl, ?_⟩) (by assumption) ?_
      rotate_left 1
      · intro wz hSw
        first | (go_simp; done) | (go_simp; with_reducible rfl)
      simp only [List.set_cons_zero, List.set_cons_succ]
      refine wpAnyH_done (by kernel_rfl) ?_ _
      refine NoPanic.normal ?_
      go_wp2_with fail
      go_ret
      refine ⟨_, rfl, lentOfCo how3, (below_new w (.cells #[.int .i64 m.k, .int .i64 m.a] 42)).trans (hBw3.mono (by omega))⟩
  · go_simp
    refine hK.out _ _ (hKeep _ (hB0.alloc (by simp) _)) (fun hHeld => ?_)
    clear hK K
    refine wpAnyH_ready (rs := [3]) (by kernel_rfl) (by simp) ?_
    refine AllReadyH.cons rfl (fun K hK => ?_) AllReadyH.nil
    go_simp
    refine hK.out _ _ (hKeep _ hBv1) (fun hHeld => ?_)
    clear hK K
    refine wpAnyH_ready (rs := [5]) (by kernel_rfl) (by simp) ?_
    refine AllReadyH.cons rfl (fun K hK => ?_) AllReadyH.nil
    refine step_fits rfl 11 rfl (.tmp 9) (.tmp 10) 38 rfl (w.heap.size + 1 + 1) 42 i0 2 Tryd.underlying38 hi0 hz1 (w.heap.size + 1 + 1) (0) (l.length + 3) ([]) rfl ho2 (ad) (l.length) (c) (l.flatMap Co.vals) rfl (flat_length Co.vals 2 Co.len l) hnil (hA v1 hBv1) (fun u hu => flatOneCo hu) (by omega) l.length (by omega) (l.flatMap Co.vals) rfl ?_
    intro w2 how2 hgw2
    have hBw2 : Below (w.heap.size + 1) (w.alloc (.cells #[.int .i64 m.k, .int .i64 m.a] 42)) w2 := hBv1.grown hgw2 (by omega) (by intro q hq; cases hq; omega)
    have hszw2 := hgw2.size
    refine hK.out _ _ (hKeep _ hBw2) (fun hHeld => ?_)
    clear hK K
    simp only [List.set_cons_zero, List.set_cons_succ]
    refine wpAnyH_ready (rs := [10]) (by kernel_rfl) (by simp) ?_
    refine AllReadyH.cons rfl (fun K hK => ?_) AllReadyH.nil
    refine step_fits rfl 16 rfl (.tmp 11) (.tmp 15) 38 rfl (w.heap.size + 1 + 1) 42 i0 2 Tryd.underlying38 hi0 hz1 (w.heap.size + 1 + 1) l.length (l.length + 3) (l.flatMap Co.vals) rfl how2 (some ⟨w.heap.size + 1, 0, none⟩) (3) (3) (marksCo m) rfl rfl (by intro e; cases e) (by intro ad' e j u hj; cases e; exact (hgw2.cell (hmk2 j u hj) (by first | (simp [Addr.add_lit]; done) | (simp [Addr.add_lit]; omega)))) (marksOneCo m) (by omega) (l.length + 3) rfl (l.flatMap Co.vals ++ marksCo m) rfl ?_
    intro w3 how3 hgw3
    have hBw3 : Below (w.heap.size + 1) (w.alloc (.cells #[.int .i64 m.k, .int .i64 m.a] 42)) w3 := hBw2.grown hgw3 (by omega) (by intro q hq; cases hq; omega)
    have hszw3 := hgw3.size
    refine hK.out _ _ (hKeep _ hBw3) (fun hHeld => ?_)
    clear hK K
    simp only [List.set_cons_zero, List.set_cons_succ]
    refine take_at (i := 11) (n := 5) (v := ?_) rfl rfl (by kernel_rfl) (by kernel_rfl) (by kernel_rfl) (fun _ _ _ h => h) (Or.inl ⟨by rfl, ?_⟩) (by assumption) ?_
    rotate_left 1
    · intro wz hSw
      first | (go_simp; done) | (go_simp; with_reducible rfl)
    simp only [List.set_cons_zero, List.set_cons_succ]
    refine wpAnyH_done (by kernel_rfl) ?_ _
    refine NoPanic.normal ?_
    go_wp2_with fail
    go_ret
    refine ⟨_, rfl, lentOfCo how3, (below_new w (.cells #[.int .i64 m.k, .int .i64 m.a] 42)).trans (hBw3.mono (by omega))⟩
set_option maxRecDepth 20000 in
set_option maxHeartbeats 4000000 in
/-- Still, of a list that was lent and stands as it did. -/
theorem StillC_any (w : World) (l : List Co) (m : Co) (v v' : Value) (hl : l.length ≤ 100000) (h : Lent Co.vals w l m v) (h' : RowSl Co.vals w l v') :
    Calls Tryd.prog 20 #[v, v', m.val] w fun r w' => r = .returned (.bool true) ∧ Below w.heap.size w w' := by
  obtain ⟨b, o, cap, rfl, hcap, hrow⟩ := h
  obtain ⟨ad', c', rfl, -, -, hc'⟩ := h'
  have HR : Hid (_ ∧ _) := ⟨hrow, hc'⟩
  clear hrow hc'
  have HM : Hid (∀ w2 : World, (∀ q u, ((l ++ [m, m, m]).flatMap Co.vals)[q]? = some u → w2.cell? ⟨b, o + q, none⟩ = some u) → ∀ j, l.length ≤ j → j < l.length + 3 → CoAt w2 b (o + j * 2) m) := fun w2 h j h1 h2 => by
    have key : ∀ k u, k < 2 → m.vals[k]? = some u → w2.cell? ⟨b, o + j * 2 + k, none⟩ = some u := fun k u hk hu => by
      rw [Nat.add_assoc]
      exact lent_at Co.len h h1 h2 hk hu
    exact ⟨key 0 _ (by omega) rfl, key 1 _ (by omega) rfl⟩
  obtain ⟨mk, ma⟩ := m
  unfold Co.val
  dsimp only
  go_enter Tryd.func20, Tryd.ntmps20
  go_wp2_with fail
  go_loopw [17] (fun x wr => ∃ j : Nat, j ≤ l.length + 3 ∧ x = .int .i64 j ∧ Below (w.heap.size + 1) (w.alloc (.cells #[.int .i64 mk, .int .i64 ma] 42)) wr) (fun x _ => l.length + 3 - (intOf x).toNat)
  case atStart => exact ⟨0, Nat.zero_le _, rfl, Below.refl _ _⟩
  case round =>
    obtain ⟨j, hj, rfl, hb⟩ := hrel
    have hbw : Below w.heap.size w wr := (below_new w (.cells #[.int .i64 mk, .int .i64 ma] 42)).trans (hb.mono (by omega))
    have m_0 : wr.cell? ⟨w.heap.size, 0, none⟩ = some (.int .i64 mk) := (hb.cell (by show w.heap.size < w.heap.size + 1; omega)).trans (by go_simp)
    have m_1 : wr.cell? ⟨w.heap.size, 1, none⟩ = some (.int .i64 ma) := (hb.cell (by show w.heap.size < w.heap.size + 1; omega)).trans (by go_simp)
    have lw : w.heap.size < wr.heap.size := World.block_lt_of_cell? _ _ m_0
    have HB : Hid (Below (w.heap.size + 1) (w.alloc (.cells #[.int .i64 mk, .int .i64 ma] 42)) wr) := hb
    by_cases hlt : j < l.length
    · obtain ⟨x, hx, -⟩ := drop_at hlt
      have c := co_at (fun q u hq => below_cell hbw (HR.out.1 q u hq)) (show (l ++ _)[j]? = some x by rw [List.getElem?_append_left hlt]; exact hx)
      rcases HR.out.2 with h | ⟨b', o', had', hrow'⟩
      · rw [h] at hlt; simp at hlt
      subst had'
      have d := co_at (fun q u hq => below_cell hbw (hrow' q u hq)) hx
      obtain ⟨c0, c1⟩ := c
      obtain ⟨d0, d1⟩ := d
      have lb' : b' < wr.heap.size := World.block_lt_of_cell? _ _ d0
      have f1 : decide ((j : Int) < (l.length : Int)) = true := by simp; omega
      have f1' : decide (j < l.length) = true := by simp; omega
      have f2 : decide ((l.length : Int) ≤ (j : Int)) = false := by simp; omega
      have f2' : decide (l.length ≤ j) = false := by simp; omega
      clear hrow' hb hbw hx
      obtain ⟨xk, xa⟩ := x
      dsimp only at c0 c1 d0 d1
      go_wp2_with fail
      go_quiet (fail)
      go_wp2_with fail
      go_roundw
      case rel => exact ⟨j + 1, by omega, by go_num, (HB.out.alloc (by omega) _).trans ((below_drewN').mono (by simp; omega))⟩
      case measure => simp [intOf]; omega
    · by_cases hlt2 : j < l.length + 3
      · have c := HM.out wr (fun q u hq => below_cell hbw (HR.out.1 q u hq)) j (by omega) hlt2
        obtain ⟨c0, c1⟩ := c
        have f1 : decide ((j : Int) < (l.length : Int)) = false := by simp; omega
        have f1' : decide (j < l.length) = false := by simp; omega
        have f2 : decide ((l.length : Int) ≤ (j : Int)) = true := by simp; omega
        have f2' : decide (l.length ≤ j) = true := by simp; omega
        clear hb hbw
        dsimp only at c0 c1
        go_wp2_with fail
        go_quiet (fail)
        go_wp2_with fail
        go_roundw
        case rel => exact ⟨j + 1, by omega, by go_num, (HB.out.alloc (by omega) _).trans ((below_drewN').mono (by simp; omega))⟩
        case measure => simp [intOf]; omega
      · have hje : j = l.length + 3 := by omega
        subst hje
        go_wp2_with fail
        go_ret
        exact ⟨rfl, hbw⟩
end Go.Proofs.YtdhnjemgnlklkajDoor
namespace Go.Proofs.YtdhnjemgnlklkajDoor
open Go.ChangeShapes Go.WideShapes Go.ChangeAt Go.RowKit

def noC : Co := ⟨-9, 0⟩
theorem CoAt.below {w w' : World} {b o : Nat} {x : Co} (h : CoAt w b o x) (hb : Below w.heap.size w w') : CoAt w' b o x := ⟨below_cell hb h.1, below_cell hb h.2⟩

/-- What the law holds. -/
structure NSL (w W : World) (l : List Fr) (cs : List Co) (la : List Int) (o1 o2 o3 : Value) : Prop where
  bel : Below w.heap.size w W
  l1 : Lent Fr.vals W l noF o1
  l2 : Lent Co.vals W cs noC o2
  l3 : Lent nuV W la (-9) o3
theorem NSL.grow {w W W' : World} {l : List Fr} {cs : List Co} {la : List Int} {o1 o2 o3 : Value} (h : NSL w W l cs la o1 o2 o3) (hb : Below W.heap.size W W') : NSL w W' l cs la o1 o2 o3 :=
  ⟨below_seq h.bel hb, h.l1.below hb, h.l2.below hb, h.l3.below hb⟩
/-- An answer, as it lies. -/
structure ANS (W : World) (g : Nat) (rs es : List Int) (u1 u2 : Value) (z1 z2 : Int) : Prop where
  p : W.heap[g]? = some (.cells #[u1, u2] 45 (0, 0))
  f : W.heap[g + 1]? = some (.cells #[.int .i64 z1, .int .i64 z2] 31 (0, 0))
  r : RowSl nuV W rs u1
  e : RowSl nuV W es u2
theorem ANS.grow {W W' : World} {g : Nat} {rs es : List Int} {u1 u2 : Value} {z1 z2 : Int} (h : ANS W g rs es u1 u2 z1 z2) (hb : Below W.heap.size W W') : ANS W' g rs es u1 u2 z1 z2 :=
  ⟨(hb.block _ (ltH h.p)).trans h.p, (hb.block _ (ltH h.f)).trans h.f, h.r.below hb, h.e.below hb⟩
theorem ANS.new {W : World} {rs es : List Int} {u1 u2 : Value} (z1 z2 : Int) (h1 : RowSl nuV W rs u1) (h2 : RowSl nuV W es u2) : ANS ((W.alloc (.cells #[u1, u2] 45)).alloc (.cells #[.int .i64 z1, .int .i64 z2] 31)) W.heap.size rs es u1 u2 z1 z2 :=
  ⟨(Below.heap_alloc _ _ _ (by simp)).trans (heap_alloc_new _ _), by have := heap_alloc_new (W.alloc (.cells #[u1, u2] 45)) (.cells #[.int .i64 z1, .int .i64 z2] 31); simpa using this, h1.below (below_seq (below_new _ _) (below_new _ _)), h2.below (below_seq (below_new _ _) (below_new _ _))⟩

set_option maxRecDepth 20000 in
set_option maxHeartbeats 1000000 in
theorem sends_walk (w : World) (l : List Fr) (cs : List Co) (la : List Int) (v v1 v2 : Value) (n : Int) (hg : FrAt w 0 0 noF) (hg1 : CoAt w 1 0 noC) (hv : RowSl Fr.vals w l v) (hv1 : RowSl Co.vals w cs v1) (hv2 : RowSl nuV w la v2) :
    Calls Tryd.prog 4 #[v, v1, v2, .int .i64 n] w fun r w' => r = .returned (.bool true) ∧ Below w.heap.size w w' := by
  obtain ⟨ad, c, rfl⟩ := hv.len
  obtain ⟨ad1, c1, rfl⟩ := hv1.len
  obtain ⟨ad2, c2, rfl⟩ := hv2.len
  have HV : Hid (FrAt w 0 0 noF ∧ CoAt w 1 0 noC ∧ RowSl Fr.vals w l (.slice ad l.length c) ∧ RowSl Co.vals w cs (.slice ad1 cs.length c1) ∧ RowSl nuV w la (.slice ad2 la.length c2)) := ⟨hg, hg1, hv, hv1, hv2⟩
  clear hg hg1 hv hv1 hv2
  have HL := LendF_any
  have HT := StillF_any
  have HL1 := LendC_any
  have HT1 := StillC_any
  unfold Fr.val at HL HT
  unfold Co.val at HL1 HT1
  go_enter Tryd.func4, Tryd.ntmps4
  go_wp2_with (go_at_call 5; refine (bus_any w).mono ?_; rintro r w1 ⟨rfl, hb1⟩; have H1 : Hid (Below w.heap.size w w1) := hb1; clear hb1)
  by_cases b1 : l.length ≤ 5000
  rotate_left 1
  · have fa : decide ((l.length : Int) ≤ 5000) = false := by simp; omega
    have fb := fa
    have fc := fa
    have hs := fa
    go_wp2_with (first | (go_at_call 6; refine (few_any _ _).mono ?_; rintro r w6 ⟨rfl, hw6⟩; have hw7 := hw6.symm; subst hw7; clear hw6; first | rw [fa] | rw [fb] | rw [fc]) | (go_at_call 14; refine (small_any _ _ _).mono ?_; rintro r w6 ⟨rfl, hw6⟩; have hw7 := hw6.symm; subst hw7; clear hw6; rw [hs]))
    go_ret
    exact ⟨rfl, H1.out⟩
  have fa : decide ((l.length : Int) ≤ 5000) = true := by simp; omega
  by_cases b2 : cs.length ≤ 5000
  rotate_left 1
  · have fb : decide ((cs.length : Int) ≤ 5000) = false := by simp; omega
    have fc := fa
    have hs := fa
    go_wp2_with (first | (go_at_call 6; refine (few_any _ _).mono ?_; rintro r w6 ⟨rfl, hw6⟩; have hw7 := hw6.symm; subst hw7; clear hw6; first | rw [fa] | rw [fb] | rw [fc]) | (go_at_call 14; refine (small_any _ _ _).mono ?_; rintro r w6 ⟨rfl, hw6⟩; have hw7 := hw6.symm; subst hw7; clear hw6; rw [hs]))
    go_ret
    exact ⟨rfl, H1.out⟩
  have fb : decide ((cs.length : Int) ≤ 5000) = true := by simp; omega
  by_cases b3 : la.length ≤ 5000
  rotate_left 1
  · have fc : decide ((la.length : Int) ≤ 5000) = false := by simp; omega
    have hs := fa
    go_wp2_with (first | (go_at_call 6; refine (few_any _ _).mono ?_; rintro r w6 ⟨rfl, hw6⟩; have hw7 := hw6.symm; subst hw7; clear hw6; first | rw [fa] | rw [fb] | rw [fc]) | (go_at_call 14; refine (small_any _ _ _).mono ?_; rintro r w6 ⟨rfl, hw6⟩; have hw7 := hw6.symm; subst hw7; clear hw6; rw [hs]))
    go_ret
    exact ⟨rfl, H1.out⟩
  have fc : decide ((la.length : Int) ≤ 5000) = true := by simp; omega
  by_cases hs0 : smallB (cs.length : Int) n = true
  rotate_left 1
  · have hs : smallB (cs.length : Int) n = false := by simpa using hs0
    go_wp2_with (first | (go_at_call 6; refine (few_any _ _).mono ?_; rintro r w6 ⟨rfl, hw6⟩; have hw7 := hw6.symm; subst hw7; clear hw6; first | rw [fa] | rw [fb] | rw [fc]) | (go_at_call 14; refine (small_any _ _ _).mono ?_; rintro r w6 ⟨rfl, hw6⟩; have hw7 := hw6.symm; subst hw7; clear hw6; rw [hs]))
    go_ret
    exact ⟨rfl, H1.out⟩
  have hs := hs0
  clear hs0
  go_upto_region 5 with (first | (go_at_call 6; refine (few_any _ _).mono ?_; rintro r w6 ⟨rfl, hw6⟩; have hw7 := hw6.symm; subst hw7; clear hw6; first | rw [fa] | rw [fb] | rw [fc]) | (go_at_call 14; refine (small_any _ _ _).mono ?_; rintro r w6 ⟨rfl, hw6⟩; have hw7 := hw6.symm; subst hw7; clear hw6; rw [hs]))
  have HS : Hid (∀ w', Below w1.drew.heap.size w1.drew w' → (fun w' : World => w'.cell? ⟨0, 0, none⟩ = some (.int .i64 (-9)) ∧ w'.cell? ⟨0, 1, none⟩ = some (.int .i64 0) ∧ w'.cell? ⟨0, 2, none⟩ = some (.int .i64 0) ∧ w'.cell? ⟨0, 3, none⟩ = some (.int .i64 0) ∧ w'.cell? ⟨1, 0, none⟩ = some (.int .i64 (-9)) ∧ w'.cell? ⟨1, 1, none⟩ = some (.int .i64 0)) w') := fun w' hb' => by
    obtain ⟨k0, k1, k2, k3⟩ := HV.out.1.below (below_seq H1.out (Below.refl _ _).drew)
    obtain ⟨k4, k5⟩ := HV.out.2.1.below (below_seq H1.out (Below.refl _ _).drew)
    exact ⟨below_cell hb' k0, below_cell hb' k1, below_cell hb' k2, below_cell hb' k3, below_cell hb' k4, below_cell hb' k5⟩
  have hS0 := HS.out _ (Below.refl _ _)
  refine wp_region_noPanic ?_
  refine wp_region_held_drew (S := fun w' : World => w'.cell? ⟨0, 0, none⟩ = some (.int .i64 (-9)) ∧ w'.cell? ⟨0, 1, none⟩ = some (.int .i64 0) ∧ w'.cell? ⟨0, 2, none⟩ = some (.int .i64 0) ∧ w'.cell? ⟨0, 3, none⟩ = some (.int .i64 0) ∧ w'.cell? ⟨1, 0, none⟩ = some (.int .i64 (-9)) ∧ w'.cell? ⟨1, 1, none⟩ = some (.int .i64 0)) (by kernel_rfl) hS0 (fun hHeld => ?_)
  refine take_at (i := 0) (n := 41) (v := ?_) rfl rfl (by kernel_rfl) (by kernel_rfl) (by kernel_rfl) (fun _ _ _ h => h) (Or.inl ⟨by rfl, ?_⟩) (by assumption) ?_
  rotate_left 1
  · intro wz1 hSw
    obtain ⟨s0, s1, s2, s3, s4, s5⟩ := hSw
    first | (go_simp; done) | (go_simp; with_reducible rfl)
  simp only [List.set_cons_zero, List.set_cons_succ]
  refine take_at (i := 1) (n := 42) (v := ?_) rfl rfl (by kernel_rfl) (by kernel_rfl) (by kernel_rfl) (fun _ _ _ h => h) (Or.inl ⟨by rfl, ?_⟩) (by assumption) ?_
  rotate_left 1
  · intro wz1 hSw
    obtain ⟨s0, s1, s2, s3, s4, s5⟩ := hSw
    first | (go_simp; done) | (go_simp; with_reducible rfl)
  simp only [List.set_cons_zero, List.set_cons_succ]
  refine take_at (i := 3) (n := 44) (v := ?_) rfl rfl (by kernel_rfl) (by kernel_rfl) (by kernel_rfl) (fun _ _ _ h => h) (Or.inl ⟨by rfl, ?_⟩) (by assumption) ?_
  rotate_left 1
  · intro wz1 hSw
    obtain ⟨s0, s1, s2, s3, s4, s5⟩ := hSw
    first | (go_simp; done) | (go_simp; with_reducible rfl)
  simp only [List.set_cons_zero, List.set_cons_succ]
  refine take_at (i := 4) (n := 45) (v := ?_) rfl rfl (by kernel_rfl) (by kernel_rfl) (by kernel_rfl) (fun _ _ _ h => h) (Or.inl ⟨by rfl, ?_⟩) (by assumption) ?_
  rotate_left 1
  · intro wz1 hSw
    obtain ⟨s0, s1, s2, s3, s4, s5⟩ := hSw
    first | (go_simp; done) | (go_simp; with_reducible rfl)
  simp only [List.set_cons_zero, List.set_cons_succ]
  refine take_at (i := 6) (n := 47) (v := ?_) rfl rfl (by kernel_rfl) (by kernel_rfl) (by kernel_rfl) (fun _ _ _ h => h) (Or.inl ⟨by rfl, ?_⟩) (by assumption) ?_
  rotate_left 1
  · intro wz1 hSw
    obtain ⟨s0, s1, s2, s3, s4, s5⟩ := hSw
    first | (go_simp; done) | (go_simp; with_reducible rfl)
  simp only [List.set_cons_zero, List.set_cons_succ]
  have H2 : Hid (Below w.heap.size w w1.drew) := below_seq H1.out (Below.refl _ _).drew
  generalize w1.drew = w2 at *
  refine wpAnyH_ready (rs := [2]) (by kernel_rfl) (by simp) ?_
  refine AllReadyH.cons rfl (fun K' hK' => ?_) AllReadyH.nil
  go_simp
  go_wp2_with (go_at_call 7; refine (HL _ l noF _ (by omega) (HV.out.2.2.1.below H2.out)).mono ?_; rintro r wa ⟨o1, rfl, hl9, hb9⟩; obtain ⟨b6, o6, c6, rfl, -⟩ := id hl9; have Ha : Hid (Below w2.heap.size w2 wa ∧ Lent Fr.vals wa l noF (.slice (some ⟨b6, o6, none⟩) l.length c6)) := ⟨hb9, hl9⟩; clear hl9 hb9)
  refine hK'.out _ _ (HS.out _ Ha.out.1) (fun hHeld => ?_)
  clear hK' K'
  have hSa := HS.out _ Ha.out.1
  refine wpAnyH_ready (rs := [5]) (by kernel_rfl) (by simp) ?_
  refine AllReadyH.cons rfl (fun K' hK' => ?_) AllReadyH.nil
  go_simp
  go_wp2_with (go_at_call 15; refine (HL1 _ cs noC _ (by omega) (HV.out.2.2.2.1.below (below_seq H2.out Ha.out.1))).mono ?_; rintro r wb ⟨o2, rfl, hl9, hb9⟩; obtain ⟨b7, o7, c7, rfl, -⟩ := id hl9; have Hb : Hid (Below w2.heap.size w2 wb ∧ Lent Fr.vals wb l noF (.slice (some ⟨b6, o6, none⟩) l.length c6) ∧ Lent Co.vals wb cs noC (.slice (some ⟨b7, o7, none⟩) cs.length c7)) := ⟨below_seq Ha.out.1 hb9, Ha.out.2.below hb9, hl9⟩; clear hl9 hb9)
  refine hK'.out _ _ (HS.out _ Hb.out.1) (fun hHeld => ?_)
  clear hK' K'
  have hSb := HS.out _ Hb.out.1
  refine wpAnyH_ready (rs := [7]) (by kernel_rfl) (by simp) ?_
  refine AllReadyH.cons rfl (fun K' hK' => ?_) AllReadyH.nil
  go_simp
  go_wp2_with (go_at_call 16; refine (LendN_any _ la (-9) _ (by omega) (HV.out.2.2.2.2.below (below_seq H2.out Hb.out.1))).mono ?_; rintro r wc ⟨o3, rfl, hl9, hb9⟩; obtain ⟨b8, o8, c8, rfl, -⟩ := id hl9; have Hc : Hid (NSL w wc l cs la (.slice (some ⟨b6, o6, none⟩) l.length c6) (.slice (some ⟨b7, o7, none⟩) cs.length c7) (.slice (some ⟨b8, o8, none⟩) la.length c8) ∧ Below w2.heap.size w2 wc) := ⟨⟨below_seq H2.out (below_seq Hb.out.1 hb9), Hb.out.2.1.below hb9, Hb.out.2.2.below hb9, hl9⟩, below_seq Hb.out.1 hb9⟩; clear hl9 hb9)
  refine hK'.out _ _ (HS.out _ Hc.out.2) (fun hHeld => ?_)
  clear hK' K'
  have hSc := HS.out _ Hc.out.2
  refine take_at (i := 8) (n := 9) (v := ?_) rfl rfl (by kernel_rfl) (by kernel_rfl) (by kernel_rfl) (fun _ _ _ h => h) (Or.inl ⟨by rfl, ?_⟩) (by assumption) ?_
  rotate_left 1
  · intro wz1 hSw
    obtain ⟨s0, s1, s2, s3, s4, s5⟩ := hSw
    first | (go_simp; done) | (go_simp; with_reducible rfl)
  simp only [List.set_cons_zero, List.set_cons_succ]
  refine take_at (i := 9) (n := 10) (v := ?_) rfl rfl (by kernel_rfl) (by kernel_rfl) (by kernel_rfl) (fun _ _ _ h => h) (Or.inl ⟨by rfl, ?_⟩) (by assumption) ?_
  rotate_left 1
  · intro wz1 hSw
    obtain ⟨s0, s1, s2, s3, s4, s5⟩ := hSw
    first | (go_simp; done) | (go_simp; with_reducible rfl)
  simp only [List.set_cons_zero, List.set_cons_succ]
  refine take_at (i := 10) (n := 11) (v := ?_) rfl rfl (by kernel_rfl) (by kernel_rfl) (by kernel_rfl) (fun _ _ _ h => h) (Or.inl ⟨by rfl, ?_⟩) (by assumption) ?_
  rotate_left 1
  · intro wz1 hSw
    obtain ⟨s0, s1, s2, s3, s4, s5⟩ := hSw
    first | (go_simp; done) | (go_simp; with_reducible rfl)
  simp only [List.set_cons_zero, List.set_cons_succ]
  refine wpAnyH_done (by kernel_rfl) ?_ _
  refine NoPanic.normal ?_
  have Hd : Hid (NSL w wc l cs la (.slice (some ⟨b6, o6, none⟩) l.length c6) (.slice (some ⟨b7, o7, none⟩) cs.length c7) (.slice (some ⟨b8, o8, none⟩) la.length c8)) := Hc.out.1
  clear hSa hSb hSc hS0 HS Ha Hb Hc HL HL1 hHeld
  have HSn := Send_any wc l cs la _ _ _ n Hd.out.l1.plain Hd.out.l2.plain Hd.out.l3.plain
  go_upto_region 7 with (go_at_call 17; refine HSn.mono ?_; rintro r wd ⟨u1, u2, z1, z2, rs, es, rfl, hsr, hres⟩; obtain ⟨p1, q1, p2, q2, rfl, rfl⟩ := hres.slices; have He : Hid (NSL w ((wd.alloc (.cells #[.slice p1 rs.length q1, .slice p2 es.length q2] 45)).alloc (.cells #[.int .i64 z1, .int .i64 z2] 31)) l cs la (.slice (some ⟨b6, o6, none⟩) l.length c6) (.slice (some ⟨b7, o7, none⟩) cs.length c7) (.slice (some ⟨b8, o8, none⟩) la.length c8) ∧ ANS ((wd.alloc (.cells #[.slice p1 rs.length q1, .slice p2 es.length q2] 45)).alloc (.cells #[.int .i64 z1, .int .i64 z2] 31)) wd.heap.size rs es (.slice p1 rs.length q1) (.slice p2 es.length q2) z1 z2 ∧ SndRes l cs la n z1 z2 rs es ∧ rs.length ≤ 1000000 ∧ es.length ≤ 1000000) := ⟨(Hd.out.grow hres.1).grow (below_seq (below_new _ _) (below_new _ _)), ANS.new z1 z2 hres.rows.1 hres.rows.2, hsr, hres.2.1, hres.2.2.1⟩; clear hsr hres HSn Hd)
  generalize ((wd.alloc (.cells #[.slice p1 rs.length q1, .slice p2 es.length q2] 45)).alloc (.cells #[.int .i64 z1, .int .i64 z2] 31)) = we at *
  generalize wd.heap.size = G1 at *
  have HSf := SendOf_any we l cs la _ _ _ n (HV.out.2.2.1.below He.out.1.bel) (HV.out.2.2.2.1.below He.out.1.bel) (HV.out.2.2.2.2.below He.out.1.bel)
  go_upto_region 8 with (go_at_call 18; refine HSf.mono ?_; rintro r wf ⟨u1, u2, y1, y2, rs', es', rfl, hsr, hres⟩; obtain ⟨t1, t2, t3, t4⟩ := He.out.2.2.1.one hsr; subst t1 t2 t3 t4; obtain ⟨p3, q3, p4, q4, rfl, rfl⟩ := hres.slices; have Hf : Hid (NSL w ((wf.alloc (.cells #[.slice p3 rs.length q3, .slice p4 es.length q4] 45)).alloc (.cells #[.int .i64 z1, .int .i64 z2] 31)) l cs la (.slice (some ⟨b6, o6, none⟩) l.length c6) (.slice (some ⟨b7, o7, none⟩) cs.length c7) (.slice (some ⟨b8, o8, none⟩) la.length c8) ∧ ANS ((wf.alloc (.cells #[.slice p3 rs.length q3, .slice p4 es.length q4] 45)).alloc (.cells #[.int .i64 z1, .int .i64 z2] 31)) G1 rs es (.slice p1 rs.length q1) (.slice p2 es.length q2) z1 z2 ∧ ANS ((wf.alloc (.cells #[.slice p3 rs.length q3, .slice p4 es.length q4] 45)).alloc (.cells #[.int .i64 z1, .int .i64 z2] 31)) wf.heap.size rs es (.slice p3 rs.length q3) (.slice p4 es.length q4) z1 z2 ∧ rs.length ≤ 1000000 ∧ es.length ≤ 1000000) := ⟨(He.out.1.grow hres.1).grow (below_seq (below_new _ _) (below_new _ _)), (He.out.2.1.grow hres.1).grow (below_seq (below_new _ _) (below_new _ _)), ANS.new z1 z2 hres.rows.1 hres.rows.2, He.out.2.2.2⟩; clear hsr hres HSf He)
  generalize ((wf.alloc (.cells #[.slice p3 rs.length q3, .slice p4 es.length q4] 45)).alloc (.cells #[.int .i64 z1, .int .i64 z2] 31)) = wg at *
  generalize wf.heap.size = G2 at *
  obtain ⟨fs, -, fl⟩ := cells_of (l := [_, _]) Hf.out.2.1.f
  have f0 := fs 0 _ rfl
  have f1 := fs 1 _ rfl
  obtain ⟨gs, -, gl⟩ := cells_of (l := [_, _]) Hf.out.2.2.1.f
  have g0 := gs 0 _ rfl
  have g1 := gs 1 _ rfl
  obtain ⟨ps, -, pl⟩ := cells_of (l := [_, _]) Hf.out.2.1.p
  have p0 := ps 0 _ rfl
  have p1' := ps 1 _ rfl
  obtain ⟨qs, -, ql⟩ := cells_of (l := [_, _]) Hf.out.2.2.1.p
  have q0 := qs 0 _ rfl
  have q1' := qs 1 _ rfl
  clear fs gs ps qs
  have HSp := SameP_any wg rs es _ _ _ _ Hf.out.2.2.2.1 Hf.out.2.2.2.2 Hf.out.2.1.r Hf.out.2.1.e Hf.out.2.2.1.r Hf.out.2.2.1.e
  go_wp2_with (go_at_call 19; refine HSp.mono ?_; rintro r wh ⟨rfl, hbh⟩; have Hh : Hid (NSL w wh l cs la (.slice (some ⟨b6, o6, none⟩) l.length c6) (.slice (some ⟨b7, o7, none⟩) cs.length c7) (.slice (some ⟨b8, o8, none⟩) la.length c8)) := Hf.out.1.grow hbh; obtain ⟨k0, k1, k2, k3⟩ := HV.out.1.below Hh.out.bel; simp only [Nat.zero_add] at k1 k2 k3; clear hbh HSp f0 f1 g0 g1 p0 p1' q0 q1' fl gl pl ql Hf)
  go_wp2_with (go_at_call 13; refine (HT _ l noF _ _ (by omega) Hh.out.l1 (HV.out.2.2.1.below Hh.out.bel)).mono ?_; rintro r wi ⟨rfl, hbi⟩; have Hi : Hid (NSL w wi l cs la (.slice (some ⟨b6, o6, none⟩) l.length c6) (.slice (some ⟨b7, o7, none⟩) cs.length c7) (.slice (some ⟨b8, o8, none⟩) la.length c8)) := Hh.out.grow hbi; obtain ⟨k4, k5⟩ := HV.out.2.1.below Hi.out.bel; simp only [Nat.zero_add] at k5; clear hbi Hh k0 k1 k2 k3 HT)
  go_wp2_with (go_at_call 20; refine (HT1 _ cs noC _ _ (by omega) Hi.out.l2 (HV.out.2.2.2.1.below Hi.out.bel)).mono ?_; rintro r wj ⟨rfl, hbj⟩; have Hj : Hid (NSL w wj l cs la (.slice (some ⟨b6, o6, none⟩) l.length c6) (.slice (some ⟨b7, o7, none⟩) cs.length c7) (.slice (some ⟨b8, o8, none⟩) la.length c8)) := Hi.out.grow hbj; clear hbj Hi k4 k5 HT1)
  go_wp2_with (go_at_call 21; refine (StillN_any _ la (-9) _ _ (by omega) Hj.out.l3 (HV.out.2.2.2.2.below Hj.out.bel)).mono ?_; rintro r wk ⟨rfl, hbk⟩; have Hk : Hid (Below w.heap.size w wk) := below_seq Hj.out.bel hbk; clear hbk)
  go_ret
  exact ⟨rfl, Hk.out⟩
end Go.Proofs.YtdhnjemgnlklkajDoor
namespace Go.Proofs.YtdhnjemgnlklkajDoor
open Go.ChangeShapes Go.WideShapes Go.ChangeAt Go.RowKit

theorem gNoC : Tryd.prog.globalNamed "punctual/punctuallaw.noCome" = some 1 := by kernel_rfl
theorem tNoC : (Tryd.prog.globals[1]?).map (·.type) = some 42 := by kernel_rfl
theorem covals_of {x y : Co} (h : (DataW.agg [.lit (.int .i64 x.k), .lit (.int .i64 x.a)] : DataW Unit) = .agg [.lit (.int .i64 y.k), .lit (.int .i64 y.a)]) : x = y := by
  obtain ⟨x0, x1⟩ := x
  obtain ⟨y0, y1⟩ := y
  simp only [DataW.agg.injEq, List.cons.injEq, DataW.lit.injEq, Lit.int.injEq, true_and, and_true] at h
  obtain ⟨rfl, rfl⟩ := h
  rfl
/-- What the listed variables hold. -/
theorem of_laidS {W : World} (h : laidMetH Tryd.prog Rows.netSendsRow.laid W) : FrAt W 0 0 noF ∧ CoAt W 1 0 noC := by
  rw [MakeChecks.laidMetH_plain _ _ _ (by kernel_rfl)] at h
  obtain ⟨ps, ⟨g0, t0, cs0, f0, p0, q0, hg0, ht0, hv0, hd0, ⟨g1, t1, cs1, f1, p1, q1, hg1, ht1, hv1, hd1, _, _⟩, _⟩, _, _⟩ := h
  obtain rfl := Option.some.inj (gNoF.symm.trans hg0)
  obtain rfl := Option.some.inj (gNoC.symm.trans hg1)
  obtain rfl := Option.some.inj (tNoF.symm.trans ht0)
  obtain rfl := Option.some.inj (tNoC.symm.trans ht1)
  have c0 : ∀ j, W.cell? ⟨0, j, none⟩ = cs0[j]? := World.var?_cell hg0 hv0
  have c1 : ∀ j, W.cell? ⟨1, j, none⟩ = cs1[j]? := World.var?_cell hg1 hv1
  refine ⟨?_, ?_⟩
  · have hlen : cs0.toList.length = 4 := by
      obtain ⟨xs, n1, -, -, hl, -⟩ := DataW.trod_struct Tryd.underlying27 hd0
      rw [hl, cellsFr]
    obtain ⟨x, hx, hy⟩ := fr_one hlen hd0
    have hxe : x = noF := frvals_of (hy.symm.trans rfl)
    subst hxe
    have key : ∀ k u, noF.vals[k]? = some u → W.cell? ⟨0, k, none⟩ = some u := fun k u hu => by
      rw [c0, ← Array.getElem?_toList, hx]; exact hu
    exact ⟨key 0 _ rfl, key 1 _ rfl, key 2 _ rfl, key 3 _ rfl⟩
  · have hlen : cs1.toList.length = 2 := by
      obtain ⟨xs, n1, -, -, hl, -⟩ := DataW.trod_struct Tryd.underlying42 hd1
      rw [hl, cellsCo]
    obtain ⟨x, hx, hy⟩ := co_one hlen hd1
    have hxe : x = noC := covals_of (hy.symm.trans rfl)
    subst hxe
    have key : ∀ k u, noC.vals[k]? = some u → W.cell? ⟨1, k, none⟩ = some u := fun k u hu => by
      rw [c1, ← Array.getElem?_toList, hx]; exact hu
    exact ⟨key 0 _ rfl, key 1 _ rfl⟩
theorem reads38 : Tryd.prog.readableRec 38 = true := by kernel_rfl
theorem lt38 : 38 < Tryd.prog.types.size := of_decide_eq_true (by kernel_rfl)
theorem reads28 : Tryd.prog.readableRec 28 = true := by kernel_rfl
theorem lt28 : 28 < Tryd.prog.types.size := of_decide_eq_true (by kernel_rfl)
theorem reads3 : Tryd.prog.readableRec 3 = true := by kernel_rfl
theorem lt3 : 3 < Tryd.prog.types.size := of_decide_eq_true (by kernel_rfl)

set_option maxRecDepth 20000 in
theorem contractS (H : Type) (enc : TypeId × Value → H) (W : World) (base : Nat) (args : Array Value) (ds gs : List (DataW H)) (before : List MemPlace)
    (hval : ∀ (j : Nat) t v, Tryd.f4.params[j]? = some t → args[j]? = some v → Value.okWide Tryd.prog W .any base t v)
    (hW : DataW.Whole enc Tryd.prog Tryd.f4.params.toList Rows.netSendsSpec.vars false W args.toList ds gs before) (hL : laidMetH Tryd.prog Rows.netSendsRow.laid W) :
    Calls Tryd.prog 4 args W fun e W' => ∃ v, e = .returned v ∧ Rows.netSendsSpec.post enc Tryd.prog Tryd.f4 false true false false W args v W' := by
  have hW' := hW
  obtain ⟨p, q, hA0, hV, rfl, hfz, hnd⟩ := hW
  have hA : DataW.TrodAll enc Tryd.prog W 0 (fun _ => true) true Tryd.f4.params.toList args.toList ds p := hA0
  rw [Tryd.params4] at hA hval
  obtain ⟨v0, vs0, d0, ds0, p0, q0, hargs, rfl, rfl, h0, r0⟩ := trodAll_cons hA
  obtain ⟨v1, vs1, d1, ds1, p1, q1, hargs1, rfl, rfl, h1, r1⟩ := trodAll_cons r0
  obtain ⟨v2, vs2, d2, ds2, p2, q2, hargs2, rfl, rfl, h2, r2⟩ := trodAll_cons r1
  obtain ⟨v3, vs3, d3, ds3, p3, q3, hargs3, rfl, rfl, h3, r3⟩ := trodAll_cons r2
  obtain ⟨rfl, rfl, rfl⟩ := trodAll_nil r3
  obtain rfl : args = #[v0, v1, v2, v3] := Array.toList_inj.1 (by rw [hargs, hargs1, hargs2, hargs3])
  obtain ⟨rfl, rfl⟩ := trodVars_none hV
  obtain ⟨ad, len, cap, rfl⟩ := okWide_slice Tryd.underlying22 (hval 0 22 v0 (by simp) (by simp))
  obtain ⟨ad1, len1, cap1, rfl⟩ := okWide_slice Tryd.underlying38 (hval 1 38 v1 (by simp) (by simp))
  obtain ⟨ad2, len2, cap2, rfl⟩ := okWide_slice Tryd.underlying28 (hval 2 28 v2 (by simp) (by simp))
  obtain ⟨nn, rfl⟩ := okWide_int Tryd.underlying3 (hval 3 3 v3 (by simp) (by simp))
  clear hA0 hargs hargs1 hargs2 hargs3
  simp only [List.append_nil] at hW'
  obtain ⟨l, rfl, hsl⟩ := frSl_of_trod h0
  obtain ⟨cs, rfl, hcs⟩ := coSl_of_trod h1
  obtain ⟨la, rfl, hla⟩ := nuSl_of_trod h2
  obtain ⟨gt, gc⟩ := of_laidS hL
  refine (sends_walk W l cs la _ _ _ nn gt gc hsl hcs hla).mono fun e W' ⟨he, hbel⟩ => ?_
  subst he
  have hlt0 : ∀ x ∈ p0, x.block < W.heap.size := fun x hx => by
    obtain ⟨n, hn⟩ := h0
    exact DataW.trod_lt n _ _ _ hn x hx
  have hlt1 : ∀ x ∈ p1, x.block < W.heap.size := fun x hx => by
    obtain ⟨n, hn⟩ := h1
    exact DataW.trod_lt n _ _ _ hn x hx
  have hlt2 : ∀ x ∈ p2, x.block < W.heap.size := fun x hx => by
    obtain ⟨n, hn⟩ := h2
    exact DataW.trod_lt n _ _ _ hn x hx
  have hlt3 : ∀ x ∈ p3, x.block < W.heap.size := fun x hx => by
    obtain ⟨n, hn⟩ := h3
    exact DataW.trod_lt n _ _ _ hn x hx
  refine ⟨_, rfl, [d0, d1, d2, d3], [], p0 ++ (p1 ++ (p2 ++ p3)), [], p0 ++ (p1 ++ (p2 ++ p3)), [], hW', trodAll_mk1 (shut_bool Tryd.underlying4 _), ?_, rfl, hbel.frame _, fun h => by cases h⟩
  have s0 := WideElems.Trod_stays (W' := W') (sp' := fun b => decide (b < W.heap.size)) laidOut reads22 lt22 h0 (fun x hx => hbel.same (hlt0 x hx)) (fun x hx => by simpa using hlt0 x hx)
  have s1 := WideElems.Trod_stays (W' := W') (sp' := fun b => decide (b < W.heap.size)) laidOut reads38 lt38 h1 (fun x hx => hbel.same (hlt1 x hx)) (fun x hx => by simpa using hlt1 x hx)
  have s2 := WideElems.Trod_stays (W' := W') (sp' := fun b => decide (b < W.heap.size)) laidOut reads28 lt28 h2 (fun x hx => hbel.same (hlt2 x hx)) (fun x hx => by simpa using hlt2 x hx)
  have s3 := WideElems.Trod_stays (W' := W') (sp' := fun b => decide (b < W.heap.size)) laidOut reads3 lt3 h3 (fun x hx => hbel.same (hlt3 x hx)) (fun x hx => by simpa using hlt3 x hx)
  have e1 := trodAll_cons_mk s0 (trodAll_cons_mk s1 (trodAll_cons_mk s2 (trodAll_cons_mk s3 (trodAll_mk0 (enc := enc) (P := Tryd.prog) (w := W') (base := 0) (spare := fun b => decide (b < W.heap.size)) (held := true)))))
  rw [List.append_nil] at e1
  exact e1

/-- A world for the witness: the settled one, the variables holding what their initialisers lay. -/
def laidHeap2 (h : Array Obj) : Array Obj := (h.modify 1 fun
  | .cells _ t frozen => .cells #[.int .i64 (-9), .int .i64 0] t frozen
  | o => o).modify 0 fun
  | .cells _ t frozen => .cells #[.int .i64 (-9), .int .i64 0, .int .i64 0, .int .i64 0] t frozen
  | o => o
theorem laid_metS (os : Os) : laidMet Tryd.prog Rows.netSendsRow.laid (({ World.holding Tryd.prog os ⟨#[], #[], []⟩ with heap := laidHeap2 (World.holding Tryd.prog os ⟨#[], #[], []⟩).heap } : World).forCall (fun _ _ => 0) ⟨#[], #[.slice none 0 0, .slice none 0 0, .slice none 0 0, .int .i64 0], []⟩).memory :=
  laidMet_of_run' 8 (by kernel_rfl) (by kernel_rfl)
theorem readsS (os : Os) {H : Type} (enc : TypeId × Value → H) : ∃ places, DataW.whole enc Tryd.prog (({ World.holding Tryd.prog os ⟨#[], #[], []⟩ with heap := laidHeap2 (World.holding Tryd.prog os ⟨#[], #[], []⟩).heap } : World).forCall (fun _ _ => 0) ⟨#[], #[.slice none 0 0, .slice none 0 0, .slice none 0 0, .int .i64 0], []⟩).memory Tryd.f4.params.toList Rows.netSendsSpec.vars false #[Value.slice none 0 0, .slice none 0 0, .slice none 0 0, .int .i64 0].toList 8 = some ([.nil, .nil, .nil, .lit (.int .i64 0)], [], places) :=
  ⟨[], by kernel_rfl⟩

set_option maxRecDepth 100000 in
theorem liftedS (os : Os) (started : os.Started) (H : Type) (enc : TypeId × Value → H) (F : Stop.Interp) :
    ReturnsInHanded {} Tryd.checked os 4 .any ((OpenSpec.ofChange Rows.netSendsSpec).preRow enc Tryd.prog Tryd.f4 Rows.netSendsRow.domain false Rows.netSendsRow.laid) (((OpenSpec.ofChange Rows.netSendsSpec).at F).post enc Tryd.prog Tryd.f4 false true false false) := by
  obtain ⟨places, hx⟩ := readsS os enc
  refine returnsInHanded_of_row (C := Tryd.checked) (s := OpenSpec.ofChange Rows.netSendsSpec) own started (by kernel_rfl) Tryd.func4
    (witness_row_at (enc := enc) (C := Tryd.checked) false ({ World.holding Tryd.prog os ⟨#[], #[], []⟩ with heap := laidHeap2 (World.holding Tryd.prog os ⟨#[], #[], []⟩).heap } : World) #[.slice none 0 0, .slice none 0 0, .slice none 0 0, .int .i64 0] rfl (by kernel_rfl) (by kernel_rfl) (by kernel_rfl)
      (OpenSpec.preRow_of_cond 8 hx (by kernel_rfl) (fun k hk => by cases hk) (by kernel_rfl) (laid_metS os))) ?_
  intro W base args ds gs before hval hW _ _ _ hL _ _
  exact contractS H enc W base args ds gs before hval hW hL

theorem saidS : Rows.NetSendsSaid :=
  OpenClaim.holds_of_cond 4 Tryd.f4 rfl rfl rfl rfl rfl rfl rfl ⟨rfl, rfl, rfl, rfl, rfl⟩ rfl rfl rfl rfl rfl (by kernel_rfl) Tryd.func4 (by kernel_rfl)
    (of_decide_eq_true (by kernel_rfl)) (by unfold Func.isWrapper; first | (rw [if_pos (by decide +kernel)]; kernel_rfl) | (rw [if_neg (by decide +kernel)]; exact ⟨rfl, rfl⟩))
    (fun os started H enc _ F => by rw [OpenClaim.pre_eq_preRow]; exact liftedS os started H enc F)

/-- No parameter wants a stand-in; the program's own looks. -/
theorem standlessS (f : FuncId) (fn : Func) (hf : Tryd.pinned.checked.prog.funcNamed "punctual/punctuallaw.NetSends" = some f) (hfn : Tryd.pinned.checked.prog.funcs[f]? = some fn) :
    false = Tryd.pinned.checked.prog.looks [] ∧ ∀ (j : Nat) t, fn.params[j]? = some t → Tryd.pinned.checked.prog.wantsStandIn t = false := by
  obtain rfl : f = 4 := Option.some.inj ((show Tryd.prog.funcNamed "punctual/punctuallaw.NetSends" = some 4 by kernel_rfl).symm.trans hf) |>.symm
  obtain rfl : fn = Tryd.f4 := (Option.some.inj (Tryd.func4.symm.trans hfn)).symm
  refine ⟨by kernel_rfl, fun j t ht => ?_⟩
  rw [Tryd.params4] at ht
  have h : t = 22 ∨ t = 38 ∨ t = 28 ∨ t = 3 := by
    have := Array.mem_of_getElem? ht
    simp at this
    omega
  rcases h with rfl | rfl | rfl | rfl
  · exact (show Tryd.prog.wantsStandIn 22 = false by kernel_rfl)
  · exact (show Tryd.prog.wantsStandIn 38 = false by kernel_rfl)
  · exact (show Tryd.prog.wantsStandIn 28 = false by kernel_rfl)
  · exact (show Tryd.prog.wantsStandIn 3 = false by kernel_rfl)

theorem netSends_card : Rows.NetSendsCardSaid :=
  Claim7.holds_tied_plain_at .later [] _ _ _ _ saidS (fun _ h => by cases h) (by kernel_rfl) (fun _ h => by cases h) netSends_row_tie rfl ⟨rfl, rfl⟩ (by kernel_rfl) rfl standlessS (by kernel_rfl)
end Go.Proofs.YtdhnjemgnlklkajDoor
