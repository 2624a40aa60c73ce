import Derived.Test.YtccoobcggbbciaiGreatDoorSLA
import Derived.OwnWalk
namespace Go.Proofs.YtccoobcggbbciaiGreatDoor.S8
open Go.ChangeShapes Go.WideShapes Go.ChangeAt Go.RowKit

theorem infoJb : (Tryz.prog.info? 63).map (fun i => (i.zero, i.size, i.bytes)) = some (some (.agg #[.int .i64 0, .int .i64 0, .int .i64 0, .int .i64 0, .int .i64 0]), 5, 40) := by kernel_rfl

set_option maxRecDepth 20000 in
set_option maxHeartbeats 4000000 in
/-- Lend. -/
theorem LendJ_any (w : World) (l : List Jb) (m : Jb) (v : Value) (hl : l.length ≤ 100000) (hv : RowSl Jb.vals w l v) :
    Calls Tryz.prog 21 #[v, m.val] w fun r w' => ∃ u, r = .returned u ∧ Lent Jb.vals w' l m u ∧ Below w.heap.size w w' := by
  obtain ⟨ad, c, rfl, hnil, -, h⟩ := hv
  unfold Jb.val
  obtain ⟨i0, hi0, hz0, hz1, hz2⟩ := info_parts infoJb
  have hB0 : Below (w.heap.size + 1) (w.alloc (.cells #[.int .i64 m.k, .int .i64 m.a, .int .i64 m.c, .int .i64 m.d, .int .i64 m.p] 63)) ((w.alloc (.cells #[.int .i64 m.k, .int .i64 m.a, .int .i64 m.c, .int .i64 m.d, .int .i64 m.p] 63)).drew) := (Below.refl _ _).drew
  have hKeep : ∀ W, Below (w.heap.size + 1) (w.alloc (.cells #[.int .i64 m.k, .int .i64 m.a, .int .i64 m.c, .int .i64 m.d, .int .i64 m.p] 63)) W → W.cell? ⟨w.heap.size, 0, none⟩ = some (.int .i64 m.k) ∧ W.cell? ⟨w.heap.size, 1, none⟩ = some (.int .i64 m.a) ∧ W.cell? ⟨w.heap.size, 2, none⟩ = some (.int .i64 m.c) ∧ W.cell? ⟨w.heap.size, 3, none⟩ = some (.int .i64 m.d) ∧ W.cell? ⟨w.heap.size, 4, none⟩ = some (.int .i64 m.p) := fun W hb => ⟨(hb.cell (by show w.heap.size < w.heap.size + 1; omega)).trans (by go_simp), (hb.cell (by show w.heap.size < w.heap.size + 1; omega)).trans (by go_simp), (hb.cell (by show w.heap.size < w.heap.size + 1; omega)).trans (by go_simp), (hb.cell (by show w.heap.size < w.heap.size + 1; omega)).trans (by go_simp), (hb.cell (by show w.heap.size < w.heap.size + 1; omega)).trans (by go_simp)⟩
  have hA : ∀ W, Below (w.heap.size + 1) (w.alloc (.cells #[.int .i64 m.k, .int .i64 m.a, .int .i64 m.c, .int .i64 m.d, .int .i64 m.p] 63)) W → ∀ ad', ad = some ad' → ∀ j u, (l.flatMap Jb.vals)[j]? = some u → W.cell? (ad'.add j) = some u := fun W hb => rowArg h ((below_new w (.cells #[.int .i64 m.k, .int .i64 m.a, .int .i64 m.c, .int .i64 m.d, .int .i64 m.p] 63)).trans (hb.mono (by omega)))
  obtain ⟨w1, hm1, ho1, hb1, hl1⟩ := makeJb ((w.alloc (.cells #[.int .i64 m.k, .int .i64 m.a, .int .i64 m.c, .int .i64 m.d, .int .i64 m.p] 63)).drew) l.length (w.heap.size + 1) (by omega) (by simp)
  obtain ⟨v1, hm2, ho2, hb2, hl2⟩ := makeJb (((w.alloc (.cells #[.int .i64 m.k, .int .i64 m.a, .int .i64 m.c, .int .i64 m.d, .int .i64 m.p] 63)).drew).alloc (.cells #[.int .i64 m.k, .int .i64 m.a, .int .i64 m.c, .int .i64 m.d, .int .i64 m.p, .int .i64 m.k, .int .i64 m.a, .int .i64 m.c, .int .i64 m.d, .int .i64 m.p, .int .i64 m.k, .int .i64 m.a, .int .i64 m.c, .int .i64 m.d, .int .i64 m.p] 63)) l.length (w.heap.size + 1 + 1) (by omega) (by simp)
  rw [show (((w.alloc (.cells #[.int .i64 m.k, .int .i64 m.a, .int .i64 m.c, .int .i64 m.d, .int .i64 m.p] 63)).drew).alloc (.cells #[.int .i64 m.k, .int .i64 m.a, .int .i64 m.c, .int .i64 m.d, .int .i64 m.p, .int .i64 m.k, .int .i64 m.a, .int .i64 m.c, .int .i64 m.d, .int .i64 m.p, .int .i64 m.k, .int .i64 m.a, .int .i64 m.c, .int .i64 m.d, .int .i64 m.p] 63)) = ((w.alloc (.cells #[.int .i64 m.k, .int .i64 m.a, .int .i64 m.c, .int .i64 m.d, .int .i64 m.p] 63)).alloc (.cells #[.int .i64 m.k, .int .i64 m.a, .int .i64 m.c, .int .i64 m.d, .int .i64 m.p, .int .i64 m.k, .int .i64 m.a, .int .i64 m.c, .int .i64 m.d, .int .i64 m.p, .int .i64 m.k, .int .i64 m.a, .int .i64 m.c, .int .i64 m.d, .int .i64 m.p] 63)).drew from rfl] at hm2
  have hBw1 : Below (w.heap.size + 1) (w.alloc (.cells #[.int .i64 m.k, .int .i64 m.a, .int .i64 m.c, .int .i64 m.d, .int .i64 m.p] 63)) w1 := hB0.trans hb1
  have hBv1 : Below (w.heap.size + 1) (w.alloc (.cells #[.int .i64 m.k, .int .i64 m.a, .int .i64 m.c, .int .i64 m.d, .int .i64 m.p] 63)) v1 := (hB0.alloc (by simp) (.cells #[.int .i64 m.k, .int .i64 m.a, .int .i64 m.c, .int .i64 m.d, .int .i64 m.p, .int .i64 m.k, .int .i64 m.a, .int .i64 m.c, .int .i64 m.d, .int .i64 m.p, .int .i64 m.k, .int .i64 m.a, .int .i64 m.c, .int .i64 m.d, .int .i64 m.p] 63)).trans (hb2.mono (by omega))
  have hmk2 : ∀ j u, (marksJb m)[j]? = some u → v1.cell? ((⟨w.heap.size + 1, 0, none⟩ : Addr).add j) = some u := fun j u hj => (hb2.cell (by rw [Addr.add_lit]; show w.heap.size + 1 < w.heap.size + 1 + 1; omega)).trans (marksCellsJb ((w.alloc (.cells #[.int .i64 m.k, .int .i64 m.a, .int .i64 m.c, .int .i64 m.d, .int .i64 m.p] 63)).drew) m _ (by simp) j u hj)
  have hwr : IntKind.i64.wrap ((l.length : Int) + 3) = (l.length : Int) + 3 := by rw [IntKind.wrap_i64]; omega
  go_enter Tryz.func21, Tryz.ntmps21
  go_wp2_with fail
  refine wp_region_noPanic ?_
  refine wp_region_held_drew (S := fun w' => w'.cell? ⟨w.heap.size, 0, none⟩ = some (.int .i64 m.k) ∧ w'.cell? ⟨w.heap.size, 1, none⟩ = some (.int .i64 m.a) ∧ w'.cell? ⟨w.heap.size, 2, none⟩ = some (.int .i64 m.c) ∧ w'.cell? ⟨w.heap.size, 3, none⟩ = some (.int .i64 m.d) ∧ w'.cell? ⟨w.heap.size, 4, none⟩ = some (.int .i64 m.p)) (by kernel_rfl) (hKeep _ hB0) (fun hHeld => ?_)
  refine take_at (i := 0) (n := 6) (v := ?_) rfl rfl (by kernel_rfl) (by kernel_rfl) (by kernel_rfl) (fun _ _ _ h => h) (Or.inl ⟨by rfl, ?_⟩) (by assumption) ?_
  rotate_left 1
  · intro wz hSw
    first | (go_simp; done) | (go_simp; with_reducible rfl)
  simp only [List.set_cons_zero, List.set_cons_succ]
  refine take_at (i := 1) (n := 7) (v := ?_) rfl rfl (by kernel_rfl) (by kernel_rfl) (by kernel_rfl) (fun _ _ _ h => h) (Or.inl ⟨by rfl, ?_⟩) (by assumption) ?_
  rotate_left 1
  · intro wz hSw
    first | (go_simp; done) | (go_simp; with_reducible rfl)
  simp only [List.set_cons_zero, List.set_cons_succ]
  refine take_at (i := 2) (n := 8) (v := ?_) rfl rfl (by kernel_rfl) (by kernel_rfl) (by kernel_rfl) (fun _ _ _ h => h) (Or.inl ⟨by rfl, ?_⟩) (by assumption) ?_
  rotate_left 1
  · intro wz hSw
    first | (go_simp; done) | (go_simp; with_reducible rfl)
  simp only [List.set_cons_zero, List.set_cons_succ]
  refine take_at (i := 4) (n := 10) (v := ?_) rfl rfl (by kernel_rfl) (by kernel_rfl) (by kernel_rfl) (fun _ _ _ h => h) (Or.inl ⟨by rfl, ?_⟩) (by assumption) ?_
  rotate_left 1
  · intro wz hSw
    first | (go_simp; done) | (go_simp; with_reducible rfl)
  simp only [List.set_cons_zero, List.set_cons_succ]
  refine take_at (i := 6) (n := 12) (v := ?_) rfl rfl (by kernel_rfl) (by kernel_rfl) (by kernel_rfl) (fun _ _ _ h => h) (Or.inl ⟨by rfl, ?_⟩) (by assumption) ?_
  rotate_left 1
  · intro wz hSw
    first | (go_simp; done) | (go_simp; with_reducible rfl)
  simp only [List.set_cons_zero, List.set_cons_succ]
  refine take_at (i := 7) (n := 13) (v := ?_) rfl rfl (by kernel_rfl) (by kernel_rfl) (by kernel_rfl) (fun _ _ _ h => h) (Or.inl ⟨by rfl, ?_⟩) (by assumption) ?_
  rotate_left 1
  · intro wz hSw
    first | (go_simp; done) | (go_simp; with_reducible rfl)
  simp only [List.set_cons_zero, List.set_cons_succ]
  refine take_at (i := 8) (n := 14) (v := ?_) rfl rfl (by kernel_rfl) (by kernel_rfl) (by kernel_rfl) (fun _ _ _ h => h) (Or.inl ⟨by rfl, ?_⟩) (by assumption) ?_
  rotate_left 1
  · intro wz hSw
    first | (go_simp; done) | (go_simp; with_reducible rfl)
  simp only [List.set_cons_zero, List.set_cons_succ]
  refine wpAnyH_ready (rs := [3, 9]) (by kernel_rfl) (by simp) ?_
  refine AllReadyH.cons rfl (fun K hK => ?_) (AllReadyH.cons rfl (fun K hK => ?_) AllReadyH.nil)
  · go_simp
    refine hK.out _ _ (hKeep _ hBw1) (fun hHeld => ?_)
    clear hK K
    refine wpAnyH_ready (rs := [5, 9]) (by kernel_rfl) (by simp) ?_
    refine AllReadyH.cons rfl (fun K hK => ?_) (AllReadyH.cons rfl (fun K hK => ?_) AllReadyH.nil)
    · refine step_fits rfl 11 rfl (.tmp 9) (.tmp 10) 54 rfl (w.heap.size + 1) 63 i0 5 Tryz.underlying54 hi0 hz1 (w.heap.size + 1) (0) (l.length + 3) ([]) rfl ho1 (ad) (l.length) (c) (l.flatMap Jb.vals) rfl (flat_length Jb.vals 5 Jb.len l) hnil (hA w1 hBw1) (fun u hu => flatOneJb hu) (by omega) l.length (by omega) (l.flatMap Jb.vals) rfl ?_
      intro w2 how2 hgw2
      have hBw2 : Below (w.heap.size + 1) (w.alloc (.cells #[.int .i64 m.k, .int .i64 m.a, .int .i64 m.c, .int .i64 m.d, .int .i64 m.p] 63)) w2 := hBw1.grown hgw2 (by omega) (by intro q hq; cases hq; omega)
      have hszw2 := hgw2.size
      refine hK.out _ _ (hKeep _ hBw2) (fun hHeld => ?_)
      clear hK K
      simp only [List.set_cons_zero, List.set_cons_succ]
      refine wpAnyH_ready (rs := [9]) (by kernel_rfl) (by simp) ?_
      refine AllReadyH.cons rfl (fun K hK => ?_) AllReadyH.nil
      go_simp
      refine hK.out _ _ (hKeep _ (hBw2.alloc (by omega) _)) (fun hHeld => ?_)
      clear hK K
      refine wpAnyH_ready (rs := [10]) (by kernel_rfl) (by simp) ?_
      refine AllReadyH.cons rfl (fun K hK => ?_) AllReadyH.nil
      refine step_fits rfl 16 rfl (.tmp 11) (.tmp 15) 54 rfl (w.heap.size + 1) 63 i0 5 Tryz.underlying54 hi0 hz1 (w.heap.size + 1) l.length (l.length + 3) (l.flatMap Jb.vals) rfl (ownsRow_same how2 (fun k _ hk => (below_new w2 _).block k hk)) (some ⟨w2.heap.size, 0, none⟩) (3) (3) (marksJb m) rfl rfl (by intro e; cases e) (by intro ad' e j u hj; cases e; exact marksCellsJb w2 m _ rfl j u hj) (marksOneJb m) (by omega) (l.length + 3) rfl (l.flatMap Jb.vals ++ marksJb m) rfl ?_
      intro w3 how3 hgw3
      have hBw3 : Below (w.heap.size + 1) (w.alloc (.cells #[.int .i64 m.k, .int .i64 m.a, .int .i64 m.c, .int .i64 m.d, .int .i64 m.p] 63)) w3 := (hBw2.alloc (by omega) _).grown hgw3 (by simp; omega) (by intro q hq; cases hq; omega)
      have hszw3 := hgw3.size
      refine hK.out _ _ (hKeep _ hBw3) (fun hHeld => ?_)
      clear hK K
      simp only [List.set_cons_zero, List.set_cons_succ]
      refine take_at (i := 11) (n := 5) (v := ?_) rfl rfl (by kernel_rfl) (by kernel_rfl) (by kernel_rfl) (fun _ _ _ h => h) (Or.inl ⟨by rfl, ?_⟩) (by assumption) ?_
      rotate_left 1
      · intro wz hSw
        first | (go_simp; done) | (go_simp; with_reducible rfl)
      simp only [List.set_cons_zero, List.set_cons_succ]
      refine wpAnyH_done (by kernel_rfl) ?_ _
      refine NoPanic.normal ?_
      go_wp2_with fail
      go_ret
      refine ⟨_, rfl, lentOfJb how3, (below_new w (.cells #[.int .i64 m.k, .int .i64 m.a, .int .i64 m.c, .int .i64 m.d, .int .i64 m.p] 63)).trans (hBw3.mono (by omega))⟩
    · go_simp
      refine hK.out _ _ (hKeep _ (hBw1.alloc (by omega) _)) (fun hHeld => ?_)
      clear hK K
      refine wpAnyH_ready (rs := [5]) (by kernel_rfl) (by simp) ?_
      refine AllReadyH.cons rfl (fun K hK => ?_) AllReadyH.nil
      refine step_fits rfl 11 rfl (.tmp 9) (.tmp 10) 54 rfl (w.heap.size + 1) 63 i0 5 Tryz.underlying54 hi0 hz1 (w.heap.size + 1) (0) (l.length + 3) ([]) rfl (ownsRow_same ho1 (fun k _ hk => (below_new w1 _).block k hk)) (ad) (l.length) (c) (l.flatMap Jb.vals) rfl (flat_length Jb.vals 5 Jb.len l) hnil (hA (w1.alloc (.cells #[.int .i64 m.k, .int .i64 m.a, .int .i64 m.c, .int .i64 m.d, .int .i64 m.p, .int .i64 m.k, .int .i64 m.a, .int .i64 m.c, .int .i64 m.d, .int .i64 m.p, .int .i64 m.k, .int .i64 m.a, .int .i64 m.c, .int .i64 m.d, .int .i64 m.p] 63)) (hBw1.alloc (by omega) _)) (fun u hu => flatOneJb hu) (by omega) l.length (by omega) (l.flatMap Jb.vals) rfl ?_
      intro w2 how2 hgw2
      have hBw2 : Below (w.heap.size + 1) (w.alloc (.cells #[.int .i64 m.k, .int .i64 m.a, .int .i64 m.c, .int .i64 m.d, .int .i64 m.p] 63)) w2 := (hBw1.alloc (by omega) _).grown hgw2 (by simp; omega) (by intro q hq; cases hq; omega)
      have hszw2 := hgw2.size
      refine hK.out _ _ (hKeep _ hBw2) (fun hHeld => ?_)
      clear hK K
      simp only [List.set_cons_zero, List.set_cons_succ]
      refine wpAnyH_ready (rs := [10]) (by kernel_rfl) (by simp) ?_
      refine AllReadyH.cons rfl (fun K hK => ?_) AllReadyH.nil
      refine step_fits rfl 16 rfl (.tmp 11) (.tmp 15) 54 rfl (w.heap.size + 1) 63 i0 5 Tryz.underlying54 hi0 hz1 (w.heap.size + 1) l.length (l.length + 3) (l.flatMap Jb.vals) rfl how2 (some ⟨w1.heap.size, 0, none⟩) (3) (3) (marksJb m) rfl rfl (by intro e; cases e) (by intro ad' e j u hj; cases e; exact (hgw2.cell (marksCellsJb w1 m _ rfl j u hj) (by first | (simp [Addr.add_lit]; done) | (simp [Addr.add_lit]; omega)))) (marksOneJb m) (by omega) (l.length + 3) rfl (l.flatMap Jb.vals ++ marksJb m) rfl ?_
      intro w3 how3 hgw3
      have hBw3 : Below (w.heap.size + 1) (w.alloc (.cells #[.int .i64 m.k, .int .i64 m.a, .int .i64 m.c, .int .i64 m.d, .int .i64 m.p] 63)) w3 := hBw2.grown hgw3 (by simp at hszw2; omega) (by intro q hq; cases hq; omega)
      have hszw3 := hgw3.size
      refine hK.out _ _ (hKeep _ hBw3) (fun hHeld => ?_)
      clear hK K
      simp only [List.set_cons_zero, List.set_cons_succ]
      refine take_at (i := 11) (n := 5) (v := ?_) rfl rfl (by kernel_rfl) (by kernel_rfl) (by kernel_rfl) (fun _ _ _ h => h) (Or.inl ⟨by rfl, ?_⟩) (by assumption) ?_
      rotate_left 1
      · intro wz hSw
        first | (go_simp; done) | (go_simp; with_reducible rfl)
      simp only [List.set_cons_zero, List.set_cons_succ]
      refine wpAnyH_done (by kernel_rfl) ?_ _
      refine NoPanic.normal ?_
      go_wp2_with fail
      go_ret
      refine ⟨_, rfl, lentOfJb how3, (below_new w (.cells #[.int .i64 m.k, .int .i64 m.a, .int .i64 m.c, .int .i64 m.d, .int .i64 m.p] 63)).trans (hBw3.mono (by omega))⟩
  · go_simp
    refine hK.out _ _ (hKeep _ (hB0.alloc (by simp) _)) (fun hHeld => ?_)
    clear hK K
    refine wpAnyH_ready (rs := [3]) (by kernel_rfl) (by simp) ?_
    refine AllReadyH.cons rfl (fun K hK => ?_) AllReadyH.nil
    go_simp
    refine hK.out _ _ (hKeep _ hBv1) (fun hHeld => ?_)
    clear hK K
    refine wpAnyH_ready (rs := [5]) (by kernel_rfl) (by simp) ?_
    refine AllReadyH.cons rfl (fun K hK => ?_) AllReadyH.nil
    refine step_fits rfl 11 rfl (.tmp 9) (.tmp 10) 54 rfl (w.heap.size + 1 + 1) 63 i0 5 Tryz.underlying54 hi0 hz1 (w.heap.size + 1 + 1) (0) (l.length + 3) ([]) rfl ho2 (ad) (l.length) (c) (l.flatMap Jb.vals) rfl (flat_length Jb.vals 5 Jb.len l) hnil (hA v1 hBv1) (fun u hu => flatOneJb hu) (by omega) l.length (by omega) (l.flatMap Jb.vals) rfl ?_
    intro w2 how2 hgw2
    have hBw2 : Below (w.heap.size + 1) (w.alloc (.cells #[.int .i64 m.k, .int .i64 m.a, .int .i64 m.c, .int .i64 m.d, .int .i64 m.p] 63)) w2 := hBv1.grown hgw2 (by omega) (by intro q hq; cases hq; omega)
    have hszw2 := hgw2.size
    refine hK.out _ _ (hKeep _ hBw2) (fun hHeld => ?_)
    clear hK K
    simp only [List.set_cons_zero, List.set_cons_succ]
    refine wpAnyH_ready (rs := [10]) (by kernel_rfl) (by simp) ?_
    refine AllReadyH.cons rfl (fun K hK => ?_) AllReadyH.nil
    refine step_fits rfl 16 rfl (.tmp 11) (.tmp 15) 54 rfl (w.heap.size + 1 + 1) 63 i0 5 Tryz.underlying54 hi0 hz1 (w.heap.size + 1 + 1) l.length (l.length + 3) (l.flatMap Jb.vals) rfl how2 (some ⟨w.heap.size + 1, 0, none⟩) (3) (3) (marksJb m) rfl rfl (by intro e; cases e) (by intro ad' e j u hj; cases e; exact (hgw2.cell (hmk2 j u hj) (by first | (simp [Addr.add_lit]; done) | (simp [Addr.add_lit]; omega)))) (marksOneJb m) (by omega) (l.length + 3) rfl (l.flatMap Jb.vals ++ marksJb m) rfl ?_
    intro w3 how3 hgw3
    have hBw3 : Below (w.heap.size + 1) (w.alloc (.cells #[.int .i64 m.k, .int .i64 m.a, .int .i64 m.c, .int .i64 m.d, .int .i64 m.p] 63)) w3 := hBw2.grown hgw3 (by omega) (by intro q hq; cases hq; omega)
    have hszw3 := hgw3.size
    refine hK.out _ _ (hKeep _ hBw3) (fun hHeld => ?_)
    clear hK K
    simp only [List.set_cons_zero, List.set_cons_succ]
    refine take_at (i := 11) (n := 5) (v := ?_) rfl rfl (by kernel_rfl) (by kernel_rfl) (by kernel_rfl) (fun _ _ _ h => h) (Or.inl ⟨by rfl, ?_⟩) (by assumption) ?_
    rotate_left 1
    · intro wz hSw
      first | (go_simp; done) | (go_simp; with_reducible rfl)
    simp only [List.set_cons_zero, List.set_cons_succ]
    refine wpAnyH_done (by kernel_rfl) ?_ _
    refine NoPanic.normal ?_
    go_wp2_with fail
    go_ret
    refine ⟨_, rfl, lentOfJb how3, (below_new w (.cells #[.int .i64 m.k, .int .i64 m.a, .int .i64 m.c, .int .i64 m.d, .int .i64 m.p] 63)).trans (hBw3.mono (by omega))⟩
set_option maxRecDepth 20000 in
set_option maxHeartbeats 4000000 in
/-- Still, of a list that was lent and stands as it did. -/
theorem StillJ_any (w : World) (l : List Jb) (m : Jb) (v v' : Value) (hl : l.length ≤ 100000) (h : Lent Jb.vals w l m v) (h' : RowSl Jb.vals w l v') :
    Calls Tryz.prog 29 #[v, v', m.val] w fun r w' => r = .returned (.bool true) ∧ Below w.heap.size w w' := by
  obtain ⟨b, o, cap, rfl, hcap, hrow⟩ := h
  obtain ⟨ad', c', rfl, -, -, hc'⟩ := h'
  have HR : Hid (_ ∧ _) := ⟨hrow, hc'⟩
  clear hrow hc'
  have HM : Hid (∀ w2 : World, (∀ q u, ((l ++ [m, m, m]).flatMap Jb.vals)[q]? = some u → w2.cell? ⟨b, o + q, none⟩ = some u) → ∀ j, l.length ≤ j → j < l.length + 3 → JbAt w2 b (o + j * 5) m) := fun w2 h j h1 h2 => by
    have key : ∀ k u, k < 5 → m.vals[k]? = some u → w2.cell? ⟨b, o + j * 5 + k, none⟩ = some u := fun k u hk hu => by
      rw [Nat.add_assoc]
      exact lent_at Jb.len h h1 h2 hk hu
    exact ⟨key 0 _ (by omega) rfl, key 1 _ (by omega) rfl, key 2 _ (by omega) rfl, key 3 _ (by omega) rfl, key 4 _ (by omega) rfl⟩
  obtain ⟨mk, ma, mc, md, mp⟩ := m
  unfold Jb.val
  dsimp only
  go_enter Tryz.func29, Tryz.ntmps29
  go_wp2_with fail
  go_loopw [17] (fun x wr => ∃ j : Nat, j ≤ l.length + 3 ∧ x = .int .i64 j ∧ Below (w.heap.size + 1) (w.alloc (.cells #[.int .i64 mk, .int .i64 ma, .int .i64 mc, .int .i64 md, .int .i64 mp] 63)) wr) (fun x _ => l.length + 3 - (intOf x).toNat)
  case atStart => exact ⟨0, Nat.zero_le _, rfl, Below.refl _ _⟩
  case round =>
    obtain ⟨j, hj, rfl, hb⟩ := hrel
    have hbw : Below w.heap.size w wr := (below_new w (.cells #[.int .i64 mk, .int .i64 ma, .int .i64 mc, .int .i64 md, .int .i64 mp] 63)).trans (hb.mono (by omega))
    have m_0 : wr.cell? ⟨w.heap.size, 0, none⟩ = some (.int .i64 mk) := (hb.cell (by show w.heap.size < w.heap.size + 1; omega)).trans (by go_simp)
    have m_1 : wr.cell? ⟨w.heap.size, 1, none⟩ = some (.int .i64 ma) := (hb.cell (by show w.heap.size < w.heap.size + 1; omega)).trans (by go_simp)
    have m_2 : wr.cell? ⟨w.heap.size, 2, none⟩ = some (.int .i64 mc) := (hb.cell (by show w.heap.size < w.heap.size + 1; omega)).trans (by go_simp)
    have m_3 : wr.cell? ⟨w.heap.size, 3, none⟩ = some (.int .i64 md) := (hb.cell (by show w.heap.size < w.heap.size + 1; omega)).trans (by go_simp)
    have m_4 : wr.cell? ⟨w.heap.size, 4, none⟩ = some (.int .i64 mp) := (hb.cell (by show w.heap.size < w.heap.size + 1; omega)).trans (by go_simp)
    have lw : w.heap.size < wr.heap.size := World.block_lt_of_cell? _ _ m_0
    have HB : Hid (Below (w.heap.size + 1) (w.alloc (.cells #[.int .i64 mk, .int .i64 ma, .int .i64 mc, .int .i64 md, .int .i64 mp] 63)) wr) := hb
    by_cases hlt : j < l.length
    · obtain ⟨x, hx, -⟩ := drop_at hlt
      have c := jb_at (fun q u hq => below_cell hbw (HR.out.1 q u hq)) (show (l ++ _)[j]? = some x by rw [List.getElem?_append_left hlt]; exact hx)
      rcases HR.out.2 with h | ⟨b', o', had', hrow'⟩
      · rw [h] at hlt; simp at hlt
      subst had'
      have d := jb_at (fun q u hq => below_cell hbw (hrow' q u hq)) hx
      obtain ⟨c0, c1, c2, c3, c4⟩ := c
      obtain ⟨d0, d1, d2, d3, d4⟩ := d
      have lb' : b' < wr.heap.size := World.block_lt_of_cell? _ _ d0
      have f1 : decide ((j : Int) < (l.length : Int)) = true := by simp; omega
      have f1' : decide (j < l.length) = true := by simp; omega
      have f2 : decide ((l.length : Int) ≤ (j : Int)) = false := by simp; omega
      have f2' : decide (l.length ≤ j) = false := by simp; omega
      clear hrow' hb hbw hx
      obtain ⟨xk, xa, xc, xd, xp⟩ := x
      dsimp only at c0 c1 c2 c3 c4 d0 d1 d2 d3 d4
      go_wp2_with fail
      go_quiet (fail)
      go_wp2_with fail
      go_roundw
      case rel => exact ⟨j + 1, by omega, by go_num, (HB.out.alloc (by omega) _).trans ((below_drewN').mono (by simp; omega))⟩
      case measure => simp [intOf]; omega
    · by_cases hlt2 : j < l.length + 3
      · have c := HM.out wr (fun q u hq => below_cell hbw (HR.out.1 q u hq)) j (by omega) hlt2
        obtain ⟨c0, c1, c2, c3, c4⟩ := c
        have f1 : decide ((j : Int) < (l.length : Int)) = false := by simp; omega
        have f1' : decide (j < l.length) = false := by simp; omega
        have f2 : decide ((l.length : Int) ≤ (j : Int)) = true := by simp; omega
        have f2' : decide (l.length ≤ j) = true := by simp; omega
        clear hb hbw
        dsimp only at c0 c1 c2 c3 c4
        go_wp2_with fail
        go_quiet (fail)
        go_wp2_with fail
        go_roundw
        case rel => exact ⟨j + 1, by omega, by go_num, (HB.out.alloc (by omega) _).trans ((below_drewN').mono (by simp; omega))⟩
        case measure => simp [intOf]; omega
      · have hje : j = l.length + 3 := by omega
        subst hje
        go_wp2_with fail
        go_ret
        exact ⟨rfl, hbw⟩
end Go.Proofs.YtccoobcggbbciaiGreatDoor.S8
