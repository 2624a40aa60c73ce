import Derived.Test.YtibcbdihphbfeacDoorGMHelp
import Derived.Test.YtibcbdihphbfeacDoorGLawR
import Derived.Test.YtibcbdihphbfeacDoorGTkd
namespace Go.Proofs.YtibcbdihphbfeacDoor
open Go.ChangeShapes Go.WideShapes Go.ChangeAt Go.RowKit
set_option maxRecDepth 20000 in
set_option maxHeartbeats 4000000 in
theorem LendN_own (w : World) (vs : List Int) (m : Int) (ad : Option Addr) (c : Nat) (hl : vs.length ≤ 4194304) (h : IntSl w vs (.slice ad vs.length c)) (hnil : ad = none → vs.length = 0 ∧ c = 0) :
  Calls Tryd.prog 11 #[.slice ad vs.length c, .int .i64 m] w fun r w' => ∃ g, r = .returned (.slice (some ⟨g, 0, none⟩) vs.length (vs.length + 3)) ∧ w'.ownsRow w.heap.size 3 1 (.slice (some ⟨g, 0, none⟩) (vs.length + 3) (vs.length + 3)) (vs.length + 3) (intVs vs ++ [.int .i64 m, .int .i64 m, .int .i64 m]) ∧ Below w.heap.size w w' := by
 obtain ⟨i0, hi0, hz0, hz1, hz2⟩ := info_parts info3
 obtain ⟨w1, hrun, hown, hgr⟩ := run_make_own (P := Tryd.prog) w w.heap.size 23 3 i0 _ 1 Tryd.underlying23 hi0 hz0 hz1 .i64 .i64 (vs.length + 3) (by rw [hz2]; omega) (by unfold maxLen; omega) (Nat.le_refl _)
 have hmk : (Instr.makeSlice 23 (.int .i64 0) (.int .i64 ((vs.length : Int) + 3))).run Tryd.prog w = .ok (.slice (some ⟨w.heap.size, 0, none⟩) 0 (vs.length + 3)) w1 := hrun
 have hb1 : Below w.heap.size w w1 := (Below.refl _ w).grown hgr (Nat.le_refl _) (by intro k hk; cases hk)
 have HM : Hid (w1.ownsRow w.heap.size 3 1 (.slice (some ⟨w.heap.size, 0, none⟩) 0 (vs.length + 3)) 0 [] ∧ Below w.heap.size w w1 ∧ (∀ ad', ad = some ad' → ∀ j u, (intVs vs)[j]? = some u → w1.cell? (ad'.add j) = some u) ∧ (ad = none → vs.length = 0 ∧ c = 0)) := ⟨hown, hb1, h.arg hb1, hnil⟩
 clear hrun hown hgr hb1 h hnil
 go_enter Tryd.func11, Tryd.ntmps11
 go_wp2_with (first
  | (at_builtin; refine wpList_append_fits_any _ rfl (.tmp 9) (.tmp 10) 23 rfl w.heap.size 3 i0 1 Tryd.underlying23 hi0 hz1 w.heap.size 0 (vs.length + 3) [] rfl HM.out.1 ad vs.length c (intVs vs) rfl (by simp [intVs]) HM.out.2.2.2 HM.out.2.2.1 (fun u hu => by obtain ⟨x, _, rfl⟩ := List.mem_map.1 hu; rfl) (by omega) ?_; intro w2 ho2 hg2; simp only [Nat.zero_add, List.nil_append] at ho2 ⊢; have H2 : Hid (w2.ownsRow w.heap.size 3 1 (.slice (some ⟨w.heap.size, 0, none⟩) vs.length (vs.length + 3)) vs.length (intVs vs) ∧ Below w.heap.size w w2) := ⟨ho2, HM.out.2.1.grown hg2 HM.out.2.1.size (by intro k hk; cases hk; exact Nat.le_refl _)⟩; clear ho2 hg2)
  | (at_builtin; refine wpList_append_fits_any _ rfl (.tmp 11) (.tmp 15) 23 rfl w.heap.size 3 i0 1 Tryd.underlying23 hi0 hz1 w.heap.size vs.length (vs.length + 3) (intVs vs) rfl (ownsRow_below H2.out.1 ((Below.refl _ _).alloc (Nat.le_refl _) _)) (some ⟨w2.heap.size, 0, none⟩) 3 3 [.int .i64 m, .int .i64 m, .int .i64 m] rfl rfl (by intro e; cases e) (by intro ad' e j u hj; cases e; exact marks_cell w2 m j u hj) (by intro u hu; simp at hu; subst hu; rfl) (Nat.le_refl _) ?_; intro w3 ho3 hg3; have H3 : Hid (w3.ownsRow w.heap.size 3 1 (.slice (some ⟨w.heap.size, 0, none⟩) (vs.length + 3) (vs.length + 3)) (vs.length + 3) (intVs vs ++ [.int .i64 m, .int .i64 m, .int .i64 m]) ∧ Below w.heap.size w w3) := ⟨ho3, (H2.out.2.alloc H2.out.2.size _).grown hg3 (by have := H2.out.2.size; simp; omega) (by intro k hk; cases hk; exact Nat.le_refl _)⟩; clear ho3 hg3))
 go_ret
 exact ⟨_, rfl, H3.out.1, H3.out.2⟩
set_option maxRecDepth 20000 in
set_option maxHeartbeats 4000000 in
theorem Lend_own (w : World) (l : List In) (m : In) (ad : Option Addr) (c : Nat) (hl : l.length ≤ 100000) (h : InSl w l (.slice ad l.length c)) (hnil : ad = none → l.length = 0 ∧ c = 0) :
  Calls Tryd.prog 10 #[.slice ad l.length c, .agg #[.int .i64 m.op, .int .i64 m.a, .int .i64 m.b]] w fun r w' => ∃ g, r = .returned (.slice (some ⟨g, 0, none⟩) l.length (l.length + 3)) ∧ w'.ownsRow w.heap.size 35 3 (.slice (some ⟨g, 0, none⟩) (l.length + 3) (l.length + 3)) (l.length + 3) (insVs l ++ marksL m) ∧ Below w.heap.size w w' := by
 obtain ⟨i0, hi0, hz0, hz1, hz2⟩ := info_parts info52
 have hB0 : Below (w.heap.size + 1) (w.alloc (.cells #[.int .i64 m.op, .int .i64 m.a, .int .i64 m.b] 35)) ((w.alloc (.cells #[.int .i64 m.op, .int .i64 m.a, .int .i64 m.b] 35)).drew) := (Below.refl _ _).drew
 have hKeep : ∀ W, Below (w.heap.size + 1) (w.alloc (.cells #[.int .i64 m.op, .int .i64 m.a, .int .i64 m.b] 35)) W → W.cell? ⟨w.heap.size, 0, none⟩ = some (.int .i64 m.op) ∧ W.cell? ⟨w.heap.size, 1, none⟩ = some (.int .i64 m.a) ∧ W.cell? ⟨w.heap.size, 2, none⟩ = some (.int .i64 m.b) := fun W hb => ⟨(hb.cell (by show w.heap.size < w.heap.size + 1; omega)).trans (by go_simp), (hb.cell (by show w.heap.size < w.heap.size + 1; omega)).trans (by go_simp), (hb.cell (by show w.heap.size < w.heap.size + 1; omega)).trans (by go_simp)⟩
 have hA : ∀ W, Below (w.heap.size + 1) (w.alloc (.cells #[.int .i64 m.op, .int .i64 m.a, .int .i64 m.b] 35)) W → ∀ ad', ad = some ad' → ∀ j u, (insVs l)[j]? = some u → W.cell? (ad'.add j) = some u := fun W hb => h.arg ((below_new w (.cells #[.int .i64 m.op, .int .i64 m.a, .int .i64 m.b] 35)).trans (hb.mono (by omega)))
 obtain ⟨w1, hm1, ho1, hb1, hl1⟩ := make_ins ((w.alloc (.cells #[.int .i64 m.op, .int .i64 m.a, .int .i64 m.b] 35)).drew) l.length (w.heap.size + 1) (by omega) (by simp)
 obtain ⟨v1, hm2, ho2, hb2, hl2⟩ := make_ins (((w.alloc (.cells #[.int .i64 m.op, .int .i64 m.a, .int .i64 m.b] 35)).drew).alloc (.cells #[.int .i64 m.op, .int .i64 m.a, .int .i64 m.b, .int .i64 m.op, .int .i64 m.a, .int .i64 m.b, .int .i64 m.op, .int .i64 m.a, .int .i64 m.b] 35)) l.length (w.heap.size + 1 + 1) (by omega) (by simp)
 rw [show (((w.alloc (.cells #[.int .i64 m.op, .int .i64 m.a, .int .i64 m.b] 35)).drew).alloc (.cells #[.int .i64 m.op, .int .i64 m.a, .int .i64 m.b, .int .i64 m.op, .int .i64 m.a, .int .i64 m.b, .int .i64 m.op, .int .i64 m.a, .int .i64 m.b] 35)) = ((w.alloc (.cells #[.int .i64 m.op, .int .i64 m.a, .int .i64 m.b] 35)).alloc (.cells #[.int .i64 m.op, .int .i64 m.a, .int .i64 m.b, .int .i64 m.op, .int .i64 m.a, .int .i64 m.b, .int .i64 m.op, .int .i64 m.a, .int .i64 m.b] 35)).drew from rfl] at hm2
 have hBw1 : Below (w.heap.size + 1) (w.alloc (.cells #[.int .i64 m.op, .int .i64 m.a, .int .i64 m.b] 35)) w1 := hB0.trans hb1
 have hBv1 : Below (w.heap.size + 1) (w.alloc (.cells #[.int .i64 m.op, .int .i64 m.a, .int .i64 m.b] 35)) v1 := (hB0.alloc (by simp) (.cells #[.int .i64 m.op, .int .i64 m.a, .int .i64 m.b, .int .i64 m.op, .int .i64 m.a, .int .i64 m.b, .int .i64 m.op, .int .i64 m.a, .int .i64 m.b] 35)).trans (hb2.mono (by omega))
 have hmk2 : ∀ j u, (marksL m)[j]? = some u → v1.cell? ((⟨w.heap.size + 1, 0, none⟩ : Addr).add j) = some u := fun j u hj => (hb2.cell (by rw [Addr.add_lit]; show w.heap.size + 1 < w.heap.size + 1 + 1; omega)).trans (marks_cells ((w.alloc (.cells #[.int .i64 m.op, .int .i64 m.a, .int .i64 m.b] 35)).drew) m _ (by simp) j u hj)
 have hwr : IntKind.i64.wrap ((l.length : Int) + 3) = (l.length : Int) + 3 := by rw [IntKind.wrap_i64]; omega
 go_enter Tryd.func10, Tryd.ntmps10
 go_wp2_with fail
 refine wp_region_noPanic ?_
 refine wp_region_held_drew (S := fun w' => w'.cell? ⟨w.heap.size, 0, none⟩ = some (.int .i64 m.op) ∧ w'.cell? ⟨w.heap.size, 1, none⟩ = some (.int .i64 m.a) ∧ w'.cell? ⟨w.heap.size, 2, none⟩ = some (.int .i64 m.b)) (by kernel_rfl) (hKeep _ hB0) (fun hHeld => ?_)
 refine take_at (i := 0) (n := 6) (v := ?_) rfl rfl (by kernel_rfl) (by kernel_rfl) (by kernel_rfl) (fun _ _ _ h => h) (Or.inl ⟨by rfl, ?_⟩) (by assumption) ?_
 rotate_left 1
 ·intro wz hSw
  first | (go_simp; done) | (go_simp; with_reducible rfl)
 simp only [List.set_cons_zero, List.set_cons_succ]
 refine take_at (i := 1) (n := 7) (v := ?_) rfl rfl (by kernel_rfl) (by kernel_rfl) (by kernel_rfl) (fun _ _ _ h => h) (Or.inl ⟨by rfl, ?_⟩) (by assumption) ?_
 rotate_left 1
 ·intro wz hSw
  first | (go_simp; done) | (go_simp; with_reducible rfl)
 simp only [List.set_cons_zero, List.set_cons_succ]
 refine take_at (i := 2) (n := 8) (v := ?_) rfl rfl (by kernel_rfl) (by kernel_rfl) (by kernel_rfl) (fun _ _ _ h => h) (Or.inl ⟨by rfl, ?_⟩) (by assumption) ?_
 rotate_left 1
 ·intro wz hSw
  first | (go_simp; done) | (go_simp; with_reducible rfl)
 simp only [List.set_cons_zero, List.set_cons_succ]
 refine take_at (i := 4) (n := 10) (v := ?_) rfl rfl (by kernel_rfl) (by kernel_rfl) (by kernel_rfl) (fun _ _ _ h => h) (Or.inl ⟨by rfl, ?_⟩) (by assumption) ?_
 rotate_left 1
 ·intro wz hSw
  first | (go_simp; done) | (go_simp; with_reducible rfl)
 simp only [List.set_cons_zero, List.set_cons_succ]
 refine take_at (i := 6) (n := 12) (v := ?_) rfl rfl (by kernel_rfl) (by kernel_rfl) (by kernel_rfl) (fun _ _ _ h => h) (Or.inl ⟨by rfl, ?_⟩) (by assumption) ?_
 rotate_left 1
 ·intro wz hSw
  first | (go_simp; done) | (go_simp; with_reducible rfl)
 simp only [List.set_cons_zero, List.set_cons_succ]
 refine take_at (i := 7) (n := 13) (v := ?_) rfl rfl (by kernel_rfl) (by kernel_rfl) (by kernel_rfl) (fun _ _ _ h => h) (Or.inl ⟨by rfl, ?_⟩) (by assumption) ?_
 rotate_left 1
 ·intro wz hSw
  first | (go_simp; done) | (go_simp; with_reducible rfl)
 simp only [List.set_cons_zero, List.set_cons_succ]
 refine take_at (i := 8) (n := 14) (v := ?_) rfl rfl (by kernel_rfl) (by kernel_rfl) (by kernel_rfl) (fun _ _ _ h => h) (Or.inl ⟨by rfl, ?_⟩) (by assumption) ?_
 rotate_left 1
 ·intro wz hSw
  first | (go_simp; done) | (go_simp; with_reducible rfl)
 simp only [List.set_cons_zero, List.set_cons_succ]
 refine wpAnyH_ready (rs := [3, 9]) (by kernel_rfl) (by simp) ?_
 refine AllReadyH.cons rfl (fun K hK => ?_) (AllReadyH.cons rfl (fun K hK => ?_) AllReadyH.nil)
 ·go_simp
  refine hK.out _ _ (hKeep _ hBw1) (fun hHeld => ?_)
  clear hK K
  refine wpAnyH_ready (rs := [5, 9]) (by kernel_rfl) (by simp) ?_
  refine AllReadyH.cons rfl (fun K hK => ?_) (AllReadyH.cons rfl (fun K hK => ?_) AllReadyH.nil)
  ·refine step_fits rfl 11 rfl (.tmp 9) (.tmp 10) 22 rfl (w.heap.size + 1) 35 i0 3 Tryd.underlying22 hi0 hz1 (w.heap.size + 1) (0) (l.length + 3) ([]) rfl ho1 (ad) (l.length) (c) (insVs l) rfl (insVs_length l) hnil (hA w1 hBw1) (fun u hu => insVs_one hu) (by omega) l.length (by omega) (insVs l) rfl ?_
   intro w2 how2 hgw2
   have hBw2 : Below (w.heap.size + 1) (w.alloc (.cells #[.int .i64 m.op, .int .i64 m.a, .int .i64 m.b] 35)) w2 := hBw1.grown hgw2 (by omega) (by intro q hq; cases hq; omega)
   have hszw2 := hgw2.size
   refine hK.out _ _ (hKeep _ hBw2) (fun hHeld => ?_)
   clear hK K
   simp only [List.set_cons_zero, List.set_cons_succ]
   refine wpAnyH_ready (rs := [9]) (by kernel_rfl) (by simp) ?_
   refine AllReadyH.cons rfl (fun K hK => ?_) AllReadyH.nil
   go_simp
   refine hK.out _ _ (hKeep _ (hBw2.alloc (by omega) _)) (fun hHeld => ?_)
   clear hK K
   refine wpAnyH_ready (rs := [10]) (by kernel_rfl) (by simp) ?_
   refine AllReadyH.cons rfl (fun K hK => ?_) AllReadyH.nil
   refine step_fits rfl 16 rfl (.tmp 11) (.tmp 15) 22 rfl (w.heap.size + 1) 35 i0 3 Tryd.underlying22 hi0 hz1 (w.heap.size + 1) l.length (l.length + 3) (insVs l) rfl (ownsRow_same how2 (fun k _ hk => (below_new w2 _).block k hk)) (some ⟨w2.heap.size, 0, none⟩) (3) (3) (marksL m) rfl rfl (by intro e; cases e) (by intro ad' e j u hj; cases e; exact marks_cells w2 m _ rfl j u hj) (marks_one m) (by omega) (l.length + 3) rfl (insVs l ++ marksL m) rfl ?_
   intro w3 how3 hgw3
   have hBw3 : Below (w.heap.size + 1) (w.alloc (.cells #[.int .i64 m.op, .int .i64 m.a, .int .i64 m.b] 35)) w3 := (hBw2.alloc (by omega) _).grown hgw3 (by simp; omega) (by intro q hq; cases hq; omega)
   have hszw3 := hgw3.size
   refine hK.out _ _ (hKeep _ hBw3) (fun hHeld => ?_)
   clear hK K
   simp only [List.set_cons_zero, List.set_cons_succ]
   refine take_at (i := 11) (n := 5) (v := ?_) rfl rfl (by kernel_rfl) (by kernel_rfl) (by kernel_rfl) (fun _ _ _ h => h) (Or.inl ⟨by rfl, ?_⟩) (by assumption) ?_
   rotate_left 1
   ·intro wz hSw
    first | (go_simp; done) | (go_simp; with_reducible rfl)
   simp only [List.set_cons_zero, List.set_cons_succ]
   refine wpAnyH_done (by kernel_rfl) ?_ _
   refine NoPanic.normal ?_
   go_wp2_with fail
   go_ret
   refine ⟨_, rfl, ownsRow_low how3 (by omega), (below_new w (.cells #[.int .i64 m.op, .int .i64 m.a, .int .i64 m.b] 35)).trans (hBw3.mono (by omega))⟩
  ·go_simp
   refine hK.out _ _ (hKeep _ (hBw1.alloc (by omega) _)) (fun hHeld => ?_)
   clear hK K
   refine wpAnyH_ready (rs := [5]) (by kernel_rfl) (by simp) ?_
   refine AllReadyH.cons rfl (fun K hK => ?_) AllReadyH.nil
   refine step_fits rfl 11 rfl (.tmp 9) (.tmp 10) 22 rfl (w.heap.size + 1) 35 i0 3 Tryd.underlying22 hi0 hz1 (w.heap.size + 1) (0) (l.length + 3) ([]) rfl (ownsRow_same ho1 (fun k _ hk => (below_new w1 _).block k hk)) (ad) (l.length) (c) (insVs l) rfl (insVs_length l) hnil (hA (w1.alloc (.cells #[.int .i64 m.op, .int .i64 m.a, .int .i64 m.b, .int .i64 m.op, .int .i64 m.a, .int .i64 m.b, .int .i64 m.op, .int .i64 m.a, .int .i64 m.b] 35)) (hBw1.alloc (by omega) _)) (fun u hu => insVs_one hu) (by omega) l.length (by omega) (insVs l) rfl ?_
   intro w2 how2 hgw2
   have hBw2 : Below (w.heap.size + 1) (w.alloc (.cells #[.int .i64 m.op, .int .i64 m.a, .int .i64 m.b] 35)) w2 := (hBw1.alloc (by omega) _).grown hgw2 (by simp; omega) (by intro q hq; cases hq; omega)
   have hszw2 := hgw2.size
   refine hK.out _ _ (hKeep _ hBw2) (fun hHeld => ?_)
   clear hK K
   simp only [List.set_cons_zero, List.set_cons_succ]
   refine wpAnyH_ready (rs := [10]) (by kernel_rfl) (by simp) ?_
   refine AllReadyH.cons rfl (fun K hK => ?_) AllReadyH.nil
   refine step_fits rfl 16 rfl (.tmp 11) (.tmp 15) 22 rfl (w.heap.size + 1) 35 i0 3 Tryd.underlying22 hi0 hz1 (w.heap.size + 1) l.length (l.length + 3) (insVs l) rfl how2 (some ⟨w1.heap.size, 0, none⟩) (3) (3) (marksL m) rfl rfl (by intro e; cases e) (by intro ad' e j u hj; cases e; exact (hgw2.cell (marks_cells w1 m _ rfl j u hj) (by first | (simp [Addr.add_lit]; done) | (simp [Addr.add_lit]; omega)))) (marks_one m) (by omega) (l.length + 3) rfl (insVs l ++ marksL m) rfl ?_
   intro w3 how3 hgw3
   have hBw3 : Below (w.heap.size + 1) (w.alloc (.cells #[.int .i64 m.op, .int .i64 m.a, .int .i64 m.b] 35)) w3 := hBw2.grown hgw3 (by simp at hszw2; omega) (by intro q hq; cases hq; omega)
   have hszw3 := hgw3.size
   refine hK.out _ _ (hKeep _ hBw3) (fun hHeld => ?_)
   clear hK K
   simp only [List.set_cons_zero, List.set_cons_succ]
   refine take_at (i := 11) (n := 5) (v := ?_) rfl rfl (by kernel_rfl) (by kernel_rfl) (by kernel_rfl) (fun _ _ _ h => h) (Or.inl ⟨by rfl, ?_⟩) (by assumption) ?_
   rotate_left 1
   ·intro wz hSw
    first | (go_simp; done) | (go_simp; with_reducible rfl)
   simp only [List.set_cons_zero, List.set_cons_succ]
   refine wpAnyH_done (by kernel_rfl) ?_ _
   refine NoPanic.normal ?_
   go_wp2_with fail
   go_ret
   refine ⟨_, rfl, ownsRow_low how3 (by omega), (below_new w (.cells #[.int .i64 m.op, .int .i64 m.a, .int .i64 m.b] 35)).trans (hBw3.mono (by omega))⟩
 ·go_simp
  refine hK.out _ _ (hKeep _ (hB0.alloc (by simp) _)) (fun hHeld => ?_)
  clear hK K
  refine wpAnyH_ready (rs := [3]) (by kernel_rfl) (by simp) ?_
  refine AllReadyH.cons rfl (fun K hK => ?_) AllReadyH.nil
  go_simp
  refine hK.out _ _ (hKeep _ hBv1) (fun hHeld => ?_)
  clear hK K
  refine wpAnyH_ready (rs := [5]) (by kernel_rfl) (by simp) ?_
  refine AllReadyH.cons rfl (fun K hK => ?_) AllReadyH.nil
  refine step_fits rfl 11 rfl (.tmp 9) (.tmp 10) 22 rfl (w.heap.size + 1 + 1) 35 i0 3 Tryd.underlying22 hi0 hz1 (w.heap.size + 1 + 1) (0) (l.length + 3) ([]) rfl ho2 (ad) (l.length) (c) (insVs l) rfl (insVs_length l) hnil (hA v1 hBv1) (fun u hu => insVs_one hu) (by omega) l.length (by omega) (insVs l) rfl ?_
  intro w2 how2 hgw2
  have hBw2 : Below (w.heap.size + 1) (w.alloc (.cells #[.int .i64 m.op, .int .i64 m.a, .int .i64 m.b] 35)) w2 := hBv1.grown hgw2 (by omega) (by intro q hq; cases hq; omega)
  have hszw2 := hgw2.size
  refine hK.out _ _ (hKeep _ hBw2) (fun hHeld => ?_)
  clear hK K
  simp only [List.set_cons_zero, List.set_cons_succ]
  refine wpAnyH_ready (rs := [10]) (by kernel_rfl) (by simp) ?_
  refine AllReadyH.cons rfl (fun K hK => ?_) AllReadyH.nil
  refine step_fits rfl 16 rfl (.tmp 11) (.tmp 15) 22 rfl (w.heap.size + 1 + 1) 35 i0 3 Tryd.underlying22 hi0 hz1 (w.heap.size + 1 + 1) l.length (l.length + 3) (insVs l) rfl how2 (some ⟨w.heap.size + 1, 0, none⟩) (3) (3) (marksL m) rfl rfl (by intro e; cases e) (by intro ad' e j u hj; cases e; exact (hgw2.cell (hmk2 j u hj) (by first | (simp [Addr.add_lit]; done) | (simp [Addr.add_lit]; omega)))) (marks_one m) (by omega) (l.length + 3) rfl (insVs l ++ marksL m) rfl ?_
  intro w3 how3 hgw3
  have hBw3 : Below (w.heap.size + 1) (w.alloc (.cells #[.int .i64 m.op, .int .i64 m.a, .int .i64 m.b] 35)) w3 := hBw2.grown hgw3 (by omega) (by intro q hq; cases hq; omega)
  have hszw3 := hgw3.size
  refine hK.out _ _ (hKeep _ hBw3) (fun hHeld => ?_)
  clear hK K
  simp only [List.set_cons_zero, List.set_cons_succ]
  refine take_at (i := 11) (n := 5) (v := ?_) rfl rfl (by kernel_rfl) (by kernel_rfl) (by kernel_rfl) (fun _ _ _ h => h) (Or.inl ⟨by rfl, ?_⟩) (by assumption) ?_
  rotate_left 1
  ·intro wz hSw
   first | (go_simp; done) | (go_simp; with_reducible rfl)
  simp only [List.set_cons_zero, List.set_cons_succ]
  refine wpAnyH_done (by kernel_rfl) ?_ _
  refine NoPanic.normal ?_
  go_wp2_with fail
  go_ret
  refine ⟨_, rfl, ownsRow_low how3 (by omega), (below_new w (.cells #[.int .i64 m.op, .int .i64 m.a, .int .i64 m.b] 35)).trans (hBw3.mono (by omega))⟩
theorem zero_cells3 (z : Value) (n : Nat) : ∀ u ∈ (Builtin.zeroCells #[z, z, z] n).toList, u = z := by
 intro u hu
 simp only [Builtin.zeroCells, Array.toList_map, List.mem_map] at hu
 obtain ⟨i, -, rfl⟩ := hu
 have : i % 3 < 3 := Nat.mod_lt _ (by decide)
 have : i % (#[z, z, z] : Array Value).size = 0 ∨ i % (#[z, z, z] : Array Value).size = 1 ∨ i % (#[z, z, z] : Array Value).size = 2 := by
  show i % 3 = 0 ∨ i % 3 = 1 ∨ i % 3 = 2
  omega
 rcases this with e | e | e <;> rw [e] <;> rfl
theorem clear_three (w : World) (t e ty : TypeId) (z : Value) (ht : Tryd.prog.underlying t = some (.slice e)) (hv : ∀ w, (zeroValue e).run Tryd.prog w = .ok (.agg #[z, z, z]) w) (h1 : z.oneCell' = true) (b n c : Nat) (hn : 0 < n)
  (hc : ∀ j, j < n * 3 → (w.cell? ⟨b, 0 + j, none⟩).isSome = true) (hf : ∀ j, j < n * 3 → w.frozen? ⟨b, 0 + j, none⟩ = false) :
  ∃ l, (Builtin.clear_ #[t] ty #[.slice (some ⟨b, 0, none⟩) n c]).run Tryd.prog w = .ok (.tuple #[]) (w.setCells b 0 l) := by
 have hcell : (Value.agg #[z, z, z]).cells = #[z, z, z] := by
  simp [Value.cells]
 have hlen : (Builtin.zeroCells #[z, z, z] n).toList.length = n * 3 := by simp [Builtin.zeroCells]
 have hst := run_storeCells_cells (P := Tryd.prog) b 0 (Builtin.zeroCells #[z, z, z] n).toList 0 w (by rw [hlen]; simpa using hc) (by rw [hlen]; simpa using hf) (by intro v hv'; rw [zero_cells3 z n v hv']; exact h1)
 refine ⟨(Builtin.zeroCells #[z, z, z] n).toList, ?_⟩
 obtain ⟨m, rfl⟩ : ∃ m, n = m + 1 := ⟨n - 1, by omega⟩
 simp only [Nat.add_zero] at hst
 simp [Builtin.clear_, run_underlying ht, hv, hcell, hst]
set_option maxRecDepth 20000 in
set_option maxHeartbeats 4000000 in
theorem SpoilI_own (w : World) (B g n cap : Nat) (m : Nat) (xs : List Value) (h : w.ownsRow B 35 3 (.slice (some ⟨g, 0, none⟩) m cap) m xs) :
  Calls Tryd.prog 25 #[.slice (some ⟨g, 0, none⟩) n cap] w fun r w' => r = .returned (.tuple #[]) ∧ Below B w w' ∧ ∀ k, k ≠ g → w'.heap[k]? = w.heap[k]? := by
 obtain ⟨i0, hi0, hz0, hz1, hz2⟩ := info_parts info52
 obtain ⟨-, ⟨e, -⟩ | ⟨g', cap', cur, e, hB, hg, hn, hm, hs, -⟩⟩ := h
 ·cases e
 ·simp only [Value.slice.injEq, Option.some.injEq, Addr.mk.injEq, and_true, true_and] at e
  obtain ⟨rfl, rfl⟩ := e
  have hz : ∀ w, (zeroValue 35).run Tryd.prog w = .ok (.agg #[.int .i64 0, .int .i64 0, .int .i64 0]) w := fun w => by simp [zeroValue, typeInfo, hi0, hz0]
  have hcl' : ∃ w1, (∀ ty, (Builtin.clear_ #[22] ty #[.slice (some ⟨g, 0, none⟩) cap cap]).run Tryd.prog w = .ok (.tuple #[]) w1) ∧ Below B w w1 ∧ ∀ k, k ≠ g → w1.heap[k]? = w.heap[k]? := by
   by_cases hc : cap = 0
   ·subst hc
    exact ⟨w, fun ty => by simp [Builtin.clear_, run_underlying Tryd.underlying22], Below.refl _ _, fun _ _ => rfl⟩
   ·obtain ⟨l, hl⟩ := clear_three w 22 35 22 (.int .i64 0) Tryd.underlying22 hz rfl g cap cap (by omega) (fun j hj => by unfold World.cell?; rw [hg]; simp; omega) (fun j hj => by unfold World.frozen?; rw [hg]; simp)
    exact ⟨_, fun ty => hl, below_setCells hB l 0 w, fun k hk => setCells_else hk _ _ _⟩
  obtain ⟨w1, hcl, hb1⟩ := hcl'
  have HB : Hid (Below B w w1 ∧ ∀ k, k ≠ g → w1.heap[k]? = w.heap[k]?) := hb1
  unfold maxLen at hm
  clear hg hz hb1 hs
  go_enter Tryd.func25, Tryd.ntmps25
  go_wp2
  go_end0
  exact ⟨rfl, HB.out⟩
set_option maxRecDepth 20000 in
set_option maxHeartbeats 4000000 in
theorem New_fresh (w : World) (l : List In) (iad : Option Addr) (ic : Nat) (vad nad : Option Addr) (vc nc : Nat) (vs ins : List Int) (hkk : KindsIn w) (h : InSl w l (.slice iad l.length ic)) (hnil : iad = none → l.length = 0 ∧ ic = 0) (k : Int) (hc : checkI l = (0, k)) (hl : l.length ≤ 100000) (hv : vs.length = 8) (hi : ins.length = 4) (hvs : IntSl w vs (.slice vad vs.length vc)) (hins : IntSl w ins (.slice nad ins.length nc)) :
  Calls Tryd.prog 18 #[.slice iad l.length ic, .slice vad 8 vc, .slice nad 4 nc] w fun r w' => ∃ mb iv ov, r = .returned (.tuple #[.pointer (some ⟨mb, 0, none⟩), .agg #[.int .i64 0, .int .i64 0]]) ∧ w.heap.size ≤ mb ∧ MM w' mb (mb + 1) l iv ov ins 0 (ms0 vs) (.slice none 0 0) (.slice none 0 0) ∧ Below w.heap.size w w' ∧ ∀ ad n c, iv = .slice (some ad) n c → w.heap.size ≤ ad.block := by
 obtain ⟨vb, vo, rfl, hvr⟩ : ∃ b o, vad = some ⟨b, o, none⟩ ∧ ∀ j, j < vs.length → w.cell? ⟨b, o + j, none⟩ = some (.int .i64 (vs.getD j 0)) := by
  obtain ⟨ad, c, e, h0 | ⟨b, o, e2, h2⟩⟩ := hvs
  ·rw [h0] at hv; simp at hv
  ·cases e; exact ⟨b, o, e2, h2⟩
 obtain ⟨nb, no, rfl, hnr⟩ : ∃ b o, nad = some ⟨b, o, none⟩ ∧ ∀ j, j < ins.length → w.cell? ⟨b, o + j, none⟩ = some (.int .i64 (ins.getD j 0)) := by
  obtain ⟨ad, c, e, h0 | ⟨b, o, e2, h2⟩⟩ := hins
  ·rw [h0] at hi; simp at hi
  ·cases e; exact ⟨b, o, e2, h2⟩
 obtain ⟨v0, v1, v2, v3, v4, v5, v6, v7, rfl⟩ := eight_of hv
 obtain ⟨i0, i1, i2, i3, rfl⟩ := four_of hi
 have hkv : KV w vb vo nb no v0 v1 v2 v3 v4 v5 v6 v7 i0 i1 i2 i3 := ⟨⟨hvr 0 (by simp), hvr 1 (by simp), hvr 2 (by simp), hvr 3 (by simp), hvr 4 (by simp), hvr 5 (by simp), hvr 6 (by simp), hvr 7 (by simp)⟩, hnr 0 (by simp), hnr 1 (by simp), hnr 2 (by simp), hnr 3 (by simp)⟩
 have HK : Hid (KindsIn w ∧ (InSl w l (.slice iad l.length ic) ∧ (iad = none → l.length = 0 ∧ ic = 0)) ∧ checkI l = (0, k) ∧ KV w vb vo nb no v0 v1 v2 v3 v4 v5 v6 v7 i0 i1 i2 i3) := ⟨hkk, ⟨h, hnil⟩, hc, hkv⟩
 clear hkk h hc hvs hins hvr hnr hnil hkv
 have ha8 := fun W => arr8 W vb vo vc
 have ha4 := fun W => arr4 W nb no nc
 go_enter Tryd.func18, Tryd.ntmps18
 go_wp2_with (go_at_call 37; refine (Check_all _ l _ _ (HK.out.1.below (below_new _ _)) (HK.out.2.1.1.below (below_new _ _)) 0 k HK.out.2.2.1).mono ?_; rintro r w9 ⟨rfl, hb9⟩; have H9 : Hid (FB w w9 w.heap.size) := (FB.start w).grow hb9; obtain ⟨rs9, rf9, rl9⟩ := cells_of (l := [_, _]) H9.out.res; have r90 := rs9 0 _ rfl; have r91 := rs9 1 _ rfl; clear hb9 rs9)
 have H10 : Hid (FB w (w9.alloc (.cells #[.int .i64 0, .int .i64 k] 30)) w.heap.size) := H9.out.grow (below_new _ _)
 generalize hw1 : (w9.alloc (.cells #[.int .i64 0, .int .i64 k] 30)) = w1 at *
 clear hw1 H9 r90 r91 rf9 rl9
 have hS0 : KV w1.drew vb vo nb no v0 v1 v2 v3 v4 v5 v6 v7 i0 i1 i2 i3 := HK.out.2.2.2.below (below_seq H10.out.bel (Below.refl _ _).drew)
 refine wp_region_noPanic ?_
 refine wp_region_held_drew (S := fun w' => KV w' vb vo nb no v0 v1 v2 v3 v4 v5 v6 v7 i0 i1 i2 i3) (by kernel_rfl) hS0 (fun hHeld => ?_)
 refine take_at (i := 0) (n := 24) (v := ?_) rfl rfl (by kernel_rfl) (by kernel_rfl) (by kernel_rfl) (fun _ _ _ h => h) (Or.inl ⟨by rfl, ?_⟩) (by assumption) ?_
 rotate_left 1
 ·intro wz hSw
  first | (go_simp; done) | (go_simp; with_reducible rfl)
 simp only [List.set_cons_zero, List.set_cons_succ]
 refine take_at (i := 2) (n := 26) (v := ?_) rfl rfl (by kernel_rfl) (by kernel_rfl) (by kernel_rfl) (fun _ _ _ h => h) (Or.inl ⟨by rfl, ?_⟩) (by assumption) ?_
 rotate_left 1
 ·intro wz hSw
  first | (go_simp; done) | (go_simp; with_reducible rfl)
 simp only [List.set_cons_zero, List.set_cons_succ]
 refine take_at (i := 3) (n := 27) (v := ?_) rfl rfl (by kernel_rfl) (by kernel_rfl) (by kernel_rfl) (fun _ _ _ h => h) (Or.inl ⟨by rfl, ?_⟩) (by assumption) ?_
 rotate_left 1
 ·intro wz hSw
  first | (go_simp; done) | (go_simp; with_reducible rfl)
 simp only [List.set_cons_zero, List.set_cons_succ]
 refine take_at (i := 4) (n := 28) (v := ?_) rfl rfl (by kernel_rfl) (by kernel_rfl) (by kernel_rfl) (fun _ _ _ h => h) (Or.inl ⟨by rfl, ?_⟩) (by assumption) ?_
 rotate_left 1
 ·intro wz hSw
  first | (go_simp; done) | (go_simp; with_reducible rfl)
 simp only [List.set_cons_zero, List.set_cons_succ]
 refine take_at (i := 5) (n := 29) (v := ?_) rfl rfl (by kernel_rfl) (by kernel_rfl) (by kernel_rfl) (fun _ _ _ h => h) (Or.inl ⟨by rfl, ?_⟩) (by assumption) ?_
 rotate_left 1
 ·intro wz hSw
  first | (go_simp; done) | (go_simp; with_reducible rfl)
 simp only [List.set_cons_zero, List.set_cons_succ]
 refine take_at (i := 6) (n := 30) (v := ?_) rfl rfl (by kernel_rfl) (by kernel_rfl) (by kernel_rfl) (fun _ _ _ h => h) (Or.inl ⟨by rfl, ?_⟩) (by assumption) ?_
 rotate_left 1
 ·intro wz hSw
  first | (go_simp; done) | (go_simp; with_reducible rfl)
 simp only [List.set_cons_zero, List.set_cons_succ]
 refine take_at (i := 7) (n := 31) (v := ?_) rfl rfl (by kernel_rfl) (by kernel_rfl) (by kernel_rfl) (fun _ _ _ h => h) (Or.inl ⟨by rfl, ?_⟩) (by assumption) ?_
 rotate_left 1
 ·intro wz hSw
  first | (go_simp; done) | (go_simp; with_reducible rfl)
 simp only [List.set_cons_zero, List.set_cons_succ]
 refine take_at (i := 11) (n := 35) (v := ?_) rfl rfl (by kernel_rfl) (by kernel_rfl) (by kernel_rfl) (fun _ _ _ h => h) (Or.inl ⟨by rfl, ?_⟩) (by assumption) ?_
 rotate_left 1
 ·intro wz hSw
  first | (go_simp; done) | (go_simp; with_reducible rfl)
 simp only [List.set_cons_zero, List.set_cons_succ]
 refine wpAnyH_ready (rs := [1]) (by kernel_rfl) (by simp) ?_
 refine AllReadyH.cons rfl (fun K hK => ?_) AllReadyH.nil
 go_simp
 go_wp2_with (go_at_call 46; refine (cloneI_any _ l iad ic hl (HK.out.2.1.1.below (below_seq H10.out.bel (Below.refl _ _).drew)) HK.out.2.1.2).mono ?_; rintro r w2 ⟨iv, rfl, himg, hb2⟩; obtain ⟨ja, jc, e2⟩ : ∃ a c, iv = .slice a l.length c := (by obtain ⟨⟨a, c, e, -⟩, -⟩ := himg; exact ⟨a, c, e⟩); subst e2; have H2 : Hid (FB w w2 w.heap.size ∧ InSl w2 l (.slice ja l.length jc) ∧ ∀ ad n c, Value.slice ja l.length jc = .slice (some ad) n c → ad.block < w2.heap.size) := ⟨H10.out.grow (below_seq (Below.refl _ _).drew hb2), himg.1, fun ad n c e => (himg.2 ad n c e).2⟩; have hS2 := hS0.below hb2; have HFR : Hid (∀ ad n c, Value.slice ja l.length jc = .slice (some ad) n c → w.heap.size ≤ ad.block) := (fun ad n c e => Nat.le_trans H10.out.bel.size (himg.2 ad n c e).1); clear himg hb2)
 refine hK.out _ _ hS2 (fun hHeld => ?_)
 clear hK K
 refine wpAnyH_ready (rs := [8]) (by kernel_rfl) (by simp) ?_
 refine AllReadyH.cons rfl (fun K hK => ?_) AllReadyH.nil
 go_simp
 go_wp2_with (go_at_call 47; refine (operators_any _).mono ?_; rintro r w3 ⟨ov, rfl, hop, hb3⟩; obtain ⟨jq, e3⟩ : ∃ q, ov = .map (some q) := (by obtain ⟨q, g, e, -⟩ := hop; exact ⟨q, e⟩); subst e3; have H3 : Hid (FB w w3 w.heap.size ∧ ImgAt w3 w3.heap.size l (.slice ja l.length jc) ∧ OpsAt w3 w3.heap.size (.map (some jq))) := ⟨H2.out.1.grow hb3, ⟨H2.out.2.1.below hb3, fun ad n c e => by have := H2.out.2.2 ad n c e; have := hb3.size; omega⟩, hop⟩; have hS3 := hS2.below hb3; clear hop hb3)
 refine hK.out _ _ hS3 (fun hHeld => ?_)
 clear hK K
 refine take_at (i := 9) (n := 33) (v := ?_) rfl rfl (by kernel_rfl) (by kernel_rfl) (by kernel_rfl) (fun _ _ _ h => h) (Or.inl ⟨by rfl, ?_⟩) (by assumption) ?_
 rotate_left 1
 ·intro wz hSw
  first | (go_simp; done) | (go_simp; with_reducible rfl)
 simp only [List.set_cons_zero, List.set_cons_succ]
 refine wpAnyH_ready (rs := [10]) (by kernel_rfl) (by simp) ?_
 refine AllReadyH.cons rfl (fun K hK => ?_) AllReadyH.nil
 go_simp
 have H4 : Hid (FB w (w3.alloc (.cells #[.slice ja l.length jc, .int .i64 v0, .int .i64 v1, .int .i64 v2, .int .i64 v3, .int .i64 v4, .int .i64 v5, .int .i64 v6, .int .i64 v7, .int .i64 i0, .int .i64 i1, .int .i64 i2, .int .i64 i3, .int .i64 0, .int .i64 0, .int .i64 0, .int .i64 0, .int .i64 0, .int .i64 0, .int .i64 0, .int .i64 0, .slice none 0 0, .slice none 0 0, .int .i64 0, .int .i64 0, .map (some jq)] 85)) w.heap.size ∧ MM (w3.alloc (.cells #[.slice ja l.length jc, .int .i64 v0, .int .i64 v1, .int .i64 v2, .int .i64 v3, .int .i64 v4, .int .i64 v5, .int .i64 v6, .int .i64 v7, .int .i64 i0, .int .i64 i1, .int .i64 i2, .int .i64 i3, .int .i64 0, .int .i64 0, .int .i64 0, .int .i64 0, .int .i64 0, .int .i64 0, .int .i64 0, .int .i64 0, .slice none 0 0, .slice none 0 0, .int .i64 0, .int .i64 0, .map (some jq)] 85)) w3.heap.size (w3.heap.size + 1) l (.slice ja l.length jc) (.map (some jq)) [i0, i1, i2, i3] 0 (ms0 [v0, v1, v2, v3, v4, v5, v6, v7]) (.slice none 0 0) (.slice none 0 0)) := ⟨H3.out.1.grow (below_new _ _), MM.made (vs := [v0, v1, v2, v3, v4, v5, v6, v7]) (ins := [i0, i1, i2, i3]) rfl rfl H3.out.2.1 H3.out.2.2⟩
 have l3 : w.heap.size ≤ w3.heap.size := H3.out.1.bel.size
 have hS4 := hS3.below (below_new w3 (.cells #[.slice ja l.length jc, .int .i64 v0, .int .i64 v1, .int .i64 v2, .int .i64 v3, .int .i64 v4, .int .i64 v5, .int .i64 v6, .int .i64 v7, .int .i64 i0, .int .i64 i1, .int .i64 i2, .int .i64 i3, .int .i64 0, .int .i64 0, .int .i64 0, .int .i64 0, .int .i64 0, .int .i64 0, .int .i64 0, .int .i64 0, .slice none 0 0, .slice none 0 0, .int .i64 0, .int .i64 0, .map (some jq)] 85))
 refine hK.out _ _ hS4 (fun hHeld => ?_)
 clear hK K
 generalize hw4 : (w3.alloc (.cells #[.slice ja l.length jc, .int .i64 v0, .int .i64 v1, .int .i64 v2, .int .i64 v3, .int .i64 v4, .int .i64 v5, .int .i64 v6, .int .i64 v7, .int .i64 i0, .int .i64 i1, .int .i64 i2, .int .i64 i3, .int .i64 0, .int .i64 0, .int .i64 0, .int .i64 0, .int .i64 0, .int .i64 0, .int .i64 0, .int .i64 0, .slice none 0 0, .slice none 0 0, .int .i64 0, .int .i64 0, .map (some jq)] 85)) = w4 at *
 clear hw4
 refine take_at (i := 12) (n := 6) (v := ?_) rfl rfl (by kernel_rfl) (by kernel_rfl) (by kernel_rfl) (fun _ _ _ h => h) (Or.inl ⟨by rfl, ?_⟩) (by assumption) ?_
 rotate_left 1
 ·intro wz hSw
  first | (go_simp; done) | (go_simp; with_reducible rfl)
 simp only [List.set_cons_zero, List.set_cons_succ]
 obtain ⟨rs9, rf9, rl9⟩ := cells_of (l := [_, _]) H4.out.1.res
 have r90 := rs9 0 _ rfl
 have r91 := rs9 1 _ rfl
 clear rs9
 refine wpAnyH_ready (rs := [13]) (by kernel_rfl) (by simp) ?_
 refine AllReadyH.cons rfl (fun K hK => ?_) AllReadyH.nil
 go_simp
 have hb6 : Below w.heap.size w ((w4.setCell ⟨w.heap.size, 0, none⟩ (.int .i64 0)).setCell ⟨w.heap.size, 1, none⟩ (.int .i64 0)) := (H4.out.1.bel.setCell (Nat.le_refl _) _).setCell (Nat.le_refl _) _
 refine hK.out _ _ (HK.out.2.2.2.below hb6) (fun hHeld => ?_)
 clear hK K
 refine wpAnyH_done (by kernel_rfl) ?_ _
 refine NoPanic.normal ?_
 go_wp2_with fail
 refine bodyPost_ret (v := .tuple #[.pointer (some ⟨w3.heap.size, 0, none⟩), .agg #[.int .i64 0, .int .i64 0]]) (New_ends ((no_fault H4.out.1.res _).trans H4.out.1.res) rfl rfl) rfl ?_
 exact ⟨_, _, _, rfl, l3, H4.out.2.same (no_fault H4.out.1.res) (by simp), hb6, HFR.out⟩
theorem MM.off {w w' : World} {mb B : Nat} {l : List In} {iv ov : Value} {ins : List Int} {sp : Int} {s : MS} (h : MM w mb B l iv ov ins sp s (.slice none 0 0) (.slice none 0 0)) {g : Nat} {cs : Array Value} {t : TypeId} (hg : w.heap[g]? = some (.cells cs t (0, 0))) (hmb : mb ≠ g) (ht : t ≠ 135) (him : ∀ ad n c, iv = .slice (some ad) n c → ad.block ≠ g) (hh : ∀ k, k < w.heap.size → k ≠ g → w'.heap[k]? = w.heap[k]?) (hz : w.heap.size ≤ w'.heap.size) : MM w' mb B l iv ov ins sp s (.slice none 0 0) (.slice none 0 0) := by
 have hlt := h.lt
 refine ⟨(hh mb hlt hmb).trans h.blk, ownsRow_own h.stk (fun k e => by cases e), ownsRow_own h.pts (fun k e => by cases e), h.apt, h.lv, h.li, h.lc, h.nmb, Nat.le_trans h.bas hz, ?_, ?_⟩
 ·obtain ⟨⟨ad, c, rfl, h0 | ⟨b, o, rfl, hc⟩⟩, h3⟩ := h.img
  ·exact ⟨⟨ad, c, rfl, .inl h0⟩, h3⟩
  ·have e := hh b (by have := h3 _ _ _ rfl; show b < _; have h4 : b < mb := this; omega) (him _ _ _ rfl)
   exact ⟨⟨_, c, rfl, .inr ⟨b, o, rfl, fun j hj => ⟨(cell_same e).trans (hc j hj).1, (cell_same e).trans (hc j hj).2.1, (cell_same e).trans (hc j hj).2.2⟩⟩⟩, h3⟩
 ·obtain ⟨q, f, h1, h2, h3, h4, h5⟩ := h.ops
  refine ⟨q, f, h1, h2, h3, (hh q (by omega) (fun e => ?_)).trans h4, (hh f (by omega) (fun e => ?_)).trans h5⟩
  ·rw [e, hg] at h4; cases h4
  ·rw [e, hg] at h5
   simp only [Option.some.injEq, Obj.cells.injEq] at h5
   exact ht h5.2.1
def faultF (l : List In) (vs ins : List Int) : Int × Int := if (docI l).1 ≠ 0 then docI l else if vs.length ≠ 8 ∨ ins.length ≠ 4 then (3, 0) else (0, 0)
def NewPost (w : World) (l : List In) (vs ins : List Int) (r : Ending) (w' : World) : Prop := Below w.heap.size w w' ∧
  (((faultF l vs ins).1 ≠ 0 ∧ r = .returned (.tuple #[.pointer none, .agg #[.int .i64 (faultF l vs ins).1, .int .i64 (faultF l vs ins).2]])) ∨
   (faultF l vs ins = (0, 0) ∧ (docI l = (0, 0) ∧ vs.length = 8 ∧ ins.length = 4) ∧ ∃ mb iv ov, r = .returned (.tuple #[.pointer (some ⟨mb, 0, none⟩), .agg #[.int .i64 0, .int .i64 0]]) ∧ w.heap.size ≤ mb ∧ MM w' mb (mb + 1) l iv ov ins 0 (ms0 vs) (.slice none 0 0) (.slice none 0 0) ∧ ∀ ad n c, iv = .slice (some ad) n c → w.heap.size ≤ ad.block))
theorem New_is (w : World) (l : List In) (iad : Option Addr) (ic : Nat) (vad nad : Option Addr) (vc nc : Nat) (vs ins : List Int) (hkk : KindsIn w) (h : InSl w l (.slice iad l.length ic)) (hnil : iad = none → l.length = 0 ∧ ic = 0) (hvs : IntSl w vs (.slice vad vs.length vc)) (hins : IntSl w ins (.slice nad ins.length nc)) :
    Calls Tryd.prog 18 #[.slice iad l.length ic, .slice vad vs.length vc, .slice nad ins.length nc] w (NewPost w l vs ins) := by
  obtain ⟨c, k, hc⟩ : ∃ c k, docI l = (c, k) := ⟨_, _, rfl⟩
  have hck : checkI l = (c, k) := (doc_check l).symm.trans hc
  by_cases h0 : c = 0
  · subst h0
    have := docI_zero hc
    subst this
    by_cases hnm : vs.length ≠ 8 ∨ ins.length ≠ 4
    · have e : faultF l vs ins = (3, 0) := by unfold faultF; rw [hc, if_neg (by simp), if_pos hnm]
      exact (New_range w l iad ic vad nad _ _ vc nc hkk h 0 hck hnm).mono fun r w' hr => ⟨hr.2, .inl ⟨by rw [e]; simp, by rw [e]; exact hr.1⟩⟩
    · have hv : vs.length = 8 := by omega
      have hi : ins.length = 4 := by omega
      have e : faultF l vs ins = (0, 0) := by unfold faultF; rw [hc, if_neg (by simp), if_neg hnm]
      obtain ⟨M, g⟩ := good_of hc
      have := New_fresh w l iad ic vad nad vc nc vs ins hkk h hnil 0 hck (by have := g.len; omega) hv hi hvs hins
      rw [hv, hi]
      refine this.mono fun r w' hr => ?_
      obtain ⟨mb, iv, ov, h1, h2, h3, h4, h5⟩ := hr
      exact ⟨h4, .inr ⟨e, ⟨hc, hv, hi⟩, mb, iv, ov, h1, h2, h3, h5⟩⟩
  · have e : faultF l vs ins = (c, k) := by unfold faultF; rw [hc, if_pos h0]
    exact (New_bad w l iad ic _ _ hkk h c k hck h0).mono fun r w' hr => ⟨hr.2, .inl ⟨by rw [e]; exact h0, by rw [e]; exact hr.1⟩⟩
def OwnM (w w' : World) (mb : Nat) : Prop := w.heap.size ≤ mb ∧ ∃ iv ov, MM w' mb (mb + 1) imageL iv ov fives4 0 (ms0 zeros8) (.slice none 0 0) (.slice none 0 0)
theorem OwnM.below {w w' w'' : World} {mb : Nat} (h : OwnM w w' mb) (hb : Below w'.heap.size w' w'') : OwnM w w'' mb := by
  obtain ⟨h1, iv, ov, h2⟩ := h
  exact ⟨h1, iv, ov, h2.grow hb⟩
theorem OwnM.store {w w' w'' : World} {mb g : Nat} {c0 c1 : Value} (h : OwnM w w' mb) (hg : w'.heap[g]? = some (.cells #[c0, c1] 30 (0, 0))) (hh : ∀ k, k ≠ g → w''.heap[k]? = w'.heap[k]?) (hz : w''.heap.size = w'.heap.size) : OwnM w w'' mb := by
  obtain ⟨h1, iv, ov, h2⟩ := h
  refine ⟨h1, iv, ov, h2.off hg (fun e => ?_) (by decide) (fun ad n c e hb => ?_) (fun k _ hk => hh k hk) (by omega)⟩
  · have := h2.blk
    rw [e, hg] at this
    simp only [Option.some.injEq, Obj.cells.injEq] at this
    exact absurd this.2.1 (by decide)
  · obtain ⟨⟨ad', c', e', h0 | ⟨b, o, rfl, hc⟩⟩, -⟩ := h2.img
    · cases h0
    · rw [e] at e'
      simp only [Value.slice.injEq, Option.some.injEq] at e'
      have hb' : b = g := by rw [← hb, e'.1]
      subst hb'
      have := (hc 9 (by decide)).1
      unfold World.cell? at this
      rw [hg] at this
      simp at this
structure NF (w : World) (l0 l1 l2 l3 l4 l5 l6 l7 l8 l9 : Bool) (x11 x12 x28 x29 x30 x31 x32 x33 x34 : Value) (w' : World) : Prop where
  bel : Below w.heap.size w w'
  mid : (l3 = false ∧ l4 = false ∧ l5 = false ∧ l6 = false ∧ l8 = false ∧ l9 = false ∧ (l0 = true → BodyAt w' x29) ∧ (l1 = true → ∃ k, x30 = .slice (some ⟨k, 0, none⟩) 8 8 ∧ IntSl w' zeros8 x30) ∧ (l2 = true → ∃ k, x31 = .slice (some ⟨k, 0, none⟩) 4 4 ∧ IntSl w' fives4 x31)) ∨
    (l3 = true ∧ l0 = true ∧ l1 = true ∧ l2 = true ∧ ∃ mb, OwnM w w' mb ∧ x32 = (.tuple #[.pointer (some ⟨mb, 0, none⟩), okV]) ∧ (l4 = true → x28 = (.tuple #[.pointer (some ⟨mb, 0, none⟩), okV])) ∧ (l4 = false → l5 = false ∧ l6 = false) ∧ (l5 = true → x33 = .pointer (some ⟨mb, 0, none⟩)) ∧ (l5 = false → l8 = false) ∧ (l8 = true → x11 = .pointer (some ⟨mb, 0, none⟩)) ∧ (l6 = true → x34 = okV) ∧ (l6 = false → l9 = false))
  b2 : (l7 = false ∧ l9 = false) ∨ (l7 = true ∧ ∃ c0 c1, Blk2 w w' x12 c0 c1 ∧ (l9 = true → x34 = .agg #[c0, c1]))
theorem NF.grow {w w' w'' : World} {l0 l1 l2 l3 l4 l5 l6 l7 l8 l9 : Bool} {x11 x12 x28 x29 x30 x31 x32 x33 x34 : Value} (h : NF w l0 l1 l2 l3 l4 l5 l6 l7 l8 l9 x11 x12 x28 x29 x30 x31 x32 x33 x34 w') (hb : Below w'.heap.size w' w'') : NF w l0 l1 l2 l3 l4 l5 l6 l7 l8 l9 x11 x12 x28 x29 x30 x31 x32 x33 x34 w'' := by
  obtain ⟨h1, h2, h4⟩ := h
  refine ⟨below_seq h1 hb, ?_, ?_⟩
  · rcases h2 with ⟨a, b, c, d, e, f, g, i, j⟩ | ⟨a, b, c, d, mb, h, r⟩
    · refine .inl ⟨a, b, c, d, e, f, fun q => (g q).below hb, fun q => ?_, fun q => ?_⟩
      · obtain ⟨k, e, hk⟩ := i q; exact ⟨k, e, hk.below hb⟩
      · obtain ⟨k, e, hk⟩ := j q; exact ⟨k, e, hk.below hb⟩
    · exact .inr ⟨a, b, c, d, mb, h.below hb, r⟩
  · rcases h4 with h4 | ⟨a, c0, c1, h, r⟩
    · exact .inl h4
    · exact .inr ⟨a, c0, c1, h.below hb, r⟩
theorem NF.last {w w' : World} {x11 x12 x28 x29 x30 x31 x32 x33 x34 : Value} (h : NF w true true true true true true true true true true x11 x12 x28 x29 x30 x31 x32 x33 x34 w') :
    ∃ mb g, x11 = .pointer (some ⟨mb, 0, none⟩) ∧ x12 = .pointer (some ⟨g, 0, none⟩) ∧ Hid (OwnM w w' mb ∧ Below w.heap.size w w') ∧ w'.heap[g]? = some (.cells #[.int .i64 0, .int .i64 0] 30 (0, 0)) := by
  obtain ⟨h1, h2, h4⟩ := h
  rcases h2 with ⟨a, -⟩ | ⟨-, -, -, -, mb, h, -, -, -, -, -, r8, r6, -⟩
  · cases a
  rcases h4 with ⟨a, -⟩ | ⟨-, d0, d1, ⟨g, e', -, hg⟩, r'⟩
  · cases a
  have e9 := (r' rfl).symm.trans (r6 rfl)
  unfold okV at e9
  simp at e9
  obtain ⟨rfl, rfl⟩ := e9
  exact ⟨mb, g, r8 rfl, e', ⟨h, h1⟩, hg⟩
theorem NF.s0 {w w' : World} {l1 l2 l3 l4 l5 l6 l7 l8 l9 : Bool} {x11 x12 x28 x29 x30 x31 x32 x33 x34 : Value} (h : NF w false l1 l2 l3 l4 l5 l6 l7 l8 l9 x11 x12 x28 x29 x30 x31 x32 x33 x34 w') {v : Value} (hv : BodyAt w' v) :
    NF w true l1 l2 l3 l4 l5 l6 l7 l8 l9 x11 x12 x28 v x30 x31 x32 x33 x34 w' := by
  obtain ⟨h1, h2, h4⟩ := h
  refine ⟨h1, ?_, h4⟩
  rcases h2 with ⟨a, b, c, d, e, f, -, i, j⟩ | ⟨-, b, -⟩
  · exact .inl ⟨a, b, c, d, e, f, fun _ => hv, i, j⟩
  · cases b
theorem NF.s1 {w w' : World} {l0 l2 l3 l4 l5 l6 l7 l8 l9 : Bool} {x11 x12 x28 x29 x30 x31 x32 x33 x34 : Value} (h : NF w l0 false l2 l3 l4 l5 l6 l7 l8 l9 x11 x12 x28 x29 x30 x31 x32 x33 x34 w') {v : Value} (hv : ∃ k, v = .slice (some ⟨k, 0, none⟩) 8 8 ∧ IntSl w' zeros8 v) :
    NF w l0 true l2 l3 l4 l5 l6 l7 l8 l9 x11 x12 x28 x29 v x31 x32 x33 x34 w' := by
  obtain ⟨h1, h2, h4⟩ := h
  refine ⟨h1, ?_, h4⟩
  rcases h2 with ⟨a, b, c, d, e, f, g, -, j⟩ | ⟨-, -, b, -⟩
  · exact .inl ⟨a, b, c, d, e, f, g, fun _ => hv, j⟩
  · cases b
theorem NF.s2 {w w' : World} {l0 l1 l3 l4 l5 l6 l7 l8 l9 : Bool} {x11 x12 x28 x29 x30 x31 x32 x33 x34 : Value} (h : NF w l0 l1 false l3 l4 l5 l6 l7 l8 l9 x11 x12 x28 x29 x30 x31 x32 x33 x34 w') {v : Value} (hv : ∃ k, v = .slice (some ⟨k, 0, none⟩) 4 4 ∧ IntSl w' fives4 v) :
    NF w l0 l1 true l3 l4 l5 l6 l7 l8 l9 x11 x12 x28 x29 x30 v x32 x33 x34 w' := by
  obtain ⟨h1, h2, h4⟩ := h
  refine ⟨h1, ?_, h4⟩
  rcases h2 with ⟨a, b, c, d, e, f, g, i, -⟩ | ⟨-, -, -, b, -⟩
  · exact .inl ⟨a, b, c, d, e, f, g, i, fun _ => hv⟩
  · cases b
theorem NF.s3 {w w' : World} {l4 l5 l6 l7 l8 l9 : Bool} {x11 x12 x28 x29 x30 x31 x32 x33 x34 : Value} (h : NF w true true true false l4 l5 l6 l7 l8 l9 x11 x12 x28 x29 x30 x31 x32 x33 x34 w') {mb : Nat} (hv : OwnM w w' mb) :
    NF w true true true true l4 l5 l6 l7 l8 l9 x11 x12 x28 x29 x30 x31 (.tuple #[.pointer (some ⟨mb, 0, none⟩), okV]) x33 x34 w' := by
  obtain ⟨h1, h2, h4⟩ := h
  refine ⟨h1, ?_, h4⟩
  rcases h2 with ⟨a, b, c, d, e, f, g, i, -⟩ | ⟨b, -⟩
  · subst b c d e f
    exact .inr ⟨rfl, rfl, rfl, rfl, mb, hv, rfl, (fun h => by cases h), (fun _ => ⟨rfl, rfl⟩), (fun h => by cases h), (fun _ => rfl), (fun h => by cases h), (fun h => by cases h), (fun _ => rfl)⟩
  · cases b
theorem NF.s4 {w w' : World} {l0 l1 l2 l5 l6 l7 l8 l9 : Bool} {x11 x12 x28 x29 x30 x31 x32 x33 x34 : Value} (h : NF w l0 l1 l2 true false l5 l6 l7 l8 l9 x11 x12 x28 x29 x30 x31 x32 x33 x34 w')  :
    NF w l0 l1 l2 true true l5 l6 l7 l8 l9 x11 x12 x32 x29 x30 x31 x32 x33 x34 w' := by
  obtain ⟨h1, h2, h4⟩ := h
  refine ⟨h1, ?_, h4⟩
  rcases h2 with ⟨a, -⟩ | ⟨a, b, c, d, mb, h, e7, -, e4, r⟩
  · cases a
  · obtain ⟨rfl, rfl⟩ := e4 rfl
    exact .inr ⟨a, b, c, d, mb, h, e7, (fun _ => e7), (fun h => by cases h), r⟩
theorem NF.s5 {w w' : World} {l0 l1 l2 l3 l6 l7 l8 l9 : Bool} {x11 x12 x28 x29 x30 x31 x32 x33 x34 : Value} (h : NF w l0 l1 l2 l3 true false l6 l7 l8 l9 x11 x12 x28 x29 x30 x31 x32 x33 x34 w') {v : Value} (hv : ∀ y z, x28 = .tuple #[y, z] → v = y) :
    NF w l0 l1 l2 l3 true true l6 l7 l8 l9 x11 x12 x28 x29 x30 x31 x32 v x34 w' := by
  obtain ⟨h1, h2, h4⟩ := h
  rcases h2 with ⟨-, a, -⟩ | ⟨a, b, c, d, mb, h, e7, e4, -, -, e5, e8, r⟩
  · cases a
  · have q8 := e5 rfl
    subst q8
    exact ⟨h1, .inr ⟨a, b, c, d, mb, h, e7, e4, (fun h => by cases h), (fun _ => hv _ _ (e4 rfl)), (fun h => by cases h), (fun h => by cases h), r⟩, h4⟩
theorem NF.s6 {w w' : World} {l0 l1 l2 l3 l5 l7 l8 l9 : Bool} {x11 x12 x28 x29 x30 x31 x32 x33 x34 : Value} (h : NF w l0 l1 l2 l3 true l5 false l7 l8 l9 x11 x12 x28 x29 x30 x31 x32 x33 x34 w') {v : Value} (hv : ∀ y z, x28 = .tuple #[y, z] → v = z) :
    NF w l0 l1 l2 l3 true l5 true l7 l8 l9 x11 x12 x28 x29 x30 x31 x32 x33 v w' := by
  obtain ⟨h1, h2, h4⟩ := h
  rcases h2 with ⟨-, a, -⟩ | ⟨a, b, c, d, mb, h, e7, e4, -, e5, e5', e8, -, e6⟩
  · cases a
  · have e9 := e6 rfl
    subst e9
    refine ⟨h1, .inr ⟨a, b, c, d, mb, h, e7, e4, (fun h => by cases h), e5, e5', e8, (fun _ => hv _ _ (e4 rfl)), (fun h => by cases h)⟩, ?_⟩
    rcases h4 with h4 | ⟨q, c0, c1, hb, -⟩
    · exact .inl h4
    · exact .inr ⟨q, c0, c1, hb, fun h => by cases h⟩
theorem NF.s7 {w w' : World} {l0 l1 l2 l3 l4 l5 l6 l8 l9 : Bool} {x11 x12 x28 x29 x30 x31 x32 x33 x34 : Value} (h : NF w l0 l1 l2 l3 l4 l5 l6 false l8 l9 x11 x12 x28 x29 x30 x31 x32 x33 x34 w') {v c0 c1 : Value} (hv : Blk2 w w' v c0 c1) :
    NF w l0 l1 l2 l3 l4 l5 l6 true l8 l9 x11 v x28 x29 x30 x31 x32 x33 x34 w' := by
  obtain ⟨h1, h2, h4⟩ := h
  refine ⟨h1, h2, ?_⟩
  rcases h4 with ⟨-, e⟩ | ⟨q, -⟩
  · exact .inr ⟨rfl, c0, c1, hv, fun h => by rw [e] at h; cases h⟩
  · cases q
theorem NF.s8 {w w' : World} {l0 l1 l2 l3 l4 l6 l7 l9 : Bool} {x11 x12 x28 x29 x30 x31 x32 x33 x34 : Value} (h : NF w l0 l1 l2 l3 l4 true l6 l7 false l9 x11 x12 x28 x29 x30 x31 x32 x33 x34 w')  :
    NF w l0 l1 l2 l3 l4 true l6 l7 true l9 x33 x12 x28 x29 x30 x31 x32 x33 x34 w' := by
  obtain ⟨h1, h2, h4⟩ := h
  refine ⟨h1, ?_, h4⟩
  rcases h2 with ⟨-, -, a, -⟩ | ⟨a, b, c, d, mb, h, e7, e4, e4', e5, e5', -, r⟩
  · cases a
  · exact .inr ⟨a, b, c, d, mb, h, e7, e4, e4', e5, (fun h => by cases h), (fun _ => e5 rfl), r⟩
theorem NF.s9 {w w' : World} {l0 l1 l2 l4 l5 l8 l9 : Bool} {x11 x12 x28 x29 x30 x31 x32 x33 x34 : Value} (h : NF w l0 l1 l2 true l4 l5 true true l8 l9 x11 x12 x28 x29 x30 x31 x32 x33 x34 w') {g : Nat} {c0 c1 d0 d1 : Value} (hx : x12 = .pointer (some ⟨g, 0, none⟩)) (hg0 : w.heap.size ≤ g) (hg : w'.heap[g]? = some (.cells #[c0, c1] 30 (0, 0))) (h9 : x34 = .agg #[d0, d1]) :
    NF w l0 l1 l2 true l4 l5 true true l8 true x11 x12 x28 x29 x30 x31 x32 x33 x34 ((w'.setCell ⟨g, 0, none⟩ d0).setCell ⟨g, 1, none⟩ d1) := by
  obtain ⟨h1, h2, h4⟩ := h
  have q1 := setCell_at (i := 0) (u := d0) hg
  have q2 := setCell_at (i := 1) (u := d1) q1
  refine ⟨(h1.setCell hg0 _).setCell hg0 _, ?_, .inr ⟨rfl, d0, d1, ⟨g, hx, hg0, by simpa using q2⟩, fun _ => h9⟩⟩
  rcases h2 with ⟨a, -⟩ | ⟨a, b, c, d, mb, h, e7, e4, e4', e5, e5', e8, e6, -⟩
  · cases a
  · refine .inr ⟨a, b, c, d, mb, h.store hg (fun k hk => ?_) (by simp), e7, e4, e4', e5, e5', e8, e6, (fun h => by cases h)⟩
    rw [Below.heap_setCell _ _ _ _ (by show k ≠ g; exact hk), Below.heap_setCell _ _ _ _ (by show k ≠ g; exact hk)]
theorem NF.shape {w w' : World} {l0 l1 l2 l3 l4 l5 l6 l7 l8 l9 : Bool} {x11 x12 x28 x29 x30 x31 x32 x33 x34 : Value} (h : NF w l0 l1 l2 l3 l4 l5 l6 l7 l8 l9 x11 x12 x28 x29 x30 x31 x32 x33 x34 w') (h3 : l3 = true) : ∃ mb, (l4 = true → x28 = (.tuple #[.pointer (some ⟨mb, 0, none⟩), okV])) ∧ (l5 = true → x33 = .pointer (some ⟨mb, 0, none⟩)) ∧ (l6 = true → x34 = okV) := by
  rcases h.mid with ⟨a, -⟩ | ⟨-, -, -, -, mb, -, -, e4, -, e5, -, -, e6, -⟩
  · rw [h3] at a; cases a
  · exact ⟨mb, e4, e5, e6⟩
theorem new_own (w0 w : World) (v : Value) (k m : Nat) (h0 : w0.heap.size ≤ w.heap.size) (hr : KindsIn w) (hb : BodyAt w v) (hv : IntSl w zeros8 (.slice (some ⟨k, 0, none⟩) 8 8)) (hi : IntSl w fives4 (.slice (some ⟨m, 0, none⟩) 4 4)) :
    Calls Tryd.prog 18 #[v, .slice (some ⟨k, 0, none⟩) 8 8, .slice (some ⟨m, 0, none⟩) 4 4] w fun r w' => ∃ mb, r = .returned (.tuple #[.pointer (some ⟨mb, 0, none⟩), okV]) ∧ OwnM w0 w' mb ∧ Below w.heap.size w w' := by
  obtain ⟨ad, c, rfl, h1, h2⟩ := hb
  refine (New_ok w imageL ad c _ _ 8 4 zeros8 fives4 hr h1 h2 0 checkI_image (by decide) rfl rfl hv hi).mono fun r w' h => ?_
  obtain ⟨mb, iv, ov, he, hmb, hm, hbw⟩ := h
  exact ⟨mb, he, ⟨by omega, iv, ov, hm⟩, hbw⟩
theorem MR.below {mb N : Nat} {a b : World} {sv' pv' : Value} (h : MR mb a b (.slice none 0 0) (.slice none 0 0) sv' pv') (hm : N ≤ mb) (hN : N ≤ a.heap.size) : Below N a b :=
 ⟨h.os, h.tape, h.output, h.size, fun k hk => h.block k (by omega) (by omega) (by simp [Value.ownBlock]) (by simp [Value.ownBlock])⟩
theorem infoPtr : (Tryd.prog.info? 45).map (fun i => (i.zero, i.size, i.bytes)) = some (some (.pointer none), 1, 8) := by kernel_rfl
theorem wp_pushM {w : World} {ops : Array Oper} {rest : List Oper} {o : Oper} {a : Act} {Q : Exit → Act → World → Prop} (hgd : o.guard = none) (s x : Operand)
  (ho : o.op = .call { callee := .builtin .append, args := #[s, x], argTypes := #[55, 55] }) (B : Nat) (v : Value) (ps : List Value) (p : Option Addr) (g n : Nat) (hgg : w.heap.size = g) (hn : ps.length = n) (hs : a.eval s = v) (hx : a.eval x = .slice (some ⟨g, 0, none⟩) 1 1)
  (hown : w.ownsRow B 45 1 v n ps) (hB : B ≤ w.heap.size) (hl : n ≤ 100)
  (h : ∀ ad c w', w'.ownsRow B 45 1 (.slice ad (n + 1) c) (n + 1) (ps ++ [.pointer p]) → (w.alloc (.cells #[.pointer p] 45)).grownBy w' v.ownBlock → ((Value.slice ad (n + 1) c).ownBlock = v.ownBlock ∨ ∀ k, (Value.slice ad (n + 1) c).ownBlock = some k → (w.alloc (.cells #[.pointer p] 45)).heap.size ≤ k) → wpList Tryd.prog ops Q rest (a.put o.dst (.slice ad (n + 1) c)) w') : wpList Tryd.prog ops Q (o :: rest) a (w.alloc (.cells #[.pointer p] 45)) := by
 subst hgg hn
 obtain ⟨i0, hi0, hz0, hz1, hz2⟩ := info_parts infoPtr
 have hown' : (w.alloc (.cells #[.pointer p] 45)).ownsRow B 45 1 v ps.length ps := ownsRow_same hown (fun k _ hk => (below_new w _).block k hk)
 obtain ⟨v4, w4, hrun, ho4, hg4, hv4⟩ := append_two (P := Tryd.prog) (w.alloc (.cells #[.pointer p] 45)) B w.heap.size 55 o.type 45 i0 _ 1 8 Tryd.underlying55 hi0 hz0 hz1 hz2 rfl (by decide) v ps.length ps hown' _ 1 [.pointer p] (World.ownsRow_lit w #[.pointer p] 1 (Nat.le_refl _) (by decide) rfl) (by intro u hu; simp at hu; subst hu; rfl) (by unfold maxLen; omega) (by omega) (by simp; omega)
 obtain ⟨vad, vcap, rfl⟩ := owns_value ho4
 refine append_known hgd s x 55 ho hs hx hrun ?_
 exact h vad vcap w4 ho4 hg4 hv4
def MK (lo hi : Nat) (wr : World) (l : List In) (ins vs : List Int) (p : Value) : Prop := ((faultF l vs ins).1 ≠ 0 ∧ p = .pointer none) ∨
 ∃ mb iv ov, p = .pointer (some ⟨mb, 0, none⟩) ∧ lo ≤ mb ∧ mb < hi ∧ (docI l = (0, 0) ∧ vs.length = 8 ∧ ins.length = 4) ∧ MM wr mb (mb + 1) l iv ov ins 0 (ms0 vs) (.slice none 0 0) (.slice none 0 0) ∧ ∀ ad n c, iv = .slice (some ad) n c → lo ≤ ad.block
theorem MK.ptr {lo hi : Nat} {wr : World} {l : List In} {ins vs : List Int} {p : Value} (h : MK lo hi wr l ins vs p) : ∃ q, p = .pointer q := by
 rcases h with ⟨-, rfl⟩ | ⟨mb, iv, ov, rfl, -⟩ <;> exact ⟨_, rfl⟩
theorem MK.off {lo hi : Nat} {wr w' : World} {l : List In} {ins vs : List Int} {p : Value} (h : MK lo hi wr l ins vs p) {g : Nat} {cs : Array Value} {t : TypeId} (hg : wr.heap[g]? = some (.cells cs t (0, 0))) (ht : t ≠ 135) (hlh : g < lo ∨ hi ≤ g) (hh : ∀ k, k < wr.heap.size → k ≠ g → w'.heap[k]? = wr.heap[k]?) (hz : wr.heap.size ≤ w'.heap.size) : MK lo hi w' l ins vs p := by
 rcases h with h | ⟨mb, iv, ov, e, h1, h2, h3, h4, h5⟩
 ·exact .inl h
 ·refine .inr ⟨mb, iv, ov, e, h1, h2, h3, h4.off hg (by omega) ht (fun ad n c q => ?_) hh hz, h5⟩
  have a1 := h5 ad n c q
  have a2 := h4.img.2 ad n c q
  omega
theorem MK.below {lo hi : Nat} {wr w' : World} {l : List In} {ins vs : List Int} {p : Value} (h : MK lo hi wr l ins vs p) (hb : Below wr.heap.size wr w') : MK lo hi w' l ins vs p := by
 rcases h with h | ⟨mb, iv, ov, e, h1, h2, h3, h4, h5⟩
 ·exact .inl h
 ·exact .inr ⟨mb, iv, ov, e, h1, h2, h3, h4.grow hb, h5⟩
theorem MK.mono {lo hi lo' hi' : Nat} {wr : World} {l : List In} {ins vs : List Int} {p : Value} (h : MK lo hi wr l ins vs p) (h1 : lo' ≤ lo) (h2 : hi ≤ hi') : MK lo' hi' wr l ins vs p := by
 rcases h with h | ⟨mb, iv, ov, e, q1, q2, q3, q4, q5⟩
 ·exact .inl h
 ·exact .inr ⟨mb, iv, ov, e, by omega, by omega, q3, q4, fun ad n c q => Nat.le_trans h1 (q5 ad n c q)⟩
theorem MK.grown {lo hi : Nat} {wr w' : World} {l : List In} {ins vs : List Int} {p : Value} (h : MK lo hi wr l ins vs p) {row : Option Nat} (hg : wr.grownBy w' row) (hlh : ∀ k, row = some k → hi ≤ k) : MK lo hi w' l ins vs p := by
 rcases h with h | ⟨mb, iv, ov, e, h1, h2, h3, h4, h5⟩
 ·exact .inl h
 ·have hlt := h4.lt
  have nb : ∀ k, k ≤ mb → w'.heap[k]? = wr.heap[k]? := fun k hk => hg.block k (by omega) (fun q => by have := hlh k q.symm; omega)
  exact .inr ⟨mb, iv, ov, e, h1, h2, h3, ⟨(nb mb (Nat.le_refl _)).trans h4.blk, ownsRow_own h4.stk (fun k q => by cases q), ownsRow_own h4.pts (fun k q => by cases q), h4.apt, h4.lv, h4.li, h4.lc, h4.nmb, Nat.le_trans h4.bas hg.size, h4.img.keep (fun k hk => nb k (by omega)), h4.ops.keep (fun k hk => nb k (by omega))⟩, h5⟩
structure LI1 (w6 wr : World) (l : List In) (ins vs : List Int) (x : Value) (p0 : Value) (hi : Nat) : Prop where
 bel : Below w6.heap.size w6 wr
 row : wr.ownsRow w6.heap.size 45 1 x 1 [p0]
 mk0 : MK w6.heap.size hi wr l ins vs p0
 up : ∀ k, x.ownBlock = some k → hi ≤ k
 le : hi ≤ wr.heap.size
 lo : w6.heap.size ≤ hi
structure LI2 (w6 wr : World) (l : List In) (ins vs os : List Int) (x : Value) (p0 p1 : Value) (mid hi : Nat) : Prop where
 bel : Below w6.heap.size w6 wr
 row : wr.ownsRow w6.heap.size 45 1 x 2 [p0, p1]
 mk0 : MK w6.heap.size mid wr l ins vs p0
 mk1 : MK mid hi wr l ins os p1
 le : mid ≤ hi
 lo : w6.heap.size ≤ mid
structure J2 (w6 wz : World) (l : List In) (ins os : List Int) (x p0 p1 a0 a1 : Value) (g mid hi : Nat) : Prop where
 bel : Below w6.heap.size w6 wz
 row : wz.ownsRow w6.heap.size 45 1 x 2 [p0, p1]
 mk1 : MK mid hi wz l ins os p1
 args : wz.heap[g]? = some (.cells #[a0, a1] 23 (0, 0))
 lo : w6.heap.size ≤ mid
theorem InSl.own_lt {w : World} {l : List In} {v : Value} {q : Nat} (h : InSl w l v) (hl : l ≠ []) (e : v.ownBlock = some q) : q < w.heap.size := by
 obtain ⟨ad, c, rfl, h0 | ⟨b, o, rfl, hc⟩⟩ := h
 ·exact absurd h0 hl
 ·have hq : b = q := Option.some.inj e
  subst hq
  exact World.block_lt_of_cell? _ _ (hc 0 (List.length_pos_iff.2 hl)).1
theorem IntSl.own_lt {w : World} {vs : List Int} {v : Value} {q : Nat} (h : IntSl w vs v) (hl : 0 < vs.length) (e : v.ownBlock = some q) : q < w.heap.size := by
 obtain ⟨ad, c, rfl, h0 | ⟨b, o, rfl, hc⟩⟩ := h
 ·rw [h0] at hl; simp at hl
 ·have hq : b = q := Option.some.inj e
  subst hq
  exact World.block_lt_of_cell? _ _ (hc 0 hl)
theorem InSl.lent {w : World} {B g : Nat} {l : List In} {m : In} (h : w.ownsRow B 35 3 (.slice (some ⟨g, 0, none⟩) (l.length + 3) (l.length + 3)) (l.length + 3) (insVs l ++ marksL m)) : InSl w l (.slice (some ⟨g, 0, none⟩) l.length (l.length + 3)) := (LentI.of_own h).plain
theorem IntSl.lent {w : World} {B g : Nat} {vs : List Int} {ms : List Value} (h : w.ownsRow B 3 1 (.slice (some ⟨g, 0, none⟩) (vs.length + 3) (vs.length + 3)) (vs.length + 3) (intVs vs ++ ms)) : IntSl w vs (.slice (some ⟨g, 0, none⟩) vs.length (vs.length + 3)) := by
 refine ⟨_, _, rfl, .inr ⟨g, 0, rfl, fun j hj => ?_⟩⟩
 have := h.cells rfl j (.int .i64 (vs.getD j 0)) (by rw [List.getElem?_append_left (by simpa [intVs] using hj)]; simp [intVs, List.getD, hj])
 rwa [Addr.add_lit] at this
set_option maxRecDepth 20000 in
set_option maxHeartbeats 4000000 in
theorem SpoilN_lent (w : World) (B g n cap m : Nat) (xs : List Value) (h : w.ownsRow B 3 1 (.slice (some ⟨g, 0, none⟩) m cap) m xs) :
  Calls Tryd.prog 16 #[.slice (some ⟨g, 0, none⟩) n cap] w fun r w' => r = .returned (.tuple #[]) ∧ Below B w w' ∧ ∀ k, k ≠ g → w'.heap[k]? = w.heap[k]? := by
 obtain ⟨i0, hi0, hz0, hz1, hz2⟩ := info_parts info3
 obtain ⟨-, ⟨e, -⟩ | ⟨g', cap', cur, e, hB, hg, hn, hm, hs, -⟩⟩ := h
 ·cases e
 ·simp only [Value.slice.injEq, Option.some.injEq, Addr.mk.injEq, and_true, true_and] at e
  obtain ⟨rfl, rfl⟩ := e
  have hz : ∀ w, (zeroValue 3).run Tryd.prog w = .ok (.int .i64 0) w := fun w => by simp [zeroValue, typeInfo, hi0, hz0]
  have hcl : ∀ ty, (Builtin.clear_ #[23] ty #[.slice (some ⟨g, 0, none⟩) cap cap]).run Tryd.prog w = .ok (.tuple #[]) (w.setCells g 0 (List.replicate cap (.int .i64 0))) := fun ty => by
   by_cases hc : cap = 0
   ·subst hc
    simp [Builtin.clear_, run_underlying Tryd.underlying23, World.setCells]
   ·exact Lib.run_clear_slice w 23 3 ty (.int .i64 0) Tryd.underlying23 hz rfl rfl g 0 cap cap (by omega) (fun j hj => by unfold World.cell?; rw [hg]; simp; omega) (fun j hj => by unfold World.frozen?; rw [hg]; simp)
  have HB : Hid (Below B w (w.setCells g 0 (List.replicate cap (.int .i64 0))) ∧ ∀ k, k ≠ g → (w.setCells g 0 (List.replicate cap (.int .i64 0))).heap[k]? = w.heap[k]?) := ⟨below_setCells hB _ 0 w, fun k hk => setCells_else hk _ _ _⟩
  unfold maxLen at hm
  clear hg hz hs
  go_enter Tryd.func16, Tryd.ntmps16
  go_wp2
  go_end0
  exact ⟨rfl, HB.out⟩
theorem own_some {w : World} {B m c size : Nat} {e : TypeId} {xa : Option Addr} {xs : List Value} (h : w.ownsRow B e size (.slice xa (m + 1) c) (m + 1) xs) : ∃ rb, xa = some ⟨rb, 0, none⟩ := by
 obtain ⟨-, ⟨-, q⟩ | ⟨g', cap', cur, q, -⟩⟩ := h
 ·omega
 ·simp only [Value.slice.injEq] at q
  exact ⟨g', q.1⟩
theorem own_cells {w : World} {B g m cap size : Nat} {e : TypeId} {xs : List Value} (h : w.ownsRow B e size (.slice (some ⟨g, 0, none⟩) m cap) m xs) : B ≤ g ∧ g < w.heap.size ∧ ∃ cs, w.heap[g]? = some (.cells cs e (0, 0)) := by
 obtain ⟨-, ⟨q, -⟩ | ⟨g', cap', cur, q, hB, hg, -⟩⟩ := h
 ·cases q
 ·simp only [Value.slice.injEq, Option.some.injEq, Addr.mk.injEq, and_true, true_and] at q
  obtain ⟨rfl, rfl⟩ := q
  exact ⟨hB, (Array.getElem?_eq_some_iff.1 hg).1, cur, hg⟩
end Go.Proofs.YtibcbdihphbfeacDoor
