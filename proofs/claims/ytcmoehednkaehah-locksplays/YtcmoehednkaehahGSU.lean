import Derived.Test.YtcmoehednkaehahGPC
import Derived.Test.YtcmoehednkaehahGSN
namespace Go.Proofs.Ytcmoehednkaehah
open Go.ChangeShapes Go.WideShapes Go.ChangeAt Go.RowKit

set_option maxRecDepth 20000 in
set_option maxHeartbeats 2000000 in
theorem Play_badP (w : World) (l : List Lj) (v : Value) (hv : LkSl w l v) (h0 : (chkLk l).1 ≠ 0) (pr U : Int) :
    Calls Try.prog 9 #[v, .int .i64 pr, .int .i64 U] w fun r w' => r = .returned (.tuple #[.agg #[.slice none 0 0, .slice none 0 0, .slice none 0 0, .bool false], .agg #[.int .i64 (chkLk l).1, .int .i64 (chkLk l).2]]) ∧ Below w.heap.size w w' := by
  have HC0 := checkJobs_any ((w.alloc (.cells #[.slice none 0 0, .slice none 0 0, .slice none 0 0, .bool false] 37)).alloc (.cells #[.int .i64 0, .int .i64 0] 31)) l v (hv.below (below_seq (below_new _ _) (below_new _ _)))
  generalize (chkLk l).1 = z1 at *
  generalize (chkLk l).2 = z2 at *
  have h0' : (z1 != 0) = true := by simpa using h0
  clear hv
  go_enter Try.func9, Try.ntmps9
  go_wp2_with (go_at_call 19; refine HC0.mono ?_; rintro r w1 ⟨rfl, hb1⟩; have H1 : Hid (Below ((w.alloc (.cells #[.slice none 0 0, .slice none 0 0, .slice none 0 0, .bool false] 37)).alloc (.cells #[.int .i64 0, .int .i64 0] 31)).heap.size ((w.alloc (.cells #[.slice none 0 0, .slice none 0 0, .slice none 0 0, .bool false] 37)).alloc (.cells #[.int .i64 0, .int .i64 0] 31)) w1) := hb1; clear hb1 HC0)
  obtain ⟨Wn, hWn⟩ : ∃ Wn, w1.alloc (.cells #[.int .i64 z1, .int .i64 z2] 31) = Wn := ⟨_, rfl⟩
  rw [hWn]
  have hs1 : w.heap.size + 2 ≤ w1.heap.size := by have := H1.out.size; simp at this; omega
  have q6 : Wn.heap[w.heap.size]? = some (.cells #[.slice none 0 0, .slice none 0 0, .slice none 0 0, .bool false] 37 (0, 0)) := by
    rw [← hWn, (below_new w1 _).block _ (by omega), H1.out.block _ (by simp <;> omega), (below_new _ _).block _ (by simp <;> omega)]
    exact heap_alloc_new w _
  have q7 : Wn.heap[w.heap.size + 1]? = some (.cells #[.int .i64 0, .int .i64 0] 31 (0, 0)) := by
    rw [← hWn, (below_new w1 _).block _ (by omega), H1.out.block _ (by simp <;> omega)]
    have := heap_alloc_new (w.alloc (.cells #[.slice none 0 0, .slice none 0 0, .slice none 0 0, .bool false] 37)) (.cells #[.int .i64 0, .int .i64 0] 31)
    simpa using this
  have q8 : Wn.heap[w1.heap.size]? = some (.cells #[.int .i64 z1, .int .i64 z2] 31 (0, 0)) := by rw [← hWn]; exact heap_alloc_new _ _
  have HQ : Hid (Below w.heap.size w Wn ∧ Wn.heap[w.heap.size]? = some (.cells #[.slice none 0 0, .slice none 0 0, .slice none 0 0, .bool false] 37 (0, 0)) ∧ Wn.heap[w.heap.size + 1]? = some (.cells #[.int .i64 0, .int .i64 0] 31 (0, 0))) := by
    refine ⟨?_, q6, q7⟩
    rw [← hWn]
    exact below_seq (below_seq (below_seq (below_new _ _) (below_new _ _)) H1.out) (below_new _ _)
  obtain ⟨xc, xf, xl⟩ := cells_of (l := [_, _, _, _]) q6
  obtain ⟨yc, yf, yl⟩ := cells_of (l := [_, _]) q7
  obtain ⟨zc, -, zl⟩ := cells_of (l := [_, _]) q8
  have x0' := xc 0 _ rfl
  have x1' := xc 1 _ rfl
  have x2' := xc 2 _ rfl
  have x3' := xc 3 _ rfl
  have y0' := yc 0 _ rfl
  have y1' := yc 1 _ rfl
  have z0' := zc 0 _ rfl
  have z1' := zc 1 _ rfl
  have xf0 := xf 0
  have xf1 := xf 1
  have xf2 := xf 2
  have xf3 := xf 3
  have yf0 := yf 0
  have yf1 := yf 1
  have n1 : ¬ (w1.heap.size = w.heap.size) := by omega
  have n2 : ¬ (w1.heap.size = w.heap.size + 1) := by omega
  clear hWn H1 xc xf yc yf zc q6 q7 q8
  refine wp_region_noPanic ?_
  refine wp_region_held_drew (S := fun w' => w'.cell? ⟨w1.heap.size, 0, none⟩ = some (.int .i64 z1) ∧ w'.cell? ⟨w1.heap.size, 1, none⟩ = some (.int .i64 z2)) (by kernel_rfl) (by refine ⟨?_, ?_⟩ <;> go_simp) (fun hHeld => ?_)
  refine take_at (i := 0) (n := 17) (v := ?_) rfl rfl (by kernel_rfl) (by kernel_rfl) (by kernel_rfl) (fun _ _ _ h => h) (Or.inl ⟨by rfl, ?_⟩) (by assumption) ?_
  rotate_left 1
  · intro wz hSw
    obtain ⟨s0, s1⟩ := hSw
    first | (go_simp; done) | (go_simp; with_reducible rfl)
  simp only [List.set_cons_zero, List.set_cons_succ]
  refine take_at (i := 1) (n := 18) (v := ?_) rfl rfl (by kernel_rfl) (by kernel_rfl) (by kernel_rfl) (fun _ _ _ h => h) (Or.inl ⟨by rfl, ?_⟩) (by assumption) ?_
  rotate_left 1
  · intro wz hSw
    obtain ⟨s0, s1⟩ := hSw
    first | (go_simp; done) | (go_simp; with_reducible rfl)
  simp only [List.set_cons_zero, List.set_cons_succ]
  refine wpAnyH_ready (rs := [2]) (by kernel_rfl) (by simp) ?_
  refine AllReadyH.cons rfl (fun K hK => ?_) AllReadyH.nil
  go_simp
  refine hK.out _ _ (by refine ⟨?_, ?_⟩ <;> go_simp) (fun hHeld => ?_)
  clear hK K
  refine wpAnyH_ready (rs := [3]) (by kernel_rfl) (by simp) ?_
  refine AllReadyH.cons rfl (fun K hK => ?_) AllReadyH.nil
  go_simp
  refine hK.out _ _ (by refine ⟨?_, ?_⟩ <;> go_simp) (fun hHeld => ?_)
  clear hK K
  refine wpAnyH_done (by kernel_rfl) ?_ _
  refine NoPanic.normal ?_
  go_wp2_with fail
  obtain ⟨s6, s7, sb⟩ := play_store2 (W5 := Wn) (s := w.heap.size) (.slice none 0 0) (.slice none 0 0) (.slice none 0 0) (.bool false) (.int .i64 z1) (.int .i64 z2) HQ.out.2.1 HQ.out.2.2
  refine bodyPost_ret (Play_endsD s6 s7 rfl rfl) rfl ?_
  exact ⟨rfl, (HQ.out.1.trans sb).drew⟩

set_option maxRecDepth 20000 in
set_option maxHeartbeats 2000000 in
theorem Play_range1 (w : World) (l : List Lj) (v : Value) (hv : LkSl w l v) (h0 : chkLk l = (0, 0)) (U : Int) (hU : within U 0 20000 = false) :
    Calls Try.prog 9 #[v, .int .i64 1, .int .i64 U] w fun r w' => r = .returned (.tuple #[.agg #[.slice none 0 0, .slice none 0 0, .slice none 0 0, .bool false], .agg #[.int .i64 3, .int .i64 0]]) ∧ Below w.heap.size w w' := by
  have HC0 := checkJobs_any ((w.alloc (.cells #[.slice none 0 0, .slice none 0 0, .slice none 0 0, .bool false] 37)).alloc (.cells #[.int .i64 0, .int .i64 0] 31)) l v (hv.below (below_seq (below_new _ _) (below_new _ _)))
  rw [h0] at HC0
  clear hv h0
  go_enter Try.func9, Try.ntmps9
  go_wp2_with (go_at_call 19; refine HC0.mono ?_; rintro r w1 ⟨rfl, hb1⟩; have H1 : Hid (Below ((w.alloc (.cells #[.slice none 0 0, .slice none 0 0, .slice none 0 0, .bool false] 37)).alloc (.cells #[.int .i64 0, .int .i64 0] 31)).heap.size ((w.alloc (.cells #[.slice none 0 0, .slice none 0 0, .slice none 0 0, .bool false] 37)).alloc (.cells #[.int .i64 0, .int .i64 0] 31)) w1) := hb1; clear hb1 HC0)
  obtain ⟨Wn, hWn⟩ : ∃ Wn, w1.alloc (.cells #[.int .i64 0, .int .i64 0] 31) = Wn := ⟨_, rfl⟩
  rw [hWn]
  have hs1 : w.heap.size + 2 ≤ w1.heap.size := by have := H1.out.size; simp at this; omega
  have q6 : Wn.heap[w.heap.size]? = some (.cells #[.slice none 0 0, .slice none 0 0, .slice none 0 0, .bool false] 37 (0, 0)) := by
    rw [← hWn, (below_new w1 _).block _ (by omega), H1.out.block _ (by simp <;> omega), (below_new _ _).block _ (by simp <;> omega)]
    exact heap_alloc_new w _
  have q7 : Wn.heap[w.heap.size + 1]? = some (.cells #[.int .i64 0, .int .i64 0] 31 (0, 0)) := by
    rw [← hWn, (below_new w1 _).block _ (by omega), H1.out.block _ (by simp <;> omega)]
    have := heap_alloc_new (w.alloc (.cells #[.slice none 0 0, .slice none 0 0, .slice none 0 0, .bool false] 37)) (.cells #[.int .i64 0, .int .i64 0] 31)
    simpa using this
  have q8 : Wn.heap[w1.heap.size]? = some (.cells #[.int .i64 0, .int .i64 0] 31 (0, 0)) := by rw [← hWn]; exact heap_alloc_new _ _
  have HQ : Hid (Below w.heap.size w Wn ∧ Wn.heap[w.heap.size]? = some (.cells #[.slice none 0 0, .slice none 0 0, .slice none 0 0, .bool false] 37 (0, 0)) ∧ Wn.heap[w.heap.size + 1]? = some (.cells #[.int .i64 0, .int .i64 0] 31 (0, 0))) := by
    refine ⟨?_, q6, q7⟩
    rw [← hWn]
    exact below_seq (below_seq (below_seq (below_new _ _) (below_new _ _)) H1.out) (below_new _ _)
  obtain ⟨xc, xf, xl⟩ := cells_of (l := [_, _, _, _]) q6
  obtain ⟨yc, yf, yl⟩ := cells_of (l := [_, _]) q7
  obtain ⟨zc, -, zl⟩ := cells_of (l := [_, _]) q8
  have x0' := xc 0 _ rfl
  have x1' := xc 1 _ rfl
  have x2' := xc 2 _ rfl
  have x3' := xc 3 _ rfl
  have y0' := yc 0 _ rfl
  have y1' := yc 1 _ rfl
  have z0' := zc 0 _ rfl
  have z1' := zc 1 _ rfl
  have xf0 := xf 0
  have xf1 := xf 1
  have xf2 := xf 2
  have xf3 := xf 3
  have yf0 := yf 0
  have yf1 := yf 1
  have n1 : ¬ (w1.heap.size = w.heap.size) := by omega
  have n2 : ¬ (w1.heap.size = w.heap.size + 1) := by omega
  clear hWn H1 xc xf yc yf zc q6 q7 q8
  go_wp2_with (go_at_call 20; refine (within_any _ _ _ _).mono ?_; rintro r w2 ⟨rfl, rfl⟩; rw [hU])
  obtain ⟨s6, s7, sb⟩ := play_store2 (W5 := w2) (s := w.heap.size) (.slice none 0 0) (.slice none 0 0) (.slice none 0 0) (.bool false) (.int .i64 3) (.int .i64 0) HQ.out.2.1 HQ.out.2.2
  refine bodyPost_ret (Play_ends s6 s7 rfl rfl) rfl ?_
  exact ⟨rfl, HQ.out.1.trans sb⟩
set_option maxRecDepth 20000 in
set_option maxHeartbeats 2000000 in
theorem Play_range2 (w : World) (l : List Lj) (v : Value) (hv : LkSl w l v) (h0 : chkLk l = (0, 0)) (U : Int) (hU : within U 0 20000 = false) :
    Calls Try.prog 9 #[v, .int .i64 2, .int .i64 U] w fun r w' => r = .returned (.tuple #[.agg #[.slice none 0 0, .slice none 0 0, .slice none 0 0, .bool false], .agg #[.int .i64 3, .int .i64 0]]) ∧ Below w.heap.size w w' := by
  have HC0 := checkJobs_any ((w.alloc (.cells #[.slice none 0 0, .slice none 0 0, .slice none 0 0, .bool false] 37)).alloc (.cells #[.int .i64 0, .int .i64 0] 31)) l v (hv.below (below_seq (below_new _ _) (below_new _ _)))
  rw [h0] at HC0
  clear hv h0
  go_enter Try.func9, Try.ntmps9
  go_wp2_with (go_at_call 19; refine HC0.mono ?_; rintro r w1 ⟨rfl, hb1⟩; have H1 : Hid (Below ((w.alloc (.cells #[.slice none 0 0, .slice none 0 0, .slice none 0 0, .bool false] 37)).alloc (.cells #[.int .i64 0, .int .i64 0] 31)).heap.size ((w.alloc (.cells #[.slice none 0 0, .slice none 0 0, .slice none 0 0, .bool false] 37)).alloc (.cells #[.int .i64 0, .int .i64 0] 31)) w1) := hb1; clear hb1 HC0)
  obtain ⟨Wn, hWn⟩ : ∃ Wn, w1.alloc (.cells #[.int .i64 0, .int .i64 0] 31) = Wn := ⟨_, rfl⟩
  rw [hWn]
  have hs1 : w.heap.size + 2 ≤ w1.heap.size := by have := H1.out.size; simp at this; omega
  have q6 : Wn.heap[w.heap.size]? = some (.cells #[.slice none 0 0, .slice none 0 0, .slice none 0 0, .bool false] 37 (0, 0)) := by
    rw [← hWn, (below_new w1 _).block _ (by omega), H1.out.block _ (by simp <;> omega), (below_new _ _).block _ (by simp <;> omega)]
    exact heap_alloc_new w _
  have q7 : Wn.heap[w.heap.size + 1]? = some (.cells #[.int .i64 0, .int .i64 0] 31 (0, 0)) := by
    rw [← hWn, (below_new w1 _).block _ (by omega), H1.out.block _ (by simp <;> omega)]
    have := heap_alloc_new (w.alloc (.cells #[.slice none 0 0, .slice none 0 0, .slice none 0 0, .bool false] 37)) (.cells #[.int .i64 0, .int .i64 0] 31)
    simpa using this
  have q8 : Wn.heap[w1.heap.size]? = some (.cells #[.int .i64 0, .int .i64 0] 31 (0, 0)) := by rw [← hWn]; exact heap_alloc_new _ _
  have HQ : Hid (Below w.heap.size w Wn ∧ Wn.heap[w.heap.size]? = some (.cells #[.slice none 0 0, .slice none 0 0, .slice none 0 0, .bool false] 37 (0, 0)) ∧ Wn.heap[w.heap.size + 1]? = some (.cells #[.int .i64 0, .int .i64 0] 31 (0, 0))) := by
    refine ⟨?_, q6, q7⟩
    rw [← hWn]
    exact below_seq (below_seq (below_seq (below_new _ _) (below_new _ _)) H1.out) (below_new _ _)
  obtain ⟨xc, xf, xl⟩ := cells_of (l := [_, _, _, _]) q6
  obtain ⟨yc, yf, yl⟩ := cells_of (l := [_, _]) q7
  obtain ⟨zc, -, zl⟩ := cells_of (l := [_, _]) q8
  have x0' := xc 0 _ rfl
  have x1' := xc 1 _ rfl
  have x2' := xc 2 _ rfl
  have x3' := xc 3 _ rfl
  have y0' := yc 0 _ rfl
  have y1' := yc 1 _ rfl
  have z0' := zc 0 _ rfl
  have z1' := zc 1 _ rfl
  have xf0 := xf 0
  have xf1 := xf 1
  have xf2 := xf 2
  have xf3 := xf 3
  have yf0 := yf 0
  have yf1 := yf 1
  have n1 : ¬ (w1.heap.size = w.heap.size) := by omega
  have n2 : ¬ (w1.heap.size = w.heap.size + 1) := by omega
  clear hWn H1 xc xf yc yf zc q6 q7 q8
  go_wp2_with (go_at_call 20; refine (within_any _ _ _ _).mono ?_; rintro r w2 ⟨rfl, rfl⟩; rw [hU])
  obtain ⟨s6, s7, sb⟩ := play_store2 (W5 := w2) (s := w.heap.size) (.slice none 0 0) (.slice none 0 0) (.slice none 0 0) (.bool false) (.int .i64 3) (.int .i64 0) HQ.out.2.1 HQ.out.2.2
  refine bodyPost_ret (Play_ends s6 s7 rfl rfl) rfl ?_
  exact ⟨rfl, HQ.out.1.trans sb⟩
set_option maxRecDepth 20000 in
set_option maxHeartbeats 2000000 in
theorem PlayDoc_bad (w : World) (l : List Lj) (v : Value) (hv : LkSl w l v) (h0 : (chkLk l).1 ≠ 0) (pr U : Int) :
    Calls Try.prog 8 #[v, .int .i64 pr, .int .i64 U] w fun r w' => r = .returned (.tuple #[.agg #[.slice none 0 0, .slice none 0 0, .slice none 0 0, .bool false], .agg #[.int .i64 (chkLk l).1, .int .i64 (chkLk l).2]]) ∧ Below w.heap.size w w' := by
  have HC0 := CheckLocked_any ((w.alloc (.cells #[.slice none 0 0, .slice none 0 0, .slice none 0 0, .bool false] 28)).alloc (.cells #[.int .i64 0, .int .i64 0] 31)) l v (hv.below (below_seq (below_new _ _) (below_new _ _)))
  generalize (chkLk l).1 = z1 at *
  generalize (chkLk l).2 = z2 at *
  have h0' : (z1 != 0) = true := by simpa using h0
  clear hv
  go_enter Try.func8, Try.ntmps8
  go_wp2_with (go_at_call 13; refine HC0.mono ?_; rintro r w1 ⟨rfl, hb1⟩; have H1 : Hid (Below ((w.alloc (.cells #[.slice none 0 0, .slice none 0 0, .slice none 0 0, .bool false] 28)).alloc (.cells #[.int .i64 0, .int .i64 0] 31)).heap.size ((w.alloc (.cells #[.slice none 0 0, .slice none 0 0, .slice none 0 0, .bool false] 28)).alloc (.cells #[.int .i64 0, .int .i64 0] 31)) w1) := hb1; clear hb1 HC0)
  obtain ⟨Wn, hWn⟩ : ∃ Wn, w1.alloc (.cells #[.int .i64 z1, .int .i64 z2] 31) = Wn := ⟨_, rfl⟩
  rw [hWn]
  have hs1 : w.heap.size + 2 ≤ w1.heap.size := by have := H1.out.size; simp at this; omega
  have q6 : Wn.heap[w.heap.size]? = some (.cells #[.slice none 0 0, .slice none 0 0, .slice none 0 0, .bool false] 28 (0, 0)) := by
    rw [← hWn, (below_new w1 _).block _ (by omega), H1.out.block _ (by simp <;> omega), (below_new _ _).block _ (by simp <;> omega)]
    exact heap_alloc_new w _
  have q7 : Wn.heap[w.heap.size + 1]? = some (.cells #[.int .i64 0, .int .i64 0] 31 (0, 0)) := by
    rw [← hWn, (below_new w1 _).block _ (by omega), H1.out.block _ (by simp <;> omega)]
    have := heap_alloc_new (w.alloc (.cells #[.slice none 0 0, .slice none 0 0, .slice none 0 0, .bool false] 28)) (.cells #[.int .i64 0, .int .i64 0] 31)
    simpa using this
  have q8 : Wn.heap[w1.heap.size]? = some (.cells #[.int .i64 z1, .int .i64 z2] 31 (0, 0)) := by rw [← hWn]; exact heap_alloc_new _ _
  have HQ : Hid (Below w.heap.size w Wn ∧ Wn.heap[w.heap.size]? = some (.cells #[.slice none 0 0, .slice none 0 0, .slice none 0 0, .bool false] 28 (0, 0)) ∧ Wn.heap[w.heap.size + 1]? = some (.cells #[.int .i64 0, .int .i64 0] 31 (0, 0))) := by
    refine ⟨?_, q6, q7⟩
    rw [← hWn]
    exact below_seq (below_seq (below_seq (below_new _ _) (below_new _ _)) H1.out) (below_new _ _)
  obtain ⟨xc, xf, xl⟩ := cells_of (l := [_, _, _, _]) q6
  obtain ⟨yc, yf, yl⟩ := cells_of (l := [_, _]) q7
  obtain ⟨zc, -, zl⟩ := cells_of (l := [_, _]) q8
  have x0' := xc 0 _ rfl
  have x1' := xc 1 _ rfl
  have x2' := xc 2 _ rfl
  have x3' := xc 3 _ rfl
  have y0' := yc 0 _ rfl
  have y1' := yc 1 _ rfl
  have z0' := zc 0 _ rfl
  have z1' := zc 1 _ rfl
  have xf0 := xf 0
  have xf1 := xf 1
  have xf2 := xf 2
  have xf3 := xf 3
  have yf0 := yf 0
  have yf1 := yf 1
  have n1 : ¬ (w1.heap.size = w.heap.size) := by omega
  have n2 : ¬ (w1.heap.size = w.heap.size + 1) := by omega
  clear hWn H1 xc xf yc yf zc q6 q7 q8
  refine wp_region_noPanic ?_
  refine wp_region_held_drew (S := fun w' => w'.cell? ⟨w1.heap.size, 0, none⟩ = some (.int .i64 z1) ∧ w'.cell? ⟨w1.heap.size, 1, none⟩ = some (.int .i64 z2)) (by kernel_rfl) (by refine ⟨?_, ?_⟩ <;> go_simp) (fun hHeld => ?_)
  refine take_at (i := 0) (n := 30) (v := ?_) rfl rfl (by kernel_rfl) (by kernel_rfl) (by kernel_rfl) (fun _ _ _ h => h) (Or.inl ⟨by rfl, ?_⟩) (by assumption) ?_
  rotate_left 1
  · intro wz hSw
    obtain ⟨s0, s1⟩ := hSw
    first | (go_simp; done) | (go_simp; with_reducible rfl)
  simp only [List.set_cons_zero, List.set_cons_succ]
  refine take_at (i := 1) (n := 31) (v := ?_) rfl rfl (by kernel_rfl) (by kernel_rfl) (by kernel_rfl) (fun _ _ _ h => h) (Or.inl ⟨by rfl, ?_⟩) (by assumption) ?_
  rotate_left 1
  · intro wz hSw
    obtain ⟨s0, s1⟩ := hSw
    first | (go_simp; done) | (go_simp; with_reducible rfl)
  simp only [List.set_cons_zero, List.set_cons_succ]
  refine wpAnyH_ready (rs := [2]) (by kernel_rfl) (by simp) ?_
  refine AllReadyH.cons rfl (fun K hK => ?_) AllReadyH.nil
  go_simp
  refine hK.out _ _ (by refine ⟨?_, ?_⟩ <;> go_simp) (fun hHeld => ?_)
  clear hK K
  refine wpAnyH_ready (rs := [3]) (by kernel_rfl) (by simp) ?_
  refine AllReadyH.cons rfl (fun K hK => ?_) AllReadyH.nil
  go_simp
  refine hK.out _ _ (by refine ⟨?_, ?_⟩ <;> go_simp) (fun hHeld => ?_)
  clear hK K
  refine wpAnyH_done (by kernel_rfl) ?_ _
  refine NoPanic.normal ?_
  go_wp2_with fail
  obtain ⟨s6, s7, -, sb⟩ := doc_store (W5 := Wn) (s := w.heap.size) (.slice none 0 0) (.slice none 0 0) (.slice none 0 0) (.bool false) (.int .i64 z1) (.int .i64 z2) HQ.out.2.1 HQ.out.2.2
  refine bodyPost_ret (PlayDoc_endsD s6 s7 rfl rfl) rfl ?_
  exact ⟨rfl, (HQ.out.1.trans sb).drew⟩

set_option maxRecDepth 20000 in
set_option maxHeartbeats 2000000 in
theorem PlayDoc_proto1 (w : World) (l : List Lj) (v : Value) (hv : LkSl w l v) (h0 : chkLk l = (0, 0)) (pr : Int) (hp : pr < 1) (U : Int) :
    Calls Try.prog 8 #[v, .int .i64 pr, .int .i64 U] w fun r w' => r = .returned (.tuple #[.agg #[.slice none 0 0, .slice none 0 0, .slice none 0 0, .bool false], .agg #[.int .i64 6, .int .i64 0]]) ∧ Below w.heap.size w w' := by
  have HC0 := CheckLocked_any ((w.alloc (.cells #[.slice none 0 0, .slice none 0 0, .slice none 0 0, .bool false] 28)).alloc (.cells #[.int .i64 0, .int .i64 0] 31)) l v (hv.below (below_seq (below_new _ _) (below_new _ _)))
  rw [h0] at HC0
  clear hv h0
  go_enter Try.func8, Try.ntmps8
  go_wp2_with (go_at_call 13; refine HC0.mono ?_; rintro r w1 ⟨rfl, hb1⟩; have H1 : Hid (Below ((w.alloc (.cells #[.slice none 0 0, .slice none 0 0, .slice none 0 0, .bool false] 28)).alloc (.cells #[.int .i64 0, .int .i64 0] 31)).heap.size ((w.alloc (.cells #[.slice none 0 0, .slice none 0 0, .slice none 0 0, .bool false] 28)).alloc (.cells #[.int .i64 0, .int .i64 0] 31)) w1) := hb1; clear hb1 HC0)
  obtain ⟨Wn, hWn⟩ : ∃ Wn, w1.alloc (.cells #[.int .i64 0, .int .i64 0] 31) = Wn := ⟨_, rfl⟩
  rw [hWn]
  have hs1 : w.heap.size + 2 ≤ w1.heap.size := by have := H1.out.size; simp at this; omega
  have q6 : Wn.heap[w.heap.size]? = some (.cells #[.slice none 0 0, .slice none 0 0, .slice none 0 0, .bool false] 28 (0, 0)) := by
    rw [← hWn, (below_new w1 _).block _ (by omega), H1.out.block _ (by simp <;> omega), (below_new _ _).block _ (by simp <;> omega)]
    exact heap_alloc_new w _
  have q7 : Wn.heap[w.heap.size + 1]? = some (.cells #[.int .i64 0, .int .i64 0] 31 (0, 0)) := by
    rw [← hWn, (below_new w1 _).block _ (by omega), H1.out.block _ (by simp <;> omega)]
    have := heap_alloc_new (w.alloc (.cells #[.slice none 0 0, .slice none 0 0, .slice none 0 0, .bool false] 28)) (.cells #[.int .i64 0, .int .i64 0] 31)
    simpa using this
  have q8 : Wn.heap[w1.heap.size]? = some (.cells #[.int .i64 0, .int .i64 0] 31 (0, 0)) := by rw [← hWn]; exact heap_alloc_new _ _
  have HQ : Hid (Below w.heap.size w Wn ∧ Wn.heap[w.heap.size]? = some (.cells #[.slice none 0 0, .slice none 0 0, .slice none 0 0, .bool false] 28 (0, 0)) ∧ Wn.heap[w.heap.size + 1]? = some (.cells #[.int .i64 0, .int .i64 0] 31 (0, 0))) := by
    refine ⟨?_, q6, q7⟩
    rw [← hWn]
    exact below_seq (below_seq (below_seq (below_new _ _) (below_new _ _)) H1.out) (below_new _ _)
  obtain ⟨xc, xf, xl⟩ := cells_of (l := [_, _, _, _]) q6
  obtain ⟨yc, yf, yl⟩ := cells_of (l := [_, _]) q7
  obtain ⟨zc, -, zl⟩ := cells_of (l := [_, _]) q8
  have x0' := xc 0 _ rfl
  have x1' := xc 1 _ rfl
  have x2' := xc 2 _ rfl
  have x3' := xc 3 _ rfl
  have y0' := yc 0 _ rfl
  have y1' := yc 1 _ rfl
  have z0' := zc 0 _ rfl
  have z1' := zc 1 _ rfl
  have xf0 := xf 0
  have xf1 := xf 1
  have xf2 := xf 2
  have xf3 := xf 3
  have yf0 := yf 0
  have yf1 := yf 1
  have n1 : ¬ (w1.heap.size = w.heap.size) := by omega
  have n2 : ¬ (w1.heap.size = w.heap.size + 1) := by omega
  clear hWn H1 xc xf yc yf zc q6 q7 q8
  go_wp2_with (go_at_call 16; refine (F_any _ _ _).mono ?_; rintro r w2 ⟨rfl, hb2⟩; have H2 : Hid (Below w.heap.size w w2 ∧ w2.heap[w.heap.size]? = some (.cells #[.slice none 0 0, .slice none 0 0, .slice none 0 0, .bool false] 28 (0, 0)) ∧ w2.heap[w.heap.size + 1]? = some (.cells #[.int .i64 0, .int .i64 0] 31 (0, 0))) := ⟨below_seq HQ.out.1 hb2, (hb2.block _ (heap_lt HQ.out.2.1)).trans HQ.out.2.1, (hb2.block _ (heap_lt HQ.out.2.2)).trans HQ.out.2.2⟩; clear x0' x1' x2' x3' y0' y1' xf0 xf1 xf2 xf3 yf0 yf1 xl yl; obtain ⟨xc, xf, xl⟩ := cells_of (l := [_, _, _, _]) H2.out.2.1; obtain ⟨yc, yf, yl⟩ := cells_of (l := [_, _]) H2.out.2.2; have x0' := xc 0 _ rfl; have x1' := xc 1 _ rfl; have x2' := xc 2 _ rfl; have x3' := xc 3 _ rfl; have y0' := yc 0 _ rfl; have y1' := yc 1 _ rfl; have xf0 := xf 0; have xf1 := xf 1; have xf2 := xf 2; have xf3 := xf 3; have yf0 := yf 0; have yf1 := yf 1; clear xc xf yc yf hb2)
  obtain ⟨s6, s7, -, sb⟩ := doc_store (W5 := w2) (s := w.heap.size) (.slice none 0 0) (.slice none 0 0) (.slice none 0 0) (.bool false) (.int .i64 6) (.int .i64 0) H2.out.2.1 H2.out.2.2
  refine bodyPost_ret (PlayDoc_ends s6 s7 rfl rfl) rfl ?_
  exact ⟨rfl, H2.out.1.trans sb⟩
set_option maxRecDepth 20000 in
set_option maxHeartbeats 2000000 in
theorem PlayDoc_proto2 (w : World) (l : List Lj) (v : Value) (hv : LkSl w l v) (h0 : chkLk l = (0, 0)) (pr : Int) (hp1 : ¬ (pr < 1)) (hp : 3 < pr) (U : Int) :
    Calls Try.prog 8 #[v, .int .i64 pr, .int .i64 U] w fun r w' => r = .returned (.tuple #[.agg #[.slice none 0 0, .slice none 0 0, .slice none 0 0, .bool false], .agg #[.int .i64 6, .int .i64 0]]) ∧ Below w.heap.size w w' := by
  have HC0 := CheckLocked_any ((w.alloc (.cells #[.slice none 0 0, .slice none 0 0, .slice none 0 0, .bool false] 28)).alloc (.cells #[.int .i64 0, .int .i64 0] 31)) l v (hv.below (below_seq (below_new _ _) (below_new _ _)))
  rw [h0] at HC0
  clear hv h0
  go_enter Try.func8, Try.ntmps8
  go_wp2_with (go_at_call 13; refine HC0.mono ?_; rintro r w1 ⟨rfl, hb1⟩; have H1 : Hid (Below ((w.alloc (.cells #[.slice none 0 0, .slice none 0 0, .slice none 0 0, .bool false] 28)).alloc (.cells #[.int .i64 0, .int .i64 0] 31)).heap.size ((w.alloc (.cells #[.slice none 0 0, .slice none 0 0, .slice none 0 0, .bool false] 28)).alloc (.cells #[.int .i64 0, .int .i64 0] 31)) w1) := hb1; clear hb1 HC0)
  obtain ⟨Wn, hWn⟩ : ∃ Wn, w1.alloc (.cells #[.int .i64 0, .int .i64 0] 31) = Wn := ⟨_, rfl⟩
  rw [hWn]
  have hs1 : w.heap.size + 2 ≤ w1.heap.size := by have := H1.out.size; simp at this; omega
  have q6 : Wn.heap[w.heap.size]? = some (.cells #[.slice none 0 0, .slice none 0 0, .slice none 0 0, .bool false] 28 (0, 0)) := by
    rw [← hWn, (below_new w1 _).block _ (by omega), H1.out.block _ (by simp <;> omega), (below_new _ _).block _ (by simp <;> omega)]
    exact heap_alloc_new w _
  have q7 : Wn.heap[w.heap.size + 1]? = some (.cells #[.int .i64 0, .int .i64 0] 31 (0, 0)) := by
    rw [← hWn, (below_new w1 _).block _ (by omega), H1.out.block _ (by simp <;> omega)]
    have := heap_alloc_new (w.alloc (.cells #[.slice none 0 0, .slice none 0 0, .slice none 0 0, .bool false] 28)) (.cells #[.int .i64 0, .int .i64 0] 31)
    simpa using this
  have q8 : Wn.heap[w1.heap.size]? = some (.cells #[.int .i64 0, .int .i64 0] 31 (0, 0)) := by rw [← hWn]; exact heap_alloc_new _ _
  have HQ : Hid (Below w.heap.size w Wn ∧ Wn.heap[w.heap.size]? = some (.cells #[.slice none 0 0, .slice none 0 0, .slice none 0 0, .bool false] 28 (0, 0)) ∧ Wn.heap[w.heap.size + 1]? = some (.cells #[.int .i64 0, .int .i64 0] 31 (0, 0))) := by
    refine ⟨?_, q6, q7⟩
    rw [← hWn]
    exact below_seq (below_seq (below_seq (below_new _ _) (below_new _ _)) H1.out) (below_new _ _)
  obtain ⟨xc, xf, xl⟩ := cells_of (l := [_, _, _, _]) q6
  obtain ⟨yc, yf, yl⟩ := cells_of (l := [_, _]) q7
  obtain ⟨zc, -, zl⟩ := cells_of (l := [_, _]) q8
  have x0' := xc 0 _ rfl
  have x1' := xc 1 _ rfl
  have x2' := xc 2 _ rfl
  have x3' := xc 3 _ rfl
  have y0' := yc 0 _ rfl
  have y1' := yc 1 _ rfl
  have z0' := zc 0 _ rfl
  have z1' := zc 1 _ rfl
  have xf0 := xf 0
  have xf1 := xf 1
  have xf2 := xf 2
  have xf3 := xf 3
  have yf0 := yf 0
  have yf1 := yf 1
  have n1 : ¬ (w1.heap.size = w.heap.size) := by omega
  have n2 : ¬ (w1.heap.size = w.heap.size + 1) := by omega
  clear hWn H1 xc xf yc yf zc q6 q7 q8
  go_wp2_with (go_at_call 16; refine (F_any _ _ _).mono ?_; rintro r w2 ⟨rfl, hb2⟩; have H2 : Hid (Below w.heap.size w w2 ∧ w2.heap[w.heap.size]? = some (.cells #[.slice none 0 0, .slice none 0 0, .slice none 0 0, .bool false] 28 (0, 0)) ∧ w2.heap[w.heap.size + 1]? = some (.cells #[.int .i64 0, .int .i64 0] 31 (0, 0))) := ⟨below_seq HQ.out.1 hb2, (hb2.block _ (heap_lt HQ.out.2.1)).trans HQ.out.2.1, (hb2.block _ (heap_lt HQ.out.2.2)).trans HQ.out.2.2⟩; clear x0' x1' x2' x3' y0' y1' xf0 xf1 xf2 xf3 yf0 yf1 xl yl; obtain ⟨xc, xf, xl⟩ := cells_of (l := [_, _, _, _]) H2.out.2.1; obtain ⟨yc, yf, yl⟩ := cells_of (l := [_, _]) H2.out.2.2; have x0' := xc 0 _ rfl; have x1' := xc 1 _ rfl; have x2' := xc 2 _ rfl; have x3' := xc 3 _ rfl; have y0' := yc 0 _ rfl; have y1' := yc 1 _ rfl; have xf0 := xf 0; have xf1 := xf 1; have xf2 := xf 2; have xf3 := xf 3; have yf0 := yf 0; have yf1 := yf 1; clear xc xf yc yf hb2)
  obtain ⟨s6, s7, -, sb⟩ := doc_store (W5 := w2) (s := w.heap.size) (.slice none 0 0) (.slice none 0 0) (.slice none 0 0) (.bool false) (.int .i64 6) (.int .i64 0) H2.out.2.1 H2.out.2.2
  refine bodyPost_ret (PlayDoc_ends s6 s7 rfl rfl) rfl ?_
  exact ⟨rfl, H2.out.1.trans sb⟩
set_option maxRecDepth 20000 in
set_option maxHeartbeats 2000000 in
theorem PlayDoc_range1 (w : World) (l : List Lj) (v : Value) (hv : LkSl w l v) (h0 : chkLk l = (0, 0)) (pr : Int) (hp : pr = 1 ∨ pr = 2 ∨ pr = 3) (U : Int) (hU : U < 0) :
    Calls Try.prog 8 #[v, .int .i64 pr, .int .i64 U] w fun r w' => r = .returned (.tuple #[.agg #[.slice none 0 0, .slice none 0 0, .slice none 0 0, .bool false], .agg #[.int .i64 3, .int .i64 0]]) ∧ Below w.heap.size w w' := by
  have HC0 := CheckLocked_any ((w.alloc (.cells #[.slice none 0 0, .slice none 0 0, .slice none 0 0, .bool false] 28)).alloc (.cells #[.int .i64 0, .int .i64 0] 31)) l v (hv.below (below_seq (below_new _ _) (below_new _ _)))
  rw [h0] at HC0
  clear hv h0
  have hp1 : ¬ (pr < 1) := by omega
  have hp3 : ¬ (3 < pr) := by omega
  go_enter Try.func8, Try.ntmps8
  go_wp2_with (go_at_call 13; refine HC0.mono ?_; rintro r w1 ⟨rfl, hb1⟩; have H1 : Hid (Below ((w.alloc (.cells #[.slice none 0 0, .slice none 0 0, .slice none 0 0, .bool false] 28)).alloc (.cells #[.int .i64 0, .int .i64 0] 31)).heap.size ((w.alloc (.cells #[.slice none 0 0, .slice none 0 0, .slice none 0 0, .bool false] 28)).alloc (.cells #[.int .i64 0, .int .i64 0] 31)) w1) := hb1; clear hb1 HC0)
  obtain ⟨Wn, hWn⟩ : ∃ Wn, w1.alloc (.cells #[.int .i64 0, .int .i64 0] 31) = Wn := ⟨_, rfl⟩
  rw [hWn]
  have hs1 : w.heap.size + 2 ≤ w1.heap.size := by have := H1.out.size; simp at this; omega
  have q6 : Wn.heap[w.heap.size]? = some (.cells #[.slice none 0 0, .slice none 0 0, .slice none 0 0, .bool false] 28 (0, 0)) := by
    rw [← hWn, (below_new w1 _).block _ (by omega), H1.out.block _ (by simp <;> omega), (below_new _ _).block _ (by simp <;> omega)]
    exact heap_alloc_new w _
  have q7 : Wn.heap[w.heap.size + 1]? = some (.cells #[.int .i64 0, .int .i64 0] 31 (0, 0)) := by
    rw [← hWn, (below_new w1 _).block _ (by omega), H1.out.block _ (by simp <;> omega)]
    have := heap_alloc_new (w.alloc (.cells #[.slice none 0 0, .slice none 0 0, .slice none 0 0, .bool false] 28)) (.cells #[.int .i64 0, .int .i64 0] 31)
    simpa using this
  have q8 : Wn.heap[w1.heap.size]? = some (.cells #[.int .i64 0, .int .i64 0] 31 (0, 0)) := by rw [← hWn]; exact heap_alloc_new _ _
  have HQ : Hid (Below w.heap.size w Wn ∧ Wn.heap[w.heap.size]? = some (.cells #[.slice none 0 0, .slice none 0 0, .slice none 0 0, .bool false] 28 (0, 0)) ∧ Wn.heap[w.heap.size + 1]? = some (.cells #[.int .i64 0, .int .i64 0] 31 (0, 0))) := by
    refine ⟨?_, q6, q7⟩
    rw [← hWn]
    exact below_seq (below_seq (below_seq (below_new _ _) (below_new _ _)) H1.out) (below_new _ _)
  obtain ⟨xc, xf, xl⟩ := cells_of (l := [_, _, _, _]) q6
  obtain ⟨yc, yf, yl⟩ := cells_of (l := [_, _]) q7
  obtain ⟨zc, -, zl⟩ := cells_of (l := [_, _]) q8
  have x0' := xc 0 _ rfl
  have x1' := xc 1 _ rfl
  have x2' := xc 2 _ rfl
  have x3' := xc 3 _ rfl
  have y0' := yc 0 _ rfl
  have y1' := yc 1 _ rfl
  have z0' := zc 0 _ rfl
  have z1' := zc 1 _ rfl
  have xf0 := xf 0
  have xf1 := xf 1
  have xf2 := xf 2
  have xf3 := xf 3
  have yf0 := yf 0
  have yf1 := yf 1
  have n1 : ¬ (w1.heap.size = w.heap.size) := by omega
  have n2 : ¬ (w1.heap.size = w.heap.size + 1) := by omega
  clear hWn H1 xc xf yc yf zc q6 q7 q8
  go_wp2_with (go_at_call 16; refine (F_any _ _ _).mono ?_; rintro r w2 ⟨rfl, hb2⟩; have H2 : Hid (Below w.heap.size w w2 ∧ w2.heap[w.heap.size]? = some (.cells #[.slice none 0 0, .slice none 0 0, .slice none 0 0, .bool false] 28 (0, 0)) ∧ w2.heap[w.heap.size + 1]? = some (.cells #[.int .i64 0, .int .i64 0] 31 (0, 0))) := ⟨below_seq HQ.out.1 hb2, (hb2.block _ (heap_lt HQ.out.2.1)).trans HQ.out.2.1, (hb2.block _ (heap_lt HQ.out.2.2)).trans HQ.out.2.2⟩; clear x0' x1' x2' x3' y0' y1' xf0 xf1 xf2 xf3 yf0 yf1 xl yl; obtain ⟨xc, xf, xl⟩ := cells_of (l := [_, _, _, _]) H2.out.2.1; obtain ⟨yc, yf, yl⟩ := cells_of (l := [_, _]) H2.out.2.2; have x0' := xc 0 _ rfl; have x1' := xc 1 _ rfl; have x2' := xc 2 _ rfl; have x3' := xc 3 _ rfl; have y0' := yc 0 _ rfl; have y1' := yc 1 _ rfl; have xf0 := xf 0; have xf1 := xf 1; have xf2 := xf 2; have xf3 := xf 3; have yf0 := yf 0; have yf1 := yf 1; clear xc xf yc yf hb2)
  obtain ⟨s6, s7, -, sb⟩ := doc_store (W5 := w2) (s := w.heap.size) (.slice none 0 0) (.slice none 0 0) (.slice none 0 0) (.bool false) (.int .i64 3) (.int .i64 0) H2.out.2.1 H2.out.2.2
  refine bodyPost_ret (PlayDoc_ends s6 s7 rfl rfl) rfl ?_
  exact ⟨rfl, H2.out.1.trans sb⟩
set_option maxRecDepth 20000 in
set_option maxHeartbeats 2000000 in
theorem PlayDoc_range2 (w : World) (l : List Lj) (v : Value) (hv : LkSl w l v) (h0 : chkLk l = (0, 0)) (pr : Int) (hp : pr = 1 ∨ pr = 2 ∨ pr = 3) (U : Int) (hU0 : ¬ (U < 0)) (hU : 20000 < U) :
    Calls Try.prog 8 #[v, .int .i64 pr, .int .i64 U] w fun r w' => r = .returned (.tuple #[.agg #[.slice none 0 0, .slice none 0 0, .slice none 0 0, .bool false], .agg #[.int .i64 3, .int .i64 0]]) ∧ Below w.heap.size w w' := by
  have HC0 := CheckLocked_any ((w.alloc (.cells #[.slice none 0 0, .slice none 0 0, .slice none 0 0, .bool false] 28)).alloc (.cells #[.int .i64 0, .int .i64 0] 31)) l v (hv.below (below_seq (below_new _ _) (below_new _ _)))
  rw [h0] at HC0
  clear hv h0
  have hp1 : ¬ (pr < 1) := by omega
  have hp3 : ¬ (3 < pr) := by omega
  go_enter Try.func8, Try.ntmps8
  go_wp2_with (go_at_call 13; refine HC0.mono ?_; rintro r w1 ⟨rfl, hb1⟩; have H1 : Hid (Below ((w.alloc (.cells #[.slice none 0 0, .slice none 0 0, .slice none 0 0, .bool false] 28)).alloc (.cells #[.int .i64 0, .int .i64 0] 31)).heap.size ((w.alloc (.cells #[.slice none 0 0, .slice none 0 0, .slice none 0 0, .bool false] 28)).alloc (.cells #[.int .i64 0, .int .i64 0] 31)) w1) := hb1; clear hb1 HC0)
  obtain ⟨Wn, hWn⟩ : ∃ Wn, w1.alloc (.cells #[.int .i64 0, .int .i64 0] 31) = Wn := ⟨_, rfl⟩
  rw [hWn]
  have hs1 : w.heap.size + 2 ≤ w1.heap.size := by have := H1.out.size; simp at this; omega
  have q6 : Wn.heap[w.heap.size]? = some (.cells #[.slice none 0 0, .slice none 0 0, .slice none 0 0, .bool false] 28 (0, 0)) := by
    rw [← hWn, (below_new w1 _).block _ (by omega), H1.out.block _ (by simp <;> omega), (below_new _ _).block _ (by simp <;> omega)]
    exact heap_alloc_new w _
  have q7 : Wn.heap[w.heap.size + 1]? = some (.cells #[.int .i64 0, .int .i64 0] 31 (0, 0)) := by
    rw [← hWn, (below_new w1 _).block _ (by omega), H1.out.block _ (by simp <;> omega)]
    have := heap_alloc_new (w.alloc (.cells #[.slice none 0 0, .slice none 0 0, .slice none 0 0, .bool false] 28)) (.cells #[.int .i64 0, .int .i64 0] 31)
    simpa using this
  have q8 : Wn.heap[w1.heap.size]? = some (.cells #[.int .i64 0, .int .i64 0] 31 (0, 0)) := by rw [← hWn]; exact heap_alloc_new _ _
  have HQ : Hid (Below w.heap.size w Wn ∧ Wn.heap[w.heap.size]? = some (.cells #[.slice none 0 0, .slice none 0 0, .slice none 0 0, .bool false] 28 (0, 0)) ∧ Wn.heap[w.heap.size + 1]? = some (.cells #[.int .i64 0, .int .i64 0] 31 (0, 0))) := by
    refine ⟨?_, q6, q7⟩
    rw [← hWn]
    exact below_seq (below_seq (below_seq (below_new _ _) (below_new _ _)) H1.out) (below_new _ _)
  obtain ⟨xc, xf, xl⟩ := cells_of (l := [_, _, _, _]) q6
  obtain ⟨yc, yf, yl⟩ := cells_of (l := [_, _]) q7
  obtain ⟨zc, -, zl⟩ := cells_of (l := [_, _]) q8
  have x0' := xc 0 _ rfl
  have x1' := xc 1 _ rfl
  have x2' := xc 2 _ rfl
  have x3' := xc 3 _ rfl
  have y0' := yc 0 _ rfl
  have y1' := yc 1 _ rfl
  have z0' := zc 0 _ rfl
  have z1' := zc 1 _ rfl
  have xf0 := xf 0
  have xf1 := xf 1
  have xf2 := xf 2
  have xf3 := xf 3
  have yf0 := yf 0
  have yf1 := yf 1
  have n1 : ¬ (w1.heap.size = w.heap.size) := by omega
  have n2 : ¬ (w1.heap.size = w.heap.size + 1) := by omega
  clear hWn H1 xc xf yc yf zc q6 q7 q8
  go_wp2_with (go_at_call 16; refine (F_any _ _ _).mono ?_; rintro r w2 ⟨rfl, hb2⟩; have H2 : Hid (Below w.heap.size w w2 ∧ w2.heap[w.heap.size]? = some (.cells #[.slice none 0 0, .slice none 0 0, .slice none 0 0, .bool false] 28 (0, 0)) ∧ w2.heap[w.heap.size + 1]? = some (.cells #[.int .i64 0, .int .i64 0] 31 (0, 0))) := ⟨below_seq HQ.out.1 hb2, (hb2.block _ (heap_lt HQ.out.2.1)).trans HQ.out.2.1, (hb2.block _ (heap_lt HQ.out.2.2)).trans HQ.out.2.2⟩; clear x0' x1' x2' x3' y0' y1' xf0 xf1 xf2 xf3 yf0 yf1 xl yl; obtain ⟨xc, xf, xl⟩ := cells_of (l := [_, _, _, _]) H2.out.2.1; obtain ⟨yc, yf, yl⟩ := cells_of (l := [_, _]) H2.out.2.2; have x0' := xc 0 _ rfl; have x1' := xc 1 _ rfl; have x2' := xc 2 _ rfl; have x3' := xc 3 _ rfl; have y0' := yc 0 _ rfl; have y1' := yc 1 _ rfl; have xf0 := xf 0; have xf1 := xf 1; have xf2 := xf 2; have xf3 := xf 3; have yf0 := yf 0; have yf1 := yf 1; clear xc xf yc yf hb2)
  obtain ⟨s6, s7, -, sb⟩ := doc_store (W5 := w2) (s := w.heap.size) (.slice none 0 0) (.slice none 0 0) (.slice none 0 0) (.bool false) (.int .i64 3) (.int .i64 0) H2.out.2.1 H2.out.2.2
  refine bodyPost_ret (PlayDoc_ends s6 s7 rfl rfl) rfl ?_
  exact ⟨rfl, H2.out.1.trans sb⟩
end Go.Proofs.Ytcmoehednkaehah
