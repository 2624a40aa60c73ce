import Derived.Test.YtccoobcggbbciamHA0
import Derived.Test.YtccoobcggbbciamTK
import Derived.Deep.RegionHeld3
import Derived.Deep.CutRange
namespace Go.Proofs.Ytccoobcggbbciam
open Go.ChangeShapes Go.WideShapes Go.ChangeAt Go.RowKit

set_option maxRecDepth 20000 in
set_option maxHeartbeats 8000000 in
theorem wrongC_any (w : World) (x : Pa) (ahead : List Pa) (v : Value) (hl : ahead.length ≤ 8) (hv : RowSl Pa.vals w ahead v) : Calls Try.prog 23 #[x.val, v] w fun r w' => r = .returned (.int .i64 (wrongP x ahead)) ∧ Below w.heap.size w w' := by
  have HM := mayC_any (w.alloc (.cells x.vals.toArray 35)) x
  have HBe := fun W => begins_any W x
  obtain ⟨ad, cc, rfl⟩ := hv.len
  have HV : Hid (RowSl Pa.vals w ahead (.slice ad ahead.length cc)) := hv
  have H1 := below_new w (.cells x.vals.toArray 35)
  obtain ⟨mm, hmm⟩ : ∃ mm, mayP x = mm := ⟨_, rfl⟩
  have HMM : Hid (mayP x = mm) := hmm
  rw [hmm] at HM
  obtain ⟨rs, hrs⟩ : ∃ rs, wrongP x ahead = rs := ⟨_, rfl⟩
  rw [hrs]
  have HRS : Hid (wrongP x ahead = rs) := hrs
  clear hrs hmm hv
  obtain ⟨co, fr, se, c, t, d, p⟩ := x
  unfold Pa.val Pa.vals at HM
  unfold Pa.val at HBe ⊢
  unfold Pa.vals at H1
  dsimp only at HM HBe H1 ⊢
  have hsb : IntKind.i64.wrap ((ahead.length : Int) - 1) = (ahead.length : Int) - 1 := by rw [IntKind.wrap_i64]; omega
  cases mm with
  | false =>
    have h9 : rs = 3 := by rw [← HRS.out]; unfold wrongP; rw [if_pos HMM.out]
    subst h9
    go_enter Try.func23, Try.ntmps23
    go_wp2_with (go_at_call 40; refine HM.mono ?_; rintro r w2 ⟨rfl, hb2⟩; have H2 : Hid (Below w.heap.size w w2) := below_seq H1 hb2; clear hb2 HM)
    go_ret
    exact ⟨rfl, H2.out⟩
  | true =>
    have hd0 : ¬ mayP ⟨co, fr, se, c, t, d, p⟩ = false := by rw [HMM.out]; simp
    rcases h1 : within fr (-1) ((ahead.length : Int) - 1) with _ | _
    · have h9 : rs = 4 := by rw [← HRS.out]; unfold wrongP; rw [if_neg hd0, if_pos (.inl h1)]
      subst h9
      go_enter Try.func23, Try.ntmps23
      go_wp2_with (first
        | (go_at_call 40; refine HM.mono ?_; rintro r w2 ⟨rfl, hb2⟩; have H2 : Hid (Below w.heap.size w w2 ∧ w2.heap[w.heap.size]? = some (.cells #[.int .i64 co, .int .i64 fr, .int .i64 se, .int .i64 c, .int .i64 t, .int .i64 d, .int .i64 p] 35 (0, 0))) := ⟨below_seq H1 hb2, (hb2.block _ (by simp)).trans (heap_alloc_new _ _)⟩; clear hb2 HM; obtain ⟨ys, -, yl⟩ := cells_of (l := [_, _, _, _, _, _, _]) H2.out.2; have y1 := ys 1 _ rfl; clear ys)
        | (go_at_call 22; refine (withinC_any _ _ _ _).mono ?_; rintro r w3 ⟨rfl, hw3⟩; have hw4 := hw3.symm; subst hw4; clear hw3; rw [h1]))
      go_ret
      exact ⟨rfl, H2.out.1⟩
    have hw1 : -1 ≤ fr ∧ fr ≤ (ahead.length : Int) - 1 := by
      unfold within at h1
      simpa using h1
    by_cases hb : fr = -1
    · subst hb
      by_cases hs : se = 0
      · subst hs
        have hd1 : ¬ (within (-1) (-1) ((ahead.length : Int) - 1) = false ∨ ((-1 : Int) = -1 ∧ (0 : Int) ≠ 0)) := by rw [h1]; simp
        have hrs : rs = if within d c t = false then 12 else 0 := by
          rw [← HRS.out]
          unfold wrongP
          rw [if_neg hd0, if_neg hd1]
          simp
        rcases h3 : within d c t with _ | _
        · rw [h3] at hrs
          have h9 : rs = 12 := hrs
          subst h9
          clear hrs
          go_enter Try.func23, Try.ntmps23
          go_upto_region 5 with (first
            | (go_at_call 40; refine HM.mono ?_; rintro r w2 ⟨rfl, hb2⟩; have H2 : Hid (Below w.heap.size w w2 ∧ w2.heap[w.heap.size]? = some (.cells #[.int .i64 co, .int .i64 (-1), .int .i64 0, .int .i64 c, .int .i64 t, .int .i64 d, .int .i64 p] 35 (0, 0))) := ⟨below_seq H1 hb2, (hb2.block _ (by simp)).trans (heap_alloc_new _ _)⟩; clear hb2 HM; obtain ⟨ys, -, yl⟩ := cells_of (l := [_, _, _, _, _, _, _]) H2.out.2; have y0 := ys 0 _ rfl; have y1 := ys 1 _ rfl; have y2 := ys 2 _ rfl; have y3 := ys 3 _ rfl; have y4 := ys 4 _ rfl; have y5 := ys 5 _ rfl; have y6 := ys 6 _ rfl; clear ys)
            | (go_at_call 22; refine (withinC_any _ _ _ _).mono ?_; rintro r w3 ⟨rfl, hw3⟩; have hw4 := hw3.symm; subst hw4; clear hw3; rw [h1])
            | (go_at_call 25; refine (HBe _).mono ?_; rintro r w3 ⟨rfl, hb3⟩; have H3 : Hid (Below w.heap.size w w3 ∧ w3.heap[w.heap.size]? = some (.cells #[.int .i64 co, .int .i64 (-1), .int .i64 0, .int .i64 c, .int .i64 t, .int .i64 d, .int .i64 p] 35 (0, 0))) := ⟨below_seq H2.out.1 hb3, (hb3.block _ yl).trans H2.out.2⟩; clear hb3 y0 y1 y2 y3 y4 y5 y6 yl H2; obtain ⟨xs, -, xl⟩ := cells_of (l := [_, _, _, _, _, _, _]) H3.out.2; have x0 := xs 0 _ rfl; have x1 := xs 1 _ rfl; have x2 := xs 2 _ rfl; have x3 := xs 3 _ rfl; have x4 := xs 4 _ rfl; have x5 := xs 5 _ rfl; have x6 := xs 6 _ rfl; clear xs))
          refine wp_region_noPanic ?_
          refine wp_region_held_drew (S := fun w' => w'.cell? ⟨w.heap.size, 0, none⟩ = some (.int .i64 co) ∧ w'.cell? ⟨w.heap.size, 1, none⟩ = some (.int .i64 (-1)) ∧ w'.cell? ⟨w.heap.size, 2, none⟩ = some (.int .i64 0) ∧ w'.cell? ⟨w.heap.size, 3, none⟩ = some (.int .i64 c) ∧ w'.cell? ⟨w.heap.size, 4, none⟩ = some (.int .i64 t) ∧ w'.cell? ⟨w.heap.size, 5, none⟩ = some (.int .i64 d) ∧ w'.cell? ⟨w.heap.size, 6, none⟩ = some (.int .i64 p)) (by kernel_rfl) ⟨by go_simp, by go_simp, by go_simp, by go_simp, by go_simp, by go_simp, by go_simp⟩ (fun hHeld => ?_)
          refine take_at (i := 0) (n := 27) (v := ?_) rfl rfl (by kernel_rfl) (by kernel_rfl) (by kernel_rfl) (fun _ _ _ h => h) (Or.inl ⟨by rfl, ?_⟩) (by assumption) ?_
          rotate_left 1
          · intro wz hSw
            obtain ⟨s0, s1, s2, s3, s4, s5, s6⟩ := hSw
            first | (go_simp; done) | (go_simp; with_reducible rfl)
          simp only [List.set_cons_zero, List.set_cons_succ]
          refine take_at (i := 1) (n := 28) (v := ?_) rfl rfl (by kernel_rfl) (by kernel_rfl) (by kernel_rfl) (fun _ _ _ h => h) (Or.inl ⟨by rfl, ?_⟩) (by assumption) ?_
          rotate_left 1
          · intro wz hSw
            obtain ⟨s0, s1, s2, s3, s4, s5, s6⟩ := hSw
            first | (go_simp; done) | (go_simp; with_reducible rfl)
          simp only [List.set_cons_zero, List.set_cons_succ]
          refine take_at (i := 2) (n := 29) (v := ?_) rfl rfl (by kernel_rfl) (by kernel_rfl) (by kernel_rfl) (fun _ _ _ h => h) (Or.inl ⟨by rfl, ?_⟩) (by assumption) ?_
          rotate_left 1
          · intro wz hSw
            obtain ⟨s0, s1, s2, s3, s4, s5, s6⟩ := hSw
            first | (go_simp; done) | (go_simp; with_reducible rfl)
          simp only [List.set_cons_zero, List.set_cons_succ]
          refine take_at (i := 3) (n := 30) (v := ?_) rfl rfl (by kernel_rfl) (by kernel_rfl) (by kernel_rfl) (fun _ _ _ h => h) (Or.inl ⟨by rfl, ?_⟩) (by assumption) ?_
          rotate_left 1
          · intro wz hSw
            obtain ⟨s0, s1, s2, s3, s4, s5, s6⟩ := hSw
            first | (go_simp; done) | (go_simp; with_reducible rfl)
          simp only [List.set_cons_zero, List.set_cons_succ]
          refine take_at (i := 4) (n := 31) (v := ?_) rfl rfl (by kernel_rfl) (by kernel_rfl) (by kernel_rfl) (fun _ _ _ h => h) (Or.inl ⟨by rfl, ?_⟩) (by assumption) ?_
          rotate_left 1
          · intro wz hSw
            obtain ⟨s0, s1, s2, s3, s4, s5, s6⟩ := hSw
            first | (go_simp; done) | (go_simp; with_reducible rfl)
          simp only [List.set_cons_zero, List.set_cons_succ]
          refine take_at (i := 5) (n := 32) (v := ?_) rfl rfl (by kernel_rfl) (by kernel_rfl) (by kernel_rfl) (fun _ _ _ h => h) (Or.inl ⟨by rfl, ?_⟩) (by assumption) ?_
          rotate_left 1
          · intro wz hSw
            obtain ⟨s0, s1, s2, s3, s4, s5, s6⟩ := hSw
            first | (go_simp; done) | (go_simp; with_reducible rfl)
          simp only [List.set_cons_zero, List.set_cons_succ]
          refine wpAnyH_ready (rs := [6]) (by kernel_rfl) (by simp) ?_
          refine AllReadyH.cons rfl (fun K hK => ?_) AllReadyH.nil
          go_simp
          go_wp2_with (go_at_call 22; refine (withinC_any _ _ _ _).mono ?_; rintro r w8 ⟨rfl, rfl⟩)
          have H8 : Hid (Below w3.heap.size w3 w3.drew) := (Below.refl _ _).drew
          refine hK.out _ _ ⟨below_cell H8.out x0, below_cell H8.out x1, below_cell H8.out x2, below_cell H8.out x3, below_cell H8.out x4, below_cell H8.out x5, below_cell H8.out x6⟩ (fun hHeld => ?_)
          clear hK K
          try simp only [List.set_cons_zero, List.set_cons_succ]
          refine take_at (i := 7) (n := 34) (v := ?_) rfl rfl (by kernel_rfl) (by kernel_rfl) (by kernel_rfl) (fun _ _ _ h => h) (Or.inl ⟨by rfl, ?_⟩) (by assumption) ?_
          rotate_left 1
          · intro wz hSw
            obtain ⟨s0, s1, s2, s3, s4, s5, s6⟩ := hSw
            first | (go_simp; done) | (go_simp; with_reducible rfl)
          simp only [List.set_cons_zero, List.set_cons_succ]
          refine take_at (i := 8) (n := 35) (v := ?_) rfl rfl (by kernel_rfl) (by kernel_rfl) (by kernel_rfl) (fun _ _ _ h => h) (Or.inl ⟨by rfl, ?_⟩) (by assumption) ?_
          rotate_left 1
          · intro wz hSw
            obtain ⟨s0, s1, s2, s3, s4, s5, s6⟩ := hSw
            first | (go_simp; done) | (go_simp; with_reducible rfl)
          simp only [List.set_cons_zero, List.set_cons_succ]
          refine take_at (i := 9) (n := 36) (v := undef) rfl rfl (by kernel_rfl) (by kernel_rfl) (by kernel_rfl) (fun _ _ _ h => h) (Or.inr ⟨by rfl, rfl⟩) (by assumption) ?_
          simp only [List.set_cons_zero, List.set_cons_succ]
          refine take_at (i := 10) (n := 37) (v := undef) rfl rfl (by kernel_rfl) (by kernel_rfl) (by kernel_rfl) (fun _ _ _ h => h) (Or.inr ⟨by rfl, rfl⟩) (by assumption) ?_
          simp only [List.set_cons_zero, List.set_cons_succ]
          refine take_at (i := 11) (n := 38) (v := undef) rfl rfl (by kernel_rfl) (by kernel_rfl) (by kernel_rfl) (fun _ _ _ h => h) (Or.inr ⟨by rfl, rfl⟩) (by assumption) ?_
          simp only [List.set_cons_zero, List.set_cons_succ]
          refine take_at (i := 12) (n := 39) (v := undef) rfl rfl (by kernel_rfl) (by kernel_rfl) (by kernel_rfl) (fun _ _ _ h => h) (Or.inr ⟨by rfl, rfl⟩) (by assumption) ?_
          simp only [List.set_cons_zero, List.set_cons_succ]
          refine take_at (i := 13) (n := 40) (v := undef) rfl rfl (by kernel_rfl) (by kernel_rfl) (by kernel_rfl) (fun _ _ _ h => h) (Or.inr ⟨by rfl, rfl⟩) (by assumption) ?_
          simp only [List.set_cons_zero, List.set_cons_succ]
          refine take_at (i := 14) (n := 41) (v := undef) rfl rfl (by kernel_rfl) (by kernel_rfl) (by kernel_rfl) (fun _ _ _ h => h) (Or.inr ⟨by rfl, rfl⟩) (by assumption) ?_
          simp only [List.set_cons_zero, List.set_cons_succ]
          refine take_at (i := 15) (n := 42) (v := undef) rfl rfl (by kernel_rfl) (by kernel_rfl) (by kernel_rfl) (fun _ _ _ h => h) (Or.inr ⟨by rfl, rfl⟩) (by assumption) ?_
          simp only [List.set_cons_zero, List.set_cons_succ]
          refine take_at (i := 16) (n := 43) (v := undef) rfl rfl (by kernel_rfl) (by kernel_rfl) (by kernel_rfl) (fun _ _ _ h => h) (Or.inr ⟨by rfl, rfl⟩) (by assumption) ?_
          simp only [List.set_cons_zero, List.set_cons_succ]
          refine take_at (i := 17) (n := 44) (v := undef) rfl rfl (by kernel_rfl) (by kernel_rfl) (by kernel_rfl) (fun _ _ _ h => h) (Or.inr ⟨by rfl, rfl⟩) (by assumption) ?_
          simp only [List.set_cons_zero, List.set_cons_succ]
          refine take_at (i := 18) (n := 45) (v := undef) rfl rfl (by kernel_rfl) (by kernel_rfl) (by kernel_rfl) (fun _ _ _ h => h) (Or.inr ⟨by rfl, rfl⟩) (by assumption) ?_
          simp only [List.set_cons_zero, List.set_cons_succ]
          refine take_at (i := 19) (n := 46) (v := undef) rfl rfl (by kernel_rfl) (by kernel_rfl) (by kernel_rfl) (fun _ _ _ h => h) (Or.inr ⟨by rfl, rfl⟩) (by assumption) ?_
          simp only [List.set_cons_zero, List.set_cons_succ]
          refine take_at (i := 20) (n := 47) (v := undef) rfl rfl (by kernel_rfl) (by kernel_rfl) (by kernel_rfl) (fun _ _ _ h => h) (Or.inr ⟨by rfl, rfl⟩) (by assumption) ?_
          simp only [List.set_cons_zero, List.set_cons_succ]
          refine take_at (i := 21) (n := 48) (v := undef) rfl rfl (by kernel_rfl) (by kernel_rfl) (by kernel_rfl) (fun _ _ _ h => h) (Or.inr ⟨by rfl, rfl⟩) (by assumption) ?_
          simp only [List.set_cons_zero, List.set_cons_succ]
          refine take_at (i := 22) (n := 49) (v := undef) rfl rfl (by kernel_rfl) (by kernel_rfl) (by kernel_rfl) (fun _ _ _ h => h) (Or.inr ⟨by rfl, rfl⟩) (by assumption) ?_
          simp only [List.set_cons_zero, List.set_cons_succ]
          refine take_at (i := 23) (n := 50) (v := ?_) rfl rfl (by kernel_rfl) (by kernel_rfl) (by kernel_rfl) (fun _ _ _ h => h) (Or.inl ⟨by rfl, ?_⟩) (by assumption) ?_
          rotate_left 1
          · intro wz hSw
            obtain ⟨s0, s1, s2, s3, s4, s5, s6⟩ := hSw
            first | (go_simp; done) | (go_simp; with_reducible rfl)
          simp only [List.set_cons_zero, List.set_cons_succ]
          refine take_at (i := 24) (n := 26) (v := ?_) rfl rfl (by kernel_rfl) (by kernel_rfl) (by kernel_rfl) (fun _ _ _ h => h) (Or.inl ⟨by rfl, ?_⟩) (by assumption) ?_
          rotate_left 1
          · intro wz hSw
            obtain ⟨s0, s1, s2, s3, s4, s5, s6⟩ := hSw
            first | (go_simp; done) | (go_simp; with_reducible rfl)
          simp only [List.set_cons_zero, List.set_cons_succ]
          refine wpAnyH_done (by kernel_rfl) ?_ _
          refine NoPanic.normal ?_
          clear hHeld
          go_wp2_with fail
          go_ret
          exact ⟨rfl, below_seq H3.out.1 H8.out⟩
        · rw [h3] at hrs
          have h9 : rs = 0 := hrs
          subst h9
          clear hrs
          go_enter Try.func23, Try.ntmps23
          go_upto_region 5 with (first
            | (go_at_call 40; refine HM.mono ?_; rintro r w2 ⟨rfl, hb2⟩; have H2 : Hid (Below w.heap.size w w2 ∧ w2.heap[w.heap.size]? = some (.cells #[.int .i64 co, .int .i64 (-1), .int .i64 0, .int .i64 c, .int .i64 t, .int .i64 d, .int .i64 p] 35 (0, 0))) := ⟨below_seq H1 hb2, (hb2.block _ (by simp)).trans (heap_alloc_new _ _)⟩; clear hb2 HM; obtain ⟨ys, -, yl⟩ := cells_of (l := [_, _, _, _, _, _, _]) H2.out.2; have y0 := ys 0 _ rfl; have y1 := ys 1 _ rfl; have y2 := ys 2 _ rfl; have y3 := ys 3 _ rfl; have y4 := ys 4 _ rfl; have y5 := ys 5 _ rfl; have y6 := ys 6 _ rfl; clear ys)
            | (go_at_call 22; refine (withinC_any _ _ _ _).mono ?_; rintro r w3 ⟨rfl, hw3⟩; have hw4 := hw3.symm; subst hw4; clear hw3; rw [h1])
            | (go_at_call 25; refine (HBe _).mono ?_; rintro r w3 ⟨rfl, hb3⟩; have H3 : Hid (Below w.heap.size w w3 ∧ w3.heap[w.heap.size]? = some (.cells #[.int .i64 co, .int .i64 (-1), .int .i64 0, .int .i64 c, .int .i64 t, .int .i64 d, .int .i64 p] 35 (0, 0))) := ⟨below_seq H2.out.1 hb3, (hb3.block _ yl).trans H2.out.2⟩; clear hb3 y0 y1 y2 y3 y4 y5 y6 yl H2; obtain ⟨xs, -, xl⟩ := cells_of (l := [_, _, _, _, _, _, _]) H3.out.2; have x0 := xs 0 _ rfl; have x1 := xs 1 _ rfl; have x2 := xs 2 _ rfl; have x3 := xs 3 _ rfl; have x4 := xs 4 _ rfl; have x5 := xs 5 _ rfl; have x6 := xs 6 _ rfl; clear xs))
          refine wp_region_noPanic ?_
          refine wp_region_held_drew (S := fun w' => w'.cell? ⟨w.heap.size, 0, none⟩ = some (.int .i64 co) ∧ w'.cell? ⟨w.heap.size, 1, none⟩ = some (.int .i64 (-1)) ∧ w'.cell? ⟨w.heap.size, 2, none⟩ = some (.int .i64 0) ∧ w'.cell? ⟨w.heap.size, 3, none⟩ = some (.int .i64 c) ∧ w'.cell? ⟨w.heap.size, 4, none⟩ = some (.int .i64 t) ∧ w'.cell? ⟨w.heap.size, 5, none⟩ = some (.int .i64 d) ∧ w'.cell? ⟨w.heap.size, 6, none⟩ = some (.int .i64 p)) (by kernel_rfl) ⟨by go_simp, by go_simp, by go_simp, by go_simp, by go_simp, by go_simp, by go_simp⟩ (fun hHeld => ?_)
          refine take_at (i := 0) (n := 27) (v := ?_) rfl rfl (by kernel_rfl) (by kernel_rfl) (by kernel_rfl) (fun _ _ _ h => h) (Or.inl ⟨by rfl, ?_⟩) (by assumption) ?_
          rotate_left 1
          · intro wz hSw
            obtain ⟨s0, s1, s2, s3, s4, s5, s6⟩ := hSw
            first | (go_simp; done) | (go_simp; with_reducible rfl)
          simp only [List.set_cons_zero, List.set_cons_succ]
          refine take_at (i := 1) (n := 28) (v := ?_) rfl rfl (by kernel_rfl) (by kernel_rfl) (by kernel_rfl) (fun _ _ _ h => h) (Or.inl ⟨by rfl, ?_⟩) (by assumption) ?_
          rotate_left 1
          · intro wz hSw
            obtain ⟨s0, s1, s2, s3, s4, s5, s6⟩ := hSw
            first | (go_simp; done) | (go_simp; with_reducible rfl)
          simp only [List.set_cons_zero, List.set_cons_succ]
          refine take_at (i := 2) (n := 29) (v := ?_) rfl rfl (by kernel_rfl) (by kernel_rfl) (by kernel_rfl) (fun _ _ _ h => h) (Or.inl ⟨by rfl, ?_⟩) (by assumption) ?_
          rotate_left 1
          · intro wz hSw
            obtain ⟨s0, s1, s2, s3, s4, s5, s6⟩ := hSw
            first | (go_simp; done) | (go_simp; with_reducible rfl)
          simp only [List.set_cons_zero, List.set_cons_succ]
          refine take_at (i := 3) (n := 30) (v := ?_) rfl rfl (by kernel_rfl) (by kernel_rfl) (by kernel_rfl) (fun _ _ _ h => h) (Or.inl ⟨by rfl, ?_⟩) (by assumption) ?_
          rotate_left 1
          · intro wz hSw
            obtain ⟨s0, s1, s2, s3, s4, s5, s6⟩ := hSw
            first | (go_simp; done) | (go_simp; with_reducible rfl)
          simp only [List.set_cons_zero, List.set_cons_succ]
          refine take_at (i := 4) (n := 31) (v := ?_) rfl rfl (by kernel_rfl) (by kernel_rfl) (by kernel_rfl) (fun _ _ _ h => h) (Or.inl ⟨by rfl, ?_⟩) (by assumption) ?_
          rotate_left 1
          · intro wz hSw
            obtain ⟨s0, s1, s2, s3, s4, s5, s6⟩ := hSw
            first | (go_simp; done) | (go_simp; with_reducible rfl)
          simp only [List.set_cons_zero, List.set_cons_succ]
          refine take_at (i := 5) (n := 32) (v := ?_) rfl rfl (by kernel_rfl) (by kernel_rfl) (by kernel_rfl) (fun _ _ _ h => h) (Or.inl ⟨by rfl, ?_⟩) (by assumption) ?_
          rotate_left 1
          · intro wz hSw
            obtain ⟨s0, s1, s2, s3, s4, s5, s6⟩ := hSw
            first | (go_simp; done) | (go_simp; with_reducible rfl)
          simp only [List.set_cons_zero, List.set_cons_succ]
          refine wpAnyH_ready (rs := [6]) (by kernel_rfl) (by simp) ?_
          refine AllReadyH.cons rfl (fun K hK => ?_) AllReadyH.nil
          go_simp
          go_wp2_with (go_at_call 22; refine (withinC_any _ _ _ _).mono ?_; rintro r w8 ⟨rfl, rfl⟩)
          have H8 : Hid (Below w3.heap.size w3 w3.drew) := (Below.refl _ _).drew
          refine hK.out _ _ ⟨below_cell H8.out x0, below_cell H8.out x1, below_cell H8.out x2, below_cell H8.out x3, below_cell H8.out x4, below_cell H8.out x5, below_cell H8.out x6⟩ (fun hHeld => ?_)
          clear hK K
          try simp only [List.set_cons_zero, List.set_cons_succ]
          refine take_at (i := 7) (n := 34) (v := ?_) rfl rfl (by kernel_rfl) (by kernel_rfl) (by kernel_rfl) (fun _ _ _ h => h) (Or.inl ⟨by rfl, ?_⟩) (by assumption) ?_
          rotate_left 1
          · intro wz hSw
            obtain ⟨s0, s1, s2, s3, s4, s5, s6⟩ := hSw
            first | (go_simp; done) | (go_simp; with_reducible rfl)
          simp only [List.set_cons_zero, List.set_cons_succ]
          refine take_at (i := 8) (n := 35) (v := ?_) rfl rfl (by kernel_rfl) (by kernel_rfl) (by kernel_rfl) (fun _ _ _ h => h) (Or.inl ⟨by rfl, ?_⟩) (by assumption) ?_
          rotate_left 1
          · intro wz hSw
            obtain ⟨s0, s1, s2, s3, s4, s5, s6⟩ := hSw
            first | (go_simp; done) | (go_simp; with_reducible rfl)
          simp only [List.set_cons_zero, List.set_cons_succ]
          refine take_at (i := 9) (n := 36) (v := ?_) rfl rfl (by kernel_rfl) (by kernel_rfl) (by kernel_rfl) (fun _ _ _ h => h) (Or.inl ⟨by rfl, ?_⟩) (by assumption) ?_
          rotate_left 1
          · intro wz hSw
            obtain ⟨s0, s1, s2, s3, s4, s5, s6⟩ := hSw
            first | (go_simp; done) | (go_simp; with_reducible rfl)
          simp only [List.set_cons_zero, List.set_cons_succ]
          refine wpAnyH_ready (rs := [10]) (by kernel_rfl) (by simp) ?_
          refine AllReadyH.cons rfl (fun K hK => ?_) AllReadyH.nil
          go_simp
          go_wp2_with (go_at_call 25; refine (HBe _).mono ?_; rintro r w9 ⟨rfl, hb9⟩)
          have H9 : Hid (Below w3.heap.size w3 w9) := below_seq H8.out hb9
          refine hK.out _ _ ⟨below_cell H9.out x0, below_cell H9.out x1, below_cell H9.out x2, below_cell H9.out x3, below_cell H9.out x4, below_cell H9.out x5, below_cell H9.out x6⟩ (fun hHeld => ?_)
          clear hb9
          clear hK K
          try simp only [List.set_cons_zero, List.set_cons_succ]
          refine take_at (i := 11) (n := 38) (v := ?_) rfl rfl (by kernel_rfl) (by kernel_rfl) (by kernel_rfl) (fun _ _ _ h => h) (Or.inl ⟨by rfl, ?_⟩) (by assumption) ?_
          rotate_left 1
          · intro wz hSw
            obtain ⟨s0, s1, s2, s3, s4, s5, s6⟩ := hSw
            first | (go_simp; done) | (go_simp; with_reducible rfl)
          simp only [List.set_cons_zero, List.set_cons_succ]
          refine take_at (i := 12) (n := 39) (v := ?_) rfl rfl (by kernel_rfl) (by kernel_rfl) (by kernel_rfl) (fun _ _ _ h => h) (Or.inl ⟨by rfl, ?_⟩) (by assumption) ?_
          rotate_left 1
          · intro wz hSw
            obtain ⟨s0, s1, s2, s3, s4, s5, s6⟩ := hSw
            first | (go_simp; done) | (go_simp; with_reducible rfl)
          simp only [List.set_cons_zero, List.set_cons_succ]
          refine take_at (i := 13) (n := 40) (v := undef) rfl rfl (by kernel_rfl) (by kernel_rfl) (by kernel_rfl) (fun _ _ _ h => h) (Or.inr ⟨by rfl, rfl⟩) (by assumption) ?_
          simp only [List.set_cons_zero, List.set_cons_succ]
          refine take_at (i := 14) (n := 41) (v := undef) rfl rfl (by kernel_rfl) (by kernel_rfl) (by kernel_rfl) (fun _ _ _ h => h) (Or.inr ⟨by rfl, rfl⟩) (by assumption) ?_
          simp only [List.set_cons_zero, List.set_cons_succ]
          refine take_at (i := 15) (n := 42) (v := undef) rfl rfl (by kernel_rfl) (by kernel_rfl) (by kernel_rfl) (fun _ _ _ h => h) (Or.inr ⟨by rfl, rfl⟩) (by assumption) ?_
          simp only [List.set_cons_zero, List.set_cons_succ]
          refine take_at (i := 16) (n := 43) (v := undef) rfl rfl (by kernel_rfl) (by kernel_rfl) (by kernel_rfl) (fun _ _ _ h => h) (Or.inr ⟨by rfl, rfl⟩) (by assumption) ?_
          simp only [List.set_cons_zero, List.set_cons_succ]
          refine take_at (i := 17) (n := 44) (v := undef) rfl rfl (by kernel_rfl) (by kernel_rfl) (by kernel_rfl) (fun _ _ _ h => h) (Or.inr ⟨by rfl, rfl⟩) (by assumption) ?_
          simp only [List.set_cons_zero, List.set_cons_succ]
          refine take_at (i := 18) (n := 45) (v := undef) rfl rfl (by kernel_rfl) (by kernel_rfl) (by kernel_rfl) (fun _ _ _ h => h) (Or.inr ⟨by rfl, rfl⟩) (by assumption) ?_
          simp only [List.set_cons_zero, List.set_cons_succ]
          refine take_at (i := 19) (n := 46) (v := undef) rfl rfl (by kernel_rfl) (by kernel_rfl) (by kernel_rfl) (fun _ _ _ h => h) (Or.inr ⟨by rfl, rfl⟩) (by assumption) ?_
          simp only [List.set_cons_zero, List.set_cons_succ]
          refine take_at (i := 20) (n := 47) (v := undef) rfl rfl (by kernel_rfl) (by kernel_rfl) (by kernel_rfl) (fun _ _ _ h => h) (Or.inr ⟨by rfl, rfl⟩) (by assumption) ?_
          simp only [List.set_cons_zero, List.set_cons_succ]
          refine take_at (i := 21) (n := 48) (v := undef) rfl rfl (by kernel_rfl) (by kernel_rfl) (by kernel_rfl) (fun _ _ _ h => h) (Or.inr ⟨by rfl, rfl⟩) (by assumption) ?_
          simp only [List.set_cons_zero, List.set_cons_succ]
          refine take_at (i := 22) (n := 49) (v := ?_) rfl rfl (by kernel_rfl) (by kernel_rfl) (by kernel_rfl) (fun _ _ _ h => h) (Or.inl ⟨by rfl, ?_⟩) (by assumption) ?_
          rotate_left 1
          · intro wz hSw
            obtain ⟨s0, s1, s2, s3, s4, s5, s6⟩ := hSw
            first | (go_simp; done) | (go_simp; with_reducible rfl)
          simp only [List.set_cons_zero, List.set_cons_succ]
          refine take_at (i := 23) (n := 50) (v := ?_) rfl rfl (by kernel_rfl) (by kernel_rfl) (by kernel_rfl) (fun _ _ _ h => h) (Or.inl ⟨by rfl, ?_⟩) (by assumption) ?_
          rotate_left 1
          · intro wz hSw
            obtain ⟨s0, s1, s2, s3, s4, s5, s6⟩ := hSw
            first | (go_simp; done) | (go_simp; with_reducible rfl)
          simp only [List.set_cons_zero, List.set_cons_succ]
          refine take_at (i := 24) (n := 26) (v := ?_) rfl rfl (by kernel_rfl) (by kernel_rfl) (by kernel_rfl) (fun _ _ _ h => h) (Or.inl ⟨by rfl, ?_⟩) (by assumption) ?_
          rotate_left 1
          · intro wz hSw
            obtain ⟨s0, s1, s2, s3, s4, s5, s6⟩ := hSw
            first | (go_simp; done) | (go_simp; with_reducible rfl)
          simp only [List.set_cons_zero, List.set_cons_succ]
          refine wpAnyH_done (by kernel_rfl) ?_ _
          refine NoPanic.normal ?_
          clear hHeld
          go_wp2_with fail
          go_ret
          exact ⟨rfl, below_seq H3.out.1 H9.out⟩
      · have hsb2 : (se != 0) = true := by simpa using hs
        have h9 : rs = 4 := by rw [← HRS.out]; unfold wrongP; rw [if_neg hd0, if_pos (.inr ⟨rfl, hs⟩)]
        subst h9
        go_enter Try.func23, Try.ntmps23
        go_wp2_with (first
          | (go_at_call 40; refine HM.mono ?_; rintro r w2 ⟨rfl, hb2⟩; have H2 : Hid (Below w.heap.size w w2 ∧ w2.heap[w.heap.size]? = some (.cells #[.int .i64 co, .int .i64 (-1), .int .i64 se, .int .i64 c, .int .i64 t, .int .i64 d, .int .i64 p] 35 (0, 0))) := ⟨below_seq H1 hb2, (hb2.block _ (by simp)).trans (heap_alloc_new _ _)⟩; clear hb2 HM; obtain ⟨ys, -, yl⟩ := cells_of (l := [_, _, _, _, _, _, _]) H2.out.2; have y0 := ys 0 _ rfl; have y1 := ys 1 _ rfl; have y2 := ys 2 _ rfl; have y3 := ys 3 _ rfl; have y4 := ys 4 _ rfl; have y5 := ys 5 _ rfl; have y6 := ys 6 _ rfl; clear ys)
          | (go_at_call 22; refine (withinC_any _ _ _ _).mono ?_; rintro r w3 ⟨rfl, hw3⟩; have hw4 := hw3.symm; subst hw4; clear hw3; rw [h1])
          | (go_at_call 25; refine (HBe _).mono ?_; rintro r w3 ⟨rfl, hb3⟩; have H3 : Hid (Below w.heap.size w w3) := below_seq H2.out.1 hb3; have z2 := below_cell hb3 y2; have zl := World.block_lt_of_cell? _ _ z2; clear hb3 y0 y1 y2 y3 y4 y5 y6))
        go_ret
        exact ⟨rfl, H3.out⟩
    · have hbb : (fr == -1) = false := by simpa using hb
      obtain ⟨fn, hfn⟩ : ∃ fn : Nat, fr = (fn : Int) := ⟨fr.toNat, by omega⟩
      subst hfn
      have hfl : fn < ahead.length := by omega
      have hfi : (fn : Int) < (ahead.length : Int) := by omega
      obtain ⟨y, hy⟩ : ∃ y, ahead[fn]? = some y := ⟨ahead[fn], List.getElem?_eq_getElem _⟩
      have hgd : (ahead.getD (fn : Int).toNat paZ).t = y.t := by rw [Int.toNat_natCast, List.getD_eq_getElem?_getD, hy]; rfl
      have hd1 : ¬ (within (fn : Int) (-1) ((ahead.length : Int) - 1) = false ∨ ((fn : Int) = -1 ∧ se ≠ 0)) := by rw [h1]; first | (simp; done) | (simp; omega)
      have hrs : rs = if within d c t = false ∨ t ≠ y.t then 12 else 0 := by
        rw [← HRS.out]
        unfold wrongP
        rw [if_neg hd0, if_neg hd1]
        dsimp only
        rw [hgd]
        simp only [ne_eq, hb, not_false_eq_true, true_and]
      obtain ⟨ad', c', he, -, hcap, hrow⟩ := HV.out
      cases he
      rcases hrow with h | ⟨b, o, rfl, hrow⟩
      · rw [h] at hfl; simp at hfl
      have HRow : Hid (w.cell? ⟨b, o + fn * 7 + 4, none⟩ = some (.int .i64 y.t)) := (pa7_at hrow hy).2.2.2.2.1
      generalize y.t = ta at *
      clear hrow hy hgd hd1
      rcases h3 : within d c t with _ | _
      · rw [h3] at hrs
        have h9 : rs = 12 := by rw [hrs, if_pos (.inl rfl)]
        subst h9
        clear hrs
        go_enter Try.func23, Try.ntmps23
        go_upto_region 5 with (first
          | (go_at_call 40; refine HM.mono ?_; rintro r w2 ⟨rfl, hb2⟩; have H2 : Hid (Below w.heap.size w w2 ∧ w2.heap[w.heap.size]? = some (.cells #[.int .i64 co, .int .i64 (fn : Int), .int .i64 se, .int .i64 c, .int .i64 t, .int .i64 d, .int .i64 p] 35 (0, 0))) := ⟨below_seq H1 hb2, (hb2.block _ (by simp)).trans (heap_alloc_new _ _)⟩; clear hb2 HM; obtain ⟨ys, -, yl⟩ := cells_of (l := [_, _, _, _, _, _, _]) H2.out.2; have y0 := ys 0 _ rfl; have y1 := ys 1 _ rfl; have y2 := ys 2 _ rfl; have y3 := ys 3 _ rfl; have y4 := ys 4 _ rfl; have y5 := ys 5 _ rfl; have y6 := ys 6 _ rfl; clear ys)
          | (go_at_call 22; refine (withinC_any _ _ _ _).mono ?_; rintro r w3 ⟨rfl, hw3⟩; have hw4 := hw3.symm; subst hw4; clear hw3; rw [h1])
          | (go_at_call 25; refine (HBe _).mono ?_; rintro r w3 ⟨rfl, hb3⟩; have H3 : Hid (Below w.heap.size w w3 ∧ w3.heap[w.heap.size]? = some (.cells #[.int .i64 co, .int .i64 (fn : Int), .int .i64 se, .int .i64 c, .int .i64 t, .int .i64 d, .int .i64 p] 35 (0, 0))) := ⟨below_seq H2.out.1 hb3, (hb3.block _ yl).trans H2.out.2⟩; clear hb3 y0 y1 y2 y3 y4 y5 y6 yl H2; obtain ⟨xs, -, xl⟩ := cells_of (l := [_, _, _, _, _, _, _]) H3.out.2; have x0 := xs 0 _ rfl; have x1 := xs 1 _ rfl; have x2 := xs 2 _ rfl; have x3 := xs 3 _ rfl; have x4 := xs 4 _ rfl; have x5 := xs 5 _ rfl; have x6 := xs 6 _ rfl; clear xs))
        refine wp_region_noPanic ?_
        refine wp_region_held_drew (S := fun w' => w'.cell? ⟨w.heap.size, 0, none⟩ = some (.int .i64 co) ∧ w'.cell? ⟨w.heap.size, 1, none⟩ = some (.int .i64 (fn : Int)) ∧ w'.cell? ⟨w.heap.size, 2, none⟩ = some (.int .i64 se) ∧ w'.cell? ⟨w.heap.size, 3, none⟩ = some (.int .i64 c) ∧ w'.cell? ⟨w.heap.size, 4, none⟩ = some (.int .i64 t) ∧ w'.cell? ⟨w.heap.size, 5, none⟩ = some (.int .i64 d) ∧ w'.cell? ⟨w.heap.size, 6, none⟩ = some (.int .i64 p)) (by kernel_rfl) ⟨by go_simp, by go_simp, by go_simp, by go_simp, by go_simp, by go_simp, by go_simp⟩ (fun hHeld => ?_)
        refine take_at (i := 0) (n := 27) (v := ?_) rfl rfl (by kernel_rfl) (by kernel_rfl) (by kernel_rfl) (fun _ _ _ h => h) (Or.inl ⟨by rfl, ?_⟩) (by assumption) ?_
        rotate_left 1
        · intro wz hSw
          obtain ⟨s0, s1, s2, s3, s4, s5, s6⟩ := hSw
          first | (go_simp; done) | (go_simp; with_reducible rfl)
        simp only [List.set_cons_zero, List.set_cons_succ]
        refine take_at (i := 1) (n := 28) (v := ?_) rfl rfl (by kernel_rfl) (by kernel_rfl) (by kernel_rfl) (fun _ _ _ h => h) (Or.inl ⟨by rfl, ?_⟩) (by assumption) ?_
        rotate_left 1
        · intro wz hSw
          obtain ⟨s0, s1, s2, s3, s4, s5, s6⟩ := hSw
          first | (go_simp; done) | (go_simp; with_reducible rfl)
        simp only [List.set_cons_zero, List.set_cons_succ]
        refine take_at (i := 2) (n := 29) (v := ?_) rfl rfl (by kernel_rfl) (by kernel_rfl) (by kernel_rfl) (fun _ _ _ h => h) (Or.inl ⟨by rfl, ?_⟩) (by assumption) ?_
        rotate_left 1
        · intro wz hSw
          obtain ⟨s0, s1, s2, s3, s4, s5, s6⟩ := hSw
          first | (go_simp; done) | (go_simp; with_reducible rfl)
        simp only [List.set_cons_zero, List.set_cons_succ]
        refine take_at (i := 3) (n := 30) (v := ?_) rfl rfl (by kernel_rfl) (by kernel_rfl) (by kernel_rfl) (fun _ _ _ h => h) (Or.inl ⟨by rfl, ?_⟩) (by assumption) ?_
        rotate_left 1
        · intro wz hSw
          obtain ⟨s0, s1, s2, s3, s4, s5, s6⟩ := hSw
          first | (go_simp; done) | (go_simp; with_reducible rfl)
        simp only [List.set_cons_zero, List.set_cons_succ]
        refine take_at (i := 4) (n := 31) (v := ?_) rfl rfl (by kernel_rfl) (by kernel_rfl) (by kernel_rfl) (fun _ _ _ h => h) (Or.inl ⟨by rfl, ?_⟩) (by assumption) ?_
        rotate_left 1
        · intro wz hSw
          obtain ⟨s0, s1, s2, s3, s4, s5, s6⟩ := hSw
          first | (go_simp; done) | (go_simp; with_reducible rfl)
        simp only [List.set_cons_zero, List.set_cons_succ]
        refine take_at (i := 5) (n := 32) (v := ?_) rfl rfl (by kernel_rfl) (by kernel_rfl) (by kernel_rfl) (fun _ _ _ h => h) (Or.inl ⟨by rfl, ?_⟩) (by assumption) ?_
        rotate_left 1
        · intro wz hSw
          obtain ⟨s0, s1, s2, s3, s4, s5, s6⟩ := hSw
          first | (go_simp; done) | (go_simp; with_reducible rfl)
        simp only [List.set_cons_zero, List.set_cons_succ]
        refine wpAnyH_ready (rs := [6]) (by kernel_rfl) (by simp) ?_
        refine AllReadyH.cons rfl (fun K hK => ?_) AllReadyH.nil
        go_simp
        go_wp2_with (go_at_call 22; refine (withinC_any _ _ _ _).mono ?_; rintro r w8 ⟨rfl, rfl⟩)
        have H8 : Hid (Below w3.heap.size w3 w3.drew) := (Below.refl _ _).drew
        refine hK.out _ _ ⟨below_cell H8.out x0, below_cell H8.out x1, below_cell H8.out x2, below_cell H8.out x3, below_cell H8.out x4, below_cell H8.out x5, below_cell H8.out x6⟩ (fun hHeld => ?_)
        clear hK K
        try simp only [List.set_cons_zero, List.set_cons_succ]
        refine take_at (i := 7) (n := 34) (v := ?_) rfl rfl (by kernel_rfl) (by kernel_rfl) (by kernel_rfl) (fun _ _ _ h => h) (Or.inl ⟨by rfl, ?_⟩) (by assumption) ?_
        rotate_left 1
        · intro wz hSw
          obtain ⟨s0, s1, s2, s3, s4, s5, s6⟩ := hSw
          first | (go_simp; done) | (go_simp; with_reducible rfl)
        simp only [List.set_cons_zero, List.set_cons_succ]
        refine take_at (i := 8) (n := 35) (v := ?_) rfl rfl (by kernel_rfl) (by kernel_rfl) (by kernel_rfl) (fun _ _ _ h => h) (Or.inl ⟨by rfl, ?_⟩) (by assumption) ?_
        rotate_left 1
        · intro wz hSw
          obtain ⟨s0, s1, s2, s3, s4, s5, s6⟩ := hSw
          first | (go_simp; done) | (go_simp; with_reducible rfl)
        simp only [List.set_cons_zero, List.set_cons_succ]
        refine take_at (i := 9) (n := 36) (v := undef) rfl rfl (by kernel_rfl) (by kernel_rfl) (by kernel_rfl) (fun _ _ _ h => h) (Or.inr ⟨by rfl, rfl⟩) (by assumption) ?_
        simp only [List.set_cons_zero, List.set_cons_succ]
        refine take_at (i := 10) (n := 37) (v := undef) rfl rfl (by kernel_rfl) (by kernel_rfl) (by kernel_rfl) (fun _ _ _ h => h) (Or.inr ⟨by rfl, rfl⟩) (by assumption) ?_
        simp only [List.set_cons_zero, List.set_cons_succ]
        refine take_at (i := 11) (n := 38) (v := undef) rfl rfl (by kernel_rfl) (by kernel_rfl) (by kernel_rfl) (fun _ _ _ h => h) (Or.inr ⟨by rfl, rfl⟩) (by assumption) ?_
        simp only [List.set_cons_zero, List.set_cons_succ]
        refine take_at (i := 12) (n := 39) (v := undef) rfl rfl (by kernel_rfl) (by kernel_rfl) (by kernel_rfl) (fun _ _ _ h => h) (Or.inr ⟨by rfl, rfl⟩) (by assumption) ?_
        simp only [List.set_cons_zero, List.set_cons_succ]
        refine take_at (i := 13) (n := 40) (v := undef) rfl rfl (by kernel_rfl) (by kernel_rfl) (by kernel_rfl) (fun _ _ _ h => h) (Or.inr ⟨by rfl, rfl⟩) (by assumption) ?_
        simp only [List.set_cons_zero, List.set_cons_succ]
        refine take_at (i := 14) (n := 41) (v := undef) rfl rfl (by kernel_rfl) (by kernel_rfl) (by kernel_rfl) (fun _ _ _ h => h) (Or.inr ⟨by rfl, rfl⟩) (by assumption) ?_
        simp only [List.set_cons_zero, List.set_cons_succ]
        refine take_at (i := 15) (n := 42) (v := undef) rfl rfl (by kernel_rfl) (by kernel_rfl) (by kernel_rfl) (fun _ _ _ h => h) (Or.inr ⟨by rfl, rfl⟩) (by assumption) ?_
        simp only [List.set_cons_zero, List.set_cons_succ]
        refine take_at (i := 16) (n := 43) (v := undef) rfl rfl (by kernel_rfl) (by kernel_rfl) (by kernel_rfl) (fun _ _ _ h => h) (Or.inr ⟨by rfl, rfl⟩) (by assumption) ?_
        simp only [List.set_cons_zero, List.set_cons_succ]
        refine take_at (i := 17) (n := 44) (v := undef) rfl rfl (by kernel_rfl) (by kernel_rfl) (by kernel_rfl) (fun _ _ _ h => h) (Or.inr ⟨by rfl, rfl⟩) (by assumption) ?_
        simp only [List.set_cons_zero, List.set_cons_succ]
        refine take_at (i := 18) (n := 45) (v := undef) rfl rfl (by kernel_rfl) (by kernel_rfl) (by kernel_rfl) (fun _ _ _ h => h) (Or.inr ⟨by rfl, rfl⟩) (by assumption) ?_
        simp only [List.set_cons_zero, List.set_cons_succ]
        refine take_at (i := 19) (n := 46) (v := undef) rfl rfl (by kernel_rfl) (by kernel_rfl) (by kernel_rfl) (fun _ _ _ h => h) (Or.inr ⟨by rfl, rfl⟩) (by assumption) ?_
        simp only [List.set_cons_zero, List.set_cons_succ]
        refine take_at (i := 20) (n := 47) (v := undef) rfl rfl (by kernel_rfl) (by kernel_rfl) (by kernel_rfl) (fun _ _ _ h => h) (Or.inr ⟨by rfl, rfl⟩) (by assumption) ?_
        simp only [List.set_cons_zero, List.set_cons_succ]
        refine take_at (i := 21) (n := 48) (v := undef) rfl rfl (by kernel_rfl) (by kernel_rfl) (by kernel_rfl) (fun _ _ _ h => h) (Or.inr ⟨by rfl, rfl⟩) (by assumption) ?_
        simp only [List.set_cons_zero, List.set_cons_succ]
        refine take_at (i := 22) (n := 49) (v := undef) rfl rfl (by kernel_rfl) (by kernel_rfl) (by kernel_rfl) (fun _ _ _ h => h) (Or.inr ⟨by rfl, rfl⟩) (by assumption) ?_
        simp only [List.set_cons_zero, List.set_cons_succ]
        refine take_at (i := 23) (n := 50) (v := ?_) rfl rfl (by kernel_rfl) (by kernel_rfl) (by kernel_rfl) (fun _ _ _ h => h) (Or.inl ⟨by rfl, ?_⟩) (by assumption) ?_
        rotate_left 1
        · intro wz hSw
          obtain ⟨s0, s1, s2, s3, s4, s5, s6⟩ := hSw
          first | (go_simp; done) | (go_simp; with_reducible rfl)
        simp only [List.set_cons_zero, List.set_cons_succ]
        refine take_at (i := 24) (n := 26) (v := ?_) rfl rfl (by kernel_rfl) (by kernel_rfl) (by kernel_rfl) (fun _ _ _ h => h) (Or.inl ⟨by rfl, ?_⟩) (by assumption) ?_
        rotate_left 1
        · intro wz hSw
          obtain ⟨s0, s1, s2, s3, s4, s5, s6⟩ := hSw
          first | (go_simp; done) | (go_simp; with_reducible rfl)
        simp only [List.set_cons_zero, List.set_cons_succ]
        refine wpAnyH_done (by kernel_rfl) ?_ _
        refine NoPanic.normal ?_
        clear hHeld
        go_wp2_with fail
        go_ret
        exact ⟨rfl, below_seq H3.out.1 H8.out⟩
      · rw [h3] at hrs
        go_enter Try.func23, Try.ntmps23
        go_upto_region 5 with (first
          | (go_at_call 40; refine HM.mono ?_; rintro r w2 ⟨rfl, hb2⟩; have H2 : Hid (Below w.heap.size w w2 ∧ w2.heap[w.heap.size]? = some (.cells #[.int .i64 co, .int .i64 (fn : Int), .int .i64 se, .int .i64 c, .int .i64 t, .int .i64 d, .int .i64 p] 35 (0, 0))) := ⟨below_seq H1 hb2, (hb2.block _ (by simp)).trans (heap_alloc_new _ _)⟩; clear hb2 HM; obtain ⟨ys, -, yl⟩ := cells_of (l := [_, _, _, _, _, _, _]) H2.out.2; have y0 := ys 0 _ rfl; have y1 := ys 1 _ rfl; have y2 := ys 2 _ rfl; have y3 := ys 3 _ rfl; have y4 := ys 4 _ rfl; have y5 := ys 5 _ rfl; have y6 := ys 6 _ rfl; clear ys)
          | (go_at_call 22; refine (withinC_any _ _ _ _).mono ?_; rintro r w3 ⟨rfl, hw3⟩; have hw4 := hw3.symm; subst hw4; clear hw3; rw [h1])
          | (go_at_call 25; refine (HBe _).mono ?_; rintro r w3 ⟨rfl, hb3⟩; have H3 : Hid (Below w.heap.size w w3 ∧ w3.heap[w.heap.size]? = some (.cells #[.int .i64 co, .int .i64 (fn : Int), .int .i64 se, .int .i64 c, .int .i64 t, .int .i64 d, .int .i64 p] 35 (0, 0))) := ⟨below_seq H2.out.1 hb3, (hb3.block _ yl).trans H2.out.2⟩; clear hb3 y0 y1 y2 y3 y4 y5 y6 yl H2; obtain ⟨xs, -, xl⟩ := cells_of (l := [_, _, _, _, _, _, _]) H3.out.2; have x0 := xs 0 _ rfl; have x1 := xs 1 _ rfl; have x2 := xs 2 _ rfl; have x3 := xs 3 _ rfl; have x4 := xs 4 _ rfl; have x5 := xs 5 _ rfl; have x6 := xs 6 _ rfl; clear xs))
        have xt := below_cell H3.out.1 HRow.out
        have lb : b < w3.heap.size := World.block_lt_of_cell? _ _ xt
        by_cases htt : t = ta
        · subst htt
          have h9 : rs = 0 := by rw [hrs, if_neg (by simp)]
          subst h9
          clear hrs
          refine wp_region_noPanic ?_
          refine wp_region_held_drew (S := fun w' => w'.cell? ⟨w.heap.size, 0, none⟩ = some (.int .i64 co) ∧ w'.cell? ⟨w.heap.size, 1, none⟩ = some (.int .i64 (fn : Int)) ∧ w'.cell? ⟨w.heap.size, 2, none⟩ = some (.int .i64 se) ∧ w'.cell? ⟨w.heap.size, 3, none⟩ = some (.int .i64 c) ∧ w'.cell? ⟨w.heap.size, 4, none⟩ = some (.int .i64 t) ∧ w'.cell? ⟨w.heap.size, 5, none⟩ = some (.int .i64 d) ∧ w'.cell? ⟨w.heap.size, 6, none⟩ = some (.int .i64 p) ∧ w'.cell? ⟨b, o + fn * 7 + 4, none⟩ = some (.int .i64 t)) (by kernel_rfl) ⟨by go_simp, by go_simp, by go_simp, by go_simp, by go_simp, by go_simp, by go_simp, by go_simp⟩ (fun hHeld => ?_)
          refine take_at (i := 0) (n := 27) (v := ?_) rfl rfl (by kernel_rfl) (by kernel_rfl) (by kernel_rfl) (fun _ _ _ h => h) (Or.inl ⟨by rfl, ?_⟩) (by assumption) ?_
          rotate_left 1
          · intro wz hSw
            obtain ⟨s0, s1, s2, s3, s4, s5, s6, s7⟩ := hSw
            first | (go_simp; done) | (go_simp; with_reducible rfl)
          simp only [List.set_cons_zero, List.set_cons_succ]
          refine take_at (i := 1) (n := 28) (v := ?_) rfl rfl (by kernel_rfl) (by kernel_rfl) (by kernel_rfl) (fun _ _ _ h => h) (Or.inl ⟨by rfl, ?_⟩) (by assumption) ?_
          rotate_left 1
          · intro wz hSw
            obtain ⟨s0, s1, s2, s3, s4, s5, s6, s7⟩ := hSw
            first | (go_simp; done) | (go_simp; with_reducible rfl)
          simp only [List.set_cons_zero, List.set_cons_succ]
          refine take_at (i := 2) (n := 29) (v := ?_) rfl rfl (by kernel_rfl) (by kernel_rfl) (by kernel_rfl) (fun _ _ _ h => h) (Or.inl ⟨by rfl, ?_⟩) (by assumption) ?_
          rotate_left 1
          · intro wz hSw
            obtain ⟨s0, s1, s2, s3, s4, s5, s6, s7⟩ := hSw
            first | (go_simp; done) | (go_simp; with_reducible rfl)
          simp only [List.set_cons_zero, List.set_cons_succ]
          refine take_at (i := 3) (n := 30) (v := ?_) rfl rfl (by kernel_rfl) (by kernel_rfl) (by kernel_rfl) (fun _ _ _ h => h) (Or.inl ⟨by rfl, ?_⟩) (by assumption) ?_
          rotate_left 1
          · intro wz hSw
            obtain ⟨s0, s1, s2, s3, s4, s5, s6, s7⟩ := hSw
            first | (go_simp; done) | (go_simp; with_reducible rfl)
          simp only [List.set_cons_zero, List.set_cons_succ]
          refine take_at (i := 4) (n := 31) (v := ?_) rfl rfl (by kernel_rfl) (by kernel_rfl) (by kernel_rfl) (fun _ _ _ h => h) (Or.inl ⟨by rfl, ?_⟩) (by assumption) ?_
          rotate_left 1
          · intro wz hSw
            obtain ⟨s0, s1, s2, s3, s4, s5, s6, s7⟩ := hSw
            first | (go_simp; done) | (go_simp; with_reducible rfl)
          simp only [List.set_cons_zero, List.set_cons_succ]
          refine take_at (i := 5) (n := 32) (v := ?_) rfl rfl (by kernel_rfl) (by kernel_rfl) (by kernel_rfl) (fun _ _ _ h => h) (Or.inl ⟨by rfl, ?_⟩) (by assumption) ?_
          rotate_left 1
          · intro wz hSw
            obtain ⟨s0, s1, s2, s3, s4, s5, s6, s7⟩ := hSw
            first | (go_simp; done) | (go_simp; with_reducible rfl)
          simp only [List.set_cons_zero, List.set_cons_succ]
          refine wpAnyH_ready (rs := [6]) (by kernel_rfl) (by simp) ?_
          refine AllReadyH.cons rfl (fun K hK => ?_) AllReadyH.nil
          go_simp
          go_wp2_with (go_at_call 22; refine (withinC_any _ _ _ _).mono ?_; rintro r w8 ⟨rfl, rfl⟩)
          have H8 : Hid (Below w3.heap.size w3 w3.drew) := (Below.refl _ _).drew
          refine hK.out _ _ ⟨below_cell H8.out x0, below_cell H8.out x1, below_cell H8.out x2, below_cell H8.out x3, below_cell H8.out x4, below_cell H8.out x5, below_cell H8.out x6, below_cell H8.out xt⟩ (fun hHeld => ?_)
          clear hK K
          try simp only [List.set_cons_zero, List.set_cons_succ]
          refine take_at (i := 7) (n := 34) (v := ?_) rfl rfl (by kernel_rfl) (by kernel_rfl) (by kernel_rfl) (fun _ _ _ h => h) (Or.inl ⟨by rfl, ?_⟩) (by assumption) ?_
          rotate_left 1
          · intro wz hSw
            obtain ⟨s0, s1, s2, s3, s4, s5, s6, s7⟩ := hSw
            first | (go_simp; done) | (go_simp; with_reducible rfl)
          simp only [List.set_cons_zero, List.set_cons_succ]
          refine take_at (i := 8) (n := 35) (v := ?_) rfl rfl (by kernel_rfl) (by kernel_rfl) (by kernel_rfl) (fun _ _ _ h => h) (Or.inl ⟨by rfl, ?_⟩) (by assumption) ?_
          rotate_left 1
          · intro wz hSw
            obtain ⟨s0, s1, s2, s3, s4, s5, s6, s7⟩ := hSw
            first | (go_simp; done) | (go_simp; with_reducible rfl)
          simp only [List.set_cons_zero, List.set_cons_succ]
          refine take_at (i := 9) (n := 36) (v := ?_) rfl rfl (by kernel_rfl) (by kernel_rfl) (by kernel_rfl) (fun _ _ _ h => h) (Or.inl ⟨by rfl, ?_⟩) (by assumption) ?_
          rotate_left 1
          · intro wz hSw
            obtain ⟨s0, s1, s2, s3, s4, s5, s6, s7⟩ := hSw
            first | (go_simp; done) | (go_simp; with_reducible rfl)
          simp only [List.set_cons_zero, List.set_cons_succ]
          refine wpAnyH_ready (rs := [10]) (by kernel_rfl) (by simp) ?_
          refine AllReadyH.cons rfl (fun K hK => ?_) AllReadyH.nil
          go_simp
          go_wp2_with (go_at_call 25; refine (HBe _).mono ?_; rintro r w9 ⟨rfl, hb9⟩)
          have H9 : Hid (Below w3.heap.size w3 w9) := below_seq H8.out hb9
          refine hK.out _ _ ⟨below_cell H9.out x0, below_cell H9.out x1, below_cell H9.out x2, below_cell H9.out x3, below_cell H9.out x4, below_cell H9.out x5, below_cell H9.out x6, below_cell H9.out xt⟩ (fun hHeld => ?_)
          clear hb9
          clear hK K
          try simp only [List.set_cons_zero, List.set_cons_succ]
          refine take_at (i := 11) (n := 38) (v := ?_) rfl rfl (by kernel_rfl) (by kernel_rfl) (by kernel_rfl) (fun _ _ _ h => h) (Or.inl ⟨by rfl, ?_⟩) (by assumption) ?_
          rotate_left 1
          · intro wz hSw
            obtain ⟨s0, s1, s2, s3, s4, s5, s6, s7⟩ := hSw
            first | (go_simp; done) | (go_simp; with_reducible rfl)
          simp only [List.set_cons_zero, List.set_cons_succ]
          refine take_at (i := 12) (n := 39) (v := ?_) rfl rfl (by kernel_rfl) (by kernel_rfl) (by kernel_rfl) (fun _ _ _ h => h) (Or.inl ⟨by rfl, ?_⟩) (by assumption) ?_
          rotate_left 1
          · intro wz hSw
            obtain ⟨s0, s1, s2, s3, s4, s5, s6, s7⟩ := hSw
            first | (go_simp; done) | (go_simp; with_reducible rfl)
          simp only [List.set_cons_zero, List.set_cons_succ]
          refine take_at (i := 13) (n := 40) (v := ?_) rfl rfl (by kernel_rfl) (by kernel_rfl) (by kernel_rfl) (fun _ _ _ h => h) (Or.inl ⟨by rfl, ?_⟩) (by assumption) ?_
          rotate_left 1
          · intro wz hSw
            obtain ⟨s0, s1, s2, s3, s4, s5, s6, s7⟩ := hSw
            first | (go_simp; done) | (go_simp; with_reducible rfl)
          simp only [List.set_cons_zero, List.set_cons_succ]
          refine take_at (i := 14) (n := 41) (v := ?_) rfl rfl (by kernel_rfl) (by kernel_rfl) (by kernel_rfl) (fun _ _ _ h => h) (Or.inl ⟨by rfl, ?_⟩) (by assumption) ?_
          rotate_left 1
          · intro wz hSw
            obtain ⟨s0, s1, s2, s3, s4, s5, s6, s7⟩ := hSw
            first | (go_simp; done) | (go_simp; with_reducible rfl)
          simp only [List.set_cons_zero, List.set_cons_succ]
          refine take_at (i := 15) (n := 42) (v := ?_) rfl rfl (by kernel_rfl) (by kernel_rfl) (by kernel_rfl) (fun _ _ _ h => h) (Or.inl ⟨by rfl, ?_⟩) (by assumption) ?_
          rotate_left 1
          · intro wz hSw
            obtain ⟨s0, s1, s2, s3, s4, s5, s6, s7⟩ := hSw
            first | (go_simp; done) | (go_simp; with_reducible rfl)
          simp only [List.set_cons_zero, List.set_cons_succ]
          refine take_at (i := 16) (n := 43) (v := ?_) rfl rfl (by kernel_rfl) (by kernel_rfl) (by kernel_rfl) (fun _ _ _ h => h) (Or.inl ⟨by rfl, ?_⟩) (by assumption) ?_
          rotate_left 1
          · intro wz hSw
            obtain ⟨s0, s1, s2, s3, s4, s5, s6, s7⟩ := hSw
            first | (go_simp; done) | (go_simp; with_reducible rfl)
          simp only [List.set_cons_zero, List.set_cons_succ]
          refine take_at (i := 17) (n := 44) (v := ?_) rfl rfl (by kernel_rfl) (by kernel_rfl) (by kernel_rfl) (fun _ _ _ h => h) (Or.inl ⟨by rfl, ?_⟩) (by assumption) ?_
          rotate_left 1
          · intro wz hSw
            obtain ⟨s0, s1, s2, s3, s4, s5, s6, s7⟩ := hSw
            first | (go_simp; done) | (go_simp; with_reducible rfl)
          simp only [List.set_cons_zero, List.set_cons_succ]
          refine take_at (i := 18) (n := 45) (v := ?_) rfl rfl (by kernel_rfl) (by kernel_rfl) (by kernel_rfl) (fun _ _ _ h => h) (Or.inl ⟨by rfl, ?_⟩) (by assumption) ?_
          rotate_left 1
          · intro wz hSw
            obtain ⟨s0, s1, s2, s3, s4, s5, s6, s7⟩ := hSw
            first | (go_simp; done) | (go_simp; with_reducible rfl)
          simp only [List.set_cons_zero, List.set_cons_succ]
          refine take_at (i := 19) (n := 46) (v := ?_) rfl rfl (by kernel_rfl) (by kernel_rfl) (by kernel_rfl) (fun _ _ _ h => h) (Or.inl ⟨by rfl, ?_⟩) (by assumption) ?_
          rotate_left 1
          · intro wz hSw
            obtain ⟨s0, s1, s2, s3, s4, s5, s6, s7⟩ := hSw
            first | (go_simp; done) | (go_simp; with_reducible rfl)
          simp only [List.set_cons_zero, List.set_cons_succ]
          refine take_at (i := 20) (n := 47) (v := ?_) rfl rfl (by kernel_rfl) (by kernel_rfl) (by kernel_rfl) (fun _ _ _ h => h) (Or.inl ⟨by rfl, ?_⟩) (by assumption) ?_
          rotate_left 1
          · intro wz hSw
            obtain ⟨s0, s1, s2, s3, s4, s5, s6, s7⟩ := hSw
            first | (go_simp; done) | (go_simp; with_reducible rfl)
          simp only [List.set_cons_zero, List.set_cons_succ]
          refine take_at (i := 21) (n := 48) (v := ?_) rfl rfl (by kernel_rfl) (by kernel_rfl) (by kernel_rfl) (fun _ _ _ h => h) (Or.inl ⟨by rfl, ?_⟩) (by assumption) ?_
          rotate_left 1
          · intro wz hSw
            obtain ⟨s0, s1, s2, s3, s4, s5, s6, s7⟩ := hSw
            first | (go_simp; done) | (go_simp; with_reducible rfl)
          simp only [List.set_cons_zero, List.set_cons_succ]
          refine take_at (i := 22) (n := 49) (v := ?_) rfl rfl (by kernel_rfl) (by kernel_rfl) (by kernel_rfl) (fun _ _ _ h => h) (Or.inl ⟨by rfl, ?_⟩) (by assumption) ?_
          rotate_left 1
          · intro wz hSw
            obtain ⟨s0, s1, s2, s3, s4, s5, s6, s7⟩ := hSw
            first | (go_simp; done) | (go_simp; with_reducible rfl)
          simp only [List.set_cons_zero, List.set_cons_succ]
          refine take_at (i := 23) (n := 50) (v := ?_) rfl rfl (by kernel_rfl) (by kernel_rfl) (by kernel_rfl) (fun _ _ _ h => h) (Or.inl ⟨by rfl, ?_⟩) (by assumption) ?_
          rotate_left 1
          · intro wz hSw
            obtain ⟨s0, s1, s2, s3, s4, s5, s6, s7⟩ := hSw
            first | (go_simp; done) | (go_simp; with_reducible rfl)
          simp only [List.set_cons_zero, List.set_cons_succ]
          refine take_at (i := 24) (n := 26) (v := ?_) rfl rfl (by kernel_rfl) (by kernel_rfl) (by kernel_rfl) (fun _ _ _ h => h) (Or.inl ⟨by rfl, ?_⟩) (by assumption) ?_
          rotate_left 1
          · intro wz hSw
            obtain ⟨s0, s1, s2, s3, s4, s5, s6, s7⟩ := hSw
            first | (go_simp; done) | (go_simp; with_reducible rfl)
          simp only [List.set_cons_zero, List.set_cons_succ]
          refine wpAnyH_done (by kernel_rfl) ?_ _
          refine NoPanic.normal ?_
          clear hHeld
          go_wp2_with fail
          go_ret
          exact ⟨rfl, below_seq H3.out.1 H9.out⟩
        · have h9 : rs = 12 := by rw [hrs, if_pos (.inr htt)]
          subst h9
          clear hrs
          have htb : (t != ta) = true := by simpa using htt
          refine wp_region_noPanic ?_
          refine wp_region_held_drew (S := fun w' => w'.cell? ⟨w.heap.size, 0, none⟩ = some (.int .i64 co) ∧ w'.cell? ⟨w.heap.size, 1, none⟩ = some (.int .i64 (fn : Int)) ∧ w'.cell? ⟨w.heap.size, 2, none⟩ = some (.int .i64 se) ∧ w'.cell? ⟨w.heap.size, 3, none⟩ = some (.int .i64 c) ∧ w'.cell? ⟨w.heap.size, 4, none⟩ = some (.int .i64 t) ∧ w'.cell? ⟨w.heap.size, 5, none⟩ = some (.int .i64 d) ∧ w'.cell? ⟨w.heap.size, 6, none⟩ = some (.int .i64 p) ∧ w'.cell? ⟨b, o + fn * 7 + 4, none⟩ = some (.int .i64 ta)) (by kernel_rfl) ⟨by go_simp, by go_simp, by go_simp, by go_simp, by go_simp, by go_simp, by go_simp, by go_simp⟩ (fun hHeld => ?_)
          refine take_at (i := 0) (n := 27) (v := ?_) rfl rfl (by kernel_rfl) (by kernel_rfl) (by kernel_rfl) (fun _ _ _ h => h) (Or.inl ⟨by rfl, ?_⟩) (by assumption) ?_
          rotate_left 1
          · intro wz hSw
            obtain ⟨s0, s1, s2, s3, s4, s5, s6, s7⟩ := hSw
            first | (go_simp; done) | (go_simp; with_reducible rfl)
          simp only [List.set_cons_zero, List.set_cons_succ]
          refine take_at (i := 1) (n := 28) (v := ?_) rfl rfl (by kernel_rfl) (by kernel_rfl) (by kernel_rfl) (fun _ _ _ h => h) (Or.inl ⟨by rfl, ?_⟩) (by assumption) ?_
          rotate_left 1
          · intro wz hSw
            obtain ⟨s0, s1, s2, s3, s4, s5, s6, s7⟩ := hSw
            first | (go_simp; done) | (go_simp; with_reducible rfl)
          simp only [List.set_cons_zero, List.set_cons_succ]
          refine take_at (i := 2) (n := 29) (v := ?_) rfl rfl (by kernel_rfl) (by kernel_rfl) (by kernel_rfl) (fun _ _ _ h => h) (Or.inl ⟨by rfl, ?_⟩) (by assumption) ?_
          rotate_left 1
          · intro wz hSw
            obtain ⟨s0, s1, s2, s3, s4, s5, s6, s7⟩ := hSw
            first | (go_simp; done) | (go_simp; with_reducible rfl)
          simp only [List.set_cons_zero, List.set_cons_succ]
          refine take_at (i := 3) (n := 30) (v := ?_) rfl rfl (by kernel_rfl) (by kernel_rfl) (by kernel_rfl) (fun _ _ _ h => h) (Or.inl ⟨by rfl, ?_⟩) (by assumption) ?_
          rotate_left 1
          · intro wz hSw
            obtain ⟨s0, s1, s2, s3, s4, s5, s6, s7⟩ := hSw
            first | (go_simp; done) | (go_simp; with_reducible rfl)
          simp only [List.set_cons_zero, List.set_cons_succ]
          refine take_at (i := 4) (n := 31) (v := ?_) rfl rfl (by kernel_rfl) (by kernel_rfl) (by kernel_rfl) (fun _ _ _ h => h) (Or.inl ⟨by rfl, ?_⟩) (by assumption) ?_
          rotate_left 1
          · intro wz hSw
            obtain ⟨s0, s1, s2, s3, s4, s5, s6, s7⟩ := hSw
            first | (go_simp; done) | (go_simp; with_reducible rfl)
          simp only [List.set_cons_zero, List.set_cons_succ]
          refine take_at (i := 5) (n := 32) (v := ?_) rfl rfl (by kernel_rfl) (by kernel_rfl) (by kernel_rfl) (fun _ _ _ h => h) (Or.inl ⟨by rfl, ?_⟩) (by assumption) ?_
          rotate_left 1
          · intro wz hSw
            obtain ⟨s0, s1, s2, s3, s4, s5, s6, s7⟩ := hSw
            first | (go_simp; done) | (go_simp; with_reducible rfl)
          simp only [List.set_cons_zero, List.set_cons_succ]
          refine wpAnyH_ready (rs := [6]) (by kernel_rfl) (by simp) ?_
          refine AllReadyH.cons rfl (fun K hK => ?_) AllReadyH.nil
          go_simp
          go_wp2_with (go_at_call 22; refine (withinC_any _ _ _ _).mono ?_; rintro r w8 ⟨rfl, rfl⟩)
          have H8 : Hid (Below w3.heap.size w3 w3.drew) := (Below.refl _ _).drew
          refine hK.out _ _ ⟨below_cell H8.out x0, below_cell H8.out x1, below_cell H8.out x2, below_cell H8.out x3, below_cell H8.out x4, below_cell H8.out x5, below_cell H8.out x6, below_cell H8.out xt⟩ (fun hHeld => ?_)
          clear hK K
          try simp only [List.set_cons_zero, List.set_cons_succ]
          refine take_at (i := 7) (n := 34) (v := ?_) rfl rfl (by kernel_rfl) (by kernel_rfl) (by kernel_rfl) (fun _ _ _ h => h) (Or.inl ⟨by rfl, ?_⟩) (by assumption) ?_
          rotate_left 1
          · intro wz hSw
            obtain ⟨s0, s1, s2, s3, s4, s5, s6, s7⟩ := hSw
            first | (go_simp; done) | (go_simp; with_reducible rfl)
          simp only [List.set_cons_zero, List.set_cons_succ]
          refine take_at (i := 8) (n := 35) (v := ?_) rfl rfl (by kernel_rfl) (by kernel_rfl) (by kernel_rfl) (fun _ _ _ h => h) (Or.inl ⟨by rfl, ?_⟩) (by assumption) ?_
          rotate_left 1
          · intro wz hSw
            obtain ⟨s0, s1, s2, s3, s4, s5, s6, s7⟩ := hSw
            first | (go_simp; done) | (go_simp; with_reducible rfl)
          simp only [List.set_cons_zero, List.set_cons_succ]
          refine take_at (i := 9) (n := 36) (v := ?_) rfl rfl (by kernel_rfl) (by kernel_rfl) (by kernel_rfl) (fun _ _ _ h => h) (Or.inl ⟨by rfl, ?_⟩) (by assumption) ?_
          rotate_left 1
          · intro wz hSw
            obtain ⟨s0, s1, s2, s3, s4, s5, s6, s7⟩ := hSw
            first | (go_simp; done) | (go_simp; with_reducible rfl)
          simp only [List.set_cons_zero, List.set_cons_succ]
          refine wpAnyH_ready (rs := [10]) (by kernel_rfl) (by simp) ?_
          refine AllReadyH.cons rfl (fun K hK => ?_) AllReadyH.nil
          go_simp
          go_wp2_with (go_at_call 25; refine (HBe _).mono ?_; rintro r w9 ⟨rfl, hb9⟩)
          have H9 : Hid (Below w3.heap.size w3 w9) := below_seq H8.out hb9
          refine hK.out _ _ ⟨below_cell H9.out x0, below_cell H9.out x1, below_cell H9.out x2, below_cell H9.out x3, below_cell H9.out x4, below_cell H9.out x5, below_cell H9.out x6, below_cell H9.out xt⟩ (fun hHeld => ?_)
          clear hb9
          clear hK K
          try simp only [List.set_cons_zero, List.set_cons_succ]
          refine take_at (i := 11) (n := 38) (v := ?_) rfl rfl (by kernel_rfl) (by kernel_rfl) (by kernel_rfl) (fun _ _ _ h => h) (Or.inl ⟨by rfl, ?_⟩) (by assumption) ?_
          rotate_left 1
          · intro wz hSw
            obtain ⟨s0, s1, s2, s3, s4, s5, s6, s7⟩ := hSw
            first | (go_simp; done) | (go_simp; with_reducible rfl)
          simp only [List.set_cons_zero, List.set_cons_succ]
          refine take_at (i := 12) (n := 39) (v := ?_) rfl rfl (by kernel_rfl) (by kernel_rfl) (by kernel_rfl) (fun _ _ _ h => h) (Or.inl ⟨by rfl, ?_⟩) (by assumption) ?_
          rotate_left 1
          · intro wz hSw
            obtain ⟨s0, s1, s2, s3, s4, s5, s6, s7⟩ := hSw
            first | (go_simp; done) | (go_simp; with_reducible rfl)
          simp only [List.set_cons_zero, List.set_cons_succ]
          refine take_at (i := 13) (n := 40) (v := ?_) rfl rfl (by kernel_rfl) (by kernel_rfl) (by kernel_rfl) (fun _ _ _ h => h) (Or.inl ⟨by rfl, ?_⟩) (by assumption) ?_
          rotate_left 1
          · intro wz hSw
            obtain ⟨s0, s1, s2, s3, s4, s5, s6, s7⟩ := hSw
            first | (go_simp; done) | (go_simp; with_reducible rfl)
          simp only [List.set_cons_zero, List.set_cons_succ]
          refine take_at (i := 14) (n := 41) (v := ?_) rfl rfl (by kernel_rfl) (by kernel_rfl) (by kernel_rfl) (fun _ _ _ h => h) (Or.inl ⟨by rfl, ?_⟩) (by assumption) ?_
          rotate_left 1
          · intro wz hSw
            obtain ⟨s0, s1, s2, s3, s4, s5, s6, s7⟩ := hSw
            first | (go_simp; done) | (go_simp; with_reducible rfl)
          simp only [List.set_cons_zero, List.set_cons_succ]
          refine take_at (i := 15) (n := 42) (v := ?_) rfl rfl (by kernel_rfl) (by kernel_rfl) (by kernel_rfl) (fun _ _ _ h => h) (Or.inl ⟨by rfl, ?_⟩) (by assumption) ?_
          rotate_left 1
          · intro wz hSw
            obtain ⟨s0, s1, s2, s3, s4, s5, s6, s7⟩ := hSw
            first | (go_simp; done) | (go_simp; with_reducible rfl)
          simp only [List.set_cons_zero, List.set_cons_succ]
          refine take_at (i := 16) (n := 43) (v := ?_) rfl rfl (by kernel_rfl) (by kernel_rfl) (by kernel_rfl) (fun _ _ _ h => h) (Or.inl ⟨by rfl, ?_⟩) (by assumption) ?_
          rotate_left 1
          · intro wz hSw
            obtain ⟨s0, s1, s2, s3, s4, s5, s6, s7⟩ := hSw
            first | (go_simp; done) | (go_simp; with_reducible rfl)
          simp only [List.set_cons_zero, List.set_cons_succ]
          refine take_at (i := 17) (n := 44) (v := ?_) rfl rfl (by kernel_rfl) (by kernel_rfl) (by kernel_rfl) (fun _ _ _ h => h) (Or.inl ⟨by rfl, ?_⟩) (by assumption) ?_
          rotate_left 1
          · intro wz hSw
            obtain ⟨s0, s1, s2, s3, s4, s5, s6, s7⟩ := hSw
            first | (go_simp; done) | (go_simp; with_reducible rfl)
          simp only [List.set_cons_zero, List.set_cons_succ]
          refine take_at (i := 18) (n := 45) (v := ?_) rfl rfl (by kernel_rfl) (by kernel_rfl) (by kernel_rfl) (fun _ _ _ h => h) (Or.inl ⟨by rfl, ?_⟩) (by assumption) ?_
          rotate_left 1
          · intro wz hSw
            obtain ⟨s0, s1, s2, s3, s4, s5, s6, s7⟩ := hSw
            first | (go_simp; done) | (go_simp; with_reducible rfl)
          simp only [List.set_cons_zero, List.set_cons_succ]
          refine take_at (i := 19) (n := 46) (v := ?_) rfl rfl (by kernel_rfl) (by kernel_rfl) (by kernel_rfl) (fun _ _ _ h => h) (Or.inl ⟨by rfl, ?_⟩) (by assumption) ?_
          rotate_left 1
          · intro wz hSw
            obtain ⟨s0, s1, s2, s3, s4, s5, s6, s7⟩ := hSw
            first | (go_simp; done) | (go_simp; with_reducible rfl)
          simp only [List.set_cons_zero, List.set_cons_succ]
          refine take_at (i := 20) (n := 47) (v := ?_) rfl rfl (by kernel_rfl) (by kernel_rfl) (by kernel_rfl) (fun _ _ _ h => h) (Or.inl ⟨by rfl, ?_⟩) (by assumption) ?_
          rotate_left 1
          · intro wz hSw
            obtain ⟨s0, s1, s2, s3, s4, s5, s6, s7⟩ := hSw
            first | (go_simp; done) | (go_simp; with_reducible rfl)
          simp only [List.set_cons_zero, List.set_cons_succ]
          refine take_at (i := 21) (n := 48) (v := ?_) rfl rfl (by kernel_rfl) (by kernel_rfl) (by kernel_rfl) (fun _ _ _ h => h) (Or.inl ⟨by rfl, ?_⟩) (by assumption) ?_
          rotate_left 1
          · intro wz hSw
            obtain ⟨s0, s1, s2, s3, s4, s5, s6, s7⟩ := hSw
            first | (go_simp; done) | (go_simp; with_reducible rfl)
          simp only [List.set_cons_zero, List.set_cons_succ]
          refine take_at (i := 22) (n := 49) (v := ?_) rfl rfl (by kernel_rfl) (by kernel_rfl) (by kernel_rfl) (fun _ _ _ h => h) (Or.inl ⟨by rfl, ?_⟩) (by assumption) ?_
          rotate_left 1
          · intro wz hSw
            obtain ⟨s0, s1, s2, s3, s4, s5, s6, s7⟩ := hSw
            first | (go_simp; done) | (go_simp; with_reducible rfl)
          simp only [List.set_cons_zero, List.set_cons_succ]
          refine take_at (i := 23) (n := 50) (v := ?_) rfl rfl (by kernel_rfl) (by kernel_rfl) (by kernel_rfl) (fun _ _ _ h => h) (Or.inl ⟨by rfl, ?_⟩) (by assumption) ?_
          rotate_left 1
          · intro wz hSw
            obtain ⟨s0, s1, s2, s3, s4, s5, s6, s7⟩ := hSw
            first | (go_simp; done) | (go_simp; with_reducible rfl)
          simp only [List.set_cons_zero, List.set_cons_succ]
          refine take_at (i := 24) (n := 26) (v := ?_) rfl rfl (by kernel_rfl) (by kernel_rfl) (by kernel_rfl) (fun _ _ _ h => h) (Or.inl ⟨by rfl, ?_⟩) (by assumption) ?_
          rotate_left 1
          · intro wz hSw
            obtain ⟨s0, s1, s2, s3, s4, s5, s6, s7⟩ := hSw
            first | (go_simp; done) | (go_simp; with_reducible rfl)
          simp only [List.set_cons_zero, List.set_cons_succ]
          refine wpAnyH_done (by kernel_rfl) ?_ _
          refine NoPanic.normal ?_
          clear hHeld
          go_wp2_with fail
          go_ret
          exact ⟨rfl, below_seq H3.out.1 H9.out⟩
end Go.Proofs.Ytccoobcggbbciam
namespace Go.Proofs.Ytccoobcggbbciam
open Go.ChangeShapes Go.WideShapes Go.ChangeAt Go.RowKit

theorem CheckC_ends {w : World} {g : Nat} {c k : Value} {a : Act} (h : w.heap[g]? = some (.cells #[c, k] 29 (0, 0))) (h3 : a.tmps[2]?.getD undef = .pointer (some ⟨g, 0, none⟩)) :
    (results Try.f11 a.tmps).run Try.prog w = .ok (.agg #[c, k]) w := by
  obtain ⟨c1, f1, l1⟩ := cells_of (l := [_, _]) h
  have c10 := c1 0 _ rfl
  have c11 := c1 1 _ rfl
  simp [results, Try.results11, go_sem, h3, c10, c11]

theorem FB.res2 {w W : World} {g : Nat} (h : FB w W g) : W.cell? ⟨g, 0, none⟩ = some (.int .i64 0) ∧ W.cell? ⟨g, 1, none⟩ = some (.int .i64 0) ∧ W.frozen? ⟨g, 0, none⟩ = false ∧ W.frozen? ⟨g, 1, none⟩ = false ∧ g < W.heap.size := by
  obtain ⟨c, f, l⟩ := cells_of (l := [_, _]) h.res
  exact ⟨c 0 _ rfl, c 1 _ rfl, f 0, f 1, l⟩


theorem rowP_take {W : World} {l : List Pa} {ad : Option Addr} {c j : Nat} (h : RowSl Pa.vals W l (.slice ad l.length c)) (hj : j ≤ l.length) (hl : 0 < l.length) : RowSl Pa.vals W (l.take j) (.slice ad j c) := by
  obtain ⟨ad', c', he, hn, hcap, hrow⟩ := h
  cases he
  rcases hrow with h | ⟨b, o, rfl, hrow⟩
  · rw [h] at hl; simp at hl
  · have hlt : (l.take j).length = j := by rw [List.length_take]; omega
    refine ⟨_, c, by rw [hlt], (fun e => by cases e), by omega, .inr ⟨b, o, rfl, fun q u hq => hrow q u ?_⟩⟩
    have e1 : l.flatMap Pa.vals = (l.take j).flatMap Pa.vals ++ (l.drop j).flatMap Pa.vals := by rw [← List.flatMap_append, List.take_append_drop]
    rw [e1, List.getElem?_append_left (List.getElem?_eq_some_iff.1 hq).1]
    exact hq

set_option maxRecDepth 20000 in
set_option maxHeartbeats 8000000 in
theorem CheckC_any (w : World) (l : List Pa) (v : Value) (hv : RowSl Pa.vals w l v) : Calls Try.prog 11 #[v] w fun r w' => r = .returned (.agg #[.int .i64 (chkP l).1, .int .i64 (chkP l).2]) ∧ Below w.heap.size w w' := by
  obtain ⟨ad, c, rfl⟩ := hv.len
  have HV : Hid (RowSl Pa.vals w l (.slice ad l.length c)) := hv
  have H0 : Hid (FB w (w.alloc (.cells #[.int .i64 0, .int .i64 0] 29)) w.heap.size) := FB.start w
  clear hv
  obtain ⟨z1, hz1⟩ : ∃ z1, (chkP l).1 = z1 := ⟨_, rfl⟩
  obtain ⟨z2, hz2⟩ : ∃ z2, (chkP l).2 = z2 := ⟨_, rfl⟩
  have HZ : Hid (chkP l = (z1, z2)) := Prod.ext hz1 hz2
  rw [hz1, hz2]
  clear hz1 hz2
  rcases hw : within (l.length : Int) 1 8 with _ | _
  · have h9 : ((2 : Int), (0 : Int)) = (z1, z2) := by rw [← HZ.out]; unfold chkP; rw [if_pos hw]
    obtain ⟨rfl, rfl⟩ := Prod.mk.inj h9
    go_enter Try.func11, Try.ntmps11
    go_wp2_with (go_at_call 22; refine (withinC_any _ _ _ _).mono ?_; rintro r w1 ⟨rfl, rfl⟩; rw [hw])
    refine bodyPost_ret (CheckC_ends (heap_alloc_new _ _) rfl) rfl ?_
    exact ⟨rfl, below_new _ _⟩
  have hl8 : 1 ≤ l.length ∧ l.length ≤ 8 := by
    unfold within at hw
    simp at hw
    omega
  have HC : Hid (chkGo [] l = (z1, z2)) := by
    have h9 : chkGo [] l = (z1, z2) := by rw [← HZ.out]; unfold chkP; rw [if_neg (by rw [hw]; simp)]
    exact h9
  go_enter Try.func11, Try.ntmps11
  go_wp2_with (go_at_call 22; refine (withinC_any _ _ _ _).mono ?_; rintro r w1 ⟨rfl, hw1⟩; have hw2 := hw1.symm; clear hw1; rw [hw])
  have H1 : Hid (FB w w1 w.heap.size) := by rw [← hw2]; exact H0
  clear hw2 H0
  go_loopw [13] (fun iv wr => ∃ j : Nat, j ≤ l.length ∧ iv = .int .i64 (j : Int) ∧ FB w wr w.heap.size ∧ chkGo (l.take j) (l.drop j) = chkGo [] l) (fun iv _ => l.length - (intOf iv).toNat)
  case atStart => exact ⟨0, Nat.zero_le _, rfl, H1.out, rfl⟩
  case round =>
    obtain ⟨j, hj, rfl, hfb, hgo⟩ := hrel
    have HP : Hid (FB w wr w.heap.size ∧ chkGo (l.take j) (l.drop j) = chkGo [] l) := ⟨hfb, hgo⟩
    clear hfb hgo H1
    by_cases hjl : j < l.length
    · obtain ⟨x, hx, hdr⟩ := drop_at hjl
      have htk : l.take (j + 1) = l.take j ++ [x] := by rw [List.take_add_one, hx]; rfl
      have hvt := rowP_take HV.out hj (by omega)
      obtain ⟨ad', c', he, -, hcap, hrow⟩ := HV.out
      cases he
      rcases hrow with h | ⟨b, o, rfl, hrow⟩
      · rw [h] at hjl; simp at hjl
      obtain ⟨y0, y1, y2, y3, y4, y5, y6⟩ := pa7_at (fun q u hq => below_cell HP.out.1.bel (hrow q u hq)) hx
      have HX : Hid (l.drop j = x :: l.drop (j + 1) ∧ l.take (j + 1) = l.take j ++ [x]) := ⟨hdr, htk⟩
      have lb : b < wr.heap.size := World.block_lt_of_cell? _ _ y0
      have hji : (j : Int) < (l.length : Int) := by omega
      have hcj : j ≤ c := by omega
      have hjc : (j : Int) ≤ (c : Int) := by omega
      have HF0 : Hid (∀ W W', Below w.heap.size w W → Below W.heap.size W W' → Calls Try.prog 23 #[x.val, .slice (some ⟨b, o, none⟩) j c] W' fun r w' => r = .returned (.int .i64 (wrongP x (l.take j))) ∧ Below W'.heap.size W' w') := fun W W' h1 h2 => wrongC_any W' x (l.take j) _ (by rw [List.length_take]; omega) ((hvt.below h1).below h2)
      clear hrow hx htk hvt hdr
      obtain ⟨fc, hfc⟩ : ∃ fc, wrongP x (l.take j) = fc := ⟨_, rfl⟩
      have HFC : Hid (wrongP x (l.take j) = fc) := hfc
      rw [hfc] at HF0
      clear hfc
      obtain ⟨co, fr, se, c', t, d, p⟩ := x
      unfold Pa.val at HF0
      dsimp only at y0 y1 y2 y3 y4 y5 y6 HF0
      go_upto_region 6 with fail
      have H3 : Hid (FB w (wr.alloc (.cells #[.int .i64 co, .int .i64 fr, .int .i64 se, .int .i64 c', .int .i64 t, .int .i64 d, .int .i64 p] 35)) w.heap.size ∧ (wr.alloc (.cells #[.int .i64 co, .int .i64 fr, .int .i64 se, .int .i64 c', .int .i64 t, .int .i64 d, .int .i64 p] 35)).heap[wr.heap.size]? = some (.cells #[.int .i64 co, .int .i64 fr, .int .i64 se, .int .i64 c', .int .i64 t, .int .i64 d, .int .i64 p] 35 (0, 0))) := ⟨HP.out.1.grow (below_new _ _), heap_alloc_new _ _⟩
      clear y0 y1 y2 y3 y4 y5 y6 lb
      generalize wr.alloc (.cells #[.int .i64 co, .int .i64 fr, .int .i64 se, .int .i64 c', .int .i64 t, .int .i64 d, .int .i64 p] 35) = w3 at *
      generalize wr.heap.size = gt at *
      obtain ⟨xs, -, xl⟩ := cells_of (l := [_, _, _, _, _, _, _]) H3.out.2
      have x0 := xs 0 _ rfl
      have x1 := xs 1 _ rfl
      have x2 := xs 2 _ rfl
      have x3 := xs 3 _ rfl
      have x4 := xs 4 _ rfl
      have x5 := xs 5 _ rfl
      have x6 := xs 6 _ rfl
      clear xs
      have HF : Hid (∀ W, Below w3.heap.size w3 W → Calls Try.prog 23 #[.agg #[.int .i64 co, .int .i64 fr, .int .i64 se, .int .i64 c', .int .i64 t, .int .i64 d, .int .i64 p], .slice (some ⟨b, o, none⟩) j c] W fun r w' => r = .returned (.int .i64 fc) ∧ Below W.heap.size W w') := fun W h => HF0.out w3 W H3.out.1.bel h
      refine wp_region_noPanic ?_
      refine wp_region_held_drew (S := fun w' => w'.cell? ⟨gt, 0, none⟩ = some (.int .i64 co) ∧ w'.cell? ⟨gt, 1, none⟩ = some (.int .i64 fr) ∧ w'.cell? ⟨gt, 2, none⟩ = some (.int .i64 se) ∧ w'.cell? ⟨gt, 3, none⟩ = some (.int .i64 c') ∧ w'.cell? ⟨gt, 4, none⟩ = some (.int .i64 t) ∧ w'.cell? ⟨gt, 5, none⟩ = some (.int .i64 d) ∧ w'.cell? ⟨gt, 6, none⟩ = some (.int .i64 p)) (by kernel_rfl) ⟨by go_simp, by go_simp, by go_simp, by go_simp, by go_simp, by go_simp, by go_simp⟩ (fun hHeld => ?_)
      refine take_at (i := 0) (n := 18) (v := ?_) rfl rfl (by kernel_rfl) (by kernel_rfl) (by kernel_rfl) (fun _ _ _ h => h) (Or.inl ⟨by rfl, ?_⟩) (by assumption) ?_
      rotate_left 1
      · intro wz hSw
        obtain ⟨s0, s1, s2, s3, s4, s5, s6⟩ := hSw
        first | (go_simp; done) | (go_simp; with_reducible rfl)
      simp only [List.set_cons_zero, List.set_cons_succ]
      refine take_at (i := 1) (n := 19) (v := ?_) rfl rfl (by kernel_rfl) (by kernel_rfl) (by kernel_rfl) (fun _ _ _ h => h) (Or.inl ⟨by rfl, ?_⟩) (by assumption) ?_
      rotate_left 1
      · intro wz hSw
        obtain ⟨s0, s1, s2, s3, s4, s5, s6⟩ := hSw
        first | (go_simp; done) | (go_simp; with_reducible rfl)
      simp only [List.set_cons_zero, List.set_cons_succ]
      refine take_at (i := 2) (n := 20) (v := ?_) rfl rfl (by kernel_rfl) (by kernel_rfl) (by kernel_rfl) (fun _ _ _ h => h) (Or.inl ⟨by rfl, ?_⟩) (by assumption) ?_
      rotate_left 1
      · intro wz hSw
        obtain ⟨s0, s1, s2, s3, s4, s5, s6⟩ := hSw
        first | (go_simp; done) | (go_simp; with_reducible rfl)
      simp only [List.set_cons_zero, List.set_cons_succ]
      refine take_at (i := 3) (n := 21) (v := ?_) rfl rfl (by kernel_rfl) (by kernel_rfl) (by kernel_rfl) (fun _ _ _ h => h) (Or.inl ⟨by rfl, ?_⟩) (by assumption) ?_
      rotate_left 1
      · intro wz hSw
        obtain ⟨s0, s1, s2, s3, s4, s5, s6⟩ := hSw
        first | (go_simp; done) | (go_simp; with_reducible rfl)
      simp only [List.set_cons_zero, List.set_cons_succ]
      refine wpAnyH_ready (rs := [4]) (by kernel_rfl) (by simp) ?_
      refine AllReadyH.cons rfl (fun K hK => ?_) AllReadyH.nil
      go_simp
      go_wp2_with (go_at_call 23; refine (HF.out _ (Below.refl _ _).drew).mono ?_; rintro r w4 ⟨rfl, hb4⟩)
      have H4 : Hid (Below w3.heap.size w3 w4) := below_seq (Below.refl _ _).drew hb4
      refine hK.out _ _ ⟨below_cell H4.out x0, below_cell H4.out x1, below_cell H4.out x2, below_cell H4.out x3, below_cell H4.out x4, below_cell H4.out x5, below_cell H4.out x6⟩ (fun hHeld => ?_)
      clear hb4
      clear hK K
      try simp only [List.set_cons_zero, List.set_cons_succ]
      refine take_at (i := 5) (n := 5) (v := ?_) rfl rfl (by kernel_rfl) (by kernel_rfl) (by kernel_rfl) (fun _ _ _ h => h) (Or.inl ⟨by rfl, ?_⟩) (by assumption) ?_
      rotate_left 1
      · intro wz hSw
        obtain ⟨s0, s1, s2, s3, s4, s5, s6⟩ := hSw
        first | (go_simp; done) | (go_simp; with_reducible rfl)
      simp only [List.set_cons_zero, List.set_cons_succ]
      refine wpAnyH_done (by kernel_rfl) ?_ _
      refine NoPanic.normal ?_
      clear hHeld
      have H5 : Hid (FB w w4 w.heap.size) := H3.out.1.grow H4.out
      by_cases hz : fc = 0
      · subst hz
        go_wp2_with fail
        refine ⟨⟨j + 1, by omega, by simp, H5.out, ?_⟩, by simp [intOf]; omega⟩
        have h9 := HP.out.2
        rw [HX.out.1, chkGo, if_neg (by rw [HFC.out]; simp)] at h9
        rw [HX.out.2]
        exact h9
      · have hzb : (fc != 0) = true := by simpa using hz
        have h9 : (fc, (j : Int)) = (z1, z2) := by
          have h8 := HP.out.2
          rw [HX.out.1, chkGo, if_pos (by rw [HFC.out]; exact hz), HFC.out, HC.out, List.length_take, Nat.min_eq_left hj] at h8
          exact h8
        obtain ⟨rfl, rfl⟩ := Prod.mk.inj h9
        obtain ⟨r10, r11, q10, q11, rl⟩ := H5.out.res2
        go_wp2_with fail
        refine bodyPost_ret (CheckC_ends (set_two H5.out.res) rfl) rfl ?_
        exact ⟨rfl, H5.out.set _ _⟩
    · have hje : j = l.length := by omega
      subst hje
      have h9 : ((0 : Int), (0 : Int)) = (z1, z2) := by
        have h8 := HP.out.2
        rw [List.drop_length, HC.out] at h8
        exact h8
      obtain ⟨rfl, rfl⟩ := Prod.mk.inj h9
      obtain ⟨r10, r11, q10, q11, rl⟩ := HP.out.1.res2
      go_wp2_with fail
      refine bodyPost_ret (CheckC_ends (set_two HP.out.1.res) rfl) rfl ?_
      exact ⟨rfl, HP.out.1.set _ _⟩
end Go.Proofs.Ytccoobcggbbciam
