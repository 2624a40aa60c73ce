import Derived.Test.YtcmoehednkaehahGSN
namespace Go.Proofs.Ytcmoehednkaehah
open Go.ChangeShapes Go.WideShapes Go.ChangeAt Go.RowKit

/-- What is proved apart. -/
structure RIB (P : Prop) : Prop where
  out : P

set_option maxRecDepth 20000 in
set_option maxHeartbeats 8000000 in
/-- punctualref.PlayLocked. -/
def SMp : (P0 : Prop) ×' (RIB P0 → ∀ (w : World) (l : List Lj) (v : Value) (_ : LkSl w l v) (_ : chkLk l = (0, 0)) (pr : Int) (_ : pr = 1 ∨ pr = 2 ∨ pr = 3) (U : Nat) (_ : U ≤ 20000), Calls Try.prog 8 #[v, .int .i64 pr, .int .i64 (U : Int)] w fun r w' => ∃ rv ev tv runs x, r = .returned (.tuple #[.agg #[rv, ev, tv, .bool (stuckF U x.es x.en false)], .agg #[.int .i64 0, .int .i64 0]]) ∧ PlayW w w' l.length rv ev tv runs x ∧ runs.length = U ∧ Rn pr l U runs x) := by
  apply PSigma.mk
  · intro hp_loops
    intro w l v hv hok pr hpr U hU
    obtain ⟨ad, cp, hve⟩ := hv.1.len
    subst hve
    have ok : Ok l := ok_of (by rw [hok])
    have hn : l.length ≤ 100 := ok.few
    have hck := chkLk_right (l := l) (by rw [hok])
    have hp1 : ¬ (pr < 1) := by omega
    have hp3 : ¬ (3 < pr) := by omega
    have hU0 : ¬ ((U : Int) < 0) := by omega
    have hU1 : ¬ ((20000 : Int) < (U : Int)) := by omega
    have HC0 := CheckLocked_any ((w.alloc (.cells #[.slice none 0 0, .slice none 0 0, .slice none 0 0, .bool false] 28)).alloc (.cells #[.int .i64 0, .int .i64 0] 31)) l (.slice ad l.length cp) (hv.below (below_seq (below_new _ _) (below_new _ _)))
    rw [hok] at HC0
    have HTp := fun W (hb : Below w.heap.size w W) => Tops_blk W l (.slice ad l.length cp) (hv.below hb) hn (fun x hx => (hck.2 x hx).1)
    have HV : Hid (LkSl w l (.slice ad l.length cp) ∧ Ok l ∧ (pr = 1 ∨ pr = 2 ∨ pr = 3)) := ⟨hv, ok, hpr⟩
    clear hv ok hpr hck hok
    go_enter Try.func8, Try.ntmps8
    go_wp2_with (go_at_call 13; refine HC0.mono ?_; rintro r w1 ⟨rfl, hb1⟩; have H1 : Hid (Below ((w.alloc (.cells #[.slice none 0 0, .slice none 0 0, .slice none 0 0, .bool false] 28)).alloc (.cells #[.int .i64 0, .int .i64 0] 31)).heap.size ((w.alloc (.cells #[.slice none 0 0, .slice none 0 0, .slice none 0 0, .bool false] 28)).alloc (.cells #[.int .i64 0, .int .i64 0] 31)) w1) := hb1; clear hb1 HC0)
    obtain ⟨Wn, hWn⟩ : ∃ Wn, w1.alloc (.cells #[.int .i64 0, .int .i64 0] 31) = Wn := ⟨_, rfl⟩
    rw [hWn]
    have hbn : Below w.heap.size w Wn := by
      rw [← hWn]
      exact below_seq (below_seq (below_seq (below_new _ _) (below_new _ _)) H1.out) (below_new _ _)
    have hs1 : w.heap.size + 2 ≤ w1.heap.size := by have := H1.out.size; simp at this; omega
    have P6 : Wn.heap[w.heap.size]? = some (.cells #[.slice none 0 0, .slice none 0 0, .slice none 0 0, .bool false] 28 (0, 0)) := by
      rw [← hWn, (below_new w1 _).block _ (by omega), H1.out.block _ (by simp <;> omega), (below_new _ _).block _ (by simp <;> omega)]
      exact heap_alloc_new w _
    have P7 : Wn.heap[w.heap.size + 1]? = some (.cells #[.int .i64 0, .int .i64 0] 31 (0, 0)) := by
      rw [← hWn, (below_new w1 _).block _ (by omega), H1.out.block _ (by simp <;> omega)]
      have := heap_alloc_new (w.alloc (.cells #[.slice none 0 0, .slice none 0 0, .slice none 0 0, .bool false] 28)) (.cells #[.int .i64 0, .int .i64 0] 31)
      simpa using this
    have HP : Hid (Below w.heap.size w Wn ∧ Wn.heap[w.heap.size]? = some (.cells #[.slice none 0 0, .slice none 0 0, .slice none 0 0, .bool false] 28 (0, 0)) ∧ Wn.heap[w.heap.size + 1]? = some (.cells #[.int .i64 0, .int .i64 0] 31 (0, 0)) ∧ w.heap.size + 2 ≤ Wn.heap.size) := ⟨hbn, P6, P7, by rw [← hWn]; simp; omega⟩
    generalize w1.heap.size = fb at *
    clear hWn hbn hs1 P6 P7 H1
    refine wp_region_noPanic ?_
    refine wp_region_held_drew (S := fun _ => True) (by kernel_rfl) trivial (fun hHeld => ?_)
    refine take_at (i := 0) (n := 50) (v := ?_) rfl rfl (by kernel_rfl) (by kernel_rfl) (by kernel_rfl) (fun _ _ _ h => h) (Or.inl ⟨by rfl, ?_⟩) (by assumption) ?_
    rotate_left 1
    · intro wz hSw
      first | (go_simp; done) | (go_simp; with_reducible rfl)
    simp only [List.set_cons_zero, List.set_cons_succ]
    refine take_at (i := 1) (n := 51) (v := ?_) rfl rfl (by kernel_rfl) (by kernel_rfl) (by kernel_rfl) (fun _ _ _ h => h) (Or.inl ⟨by rfl, ?_⟩) (by assumption) ?_
    rotate_left 1
    · intro wz hSw
      first | (go_simp; done) | (go_simp; with_reducible rfl)
    simp only [List.set_cons_zero, List.set_cons_succ]
    refine take_at (i := 2) (n := 52) (v := ?_) rfl rfl (by kernel_rfl) (by kernel_rfl) (by kernel_rfl) (fun _ _ _ h => h) (Or.inl ⟨by rfl, ?_⟩) (by assumption) ?_
    rotate_left 1
    · intro wz hSw
      first | (go_simp; done) | (go_simp; with_reducible rfl)
    simp only [List.set_cons_zero, List.set_cons_succ]
    refine take_at (i := 4) (n := 54) (v := ?_) rfl rfl (by kernel_rfl) (by kernel_rfl) (by kernel_rfl) (fun _ _ _ h => h) (Or.inl ⟨by rfl, ?_⟩) (by assumption) ?_
    rotate_left 1
    · intro wz hSw
      first | (go_simp; done) | (go_simp; with_reducible rfl)
    simp only [List.set_cons_zero, List.set_cons_succ]
    refine take_at (i := 6) (n := 56) (v := ?_) rfl rfl (by kernel_rfl) (by kernel_rfl) (by kernel_rfl) (fun _ _ _ h => h) (Or.inl ⟨by rfl, ?_⟩) (by assumption) ?_
    rotate_left 1
    · intro wz hSw
      first | (go_simp; done) | (go_simp; with_reducible rfl)
    simp only [List.set_cons_zero, List.set_cons_succ]
    refine take_at (i := 8) (n := 58) (v := ?_) rfl rfl (by kernel_rfl) (by kernel_rfl) (by kernel_rfl) (fun _ _ _ h => h) (Or.inl ⟨by rfl, ?_⟩) (by assumption) ?_
    rotate_left 1
    · intro wz hSw
      first | (go_simp; done) | (go_simp; with_reducible rfl)
    simp only [List.set_cons_zero, List.set_cons_succ]
    refine take_at (i := 10) (n := 60) (v := ?_) rfl rfl (by kernel_rfl) (by kernel_rfl) (by kernel_rfl) (fun _ _ _ h => h) (Or.inl ⟨by rfl, ?_⟩) (by assumption) ?_
    rotate_left 1
    · intro wz hSw
      first | (go_simp; done) | (go_simp; with_reducible rfl)
    simp only [List.set_cons_zero, List.set_cons_succ]
    refine take_at (i := 12) (n := 62) (v := ?_) rfl rfl (by kernel_rfl) (by kernel_rfl) (by kernel_rfl) (fun _ _ _ h => h) (Or.inl ⟨by rfl, ?_⟩) (by assumption) ?_
    rotate_left 1
    · intro wz hSw
      first | (go_simp; done) | (go_simp; with_reducible rfl)
    simp only [List.set_cons_zero, List.set_cons_succ]
    refine wpAnyH_listed (listed' := #[true, true, true, false, true, false, true, false, true, false, true, false, true, false, false, false, false, false]) (by kernel_rfl) ?_
    refine wpAnyH_fresh (P := Try.prog) [3, 5, 7, 9, 11, 13, 14] (fun i => i + 50) _ _ Wn.drew (Phi9 l) bl9 3 (by decide) (fun i _ j _ h => by omega) (fun i hi => Nat.lt_of_le_of_lt (show i + 50 ≤ 64 by simp at hi; omega) (Nat.lt_of_lt_of_eq (show 64 < 363 by decide) (by rfl))) (by kernel_rfl) ?_ ?_ ?_ ?_ 7 [] (fun _ => undef) _ rfl (by simp) trivial (Below.refl _ _) (by simp) (by simp)
    · rintro i v w w' ⟨g, h1, h2⟩ hb
      exact ⟨g, h1, (hb.block _ (heap_lt h2)).trans h2⟩
    · rintro i v w ⟨g, rfl, h2⟩
      rw [bl_val]
      exact heap_lt h2
    · intro i hi a W2 hsl hsz hdf _ hB
      simp only [List.mem_cons, List.not_mem_nil, or_false] at hi
      have hbw : Below w.heap.size w W2 := below_seq HP.out.1 ((Below.refl _ Wn).drew.trans (hB.mono (by simp)))
      rcases hi with rfl | rfl | rfl | rfl | rfl | rfl | rfl
      · have h52 : a.eval (.tmp 52) = .slice ad l.length cp := eval_tmp ((hsl 52 (by decide)).trans (by rfl))
        refine wpOp_enter (f := 17) (args := #[.slice ad l.length cp]) (w' := W2) rfl rfl ?_ ?_
        · have h52' : a.tmps[52]? = some (.slice ad l.length cp) := (hsl 52 (by decide)).trans (by rfl)
          simp [go_sem, h52']
        · refine (HTp W2 hbw).mono ?_
          rintro r W3 ⟨rfl, h1, h2⟩
          exact ⟨_, rfl, _, rfl, trivial, h2, Nat.le_refl _, W2.heap.size, rfl, h1⟩
      · have h54 : a.eval (.tmp 54) = .int .i64 (l.length : Int) := eval_tmp ((hsl 54 (by decide)).trans (by rfl))
        refine wpOp_value (v := sl0 W2.heap.size l.length) (w' := W2.alloc (obj9 l 5)) rfl rfl ?_ ⟨_, rfl, trivial, below_new _ _, Nat.le_refl _, W2.heap.size, rfl, heap_alloc_new _ _⟩
        have hr := make_row W2 l.length W2.heap.size (by omega) rfl
        simp [execOp, h54, hr, Result.andThen]
        exact ⟨rfl, rfl⟩
      · have h56 : a.eval (.tmp 56) = .int .i64 (l.length : Int) := eval_tmp ((hsl 56 (by decide)).trans (by rfl))
        refine wpOp_value (v := sl0 W2.heap.size l.length) (w' := W2.alloc (obj9 l 7)) rfl rfl ?_ ⟨_, rfl, trivial, below_new _ _, Nat.le_refl _, W2.heap.size, rfl, heap_alloc_new _ _⟩
        have hr := make_row W2 l.length W2.heap.size (by omega) rfl
        simp [execOp, h56, hr, Result.andThen]
        exact ⟨rfl, rfl⟩
      · have h58 : a.eval (.tmp 58) = .int .i64 (l.length : Int) := eval_tmp ((hsl 58 (by decide)).trans (by rfl))
        refine wpOp_value (v := sl0 W2.heap.size l.length) (w' := W2.alloc (obj9 l 9)) rfl rfl ?_ ⟨_, rfl, trivial, below_new _ _, Nat.le_refl _, W2.heap.size, rfl, heap_alloc_new _ _⟩
        have hr := make_bools W2 l.length (by omega)
        simp [execOp, h58, hr, Result.andThen]
        exact ⟨rfl, rfl⟩
      · have h60 : a.eval (.tmp 60) = .int .i64 (l.length : Int) := eval_tmp ((hsl 60 (by decide)).trans (by rfl))
        refine wpOp_value (v := sl0 W2.heap.size l.length) (w' := W2.alloc (obj9 l 11)) rfl rfl ?_ ⟨_, rfl, trivial, below_new _ _, Nat.le_refl _, W2.heap.size, rfl, heap_alloc_new _ _⟩
        have hr := make_row W2 l.length W2.heap.size (by omega) rfl
        simp [execOp, h60, hr, Result.andThen]
        exact ⟨rfl, rfl⟩
      · have h62 : a.eval (.tmp 62) = .int .i64 (l.length : Int) := eval_tmp ((hsl 62 (by decide)).trans (by rfl))
        refine wpOp_value (v := sl0 W2.heap.size l.length) (w' := W2.alloc (obj9 l 13)) rfl rfl ?_ ⟨_, rfl, trivial, below_new _ _, Nat.le_refl _, W2.heap.size, rfl, heap_alloc_new _ _⟩
        have hr := make_bools W2 l.length (by omega)
        simp [execOp, h62, hr, Result.andThen]
        exact ⟨rfl, rfl⟩
      · refine wpOp_value (v := .map (some W2.heap.size)) (w' := W2.alloc (.map #[] 0)) rfl rfl ?_ ⟨_, rfl, trivial, below_new _ _, Nat.le_refl _, W2.heap.size, rfl, heap_alloc_new _ _⟩
        simp [execOp, run_makeMap, Result.andThen]
    · intro vs W2 _ hb2 hphi hap
      obtain ⟨⟨gP, e3, q3⟩, b3⟩ := hphi 3 (by simp)
      obtain ⟨⟨gA, e5, q5⟩, b5⟩ := hphi 5 (by simp)
      obtain ⟨⟨gK, e7, q7⟩, b7⟩ := hphi 7 (by simp)
      obtain ⟨⟨gB, e9, q9⟩, b9⟩ := hphi 9 (by simp)
      obtain ⟨⟨gW, e11, q11⟩, b11⟩ := hphi 11 (by simp)
      obtain ⟨⟨gD, e13, q13⟩, b13⟩ := hphi 13 (by simp)
      obtain ⟨⟨gM, e14, q14⟩, b14⟩ := hphi 14 (by simp)
      have nd : [gP, gA, gK, gB, gW, gD, gM].Nodup := by
        have h0 : ∀ i ∈ [3, 5, 7, 9, 11, 13, 14], ∀ j ∈ [3, 5, 7, 9, 11, 13, 14], i ≠ j → bl9 (vs i) ≠ bl9 (vs j) := hap
        have f3 : bl9 (vs 3) = gP := by rw [e3, bl_val]
        have f5 : bl9 (vs 5) = gA := by rw [e5, bl_val]
        have f7 : bl9 (vs 7) = gK := by rw [e7, bl_val]
        have f9 : bl9 (vs 9) = gB := by rw [e9, bl_val]
        have f11 : bl9 (vs 11) = gW := by rw [e11, bl_val]
        have f13 : bl9 (vs 13) = gD := by rw [e13, bl_val]
        have f14 : bl9 (vs 14) = gM := by rw [e14, bl_val]
        rw [← f3, ← f5, ← f7, ← f9, ← f11, ← f13, ← f14]
        have : ([3, 5, 7, 9, 11, 13, 14].map (fun i => bl9 (vs i))).Nodup := List.Pairwise.map _ (R := fun a b => a ∈ [3, 5, 7, 9, 11, 13, 14] ∧ b ∈ [3, 5, 7, 9, 11, 13, 14] ∧ a ≠ b) (fun a b h => h0 a h.1 b h.2.1 h.2.2) (by decide)
        exact this
      rw [e3, bl_val] at b3
      rw [e5, bl_val] at b5
      rw [e7, bl_val] at b7
      rw [e9, bl_val] at b9
      rw [e11, bl_val] at b11
      rw [e13, bl_val] at b13
      rw [e14, bl_val] at b14
      have HM : Hid (Below Wn.drew.heap.size Wn.drew W2 ∧ [gP, gA, gK, gB, gW, gD, gM].Nodup ∧ (∀ b ∈ [gP, gA, gK, gB, gW, gD, gM], Wn.drew.heap.size ≤ b) ∧ W2.heap[gP]? = some (obj9 l 3) ∧ W2.heap[gA]? = some (obj9 l 5) ∧ W2.heap[gK]? = some (obj9 l 7) ∧ W2.heap[gB]? = some (obj9 l 9) ∧ W2.heap[gW]? = some (obj9 l 11) ∧ W2.heap[gD]? = some (obj9 l 13) ∧ W2.heap[gM]? = some (obj9 l 14)) := ⟨hb2, nd, fun b hb => by simp only [List.mem_cons, List.not_mem_nil, or_false] at hb; rcases hb with rfl | rfl | rfl | rfl | rfl | rfl | rfl <;> assumption, q3, q5, q7, q9, q11, q13, q14⟩
      simp only [mkA, mkL, List.foldl_cons, List.foldl_nil, e3, e5, e7, e9, e11, e13, e14, Act.put, List.setIfInBounds_toArray, List.set_cons_zero, List.set_cons_succ, Nat.reduceAdd, val9, sl0, Nat.reduceEqDiff, ↓reduceIte]
      clear hphi hap nd b3 b5 b7 b9 b11 b13 b14 q3 q5 q7 q9 q11 q13 q14 e3 e5 e7 e9 e11 e13 e14 hb2
      refine take_at (i := 15) (n := 65) (v := ?_) rfl rfl (by kernel_rfl) (by kernel_rfl) (by kernel_rfl) (fun _ _ _ h => h) (Or.inl ⟨by rfl, ?_⟩) (by assumption) ?_
      rotate_left 1
      · intro wz hSw
        first | (go_simp; done) | (go_simp; with_reducible rfl)
      simp only [List.set_cons_zero, List.set_cons_succ]
      refine wpAnyH_ready (rs := [16]) (by kernel_rfl) (by simp) ?_
      refine AllReadyH.cons rfl (fun K hK => ?_) AllReadyH.nil
      go_simp
      refine hK.out _ _ (trivial) (fun hHeld => ?_)
      clear hK K
      refine take_at (i := 17) (n := 10) (v := ?_) rfl rfl (by kernel_rfl) (by kernel_rfl) (by kernel_rfl) (fun _ _ _ h => h) (Or.inl ⟨by rfl, ?_⟩) (by assumption) ?_
      rotate_left 1
      · intro wz hSw
        first | (go_simp; done) | (go_simp; with_reducible rfl)
      simp only [List.set_cons_zero, List.set_cons_succ]
      refine wpAnyH_done (by kernel_rfl) ?_ _
      refine NoPanic.normal ?_
      go_wp2_with fail
      obtain ⟨W3, hW3⟩ : ∃ W3, W2.alloc (.cells #[.slice ad l.length cp, .int .i64 pr, .slice (some ⟨gP, 0, none⟩) 4 4, .slice (some ⟨gA, 0, none⟩) l.length l.length, .slice (some ⟨gK, 0, none⟩) l.length l.length, .slice (some ⟨gB, 0, none⟩) l.length l.length, .slice (some ⟨gW, 0, none⟩) l.length l.length, .slice (some ⟨gD, 0, none⟩) l.length l.length, .map (some gM)] 58) = W3 := ⟨_, rfl⟩
      rw [hW3]
      obtain ⟨gS, hgS⟩ : ∃ gS, gS = W2.heap.size := ⟨_, rfl⟩
      rw [← hgS]
      have HM3 : Hid (Below Wn.heap.size Wn W3 ∧ [gS, gP, gA, gK, gB, gW, gD, gM].Nodup ∧ (∀ b ∈ [gS, gP, gA, gK, gB, gW, gD, gM], Wn.heap.size ≤ b ∧ b < W3.heap.size) ∧ W3.heap[gS]? = some (.cells #[.slice ad l.length cp, .int .i64 pr, sl0 gP 4, sl0 gA l.length, sl0 gK l.length, sl0 gB l.length, sl0 gW l.length, sl0 gD l.length, .map (some gM)] 58 (0, 0)) ∧ W3.heap[gP]? = some (obj9 l 3) ∧ W3.heap[gA]? = some (obj9 l 5) ∧ W3.heap[gK]? = some (obj9 l 7) ∧ W3.heap[gB]? = some (obj9 l 9) ∧ W3.heap[gW]? = some (obj9 l 11) ∧ W3.heap[gD]? = some (obj9 l 13) ∧ W3.heap[gM]? = some (obj9 l 14)) := by
        obtain ⟨m1, m2, m3, m4, m5, m6, m7, m8, m9, m10⟩ := HM.out
        have bb : Below W2.heap.size W2 W3 := by rw [← hW3]; exact below_new _ _
        have hsz : W3.heap.size = W2.heap.size + 1 := by rw [← hW3]; simp
        have m1' : Below Wn.heap.size Wn W2 := ((Below.refl _ Wn).drew).trans m1
        have hin : ∀ b ∈ [gP, gA, gK, gB, gW, gD, gM], b < W2.heap.size := fun b hb => by
          simp only [List.mem_cons, List.not_mem_nil, or_false] at hb
          rcases hb with rfl | rfl | rfl | rfl | rfl | rfl | rfl
          · exact heap_lt m4
          · exact heap_lt m5
          · exact heap_lt m6
          · exact heap_lt m7
          · exact heap_lt m8
          · exact heap_lt m9
          · exact heap_lt m10
        refine ⟨below_seq m1' bb, List.nodup_cons.2 ⟨fun h => by have := hin gS h; omega, m2⟩, fun b hb => ?_, ?_, (bb.block _ (heap_lt m4)).trans m4, (bb.block _ (heap_lt m5)).trans m5, (bb.block _ (heap_lt m6)).trans m6, (bb.block _ (heap_lt m7)).trans m7, (bb.block _ (heap_lt m8)).trans m8, (bb.block _ (heap_lt m9)).trans m9, (bb.block _ (heap_lt m10)).trans m10⟩
        · rcases List.mem_cons.1 hb with rfl | hb
          · have := m1'.size
            omega
          · have h1 := hin b hb
            have h2 : Wn.heap.size ≤ b := m3 b hb
            omega
        · rw [← hW3, hgS]
          exact heap_alloc_new _ _
      clear HM hW3 hgS
      refine wp_region_noPanic ?_
      refine wp_region_held_drew (S := fun _ => True) (by kernel_rfl) trivial (fun hHeld => ?_)
      refine take_at (i := 0) (n := 67) (v := ?_) rfl rfl (by kernel_rfl) (by kernel_rfl) (by kernel_rfl) (fun _ _ _ h => h) (Or.inl ⟨by rfl, ?_⟩) (by assumption) ?_
      rotate_left 1
      · intro wz hSw
        first | (go_simp; done) | (go_simp; with_reducible rfl)
      simp only [List.set_cons_zero, List.set_cons_succ]
      refine take_at (i := 2) (n := 69) (v := ?_) rfl rfl (by kernel_rfl) (by kernel_rfl) (by kernel_rfl) (fun _ _ _ h => h) (Or.inl ⟨by rfl, ?_⟩) (by assumption) ?_
      rotate_left 1
      · intro wz hSw
        first | (go_simp; done) | (go_simp; with_reducible rfl)
      simp only [List.set_cons_zero, List.set_cons_succ]
      refine wpAnyH_listed (listed' := #[true, false, true, false, false, false, false]) (by kernel_rfl) ?_
      refine wpAnyH_act (fun a0 ha0 => ?_)
      have a67 : a0.tmps[67]? = some (.int .i64 (l.length : Int)) := by rw [ha0]; rfl
      have a69 : a0.tmps[69]? = some (.int .i64 (l.length : Int)) := by rw [ha0]; rfl
      have asz : a0.tmps.size = 363 := by rw [ha0]; rfl
      refine wpAnyH_steps (P := Try.prog) [1, 3, 4, 5] (fun i => if i = 5 then 11 else i + 67) _ a0 (I10 l.length W3.drew) (fun i T => if i = 4 then T.contains 1 && T.contains 3 else true) 1 (by decide) (fun i hi j hj h => by
        simp only [List.mem_cons, List.not_mem_nil, or_false] at hi hj
        rcases hi with rfl | rfl | rfl | rfl <;> rcases hj with rfl | rfl | rfl | rfl <;> simp at h ⊢) (fun i hi => Nat.lt_of_le_of_lt (show (if i = 5 then 11 else i + 67) ≤ 71 by
        simp only [List.mem_cons, List.not_mem_nil, or_false] at hi
        rcases hi with rfl | rfl | rfl | rfl <;> simp) (by rw [asz]; decide)) (by kernel_rfl) ?_ ?_ 4 [] (fun _ => undef) _ rfl (by simp) trivial ⟨Below.refl _ _, by simp, by simp, by simp⟩
      · intro T vs w' i hT hrd hiM hiT _ hI
        have hot : ∀ k, (∀ j ∈ [1, 3, 4, 5], (if j = 5 then 11 else j + 67) ≠ k) → ∀ a0 : Act, (mkA a0 (fun i => if i = 5 then 11 else i + 67) vs T).tmps[k]? = a0.tmps[k]? := fun k hk a0 => mkA_other T a0 (fun j hj => hk j (hT j hj))
        simp only [List.mem_cons, List.not_mem_nil, or_false] at hiM
        rcases hiM with rfl | rfl | rfl | rfl
        · refine wpOp_value (v := val10 l.length 1 w'.heap.size) (w' := w'.alloc (obj10 l.length 1)) rfl rfl ?_ ⟨_, rfl, trivial, hI.make (by decide) hiT⟩
          have h67 := eval_tmp ((hot 67 (by decide) a0).trans a67)
          have hr := make_row w' l.length w'.heap.size (by omega) rfl
          simp [execOp, h67, hr, Result.andThen]
          exact ⟨rfl, rfl⟩
        · refine wpOp_value (v := val10 l.length 3 w'.heap.size) (w' := w'.alloc (obj10 l.length 3)) rfl rfl ?_ ⟨_, rfl, trivial, hI.make (by decide) hiT⟩
          have h69 := eval_tmp ((hot 69 (by decide) a0).trans a69)
          have hr := make_row w' l.length w'.heap.size (by omega) rfl
          simp [execOp, h69, hr, Result.andThen]
          exact ⟨rfl, rfl⟩
        · have hdep : ([1, 3, 4, 5].filter (fun k => T.contains k)).contains 1 = true ∧ ([1, 3, 4, 5].filter (fun k => T.contains k)).contains 3 = true := Bool.and_eq_true_iff.1 hrd
          have h1T : 1 ∈ T := by have := hdep.1; simpa using this
          have h3T : 3 ∈ T := by have := hdep.2; simpa using this
          obtain ⟨g1, e1, -, -⟩ := hI.phi 1 h1T (by decide)
          obtain ⟨g3, e3, -, -⟩ := hI.phi 3 h3T (by decide)
          refine wpOp_value (v := .agg #[.slice none 0 0, vs 1, vs 3, .bool false]) (w' := w') rfl rfl ?_ ⟨_, rfl, trivial, hI.build h1T h3T⟩
          have hm1 : (mkA a0 (fun i => if i = 5 then 11 else i + 67) vs T).tmps[68]? = some (vs 1) := mkA_at T a0 1 h1T (fun j hj h => by
            have := hT j hj
            simp only [List.mem_cons, List.not_mem_nil, or_false] at this
            rcases this with rfl | rfl | rfl | rfl <;> simp at h ⊢) (by rw [asz]; decide)
          have hm3 : (mkA a0 (fun i => if i = 5 then 11 else i + 67) vs T).tmps[70]? = some (vs 3) := mkA_at T a0 3 h3T (fun j hj h => by
            have := hT j hj
            simp only [List.mem_cons, List.not_mem_nil, or_false] at this
            rcases this with rfl | rfl | rfl | rfl <;> simp at h ⊢) (by rw [asz]; decide)
          generalize mkA a0 (fun i => if i = 5 then 11 else i + 67) vs T = am at hm1 hm3
          rw [e1] at hm1 ⊢
          rw [e3] at hm3 ⊢
          unfold val10 sl0 at *
          simp only [Nat.reduceEqDiff, ↓reduceIte] at hm1 hm3 ⊢
          simp [go_sem, hm1, hm3]
        · refine wpOp_value (v := val10 l.length 5 w'.heap.size) (w' := w'.alloc (obj10 l.length 5)) rfl rfl ?_ ⟨_, rfl, trivial, hI.make (by decide) hiT⟩
          simp [go_sem]
          exact ⟨rfl, rfl⟩
      · intro T vs W4 hall _ hI
        obtain ⟨gE, e1, q1, b1⟩ := hI.phi 1 ((hall 1).2 (by simp)) (by decide)
        obtain ⟨gT, e3, q3, b3⟩ := hI.phi 3 ((hall 3).2 (by simp)) (by decide)
        obtain ⟨gO, e5, q5, b5⟩ := hI.phi 5 ((hall 5).2 (by simp)) (by decide)
        obtain ⟨-, -, e4⟩ := hI.bd ((hall 4).2 (by simp))
        have n13 : gE ≠ gT := by have := hI.ap 1 ((hall 1).2 (by simp)) (by decide) 3 ((hall 3).2 (by simp)) (by decide) (by decide); rwa [e1, e3, bl_val10, bl_val10] at this
        have n15 : gE ≠ gO := by have := hI.ap 1 ((hall 1).2 (by simp)) (by decide) 5 ((hall 5).2 (by simp)) (by decide) (by decide); rwa [e1, e5, bl_val10, bl_val10] at this
        have n35 : gT ≠ gO := by have := hI.ap 3 ((hall 3).2 (by simp)) (by decide) 5 ((hall 5).2 (by simp)) (by decide) (by decide); rwa [e3, e5, bl_val10, bl_val10] at this
        have HI : Hid (Below W3.heap.size W3 W4 ∧ W4.heap[gE]? = some (obj10 l.length 1) ∧ W4.heap[gT]? = some (obj10 l.length 3) ∧ W4.heap[gO]? = some (obj10 l.length 5) ∧ (W3.heap.size ≤ gE ∧ W3.heap.size ≤ gT ∧ W3.heap.size ≤ gO) ∧ gE ≠ gT ∧ gE ≠ gO ∧ gT ≠ gO) := ⟨(Below.refl _ W3).drew.trans hI.bel, q1, q3, q5, ⟨b1, b3, b5⟩, n13, n15, n35⟩
        rw [e1, e3] at e4
        obtain ⟨oc, of, ol⟩ := cells_of (l := [.slice none 0 0, .slice none 0 0, .slice none 0 0, .bool false]) q5
        have oc0 := oc 0 _ rfl
        have oc1 := oc 1 _ rfl
        have oc2 := oc 2 _ rfl
        have oc3 := oc 3 _ rfl
        have of0 := of 0
        have of1 := of 1
        have of2 := of 2
        have of3 := of 3
        subst ha0
        simp only [mkA, mkL, List.foldl_cons, List.foldl_nil, e1, e3, e4, e5, Act.put, List.setIfInBounds_toArray, List.set_cons_zero, List.set_cons_succ, Nat.reduceAdd, val10, sl0, Nat.reduceEqDiff, ↓reduceIte]
        clear hI hall e1 e3 e4 e5 q1 q3 q5 b1 b3 b5 n13 n15 n35 oc of a67 a69 asz
        refine wpAnyH_ready (rs := [6]) (by kernel_rfl) (by simp) ?_
        refine AllReadyH.cons rfl (fun K hK => ?_) AllReadyH.nil
        go_simp
        refine hK.out _ _ (trivial) (fun hHeld => ?_)
        clear hK K
        refine wpAnyH_done (by kernel_rfl) ?_ _
        refine NoPanic.normal ?_
        go_wp2_with fail
        obtain ⟨W5, hW5⟩ : ∃ W5, (((W4.setCell ⟨gO, 0, none⟩ (.slice none 0 0)).setCell ⟨gO, 1, none⟩ (.slice (some ⟨gE, 0, none⟩) l.length l.length)).setCell ⟨gO, 2, none⟩ (.slice (some ⟨gT, 0, none⟩) l.length l.length)).setCell ⟨gO, 3, none⟩ (.bool false) = W5 := ⟨_, rfl⟩
        rw [hW5]
        have H5 : Hid (Below Wn.heap.size Wn W5 ∧ [gS, gP, gA, gK, gB, gW, gD, gM, gO, gE, gT].Nodup ∧ (∀ b ∈ [gS, gP, gA, gK, gB, gW, gD, gM, gO, gE, gT], Wn.heap.size ≤ b ∧ b < W5.heap.size) ∧ W5.heap[gS]? = some (.cells #[.slice ad l.length cp, .int .i64 pr, sl0 gP 4, sl0 gA l.length, sl0 gK l.length, sl0 gB l.length, sl0 gW l.length, sl0 gD l.length, .map (some gM)] 58 (0, 0)) ∧ W5.heap[gP]? = some (obj9 l 3) ∧ W5.heap[gA]? = some (obj9 l 5) ∧ W5.heap[gK]? = some (obj9 l 7) ∧ W5.heap[gB]? = some (obj9 l 9) ∧ W5.heap[gW]? = some (obj9 l 11) ∧ W5.heap[gD]? = some (obj9 l 13) ∧ W5.heap[gM]? = some (obj9 l 14) ∧ W5.heap[gO]? = some (.cells #[.slice none 0 0, sl0 gE l.length, sl0 gT l.length, .bool false] 28 (0, 0)) ∧ W5.heap[gE]? = some (obj10 l.length 1) ∧ W5.heap[gT]? = some (obj10 l.length 3)) := by
          obtain ⟨m1, m2, m3, m4, m5, m6, m7, m8, m9, m10, m11⟩ := HM3.out
          obtain ⟨i1, i2, i3, i4, ⟨i5, i6, i7⟩, i8, i9, i10⟩ := HI.out
          have hsz : W5.heap.size = W4.heap.size := by rw [← hW5]; simp
          have hoth : ∀ c, c ≠ gO → W5.heap[c]? = W4.heap[c]? := fun c hc => by
            rw [← hW5, Below.heap_setCell _ _ _ _ hc, Below.heap_setCell _ _ _ _ hc, Below.heap_setCell _ _ _ _ hc, Below.heap_setCell _ _ _ _ hc]
          have hlow : ∀ b ∈ [gS, gP, gA, gK, gB, gW, gD, gM], b < W3.heap.size := fun b hb => (m3 b hb).2
          have hk : ∀ (c : Nat) (ob : Obj), c < W3.heap.size → W3.heap[c]? = some ob → W5.heap[c]? = some ob := fun c ob hc h => by
            rw [hoth c (by omega), i1.block c hc, h]
          have m1s := m1.size
          have i1s := i1.size
          refine ⟨?_, ?_, fun b hb => ?_, hk _ _ (heap_lt m4) m4, hk _ _ (heap_lt m5) m5, hk _ _ (heap_lt m6) m6, hk _ _ (heap_lt m7) m7, hk _ _ (heap_lt m8) m8, hk _ _ (heap_lt m9) m9, hk _ _ (heap_lt m10) m10, hk _ _ (heap_lt m11) m11, ?_, (hoth _ i9).trans i2, (hoth _ i10).trans i3⟩
          · rw [← hW5]
            exact ((((below_seq m1 i1).setCell (by show Wn.heap.size ≤ gO; omega) _).setCell (by show Wn.heap.size ≤ gO; omega) _).setCell (by show Wn.heap.size ≤ gO; omega) _).setCell (by show Wn.heap.size ≤ gO; omega) _
          · have h3 : [gO, gE, gT].Nodup := by simp; omega
            have := List.nodup_append.2 ⟨m2, h3, fun a ha b hb e => by
              have h1 := hlow a ha
              simp only [List.mem_cons, List.not_mem_nil, or_false] at hb
              omega⟩
            exact this
          · have hb' : b ∈ [gS, gP, gA, gK, gB, gW, gD, gM] ++ [gO, gE, gT] := hb
            rcases List.mem_append.1 hb' with h | h
            · have := m3 b h
              omega
            · have h4 := heap_lt i4
              have h2 := heap_lt i2
              have h3 := heap_lt i3
              simp only [List.mem_cons, List.not_mem_nil, or_false] at h
              omega
          · rw [← hW5, setCell_at (setCell_at (setCell_at (setCell_at i4)))]
            rfl
        clear hW5 HM3 HI oc0 oc1 oc2 oc3 of0 of1 of2 of3 ol
        have hWE : gW ≠ gE := ndx (d := ⟨gS, gP, gA, gK, gB, gW, gD, gM⟩) (o := ⟨gO, gE, gT⟩) H5.out.2.1 (i := 5) (j := 9) (by decide) rfl rfl
        have hSW : gS ≠ gW := ndx (d := ⟨gS, gP, gA, gK, gB, gW, gD, gM⟩) (o := ⟨gO, gE, gT⟩) H5.out.2.1 (i := 0) (j := 5) (by decide) rfl rfl
        have hSE : gS ≠ gE := ndx (d := ⟨gS, gP, gA, gK, gB, gW, gD, gM⟩) (o := ⟨gO, gE, gT⟩) H5.out.2.1 (i := 0) (j := 9) (by decide) rfl rfl
        have hOW : gO ≠ gW := ndx (d := ⟨gS, gP, gA, gK, gB, gW, gD, gM⟩) (o := ⟨gO, gE, gT⟩) H5.out.2.1 (i := 8) (j := 5) (by decide) rfl rfl
        have hOE : gO ≠ gE := ndx (d := ⟨gS, gP, gA, gK, gB, gW, gD, gM⟩) (o := ⟨gO, gE, gT⟩) H5.out.2.1 (i := 8) (j := 9) (by decide) rfl rfl
        have HJ : Hid (LkSl Wn l (.slice ad l.length cp)) := HV.out.1.below HP.out.1
        go_loopw [74] (fun i wr => ∃ k : Nat, k ≤ l.length ∧ i = .int .i64 k ∧ IW Wn W5 wr gW gE l.length k) (fun i _ => l.length - (intOf i).toNat)
        case atStart =>
          have hz : ∀ n : Nat, List.replicate n (Value.int .i64 0) = inV (rowF (fun i => if i < 0 then (-1 : Int) else 0) n) := fun n => by
            rw [inV_rep]
            congr 1
            unfold rowF
            rw [map_rep _ 0 (List.range n) (fun i _ => if_neg (by omega)), List.length_range]
          obtain ⟨h1, -, -, -, -, -, -, -, h9, -, -, -, h13, -⟩ := H5.out
          exact ⟨0, Nat.zero_le _, rfl, ⟨h1, fun _ _ _ => rfl, by rw [← hz]; exact h9, by rw [← hz]; exact h13, rfl⟩⟩
        case round =>
          obtain ⟨k, hk, rfl, hiw⟩ := hrel
          by_cases hlt : k < l.length
          · obtain ⟨wc, wf, wl⟩ := cells_of hiw.w
            obtain ⟨ec, ef, el⟩ := cells_of hiw.e
            have wc0 := wc k _ (inV_at (rowF_at _ hlt))
            have ec0 := ec k _ (inV_at (rowF_at _ hlt))
            have wf0 := wf k
            have ef0 := ef k
            obtain ⟨sc, -, sl'⟩ := cells_of (l := [_, _, _, _, _, _, _, _, _]) ((hiw.oth gS hSW hSE).trans H5.out.2.2.2.1)
            obtain ⟨oc, -, ol⟩ := cells_of (l := [_, _, _, _]) ((hiw.oth gO hOW hOE).trans H5.out.2.2.2.2.2.2.2.2.2.2.2.1)
            have s6 := sc 6 _ rfl
            have o1 := oc 1 _ rfl
            unfold sl0 at s6 o1
            have hki : (k : Int) < (l.length : Int) := by omega
            have HS : Hid (IW Wn W5 ((wr.setCell ⟨gW, k, none⟩ (.int .i64 (-1))).setCell ⟨gE, k, none⟩ (.int .i64 (-1))) gW gE l.length (k + 1)) := hiw.step hlt hWE (H5.out.2.2.1 gW (by simp)).1 (H5.out.2.2.1 gE (by simp)).1
            generalize (if k < k then (-1 : Int) else 0) = z0 at wc0 ec0
            have hWS : ¬ (gW = gS) := fun h => hSW h.symm
            have hWO : ¬ (gW = gO) := fun h => hOW h.symm
            have hES : ¬ (gE = gS) := fun h => hSE h.symm
            have hEO : ¬ (gE = gO) := fun h => hOE h.symm
            clear hiw wc wf ec ef sc oc
            go_wp2_with fail
            refine wp_region_noPanic ?_
            refine wp_region_held_drew (S := fun w' => w'.cell? ⟨gS, 6, none⟩ = some (.slice (some ⟨gW, 0, none⟩) l.length l.length) ∧ w'.cell? ⟨gO, 1, none⟩ = some (.slice (some ⟨gE, 0, none⟩) l.length l.length)) (by kernel_rfl) (⟨s6, o1⟩) (fun hHeld => ?_)
            refine take_at (i := 0) (n := 77) (v := ?_) rfl rfl (by kernel_rfl) (by kernel_rfl) (by kernel_rfl) (fun _ _ _ h => h) (Or.inl ⟨by rfl, ?_⟩) (by assumption) ?_
            rotate_left 1
            · intro wz hSw
              obtain ⟨s0, s1⟩ := hSw
              first | (go_simp; done) | (go_simp; with_reducible rfl)
            simp only [List.set_cons_zero, List.set_cons_succ]
            refine take_at (i := 1) (n := 78) (v := ?_) rfl rfl (by kernel_rfl) (by kernel_rfl) (by kernel_rfl) (fun _ _ _ h => h) (Or.inl ⟨by rfl, ?_⟩) (by assumption) ?_
            rotate_left 1
            · intro wz hSw
              obtain ⟨s0, s1⟩ := hSw
              first | (go_simp; done) | (go_simp; with_reducible rfl)
            simp only [List.set_cons_zero, List.set_cons_succ]
            refine take_at (i := 2) (n := 79) (v := ?_) rfl rfl (by kernel_rfl) (by kernel_rfl) (by kernel_rfl) (fun _ _ _ h => h) (Or.inl ⟨by rfl, ?_⟩) (by assumption) ?_
            rotate_left 1
            · intro wz hSw
              obtain ⟨s0, s1⟩ := hSw
              first | (go_simp; done) | (go_simp; with_reducible rfl)
            simp only [List.set_cons_zero, List.set_cons_succ]
            refine take_at (i := 3) (n := 80) (v := ?_) rfl rfl (by kernel_rfl) (by kernel_rfl) (by kernel_rfl) (fun _ _ _ h => h) (Or.inl ⟨by rfl, ?_⟩) (by assumption) ?_
            rotate_left 1
            · intro wz hSw
              obtain ⟨s0, s1⟩ := hSw
              first | (go_simp; done) | (go_simp; with_reducible rfl)
            simp only [List.set_cons_zero, List.set_cons_succ]
            refine take_at (i := 4) (n := 81) (v := ?_) rfl rfl (by kernel_rfl) (by kernel_rfl) (by kernel_rfl) (fun _ _ _ h => h) (Or.inl ⟨by rfl, ?_⟩) (by assumption) ?_
            rotate_left 1
            · intro wz hSw
              obtain ⟨s0, s1⟩ := hSw
              first | (go_simp; done) | (go_simp; with_reducible rfl)
            simp only [List.set_cons_zero, List.set_cons_succ]
            refine take_at (i := 5) (n := 82) (v := ?_) rfl rfl (by kernel_rfl) (by kernel_rfl) (by kernel_rfl) (fun _ _ _ h => h) (Or.inl ⟨by rfl, ?_⟩) (by assumption) ?_
            rotate_left 1
            · intro wz hSw
              obtain ⟨s0, s1⟩ := hSw
              first | (go_simp; done) | (go_simp; with_reducible rfl)
            simp only [List.set_cons_zero, List.set_cons_succ]
            refine take_at (i := 6) (n := 83) (v := ?_) rfl rfl (by kernel_rfl) (by kernel_rfl) (by kernel_rfl) (fun _ _ _ h => h) (Or.inl ⟨by rfl, ?_⟩) (by assumption) ?_
            rotate_left 1
            · intro wz hSw
              obtain ⟨s0, s1⟩ := hSw
              first | (go_simp; done) | (go_simp; with_reducible rfl)
            simp only [List.set_cons_zero, List.set_cons_succ]
            refine take_at (i := 7) (n := 84) (v := ?_) rfl rfl (by kernel_rfl) (by kernel_rfl) (by kernel_rfl) (fun _ _ _ h => h) (Or.inl ⟨by rfl, ?_⟩) (by assumption) ?_
            rotate_left 1
            · intro wz hSw
              obtain ⟨s0, s1⟩ := hSw
              first | (go_simp; done) | (go_simp; with_reducible rfl)
            simp only [List.set_cons_zero, List.set_cons_succ]
            refine take_at (i := 8) (n := 85) (v := ?_) rfl rfl (by kernel_rfl) (by kernel_rfl) (by kernel_rfl) (fun _ _ _ h => h) (Or.inl ⟨by rfl, ?_⟩) (by assumption) ?_
            rotate_left 1
            · intro wz hSw
              obtain ⟨s0, s1⟩ := hSw
              first | (go_simp; done) | (go_simp; with_reducible rfl)
            simp only [List.set_cons_zero, List.set_cons_succ]
            refine wpAnyH_ready (rs := [9]) (by kernel_rfl) (by simp) ?_
            refine AllReadyH.cons rfl (fun K hK => ?_) AllReadyH.nil
            go_simp
            refine hK.out _ _ (by refine ⟨?_, ?_⟩ <;> go_simp) (fun hHeld => ?_)
            clear hK K
            refine take_at (i := 10) (n := 86) (v := ?_) rfl rfl (by kernel_rfl) (by kernel_rfl) (by kernel_rfl) (fun _ _ _ h => h) (Or.inl ⟨by rfl, ?_⟩) (by assumption) ?_
            rotate_left 1
            · intro wz hSw
              obtain ⟨s0, s1⟩ := hSw
              first | (go_simp; done) | (go_simp; with_reducible rfl)
            simp only [List.set_cons_zero, List.set_cons_succ]
            refine wpAnyH_ready (rs := [11]) (by kernel_rfl) (by simp) ?_
            refine AllReadyH.cons rfl (fun K hK => ?_) AllReadyH.nil
            go_simp
            refine hK.out _ _ (by refine ⟨?_, ?_⟩ <;> go_simp) (fun hHeld => ?_)
            clear hK K
            refine wpAnyH_done (by kernel_rfl) ?_ _
            refine NoPanic.normal ?_
            go_wp2_with fail
            exact ⟨⟨k + 1, by omega, by simp, HS.out.drew⟩, by simp [intOf]; omega⟩
          · have hke : k = l.length := by omega
            subst hke
            have HD : Hid (DW Wn wr ⟨gS, gP, gA, gK, gB, gW, gD, gM⟩ ⟨gO, gE, gT⟩ wr.heap.size pr (.slice ad l.length cp) l (.slice none 0 0) [] (x0 l) 0 (.map [])) := by
              obtain ⟨h1, h2, h3, h4, h5, h6, h7, h8, h9, h10, h11, h12, h13, h14⟩ := H5.out
              exact DW.start hiw HJ.out h2 h3 h4 h5 h6 h7 h8 h10 h11 h12 h14
            clear hiw
            obtain ⟨base, hbase⟩ : ∃ base, wr.heap.size = base := ⟨_, rfl⟩
            rw [hbase] at HD
            obtain ⟨d, hd⟩ : ∃ d : Dd, d = ⟨gS, gP, gA, gK, gB, gW, gD, gM⟩ := ⟨_, rfl⟩
            obtain ⟨od, hod⟩ : ∃ od : Do, od = ⟨gO, gE, gT⟩ := ⟨_, rfl⟩
            have hdS : gS = d.S := by rw [hd]
            have hdO : gO = od.O := by rw [hod]
            rw [← hd, ← hod] at HD
            clear hbase hd hod H5 hWE hSW hSE hOW hOE
            subst hdS hdO
            go_wp2_with fail
            clear HTp HJ
            rename_i zq1 zq2 zq3 zq4 zq5 zq6 zq7 zq8 zq9 zq10 zq11 zq12 zq13 zq14 zq15
            revert w l pr U hU ad cp hn HV zq1 w1 hp1 hp3 hU0 hU1 zq2 zq3 Wn HP fb zq4 zq5 W2 zq6 gP gA gK gB gW gD gM zq7 W3 zq8 T vs W4 zq9 gE gT hHeld zq10 W5 wr u12 u75 u76 u77 u78 u79 u80 u81 u82 u83 u84 u85 u86 u87 hk hlt base d od HD zq11 zq12 zq13 zq14 zq15
            exact hp_loops.out
end Go.Proofs.Ytcmoehednkaehah
