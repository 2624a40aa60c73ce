import Derived.Test.YtccoobcggbbciamHW1
namespace Go.Proofs.Ytccoobcggbbciam
open Go.ChangeShapes Go.WideShapes Go.ChangeAt Go.RowKit

set_option maxRecDepth 20000 in
set_option maxHeartbeats 4000000 in
theorem ahead_any (A : Ad) (W : World) (jv mv ev : List Value) (s : Sc) (i j : Nat) (hI : Inp A) (h : SW A W jv mv ev s) (hi : i < A.l.length) (hj : j < A.l.length) (qi : s.jobs.getD i [] ≠ []) (qj : s.jobs.getD j [] ≠ []) : Calls Try.prog 50 #[.pointer (some ⟨A.gs, 0, none⟩), .int .i64 (i : Int), .int .i64 (j : Int)] W fun r w' => r = .returned (.bool (aheadQ A.l s.jobs i j)) ∧ Below W.heap.size W w' := by
  obtain ⟨va, hva⟩ : ∃ v, jv[i]? = some v := ⟨_, List.getElem?_eq_getElem (by rw [h.lj]; exact hi)⟩
  obtain ⟨vb, hvb⟩ : ∃ v, jv[j]? = some v := ⟨_, List.getElem?_eq_getElem (by rw [h.lj]; exact hj)⟩
  have la := h.ljs i va hva
  have lb := h.ljs j vb hvb
  obtain ⟨z, hz⟩ : ∃ z, aheadQ A.l s.jobs i j = z := ⟨_, rfl⟩
  have HZ : Hid (aheadQ A.l s.jobs i j = z) := hz
  rw [hz]
  obtain ⟨ad1, cl, hpv, -, hcap, hrow⟩ := hI.pr
  rcases hrow with h9 | ⟨b, o, rfl, hrow⟩
  · rw [h9] at hi; simp at hi
  obtain ⟨x, hx⟩ : ∃ x, A.l[i]? = some x := ⟨_, List.getElem?_eq_getElem hi⟩
  obtain ⟨y, hy⟩ : ∃ y, A.l[j]? = some y := ⟨_, List.getElem?_eq_getElem hj⟩
  obtain ⟨-, -, -, -, -, -, ya⟩ := pa7_at (fun q u hq => below_cell h.bel (hrow q u hq)) hx
  obtain ⟨-, -, -, -, -, -, yb⟩ := pa7_at (fun q u hq => below_cell h.bel (hrow q u hq)) hy
  have HXY : Hid (A.l.getD i paZ = x ∧ A.l.getD j paZ = y) := ⟨getD_some hx, getD_some hy⟩
  obtain ⟨pa, hpa⟩ : ∃ pa, x.p = pa := ⟨_, rfl⟩
  obtain ⟨pb, hpb⟩ : ∃ pb, y.p = pb := ⟨_, rfl⟩
  rw [hpa] at ya
  rw [hpb] at yb
  have HP : Hid (x.p = pa ∧ y.p = pb) := ⟨hpa, hpb⟩
  have k0 := h.cP hpv
  have k2 := h.cJ0
  have ja := (h.cJ hva).2.1
  have jb := (h.cJ hvb).2.1
  obtain ⟨p1, ra, hqa⟩ : ∃ p r, s.jobs.getD i [] = p :: r := List.exists_cons_of_ne_nil qi
  obtain ⟨p2, rb, hqb⟩ : ∃ p r, s.jobs.getD j [] = p :: r := List.exists_cons_of_ne_nil qj
  have HQ : Hid (s.jobs.getD i [] = p1 :: ra ∧ s.jobs.getD j [] = p2 :: rb) := ⟨hqa, hqb⟩
  rw [hqa] at la
  rw [hqb] at lb
  obtain ⟨ga, oa, ca, rfl, -, -, ha, -, -, lga, -⟩ := la.head
  obtain ⟨gb, ob, cb, rfl, -, -, hb, -, -, lgb, -⟩ := lb.head
  obtain ⟨sa, hsa⟩ : ∃ sa, p1.si = sa := ⟨_, rfl⟩
  obtain ⟨sb, hsb⟩ : ∃ sb, p2.si = sb := ⟨_, rfl⟩
  rw [hsa] at ha
  rw [hsb] at hb
  have HSI : Hid (p1.si = sa ∧ p2.si = sb) := ⟨hsa, hsb⟩
  have hii : (i : Int) < (A.l.length : Int) := by omega
  have hji : (j : Int) < (A.l.length : Int) := by omega
  have lgs := heap_lt h.sc
  have lgJ := heap_lt h.jr
  have lgb2 := World.block_lt_of_cell? _ _ ya
  have hr1 : (0 : Int) < ((ra.length + 1 : Nat) : Int) := by omega
  have hr2 : (0 : Int) < (ra.length : Int) + 1 := by omega
  have hr3 : (0 : Int) < ((rb.length + 1 : Nat) : Int) := by omega
  have hr4 : (0 : Int) < (rb.length : Int) + 1 := by omega
  clear h la lb hva hvb hI hz hpv hrow hx hy hpa hpb hqa hqb hsa hsb
  go_enter Try.func50, Try.ntmps50
  go_upto_region 1 with fail
  refine wp_region_noPanic ?_
  refine wp_region_held_drew (S := fun w' => w'.cell? ⟨A.gs, 0, none⟩ = some (.slice (some ⟨b, o, none⟩) A.l.length cl) ∧ w'.cell? ⟨b, o + i * 7 + 6, none⟩ = some (.int .i64 pa) ∧ w'.cell? ⟨b, o + j * 7 + 6, none⟩ = some (.int .i64 pb)) (by kernel_rfl) ⟨k0, ya, yb⟩ (fun hHeld => ?_)
  refine take_at (i := 0) (n := 7) (v := ?_) rfl rfl (by kernel_rfl) (by kernel_rfl) (by kernel_rfl) (fun _ _ _ h => h) (Or.inl ⟨by rfl, ?_⟩) (by assumption) ?_
  rotate_left 1
  · intro wz hSw
    obtain ⟨s0, s1, s2⟩ := hSw
    first | (go_simp; done) | (go_simp; with_reducible rfl)
  simp only [List.set_cons_zero, List.set_cons_succ]
  refine take_at (i := 1) (n := 8) (v := ?_) rfl rfl (by kernel_rfl) (by kernel_rfl) (by kernel_rfl) (fun _ _ _ h => h) (Or.inl ⟨by rfl, ?_⟩) (by assumption) ?_
  rotate_left 1
  · intro wz hSw
    obtain ⟨s0, s1, s2⟩ := hSw
    first | (go_simp; done) | (go_simp; with_reducible rfl)
  simp only [List.set_cons_zero, List.set_cons_succ]
  refine take_at (i := 2) (n := 9) (v := ?_) rfl rfl (by kernel_rfl) (by kernel_rfl) (by kernel_rfl) (fun _ _ _ h => h) (Or.inl ⟨by rfl, ?_⟩) (by assumption) ?_
  rotate_left 1
  · intro wz hSw
    obtain ⟨s0, s1, s2⟩ := hSw
    first | (go_simp; done) | (go_simp; with_reducible rfl)
  simp only [List.set_cons_zero, List.set_cons_succ]
  refine take_at (i := 3) (n := 10) (v := ?_) rfl rfl (by kernel_rfl) (by kernel_rfl) (by kernel_rfl) (fun _ _ _ h => h) (Or.inl ⟨by rfl, ?_⟩) (by assumption) ?_
  rotate_left 1
  · intro wz hSw
    obtain ⟨s0, s1, s2⟩ := hSw
    first | (go_simp; done) | (go_simp; with_reducible rfl)
  simp only [List.set_cons_zero, List.set_cons_succ]
  refine take_at (i := 4) (n := 11) (v := ?_) rfl rfl (by kernel_rfl) (by kernel_rfl) (by kernel_rfl) (fun _ _ _ h => h) (Or.inl ⟨by rfl, ?_⟩) (by assumption) ?_
  rotate_left 1
  · intro wz hSw
    obtain ⟨s0, s1, s2⟩ := hSw
    first | (go_simp; done) | (go_simp; with_reducible rfl)
  simp only [List.set_cons_zero, List.set_cons_succ]
  refine take_at (i := 5) (n := 12) (v := ?_) rfl rfl (by kernel_rfl) (by kernel_rfl) (by kernel_rfl) (fun _ _ _ h => h) (Or.inl ⟨by rfl, ?_⟩) (by assumption) ?_
  rotate_left 1
  · intro wz hSw
    obtain ⟨s0, s1, s2⟩ := hSw
    first | (go_simp; done) | (go_simp; with_reducible rfl)
  simp only [List.set_cons_zero, List.set_cons_succ]
  refine take_at (i := 6) (n := 13) (v := ?_) rfl rfl (by kernel_rfl) (by kernel_rfl) (by kernel_rfl) (fun _ _ _ h => h) (Or.inl ⟨by rfl, ?_⟩) (by assumption) ?_
  rotate_left 1
  · intro wz hSw
    obtain ⟨s0, s1, s2⟩ := hSw
    first | (go_simp; done) | (go_simp; with_reducible rfl)
  simp only [List.set_cons_zero, List.set_cons_succ]
  refine take_at (i := 7) (n := 14) (v := ?_) rfl rfl (by kernel_rfl) (by kernel_rfl) (by kernel_rfl) (fun _ _ _ h => h) (Or.inl ⟨by rfl, ?_⟩) (by assumption) ?_
  rotate_left 1
  · intro wz hSw
    obtain ⟨s0, s1, s2⟩ := hSw
    first | (go_simp; done) | (go_simp; with_reducible rfl)
  simp only [List.set_cons_zero, List.set_cons_succ]
  refine take_at (i := 8) (n := 15) (v := ?_) rfl rfl (by kernel_rfl) (by kernel_rfl) (by kernel_rfl) (fun _ _ _ h => h) (Or.inl ⟨by rfl, ?_⟩) (by assumption) ?_
  rotate_left 1
  · intro wz hSw
    obtain ⟨s0, s1, s2⟩ := hSw
    first | (go_simp; done) | (go_simp; with_reducible rfl)
  simp only [List.set_cons_zero, List.set_cons_succ]
  refine take_at (i := 9) (n := 16) (v := ?_) rfl rfl (by kernel_rfl) (by kernel_rfl) (by kernel_rfl) (fun _ _ _ h => h) (Or.inl ⟨by rfl, ?_⟩) (by assumption) ?_
  rotate_left 1
  · intro wz hSw
    obtain ⟨s0, s1, s2⟩ := hSw
    first | (go_simp; done) | (go_simp; with_reducible rfl)
  simp only [List.set_cons_zero, List.set_cons_succ]
  refine take_at (i := 10) (n := 17) (v := ?_) rfl rfl (by kernel_rfl) (by kernel_rfl) (by kernel_rfl) (fun _ _ _ h => h) (Or.inl ⟨by rfl, ?_⟩) (by assumption) ?_
  rotate_left 1
  · intro wz hSw
    obtain ⟨s0, s1, s2⟩ := hSw
    first | (go_simp; done) | (go_simp; with_reducible rfl)
  simp only [List.set_cons_zero, List.set_cons_succ]
  refine take_at (i := 11) (n := 18) (v := ?_) rfl rfl (by kernel_rfl) (by kernel_rfl) (by kernel_rfl) (fun _ _ _ h => h) (Or.inl ⟨by rfl, ?_⟩) (by assumption) ?_
  rotate_left 1
  · intro wz hSw
    obtain ⟨s0, s1, s2⟩ := hSw
    first | (go_simp; done) | (go_simp; with_reducible rfl)
  simp only [List.set_cons_zero, List.set_cons_succ]
  refine take_at (i := 12) (n := 19) (v := ?_) rfl rfl (by kernel_rfl) (by kernel_rfl) (by kernel_rfl) (fun _ _ _ h => h) (Or.inl ⟨by rfl, ?_⟩) (by assumption) ?_
  rotate_left 1
  · intro wz hSw
    obtain ⟨s0, s1, s2⟩ := hSw
    first | (go_simp; done) | (go_simp; with_reducible rfl)
  simp only [List.set_cons_zero, List.set_cons_succ]
  refine take_at (i := 13) (n := 20) (v := ?_) rfl rfl (by kernel_rfl) (by kernel_rfl) (by kernel_rfl) (fun _ _ _ h => h) (Or.inl ⟨by rfl, ?_⟩) (by assumption) ?_
  rotate_left 1
  · intro wz hSw
    obtain ⟨s0, s1, s2⟩ := hSw
    first | (go_simp; done) | (go_simp; with_reducible rfl)
  simp only [List.set_cons_zero, List.set_cons_succ]
  refine take_at (i := 14) (n := 21) (v := ?_) rfl rfl (by kernel_rfl) (by kernel_rfl) (by kernel_rfl) (fun _ _ _ h => h) (Or.inl ⟨by rfl, ?_⟩) (by assumption) ?_
  rotate_left 1
  · intro wz hSw
    obtain ⟨s0, s1, s2⟩ := hSw
    first | (go_simp; done) | (go_simp; with_reducible rfl)
  simp only [List.set_cons_zero, List.set_cons_succ]
  refine take_at (i := 15) (n := 22) (v := ?_) rfl rfl (by kernel_rfl) (by kernel_rfl) (by kernel_rfl) (fun _ _ _ h => h) (Or.inl ⟨by rfl, ?_⟩) (by assumption) ?_
  rotate_left 1
  · intro wz hSw
    obtain ⟨s0, s1, s2⟩ := hSw
    first | (go_simp; done) | (go_simp; with_reducible rfl)
  simp only [List.set_cons_zero, List.set_cons_succ]
  refine take_at (i := 16) (n := 23) (v := ?_) rfl rfl (by kernel_rfl) (by kernel_rfl) (by kernel_rfl) (fun _ _ _ h => h) (Or.inl ⟨by rfl, ?_⟩) (by assumption) ?_
  rotate_left 1
  · intro wz hSw
    obtain ⟨s0, s1, s2⟩ := hSw
    first | (go_simp; done) | (go_simp; with_reducible rfl)
  simp only [List.set_cons_zero, List.set_cons_succ]
  refine wpAnyH_done (by kernel_rfl) ?_ _
  refine NoPanic.normal ?_
  clear hHeld
  by_cases hne : pa = pb
  rotate_left 1
  · have hb : (pa != pb) = true := by simpa using hne
    have hzz : Hid (z = decide (pb < pa)) := by
      show z = _
      rw [← HZ.out]
      unfold aheadQ
      rw [HXY.out.1, HXY.out.2, HP.out.1, HP.out.2, if_pos hne]
    clear hne
    go_upto_region 2 with fail
    refine wp_region_noPanic ?_
    refine wp_region_held_drew (S := fun w' => w'.cell? ⟨A.gs, 0, none⟩ = some (.slice (some ⟨b, o, none⟩) A.l.length cl) ∧ w'.cell? ⟨b, o + i * 7 + 6, none⟩ = some (.int .i64 pa) ∧ w'.cell? ⟨b, o + j * 7 + 6, none⟩ = some (.int .i64 pb)) (by kernel_rfl) ⟨k0, ya, yb⟩ (fun hHeld => ?_)
    refine take_at (i := 0) (n := 24) (v := ?_) rfl rfl (by kernel_rfl) (by kernel_rfl) (by kernel_rfl) (fun _ _ _ h => h) (Or.inl ⟨by rfl, ?_⟩) (by assumption) ?_
    rotate_left 1
    · intro wz hSw
      obtain ⟨s0, s1, s2⟩ := hSw
      first | (go_simp; done) | (go_simp; with_reducible rfl)
    simp only [List.set_cons_zero, List.set_cons_succ]
    refine take_at (i := 1) (n := 25) (v := ?_) rfl rfl (by kernel_rfl) (by kernel_rfl) (by kernel_rfl) (fun _ _ _ h => h) (Or.inl ⟨by rfl, ?_⟩) (by assumption) ?_
    rotate_left 1
    · intro wz hSw
      obtain ⟨s0, s1, s2⟩ := hSw
      first | (go_simp; done) | (go_simp; with_reducible rfl)
    simp only [List.set_cons_zero, List.set_cons_succ]
    refine take_at (i := 2) (n := 26) (v := ?_) rfl rfl (by kernel_rfl) (by kernel_rfl) (by kernel_rfl) (fun _ _ _ h => h) (Or.inl ⟨by rfl, ?_⟩) (by assumption) ?_
    rotate_left 1
    · intro wz hSw
      obtain ⟨s0, s1, s2⟩ := hSw
      first | (go_simp; done) | (go_simp; with_reducible rfl)
    simp only [List.set_cons_zero, List.set_cons_succ]
    refine take_at (i := 3) (n := 27) (v := ?_) rfl rfl (by kernel_rfl) (by kernel_rfl) (by kernel_rfl) (fun _ _ _ h => h) (Or.inl ⟨by rfl, ?_⟩) (by assumption) ?_
    rotate_left 1
    · intro wz hSw
      obtain ⟨s0, s1, s2⟩ := hSw
      first | (go_simp; done) | (go_simp; with_reducible rfl)
    simp only [List.set_cons_zero, List.set_cons_succ]
    refine take_at (i := 4) (n := 28) (v := ?_) rfl rfl (by kernel_rfl) (by kernel_rfl) (by kernel_rfl) (fun _ _ _ h => h) (Or.inl ⟨by rfl, ?_⟩) (by assumption) ?_
    rotate_left 1
    · intro wz hSw
      obtain ⟨s0, s1, s2⟩ := hSw
      first | (go_simp; done) | (go_simp; with_reducible rfl)
    simp only [List.set_cons_zero, List.set_cons_succ]
    refine take_at (i := 5) (n := 29) (v := ?_) rfl rfl (by kernel_rfl) (by kernel_rfl) (by kernel_rfl) (fun _ _ _ h => h) (Or.inl ⟨by rfl, ?_⟩) (by assumption) ?_
    rotate_left 1
    · intro wz hSw
      obtain ⟨s0, s1, s2⟩ := hSw
      first | (go_simp; done) | (go_simp; with_reducible rfl)
    simp only [List.set_cons_zero, List.set_cons_succ]
    refine take_at (i := 6) (n := 30) (v := ?_) rfl rfl (by kernel_rfl) (by kernel_rfl) (by kernel_rfl) (fun _ _ _ h => h) (Or.inl ⟨by rfl, ?_⟩) (by assumption) ?_
    rotate_left 1
    · intro wz hSw
      obtain ⟨s0, s1, s2⟩ := hSw
      first | (go_simp; done) | (go_simp; with_reducible rfl)
    simp only [List.set_cons_zero, List.set_cons_succ]
    refine take_at (i := 7) (n := 31) (v := ?_) rfl rfl (by kernel_rfl) (by kernel_rfl) (by kernel_rfl) (fun _ _ _ h => h) (Or.inl ⟨by rfl, ?_⟩) (by assumption) ?_
    rotate_left 1
    · intro wz hSw
      obtain ⟨s0, s1, s2⟩ := hSw
      first | (go_simp; done) | (go_simp; with_reducible rfl)
    simp only [List.set_cons_zero, List.set_cons_succ]
    refine take_at (i := 8) (n := 32) (v := ?_) rfl rfl (by kernel_rfl) (by kernel_rfl) (by kernel_rfl) (fun _ _ _ h => h) (Or.inl ⟨by rfl, ?_⟩) (by assumption) ?_
    rotate_left 1
    · intro wz hSw
      obtain ⟨s0, s1, s2⟩ := hSw
      first | (go_simp; done) | (go_simp; with_reducible rfl)
    simp only [List.set_cons_zero, List.set_cons_succ]
    refine take_at (i := 9) (n := 33) (v := ?_) rfl rfl (by kernel_rfl) (by kernel_rfl) (by kernel_rfl) (fun _ _ _ h => h) (Or.inl ⟨by rfl, ?_⟩) (by assumption) ?_
    rotate_left 1
    · intro wz hSw
      obtain ⟨s0, s1, s2⟩ := hSw
      first | (go_simp; done) | (go_simp; with_reducible rfl)
    simp only [List.set_cons_zero, List.set_cons_succ]
    refine take_at (i := 10) (n := 34) (v := ?_) rfl rfl (by kernel_rfl) (by kernel_rfl) (by kernel_rfl) (fun _ _ _ h => h) (Or.inl ⟨by rfl, ?_⟩) (by assumption) ?_
    rotate_left 1
    · intro wz hSw
      obtain ⟨s0, s1, s2⟩ := hSw
      first | (go_simp; done) | (go_simp; with_reducible rfl)
    simp only [List.set_cons_zero, List.set_cons_succ]
    refine take_at (i := 11) (n := 35) (v := ?_) rfl rfl (by kernel_rfl) (by kernel_rfl) (by kernel_rfl) (fun _ _ _ h => h) (Or.inl ⟨by rfl, ?_⟩) (by assumption) ?_
    rotate_left 1
    · intro wz hSw
      obtain ⟨s0, s1, s2⟩ := hSw
      first | (go_simp; done) | (go_simp; with_reducible rfl)
    simp only [List.set_cons_zero, List.set_cons_succ]
    refine take_at (i := 12) (n := 36) (v := ?_) rfl rfl (by kernel_rfl) (by kernel_rfl) (by kernel_rfl) (fun _ _ _ h => h) (Or.inl ⟨by rfl, ?_⟩) (by assumption) ?_
    rotate_left 1
    · intro wz hSw
      obtain ⟨s0, s1, s2⟩ := hSw
      first | (go_simp; done) | (go_simp; with_reducible rfl)
    simp only [List.set_cons_zero, List.set_cons_succ]
    refine take_at (i := 13) (n := 37) (v := ?_) rfl rfl (by kernel_rfl) (by kernel_rfl) (by kernel_rfl) (fun _ _ _ h => h) (Or.inl ⟨by rfl, ?_⟩) (by assumption) ?_
    rotate_left 1
    · intro wz hSw
      obtain ⟨s0, s1, s2⟩ := hSw
      first | (go_simp; done) | (go_simp; with_reducible rfl)
    simp only [List.set_cons_zero, List.set_cons_succ]
    refine take_at (i := 14) (n := 38) (v := ?_) rfl rfl (by kernel_rfl) (by kernel_rfl) (by kernel_rfl) (fun _ _ _ h => h) (Or.inl ⟨by rfl, ?_⟩) (by assumption) ?_
    rotate_left 1
    · intro wz hSw
      obtain ⟨s0, s1, s2⟩ := hSw
      first | (go_simp; done) | (go_simp; with_reducible rfl)
    simp only [List.set_cons_zero, List.set_cons_succ]
    refine take_at (i := 15) (n := 39) (v := ?_) rfl rfl (by kernel_rfl) (by kernel_rfl) (by kernel_rfl) (fun _ _ _ h => h) (Or.inl ⟨by rfl, ?_⟩) (by assumption) ?_
    rotate_left 1
    · intro wz hSw
      obtain ⟨s0, s1, s2⟩ := hSw
      first | (go_simp; done) | (go_simp; with_reducible rfl)
    simp only [List.set_cons_zero, List.set_cons_succ]
    refine take_at (i := 16) (n := 40) (v := ?_) rfl rfl (by kernel_rfl) (by kernel_rfl) (by kernel_rfl) (fun _ _ _ h => h) (Or.inl ⟨by rfl, ?_⟩) (by assumption) ?_
    rotate_left 1
    · intro wz hSw
      obtain ⟨s0, s1, s2⟩ := hSw
      first | (go_simp; done) | (go_simp; with_reducible rfl)
    simp only [List.set_cons_zero, List.set_cons_succ]
    refine take_at (i := 17) (n := 6) (v := ?_) rfl rfl (by kernel_rfl) (by kernel_rfl) (by kernel_rfl) (fun _ _ _ h => h) (Or.inl ⟨by rfl, ?_⟩) (by assumption) ?_
    rotate_left 1
    · intro wz hSw
      obtain ⟨s0, s1, s2⟩ := hSw
      first | (go_simp; done) | (go_simp; with_reducible rfl)
    simp only [List.set_cons_zero, List.set_cons_succ]
    refine wpAnyH_done (by kernel_rfl) ?_ _
    refine NoPanic.normal ?_
    clear hHeld
    go_wp2_with fail
    go_ret
    exact ⟨by rw [hzz.out]; rfl, (Below.refl _ _).drew.drew⟩
  subst hne
  have hzz : Hid (z = decide (sa < sb)) := by
    show z = _
    rw [← HZ.out]
    unfold aheadQ
    rw [HXY.out.1, HXY.out.2, HP.out.1, HP.out.2, if_neg (by simp), HQ.out.1, HQ.out.2]
    show decide (p1.si < p2.si) = _
    rw [HSI.out.1, HSI.out.2]
  go_upto_region 3 with fail
  refine wp_region_noPanic ?_
  refine wp_region_held_drew (S := fun w' => w'.cell? ⟨A.gs, 2, none⟩ = some (.slice (some ⟨A.gJ, 0, none⟩) A.l.length A.l.length) ∧ w'.cell? ⟨A.gJ, i, none⟩ = some (.slice (some ⟨ga, oa, none⟩) (ra.length + 1) ca) ∧ w'.cell? ⟨A.gJ, j, none⟩ = some (.slice (some ⟨gb, ob, none⟩) (rb.length + 1) cb) ∧ w'.cell? ⟨ga, oa + 1, none⟩ = some (.int .i64 sa) ∧ w'.cell? ⟨gb, ob + 1, none⟩ = some (.int .i64 sb)) (by kernel_rfl) ⟨k2, ja, jb, ha, hb⟩ (fun hHeld => ?_)
  refine take_at (i := 0) (n := 41) (v := ?_) rfl rfl (by kernel_rfl) (by kernel_rfl) (by kernel_rfl) (fun _ _ _ h => h) (Or.inl ⟨by rfl, ?_⟩) (by assumption) ?_
  rotate_left 1
  · intro wz hSw
    obtain ⟨s0, s1, s2, s3, s4⟩ := hSw
    first | (go_simp; done) | (go_simp; with_reducible rfl)
  simp only [List.set_cons_zero, List.set_cons_succ]
  refine take_at (i := 1) (n := 42) (v := ?_) rfl rfl (by kernel_rfl) (by kernel_rfl) (by kernel_rfl) (fun _ _ _ h => h) (Or.inl ⟨by rfl, ?_⟩) (by assumption) ?_
  rotate_left 1
  · intro wz hSw
    obtain ⟨s0, s1, s2, s3, s4⟩ := hSw
    first | (go_simp; done) | (go_simp; with_reducible rfl)
  simp only [List.set_cons_zero, List.set_cons_succ]
  refine take_at (i := 2) (n := 43) (v := ?_) rfl rfl (by kernel_rfl) (by kernel_rfl) (by kernel_rfl) (fun _ _ _ h => h) (Or.inl ⟨by rfl, ?_⟩) (by assumption) ?_
  rotate_left 1
  · intro wz hSw
    obtain ⟨s0, s1, s2, s3, s4⟩ := hSw
    first | (go_simp; done) | (go_simp; with_reducible rfl)
  simp only [List.set_cons_zero, List.set_cons_succ]
  refine take_at (i := 3) (n := 44) (v := ?_) rfl rfl (by kernel_rfl) (by kernel_rfl) (by kernel_rfl) (fun _ _ _ h => h) (Or.inl ⟨by rfl, ?_⟩) (by assumption) ?_
  rotate_left 1
  · intro wz hSw
    obtain ⟨s0, s1, s2, s3, s4⟩ := hSw
    first | (go_simp; done) | (go_simp; with_reducible rfl)
  simp only [List.set_cons_zero, List.set_cons_succ]
  refine take_at (i := 4) (n := 45) (v := ?_) rfl rfl (by kernel_rfl) (by kernel_rfl) (by kernel_rfl) (fun _ _ _ h => h) (Or.inl ⟨by rfl, ?_⟩) (by assumption) ?_
  rotate_left 1
  · intro wz hSw
    obtain ⟨s0, s1, s2, s3, s4⟩ := hSw
    first | (go_simp; done) | (go_simp; with_reducible rfl)
  simp only [List.set_cons_zero, List.set_cons_succ]
  refine take_at (i := 5) (n := 46) (v := ?_) rfl rfl (by kernel_rfl) (by kernel_rfl) (by kernel_rfl) (fun _ _ _ h => h) (Or.inl ⟨by rfl, ?_⟩) (by assumption) ?_
  rotate_left 1
  · intro wz hSw
    obtain ⟨s0, s1, s2, s3, s4⟩ := hSw
    first | (go_simp; done) | (go_simp; with_reducible rfl)
  simp only [List.set_cons_zero, List.set_cons_succ]
  refine take_at (i := 6) (n := 47) (v := ?_) rfl rfl (by kernel_rfl) (by kernel_rfl) (by kernel_rfl) (fun _ _ _ h => h) (Or.inl ⟨by rfl, ?_⟩) (by assumption) ?_
  rotate_left 1
  · intro wz hSw
    obtain ⟨s0, s1, s2, s3, s4⟩ := hSw
    first | (go_simp; done) | (go_simp; with_reducible rfl)
  simp only [List.set_cons_zero, List.set_cons_succ]
  refine take_at (i := 7) (n := 48) (v := ?_) rfl rfl (by kernel_rfl) (by kernel_rfl) (by kernel_rfl) (fun _ _ _ h => h) (Or.inl ⟨by rfl, ?_⟩) (by assumption) ?_
  rotate_left 1
  · intro wz hSw
    obtain ⟨s0, s1, s2, s3, s4⟩ := hSw
    first | (go_simp; done) | (go_simp; with_reducible rfl)
  simp only [List.set_cons_zero, List.set_cons_succ]
  refine take_at (i := 8) (n := 49) (v := ?_) rfl rfl (by kernel_rfl) (by kernel_rfl) (by kernel_rfl) (fun _ _ _ h => h) (Or.inl ⟨by rfl, ?_⟩) (by assumption) ?_
  rotate_left 1
  · intro wz hSw
    obtain ⟨s0, s1, s2, s3, s4⟩ := hSw
    first | (go_simp; done) | (go_simp; with_reducible rfl)
  simp only [List.set_cons_zero, List.set_cons_succ]
  refine take_at (i := 9) (n := 50) (v := ?_) rfl rfl (by kernel_rfl) (by kernel_rfl) (by kernel_rfl) (fun _ _ _ h => h) (Or.inl ⟨by rfl, ?_⟩) (by assumption) ?_
  rotate_left 1
  · intro wz hSw
    obtain ⟨s0, s1, s2, s3, s4⟩ := hSw
    first | (go_simp; done) | (go_simp; with_reducible rfl)
  simp only [List.set_cons_zero, List.set_cons_succ]
  refine take_at (i := 10) (n := 51) (v := ?_) rfl rfl (by kernel_rfl) (by kernel_rfl) (by kernel_rfl) (fun _ _ _ h => h) (Or.inl ⟨by rfl, ?_⟩) (by assumption) ?_
  rotate_left 1
  · intro wz hSw
    obtain ⟨s0, s1, s2, s3, s4⟩ := hSw
    first | (go_simp; done) | (go_simp; with_reducible rfl)
  simp only [List.set_cons_zero, List.set_cons_succ]
  refine take_at (i := 11) (n := 52) (v := ?_) rfl rfl (by kernel_rfl) (by kernel_rfl) (by kernel_rfl) (fun _ _ _ h => h) (Or.inl ⟨by rfl, ?_⟩) (by assumption) ?_
  rotate_left 1
  · intro wz hSw
    obtain ⟨s0, s1, s2, s3, s4⟩ := hSw
    first | (go_simp; done) | (go_simp; with_reducible rfl)
  simp only [List.set_cons_zero, List.set_cons_succ]
  refine take_at (i := 12) (n := 53) (v := ?_) rfl rfl (by kernel_rfl) (by kernel_rfl) (by kernel_rfl) (fun _ _ _ h => h) (Or.inl ⟨by rfl, ?_⟩) (by assumption) ?_
  rotate_left 1
  · intro wz hSw
    obtain ⟨s0, s1, s2, s3, s4⟩ := hSw
    first | (go_simp; done) | (go_simp; with_reducible rfl)
  simp only [List.set_cons_zero, List.set_cons_succ]
  refine take_at (i := 13) (n := 54) (v := ?_) rfl rfl (by kernel_rfl) (by kernel_rfl) (by kernel_rfl) (fun _ _ _ h => h) (Or.inl ⟨by rfl, ?_⟩) (by assumption) ?_
  rotate_left 1
  · intro wz hSw
    obtain ⟨s0, s1, s2, s3, s4⟩ := hSw
    first | (go_simp; done) | (go_simp; with_reducible rfl)
  simp only [List.set_cons_zero, List.set_cons_succ]
  refine take_at (i := 14) (n := 55) (v := ?_) rfl rfl (by kernel_rfl) (by kernel_rfl) (by kernel_rfl) (fun _ _ _ h => h) (Or.inl ⟨by rfl, ?_⟩) (by assumption) ?_
  rotate_left 1
  · intro wz hSw
    obtain ⟨s0, s1, s2, s3, s4⟩ := hSw
    first | (go_simp; done) | (go_simp; with_reducible rfl)
  simp only [List.set_cons_zero, List.set_cons_succ]
  refine take_at (i := 15) (n := 56) (v := ?_) rfl rfl (by kernel_rfl) (by kernel_rfl) (by kernel_rfl) (fun _ _ _ h => h) (Or.inl ⟨by rfl, ?_⟩) (by assumption) ?_
  rotate_left 1
  · intro wz hSw
    obtain ⟨s0, s1, s2, s3, s4⟩ := hSw
    first | (go_simp; done) | (go_simp; with_reducible rfl)
  simp only [List.set_cons_zero, List.set_cons_succ]
  refine take_at (i := 16) (n := 57) (v := ?_) rfl rfl (by kernel_rfl) (by kernel_rfl) (by kernel_rfl) (fun _ _ _ h => h) (Or.inl ⟨by rfl, ?_⟩) (by assumption) ?_
  rotate_left 1
  · intro wz hSw
    obtain ⟨s0, s1, s2, s3, s4⟩ := hSw
    first | (go_simp; done) | (go_simp; with_reducible rfl)
  simp only [List.set_cons_zero, List.set_cons_succ]
  refine take_at (i := 17) (n := 58) (v := ?_) rfl rfl (by kernel_rfl) (by kernel_rfl) (by kernel_rfl) (fun _ _ _ h => h) (Or.inl ⟨by rfl, ?_⟩) (by assumption) ?_
  rotate_left 1
  · intro wz hSw
    obtain ⟨s0, s1, s2, s3, s4⟩ := hSw
    first | (go_simp; done) | (go_simp; with_reducible rfl)
  simp only [List.set_cons_zero, List.set_cons_succ]
  refine take_at (i := 18) (n := 59) (v := ?_) rfl rfl (by kernel_rfl) (by kernel_rfl) (by kernel_rfl) (fun _ _ _ h => h) (Or.inl ⟨by rfl, ?_⟩) (by assumption) ?_
  rotate_left 1
  · intro wz hSw
    obtain ⟨s0, s1, s2, s3, s4⟩ := hSw
    first | (go_simp; done) | (go_simp; with_reducible rfl)
  simp only [List.set_cons_zero, List.set_cons_succ]
  refine take_at (i := 19) (n := 60) (v := ?_) rfl rfl (by kernel_rfl) (by kernel_rfl) (by kernel_rfl) (fun _ _ _ h => h) (Or.inl ⟨by rfl, ?_⟩) (by assumption) ?_
  rotate_left 1
  · intro wz hSw
    obtain ⟨s0, s1, s2, s3, s4⟩ := hSw
    first | (go_simp; done) | (go_simp; with_reducible rfl)
  simp only [List.set_cons_zero, List.set_cons_succ]
  refine take_at (i := 20) (n := 61) (v := ?_) rfl rfl (by kernel_rfl) (by kernel_rfl) (by kernel_rfl) (fun _ _ _ h => h) (Or.inl ⟨by rfl, ?_⟩) (by assumption) ?_
  rotate_left 1
  · intro wz hSw
    obtain ⟨s0, s1, s2, s3, s4⟩ := hSw
    first | (go_simp; done) | (go_simp; with_reducible rfl)
  simp only [List.set_cons_zero, List.set_cons_succ]
  refine take_at (i := 21) (n := 6) (v := ?_) rfl rfl (by kernel_rfl) (by kernel_rfl) (by kernel_rfl) (fun _ _ _ h => h) (Or.inl ⟨by rfl, ?_⟩) (by assumption) ?_
  rotate_left 1
  · intro wz hSw
    obtain ⟨s0, s1, s2, s3, s4⟩ := hSw
    first | (go_simp; done) | (go_simp; with_reducible rfl)
  simp only [List.set_cons_zero, List.set_cons_succ]
  refine wpAnyH_done (by kernel_rfl) ?_ _
  refine NoPanic.normal ?_
  clear hHeld
  go_wp2_with fail
  go_ret
  exact ⟨by rw [hzz.out]; rfl, (Below.refl _ _).drew.drew⟩

theorem lenC_any (W : World) (ad : Option Addr) (n c : Nat) : Calls Try.prog 52 #[.slice ad n c] W fun r w' => r = .returned (.bool (decide (0 < n))) ∧ w' = W := by
  go_enter Try.func52, Try.ntmps52
  go_wp2_with fail
  go_ret
  exact ⟨by simp, rfl⟩

set_option maxRecDepth 20000 in
set_option maxHeartbeats 4000000 in
theorem indexM_any (A : Ad) (W : World) (jv mv ev : List Value) (s : Sc) (h : SW A W jv mv ev s) (hm : s.mail.length = A.l.length) (h8 : A.l.length ≤ 8) : Calls Try.prog 51 #[.slice (some ⟨A.gM, 0, none⟩) A.l.length A.l.length, .func (Fn.func 52) #[] #[]] W fun r w' => r = .returned (.int .i64 (firstM s.mail 0)) ∧ w' = W := by
  have HS : Hid (SW A W jv mv ev s) := h
  have HM : Hid (s.mail.length = A.l.length) := hm
  obtain ⟨z, hz⟩ : ∃ z, firstM s.mail 0 = z := ⟨_, rfl⟩
  have HZ : Hid (firstM s.mail 0 = z) := hz
  have lg := heap_lt h.mr
  rw [hz]
  clear h hm hz
  go_enter Try.func51, Try.ntmps51
  go_wp2_with fail
  go_loopw [8] (fun iv wr => ∃ k : Nat, k ≤ A.l.length ∧ iv = .int .i64 (k : Int) ∧ wr = W ∧ Hid (firstM (s.mail.drop k) k = z)) (fun iv _ => A.l.length - (intOf iv).toNat)
  case atStart => exact ⟨0, Nat.zero_le _, rfl, rfl, HZ⟩
  case round =>
    obtain ⟨k, hk, rfl, rfl, HK⟩ := hrel
    by_cases hkl : k < A.l.length
    · obtain ⟨v, hv⟩ : ∃ v, mv[k]? = some v := ⟨_, List.getElem?_eq_getElem (by rw [HS.out.lm]; exact hkl)⟩
      obtain ⟨q, hq, hd⟩ := drop_at (l := s.mail) (k := k) (by rw [HM.out]; exact hkl)
      have hl := HS.out.lms k v hv
      rw [getD_some hq] at hl
      obtain ⟨ad, c, rfl⟩ := hl.val
      have c0 := (HS.out.cM hv).2
      have hki : (k : Int) < (A.l.length : Int) := by omega
      have hkz := HK.out
      rw [hd] at hkz
      unfold firstM at hkz
      have HKZ : Hid ((if q ≠ [] then ((k : Nat) : Int) else firstM (s.mail.drop (k + 1)) (k + 1)) = z) := hkz
      have HC := lenC_any wr ad q.length c
      clear hv hq hd hl hkz HK
      rcases q with _ | ⟨p, r⟩
      · have HN : Hid (firstM (s.mail.drop (k + 1)) (k + 1) = z) := by
          have h9 := HKZ.out
          rw [if_neg (by simp)] at h9
          exact h9
        simp only [List.length_nil, Nat.lt_irrefl, decide_false] at HC
        rw [List.length_nil] at c0
        clear HKZ
        go_wp2_with (go_at_call 52; refine HC.mono ?_; rintro r w5 ⟨rfl, hw5⟩; have hw6 := hw5.symm; subst hw6)
        exact ⟨⟨k + 1, by omega, by simp, by trivial, HN⟩, by simp [intOf]; omega⟩
      · have HN : Hid (((k : Nat) : Int) = z) := by
          have h9 := HKZ.out
          rw [if_pos (by simp)] at h9
          exact h9
        have hd0 : decide (0 < (p :: r).length) = true := by simp
        rw [hd0] at HC
        generalize (p :: r).length = qn at *
        clear HKZ hd0
        go_wp2_with (go_at_call 52; refine HC.mono ?_; rintro r w5 ⟨rfl, hw5⟩; have hw6 := hw5.symm; subst hw6)
        go_ret
        exact ⟨by rw [HN.out]; rfl, rfl⟩
    · have hke : k = A.l.length := by omega
      subst hke
      have hki : ¬ ((A.l.length : Nat) : Int) < (A.l.length : Int) := by omega
      have HN : Hid (z = -1) := by
        have h9 := HK.out
        rw [List.drop_of_length_le (by rw [HM.out]; exact Nat.le_refl _)] at h9
        exact h9.symm
      go_wp2_with fail
      go_ret
      exact ⟨by rw [HN.out]; rfl, rfl⟩
end Go.Proofs.Ytccoobcggbbciam
namespace Go.Proofs.Ytccoobcggbbciam
open Go.ChangeShapes Go.WideShapes Go.ChangeAt Go.RowKit

set_option maxRecDepth 20000 in
set_option maxHeartbeats 4000000 in
theorem sent_any (A : Ad) (W : World) (jv mv ev : List Value) (s : Sc) (h : SW A W jv mv ev s) (hm : s.mail.length = A.l.length) (h8 : A.l.length ≤ 8) : Calls Try.prog 37 #[.pointer (some ⟨A.gs, 0, none⟩)] W fun r w' => r = .returned (.int .i64 (sentF s)) ∧ SW A w' jv mv ev { s with un := sentF s } := by
  obtain ⟨cs, cf, lgs⟩ := cells_of (l := [_, _, _, _, _, _]) h.sc
  have c3 := cs 3 _ rfl
  have c4 := cs 4 _ rfl
  have f4 := cf 4
  have HS : Hid (SW A W jv mv ev s) := h
  have HI := indexM_any A W jv mv ev s h hm h8
  obtain ⟨z, hz⟩ : ∃ z, sentF s = z := ⟨_, rfl⟩
  have HZ : Hid (sentF s = z) := hz
  rw [hz]
  clear cs cf h hz
  by_cases hu : s.un = -1
  · have hzf : firstM s.mail 0 = z := by rw [← HZ.out]; unfold sentF; rw [if_pos hu]
    rw [hzf] at HI
    have HN : Hid (SW A (W.setCell ⟨A.gs, 4, none⟩ (.int .i64 z)) jv mv ev { s with un := z }) := HS.out.setUn z
    rw [hu] at c4
    clear hzf hu
    go_enter Try.func37, Try.ntmps37
    go_wp2_with (go_at_call 51; refine HI.mono ?_; rintro r w5 ⟨rfl, hw5⟩; have hw6 := hw5.symm; subst hw6; clear HI)
    go_ret
    exact ⟨rfl, HN.out⟩
  · have hub : (s.un == -1) = false := by simpa using hu
    have hzu : z = s.un := by rw [← HZ.out]; unfold sentF; rw [if_neg hu]
    subst hzu
    have HN : Hid (SW A W jv mv ev { s with un := s.un }) := HS.out
    clear hu HI
    go_enter Try.func37, Try.ntmps37
    go_wp2_with fail
    go_ret
    exact ⟨rfl, HN.out⟩

theorem firsts_ends {w : World} {g : Nat} {a b c d : Value} {ac : Act} (h : w.heap[g]? = some (.cells #[a, b, c, d] 77 (0, 0))) (h3 : ac.tmps[2]?.getD undef = .pointer (some ⟨g, 0, none⟩)) :
    (results Try.f36 ac.tmps).run Try.prog w = .ok (.agg #[a, b, c, d]) w := by
  obtain ⟨c1, f1, l1⟩ := cells_of (l := [_, _, _, _]) h
  have c10 := c1 0 _ rfl
  have c11 := c1 1 _ rfl
  have c12 := c1 2 _ rfl
  have c13 := c1 3 _ rfl
  simp [results, Try.results36, go_sem, h3, c10, c11, c12, c13]

/-- What firsts holds: both blocks. -/
structure F4 (W0 W : World) (g : Nat) (fs : List Int) : Prop where
  bel : Below W0.heap.size W0 W
  res : W.heap[W0.heap.size]? = some (.cells #[.int .i64 0, .int .i64 0, .int .i64 0, .int .i64 0] 77 (0, 0))
  row : W.heap[g]? = some (.cells (fs.map (Value.int .i64)).toArray 77 (0, 0))
  ne : W0.heap.size < g
theorem F4.grow {W0 W W' : World} {g : Nat} {fs : List Int} (h : F4 W0 W g fs) (hb : Below W.heap.size W W') : F4 W0 W' g fs := ⟨below_seq h.bel hb, (hb.block _ (heap_lt h.res)).trans h.res, (hb.block _ (heap_lt h.row)).trans h.row, h.ne⟩
theorem F4.set {W0 W : World} {g : Nat} {fs : List Int} (h : F4 W0 W g fs) (i : Nat) (z : Int) : F4 W0 (W.setCell ⟨g, i, none⟩ (.int .i64 z)) g (fs.set i z) := by
  have := h.ne
  exact ⟨h.bel.setCell (show W0.heap.size ≤ g by omega) _, by rw [Below.heap_setCell _ _ _ _ (show W0.heap.size ≠ g by omega)]; exact h.res, by rw [setCell_list h.row, List.map_set], h.ne⟩

theorem rep_set {k : Nat} (hk : k < 4) : (List.replicate k (-1 : Int) ++ List.replicate (4 - k) 0).set k (-1) = List.replicate (k + 1) (-1) ++ List.replicate (4 - (k + 1)) 0 := by
  rcases (by omega : k = 0 ∨ k = 1 ∨ k = 2 ∨ k = 3) with rfl | rfl | rfl | rfl <;> rfl
theorem rep_get {k : Nat} (hk : k < 4) : (List.replicate k (-1 : Int) ++ List.replicate (4 - k) 0)[k]? = some 0 := by
  rcases (by omega : k = 0 ∨ k = 1 ∨ k = 2 ∨ k = 3) with rfl | rfl | rfl | rfl <;> rfl

def FirstsPost (A : Ad) (s : Sc) (W : World) (r : Ending) (w' : World) : Prop := ∃ f0 f1 f2 f3, firstsTo A.l s.jobs A.l.length = [f0, f1, f2, f3] ∧ r = .returned (.agg #[.int .i64 f0, .int .i64 f1, .int .i64 f2, .int .i64 f3]) ∧ Below W.heap.size W w'

set_option maxRecDepth 20000 in
set_option maxHeartbeats 8000000 in
theorem firsts_any (A : Ad) (W : World) (jv mv ev : List Value) (s : Sc) (hI : Inp A) (h : SW A W jv mv ev s) (hj : s.jobs.length = A.l.length) : Calls Try.prog 36 #[.pointer (some ⟨A.gs, 0, none⟩)] W (FirstsPost A s W) := by
  have HS : Hid (SW A W jv mv ev s) := h
  have HI : Hid (Inp A) := hI
  have HJ : Hid (s.jobs.length = A.l.length) := hj
  have h8 := hI.ok.most
  obtain ⟨ad1, cl, hpv, -, hcap, hrow⟩ := hI.pr
  have h1 := hI.ok.one
  rcases hrow with h9 | ⟨b, o, rfl, hrow⟩
  · rw [h9] at h1; simp at h1
  have HR : Hid (∀ q u, (A.l.flatMap Pa.vals)[q]? = some u → A.w.cell? ⟨b, o + q, none⟩ = some u) := hrow
  have HPV : Hid (A.pv = .slice (some ⟨b, o, none⟩) A.l.length cl) := hpv
  have HF0 : Hid (F4 W ((W.alloc (.cells #[.int .i64 0, .int .i64 0, .int .i64 0, .int .i64 0] 77)).alloc (.cells #[.int .i64 0, .int .i64 0, .int .i64 0, .int .i64 0] 77)) (W.heap.size + 1) (List.replicate 0 (-1) ++ List.replicate (4 - 0) 0)) := ⟨below_seq (below_new _ _) (below_new _ _), by rw [Below.heap_alloc _ _ _ (by simp)]; exact heap_alloc_new _ _, by have := heap_alloc_new (W.alloc (.cells #[.int .i64 0, .int .i64 0, .int .i64 0, .int .i64 0] 77)) (.cells #[.int .i64 0, .int .i64 0, .int .i64 0, .int .i64 0] 77); simpa using this, Nat.lt_succ_self _⟩
  clear h hI hj hpv hrow
  go_enter Try.func36, Try.ntmps36
  go_upto_region 2 with fail
  generalize W.heap.size + 1 = g3 at *
  generalize (W.alloc (.cells #[.int .i64 0, .int .i64 0, .int .i64 0, .int .i64 0] 77)).alloc (.cells #[.int .i64 0, .int .i64 0, .int .i64 0, .int .i64 0] 77) = w2 at *
  go_wp2_with fail
  go_loopw [8] (fun iv wr => ∃ k : Nat, k ≤ 4 ∧ iv = .int .i64 (k : Int) ∧ F4 W wr g3 (List.replicate k (-1) ++ List.replicate (4 - k) 0)) (fun iv _ => 4 - (intOf iv).toNat)
  case atStart => exact ⟨0, by omega, rfl, HF0.out⟩
  case round =>
    obtain ⟨k, hk, rfl, hf⟩ := hrel
    have HF : Hid (F4 W wr g3 (List.replicate k (-1) ++ List.replicate (4 - k) 0)) := hf
    clear HF0 hf
    by_cases hk4 : k < 4
    · have hki : (k : Int) < 4 := by omega
      have hki0 : (0 : Int) ≤ (k : Int) := by omega
      obtain ⟨cs, cf, lg⟩ := cells_of HF.out.row
      have ck := cs k (.int .i64 0) (by rw [List.getElem?_map, rep_get hk4]; rfl)
      have fk := cf k
      have HN : Hid (F4 W (wr.setCell ⟨g3, k, none⟩ (.int .i64 (-1))) g3 (List.replicate (k + 1) (-1) ++ List.replicate (4 - (k + 1)) 0)) := by
        have h9 := HF.out.set k (-1)
        rw [rep_set hk4] at h9
        exact h9
      clear cs cf
      go_wp2_with fail
      exact ⟨⟨k + 1, by omega, by simp, HN.out⟩, by simp [intOf]; omega⟩
    have hke : k = 4 := by omega
    subst hke
    rw [show ((4 : Nat) : Int) = (4 : Int) from rfl]
    have HF1 : Hid (F4 W wr g3 (firstsTo A.l s.jobs 0)) := HF.out
    have HS1 : Hid (SW A wr jv mv ev s) := HS.out.grow HF.out.bel
    have cj := HS1.out.cJ0
    have lgs := heap_lt HS1.out.sc
    clear HF
    go_wp2_with fail
    clear cj lgs
    go_loopw [19] (fun iv wr2 => ∃ k : Nat, k ≤ A.l.length ∧ iv = .int .i64 (k : Int) ∧ F4 W wr2 g3 (firstsTo A.l s.jobs k)) (fun iv _ => A.l.length - (intOf iv).toNat)
    case atStart => exact ⟨0, Nat.zero_le _, rfl, HF1.out⟩
    case round =>
      obtain ⟨k, hk, rfl, hf⟩ := hrel
      generalize wr = wR at *
      have HF : Hid (F4 W wR g3 (firstsTo A.l s.jobs k)) := hf
      clear HF1 HS1 hf
      by_cases hkl : k < A.l.length
      rotate_left 1
      · have hke : k = A.l.length := by omega
        subst hke
        have hki : ¬ ((A.l.length : Nat) : Int) < (A.l.length : Int) := by omega
        obtain ⟨f0, f1, f2, f3, hfs⟩ : ∃ f0 f1 f2 f3, firstsTo A.l s.jobs A.l.length = [f0, f1, f2, f3] := by
          have h9 := firstsTo_len A.l s.jobs A.l.length
          match firstsTo A.l s.jobs A.l.length, h9 with
          | [a, b, c, d], _ => exact ⟨a, b, c, d, rfl⟩
        have HFS : Hid (firstsTo A.l s.jobs A.l.length = [f0, f1, f2, f3]) := hfs
        have hF := HF.out
        rw [hfs] at hF
        have HG : Hid (F4 W wR g3 [f0, f1, f2, f3]) := hF
        obtain ⟨cs, -, lg⟩ := cells_of (l := [_, _, _, _]) hF.row
        have c0 := cs 0 _ rfl
        have c1 := cs 1 _ rfl
        have c2 := cs 2 _ rfl
        have c3 := cs 3 _ rfl
        obtain ⟨rs, rf, rl⟩ := cells_of (l := [_, _, _, _]) hF.res
        have r0 := rs 0 _ rfl
        have r1 := rs 1 _ rfl
        have r2 := rs 2 _ rfl
        have r3 := rs 3 _ rfl
        have e0 := rf 0
        have e1 := rf 1
        have e2 := rf 2
        have e3 := rf 3
        clear cs rs rf hF hfs
        go_wp2_with fail
        refine bodyPost_ret (firsts_ends (g := W.heap.size) (a := .int .i64 f0) (b := .int .i64 f1) (c := .int .i64 f2) (d := .int .i64 f3) ?_ rfl) rfl ?_
        · rw [setCell_at (setCell_at (setCell_at (setCell_at HG.out.res)))]
          rfl
        · exact ⟨f0, f1, f2, f3, HFS.out, rfl, (((HG.out.bel.setCell (Nat.le_refl _) _).setCell (Nat.le_refl _) _).setCell (Nat.le_refl _) _).setCell (Nat.le_refl _) _⟩
      have hS := HS.out.grow HF.out.bel
      have HSR : Hid (SW A wR jv mv ev s) := hS
      obtain ⟨v, hv⟩ : ∃ v, jv[k]? = some v := ⟨_, List.getElem?_eq_getElem (by rw [hS.lj]; exact hkl)⟩
      obtain ⟨q, hq⟩ : ∃ q, s.jobs.getD k [] = q := ⟨_, rfl⟩
      have hln := hS.ljs k v hv
      rw [hq] at hln
      obtain ⟨ad0, c0, rfl⟩ := hln.val
      obtain ⟨x, hx⟩ : ∃ x, A.l[k]? = some x := ⟨_, List.getElem?_eq_getElem hkl⟩
      obtain ⟨y0, -⟩ := pa7_at (fun q u hq => below_cell hS.bel (HR.out q u hq)) hx
      have hco := (HI.out.ok.at_ k x hx).co
      obtain ⟨cn, hcn⟩ : ∃ cn : Nat, x.co = (cn : Int) := ⟨x.co.toNat, by omega⟩
      rw [hcn] at y0
      have hcn4 : cn < 4 := by omega
      obtain ⟨fv, hfv⟩ : ∃ fv, (firstsTo A.l s.jobs k)[cn]? = some fv := ⟨_, List.getElem?_eq_getElem (by rw [firstsTo_len]; exact hcn4)⟩
      have HST : Hid (firstsTo A.l s.jobs (k + 1) = if q ≠ [] ∧ (fv = -1 ∨ aheadQ A.l s.jobs k fv.toNat = true) then (firstsTo A.l s.jobs k).set cn (k : Int) else firstsTo A.l s.jobs k) := by
        show _ = _
        rw [show firstsTo A.l s.jobs (k + 1) = stepFirst A.l s.jobs (firstsTo A.l s.jobs k) k from rfl]
        unfold stepFirst
        rw [getD_some hx, hcn, Int.toNat_natCast, getD_some hfv, hq]
      have hfa := firstsTo_at k cn fv hfv
      obtain ⟨cs, cf, lg3⟩ := cells_of HF.out.row
      have cc := cs cn _ (by rw [List.getElem?_map, hfv]; rfl)
      have fc := cf cn
      obtain ⟨k2, kJ, -⟩ := hS.cJ hv
      have k0 := hS.cP HPV.out
      have lgs := heap_lt hS.sc
      have lgJ := heap_lt hS.jr
      have lb := World.block_lt_of_cell? _ _ y0
      have HQ : Hid (s.jobs.getD k [] = q) := hq
      have hki : (k : Int) < (A.l.length : Int) := by omega
      have hci : (cn : Int) < 4 := by omega
      have hci0 : (0 : Int) ≤ (cn : Int) := by omega
      have HSet : Hid (F4 W (wR.setCell ⟨g3, cn, none⟩ (.int .i64 (k : Int))) g3 ((firstsTo A.l s.jobs k).set cn (k : Int))) := HF.out.set cn (k : Int)
      clear hS hv hln hx hco hcn hfv hq cs cf
      rcases q with _ | ⟨p, r⟩
      · have HN : Hid (F4 W wR g3 (firstsTo A.l s.jobs (k + 1))) := by
          show F4 _ _ _ _
          rw [HST.out, if_neg (by simp)]
          exact HF.out
        rw [List.length_nil] at kJ
        clear HST hfa
        go_wp2_with fail
        exact ⟨⟨k + 1, by omega, by simp, HN.out⟩, by simp [intOf]; omega⟩
      have hqne : s.jobs.getD k [] ≠ [] := by rw [HQ.out]; simp
      have HQN : Hid (s.jobs.getD k [] ≠ []) := hqne
      have hnn : p :: r ≠ [] := by simp
      have HNN : Hid (p :: r ≠ []) := hnn
      clear hqne hnn
      generalize hqn : (p :: r).length = qn at *
      have hq0 : 0 < qn := by rw [← hqn]; simp
      have hqi : (0 : Int) < (qn : Int) := by omega
      clear hqn
      by_cases hf1 : fv = -1
      · subst hf1
        have HN : Hid (F4 W (wR.setCell ⟨g3, cn, none⟩ (.int .i64 (k : Int))) g3 (firstsTo A.l s.jobs (k + 1))) := by
          show F4 _ _ _ _
          rw [HST.out, if_pos ⟨HNN.out, .inl rfl⟩]
          exact HSet.out
        clear HST hfa
        go_wp2_with fail
        exact ⟨⟨k + 1, by omega, by simp, HN.out⟩, by simp [intOf]; omega⟩
      rcases hfa with h9 | ⟨u, rfl, huk, hune, -⟩
      · exact absurd h9 hf1
      have hfb : ((u : Int) == -1) = false := by simp
      obtain ⟨z, hz⟩ : ∃ z, aheadQ A.l s.jobs k u = z := ⟨_, rfl⟩
      have HA := ahead_any A wR jv mv ev s k u HI.out HSR.out hkl (by omega) HQN.out hune
      rw [hz] at HA
      rcases z with _ | _
      · have HN : Hid (F4 W wR g3 (firstsTo A.l s.jobs (k + 1))) := by
          show F4 _ _ _ _
          rw [HST.out, if_neg (by rw [Int.toNat_natCast, hz]; simp)]
          exact HF.out
        clear HST hz hf1 hune
        go_wp2_with (go_at_call 50; refine HA.mono ?_; rintro r w5 ⟨rfl, hb5⟩; have H5 : Hid (F4 W w5 g3 (firstsTo A.l s.jobs (k + 1))) := HN.out.grow hb5; clear hb5 HA)
        exact ⟨⟨k + 1, by omega, by simp, H5.out⟩, by simp [intOf]; omega⟩
      · have HE : Hid (firstsTo A.l s.jobs (k + 1) = (firstsTo A.l s.jobs k).set cn (k : Int)) := by
          show _ = _
          rw [HST.out, if_pos ⟨HNN.out, .inr (by rw [Int.toNat_natCast]; exact hz)⟩]
        clear HST hz hf1 hune
        go_wp2_with (go_at_call 50; refine HA.mono ?_; rintro r w5 ⟨rfl, hb5⟩; have H5 : Hid (F4 W (w5.setCell ⟨g3, cn, none⟩ (.int .i64 (k : Int))) g3 (firstsTo A.l s.jobs (k + 1))) := (by
          show F4 _ _ _ _
          rw [HE.out]
          exact (HF.out.grow hb5).set cn (k : Int)); have cc5 := below_cell hb5 cc; have fc5 := (cells_of (HF.out.grow hb5).row).2.1 cn; have l35 := heap_lt (HF.out.grow hb5).row; clear hb5 HA cc fc)
        exact ⟨⟨k + 1, by omega, by simp, H5.out⟩, by simp [intOf]; omega⟩
end Go.Proofs.Ytccoobcggbbciam
