import Derived.Test.YtccoobcggbbciaiGreatDoorDC0
import Derived.Test.YtccoobcggbbciaiGreatDoorMI
import Derived.Deep.CutRange
import Derived.Deep.CutBlock
namespace Go.Proofs.YtccoobcggbbciaiGreatDoor
open Go.ChangeShapes Go.WideShapes Go.ChangeAt Go.RowKit

theorem two_made (W : World) (o1 o2 : Obj) : ((W.alloc o1).alloc o2).heap[W.heap.size]? = some o1 ∧ ((W.alloc o1).alloc o2).heap[W.heap.size + 1]? = some o2 ∧ Below W.heap.size W ((W.alloc o1).alloc o2) := by
  refine ⟨?_, ?_, below_seq (below_new _ _) (below_new _ _)⟩
  · rw [Below.heap_alloc _ _ _ (by simp)]
    exact heap_alloc_new _ _
  · have := heap_alloc_new (W.alloc o1) o2
    simpa using this

/-- Which of two goes ahead, by priority and coming. -/
def ltCr (set : List Cr) (cs : List Co) (x y : Nat) : Bool :=
  if (crOf set cs x).p ≠ (crOf set cs y).p then decide ((crOf set cs y).p < (crOf set cs x).p) else decide ((cs.getD x ⟨0, 0⟩).a < (cs.getD y ⟨0, 0⟩).a)

set_option maxRecDepth 20000 in
set_option maxHeartbeats 4000000 in
theorem lessCr_any (W : World) (bC bT bL gT cb co sb so nC cc nL sc m cT i j ki kj px py : Nat) (cx cy : Co) (sx sy : Cr)
    (b0 : W.cell? ⟨bC, 0, none⟩ = some (.slice (some ⟨cb, co, none⟩) nC cc)) (b1 : W.cell? ⟨bT, 0, none⟩ = some (.slice (some ⟨gT, 0, none⟩) m cT)) (c0 : W.cell? ⟨bL, 0, none⟩ = some (.slice (some ⟨sb, so, none⟩) nL sc))
    (b2 : W.cell? ⟨gT, i, none⟩ = some (.int .i64 (ki : Nat))) (b3 : W.cell? ⟨gT, j, none⟩ = some (.int .i64 (kj : Nat))) (hx : CoAt W cb (co + ki * 2) cx) (hy : CoAt W cb (co + kj * 2) cy) (hcx : CrAt W sb (so + px * 6) sx) (hcy : CrAt W sb (so + py * 6) sy)
    (hi : i < m) (hj : j < m) (hki : ki < nC) (hkj : kj < nC) (hpx : cx.k = (px : Int)) (hpy : cy.k = (py : Int)) (hlx : px < nL) (hly : py < nL) :
    Calls Tryz.prog 35 #[.int .i64 (i : Int), .int .i64 (j : Int), .pointer (some ⟨bC, 0, none⟩), .pointer (some ⟨bT, 0, none⟩), .pointer (some ⟨bL, 0, none⟩)] W fun r w' => r = .returned (.bool (if sx.p ≠ sy.p then decide (sy.p < sx.p) else decide (cx.a < cy.a))) ∧ Below W.heap.size W w' := by
  obtain ⟨Z, hZ⟩ : ∃ Z, (if sx.p ≠ sy.p then decide (sy.p < sx.p) else decide (cx.a < cy.a)) = Z := ⟨_, rfl⟩
  rw [hZ]
  have HZ : Hid ((if sx.p ≠ sy.p then decide (sy.p < sx.p) else decide (cx.a < cy.a)) = Z) := hZ
  clear hZ
  have hi' : (i : Int) < (m : Int) := by omega
  have hj' : (j : Int) < (m : Int) := by omega
  have hki' : (ki : Int) < (nC : Int) := by omega
  have hkj' : (kj : Int) < (nC : Int) := by omega
  have HL : Hid (W.cell? ⟨bL, 0, none⟩ = some (.slice (some ⟨sb, so, none⟩) nL sc) ∧ CrAt W sb (so + px * 6) sx ∧ CrAt W sb (so + py * 6) sy) := ⟨c0, hcx, hcy⟩
  have HP : Hid (cx.k = (px : Int) ∧ cy.k = (py : Int) ∧ px < nL ∧ py < nL) := ⟨hpx, hpy, hlx, hly⟩
  have l0 : bC < W.heap.size := World.block_lt_of_cell? _ _ b0
  have l1 : bT < W.heap.size := World.block_lt_of_cell? _ _ b1
  have l2 : gT < W.heap.size := World.block_lt_of_cell? _ _ b2
  obtain ⟨x0, x1⟩ := hx
  obtain ⟨y0, y1⟩ := hy
  have l3 : cb < W.heap.size := World.block_lt_of_cell? _ _ x0
  have n0 : ¬ bC = W.heap.size := by omega
  have n1 : ¬ bT = W.heap.size := by omega
  have n2 : ¬ gT = W.heap.size := by omega
  have n3 : ¬ cb = W.heap.size := by omega
  have m0 : ¬ bC = W.heap.size + 1 := by omega
  have m1 : ¬ bT = W.heap.size + 1 := by omega
  have m2 : ¬ gT = W.heap.size + 1 := by omega
  have m3 : ¬ cb = W.heap.size + 1 := by omega
  clear c0 hcx hcy hpx hpy hlx hly hi hj hki hkj
  go_enter Tryz.func35, Tryz.ntmps35
  go_upto_region 1 with fail
  go_cut [8, 9] from 10 to 23 (fun xv yv W1 => ∃ gx gy, xv = .pointer (some ⟨gx, 0, none⟩) ∧ yv = .pointer (some ⟨gy, 0, none⟩) ∧ W1.heap[gx]? = some (.cells #[.int .i64 cx.k, .int .i64 cx.a] 38 (0, 0)) ∧ W1.heap[gy]? = some (.cells #[.int .i64 cy.k, .int .i64 cy.a] 38 (0, 0)) ∧ Below W.heap.size W W1)
  case first =>
    refine wp_region_noPanic ?_
    refine wp_region_held_drew (S := fun w' => w'.cell? ⟨bC, 0, none⟩ = some (.slice (some ⟨cb, co, none⟩) nC cc) ∧ w'.cell? ⟨bT, 0, none⟩ = some (.slice (some ⟨gT, 0, none⟩) m cT) ∧ w'.cell? ⟨gT, i, none⟩ = some (.int .i64 (ki : Nat)) ∧ w'.cell? ⟨gT, j, none⟩ = some (.int .i64 (kj : Nat)) ∧ CoAt w' cb (co + ki * 2) cx ∧ CoAt w' cb (co + kj * 2) cy) (by kernel_rfl) ⟨b0, b1, b2, b3, ⟨x0, x1⟩, y0, y1⟩ (fun hHeld => ?_)
    refine take_at (i := 0) (n := 10) (v := ?_) rfl rfl (by kernel_rfl) (by kernel_rfl) (by kernel_rfl) (fun _ _ _ h => h) (Or.inl ⟨by rfl, ?_⟩) (by assumption) ?_
    rotate_left 1
    · intro wz hSw
      obtain ⟨s0, s1, s2, s3, ⟨s4, s5⟩, s6, s7⟩ := hSw
      first | (go_simp; done) | (go_simp; with_reducible rfl)
    simp only [List.set_cons_zero, List.set_cons_succ]
    refine take_at (i := 1) (n := 11) (v := ?_) rfl rfl (by kernel_rfl) (by kernel_rfl) (by kernel_rfl) (fun _ _ _ h => h) (Or.inl ⟨by rfl, ?_⟩) (by assumption) ?_
    rotate_left 1
    · intro wz hSw
      obtain ⟨s0, s1, s2, s3, ⟨s4, s5⟩, s6, s7⟩ := hSw
      first | (go_simp; done) | (go_simp; with_reducible rfl)
    simp only [List.set_cons_zero, List.set_cons_succ]
    refine take_at (i := 2) (n := 12) (v := ?_) rfl rfl (by kernel_rfl) (by kernel_rfl) (by kernel_rfl) (fun _ _ _ h => h) (Or.inl ⟨by rfl, ?_⟩) (by assumption) ?_
    rotate_left 1
    · intro wz hSw
      obtain ⟨s0, s1, s2, s3, ⟨s4, s5⟩, s6, s7⟩ := hSw
      first | (go_simp; done) | (go_simp; with_reducible rfl)
    simp only [List.set_cons_zero, List.set_cons_succ]
    refine take_at (i := 3) (n := 13) (v := ?_) rfl rfl (by kernel_rfl) (by kernel_rfl) (by kernel_rfl) (fun _ _ _ h => h) (Or.inl ⟨by rfl, ?_⟩) (by assumption) ?_
    rotate_left 1
    · intro wz hSw
      obtain ⟨s0, s1, s2, s3, ⟨s4, s5⟩, s6, s7⟩ := hSw
      first | (go_simp; done) | (go_simp; with_reducible rfl)
    simp only [List.set_cons_zero, List.set_cons_succ]
    refine take_at (i := 4) (n := 14) (v := ?_) rfl rfl (by kernel_rfl) (by kernel_rfl) (by kernel_rfl) (fun _ _ _ h => h) (Or.inl ⟨by rfl, ?_⟩) (by assumption) ?_
    rotate_left 1
    · intro wz hSw
      obtain ⟨s0, s1, s2, s3, ⟨s4, s5⟩, s6, s7⟩ := hSw
      first | (go_simp; done) | (go_simp; with_reducible rfl)
    simp only [List.set_cons_zero, List.set_cons_succ]
    refine take_at (i := 5) (n := 15) (v := ?_) rfl rfl (by kernel_rfl) (by kernel_rfl) (by kernel_rfl) (fun _ _ _ h => h) (Or.inl ⟨by rfl, ?_⟩) (by assumption) ?_
    rotate_left 1
    · intro wz hSw
      obtain ⟨s0, s1, s2, s3, ⟨s4, s5⟩, s6, s7⟩ := hSw
      first | (go_simp; done) | (go_simp; with_reducible rfl)
    simp only [List.set_cons_zero, List.set_cons_succ]
    refine take_at (i := 6) (n := 16) (v := ?_) rfl rfl (by kernel_rfl) (by kernel_rfl) (by kernel_rfl) (fun _ _ _ h => h) (Or.inl ⟨by rfl, ?_⟩) (by assumption) ?_
    rotate_left 1
    · intro wz hSw
      obtain ⟨s0, s1, s2, s3, ⟨s4, s5⟩, s6, s7⟩ := hSw
      first | (go_simp; done) | (go_simp; with_reducible rfl)
    simp only [List.set_cons_zero, List.set_cons_succ]
    refine take_at (i := 7) (n := 17) (v := ?_) rfl rfl (by kernel_rfl) (by kernel_rfl) (by kernel_rfl) (fun _ _ _ h => h) (Or.inl ⟨by rfl, ?_⟩) (by assumption) ?_
    rotate_left 1
    · intro wz hSw
      obtain ⟨s0, s1, s2, s3, ⟨s4, s5⟩, s6, s7⟩ := hSw
      first | (go_simp; done) | (go_simp; with_reducible rfl)
    simp only [List.set_cons_zero, List.set_cons_succ]
    refine take_at (i := 8) (n := 18) (v := ?_) rfl rfl (by kernel_rfl) (by kernel_rfl) (by kernel_rfl) (fun _ _ _ h => h) (Or.inl ⟨by rfl, ?_⟩) (by assumption) ?_
    rotate_left 1
    · intro wz hSw
      obtain ⟨s0, s1, s2, s3, ⟨s4, s5⟩, s6, s7⟩ := hSw
      first | (go_simp; done) | (go_simp; with_reducible rfl)
    simp only [List.set_cons_zero, List.set_cons_succ]
    refine take_at (i := 9) (n := 19) (v := ?_) rfl rfl (by kernel_rfl) (by kernel_rfl) (by kernel_rfl) (fun _ _ _ h => h) (Or.inl ⟨by rfl, ?_⟩) (by assumption) ?_
    rotate_left 1
    · intro wz hSw
      obtain ⟨s0, s1, s2, s3, ⟨s4, s5⟩, s6, s7⟩ := hSw
      first | (go_simp; done) | (go_simp; with_reducible rfl)
    simp only [List.set_cons_zero, List.set_cons_succ]
    refine take_at (i := 10) (n := 20) (v := ?_) rfl rfl (by kernel_rfl) (by kernel_rfl) (by kernel_rfl) (fun _ _ _ h => h) (Or.inl ⟨by rfl, ?_⟩) (by assumption) ?_
    rotate_left 1
    · intro wz hSw
      obtain ⟨s0, s1, s2, s3, ⟨s4, s5⟩, s6, s7⟩ := hSw
      first | (go_simp; done) | (go_simp; with_reducible rfl)
    simp only [List.set_cons_zero, List.set_cons_succ]
    refine take_at (i := 11) (n := 21) (v := ?_) rfl rfl (by kernel_rfl) (by kernel_rfl) (by kernel_rfl) (fun _ _ _ h => h) (Or.inl ⟨by rfl, ?_⟩) (by assumption) ?_
    rotate_left 1
    · intro wz hSw
      obtain ⟨s0, s1, s2, s3, ⟨s4, s5⟩, s6, s7⟩ := hSw
      first | (go_simp; done) | (go_simp; with_reducible rfl)
    simp only [List.set_cons_zero, List.set_cons_succ]
    refine take_at (i := 12) (n := 22) (v := ?_) rfl rfl (by kernel_rfl) (by kernel_rfl) (by kernel_rfl) (fun _ _ _ h => h) (Or.inl ⟨by rfl, ?_⟩) (by assumption) ?_
    rotate_left 1
    · intro wz hSw
      obtain ⟨s0, s1, s2, s3, ⟨s4, s5⟩, s6, s7⟩ := hSw
      first | (go_simp; done) | (go_simp; with_reducible rfl)
    simp only [List.set_cons_zero, List.set_cons_succ]
    refine take_at (i := 13) (n := 23) (v := ?_) rfl rfl (by kernel_rfl) (by kernel_rfl) (by kernel_rfl) (fun _ _ _ h => h) (Or.inl ⟨by rfl, ?_⟩) (by assumption) ?_
    rotate_left 1
    · intro wz hSw
      obtain ⟨s0, s1, s2, s3, ⟨s4, s5⟩, s6, s7⟩ := hSw
      first | (go_simp; done) | (go_simp; with_reducible rfl)
    simp only [List.set_cons_zero, List.set_cons_succ]
    refine wpAnyH_ready (rs := [14, 15]) (by kernel_rfl) (by simp) ?_
    refine AllReadyH.cons rfl (fun K hK => ?_) (AllReadyH.cons rfl (fun K hK => ?_) AllReadyH.nil)
    · skip
      go_simp
      refine hK.out _ _ ⟨by go_simp, by go_simp, by go_simp, by go_simp, ⟨by go_simp, by go_simp⟩, by go_simp, by go_simp⟩ (fun hHeld => ?_)
      clear hK K
      try simp only [List.set_cons_zero, List.set_cons_succ]
      refine wpAnyH_ready (rs := [15]) (by kernel_rfl) (by simp) ?_
      refine AllReadyH.cons rfl (fun K hK => ?_) AllReadyH.nil
      go_simp
      refine hK.out _ _ ⟨by go_simp, by go_simp, by go_simp, by go_simp, ⟨by go_simp, by go_simp⟩, by go_simp, by go_simp⟩ (fun hHeld => ?_)
      clear hK K
      try simp only [List.set_cons_zero, List.set_cons_succ]
      refine wpAnyH_ready (rs := [16]) (by kernel_rfl) (by simp) ?_
      refine AllReadyH.cons rfl (fun K hK => ?_) AllReadyH.nil
      go_simp
      refine hK.out _ _ ⟨by go_simp, by go_simp, by go_simp, by go_simp, ⟨by go_simp, by go_simp⟩, by go_simp, by go_simp⟩ (fun hHeld => ?_)
      clear hK K
      try simp only [List.set_cons_zero, List.set_cons_succ]
      refine wpAnyH_ready (rs := [17]) (by kernel_rfl) (by simp) ?_
      refine AllReadyH.cons rfl (fun K hK => ?_) AllReadyH.nil
      go_simp
      refine hK.out _ _ ⟨by go_simp, by go_simp, by go_simp, by go_simp, ⟨by go_simp, by go_simp⟩, by go_simp, by go_simp⟩ (fun hHeld => ?_)
      clear hK K
      try simp only [List.set_cons_zero, List.set_cons_succ]
      refine wpAnyH_done (by kernel_rfl) ?_ _
      refine NoPanic.normal ?_
      clear hHeld
      go_wp2_with fail
      go_meet
      case rel =>
        obtain ⟨t1, t2, t3⟩ := two_made W (.cells #[.int .i64 cx.k, .int .i64 cx.a] 38) (.cells #[.int .i64 cy.k, .int .i64 cy.a] 38)
        exact ⟨W.heap.size, W.heap.size + 1, rfl, rfl, t1, t2, t3.drew⟩
    · skip
      go_simp
      refine hK.out _ _ ⟨by go_simp, by go_simp, by go_simp, by go_simp, ⟨by go_simp, by go_simp⟩, by go_simp, by go_simp⟩ (fun hHeld => ?_)
      clear hK K
      try simp only [List.set_cons_zero, List.set_cons_succ]
      refine wpAnyH_ready (rs := [14]) (by kernel_rfl) (by simp) ?_
      refine AllReadyH.cons rfl (fun K hK => ?_) AllReadyH.nil
      go_simp
      refine hK.out _ _ ⟨by go_simp, by go_simp, by go_simp, by go_simp, ⟨by go_simp, by go_simp⟩, by go_simp, by go_simp⟩ (fun hHeld => ?_)
      clear hK K
      try simp only [List.set_cons_zero, List.set_cons_succ]
      refine wpAnyH_ready (rs := [16]) (by kernel_rfl) (by simp) ?_
      refine AllReadyH.cons rfl (fun K hK => ?_) AllReadyH.nil
      go_simp
      refine hK.out _ _ ⟨by go_simp, by go_simp, by go_simp, by go_simp, ⟨by go_simp, by go_simp⟩, by go_simp, by go_simp⟩ (fun hHeld => ?_)
      clear hK K
      try simp only [List.set_cons_zero, List.set_cons_succ]
      refine wpAnyH_ready (rs := [17]) (by kernel_rfl) (by simp) ?_
      refine AllReadyH.cons rfl (fun K hK => ?_) AllReadyH.nil
      go_simp
      refine hK.out _ _ ⟨by go_simp, by go_simp, by go_simp, by go_simp, ⟨by go_simp, by go_simp⟩, by go_simp, by go_simp⟩ (fun hHeld => ?_)
      clear hK K
      try simp only [List.set_cons_zero, List.set_cons_succ]
      refine wpAnyH_done (by kernel_rfl) ?_ _
      refine NoPanic.normal ?_
      clear hHeld
      go_wp2_with fail
      go_meet
      case rel =>
        obtain ⟨t1, t2, t3⟩ := two_made W (.cells #[.int .i64 cy.k, .int .i64 cy.a] 38) (.cells #[.int .i64 cx.k, .int .i64 cx.a] 38)
        exact ⟨W.heap.size + 1, W.heap.size, rfl, rfl, t2, t1, t3.drew⟩
  case rest =>
    obtain ⟨gx, gy, rfl, rfl, hgx, hgy, hb⟩ := hcut
    have HB : Hid (Below W.heap.size W wc) := hb
    have c0 := below_cell hb HL.out.1
    have hcx := HL.out.2.1.below hb
    have hcy := HL.out.2.2.below hb
    obtain ⟨gxs, -, gxl⟩ := cells_of (l := [_, _]) hgx
    obtain ⟨gys, -, gyl⟩ := cells_of (l := [_, _]) hgy
    have p0 := gxs 0 _ rfl
    have p1 := gys 0 _ rfl
    have q0 := gxs 1 _ rfl
    have q1 := gys 1 _ rfl
    rw [HP.out.1] at p0
    rw [HP.out.2.1] at p1
    have hlx' : (px : Int) < (nL : Int) := by have := HP.out; omega
    have hly' : (py : Int) < (nL : Int) := by have := HP.out; omega
    have l5 : sb < wc.heap.size := World.block_lt_of_cell? _ _ hcx.1
    clear b0 b1 b2 b3 x0 x1 y0 y1 n0 n1 n2 n3 m0 m1 m2 m3 hb gxs gys hgx hgy
    go_upto_region 2 with fail
    by_cases hp : sx.p = sy.p
    · have hpb : (sx.p != sy.p) = false := by simpa using hp
      have hpn : ¬ sx.p ≠ sy.p := by simpa using hp
      have HQ : Hid (decide (cx.a < cy.a) = Z) := by have h9 := HZ.out; rw [if_neg hpn] at h9; exact h9
      clear hp hpn
      refine wp_region_noPanic ?_
      refine wp_region_held_drew (S := fun w' => w'.cell? ⟨bL, 0, none⟩ = some (.slice (some ⟨sb, so, none⟩) nL sc) ∧ CrAt w' sb (so + px * 6) sx ∧ CrAt w' sb (so + py * 6) sy ∧ w'.cell? ⟨gx, 0, none⟩ = some (.int .i64 (px : Nat)) ∧ w'.cell? ⟨gy, 0, none⟩ = some (.int .i64 (py : Nat))) (by kernel_rfl) ⟨c0, hcx, hcy, p0, p1⟩ (fun hHeld => ?_)
      refine take_at (i := 0) (n := 24) (v := ?_) rfl rfl (by kernel_rfl) (by kernel_rfl) (by kernel_rfl) (fun _ _ _ h => h) (Or.inl ⟨by rfl, ?_⟩) (by assumption) ?_
      rotate_left 1
      · intro wz hSw
        obtain ⟨s0, ⟨-, -, -, -, -, s1⟩, ⟨-, -, -, -, -, s2⟩, s3, s4⟩ := hSw
        first | (go_simp; done) | (go_simp; with_reducible rfl)
      simp only [List.set_cons_zero, List.set_cons_succ]
      refine take_at (i := 1) (n := 25) (v := ?_) rfl rfl (by kernel_rfl) (by kernel_rfl) (by kernel_rfl) (fun _ _ _ h => h) (Or.inl ⟨by rfl, ?_⟩) (by assumption) ?_
      rotate_left 1
      · intro wz hSw
        obtain ⟨s0, ⟨-, -, -, -, -, s1⟩, ⟨-, -, -, -, -, s2⟩, s3, s4⟩ := hSw
        first | (go_simp; done) | (go_simp; with_reducible rfl)
      simp only [List.set_cons_zero, List.set_cons_succ]
      refine take_at (i := 2) (n := 26) (v := ?_) rfl rfl (by kernel_rfl) (by kernel_rfl) (by kernel_rfl) (fun _ _ _ h => h) (Or.inl ⟨by rfl, ?_⟩) (by assumption) ?_
      rotate_left 1
      · intro wz hSw
        obtain ⟨s0, ⟨-, -, -, -, -, s1⟩, ⟨-, -, -, -, -, s2⟩, s3, s4⟩ := hSw
        first | (go_simp; done) | (go_simp; with_reducible rfl)
      simp only [List.set_cons_zero, List.set_cons_succ]
      refine take_at (i := 3) (n := 27) (v := ?_) rfl rfl (by kernel_rfl) (by kernel_rfl) (by kernel_rfl) (fun _ _ _ h => h) (Or.inl ⟨by rfl, ?_⟩) (by assumption) ?_
      rotate_left 1
      · intro wz hSw
        obtain ⟨s0, ⟨-, -, -, -, -, s1⟩, ⟨-, -, -, -, -, s2⟩, s3, s4⟩ := hSw
        first | (go_simp; done) | (go_simp; with_reducible rfl)
      simp only [List.set_cons_zero, List.set_cons_succ]
      refine take_at (i := 4) (n := 28) (v := ?_) rfl rfl (by kernel_rfl) (by kernel_rfl) (by kernel_rfl) (fun _ _ _ h => h) (Or.inl ⟨by rfl, ?_⟩) (by assumption) ?_
      rotate_left 1
      · intro wz hSw
        obtain ⟨s0, ⟨-, -, -, -, -, s1⟩, ⟨-, -, -, -, -, s2⟩, s3, s4⟩ := hSw
        first | (go_simp; done) | (go_simp; with_reducible rfl)
      simp only [List.set_cons_zero, List.set_cons_succ]
      refine take_at (i := 5) (n := 29) (v := ?_) rfl rfl (by kernel_rfl) (by kernel_rfl) (by kernel_rfl) (fun _ _ _ h => h) (Or.inl ⟨by rfl, ?_⟩) (by assumption) ?_
      rotate_left 1
      · intro wz hSw
        obtain ⟨s0, ⟨-, -, -, -, -, s1⟩, ⟨-, -, -, -, -, s2⟩, s3, s4⟩ := hSw
        first | (go_simp; done) | (go_simp; with_reducible rfl)
      simp only [List.set_cons_zero, List.set_cons_succ]
      refine take_at (i := 6) (n := 30) (v := ?_) rfl rfl (by kernel_rfl) (by kernel_rfl) (by kernel_rfl) (fun _ _ _ h => h) (Or.inl ⟨by rfl, ?_⟩) (by assumption) ?_
      rotate_left 1
      · intro wz hSw
        obtain ⟨s0, ⟨-, -, -, -, -, s1⟩, ⟨-, -, -, -, -, s2⟩, s3, s4⟩ := hSw
        first | (go_simp; done) | (go_simp; with_reducible rfl)
      simp only [List.set_cons_zero, List.set_cons_succ]
      refine take_at (i := 7) (n := 31) (v := ?_) rfl rfl (by kernel_rfl) (by kernel_rfl) (by kernel_rfl) (fun _ _ _ h => h) (Or.inl ⟨by rfl, ?_⟩) (by assumption) ?_
      rotate_left 1
      · intro wz hSw
        obtain ⟨s0, ⟨-, -, -, -, -, s1⟩, ⟨-, -, -, -, -, s2⟩, s3, s4⟩ := hSw
        first | (go_simp; done) | (go_simp; with_reducible rfl)
      simp only [List.set_cons_zero, List.set_cons_succ]
      refine take_at (i := 8) (n := 32) (v := ?_) rfl rfl (by kernel_rfl) (by kernel_rfl) (by kernel_rfl) (fun _ _ _ h => h) (Or.inl ⟨by rfl, ?_⟩) (by assumption) ?_
      rotate_left 1
      · intro wz hSw
        obtain ⟨s0, ⟨-, -, -, -, -, s1⟩, ⟨-, -, -, -, -, s2⟩, s3, s4⟩ := hSw
        first | (go_simp; done) | (go_simp; with_reducible rfl)
      simp only [List.set_cons_zero, List.set_cons_succ]
      refine take_at (i := 9) (n := 33) (v := ?_) rfl rfl (by kernel_rfl) (by kernel_rfl) (by kernel_rfl) (fun _ _ _ h => h) (Or.inl ⟨by rfl, ?_⟩) (by assumption) ?_
      rotate_left 1
      · intro wz hSw
        obtain ⟨s0, ⟨-, -, -, -, -, s1⟩, ⟨-, -, -, -, -, s2⟩, s3, s4⟩ := hSw
        first | (go_simp; done) | (go_simp; with_reducible rfl)
      simp only [List.set_cons_zero, List.set_cons_succ]
      refine take_at (i := 10) (n := 34) (v := ?_) rfl rfl (by kernel_rfl) (by kernel_rfl) (by kernel_rfl) (fun _ _ _ h => h) (Or.inl ⟨by rfl, ?_⟩) (by assumption) ?_
      rotate_left 1
      · intro wz hSw
        obtain ⟨s0, ⟨-, -, -, -, -, s1⟩, ⟨-, -, -, -, -, s2⟩, s3, s4⟩ := hSw
        first | (go_simp; done) | (go_simp; with_reducible rfl)
      simp only [List.set_cons_zero, List.set_cons_succ]
      refine take_at (i := 11) (n := 35) (v := ?_) rfl rfl (by kernel_rfl) (by kernel_rfl) (by kernel_rfl) (fun _ _ _ h => h) (Or.inl ⟨by rfl, ?_⟩) (by assumption) ?_
      rotate_left 1
      · intro wz hSw
        obtain ⟨s0, ⟨-, -, -, -, -, s1⟩, ⟨-, -, -, -, -, s2⟩, s3, s4⟩ := hSw
        first | (go_simp; done) | (go_simp; with_reducible rfl)
      simp only [List.set_cons_zero, List.set_cons_succ]
      refine take_at (i := 12) (n := 36) (v := ?_) rfl rfl (by kernel_rfl) (by kernel_rfl) (by kernel_rfl) (fun _ _ _ h => h) (Or.inl ⟨by rfl, ?_⟩) (by assumption) ?_
      rotate_left 1
      · intro wz hSw
        obtain ⟨s0, ⟨-, -, -, -, -, s1⟩, ⟨-, -, -, -, -, s2⟩, s3, s4⟩ := hSw
        first | (go_simp; done) | (go_simp; with_reducible rfl)
      simp only [List.set_cons_zero, List.set_cons_succ]
      refine wpAnyH_done (by kernel_rfl) ?_ _
      refine NoPanic.normal ?_
      clear hHeld
      go_wp2_with fail
      go_ret
      exact ⟨by rw [← HQ.out]; rfl, HB.out.drew⟩
    · have hpb : (sx.p != sy.p) = true := by simpa using hp
      have HQ : Hid (decide (sy.p < sx.p) = Z) := by have h9 := HZ.out; rw [if_pos hp] at h9; exact h9
      clear hp
      refine wp_region_noPanic ?_
      refine wp_region_held_drew (S := fun w' => w'.cell? ⟨bL, 0, none⟩ = some (.slice (some ⟨sb, so, none⟩) nL sc) ∧ CrAt w' sb (so + px * 6) sx ∧ CrAt w' sb (so + py * 6) sy ∧ w'.cell? ⟨gx, 0, none⟩ = some (.int .i64 (px : Nat)) ∧ w'.cell? ⟨gy, 0, none⟩ = some (.int .i64 (py : Nat))) (by kernel_rfl) ⟨c0, hcx, hcy, p0, p1⟩ (fun hHeld => ?_)
      refine take_at (i := 0) (n := 24) (v := ?_) rfl rfl (by kernel_rfl) (by kernel_rfl) (by kernel_rfl) (fun _ _ _ h => h) (Or.inl ⟨by rfl, ?_⟩) (by assumption) ?_
      rotate_left 1
      · intro wz hSw
        obtain ⟨s0, ⟨-, -, -, -, -, s1⟩, ⟨-, -, -, -, -, s2⟩, s3, s4⟩ := hSw
        first | (go_simp; done) | (go_simp; with_reducible rfl)
      simp only [List.set_cons_zero, List.set_cons_succ]
      refine take_at (i := 1) (n := 25) (v := ?_) rfl rfl (by kernel_rfl) (by kernel_rfl) (by kernel_rfl) (fun _ _ _ h => h) (Or.inl ⟨by rfl, ?_⟩) (by assumption) ?_
      rotate_left 1
      · intro wz hSw
        obtain ⟨s0, ⟨-, -, -, -, -, s1⟩, ⟨-, -, -, -, -, s2⟩, s3, s4⟩ := hSw
        first | (go_simp; done) | (go_simp; with_reducible rfl)
      simp only [List.set_cons_zero, List.set_cons_succ]
      refine take_at (i := 2) (n := 26) (v := ?_) rfl rfl (by kernel_rfl) (by kernel_rfl) (by kernel_rfl) (fun _ _ _ h => h) (Or.inl ⟨by rfl, ?_⟩) (by assumption) ?_
      rotate_left 1
      · intro wz hSw
        obtain ⟨s0, ⟨-, -, -, -, -, s1⟩, ⟨-, -, -, -, -, s2⟩, s3, s4⟩ := hSw
        first | (go_simp; done) | (go_simp; with_reducible rfl)
      simp only [List.set_cons_zero, List.set_cons_succ]
      refine take_at (i := 3) (n := 27) (v := ?_) rfl rfl (by kernel_rfl) (by kernel_rfl) (by kernel_rfl) (fun _ _ _ h => h) (Or.inl ⟨by rfl, ?_⟩) (by assumption) ?_
      rotate_left 1
      · intro wz hSw
        obtain ⟨s0, ⟨-, -, -, -, -, s1⟩, ⟨-, -, -, -, -, s2⟩, s3, s4⟩ := hSw
        first | (go_simp; done) | (go_simp; with_reducible rfl)
      simp only [List.set_cons_zero, List.set_cons_succ]
      refine take_at (i := 4) (n := 28) (v := ?_) rfl rfl (by kernel_rfl) (by kernel_rfl) (by kernel_rfl) (fun _ _ _ h => h) (Or.inl ⟨by rfl, ?_⟩) (by assumption) ?_
      rotate_left 1
      · intro wz hSw
        obtain ⟨s0, ⟨-, -, -, -, -, s1⟩, ⟨-, -, -, -, -, s2⟩, s3, s4⟩ := hSw
        first | (go_simp; done) | (go_simp; with_reducible rfl)
      simp only [List.set_cons_zero, List.set_cons_succ]
      refine take_at (i := 5) (n := 29) (v := ?_) rfl rfl (by kernel_rfl) (by kernel_rfl) (by kernel_rfl) (fun _ _ _ h => h) (Or.inl ⟨by rfl, ?_⟩) (by assumption) ?_
      rotate_left 1
      · intro wz hSw
        obtain ⟨s0, ⟨-, -, -, -, -, s1⟩, ⟨-, -, -, -, -, s2⟩, s3, s4⟩ := hSw
        first | (go_simp; done) | (go_simp; with_reducible rfl)
      simp only [List.set_cons_zero, List.set_cons_succ]
      refine take_at (i := 6) (n := 30) (v := ?_) rfl rfl (by kernel_rfl) (by kernel_rfl) (by kernel_rfl) (fun _ _ _ h => h) (Or.inl ⟨by rfl, ?_⟩) (by assumption) ?_
      rotate_left 1
      · intro wz hSw
        obtain ⟨s0, ⟨-, -, -, -, -, s1⟩, ⟨-, -, -, -, -, s2⟩, s3, s4⟩ := hSw
        first | (go_simp; done) | (go_simp; with_reducible rfl)
      simp only [List.set_cons_zero, List.set_cons_succ]
      refine take_at (i := 7) (n := 31) (v := ?_) rfl rfl (by kernel_rfl) (by kernel_rfl) (by kernel_rfl) (fun _ _ _ h => h) (Or.inl ⟨by rfl, ?_⟩) (by assumption) ?_
      rotate_left 1
      · intro wz hSw
        obtain ⟨s0, ⟨-, -, -, -, -, s1⟩, ⟨-, -, -, -, -, s2⟩, s3, s4⟩ := hSw
        first | (go_simp; done) | (go_simp; with_reducible rfl)
      simp only [List.set_cons_zero, List.set_cons_succ]
      refine take_at (i := 8) (n := 32) (v := ?_) rfl rfl (by kernel_rfl) (by kernel_rfl) (by kernel_rfl) (fun _ _ _ h => h) (Or.inl ⟨by rfl, ?_⟩) (by assumption) ?_
      rotate_left 1
      · intro wz hSw
        obtain ⟨s0, ⟨-, -, -, -, -, s1⟩, ⟨-, -, -, -, -, s2⟩, s3, s4⟩ := hSw
        first | (go_simp; done) | (go_simp; with_reducible rfl)
      simp only [List.set_cons_zero, List.set_cons_succ]
      refine take_at (i := 9) (n := 33) (v := ?_) rfl rfl (by kernel_rfl) (by kernel_rfl) (by kernel_rfl) (fun _ _ _ h => h) (Or.inl ⟨by rfl, ?_⟩) (by assumption) ?_
      rotate_left 1
      · intro wz hSw
        obtain ⟨s0, ⟨-, -, -, -, -, s1⟩, ⟨-, -, -, -, -, s2⟩, s3, s4⟩ := hSw
        first | (go_simp; done) | (go_simp; with_reducible rfl)
      simp only [List.set_cons_zero, List.set_cons_succ]
      refine take_at (i := 10) (n := 34) (v := ?_) rfl rfl (by kernel_rfl) (by kernel_rfl) (by kernel_rfl) (fun _ _ _ h => h) (Or.inl ⟨by rfl, ?_⟩) (by assumption) ?_
      rotate_left 1
      · intro wz hSw
        obtain ⟨s0, ⟨-, -, -, -, -, s1⟩, ⟨-, -, -, -, -, s2⟩, s3, s4⟩ := hSw
        first | (go_simp; done) | (go_simp; with_reducible rfl)
      simp only [List.set_cons_zero, List.set_cons_succ]
      refine take_at (i := 11) (n := 35) (v := ?_) rfl rfl (by kernel_rfl) (by kernel_rfl) (by kernel_rfl) (fun _ _ _ h => h) (Or.inl ⟨by rfl, ?_⟩) (by assumption) ?_
      rotate_left 1
      · intro wz hSw
        obtain ⟨s0, ⟨-, -, -, -, -, s1⟩, ⟨-, -, -, -, -, s2⟩, s3, s4⟩ := hSw
        first | (go_simp; done) | (go_simp; with_reducible rfl)
      simp only [List.set_cons_zero, List.set_cons_succ]
      refine take_at (i := 12) (n := 36) (v := ?_) rfl rfl (by kernel_rfl) (by kernel_rfl) (by kernel_rfl) (fun _ _ _ h => h) (Or.inl ⟨by rfl, ?_⟩) (by assumption) ?_
      rotate_left 1
      · intro wz hSw
        obtain ⟨s0, ⟨-, -, -, -, -, s1⟩, ⟨-, -, -, -, -, s2⟩, s3, s4⟩ := hSw
        first | (go_simp; done) | (go_simp; with_reducible rfl)
      simp only [List.set_cons_zero, List.set_cons_succ]
      refine wpAnyH_done (by kernel_rfl) ?_ _
      refine NoPanic.normal ?_
      clear hHeld
      go_wp2_with fail
      refine wp_region_noPanic ?_
      refine wp_region_held_drew (S := fun w' => w'.cell? ⟨bL, 0, none⟩ = some (.slice (some ⟨sb, so, none⟩) nL sc) ∧ CrAt w' sb (so + px * 6) sx ∧ CrAt w' sb (so + py * 6) sy ∧ w'.cell? ⟨gx, 0, none⟩ = some (.int .i64 (px : Nat)) ∧ w'.cell? ⟨gy, 0, none⟩ = some (.int .i64 (py : Nat))) (by kernel_rfl) ⟨c0, hcx, hcy, p0, p1⟩ (fun hHeld => ?_)
      refine take_at (i := 0) (n := 37) (v := ?_) rfl rfl (by kernel_rfl) (by kernel_rfl) (by kernel_rfl) (fun _ _ _ h => h) (Or.inl ⟨by rfl, ?_⟩) (by assumption) ?_
      rotate_left 1
      · intro wz hSw
        obtain ⟨s0, ⟨-, -, -, -, -, s1⟩, ⟨-, -, -, -, -, s2⟩, s3, s4⟩ := hSw
        first | (go_simp; done) | (go_simp; with_reducible rfl)
      simp only [List.set_cons_zero, List.set_cons_succ]
      refine take_at (i := 1) (n := 38) (v := ?_) rfl rfl (by kernel_rfl) (by kernel_rfl) (by kernel_rfl) (fun _ _ _ h => h) (Or.inl ⟨by rfl, ?_⟩) (by assumption) ?_
      rotate_left 1
      · intro wz hSw
        obtain ⟨s0, ⟨-, -, -, -, -, s1⟩, ⟨-, -, -, -, -, s2⟩, s3, s4⟩ := hSw
        first | (go_simp; done) | (go_simp; with_reducible rfl)
      simp only [List.set_cons_zero, List.set_cons_succ]
      refine take_at (i := 2) (n := 39) (v := ?_) rfl rfl (by kernel_rfl) (by kernel_rfl) (by kernel_rfl) (fun _ _ _ h => h) (Or.inl ⟨by rfl, ?_⟩) (by assumption) ?_
      rotate_left 1
      · intro wz hSw
        obtain ⟨s0, ⟨-, -, -, -, -, s1⟩, ⟨-, -, -, -, -, s2⟩, s3, s4⟩ := hSw
        first | (go_simp; done) | (go_simp; with_reducible rfl)
      simp only [List.set_cons_zero, List.set_cons_succ]
      refine take_at (i := 3) (n := 40) (v := ?_) rfl rfl (by kernel_rfl) (by kernel_rfl) (by kernel_rfl) (fun _ _ _ h => h) (Or.inl ⟨by rfl, ?_⟩) (by assumption) ?_
      rotate_left 1
      · intro wz hSw
        obtain ⟨s0, ⟨-, -, -, -, -, s1⟩, ⟨-, -, -, -, -, s2⟩, s3, s4⟩ := hSw
        first | (go_simp; done) | (go_simp; with_reducible rfl)
      simp only [List.set_cons_zero, List.set_cons_succ]
      refine take_at (i := 4) (n := 41) (v := ?_) rfl rfl (by kernel_rfl) (by kernel_rfl) (by kernel_rfl) (fun _ _ _ h => h) (Or.inl ⟨by rfl, ?_⟩) (by assumption) ?_
      rotate_left 1
      · intro wz hSw
        obtain ⟨s0, ⟨-, -, -, -, -, s1⟩, ⟨-, -, -, -, -, s2⟩, s3, s4⟩ := hSw
        first | (go_simp; done) | (go_simp; with_reducible rfl)
      simp only [List.set_cons_zero, List.set_cons_succ]
      refine take_at (i := 5) (n := 42) (v := ?_) rfl rfl (by kernel_rfl) (by kernel_rfl) (by kernel_rfl) (fun _ _ _ h => h) (Or.inl ⟨by rfl, ?_⟩) (by assumption) ?_
      rotate_left 1
      · intro wz hSw
        obtain ⟨s0, ⟨-, -, -, -, -, s1⟩, ⟨-, -, -, -, -, s2⟩, s3, s4⟩ := hSw
        first | (go_simp; done) | (go_simp; with_reducible rfl)
      simp only [List.set_cons_zero, List.set_cons_succ]
      refine take_at (i := 6) (n := 43) (v := ?_) rfl rfl (by kernel_rfl) (by kernel_rfl) (by kernel_rfl) (fun _ _ _ h => h) (Or.inl ⟨by rfl, ?_⟩) (by assumption) ?_
      rotate_left 1
      · intro wz hSw
        obtain ⟨s0, ⟨-, -, -, -, -, s1⟩, ⟨-, -, -, -, -, s2⟩, s3, s4⟩ := hSw
        first | (go_simp; done) | (go_simp; with_reducible rfl)
      simp only [List.set_cons_zero, List.set_cons_succ]
      refine take_at (i := 7) (n := 44) (v := ?_) rfl rfl (by kernel_rfl) (by kernel_rfl) (by kernel_rfl) (fun _ _ _ h => h) (Or.inl ⟨by rfl, ?_⟩) (by assumption) ?_
      rotate_left 1
      · intro wz hSw
        obtain ⟨s0, ⟨-, -, -, -, -, s1⟩, ⟨-, -, -, -, -, s2⟩, s3, s4⟩ := hSw
        first | (go_simp; done) | (go_simp; with_reducible rfl)
      simp only [List.set_cons_zero, List.set_cons_succ]
      refine take_at (i := 8) (n := 45) (v := ?_) rfl rfl (by kernel_rfl) (by kernel_rfl) (by kernel_rfl) (fun _ _ _ h => h) (Or.inl ⟨by rfl, ?_⟩) (by assumption) ?_
      rotate_left 1
      · intro wz hSw
        obtain ⟨s0, ⟨-, -, -, -, -, s1⟩, ⟨-, -, -, -, -, s2⟩, s3, s4⟩ := hSw
        first | (go_simp; done) | (go_simp; with_reducible rfl)
      simp only [List.set_cons_zero, List.set_cons_succ]
      refine take_at (i := 9) (n := 46) (v := ?_) rfl rfl (by kernel_rfl) (by kernel_rfl) (by kernel_rfl) (fun _ _ _ h => h) (Or.inl ⟨by rfl, ?_⟩) (by assumption) ?_
      rotate_left 1
      · intro wz hSw
        obtain ⟨s0, ⟨-, -, -, -, -, s1⟩, ⟨-, -, -, -, -, s2⟩, s3, s4⟩ := hSw
        first | (go_simp; done) | (go_simp; with_reducible rfl)
      simp only [List.set_cons_zero, List.set_cons_succ]
      refine take_at (i := 10) (n := 47) (v := ?_) rfl rfl (by kernel_rfl) (by kernel_rfl) (by kernel_rfl) (fun _ _ _ h => h) (Or.inl ⟨by rfl, ?_⟩) (by assumption) ?_
      rotate_left 1
      · intro wz hSw
        obtain ⟨s0, ⟨-, -, -, -, -, s1⟩, ⟨-, -, -, -, -, s2⟩, s3, s4⟩ := hSw
        first | (go_simp; done) | (go_simp; with_reducible rfl)
      simp only [List.set_cons_zero, List.set_cons_succ]
      refine take_at (i := 11) (n := 48) (v := ?_) rfl rfl (by kernel_rfl) (by kernel_rfl) (by kernel_rfl) (fun _ _ _ h => h) (Or.inl ⟨by rfl, ?_⟩) (by assumption) ?_
      rotate_left 1
      · intro wz hSw
        obtain ⟨s0, ⟨-, -, -, -, -, s1⟩, ⟨-, -, -, -, -, s2⟩, s3, s4⟩ := hSw
        first | (go_simp; done) | (go_simp; with_reducible rfl)
      simp only [List.set_cons_zero, List.set_cons_succ]
      refine take_at (i := 12) (n := 49) (v := ?_) rfl rfl (by kernel_rfl) (by kernel_rfl) (by kernel_rfl) (fun _ _ _ h => h) (Or.inl ⟨by rfl, ?_⟩) (by assumption) ?_
      rotate_left 1
      · intro wz hSw
        obtain ⟨s0, ⟨-, -, -, -, -, s1⟩, ⟨-, -, -, -, -, s2⟩, s3, s4⟩ := hSw
        first | (go_simp; done) | (go_simp; with_reducible rfl)
      simp only [List.set_cons_zero, List.set_cons_succ]
      refine take_at (i := 13) (n := 7) (v := ?_) rfl rfl (by kernel_rfl) (by kernel_rfl) (by kernel_rfl) (fun _ _ _ h => h) (Or.inl ⟨by rfl, ?_⟩) (by assumption) ?_
      rotate_left 1
      · intro wz hSw
        obtain ⟨s0, ⟨-, -, -, -, -, s1⟩, ⟨-, -, -, -, -, s2⟩, s3, s4⟩ := hSw
        first | (go_simp; done) | (go_simp; with_reducible rfl)
      simp only [List.set_cons_zero, List.set_cons_succ]
      refine wpAnyH_done (by kernel_rfl) ?_ _
      refine NoPanic.normal ?_
      clear hHeld
      go_wp2_with fail
      go_ret
      exact ⟨by rw [← HQ.out]; rfl, HB.out.drew.drew⟩
end Go.Proofs.YtccoobcggbbciaiGreatDoor
