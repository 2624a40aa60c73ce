import Derived.Test.YtccoobcggbbciaiGreatDoorPR1
import Derived.Test.YtccoobcggbbciaiGreatDoorPD0
import Derived.Test.YtccoobcggbbciaiGreatDoorMW
namespace Go.Proofs.YtccoobcggbbciaiGreatDoor
open Go.ChangeShapes Go.WideShapes Go.ChangeAt Go.RowKit

/-- What the law holds to the end. -/
structure PLL (w W : World) (set : List Cr) (cs : List Co) (tk : List Int) (mC : Cr) (mO : Co) (o1 o2 o3 : Value) (G : Nat) (rs es : List Int) (b1 b2 : Value) (z1 z2 : Int) : Prop where
  bel : Below w.heap.size w W
  l1 : Lent Cr.vals W set mC o1
  l2 : Lent Co.vals W cs mO o2
  l3 : Lent nuV W tk (-9) o3
  c2 : W.heap[G]? = some (.cells [.int .i64 z1, .int .i64 z2].toArray 30 (0, 0))
  r1 : RowSl nuV W rs b1
  r2 : RowSl nuV W es b2

theorem PLL.grow {w W W' : World} {set : List Cr} {cs : List Co} {tk : List Int} {mC : Cr} {mO : Co} {o1 o2 o3 : Value} {G : Nat} {rs es : List Int} {b1 b2 : Value} {z1 z2 : Int} (h : PLL w W set cs tk mC mO o1 o2 o3 G rs es b1 b2 z1 z2) (hb : Below W.heap.size W W') : PLL w W' set cs tk mC mO o1 o2 o3 G rs es b1 b2 z1 z2 :=
  ⟨below_seq h.bel hb, h.l1.below hb, h.l2.below hb, h.l3.below hb, (hb.block _ (lt_heapM h.c2)).trans h.c2, h.r1.below hb, h.r2.below hb⟩

set_option maxRecDepth 20000 in
set_option maxHeartbeats 8000000 in
theorem mp_walk (w : World) (set : List Cr) (cs : List Co) (tk : List Int) (n : Int) (mC : Cr) (mO : Co) (v vc vt : Value) (hg0 : CrAt w 0 0 mC) (hg1 : CoAt w 1 0 mO) (hv : RowSl Cr.vals w set v) (hc : RowSl Co.vals w cs vc) (ht : RowSl nuV w tk vt) :
    Calls Tryz.prog 3 #[v, vc, vt, .int .i64 n] w fun r w' => r = .returned (.bool true) ∧ Below w.heap.size w w' := by
  obtain ⟨ad, ac, rfl⟩ := hv.len
  obtain ⟨bd, bc, rfl⟩ := hc.len
  obtain ⟨td, tc, rfl⟩ := ht.len
  have HV : Hid (RowSl Cr.vals w set (.slice ad set.length ac) ∧ RowSl Co.vals w cs (.slice bd cs.length bc) ∧ RowSl nuV w tk (.slice td tk.length tc)) := ⟨hv, hc, ht⟩
  have HG : Hid (∀ w' : World, Below w.heap.size w w' → w'.cell? ⟨0, 0, none⟩ = some (.int .i64 mC.c) ∧ w'.cell? ⟨0, 1, none⟩ = some (.int .i64 mC.h) ∧ w'.cell? ⟨0, 2, none⟩ = some (.int .i64 mC.t) ∧ w'.cell? ⟨0, 3, none⟩ = some (.int .i64 mC.d) ∧ w'.cell? ⟨0, 4, none⟩ = some (.bool mC.hi) ∧ w'.cell? ⟨0, 5, none⟩ = some (.int .i64 mC.p) ∧ w'.cell? ⟨1, 0, none⟩ = some (.int .i64 mO.k) ∧ w'.cell? ⟨1, 1, none⟩ = some (.int .i64 mO.a)) := by
    obtain ⟨g0, g1, g2, g3, g4, g5⟩ := hg0
    obtain ⟨g6, g7⟩ := hg1
    have e : ∀ w' : World, Below w.heap.size w w' → w'.cell? ⟨0, 0, none⟩ = some (.int .i64 mC.c) ∧ w'.cell? ⟨0, 1, none⟩ = some (.int .i64 mC.h) ∧ w'.cell? ⟨0, 2, none⟩ = some (.int .i64 mC.t) ∧ w'.cell? ⟨0, 3, none⟩ = some (.int .i64 mC.d) ∧ w'.cell? ⟨0, 4, none⟩ = some (.bool mC.hi) ∧ w'.cell? ⟨0, 5, none⟩ = some (.int .i64 mC.p) ∧ w'.cell? ⟨1, 0, none⟩ = some (.int .i64 mO.k) ∧ w'.cell? ⟨1, 1, none⟩ = some (.int .i64 mO.a) := fun w' hb => ⟨below_cell hb g0, below_cell hb g1, below_cell hb g2, below_cell hb g3, below_cell hb g4, below_cell hb g5, below_cell hb g6, below_cell hb g7⟩
    exact e
  clear hv hc ht hg0 hg1
  have HL1 := LendM_any
  have HT1 := StillM_any
  have HL2 := LendC_any
  have HT2 := StillC_any
  unfold Cr.val at HL1 HT1
  unfold Co.val at HL2 HT2
  go_enter Tryz.func3, Tryz.ntmps3
  go_wp2_with (go_at_call 5; refine (turns_any w).mono ?_; rintro r w1 ⟨rfl, hb1⟩; have H1 : Hid (Below w.heap.size w w1) := hb1; clear hb1)
  by_cases hl1 : set.length ≤ 5000
  rotate_left 1
  · have hl1' : decide ((set.length : Int) ≤ 5000) = false := by simp; omega
    have hl2' : True := trivial
    have hl3' : True := trivial
    go_wp2_with (go_at_call 6; refine (few_any _ _).mono ?_; rintro r w6 ⟨rfl, hw6⟩; have hw7 := hw6.symm; subst hw7; clear hw6; first | rw [hl1'] | rw [hl2'] | rw [hl3'])
    go_ret
    exact ⟨rfl, H1.out⟩
  have hl1' : decide ((set.length : Int) ≤ 5000) = true := by simp; omega
  by_cases hl2 : cs.length ≤ 5000
  rotate_left 1
  · have hl2' : decide ((cs.length : Int) ≤ 5000) = false := by simp; omega
    have hl3' : True := trivial
    go_wp2_with (go_at_call 6; refine (few_any _ _).mono ?_; rintro r w6 ⟨rfl, hw6⟩; have hw7 := hw6.symm; subst hw7; clear hw6; first | rw [hl1'] | rw [hl2'] | rw [hl3'])
    go_ret
    exact ⟨rfl, H1.out⟩
  have hl2' : decide ((cs.length : Int) ≤ 5000) = true := by simp; omega
  by_cases hl3 : tk.length ≤ 5000
  rotate_left 1
  · have hl3' : decide ((tk.length : Int) ≤ 5000) = false := by simp; omega
    go_wp2_with (go_at_call 6; refine (few_any _ _).mono ?_; rintro r w6 ⟨rfl, hw6⟩; have hw7 := hw6.symm; subst hw7; clear hw6; first | rw [hl1'] | rw [hl2'] | rw [hl3'])
    go_ret
    exact ⟨rfl, H1.out⟩
  have hl3' : decide ((tk.length : Int) ≤ 5000) = true := by simp; omega
  by_cases hs : smallB (cs.length : Int) n = true
  rotate_left 1
  · have hs' : smallB (cs.length : Int) n = false := by simpa using hs
    go_wp2_with (first | (go_at_call 6; refine (few_any _ _).mono ?_; rintro r w6 ⟨rfl, hw6⟩; have hw7 := hw6.symm; subst hw7; clear hw6; first | rw [hl1'] | rw [hl2'] | rw [hl3']) | (go_at_call 7; refine (small_any _ _ _).mono ?_; rintro r w6 ⟨rfl, hw6⟩; have hw7 := hw6.symm; subst hw7; clear hw6; rw [hs']))
    go_ret
    exact ⟨rfl, H1.out⟩
  go_wp2_with (first | (go_at_call 6; refine (few_any _ _).mono ?_; rintro r w6 ⟨rfl, hw6⟩; have hw7 := hw6.symm; subst hw7; clear hw6; first | rw [hl1'] | rw [hl2'] | rw [hl3']) | (go_at_call 7; refine (small_any _ _ _).mono ?_; rintro r w6 ⟨rfl, hw6⟩; have hw7 := hw6.symm; subst hw7; clear hw6; rw [hs]))
  have HP := PlayCrit_res w1 set cs tk n _ _ _ (HV.out.1.below H1.out) (HV.out.2.1.below H1.out) (HV.out.2.2.below H1.out)
  go_upto_region 6 with (go_at_call 8; refine HP.mono ?_; rintro r w2 ⟨v1, v2, z1, z2, rs, es, TT, rfl, hpr, hrl, hel, hr1, hr2, hb2⟩; obtain ⟨a1, c1, rfl⟩ := hr1.len; obtain ⟨a2, c2, rfl⟩ := hr2.len; have H2 : Hid (MpRes set cs tk n z1 z2 rs es TT ∧ rs.length ≤ 1000000 ∧ es.length ≤ 1000000 ∧ RowSl nuV w2 rs (.slice a1 rs.length c1) ∧ RowSl nuV w2 es (.slice a2 es.length c2) ∧ Below w1.heap.size w1 w2) := ⟨hpr, hrl, hel, hr1, hr2, hb2⟩; clear hpr hrl hel hr1 hr2 hb2 HP)
  have hx2 : (w2.alloc (.cells #[.int .i64 z1, .int .i64 z2] 30)).heap[w2.heap.size]? = some (.cells [.int .i64 z1, .int .i64 z2].toArray 30 (0, 0)) := heap_alloc_new _ _
  have hn2 := below_new w2 (.cells #[.int .i64 z1, .int .i64 z2] 30)
  have H3 : Hid (Below w.heap.size w (w2.alloc (.cells #[.int .i64 z1, .int .i64 z2] 30)) ∧ (w2.alloc (.cells #[.int .i64 z1, .int .i64 z2] 30)).heap[w2.heap.size]? = some (.cells [.int .i64 z1, .int .i64 z2].toArray 30 (0, 0)) ∧ RowSl nuV (w2.alloc (.cells #[.int .i64 z1, .int .i64 z2] 30)) rs (.slice a1 rs.length c1) ∧ RowSl nuV (w2.alloc (.cells #[.int .i64 z1, .int .i64 z2] 30)) es (.slice a2 es.length c2)) := ⟨below_seq (below_seq H1.out H2.out.2.2.2.2.2) hn2, hx2, H2.out.2.2.2.1.below hn2, H2.out.2.2.2.2.1.below hn2⟩
  have HN : Hid (rs.length ≤ 1000000 ∧ es.length ≤ 1000000 ∧ MpRes set cs tk n z1 z2 rs es TT) := ⟨H2.out.2.1, H2.out.2.2.1, H2.out.1⟩
  clear hx2 hn2 H2 H1
  generalize (w2.alloc (.cells #[.int .i64 z1, .int .i64 z2] 30)) = w3 at *
  generalize w2.heap.size = G at *
  refine wp_region_noPanic ?_
  refine wp_region_held_drew (S := fun w' => w'.cell? ⟨0, 0, none⟩ = some (.int .i64 mC.c) ∧ w'.cell? ⟨0, 1, none⟩ = some (.int .i64 mC.h) ∧ w'.cell? ⟨0, 2, none⟩ = some (.int .i64 mC.t) ∧ w'.cell? ⟨0, 3, none⟩ = some (.int .i64 mC.d) ∧ w'.cell? ⟨0, 4, none⟩ = some (.bool mC.hi) ∧ w'.cell? ⟨0, 5, none⟩ = some (.int .i64 mC.p) ∧ w'.cell? ⟨1, 0, none⟩ = some (.int .i64 mO.k) ∧ w'.cell? ⟨1, 1, none⟩ = some (.int .i64 mO.a)) (by kernel_rfl) (HG.out _ H3.out.1.drew) (fun hHeld => ?_)
  refine take_at (i := 0) (n := 53) (v := ?_) rfl rfl (by kernel_rfl) (by kernel_rfl) (by kernel_rfl) (fun _ _ _ h => h) (Or.inl ⟨by rfl, ?_⟩) (by assumption) ?_
  rotate_left 1
  · intro wz hSw
    obtain ⟨s0, s1, s2, s3, s4, s5, s6, s7⟩ := hSw
    first | (go_simp; done) | (go_simp; with_reducible rfl)
  simp only [List.set_cons_zero, List.set_cons_succ]
  refine take_at (i := 1) (n := 54) (v := ?_) rfl rfl (by kernel_rfl) (by kernel_rfl) (by kernel_rfl) (fun _ _ _ h => h) (Or.inl ⟨by rfl, ?_⟩) (by assumption) ?_
  rotate_left 1
  · intro wz hSw
    obtain ⟨s0, s1, s2, s3, s4, s5, s6, s7⟩ := hSw
    first | (go_simp; done) | (go_simp; with_reducible rfl)
  simp only [List.set_cons_zero, List.set_cons_succ]
  refine take_at (i := 3) (n := 56) (v := ?_) rfl rfl (by kernel_rfl) (by kernel_rfl) (by kernel_rfl) (fun _ _ _ h => h) (Or.inl ⟨by rfl, ?_⟩) (by assumption) ?_
  rotate_left 1
  · intro wz hSw
    obtain ⟨s0, s1, s2, s3, s4, s5, s6, s7⟩ := hSw
    first | (go_simp; done) | (go_simp; with_reducible rfl)
  simp only [List.set_cons_zero, List.set_cons_succ]
  refine take_at (i := 4) (n := 57) (v := ?_) rfl rfl (by kernel_rfl) (by kernel_rfl) (by kernel_rfl) (fun _ _ _ h => h) (Or.inl ⟨by rfl, ?_⟩) (by assumption) ?_
  rotate_left 1
  · intro wz hSw
    obtain ⟨s0, s1, s2, s3, s4, s5, s6, s7⟩ := hSw
    first | (go_simp; done) | (go_simp; with_reducible rfl)
  simp only [List.set_cons_zero, List.set_cons_succ]
  refine take_at (i := 6) (n := 59) (v := ?_) rfl rfl (by kernel_rfl) (by kernel_rfl) (by kernel_rfl) (fun _ _ _ h => h) (Or.inl ⟨by rfl, ?_⟩) (by assumption) ?_
  rotate_left 1
  · intro wz hSw
    obtain ⟨s0, s1, s2, s3, s4, s5, s6, s7⟩ := hSw
    first | (go_simp; done) | (go_simp; with_reducible rfl)
  simp only [List.set_cons_zero, List.set_cons_succ]
  refine wpAnyH_ready (rs := [2]) (by kernel_rfl) (by simp) ?_
  refine AllReadyH.cons rfl (fun K hK => ?_) AllReadyH.nil
  go_simp
  go_wp2_with (go_at_call 9; refine (HL1 _ set mC _ (by omega) (HV.out.1.below H3.out.1.drew)).mono ?_; rintro r wa ⟨o1, rfl, hl9, hb9⟩; obtain ⟨p1, p2, p3, rfl, -⟩ := id hl9; have Ha : Hid (Below w.heap.size w wa ∧ Below w3.heap.size w3 wa ∧ Lent Cr.vals wa set mC (.slice (some ⟨p1, p2, none⟩) set.length p3)) := ⟨below_seq H3.out.1.drew hb9, below_seq (Below.refl _ _).drew hb9, hl9⟩; clear hl9 hb9)
  refine hK.out _ _ (HG.out _ Ha.out.1) (fun hHeld => ?_)
  clear hK K
  try simp only [List.set_cons_zero, List.set_cons_succ]
  refine wpAnyH_ready (rs := [5]) (by kernel_rfl) (by simp) ?_
  refine AllReadyH.cons rfl (fun K hK => ?_) AllReadyH.nil
  go_simp
  go_wp2_with (go_at_call 10; refine (HL2 _ cs mO _ (by omega) (HV.out.2.1.below Ha.out.1)).mono ?_; rintro r wb ⟨o2, rfl, hl9, hb9⟩; obtain ⟨q1, q2, q3, rfl, -⟩ := id hl9; have Hb : Hid (Below w.heap.size w wb ∧ Below w3.heap.size w3 wb ∧ Lent Cr.vals wb set mC (.slice (some ⟨p1, p2, none⟩) set.length p3) ∧ Lent Co.vals wb cs mO (.slice (some ⟨q1, q2, none⟩) cs.length q3)) := ⟨below_seq Ha.out.1 hb9, below_seq Ha.out.2.1 hb9, Ha.out.2.2.below hb9, hl9⟩; clear hl9 hb9)
  refine hK.out _ _ (HG.out _ Hb.out.1) (fun hHeld => ?_)
  clear hK K
  try simp only [List.set_cons_zero, List.set_cons_succ]
  refine wpAnyH_ready (rs := [7]) (by kernel_rfl) (by simp) ?_
  refine AllReadyH.cons rfl (fun K hK => ?_) AllReadyH.nil
  go_simp
  go_wp2_with (go_at_call 11; refine (LendN_any _ tk (-9) _ (by omega) (HV.out.2.2.below Hb.out.1)).mono ?_; rintro r wc ⟨o3, rfl, hl9, hb9⟩; obtain ⟨r1, r2, r3, rfl, -⟩ := id hl9; have Hc : Hid (Below w.heap.size w wc ∧ Below w3.heap.size w3 wc ∧ Lent Cr.vals wc set mC (.slice (some ⟨p1, p2, none⟩) set.length p3) ∧ Lent Co.vals wc cs mO (.slice (some ⟨q1, q2, none⟩) cs.length q3) ∧ Lent nuV wc tk (-9) (.slice (some ⟨r1, r2, none⟩) tk.length r3)) := ⟨below_seq Hb.out.1 hb9, below_seq Hb.out.2.1 hb9, Hb.out.2.2.1.below hb9, Hb.out.2.2.2.below hb9, hl9⟩; clear hl9 hb9)
  refine hK.out _ _ (HG.out _ Hc.out.1) (fun hHeld => ?_)
  clear hK K
  try simp only [List.set_cons_zero, List.set_cons_succ]
  refine take_at (i := 8) (n := 13) (v := ?_) rfl rfl (by kernel_rfl) (by kernel_rfl) (by kernel_rfl) (fun _ _ _ h => h) (Or.inl ⟨by rfl, ?_⟩) (by assumption) ?_
  rotate_left 1
  · intro wz hSw
    obtain ⟨s0, s1, s2, s3, s4, s5, s6, s7⟩ := hSw
    first | (go_simp; done) | (go_simp; with_reducible rfl)
  simp only [List.set_cons_zero, List.set_cons_succ]
  refine take_at (i := 9) (n := 14) (v := ?_) rfl rfl (by kernel_rfl) (by kernel_rfl) (by kernel_rfl) (fun _ _ _ h => h) (Or.inl ⟨by rfl, ?_⟩) (by assumption) ?_
  rotate_left 1
  · intro wz hSw
    obtain ⟨s0, s1, s2, s3, s4, s5, s6, s7⟩ := hSw
    first | (go_simp; done) | (go_simp; with_reducible rfl)
  simp only [List.set_cons_zero, List.set_cons_succ]
  refine take_at (i := 10) (n := 15) (v := ?_) rfl rfl (by kernel_rfl) (by kernel_rfl) (by kernel_rfl) (fun _ _ _ h => h) (Or.inl ⟨by rfl, ?_⟩) (by assumption) ?_
  rotate_left 1
  · intro wz hSw
    obtain ⟨s0, s1, s2, s3, s4, s5, s6, s7⟩ := hSw
    first | (go_simp; done) | (go_simp; with_reducible rfl)
  simp only [List.set_cons_zero, List.set_cons_succ]
  refine wpAnyH_done (by kernel_rfl) ?_ _
  refine NoPanic.normal ?_
  clear hHeld
  have Hd0 : Hid (PLL w wc set cs tk mC mO (.slice (some ⟨p1, p2, none⟩) set.length p3) (.slice (some ⟨q1, q2, none⟩) cs.length q3) (.slice (some ⟨r1, r2, none⟩) tk.length r3) G rs es (.slice a1 rs.length c1) (.slice a2 es.length c2) z1 z2) := ⟨Hc.out.1, Hc.out.2.2.1, Hc.out.2.2.2.1, Hc.out.2.2.2.2, (Hc.out.2.1.block _ (lt_heapM H3.out.2.1)).trans H3.out.2.1, H3.out.2.2.1.below Hc.out.2.1, H3.out.2.2.2.below Hc.out.2.1⟩
  clear Ha Hb Hc H3 HL1 HL2
  go_wp2_with fail
  go_loopw [61] (fun i W => ∃ j : Nat, j ≤ 2 ∧ i = .int .i64 j ∧ PLL w W set cs tk mC mO (.slice (some ⟨p1, p2, none⟩) set.length p3) (.slice (some ⟨q1, q2, none⟩) cs.length q3) (.slice (some ⟨r1, r2, none⟩) tk.length r3) G rs es (.slice a1 rs.length c1) (.slice a2 es.length c2) z1 z2) (fun i _ => 2 - (intOf i).toNat)
  case atStart => exact ⟨0, by omega, rfl, Hd0.out⟩
  case round =>
    obtain ⟨j, hj, rfl, hpll⟩ := hrel
    have Hd : Hid (PLL w wr set cs tk mC mO (.slice (some ⟨p1, p2, none⟩) set.length p3) (.slice (some ⟨q1, q2, none⟩) cs.length q3) (.slice (some ⟨r1, r2, none⟩) tk.length r3) G rs es (.slice a1 rs.length c1) (.slice a2 es.length c2) z1 z2) := hpll
    clear hpll Hd0
    by_cases hj2 : j < 2
    · have hji : (j : Int) < 2 := by omega
      have HP := PlayM_res wr set cs tk n _ _ _ Hd.out.l1.plain Hd.out.l2.plain Hd.out.l3.plain
      go_upto_region 10 with (go_at_call 12; refine HP.mono ?_; rintro r w4 ⟨v1, v2, y1, y2, rs', es', TT', rfl, hpr, hres⟩; obtain ⟨u1, u2, u3, u4, u5⟩ := mpRes_unique hpr HN.out.2.2; subst u1 u2 u3 u4 u5; obtain ⟨e1, f1, e2, f2, rfl, rfl⟩ := hres.slices; have H4 : Hid (Res wr w4 rs es (.slice e1 rs.length f1) (.slice e2 es.length f2)) := hres; clear hpr hres HP)
      have hx1 : ((w4.alloc (.cells #[.slice e1 rs.length f1, .slice e2 es.length f2, .int .i64 TT] 43)).alloc (.cells #[.int .i64 z1, .int .i64 z2] 30)).heap[w4.heap.size]? = some (.cells [.slice e1 rs.length f1, .slice e2 es.length f2, .int .i64 TT].toArray 43 (0, 0)) := (Below.heap_alloc _ _ _ (by simp)).trans (heap_alloc_new _ _)
      have hx2 : ((w4.alloc (.cells #[.slice e1 rs.length f1, .slice e2 es.length f2, .int .i64 TT] 43)).alloc (.cells #[.int .i64 z1, .int .i64 z2] 30)).heap[w4.heap.size + 1]? = some (.cells [.int .i64 z1, .int .i64 z2].toArray 30 (0, 0)) := by
        have := heap_alloc_new (w4.alloc (.cells #[.slice e1 rs.length f1, .slice e2 es.length f2, .int .i64 TT] 43)) (.cells #[.int .i64 z1, .int .i64 z2] 30)
        simpa using this
      obtain ⟨d1, d2, hrn⟩ := RND.start H4.out (below_seq (below_new _ _) (below_new _ _)) hx1
      have hpl := Hd.out.grow hrn.bel
      have n0 := (cells_of hx1).1 0 _ rfl
      have m0 := (cells_of hx2).1 0 _ rfl
      have m1 := (cells_of hx2).1 1 _ rfl
      have t0 := (cells_of hpl.c2).1 0 _ rfl
      have t1 := (cells_of hpl.c2).1 1 _ rfl
      have hs1 := SameM_any _ rs _ _ (by have := HN.out.1; omega) hrn.r1.row hpl.r1
      have HR : Hid (RND wr ((w4.alloc (.cells #[.slice e1 rs.length f1, .slice e2 es.length f2, .int .i64 TT] 43)).alloc (.cells #[.int .i64 z1, .int .i64 z2] 30)) w4.heap.size rs es TT (.slice e1 rs.length f1) (.slice e2 es.length f2) d1 d2) := hrn
      clear hx1 hx2 hrn hpl H4
      generalize ((w4.alloc (.cells #[.slice e1 rs.length f1, .slice e2 es.length f2, .int .i64 TT] 43)).alloc (.cells #[.int .i64 z1, .int .i64 z2] 30)) = w5b at *
      generalize w4.heap.size = D at *
      go_wp2_with (go_at_call 13; refine hs1.mono ?_; rintro r w6 ⟨rfl, hb6⟩; have H6 : Hid (RND wr w6 D rs es TT (.slice e1 rs.length f1) (.slice e2 es.length f2) d1 d2) := HR.out.grow hb6; have x1 := (cells_of H6.out.d1).1 1 _ rfl; clear hb6 hs1 HR n0 m0 m1 t0 t1)
      have hs2 := SameM_any w6 es _ _ (by have := HN.out.2.1; omega) H6.out.r2.row (Hd.out.grow H6.out.bel).r2
      go_wp2_with (go_at_call 13; refine hs2.mono ?_; rintro r w7 ⟨rfl, hb7⟩; have H7 : Hid (RND wr w7 D rs es TT (.slice e1 rs.length f1) (.slice e2 es.length f2) d1 d2) := H6.out.grow hb7; have x0 := (cells_of H7.out.d1).1 0 _ rfl; have x2 := (cells_of H7.out.d1).1 2 _ rfl; clear hb7 hs2 H6 x1)
      go_wp2_with (go_at_call 14; refine (Spoil_row _ _ rs _ d1 H7.out.r1).mono ?_; rintro r w8 ⟨rfl, hg8⟩; have H8 : Hid (RN2 wr w8 D es TT (.slice e1 rs.length f1) (.slice e2 es.length f2) d2) := H7.out.spoil hg8; have x1 := (cells_of H8.out.d1).1 1 _ rfl; clear hg8 H7 x0 x2)
      go_wp2_with (go_at_call 14; refine (Spoil_row _ _ es _ d2 H8.out.r2).mono ?_; rintro r w10 ⟨rfl, hg10⟩; have H10 := Hd.out.grow (H8.out.spoil hg10); have H11 : Hid (PLL w w10 set cs tk mC mO (.slice (some ⟨p1, p2, none⟩) set.length p3) (.slice (some ⟨q1, q2, none⟩) cs.length q3) (.slice (some ⟨r1, r2, none⟩) tk.length r3) G rs es (.slice a1 rs.length c1) (.slice a2 es.length c2) z1 z2) := H10; clear hg10 H8 x1 H10)
      exact ⟨⟨j + 1, by omega, by simp, H11.out⟩, by simp [intOf]; omega⟩
    · have hje : j = 2 := by omega
      subst hje
      obtain ⟨k0, k1, k2, k3, k4, k5, k6, k7⟩ := HG.out _ Hd.out.bel
      go_wp2_with (go_at_call 15; refine (HT1 _ set mC _ _ (by omega) Hd.out.l1 (HV.out.1.below Hd.out.bel)).mono ?_; rintro r wx ⟨rfl, hbx⟩; have Hx : Hid (PLL w wx set cs tk mC mO (.slice (some ⟨p1, p2, none⟩) set.length p3) (.slice (some ⟨q1, q2, none⟩) cs.length q3) (.slice (some ⟨r1, r2, none⟩) tk.length r3) G rs es (.slice a1 rs.length c1) (.slice a2 es.length c2) z1 z2) := Hd.out.grow hbx; obtain ⟨-, -, -, -, -, -, x6, x7⟩ := HG.out _ Hx.out.bel; clear hbx k0 k1 k2 k3 k4 k5 k6 k7 HT1)
      go_wp2_with (go_at_call 16; refine (HT2 _ cs mO _ _ (by omega) Hx.out.l2 (HV.out.2.1.below Hx.out.bel)).mono ?_; rintro r wy ⟨rfl, hby⟩; have Hy : Hid (PLL w wy set cs tk mC mO (.slice (some ⟨p1, p2, none⟩) set.length p3) (.slice (some ⟨q1, q2, none⟩) cs.length q3) (.slice (some ⟨r1, r2, none⟩) tk.length r3) G rs es (.slice a1 rs.length c1) (.slice a2 es.length c2) z1 z2) := Hx.out.grow hby; clear hby x6 x7 HT2)
      go_wp2_with (go_at_call 17; refine (StillN_any _ tk (-9) _ _ (by omega) Hy.out.l3 (HV.out.2.2.below Hy.out.bel)).mono ?_; rintro r wz ⟨rfl, hbz⟩; have Hz : Hid (PLL w wz set cs tk mC mO (.slice (some ⟨p1, p2, none⟩) set.length p3) (.slice (some ⟨q1, q2, none⟩) cs.length q3) (.slice (some ⟨r1, r2, none⟩) tk.length r3) G rs es (.slice a1 rs.length c1) (.slice a2 es.length c2) z1 z2) := Hy.out.grow hbz; clear hbz)
      go_ret
      exact ⟨rfl, Hz.out.bel⟩
end Go.Proofs.YtccoobcggbbciaiGreatDoor
