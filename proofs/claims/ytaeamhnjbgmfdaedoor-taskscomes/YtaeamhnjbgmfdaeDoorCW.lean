import Derived.Test.YtaeamhnjbgmfdaeDoorCS
import Derived.Test.YtaeamhnjbgmfdaeDoorCT
import Derived.Test.YtaeamhnjbgmfdaeDoorJW
namespace Go.Proofs.YtaeamhnjbgmfdaeDoor
open Go.ChangeShapes Go.WideShapes Go.ChangeAt Go.RowKit

theorem comes_three : comesF threeL 7 = ((0, 0), [⟨0, 0⟩, ⟨1, 0⟩, ⟨2, 0⟩, ⟨0, 4⟩, ⟨1, 6⟩]) := by kernel_rfl

/-- What the law holds behind the document's answer. -/
structure LC (w W : World) (G : Nat) (z1 z2 : Int) (jl : List Co) (u : Value) : Prop where
  bel : Below w.heap.size w W
  row : RowSl Co.vals W jl u
  flt : W.heap[G]? = some (.cells #[.int .i64 z1, .int .i64 z2] 26 (0, 0))

theorem LC.grow {w W W' : World} {G : Nat} {z1 z2 : Int} {jl : List Co} {u : Value} (h : LC w W G z1 z2 jl u) (hb : Below W.heap.size W W') : LC w W' G z1 z2 jl u := ⟨below_seq h.bel hb, h.row.below hb, (hb.block G (Array.getElem?_eq_some_iff.1 h.flt).1).trans h.flt⟩

theorem comesF_len (l : List Ta) (n : Int) : (comesF l n).2.length ≤ 4000 := by
  unfold comesF
  split
  · simp
  · split
    · simp
    · split
      · simp
      · simp; omega

theorem comesF_chk {l : List Ta} {n z2 : Int} {cs : List Co} (h : comesF l n = ((0, z2), cs)) : legF l cs = (0, 0) := by
  by_cases h0 : (chkF l).1 = 0
  · have : comesF l n = ((0, 0), cs) := by
      unfold comesF at h ⊢
      rw [if_neg (by simpa using h0)] at h ⊢
      split at h
      · simp at h
      · rename_i h1
        split at h
        · simp at h
        · rename_i h2
          rw [if_neg h1, if_neg h2]
          simp only [Prod.mk.injEq, true_and] at h
          rw [h.2]
    exact comes_legal this h0
  · unfold comesF at h
    rw [if_pos h0] at h
    simp only [Prod.mk.injEq] at h
    rw [h.1] at h0
    exact absurd rfl h0

theorem field_25' (W : World) (a b : Int) : (Instr.field 26 (.agg #[.int .i64 a, .int .i64 b]) 0).run Tryd.prog W = .ok (.int .i64 a) W := by kernel_rfl

set_option maxRecDepth 20000 in
set_option maxHeartbeats 8000000 in
theorem comes_walk (w : World) (l : List Ta) (cs : List Co) (n : Int) (v v2 : Value) (hS : ∀ x ∈ l, x.nm.size ≤ 9223372036854775807) (hg : TaAt w 0 0 noT) (hgc : CoAt w 1 0 noC) (hv : RowSl Ta.vals w l v) (hv2 : RowSl Co.vals w cs v2) :
    Calls Tryd.prog 3 #[v, .int .i64 n, v2] w fun r w' => r = .returned (.bool true) ∧ Below w.heap.size w w' := by
  obtain ⟨ad, c, rfl⟩ := hv.len
  obtain ⟨ad2, c2, rfl⟩ := hv2.len
  have HV : Hid ((∀ x ∈ l, x.nm.size ≤ 9223372036854775807) ∧ TaAt w 0 0 noT ∧ CoAt w 1 0 noC ∧ RowSl Ta.vals w l (.slice ad l.length c) ∧ RowSl Co.vals w cs (.slice ad2 cs.length c2)) := ⟨hS, hg, hgc, hv, hv2⟩
  clear hS hg hgc hv hv2
  have HL := LendT_any
  have HLC := LendC_any
  have HT := StillT_any
  have HTC := StillC_any
  unfold Ta.val at HL HT
  unfold Co.val at HLC HTC
  go_enter Tryd.func3, Tryd.ntmps3
  go_wp2_with (go_at_call 6; refine (three_any _).mono ?_; rintro r w1 ⟨v1, rfl, hr1, hb1⟩; have H1 : Hid (Below w.heap.size w w1 ∧ RowSl Ta.vals w1 threeL v1) := ⟨hb1, hr1⟩; clear hr1 hb1)
  have HC0 := Comes_any w1 threeL v1 7 H1.out.2
  rw [comes_three] at HC0
  go_wp2_with (go_at_call 5; refine HC0.mono ?_; rintro r w2 ⟨us, rfl, ho2, hb2⟩; have H3 : Hid (Below w.heap.size w w2 ∧ RowSl Co.vals w2 [⟨0, 0⟩, ⟨1, 0⟩, ⟨2, 0⟩, ⟨0, 4⟩, ⟨1, 6⟩] us) := ⟨below_seq H1.out.1 hb2, rowOfC_own ho2⟩; clear ho2 hb2 HC0 H1)
  have hr0 : RowSl Co.vals ((w2.alloc (.cells #[.int .i64 0, .int .i64 0] 26)).alloc (.cells #[.int .i64 0, .int .i64 0, .int .i64 1, .int .i64 0, .int .i64 2, .int .i64 0, .int .i64 0, .int .i64 4, .int .i64 1, .int .i64 6] 32)) [⟨0, 0⟩, ⟨1, 0⟩, ⟨2, 0⟩, ⟨0, 4⟩, ⟨1, 6⟩] (.slice (some ⟨w2.heap.size + 1, 0, none⟩) 5 5) := by
    have := row_new (f := Co.vals) (w2.alloc (.cells #[.int .i64 0, .int .i64 0] 26)) [⟨0, 0⟩, ⟨1, 0⟩, ⟨2, 0⟩, ⟨0, 4⟩, ⟨1, 6⟩] 5 #[.int .i64 0, .int .i64 0, .int .i64 1, .int .i64 0, .int .i64 2, .int .i64 0, .int .i64 0, .int .i64 4, .int .i64 1, .int .i64 6] 32 rfl rfl
    simpa using this
  have HS0 := SameC_any ((w2.alloc (.cells #[.int .i64 0, .int .i64 0] 26)).alloc (.cells #[.int .i64 0, .int .i64 0, .int .i64 1, .int .i64 0, .int .i64 2, .int .i64 0, .int .i64 0, .int .i64 4, .int .i64 1, .int .i64 6] 32)) [⟨0, 0⟩, ⟨1, 0⟩, ⟨2, 0⟩, ⟨0, 4⟩, ⟨1, 6⟩] us _ (by simp) ((H3.out.2.below (below_new _ _)).below (below_new _ _)) hr0
  go_wp2_with (go_at_call 7; refine HS0.mono ?_; rintro r w4 ⟨rfl, hb4⟩; have H4 : Hid (Below w.heap.size w w4) := below_seq (below_seq (below_seq H3.out.1 (below_new _ _)) (below_new _ _)) hb4; clear hb4 HS0 H3 hr0)
  by_cases hl1 : l.length ≤ 5000
  · have hl1' : decide ((l.length : Int) ≤ 5000) = true := by simp; omega
    by_cases hl2 : cs.length ≤ 5000
    · have hl2' : decide ((cs.length : Int) ≤ 5000) = true := by simp; omega
      go_wp2_with (go_at_call 8; refine (few_any _ _).mono ?_; rintro r w5 ⟨rfl, rfl⟩; first | rw [hl1'] | rw [hl2'])
      have H7 : Hid (Below w.heap.size w w5.drew) := H4.out.drew
      have hS0 : TaAt w5.drew 0 0 noT ∧ CoAt w5.drew 1 0 noC := ⟨HV.out.2.1.below H7.out, HV.out.2.2.1.below H7.out⟩
      refine wp_region_noPanic ?_
      refine wp_region_held_drew (S := fun w' => TaAt w' 0 0 noT ∧ CoAt w' 1 0 noC) (by kernel_rfl) hS0 (fun hHeld => ?_)
      refine take_at (i := 0) (n := 44) (v := ?_) rfl rfl (by kernel_rfl) (by kernel_rfl) (by kernel_rfl) (fun _ _ _ h => h) (Or.inl ⟨by rfl, ?_⟩) (by assumption) ?_
      rotate_left 1
      · intro wz hSw
        obtain ⟨⟨s0, s1, s2, s3, s4, s5, s6⟩, k0, k1⟩ := hSw
        first | (go_simp; done) | (go_simp; with_reducible rfl)
      simp only [List.set_cons_zero, List.set_cons_succ]
      refine take_at (i := 1) (n := 45) (v := ?_) rfl rfl (by kernel_rfl) (by kernel_rfl) (by kernel_rfl) (fun _ _ _ h => h) (Or.inl ⟨by rfl, ?_⟩) (by assumption) ?_
      rotate_left 1
      · intro wz hSw
        obtain ⟨⟨s0, s1, s2, s3, s4, s5, s6⟩, k0, k1⟩ := hSw
        first | (go_simp; done) | (go_simp; with_reducible rfl)
      simp only [List.set_cons_zero, List.set_cons_succ]
      refine take_at (i := 3) (n := 47) (v := ?_) rfl rfl (by kernel_rfl) (by kernel_rfl) (by kernel_rfl) (fun _ _ _ h => h) (Or.inl ⟨by rfl, ?_⟩) (by assumption) ?_
      rotate_left 1
      · intro wz hSw
        obtain ⟨⟨s0, s1, s2, s3, s4, s5, s6⟩, k0, k1⟩ := hSw
        first | (go_simp; done) | (go_simp; with_reducible rfl)
      simp only [List.set_cons_zero, List.set_cons_succ]
      refine take_at (i := 4) (n := 48) (v := ?_) rfl rfl (by kernel_rfl) (by kernel_rfl) (by kernel_rfl) (fun _ _ _ h => h) (Or.inl ⟨by rfl, ?_⟩) (by assumption) ?_
      rotate_left 1
      · intro wz hSw
        obtain ⟨⟨s0, s1, s2, s3, s4, s5, s6⟩, k0, k1⟩ := hSw
        first | (go_simp; done) | (go_simp; with_reducible rfl)
      simp only [List.set_cons_zero, List.set_cons_succ]
      refine wpAnyH_ready (rs := [2]) (by kernel_rfl) (by simp) ?_
      refine AllReadyH.cons rfl (fun K hK => ?_) AllReadyH.nil
      go_wp2_with (go_at_call 9; refine (HL _ l noT _ (by omega) (HV.out.2.2.2.1.below H7.out)).mono ?_; rintro r wa ⟨uwa, rfl, hl9, hb9⟩)
      have Hwa : Hid (Below w.heap.size w wa ∧ Lent Ta.vals wa l noT uwa) := ⟨below_seq H7.out hb9, hl9⟩
      clear hl9 hb9
      refine hK.out _ _ ⟨HV.out.2.1.below Hwa.out.1, HV.out.2.2.1.below Hwa.out.1⟩ (fun hHeld => ?_)
      clear hK K
      refine wpAnyH_ready (rs := [5]) (by kernel_rfl) (by simp) ?_
      refine AllReadyH.cons rfl (fun K hK => ?_) AllReadyH.nil
      go_simp
      go_wp2_with (go_at_call 10; refine (HLC _ cs noC _ (by omega) (HV.out.2.2.2.2.below Hwa.out.1)).mono ?_; rintro r wb ⟨uwb, rfl, hl9, hb9⟩)
      have Hwb : Hid (Below w.heap.size w wb ∧ Lent Ta.vals wb l noT uwa ∧ Lent Co.vals wb cs noC uwb) := ⟨below_seq Hwa.out.1 hb9, Hwa.out.2.below hb9, hl9⟩
      clear hl9 hb9
      refine hK.out _ _ ⟨HV.out.2.1.below Hwb.out.1, HV.out.2.2.1.below Hwb.out.1⟩ (fun hHeld => ?_)
      clear hK K
      refine take_at (i := 6) (n := 9) (v := ?_) rfl rfl (by kernel_rfl) (by kernel_rfl) (by kernel_rfl) (fun _ _ _ h => h) (Or.inl ⟨by rfl, ?_⟩) (by assumption) ?_
      rotate_left 1
      · intro wz hSw
        obtain ⟨⟨s0, s1, s2, s3, s4, s5, s6⟩, k0, k1⟩ := hSw
        first | (go_simp; done) | (go_simp; with_reducible rfl)
      simp only [List.set_cons_zero, List.set_cons_succ]
      refine take_at (i := 7) (n := 10) (v := ?_) rfl rfl (by kernel_rfl) (by kernel_rfl) (by kernel_rfl) (fun _ _ _ h => h) (Or.inl ⟨by rfl, ?_⟩) (by assumption) ?_
      rotate_left 1
      · intro wz hSw
        obtain ⟨⟨s0, s1, s2, s3, s4, s5, s6⟩, k0, k1⟩ := hSw
        first | (go_simp; done) | (go_simp; with_reducible rfl)
      simp only [List.set_cons_zero, List.set_cons_succ]
      refine wpAnyH_done (by kernel_rfl) ?_ _
      refine NoPanic.normal ?_
      clear hS0 hHeld Hwa H7 H4
      obtain ⟨z1, z2, jl, hJ⟩ : ∃ z1 z2 jl, comesF l n = ((z1, z2), jl) := ⟨_, _, _, rfl⟩
      have hjl : jl.length ≤ 4000 := by have := comesF_len l n; rw [hJ] at this; exact this
      have HO := Soon_any wb l (.slice ad l.length c) n HV.out.1 (HV.out.2.2.2.1.below Hwb.out.1)
      rw [hJ] at HO
      have HJ : Hid (comesF l n = ((z1, z2), jl)) := hJ
      clear hJ
      go_wp2_with (go_at_call 11; refine HO.mono ?_; rintro r w6 ⟨uq, rfl, ho6, hb6⟩; have H6 : Hid (LC w (w6.alloc (.cells #[.int .i64 z1, .int .i64 z2] 26)) w6.heap.size z1 z2 jl uq ∧ Lent Ta.vals (w6.alloc (.cells #[.int .i64 z1, .int .i64 z2] 26)) l noT uwa ∧ Lent Co.vals (w6.alloc (.cells #[.int .i64 z1, .int .i64 z2] 26)) cs noC uwb) := ⟨⟨below_seq (below_seq Hwb.out.1 hb6) (below_new _ _), (rowOfC_own ho6).below (below_new _ _), heap_alloc_new _ _⟩, (Hwb.out.2.1.below hb6).below (below_new _ _), (Hwb.out.2.2.below hb6).below (below_new _ _)⟩; clear ho6 hb6 HO Hwb)
      generalize w6.alloc (.cells #[.int .i64 z1, .int .i64 z2] 26) = wd at *
      generalize w6.heap.size = G at *
      go_loopw [56] (fun i wr => ∃ j : Nat, j ≤ 2 ∧ i = .int .i64 j ∧ Below wd.heap.size wd wr) (fun i _ => 2 - (intOf i).toNat)
      case atStart => exact ⟨0, Nat.zero_le _, rfl, Below.refl _ _⟩
      case round =>
        obtain ⟨j, hj, rfl, hbr⟩ := hrel
        have HB : Hid (Below wd.heap.size wd wr) := hbr
        by_cases hj2 : j < 2
        · have HJ1 := Comes_any wr l uwa n (H6.out.2.1.plain.below hbr)
          rw [HJ.out] at HJ1
          clear hbr
          go_wp2_with (go_at_call 5; refine HJ1.mono ?_; rintro r w9 ⟨ur, rfl, ho9, hb9⟩; have H9 : Hid (LC w w9 G z1 z2 jl uq ∧ w9.ownsRow (wr.heap.size + 1) 32 2 ur jl.length (jl.flatMap Co.vals) ∧ Below wr.heap.size wr w9) := ⟨(H6.out.1.grow HB.out).grow hb9, ho9, hb9⟩; obtain ⟨gs, gf, gl⟩ := cells_of (l := [_, _]) H9.out.1.flt; have g0 := gs 0 _ rfl; have g1 := gs 1 _ rfl; clear ho9 hb9 HJ1 gs gf)
          have hb10 : Below w9.heap.size w9 (w9.alloc (.cells #[.int .i64 z1, .int .i64 z2] 26)) := below_new _ _
          have HS1 := SameC_any (w9.alloc (.cells #[.int .i64 z1, .int .i64 z2] 26)) jl ur uq (by omega) ((rowOfC_own H9.out.2.1).below hb10) (H9.out.1.row.below hb10)
          have H10 : Hid (LC w (w9.alloc (.cells #[.int .i64 z1, .int .i64 z2] 26)) G z1 z2 jl uq ∧ (w9.alloc (.cells #[.int .i64 z1, .int .i64 z2] 26)).ownsRow (wr.heap.size + 1) 32 2 ur jl.length (jl.flatMap Co.vals) ∧ Below wr.heap.size wr (w9.alloc (.cells #[.int .i64 z1, .int .i64 z2] 26))) := ⟨H9.out.1.grow hb10, ownsRow_below H9.out.2.1 hb10, below_seq H9.out.2.2 hb10⟩
          clear hb10 H9 g0 g1 gl
          go_wp2_with (go_at_call 7; refine HS1.mono ?_; rintro r w11 ⟨rfl, hb11⟩; have H11 : Hid (LC w w11 G z1 z2 jl uq ∧ w11.ownsRow (wr.heap.size + 1) 32 2 ur jl.length (jl.flatMap Co.vals) ∧ Below wr.heap.size wr w11) := ⟨H10.out.1.grow hb11, ownsRow_below H10.out.2.1 hb11, below_seq H10.out.2.2 hb11⟩; clear hb11 HS1 H10)
          go_wp2_with (go_at_call 12; refine (SpoilC_own _ _ _ _ _ H11.out.2.1).mono ?_; rintro r w12 ⟨rfl, hb12⟩; have H12 : Hid (Below wr.heap.size wr w12) := H11.out.2.2.trans (hb12.mono (by omega)); clear hb12 H11)
          exact ⟨⟨j + 1, by omega, by simp, below_seq HB.out H12.out⟩, by simp [intOf]; omega⟩
        · have hje : j = 2 := by omega
          subst hje
          have HE : Hid (LC w wr G z1 z2 jl uq ∧ Lent Ta.vals wr l noT uwa ∧ Lent Co.vals wr cs noC uwb) := ⟨H6.out.1.grow hbr, H6.out.2.1.below hbr, H6.out.2.2.below hbr⟩
          obtain ⟨gs, gf, gl⟩ := cells_of (l := [_, _]) HE.out.1.flt
          have g0 := gs 0 _ rfl
          have g1 := gs 1 _ rfl
          clear hbr gs gf
          have hfd := fun W => field_25' W 0 0
          by_cases hz : z1 = 0
          · subst hz
            have hleg := comesF_chk HJ.out
            have HLg : Hid (legF l jl = (0, 0)) := hleg
            clear hleg
            go_wp2_with (go_at_call 13; refine (Legal_any _ l jl uwa uq HE.out.2.1.plain HE.out.1.row).mono ?_; rintro r wp ⟨rfl, hbp⟩; rw [HLg.out]; have HP : Hid (LC w wp G 0 z2 jl uq ∧ Lent Ta.vals wp l noT uwa ∧ Lent Co.vals wp cs noC uwb) := ⟨HE.out.1.grow hbp, HE.out.2.1.below hbp, HE.out.2.2.below hbp⟩; clear hbp HE g0 g1 gl)
            go_wp2_with (go_at_call 13; refine (Legal_any _ l cs uwa uwb HP.out.2.1.plain HP.out.2.2.plain).mono ?_; rintro r wq ⟨rfl, hbq⟩; have HQ : Hid (LC w wq G 0 z2 jl uq ∧ Lent Ta.vals wq l noT uwa ∧ Lent Co.vals wq cs noC uwb) := ⟨HP.out.1.grow hbq, HP.out.2.1.below hbq, HP.out.2.2.below hbq⟩; clear hbq)
            go_wp2_with (go_at_call 14; refine (Lawful_any _ l cs _ _ HV.out.1 (HV.out.2.2.2.1.below HQ.out.1.bel) (HV.out.2.2.2.2.below HQ.out.1.bel)).mono ?_; rintro r ws ⟨rfl, hbs⟩; have HS : Hid (LC w ws G 0 z2 jl uq ∧ Lent Ta.vals ws l noT uwa ∧ Lent Co.vals ws cs noC uwb) := ⟨HQ.out.1.grow hbs, HQ.out.2.1.below hbs, HQ.out.2.2.below hbs⟩; obtain ⟨e0, e1, e2, e3, e4, e5, e6⟩ := HV.out.2.1.below HS.out.1.bel; clear hbs HQ HP)
            go_wp2_with (go_at_call 15; refine (HT _ l noT _ _ (by omega) HS.out.2.1 (HV.out.2.2.2.1.below HS.out.1.bel)).mono ?_; rintro r wt ⟨rfl, hbt⟩; have HU : Hid (LC w wt G 0 z2 jl uq ∧ Lent Co.vals wt cs noC uwb) := ⟨HS.out.1.grow hbt, HS.out.2.2.below hbt⟩; obtain ⟨k0, k1⟩ := HV.out.2.2.1.below HU.out.1.bel; clear hbt HS e0 e1 e2 e3 e4 e5 e6)
            go_wp2_with (go_at_call 16; refine (HTC _ cs noC _ _ (by omega) HU.out.2 (HV.out.2.2.2.2.below HU.out.1.bel)).mono ?_; rintro r wv ⟨rfl, hbv⟩; have HY : Hid (Below w.heap.size w wv) := below_seq HU.out.1.bel hbv; clear hbv HU)
            go_ret
            exact ⟨rfl, HY.out⟩
          · have hzb : (z1 == 0) = false := by simpa using hz
            have HP := HE
            clear HE
            go_wp2_with (go_at_call 13; refine (Legal_any _ l cs uwa uwb HP.out.2.1.plain HP.out.2.2.plain).mono ?_; rintro r wq ⟨rfl, hbq⟩; have HQ : Hid (LC w wq G z1 z2 jl uq ∧ Lent Ta.vals wq l noT uwa ∧ Lent Co.vals wq cs noC uwb) := ⟨HP.out.1.grow hbq, HP.out.2.1.below hbq, HP.out.2.2.below hbq⟩; clear hbq)
            go_wp2_with (go_at_call 14; refine (Lawful_any _ l cs _ _ HV.out.1 (HV.out.2.2.2.1.below HQ.out.1.bel) (HV.out.2.2.2.2.below HQ.out.1.bel)).mono ?_; rintro r ws ⟨rfl, hbs⟩; have HS : Hid (LC w ws G z1 z2 jl uq ∧ Lent Ta.vals ws l noT uwa ∧ Lent Co.vals ws cs noC uwb) := ⟨HQ.out.1.grow hbs, HQ.out.2.1.below hbs, HQ.out.2.2.below hbs⟩; obtain ⟨e0, e1, e2, e3, e4, e5, e6⟩ := HV.out.2.1.below HS.out.1.bel; clear hbs HQ HP)
            go_wp2_with (go_at_call 15; refine (HT _ l noT _ _ (by omega) HS.out.2.1 (HV.out.2.2.2.1.below HS.out.1.bel)).mono ?_; rintro r wt ⟨rfl, hbt⟩; have HU : Hid (LC w wt G z1 z2 jl uq ∧ Lent Co.vals wt cs noC uwb) := ⟨HS.out.1.grow hbt, HS.out.2.2.below hbt⟩; obtain ⟨k0, k1⟩ := HV.out.2.2.1.below HU.out.1.bel; clear hbt HS e0 e1 e2 e3 e4 e5 e6)
            go_wp2_with (go_at_call 16; refine (HTC _ cs noC _ _ (by omega) HU.out.2 (HV.out.2.2.2.2.below HU.out.1.bel)).mono ?_; rintro r wv ⟨rfl, hbv⟩; have HY : Hid (Below w.heap.size w wv) := below_seq HU.out.1.bel hbv; clear hbv HU)
            go_ret
            exact ⟨rfl, HY.out⟩
    · have hl2' : decide ((cs.length : Int) ≤ 5000) = false := by simp; omega
      go_wp2_with (go_at_call 8; refine (few_any _ _).mono ?_; rintro r w5 ⟨rfl, rfl⟩; first | rw [hl1'] | rw [hl2'])
      go_ret
      exact ⟨rfl, H4.out⟩
  · have hl1' : decide ((l.length : Int) ≤ 5000) = false := by simp; omega
    go_wp2_with (go_at_call 8; refine (few_any _ _).mono ?_; rintro r w5 ⟨rfl, rfl⟩; rw [hl1'])
    go_ret
    exact ⟨rfl, H4.out⟩
end Go.Proofs.YtaeamhnjbgmfdaeDoor
