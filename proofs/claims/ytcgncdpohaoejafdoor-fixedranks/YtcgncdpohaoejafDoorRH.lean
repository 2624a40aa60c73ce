import Derived.Test.YtcgncdpohaoejafDoorRJ
namespace Go.Proofs.YtcgncdpohaoejafDoor
open Go.ChangeShapes Go.WideShapes Go.ChangeAt Go.RowKit

set_option maxRecDepth 20000 in
set_option maxHeartbeats 2000000 in
theorem ranks_walk (w : World) (l : List Ta) (bs : List Int) (v v2 : Value) (hS : ∀ x ∈ l, x.nm.size ≤ 9223372036854775807) (hg : TaAt w 0 0 noT) (hv : RowSl Ta.vals w l v) (hv2 : RowSl nuV w bs v2) :
    Calls Tryd.prog 3 #[v, v2] w fun r w' => r = .returned (.bool true) ∧ Below w.heap.size w w' := by
  obtain ⟨ad, c, rfl⟩ := hv.len
  obtain ⟨ad2, c2, rfl⟩ := hv2.len
  have HV : Hid ((∀ x ∈ l, x.nm.size ≤ 9223372036854775807) ∧ TaAt w 0 0 noT ∧ RowSl Ta.vals w l (.slice ad l.length c) ∧ RowSl nuV w bs (.slice ad2 bs.length c2)) := ⟨hS, hg, hv, hv2⟩
  clear hS hg hv hv2
  have HL := LendT_any
  have HT := StillT_any
  unfold Ta.val at HL HT
  go_enter Tryd.func3, Tryd.ntmps3
  go_wp2_with (go_at_call 4; refine (first_any _ _ (by first | exact row_new (f := Ta.vals) w twoL 2 _ 30 rfl rfl | exact row_new (f := Ta.vals) _ twoL 2 _ _ rfl rfl)).mono ?_; rintro r w4 ⟨fg, fo, fc, rfl, k6, k13, kl, kc, hb4⟩; have H4 : Hid (Below w.heap.size w (w4.alloc (.cells #[.int .i64 0, .int .i64 0] 26))) := below_seq (below_seq (below_new _ _) hb4) (below_new _ _); clear hb4)

  by_cases hl : l.length ≤ 5000
  rotate_left 1
  · have hl' : decide ((l.length : Int) ≤ 5000) = false := by simp; omega
    go_wp2_with (go_at_call 5; refine (few_any _ _).mono ?_; rintro r w5 ⟨rfl, rfl⟩; rw [hl'])
    go_ret
    exact ⟨rfl, H4.out⟩
  by_cases hl2 : bs.length ≤ 5000
  rotate_left 1
  · have hl' : decide ((l.length : Int) ≤ 5000) = true := by simp; omega
    have hl2' : decide ((bs.length : Int) ≤ 5000) = false := by simp; omega
    go_wp2_with (go_at_call 5; refine (few_any _ _).mono ?_; rintro r w5 ⟨rfl, rfl⟩; first | rw [hl'] | rw [hl2'])
    go_ret
    exact ⟨rfl, H4.out⟩
  have hl' : decide ((l.length : Int) ≤ 5000) = true := by simp; omega
  have hl2' : decide ((bs.length : Int) ≤ 5000) = true := by simp; omega
  go_wp2_with (go_at_call 5; refine (few_any _ _).mono ?_; rintro r w5 ⟨rfl, rfl⟩; first | rw [hl'] | rw [hl2']; try (obtain ⟨e0, e1, e2, e3, e4, e5, e6⟩ := HV.out.2.1.below H4.out))
  go_wp2_with (go_at_call 6; refine (HL _ l noT _ (by omega) (HV.out.2.2.1.below H4.out)).mono ?_; rintro r w6 ⟨u6, rfl, hlent, hb6⟩; obtain ⟨b7, o7, c7, rfl, -⟩ := id hlent; have H6 : Hid (Below w.heap.size w w6 ∧ Lent Ta.vals w6 l noT (.slice (some ⟨b7, o7, none⟩) l.length c7)) := ⟨below_seq H4.out hb6, hlent⟩; clear e0 e1 e2 e3 e4 e5 e6 hlent hb6 H4 HL k6 k13 kl kc)
  go_wp2_with (go_at_call 7; refine (LendN_any _ bs (-9) _ (by omega) (HV.out.2.2.2.below H6.out.1)).mono ?_; rintro r wL ⟨u7, rfl, hlent, hb7⟩; obtain ⟨b8, o8, c8, rfl, -⟩ := id hlent; have H7 : Hid (Below w.heap.size w wL ∧ Lent Ta.vals wL l noT (.slice (some ⟨b7, o7, none⟩) l.length c7) ∧ Lent nuV wL bs (-9) (.slice (some ⟨b8, o8, none⟩) bs.length c8)) := ⟨below_seq H6.out.1 hb7, H6.out.2.below hb7, hlent⟩; clear hlent hb7 H6)
  obtain ⟨y1, y2, mA, hmA, A1, A2⟩ := Rates_all l HV.out.1
  obtain ⟨y3, y4, mB, hmB, B1, B2⟩ := Deads_all l HV.out.1
  obtain ⟨y5, y6, mC, hmC, C1, C2⟩ := Assign_all l bs HV.out.1 (by omega) (by omega)
  have HA1 : Hid _ := A1
  have HA2 : Hid _ := A2
  have HB1 : Hid _ := B1
  have HB2 : Hid _ := B2
  have HC1 : Hid _ := C1
  have HC2 : Hid _ := C2
  clear A1 A2 B1 B2 C1 C2
  go_loopw [57] (fun x wr => ∃ j : Nat, j ≤ 2 ∧ x = .int .i64 j ∧ Below wL.heap.size wL wr) (fun x _ => 2 - (intOf x).toNat)
  case atStart => exact ⟨0, by omega, rfl, Below.refl _ _⟩
  case round =>
    obtain ⟨j, hj, rfl, hb⟩ := hrel
    have HB : Hid (Below wL.heap.size wL wr) := hb
    clear hb
    by_cases hlt : j < 2
    · have hjlt : decide ((j : Int) < 2) = true := by simp; omega
      go_wp2_with (go_at_call 4; refine (HA1.out _ _ (H7.out.2.1.plain.below HB.out)).mono ?_; rintro r w1 ⟨u1, rfl, hr, ho, hb1⟩; obtain ⟨a1, d1, rfl⟩ := hr.len; have h1low : wL.heap.size ≤ w1.heap.size := (below_seq HB.out hb1).size; have H1 : Hid (Below wL.heap.size wL (w1.alloc (.cells #[.int .i64 y1, .int .i64 y2] 26)) ∧ RowSl Ta.vals (w1.alloc (.cells #[.int .i64 y1, .int .i64 y2] 26)) mA (.slice a1 mA.length d1) ∧ OwnT wL.heap.size (w1.alloc (.cells #[.int .i64 y1, .int .i64 y2] 26)) (.slice a1 mA.length d1) ∧ (w1.alloc (.cells #[.int .i64 y1, .int .i64 y2] 26)).heap[w1.heap.size]? = some (.cells #[.int .i64 y1, .int .i64 y2] 26 (0, 0))) := ⟨below_seq (below_seq HB.out hb1) (below_new _ _), hr.below (below_new _ _), (ho.low HB.out.size).grow (below_new _ _), heap_alloc_new _ _⟩; clear hr ho hb1)
      go_wp2_with (go_at_call 8; refine (HA2.out _ _ (HV.out.2.2.1.below (below_seq H7.out.1 H1.out.1))).mono ?_; rintro r w2 ⟨u2, rfl, hr, hb2⟩; obtain ⟨a2, d2, rfl⟩ := hr.len; have h12 : w1.heap.size < w2.heap.size := alloc_lt hb2; have H2 : Hid (St wL (w2.alloc (.cells #[.int .i64 y1, .int .i64 y2] 26)) w1.heap.size w2.heap.size y1 y2 y1 y2 ∧ RowSl Ta.vals (w2.alloc (.cells #[.int .i64 y1, .int .i64 y2] 26)) mA (.slice a1 mA.length d1) ∧ RowSl Ta.vals (w2.alloc (.cells #[.int .i64 y1, .int .i64 y2] 26)) mA (.slice a2 mA.length d2) ∧ OwnT wL.heap.size (w2.alloc (.cells #[.int .i64 y1, .int .i64 y2] 26)) (.slice a1 mA.length d1)) := ⟨⟨below_seq H1.out.1 (below_seq hb2 (below_new _ _)), h1low, h12, ((below_seq hb2 (below_new _ _)).block _ (Array.getElem?_eq_some_iff.1 H1.out.2.2.2).1).trans H1.out.2.2.2, heap_alloc_new _ _⟩, H1.out.2.1.below (below_seq hb2 (below_new _ _)), hr.below (below_new _ _), H1.out.2.2.1.grow (below_seq hb2 (below_new _ _))⟩; obtain ⟨x0, xf, xl⟩ := cells_of (l := [_, _]) ((hb2.block _ (Array.getElem?_eq_some_iff.1 H1.out.2.2.2).1).trans H1.out.2.2.2); have x1 := x0 0 _ rfl; have x2 := x0 1 _ rfl; clear hr hb2 x0 xf H1)
      go_wp2_with (go_at_call 10; refine (SameTa_any _ mA _ _ (by omega) H2.out.2.1 H2.out.2.2.1).mono ?_; rintro r w3 ⟨rfl, hb3⟩; have H3 : Hid (St wL w3 w1.heap.size w2.heap.size y1 y2 y1 y2 ∧ OwnT wL.heap.size w3 (.slice a1 mA.length d1)) := ⟨H2.out.1.go hb3, H2.out.2.2.2.grow hb3⟩; clear hb3 H2 x1 x2 xl)
      go_wp2_with (go_at_call 11; refine (SpoilTa_keep _ _ _ H3.out.2).mono ?_; rintro r w4 ⟨rfl, hb4, hk4⟩; have H4 : Hid (St wL w4 w1.heap.size w2.heap.size y1 y2 y1 y2) := H3.out.1.spoil hb4 hk4; clear hb4 hk4 H3)
      go_wp2_with (go_at_call 12; refine (HB1.out _ _ (H7.out.2.1.plain.below H4.out.below)).mono ?_; rintro r w5 ⟨u, rfl, hr, ho, hbx⟩; obtain ⟨a5, d5, rfl⟩ := hr.len; have H5 : Hid (St wL w5 w1.heap.size w2.heap.size y1 y2 y1 y2 ∧ RowSl Ta.vals w5 mB (.slice a5 mB.length d5) ∧ OwnT wL.heap.size w5 (.slice a5 mB.length d5)) := ⟨H4.out.go hbx, hr, ho.low H4.out.below.size⟩; obtain ⟨x1, x2, x3, x4, x5⟩ := H5.out.1.cg; clear hr ho hbx H4)
      have H5s : Hid (St wL ((w5.setCell ⟨w1.heap.size, 0, none⟩ (.int .i64 y3)).setCell ⟨w1.heap.size, 1, none⟩ (.int .i64 y4)) w1.heap.size w2.heap.size y3 y4 y1 y2 ∧ RowSl Ta.vals ((w5.setCell ⟨w1.heap.size, 0, none⟩ (.int .i64 y3)).setCell ⟨w1.heap.size, 1, none⟩ (.int .i64 y4)) mB (.slice a5 mB.length d5) ∧ OwnT wL.heap.size ((w5.setCell ⟨w1.heap.size, 0, none⟩ (.int .i64 y3)).setCell ⟨w1.heap.size, 1, none⟩ (.int .i64 y4)) (.slice a5 mB.length d5)) := ⟨H5.out.1.setg _ _, H5.out.2.1.set2 H5.out.1.one, H5.out.2.2.set2 H5.out.1.one⟩
      go_wp2_with (go_at_call 8; refine (HB2.out _ _ (HV.out.2.2.1.below (below_seq H7.out.1 H5s.out.1.below))).mono ?_; rintro r w6 ⟨u, rfl, hr, hbx⟩; obtain ⟨a6, d6, rfl⟩ := hr.len; have H6 : Hid (St wL w6 w1.heap.size w2.heap.size y3 y4 y1 y2 ∧ RowSl Ta.vals w6 mB (.slice a5 mB.length d5) ∧ OwnT wL.heap.size w6 (.slice a5 mB.length d5) ∧ RowSl Ta.vals w6 mB (.slice a6 mB.length d6)) := ⟨H5s.out.1.go hbx, H5s.out.2.1.below hbx, H5s.out.2.2.grow hbx, hr⟩; clear x1 x2 x3 x4 x5; obtain ⟨x1, x2, x3, x4, x5⟩ := H6.out.1.cg; obtain ⟨x6, x7, x8, x9, x10⟩ := H6.out.1.ch; clear hr hbx H5s H5)
      have H6s : Hid (St wL ((w6.setCell ⟨w2.heap.size, 0, none⟩ (.int .i64 y3)).setCell ⟨w2.heap.size, 1, none⟩ (.int .i64 y4)) w1.heap.size w2.heap.size y3 y4 y3 y4 ∧ RowSl Ta.vals ((w6.setCell ⟨w2.heap.size, 0, none⟩ (.int .i64 y3)).setCell ⟨w2.heap.size, 1, none⟩ (.int .i64 y4)) mB (.slice a5 mB.length d5) ∧ OwnT wL.heap.size ((w6.setCell ⟨w2.heap.size, 0, none⟩ (.int .i64 y3)).setCell ⟨w2.heap.size, 1, none⟩ (.int .i64 y4)) (.slice a5 mB.length d5) ∧ RowSl Ta.vals ((w6.setCell ⟨w2.heap.size, 0, none⟩ (.int .i64 y3)).setCell ⟨w2.heap.size, 1, none⟩ (.int .i64 y4)) mB (.slice a6 mB.length d6)) := ⟨H6.out.1.seth _ _, H6.out.2.1.set2 H6.out.1.two, H6.out.2.2.1.set2 H6.out.1.two, H6.out.2.2.2.set2 H6.out.1.two⟩
      go_wp2_with (go_at_call 10; refine (SameTa_any _ mB _ _ (by omega) H6s.out.2.1 H6s.out.2.2.2).mono ?_; rintro r w7 ⟨rfl, hbx⟩; have H7 : Hid (St wL w7 w1.heap.size w2.heap.size y3 y4 y3 y4 ∧ OwnT wL.heap.size w7 (.slice a5 mB.length d5)) := ⟨H6s.out.1.go hbx, H6s.out.2.2.1.grow hbx⟩; clear hbx H6s H6 x1 x2 x3 x4 x5 x6 x7 x8 x9 x10)
      go_wp2_with (go_at_call 11; refine (SpoilTa_keep _ _ _ H7.out.2).mono ?_; rintro r w8 ⟨rfl, hbx, hkx⟩; have H8 : Hid (St wL w8 w1.heap.size w2.heap.size y3 y4 y3 y4) := H7.out.1.spoil hbx hkx; clear hbx hkx H7)
      go_wp2_with (go_at_call 14; refine (HC1.out _ _ _ (H7.out.2.1.plain.below H8.out.below) (H7.out.2.2.plain.below H8.out.below)).mono ?_; rintro r w9 ⟨u, rfl, hr, ho, hbx⟩; obtain ⟨a9, d9, rfl⟩ := hr.len; have H9 : Hid (St wL w9 w1.heap.size w2.heap.size y3 y4 y3 y4 ∧ RowSl Ta.vals w9 mC (.slice a9 mC.length d9) ∧ OwnT wL.heap.size w9 (.slice a9 mC.length d9)) := ⟨H8.out.go hbx, hr, ho.low H8.out.below.size⟩; obtain ⟨x1, x2, x3, x4, x5⟩ := H9.out.1.cg; clear hr ho hbx H8)
      have H9s : Hid (St wL ((w9.setCell ⟨w1.heap.size, 0, none⟩ (.int .i64 y5)).setCell ⟨w1.heap.size, 1, none⟩ (.int .i64 y6)) w1.heap.size w2.heap.size y5 y6 y3 y4 ∧ RowSl Ta.vals ((w9.setCell ⟨w1.heap.size, 0, none⟩ (.int .i64 y5)).setCell ⟨w1.heap.size, 1, none⟩ (.int .i64 y6)) mC (.slice a9 mC.length d9) ∧ OwnT wL.heap.size ((w9.setCell ⟨w1.heap.size, 0, none⟩ (.int .i64 y5)).setCell ⟨w1.heap.size, 1, none⟩ (.int .i64 y6)) (.slice a9 mC.length d9)) := ⟨H9.out.1.setg _ _, H9.out.2.1.set2 H9.out.1.one, H9.out.2.2.set2 H9.out.1.one⟩
      go_wp2_with (go_at_call 15; refine (HC2.out _ _ _ (HV.out.2.2.1.below (below_seq H7.out.1 H9s.out.1.below)) (HV.out.2.2.2.below (below_seq H7.out.1 H9s.out.1.below))).mono ?_; rintro r w10 ⟨u, rfl, hr, hbx⟩; obtain ⟨a10, d10, rfl⟩ := hr.len; have H10 : Hid (St wL w10 w1.heap.size w2.heap.size y5 y6 y3 y4 ∧ RowSl Ta.vals w10 mC (.slice a9 mC.length d9) ∧ OwnT wL.heap.size w10 (.slice a9 mC.length d9) ∧ RowSl Ta.vals w10 mC (.slice a10 mC.length d10)) := ⟨H9s.out.1.go hbx, H9s.out.2.1.below hbx, H9s.out.2.2.grow hbx, hr⟩; clear x1 x2 x3 x4 x5; obtain ⟨x1, x2, x3, x4, x5⟩ := H10.out.1.cg; obtain ⟨x6, x7, x8, x9, x10⟩ := H10.out.1.ch; clear hr hbx H9s H9)
      have H10s : Hid (St wL ((w10.setCell ⟨w2.heap.size, 0, none⟩ (.int .i64 y5)).setCell ⟨w2.heap.size, 1, none⟩ (.int .i64 y6)) w1.heap.size w2.heap.size y5 y6 y5 y6 ∧ RowSl Ta.vals ((w10.setCell ⟨w2.heap.size, 0, none⟩ (.int .i64 y5)).setCell ⟨w2.heap.size, 1, none⟩ (.int .i64 y6)) mC (.slice a9 mC.length d9) ∧ OwnT wL.heap.size ((w10.setCell ⟨w2.heap.size, 0, none⟩ (.int .i64 y5)).setCell ⟨w2.heap.size, 1, none⟩ (.int .i64 y6)) (.slice a9 mC.length d9) ∧ RowSl Ta.vals ((w10.setCell ⟨w2.heap.size, 0, none⟩ (.int .i64 y5)).setCell ⟨w2.heap.size, 1, none⟩ (.int .i64 y6)) mC (.slice a10 mC.length d10)) := ⟨H10.out.1.seth _ _, H10.out.2.1.set2 H10.out.1.two, H10.out.2.2.1.set2 H10.out.1.two, H10.out.2.2.2.set2 H10.out.1.two⟩
      go_wp2_with (go_at_call 10; refine (SameTa_any _ mC _ _ (by omega) H10s.out.2.1 H10s.out.2.2.2).mono ?_; rintro r w11 ⟨rfl, hbx⟩; have H11 : Hid (St wL w11 w1.heap.size w2.heap.size y5 y6 y5 y6 ∧ OwnT wL.heap.size w11 (.slice a9 mC.length d9)) := ⟨H10s.out.1.go hbx, H10s.out.2.2.1.grow hbx⟩; clear hbx H10s H10 x1 x2 x3 x4 x5 x6 x7 x8 x9 x10)
      go_wp2_with (go_at_call 11; refine (SpoilTa_keep _ _ _ H11.out.2).mono ?_; rintro r w12 ⟨rfl, hbx, hkx⟩; have H12 : Hid (St wL w12 w1.heap.size w2.heap.size y5 y6 y5 y6) := H11.out.1.spoil hbx hkx; clear hbx hkx H11)
      go_roundw
      case rel => exact ⟨j + 1, by omega, by go_num, H12.out.below⟩
      case measure => simp [intOf]; omega
    · have hje : j = 2 := by omega
      subst hje
      obtain ⟨e0, e1, e2, e3, e4, e5, e6⟩ := HV.out.2.1.below (below_seq H7.out.1 HB.out)
      go_wp2_with (go_at_call 16; refine (HT _ l noT _ _ (by omega) (H7.out.2.1.below HB.out) (HV.out.2.2.1.below (below_seq H7.out.1 HB.out))).mono ?_; rintro r w13 ⟨rfl, hb13⟩; have H13 : Hid (Below w.heap.size w w13 ∧ Lent nuV w13 bs (-9) (.slice (some ⟨b8, o8, none⟩) bs.length c8)) := ⟨below_seq (below_seq H7.out.1 HB.out) hb13, H7.out.2.2.below (below_seq HB.out hb13)⟩; clear hb13 e0 e1 e2 e3 e4 e5 e6 HT)
      go_wp2_with (go_at_call 17; refine (StillN_any _ bs (-9) _ _ (by omega) H13.out.2 (HV.out.2.2.2.below H13.out.1)).mono ?_; rintro r w14 ⟨rfl, hb14⟩)
      go_ret
      exact ⟨rfl, below_seq H13.out.1 hb14⟩
end Go.Proofs.YtcgncdpohaoejafDoor
