import Derived.Test.YtcmoehednkaehadDoorGWV
namespace Go.Proofs.YtcmoehednkaehadDoor
open Go.ChangeShapes Go.WideShapes Go.ChangeAt Go.RowKit Go.Shelf

theorem HA17 (w : World) (l : List In) (iad : Option Addr) (ic : Nat) (hkk : KindsIn w) (hI : InSl w l (.slice iad l.length ic)) :
    (∃ c k : Int, ¬ c = 0 ∧ Calls Tryd.prog 17 #[.slice iad l.length ic] w fun r w' => r = .returned (.tuple #[.agg #[.int .i64 0, .slice none 0 0], .agg #[.int .i64 c, .int .i64 k]]) ∧ Below w.heap.size w w') ∨
    (checkI l = (0, 0) ∧ (∀ j, restF l j ≤ 1099511627776) ∧ Calls Tryd.prog 17 #[.slice iad l.length ic] w fun r w' => ∃ rb, r = .returned (.tuple #[.agg #[.int .i64 (restF l 0), .slice (some ⟨rb, 0, none⟩) l.length l.length], .agg #[.int .i64 0, .int .i64 0]]) ∧ (∀ j, j < l.length → w'.cell? ⟨rb, j, none⟩ = some (.int .i64 (restF l j))) ∧ Below w.heap.size w w') := by
  rcases hc : checkI l with ⟨c, k⟩
  by_cases hz : c = 0
  · have hc0 : checkI l = (0, 0) := check_zero (by rw [hc]; exact hz)
    by_cases hall : ∀ j, restF l j ≤ 1099511627776
    · refine .inr ⟨by rw [← hc, hc0], hall, (Analyse_good w l iad ic hkk hI hc0).mono ?_⟩
      rintro r w' ⟨hb, ⟨k', h1, h2, h3, h4⟩ | ⟨h1, rb, h2, h3, h4⟩⟩
      · exact absurd (hall k') (by omega)
      · exact ⟨rb, h3, h4, hb⟩
    · obtain ⟨kk, hkk'⟩ : ∃ kk : Nat, ∀ k' : Nat, k' < l.length → 1099511627776 < restF l k' → (∀ j, k' < j → restF l j ≤ 1099511627776) → k' = kk := by
        by_cases hex : ∃ k' : Nat, k' < l.length ∧ 1099511627776 < restF l k' ∧ ∀ j, k' < j → restF l j ≤ 1099511627776
        · obtain ⟨k0, a1, a2, a3⟩ := hex
          refine ⟨k0, fun k' b1 b2 b3 => ?_⟩
          by_cases hlt : k' < k0
          · have := b3 k0 hlt; omega
          · by_cases hgt : k0 < k'
            · have := a3 k' hgt; omega
            · omega
        · exact ⟨0, fun k' b1 b2 b3 => absurd ⟨k', b1, b2, b3⟩ hex⟩
      refine .inl ⟨3, kk, by decide, (Analyse_good w l iad ic hkk hI hc0).mono ?_⟩
      rintro r w' ⟨hb, ⟨k', h1, h2, h3, h4⟩ | ⟨h1, rb, h2, h3, h4⟩⟩
      · rw [← hkk' k' h1 h2 h3]; exact ⟨h4, hb⟩
      · exact absurd h1 hall
  · exact .inl ⟨c, k, hz, Analyse_bad w l iad ic hkk hI c k hc hz⟩

set_option maxRecDepth 20000 in
set_option maxHeartbeats 4000000 in
theorem least_long (w : World) (l : List In) (iad : Option Addr) (ic : Nat) (less : Int) (rad : Option Addr) (rn rc : Nat) (hkk : KindsIn w) (hl : 3000 < l.length) : Calls Tryd.prog 5 #[.slice iad l.length ic, .int .i64 less, .slice rad rn rc] w fun r w' => r = .returned (.bool true) ∧ Below w.heap.size w w' := by
  have HT := timed_any w hkk
  have hli : (3000 : Int) < (l.length : Int) := by omega
  clear hkk
  go_enter Tryd.func5, Tryd.ntmps5
  go_wp2_with (go_at_call 9; refine HT.mono ?_; rintro r w1 ⟨rfl, hb1⟩; have H1 : Hid (Below w.heap.size w w1) := hb1; clear hb1 HT)
  go_ret
  exact ⟨rfl, H1.out⟩

set_option maxRecDepth 20000 in
set_option maxHeartbeats 8000000 in
theorem least_walk (w : World) (l : List In) (iad : Option Addr) (ic : Nat) (less : Int) (rad : Option Addr) (rn rc : Nat) (R : Nat → Int) (hkk : KindsIn w) (hI : InSl w l (.slice iad l.length ic)) (hle : -9223372036854775808 ≤ less ∧ less ≤ 9223372036854775807) (hrc : rn ≤ rc) (hr : RowI w rad rn R) (hr0 : R rn = 0) : Calls Tryd.prog 5 #[.slice iad l.length ic, .int .i64 less, .slice rad rn rc] w fun r w' => r = .returned (.bool true) ∧ Below w.heap.size w w' := by
  by_cases hlong : 3000 < l.length
  · exact least_long w l iad ic less rad rn rc hkk hlong
  have hli : ¬ (3000 : Int) < (l.length : Int) := by omega
  have hli' : (l.length : Int) ≤ 3000 := by omega
  have HT := timed_any w hkk
  have HK : Hid (KindsIn w ∧ InSl w l (.slice iad l.length ic) ∧ RowI w rad rn R) := ⟨hkk, hI, hr⟩
  clear hkk hI hr
  go_enter Tryd.func5, Tryd.ntmps5
  go_wp2_with (go_at_call 9; refine HT.mono ?_; rintro r w1 ⟨rfl, hb1⟩; have H1 : Hid (Below w.heap.size w w1) := hb1; clear hb1 HT)
  rcases HA17 w1 l iad ic (HK.out.1.below H1.out) (HK.out.2.1.below H1.out) with ⟨c, k, h1, HA⟩ | ⟨hc, hall, HA⟩
  · have hcb : (c != 0) = true := by simpa using h1
    go_wp2_with (go_at_call 17; refine HA.mono ?_; rintro r w2 ⟨rfl, hb2⟩; have H2 : Hid (Below w.heap.size w w2) := below_seq H1.out hb2; clear hb2 HA)
    go_ret
    exact ⟨rfl, (H2.out.alloc H2.out.size _).alloc (by have := H2.out.size; simp; omega) _⟩
  · have hz0 : 0 ≤ restF l 0 := restF_pos (gl_of hc).fwd 0
    have hz1 := hall 0
    by_cases hl1 : less < 1
    · have hl1' : ¬ 1 ≤ less := by omega
      go_wp2_with (go_at_call 17; refine HA.mono ?_; rintro r w2 ⟨rb, rfl, hrow, hb2⟩; have H2 : Hid (Below w.heap.size w w2 ∧ ∀ j, j < l.length → w2.cell? ⟨rb, j, none⟩ = some (.int .i64 (restF l j))) := ⟨below_seq H1.out hb2, hrow⟩; clear hb2 HA hrow)
      have hW0 : restF l 0 - 1 < restF l 0 := by omega
      have hwr : IntKind.i64.wrap (restF l 0 - 1) = restF l 0 - 1 := by rw [IntKind.wrap_i64]; omega
      have HP1 : Hid (∀ W, Below w2.heap.size w2 W → Calls Tryd.prog 12 #[.slice iad l.length ic, .agg #[.int .i64 (restF l 0), .slice (some ⟨rb, 0, none⟩) l.length l.length]] W fun r w' => r = .returned (.bool true) ∧ Below W.heap.size W w') := fun W hW => Proves_self W l iad ic rb (HK.out.1.below (below_seq H2.out.1 hW)) (HK.out.2.1.below (below_seq H2.out.1 hW)) hc hall (fun j hj => below_cell hW (H2.out.2 j hj))
      have HP2 : Hid (∀ W, Below w2.heap.size w2 W → Calls Tryd.prog 12 #[.slice iad l.length ic, .agg #[.int .i64 (restF l 0 - 1), .slice (some ⟨rb, 0, none⟩) l.length l.length]] W fun r w' => r = .returned (.bool false) ∧ Below W.heap.size W w') := fun W hW => Proves_less W l iad ic _ _ l.length l.length (restF l) (HK.out.1.below (below_seq H2.out.1 hW)) (HK.out.2.1.below (below_seq H2.out.1 hW)) hc hW0 (Nat.le_refl _) (row_of (fun j hj => below_cell hW (H2.out.2 j hj))) (restF_out (Nat.le_refl _))
      have HP3 : Hid (∀ W, Below w2.heap.size w2 W → Calls Tryd.prog 12 #[.slice iad l.length ic, .agg #[.int .i64 (restF l 0 - 1), .slice rad rn rc]] W fun r w' => r = .returned (.bool false) ∧ Below W.heap.size W w') := fun W hW => Proves_less W l iad ic _ rad rn rc R (HK.out.1.below (below_seq H2.out.1 hW)) (HK.out.2.1.below (below_seq H2.out.1 hW)) hc hW0 hrc (HK.out.2.2.below (below_seq H2.out.1 hW)) hr0
      have HB0 : Hid (Below w2.heap.size w2 ((w2.alloc (.cells #[.int .i64 (restF l 0), .slice (some ⟨rb, 0, none⟩) l.length l.length] 31)).alloc (.cells #[.int .i64 0, .int .i64 0] 37))) := ((Below.refl _ _).alloc (Nat.le_refl _) _).alloc (by simp) _
      clear hall hc
      generalize restF l 0 = z at *
      go_wp2_with (go_at_call 12; refine (HP1.out _ HB0.out).mono ?_; rintro r w3 ⟨rfl, hb3⟩; have H3 : Hid (Below w2.heap.size w2 w3) := below_seq HB0.out hb3; have x0 : w3.cell? ⟨w2.heap.size, 0, none⟩ = some (.int .i64 z) := below_cell hb3 (by go_simp); have x1 : w3.cell? ⟨w2.heap.size, 1, none⟩ = some (.slice (some ⟨rb, 0, none⟩) l.length l.length) := below_cell hb3 (by go_simp); clear hb3 HP1)
      go_wp2_with (go_at_call 12; refine (HP2.out _ H3.out).mono ?_; rintro r w4 ⟨rfl, hb4⟩; have H4 : Hid (Below w2.heap.size w2 w4) := below_seq H3.out hb4; have y0 := below_cell hb4 x0; have y1 := below_cell hb4 x1; clear hb4 HP2)
      go_wp2_with (go_at_call 12; refine (HP3.out _ H4.out).mono ?_; rintro r w5 ⟨rfl, hb5⟩; have H5 : Hid (Below w2.heap.size w2 w5) := below_seq H4.out hb5; clear hb5 HP3)
      go_ret
      exact ⟨rfl, below_seq H2.out.1 H5.out⟩
    · have hl1' : 1 ≤ less := by omega
      go_wp2_with (go_at_call 17; refine HA.mono ?_; rintro r w2 ⟨rb, rfl, hrow, hb2⟩; have H2 : Hid (Below w.heap.size w w2 ∧ ∀ j, j < l.length → w2.cell? ⟨rb, j, none⟩ = some (.int .i64 (restF l j))) := ⟨below_seq H1.out hb2, hrow⟩; clear hb2 HA hrow)
      have hW0 : restF l 0 - less < restF l 0 := by omega
      have hwr : IntKind.i64.wrap (restF l 0 - less) = restF l 0 - less := by rw [IntKind.wrap_i64]; omega
      have HP1 : Hid (∀ W, Below w2.heap.size w2 W → Calls Tryd.prog 12 #[.slice iad l.length ic, .agg #[.int .i64 (restF l 0), .slice (some ⟨rb, 0, none⟩) l.length l.length]] W fun r w' => r = .returned (.bool true) ∧ Below W.heap.size W w') := fun W hW => Proves_self W l iad ic rb (HK.out.1.below (below_seq H2.out.1 hW)) (HK.out.2.1.below (below_seq H2.out.1 hW)) hc hall (fun j hj => below_cell hW (H2.out.2 j hj))
      have HP2 : Hid (∀ W, Below w2.heap.size w2 W → Calls Tryd.prog 12 #[.slice iad l.length ic, .agg #[.int .i64 (restF l 0 - less), .slice (some ⟨rb, 0, none⟩) l.length l.length]] W fun r w' => r = .returned (.bool false) ∧ Below W.heap.size W w') := fun W hW => Proves_less W l iad ic _ _ l.length l.length (restF l) (HK.out.1.below (below_seq H2.out.1 hW)) (HK.out.2.1.below (below_seq H2.out.1 hW)) hc hW0 (Nat.le_refl _) (row_of (fun j hj => below_cell hW (H2.out.2 j hj))) (restF_out (Nat.le_refl _))
      have HP3 : Hid (∀ W, Below w2.heap.size w2 W → Calls Tryd.prog 12 #[.slice iad l.length ic, .agg #[.int .i64 (restF l 0 - less), .slice rad rn rc]] W fun r w' => r = .returned (.bool false) ∧ Below W.heap.size W w') := fun W hW => Proves_less W l iad ic _ rad rn rc R (HK.out.1.below (below_seq H2.out.1 hW)) (HK.out.2.1.below (below_seq H2.out.1 hW)) hc hW0 hrc (HK.out.2.2.below (below_seq H2.out.1 hW)) hr0
      have HB0 : Hid (Below w2.heap.size w2 ((w2.alloc (.cells #[.int .i64 (restF l 0), .slice (some ⟨rb, 0, none⟩) l.length l.length] 31)).alloc (.cells #[.int .i64 0, .int .i64 0] 37))) := ((Below.refl _ _).alloc (Nat.le_refl _) _).alloc (by simp) _
      clear hall hc
      generalize restF l 0 = z at *
      go_wp2_with (go_at_call 12; refine (HP1.out _ HB0.out).mono ?_; rintro r w3 ⟨rfl, hb3⟩; have H3 : Hid (Below w2.heap.size w2 w3) := below_seq HB0.out hb3; have x0 : w3.cell? ⟨w2.heap.size, 0, none⟩ = some (.int .i64 z) := below_cell hb3 (by go_simp); have x1 : w3.cell? ⟨w2.heap.size, 1, none⟩ = some (.slice (some ⟨rb, 0, none⟩) l.length l.length) := below_cell hb3 (by go_simp); clear hb3 HP1)
      go_wp2_with (go_at_call 12; refine (HP2.out _ H3.out).mono ?_; rintro r w4 ⟨rfl, hb4⟩; have H4 : Hid (Below w2.heap.size w2 w4) := below_seq H3.out hb4; have y0 := below_cell hb4 x0; have y1 := below_cell hb4 x1; clear hb4 HP2)
      go_wp2_with (go_at_call 12; refine (HP3.out _ H4.out).mono ?_; rintro r w5 ⟨rfl, hb5⟩; have H5 : Hid (Below w2.heap.size w2 w5) := below_seq H4.out hb5; clear hb5 HP3)
      go_ret
      exact ⟨rfl, below_seq H2.out.1 H5.out⟩

end Go.Proofs.YtcmoehednkaehadDoor
