import Derived.Test.YtgemadoieielcacDoorGYH
namespace Go.Proofs.YtgemadoieielcacDoor
open Go.ChangeShapes Go.WideShapes Go.ChangeAt Go.RowKit Go.Shelf

theorem keepV {w1 W W' : World} {g rb : Nat} {v0 v1 v2 v3 v4 : Value} (hb : Below W.heap.size W W') (h : Below w1.heap.size w1 W ∧ W.cell? ⟨g, 0, none⟩ = some v0 ∧ W.cell? ⟨g, 1, none⟩ = some v1 ∧ W.cell? ⟨g + 1, 0, none⟩ = some v2 ∧ W.cell? ⟨g + 1, 1, none⟩ = some v3 ∧ W.cell? ⟨rb, 9, none⟩ = some v4) :
    Below w1.heap.size w1 W' ∧ W'.cell? ⟨g, 0, none⟩ = some v0 ∧ W'.cell? ⟨g, 1, none⟩ = some v1 ∧ W'.cell? ⟨g + 1, 0, none⟩ = some v2 ∧ W'.cell? ⟨g + 1, 1, none⟩ = some v3 ∧ W'.cell? ⟨rb, 9, none⟩ = some v4 :=
  ⟨below_seq h.1 hb, below_cell hb h.2.1, below_cell hb h.2.2.1, below_cell hb h.2.2.2.1, below_cell hb h.2.2.2.2.1, below_cell hb h.2.2.2.2.2⟩

theorem image_ten (w : World) : Calls Tryd.prog 20 #[] w fun r w' => ∃ b, r = .returned (.slice (some ⟨b, 0, none⟩) 10 10) ∧ InSl w' imageL (.slice (some ⟨b, 0, none⟩) 10 10) ∧ Below w.heap.size w w' := image_any w

theorem Analyse_image (w : World) (b : Nat) (hkk : KindsIn w) (hI : InSl w imageL (.slice (some ⟨b, 0, none⟩) 10 10)) : Calls Tryd.prog 45 #[.slice (some ⟨b, 0, none⟩) 10 10] w fun r w' => ∃ rb, r = .returned (.tuple #[.agg #[.int .i64 28, .slice (some ⟨rb, 0, none⟩) 10 10], .agg #[.int .i64 0, .int .i64 0]]) ∧ (∀ j, j < 10 → w'.cell? ⟨rb, j, none⟩ = some (.int .i64 (restF imageL j))) ∧ Below w.heap.size w w' := by
  refine (Analyse_good w imageL (some ⟨b, 0, none⟩) 10 hkk hI checkI_image).mono ?_
  rintro r w' ⟨hb, ⟨k', h1, h2, h3, h4⟩ | ⟨h1, rb, h2, h3, h4⟩⟩
  · have := rest_small k' h1
    omega
  · rw [rest_image.1] at h3
    exact ⟨rb, h3, h4.1, hb⟩

theorem Proves_image (w : World) (b rb : Nat) (x : Int) (hkk : KindsIn w) (hI : InSl w imageL (.slice (some ⟨b, 0, none⟩) 10 10)) (hr : ∀ j, j < 10 → w.cell? ⟨rb, j, none⟩ = some (.int .i64 (restF imageL j))) : Calls Tryd.prog 75 #[.slice (some ⟨b, 0, none⟩) 10 10, .agg #[.int .i64 x, .slice (some ⟨rb, 0, none⟩) 10 10]] w fun r w' => r = .returned (.bool (decide (28 ≤ x))) ∧ Below w.heap.size w w' := by
  refine (Proves_any w imageL (some ⟨b, 0, none⟩) 10 x (some ⟨rb, 0, none⟩) 10 10 (restF imageL) hkk hI (Nat.le_refl _) (row_of (l := imageL) hr) rest_image.2.2).mono ?_
  rintro r w' ⟨v, rfl, hv, hb⟩
  have hall : ∀ j, restF imageL j ≤ 1099511627776 := fun j => by
    by_cases hj : j < 10
    · have := rest_small j hj; omega
    · rw [restF_out (l := imageL) (show 10 ≤ j by omega)]; omega
  have h1 := pv_self checkI_image hall
  have e : v = decide (28 ≤ x) := by
    by_cases hx : 28 ≤ x
    · rw [decide_eq_true hx]
      exact hv.2 ⟨h1.ok, h1.len, h1.rng, h1.rul, by rw [rest_image.1]; exact hx⟩
    · rw [decide_eq_false hx]
      rcases v with _ | _
      · rfl
      · have := pv_least checkI_image rest_image.2.2 (hv.1 rfl)
        rw [rest_image.1] at this
        omega
  rw [e]
  exact ⟨rfl, hb⟩

set_option maxRecDepth 20000 in
set_option maxHeartbeats 4000000 in
theorem timed_any (w : World) (hkk : KindsIn w) : Calls Tryd.prog 42 #[] w fun r w' => r = .returned (.bool true) ∧ Below w.heap.size w w' := by
  have HK : Hid (KindsIn w) := hkk
  clear hkk
  go_enter Tryd.func42, Tryd.ntmps42
  go_wp2_with (go_at_call 20; refine (image_ten _).mono ?_; rintro r w1 ⟨ib, rfl, hsl1, hb1⟩; have H1 : Hid (Below w.heap.size w w1) := hb1; have HA := Analyse_image w1 ib (HK.out.below hb1) hsl1; clear hb1 hsl1)
  go_wp2_with (go_at_call 45; refine HA.mono ?_; rintro r w2 ⟨rb, rfl, hrow, hb2⟩; have H2 : Hid (Below w.heap.size w w2 ∧ ∀ j, j < 10 → w2.cell? ⟨rb, j, none⟩ = some (.int .i64 (restF imageL j))) := ⟨below_seq H1.out hb2, hrow⟩; have r9 := hrow 9 (by decide); rw [rest_image.2.1] at r9; clear hrow hb2 HA)
  have hB3 : Below w2.heap.size w2 ((w2.alloc (.cells #[.int .i64 28, .slice (some ⟨rb, 0, none⟩) 10 10] 77)).alloc (.cells #[.int .i64 0, .int .i64 0] 30)) := ((Below.refl _ _).alloc (Nat.le_refl _) _).alloc (by simp) _
  have y0 : ((w2.alloc (.cells #[.int .i64 28, .slice (some ⟨rb, 0, none⟩) 10 10] 77)).alloc (.cells #[.int .i64 0, .int .i64 0] 30)).cell? ⟨w2.heap.size, 0, none⟩ = some (.int .i64 28) := by go_simp
  have y1 : ((w2.alloc (.cells #[.int .i64 28, .slice (some ⟨rb, 0, none⟩) 10 10] 77)).alloc (.cells #[.int .i64 0, .int .i64 0] 30)).cell? ⟨w2.heap.size, 1, none⟩ = some (.slice (some ⟨rb, 0, none⟩) 10 10) := by go_simp
  have y2 : ((w2.alloc (.cells #[.int .i64 28, .slice (some ⟨rb, 0, none⟩) 10 10] 77)).alloc (.cells #[.int .i64 0, .int .i64 0] 30)).cell? ⟨w2.heap.size + 1, 0, none⟩ = some (.int .i64 0) := by go_simp
  have y3 : ((w2.alloc (.cells #[.int .i64 28, .slice (some ⟨rb, 0, none⟩) 10 10] 77)).alloc (.cells #[.int .i64 0, .int .i64 0] 30)).cell? ⟨w2.heap.size + 1, 1, none⟩ = some (.int .i64 0) := by go_simp
  generalize ((w2.alloc (.cells #[.int .i64 28, .slice (some ⟨rb, 0, none⟩) 10 10] 77)).alloc (.cells #[.int .i64 0, .int .i64 0] 30)) = w3 at *
  have y4 := below_cell hB3 r9
  have HP : Hid (∀ W b x, Below w3.heap.size w3 W → InSl W imageL (.slice (some ⟨b, 0, none⟩) 10 10) → Calls Tryd.prog 75 #[.slice (some ⟨b, 0, none⟩) 10 10, .agg #[.int .i64 x, .slice (some ⟨rb, 0, none⟩) 10 10]] W fun r w' => r = .returned (.bool (decide (28 ≤ x))) ∧ Below W.heap.size W w') := fun W b x hW hI => Proves_image W b rb x (HK.out.below (below_seq H2.out.1 (below_seq hB3 hW))) hI (fun j hj => below_cell (below_seq hB3 hW) (H2.out.2 j hj))
  have H3 : Hid (Below w.heap.size w w3) := below_seq H2.out.1 hB3
  clear r9 hB3 H1 H2
  go_region_held3 (fun w' => Below w3.heap.size w3 w' ∧ w'.cell? ⟨w2.heap.size, 0, none⟩ = some (.int .i64 28) ∧ w'.cell? ⟨w2.heap.size, 1, none⟩ = some (.slice (some ⟨rb, 0, none⟩) 10 10) ∧ w'.cell? ⟨w2.heap.size + 1, 0, none⟩ = some (.int .i64 0) ∧ w'.cell? ⟨w2.heap.size + 1, 1, none⟩ = some (.int .i64 0) ∧ w'.cell? ⟨rb, 9, none⟩ = some (.int .i64 2))
    (first | assumption | exact ⟨(Below.refl _ _).drew, y0, y1, y2, y3, y4⟩)
    (first
      | (go_at_call 20; refine (image_ten _).mono ?_; rintro r wi ⟨ibk, rfl, hsl, hbi⟩; have hSi := keepV hbi ‹Below w3.heap.size w3 _ ∧ _›; have HI : Hid (InSl wi imageL (.slice (some ⟨ibk, 0, none⟩) 10 10)) := hsl; clear hbi hsl)
      | (go_at_call 75; refine (HP.out _ _ _ (And.left ‹Below w3.heap.size w3 _ ∧ _›) HI.out).mono ?_; rintro r wp ⟨rfl, hbp⟩; have hSp := keepV hbp ‹Below w3.heap.size w3 _ ∧ _›; clear hbp))
  all_goals
    obtain ⟨hB, -⟩ := ‹Below w3.heap.size w3 _ ∧ _›
    have HB : Hid _ := below_seq H3.out hB
    clear hB
    go_wp2_with fail
    go_ret
    exact ⟨rfl, HB.out⟩

end Go.Proofs.YtgemadoieielcacDoor
