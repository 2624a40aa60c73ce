import Derived.Test.YtgemadoieielcacDoorGCO
namespace Go.Proofs.YtgemadoieielcacDoor.B
open Go.ChangeShapes Go.WideShapes Go.ChangeAt Go.RowKit

set_option maxRecDepth 20000 in
set_option maxHeartbeats 4000000 in
theorem piece6_any (N : Nat) (hL : PcsC N) (w : World) (e ca cb : Ex) (y l : List St) (n ek en ck ak an bk bn : Int) (ead aad bad yad lad : Option Addr) (em ec am ac bm bc yc lc : Nat) (loops : Int) (i4 : St.Sl w y (.slice yad y.length yc)) (hly : St.LayAll y)  (hN : 1 + e.nodes + ca.nodes + cb.nodes + St.bulkAll y + St.bulkAll l ≤ N + 1) (hN2 : 1 + e.nodes + ca.nodes + cb.nodes + St.bulkAll y + St.bulkAll l ≤ 20000) (hlo : 0 ≤ loops ∧ loops + (1 + e.nodes + ca.nodes + cb.nodes + St.bulkAll y + St.bulkAll l : Nat) ≤ 1000000) :
    Calls Tryd.prog 100 #[.agg #[.int .i64 6, .int .i64 n, .int .i64 ek, .int .i64 en, .slice ead em ec, .int .i64 ck, .int .i64 ak, .int .i64 an, .slice aad am ac, .int .i64 bk, .int .i64 bn, .slice bad bm bc, .slice yad y.length yc, .slice lad l.length lc], .int .i64 loops] w fun r w' => ∃ v', r = .returned v' ∧ Ow w' w.heap.size v' (jn [⟨16, n, 0⟩] (St.pcAll y loops) ++ [⟨17, n, 0⟩]) ∧ Below w.heap.size w w' := by
  have hB1 : Below w.heap.size w (w.alloc (.cells #[.int .i64 6, .int .i64 n, .int .i64 ek, .int .i64 en, .slice ead em ec, .int .i64 ck, .int .i64 ak, .int .i64 an, .slice aad am ac, .int .i64 bk, .int .i64 bn, .slice bad bm bc, .slice yad y.length yc, .slice lad l.length lc] 123)) := below_new _ _
  have hk1 := heap_alloc_new w (.cells #[.int .i64 6, .int .i64 n, .int .i64 ek, .int .i64 en, .slice ead em ec, .int .i64 ck, .int .i64 ak, .int .i64 an, .slice aad am ac, .int .i64 bk, .int .i64 bn, .slice bad bm bc, .slice yad y.length yc, .slice lad l.length lc] 123)
  have hs1 : (w.alloc (.cells #[.int .i64 6, .int .i64 n, .int .i64 ek, .int .i64 en, .slice ead em ec, .int .i64 ck, .int .i64 ak, .int .i64 an, .slice aad am ac, .int .i64 bk, .int .i64 bn, .slice bad bm bc, .slice yad y.length yc, .slice lad l.length lc] 123)).heap.size = w.heap.size + 1 := by simp
  have p8 := Ex.nodes_pos e
  obtain ⟨i0, hi0, hz0, hz1, hz2⟩ := info_parts infoN
  have HPy : Hid (∀ W, Below (w.alloc (.cells #[.int .i64 6, .int .i64 n, .int .i64 ek, .int .i64 en, .slice ead em ec, .int .i64 ck, .int .i64 ak, .int .i64 an, .slice aad am ac, .int .i64 bk, .int .i64 bn, .slice bad bm bc, .slice yad y.length yc, .slice lad l.length lc] 123)).heap.size (w.alloc (.cells #[.int .i64 6, .int .i64 n, .int .i64 ek, .int .i64 en, .slice ead em ec, .int .i64 ck, .int .i64 ak, .int .i64 an, .slice aad am ac, .int .i64 bk, .int .i64 bn, .slice bad bm bc, .slice yad y.length yc, .slice lad l.length lc] 123)) W → Calls Tryd.prog 64 #[.slice yad y.length yc, .int .i64 loops] W fun r w' => ∃ v', r = .returned v' ∧ Ow w' W.heap.size v' (St.pcAll y loops) ∧ Below W.heap.size W w') := fun W hW => hL y W _ loops (by omega) (by omega) (i4.below (below_seq hB1 hW)) hly (by omega)
  have hyl := St.pcAll_len y loops
  have HJ : Hid (JB (St.pcAll y loops).length (St.pcAll y loops)) := St.pcAll_jb y loops hly
  obtain ⟨A, hA⟩ : ∃ A, St.pcAll y loops = A := ⟨_, rfl⟩
  rw [hA] at HPy hyl HJ ⊢
  have hAb : A.length ≤ 160000 := by omega
  clear i4 hly hL hA
  go_enter Tryd.func100, Tryd.ntmps100
  go_wp2_with fail
  obtain ⟨W1, hW1⟩ : ∃ W1, w.alloc (.cells #[.int .i64 6, .int .i64 n, .int .i64 ek, .int .i64 en, .slice ead em ec, .int .i64 ck, .int .i64 ak, .int .i64 an, .slice aad am ac, .int .i64 bk, .int .i64 bn, .slice bad bm bc, .slice yad y.length yc, .slice lad l.length lc] 123) = W1 := ⟨_, rfl⟩
  rw [hW1] at hB1 hk1 hs1 HPy ⊢
  obtain ⟨d1, e1, l1⟩ := cells_of (l := [_, _, _, _, _, _, _, _, _, _, _, _, _, _]) hk1
  have x0 := d1 0 _ rfl
  have x1 := d1 1 _ rfl
  have x5 := d1 5 _ rfl
  have x6 := d1 6 _ rfl
  have x7 := d1 7 _ rfl
  have x8 := d1 8 _ rfl
  have x9 := d1 9 _ rfl
  have x10 := d1 10 _ rfl
  have x11 := d1 11 _ rfl
  have x12 := d1 12 _ rfl
  have HX : Hid (Below w.heap.size w W1 ∧ W1.heap.size = w.heap.size + 1) := ⟨hB1, hs1⟩
  have HXC : Hid (W1.cell? ⟨w.heap.size, 0, none⟩ = some (.int .i64 6) ∧ W1.cell? ⟨w.heap.size, 1, none⟩ = some (.int .i64 n)) := ⟨x0, x1⟩
  clear hW1 d1 e1 hk1 hB1 hs1
  refine wp_region_noPanic ?_
  refine wp_region_held_drew (S := fun w' => Below W1.heap.size W1 w' ∧ w'.cell? ⟨w.heap.size, 1, none⟩ = some (.int .i64 n) ∧ w'.cell? ⟨w.heap.size, 12, none⟩ = some (.slice yad y.length yc)) (by kernel_rfl) ⟨(Below.refl _ _).drew, x1, x12⟩ (fun hHeld => ?_)
  refine take_at (i := 0) (n := 143) (v := ?_) rfl rfl (by kernel_rfl) (by kernel_rfl) (by kernel_rfl) (fun _ _ _ h => h) (Or.inl ⟨by rfl, ?_⟩) (by assumption) ?_
  rotate_left 1
  · intro wz hSw
    obtain ⟨-, s0, s1⟩ := hSw
    first | (go_simp; done) | (go_simp; with_reducible rfl)
  simp only [List.set_cons_zero, List.set_cons_succ]
  refine take_at (i := 1) (n := 144) (v := ?_) rfl rfl (by kernel_rfl) (by kernel_rfl) (by kernel_rfl) (fun _ _ _ h => h) (Or.inl ⟨by rfl, ?_⟩) (by assumption) ?_
  rotate_left 1
  · intro wz hSw
    obtain ⟨-, s0, s1⟩ := hSw
    first | (go_simp; done) | (go_simp; with_reducible rfl)
  simp only [List.set_cons_zero, List.set_cons_succ]
  refine take_at (i := 2) (n := 145) (v := ?_) rfl rfl (by kernel_rfl) (by kernel_rfl) (by kernel_rfl) (fun _ _ _ h => h) (Or.inl ⟨by rfl, ?_⟩) (by assumption) ?_
  rotate_left 1
  · intro wz hSw
    obtain ⟨-, s0, s1⟩ := hSw
    first | (go_simp; done) | (go_simp; with_reducible rfl)
  simp only [List.set_cons_zero, List.set_cons_succ]
  refine take_at (i := 4) (n := 147) (v := ?_) rfl rfl (by kernel_rfl) (by kernel_rfl) (by kernel_rfl) (fun _ _ _ h => h) (Or.inl ⟨by rfl, ?_⟩) (by assumption) ?_
  rotate_left 1
  · intro wz hSw
    obtain ⟨-, s0, s1⟩ := hSw
    first | (go_simp; done) | (go_simp; with_reducible rfl)
  simp only [List.set_cons_zero, List.set_cons_succ]
  refine take_at (i := 5) (n := 148) (v := ?_) rfl rfl (by kernel_rfl) (by kernel_rfl) (by kernel_rfl) (fun _ _ _ h => h) (Or.inl ⟨by rfl, ?_⟩) (by assumption) ?_
  rotate_left 1
  · intro wz hSw
    obtain ⟨-, s0, s1⟩ := hSw
    first | (go_simp; done) | (go_simp; with_reducible rfl)
  simp only [List.set_cons_zero, List.set_cons_succ]
  refine take_at (i := 6) (n := 149) (v := ?_) rfl rfl (by kernel_rfl) (by kernel_rfl) (by kernel_rfl) (fun _ _ _ h => h) (Or.inl ⟨by rfl, ?_⟩) (by assumption) ?_
  rotate_left 1
  · intro wz hSw
    obtain ⟨-, s0, s1⟩ := hSw
    first | (go_simp; done) | (go_simp; with_reducible rfl)
  simp only [List.set_cons_zero, List.set_cons_succ]
  refine take_at (i := 9) (n := 152) (v := ?_) rfl rfl (by kernel_rfl) (by kernel_rfl) (by kernel_rfl) (fun _ _ _ h => h) (Or.inl ⟨by rfl, ?_⟩) (by assumption) ?_
  rotate_left 1
  · intro wz hSw
    obtain ⟨-, s0, s1⟩ := hSw
    first | (go_simp; done) | (go_simp; with_reducible rfl)
  simp only [List.set_cons_zero, List.set_cons_succ]
  refine take_at (i := 10) (n := 153) (v := ?_) rfl rfl (by kernel_rfl) (by kernel_rfl) (by kernel_rfl) (fun _ _ _ h => h) (Or.inl ⟨by rfl, ?_⟩) (by assumption) ?_
  rotate_left 1
  · intro wz hSw
    obtain ⟨-, s0, s1⟩ := hSw
    first | (go_simp; done) | (go_simp; with_reducible rfl)
  simp only [List.set_cons_zero, List.set_cons_succ]
  refine take_at (i := 11) (n := 154) (v := ?_) rfl rfl (by kernel_rfl) (by kernel_rfl) (by kernel_rfl) (fun _ _ _ h => h) (Or.inl ⟨by rfl, ?_⟩) (by assumption) ?_
  rotate_left 1
  · intro wz hSw
    obtain ⟨-, s0, s1⟩ := hSw
    first | (go_simp; done) | (go_simp; with_reducible rfl)
  simp only [List.set_cons_zero, List.set_cons_succ]
  refine wpAnyH_ready (rs := [3, 7, 12]) (by kernel_rfl) (by simp) ?_
  refine AllReadyH.cons rfl (fun K hK => ?_) (AllReadyH.cons rfl (fun K hK => ?_) (AllReadyH.cons rfl (fun K hK => ?_) AllReadyH.nil))
  · go_simp
    have hbP := below_new W1.drew (.cells #[.int .i64 16, .int .i64 n, .int .i64 0] 35)
    have hoP : Ow (W1.drew.alloc (.cells #[.int .i64 16, .int .i64 n, .int .i64 0] 35)) W1.heap.size (.slice (some ⟨W1.drew.heap.size, 0, none⟩) 1 1) [⟨16, n, 0⟩] := (Ow.lit W1.drew [⟨16, n, 0⟩] _ rfl (by simp)).low hHeld.1.size
    refine hK.out _ _ ⟨below_seq hHeld.1 hbP, below_cell hbP hHeld.2.1, below_cell hbP hHeld.2.2⟩ (fun hHeld => ?_)
    clear hK K
    refine wpAnyH_ready (rs := [7, 12]) (by kernel_rfl) (by simp) ?_
    refine AllReadyH.cons rfl (fun K hK => ?_) (AllReadyH.cons rfl (fun K hK => ?_) AllReadyH.nil)
    · go_simp
      refine (HPy.out _ hHeld.1).mono ?_
      rintro r wA ⟨vA, rfl, hoA, hbA⟩
      obtain ⟨adA, cA, hvA⟩ := hoA.shape
      subst hvA
      have hoP := hoP.below hbA
      have hoA := hoA.low (B' := W1.heap.size) hHeld.1.size
      refine hK.out _ _ ⟨below_seq hHeld.1 hbA, below_cell hbA hHeld.2.1, below_cell hbA hHeld.2.2⟩ (fun hHeld => ?_)
      clear hK K
      refine wpAnyH_ready (rs := [8, 12]) (by kernel_rfl) (by simp) ?_
      refine AllReadyH.cons rfl (fun K hK => ?_) (AllReadyH.cons rfl (fun K hK => ?_) AllReadyH.nil)
      · go_simp
        refine (join_any _ [⟨16, n, 0⟩] A _ _ W1.heap.size hoP hoA.sl (HJ.out.mono (by omega)) (by simp; omega)).mono ?_
        rintro r wJ ⟨vJ, rfl, hoJ, hbJ⟩
        obtain ⟨adJ, cJ, hvJ⟩ := hoJ.shape
        subst hvJ
        have hoP := hoP.below hbJ
        have hoA := hoA.below hbJ
        have hoJ := hoJ.low (B' := W1.heap.size) hHeld.1.size
        refine hK.out _ _ ⟨below_seq hHeld.1 hbJ, below_cell hbJ hHeld.2.1, below_cell hbJ hHeld.2.2⟩ (fun hHeld => ?_)
        clear hK K
        refine wpAnyH_ready (rs := [12]) (by kernel_rfl) (by simp) ?_
        refine AllReadyH.cons rfl (fun K hK => ?_) AllReadyH.nil
        · go_simp
          have hbQ := below_new wJ (.cells #[.int .i64 17, .int .i64 n, .int .i64 0] 35)
          have hoP := hoP.below hbQ
          have hoA := hoA.below hbQ
          have hoJ := hoJ.below hbQ
          have hoQ : Ow (wJ.alloc (.cells #[.int .i64 17, .int .i64 n, .int .i64 0] 35)) W1.heap.size (.slice (some ⟨wJ.heap.size, 0, none⟩) 1 1) [⟨17, n, 0⟩] := (Ow.lit wJ [⟨17, n, 0⟩] _ rfl (by simp)).low hHeld.1.size
          refine hK.out _ _ ⟨below_seq hHeld.1 hbQ, below_cell hbQ hHeld.2.1, below_cell hbQ hHeld.2.2⟩ (fun hHeld => ?_)
          clear hK K
          refine wpAnyH_ready (rs := [13]) (by kernel_rfl) (by simp) ?_
          refine AllReadyH.cons rfl (fun K hK => ?_) AllReadyH.nil
          · obtain ⟨v6, w6, hrun, ho6, hg6, -⟩ := append_two (P := Tryd.prog) (wJ.alloc (.cells #[.int .i64 17, .int .i64 n, .int .i64 0] 35)) _ _ 22 22 35 i0 _ 3 24 Tryd.underlying22 hi0 hz0 hz1 hz2 rfl (by decide) _ _ (insVs (jn [⟨16, n, 0⟩] A)) hoJ _ _ (insVs [⟨17, n, 0⟩]) hoQ (insVs_one _) (by simp only [List.length_cons, List.length_nil, jn_len]; unfold maxLen; omega) (by simp only [List.length_cons, List.length_nil, jn_len]; omega) hHeld.1.size
            obtain ⟨ad6, c6, rfl⟩ := owns_value ho6
            refine region_append rfl (.tmp 151) (.tmp 155) 22 rfl rfl rfl hrun ?_
            have hB6 : Below W1.heap.size W1 w6 := hHeld.1.grown hg6 hHeld.1.size (fun k hk => (hoJ.lt k hk).1)
            refine hK.out _ _ ⟨hB6, below_cell hB6 x1, below_cell hB6 x12⟩ (fun hHeld => ?_)
            clear hK K
            simp only [Act.put, List.setIfInBounds_toArray]
            refine take_at (i := 14) (n := 4) (v := ?_) rfl rfl (by kernel_rfl) (by kernel_rfl) (by kernel_rfl) (fun _ _ _ h => h) (Or.inl ⟨by rfl, ?_⟩) (by assumption) ?_
            rotate_left 1
            · intro wz hSw
              obtain ⟨-, s0, s1⟩ := hSw
              first | (go_simp; done) | (go_simp; with_reducible rfl)
            simp only [List.set_cons_zero, List.set_cons_succ]
            refine wpAnyH_done (by kernel_rfl) ?_ _
            refine NoPanic.normal ?_
            have H6 : Hid (w6.ownsRow W1.heap.size 35 3 (.slice ad6 ((jn [⟨16, n, 0⟩] A).length + [(⟨17, n, 0⟩ : Io)].length) c6) ((jn [⟨16, n, 0⟩] A).length + [(⟨17, n, 0⟩ : Io)].length) (insVs (jn [⟨16, n, 0⟩] A) ++ insVs [⟨17, n, 0⟩]) ∧ Below W1.heap.size W1 w6) := ⟨ho6, hHeld.1⟩
            go_wp2_with fail
            go_ret
            refine ⟨_, rfl, ?_, below_seq HX.out.1 H6.out.2⟩
            refine Ow.low (B := W1.heap.size) ?_ (by have := HX.out.2; omega)
            unfold Ow
            rw [List.length_append, insVs_append]
            exact H6.out.1
      · go_simp
        have hbQ := below_new wA (.cells #[.int .i64 17, .int .i64 n, .int .i64 0] 35)
        have hoP := hoP.below hbQ
        have hoA := hoA.below hbQ
        have hoQ : Ow (wA.alloc (.cells #[.int .i64 17, .int .i64 n, .int .i64 0] 35)) W1.heap.size (.slice (some ⟨wA.heap.size, 0, none⟩) 1 1) [⟨17, n, 0⟩] := (Ow.lit wA [⟨17, n, 0⟩] _ rfl (by simp)).low hHeld.1.size
        refine hK.out _ _ ⟨below_seq hHeld.1 hbQ, below_cell hbQ hHeld.2.1, below_cell hbQ hHeld.2.2⟩ (fun hHeld => ?_)
        clear hK K
        refine wpAnyH_ready (rs := [8]) (by kernel_rfl) (by simp) ?_
        refine AllReadyH.cons rfl (fun K hK => ?_) AllReadyH.nil
        · go_simp
          refine (join_any _ [⟨16, n, 0⟩] A _ _ W1.heap.size hoP hoA.sl (HJ.out.mono (by omega)) (by simp; omega)).mono ?_
          rintro r wJ ⟨vJ, rfl, hoJ, hbJ⟩
          obtain ⟨adJ, cJ, hvJ⟩ := hoJ.shape
          subst hvJ
          have hoP := hoP.below hbJ
          have hoA := hoA.below hbJ
          have hoQ := hoQ.below hbJ
          have hoJ := hoJ.low (B' := W1.heap.size) hHeld.1.size
          refine hK.out _ _ ⟨below_seq hHeld.1 hbJ, below_cell hbJ hHeld.2.1, below_cell hbJ hHeld.2.2⟩ (fun hHeld => ?_)
          clear hK K
          refine wpAnyH_ready (rs := [13]) (by kernel_rfl) (by simp) ?_
          refine AllReadyH.cons rfl (fun K hK => ?_) AllReadyH.nil
          · obtain ⟨v6, w6, hrun, ho6, hg6, -⟩ := append_two (P := Tryd.prog) wJ _ _ 22 22 35 i0 _ 3 24 Tryd.underlying22 hi0 hz0 hz1 hz2 rfl (by decide) _ _ (insVs (jn [⟨16, n, 0⟩] A)) hoJ _ _ (insVs [⟨17, n, 0⟩]) hoQ (insVs_one _) (by simp only [List.length_cons, List.length_nil, jn_len]; unfold maxLen; omega) (by simp only [List.length_cons, List.length_nil, jn_len]; omega) hHeld.1.size
            obtain ⟨ad6, c6, rfl⟩ := owns_value ho6
            refine region_append rfl (.tmp 151) (.tmp 155) 22 rfl rfl rfl hrun ?_
            have hB6 : Below W1.heap.size W1 w6 := hHeld.1.grown hg6 hHeld.1.size (fun k hk => (hoJ.lt k hk).1)
            refine hK.out _ _ ⟨hB6, below_cell hB6 x1, below_cell hB6 x12⟩ (fun hHeld => ?_)
            clear hK K
            simp only [Act.put, List.setIfInBounds_toArray]
            refine take_at (i := 14) (n := 4) (v := ?_) rfl rfl (by kernel_rfl) (by kernel_rfl) (by kernel_rfl) (fun _ _ _ h => h) (Or.inl ⟨by rfl, ?_⟩) (by assumption) ?_
            rotate_left 1
            · intro wz hSw
              obtain ⟨-, s0, s1⟩ := hSw
              first | (go_simp; done) | (go_simp; with_reducible rfl)
            simp only [List.set_cons_zero, List.set_cons_succ]
            refine wpAnyH_done (by kernel_rfl) ?_ _
            refine NoPanic.normal ?_
            have H6 : Hid (w6.ownsRow W1.heap.size 35 3 (.slice ad6 ((jn [⟨16, n, 0⟩] A).length + [(⟨17, n, 0⟩ : Io)].length) c6) ((jn [⟨16, n, 0⟩] A).length + [(⟨17, n, 0⟩ : Io)].length) (insVs (jn [⟨16, n, 0⟩] A) ++ insVs [⟨17, n, 0⟩]) ∧ Below W1.heap.size W1 w6) := ⟨ho6, hHeld.1⟩
            go_wp2_with fail
            go_ret
            refine ⟨_, rfl, ?_, below_seq HX.out.1 H6.out.2⟩
            refine Ow.low (B := W1.heap.size) ?_ (by have := HX.out.2; omega)
            unfold Ow
            rw [List.length_append, insVs_append]
            exact H6.out.1
    · go_simp
      have hbQ := below_new (W1.drew.alloc (.cells #[.int .i64 16, .int .i64 n, .int .i64 0] 35)) (.cells #[.int .i64 17, .int .i64 n, .int .i64 0] 35)
      have hoP := hoP.below hbQ
      have hoQ : Ow ((W1.drew.alloc (.cells #[.int .i64 16, .int .i64 n, .int .i64 0] 35)).alloc (.cells #[.int .i64 17, .int .i64 n, .int .i64 0] 35)) W1.heap.size (.slice (some ⟨W1.heap.size + 1, 0, none⟩) 1 1) [⟨17, n, 0⟩] := (Ow.lit (W1.drew.alloc (.cells #[.int .i64 16, .int .i64 n, .int .i64 0] 35)) [⟨17, n, 0⟩] _ (by simp) (by simp)).low hHeld.1.size
      refine hK.out _ _ ⟨below_seq hHeld.1 hbQ, below_cell hbQ hHeld.2.1, below_cell hbQ hHeld.2.2⟩ (fun hHeld => ?_)
      clear hK K
      refine wpAnyH_ready (rs := [7]) (by kernel_rfl) (by simp) ?_
      refine AllReadyH.cons rfl (fun K hK => ?_) AllReadyH.nil
      · go_simp
        refine (HPy.out _ hHeld.1).mono ?_
        rintro r wA ⟨vA, rfl, hoA, hbA⟩
        obtain ⟨adA, cA, hvA⟩ := hoA.shape
        subst hvA
        have hoP := hoP.below hbA
        have hoQ := hoQ.below hbA
        have hoA := hoA.low (B' := W1.heap.size) hHeld.1.size
        refine hK.out _ _ ⟨below_seq hHeld.1 hbA, below_cell hbA hHeld.2.1, below_cell hbA hHeld.2.2⟩ (fun hHeld => ?_)
        clear hK K
        refine wpAnyH_ready (rs := [8]) (by kernel_rfl) (by simp) ?_
        refine AllReadyH.cons rfl (fun K hK => ?_) AllReadyH.nil
        · go_simp
          refine (join_any _ [⟨16, n, 0⟩] A _ _ W1.heap.size hoP hoA.sl (HJ.out.mono (by omega)) (by simp; omega)).mono ?_
          rintro r wJ ⟨vJ, rfl, hoJ, hbJ⟩
          obtain ⟨adJ, cJ, hvJ⟩ := hoJ.shape
          subst hvJ
          have hoP := hoP.below hbJ
          have hoQ := hoQ.below hbJ
          have hoA := hoA.below hbJ
          have hoJ := hoJ.low (B' := W1.heap.size) hHeld.1.size
          refine hK.out _ _ ⟨below_seq hHeld.1 hbJ, below_cell hbJ hHeld.2.1, below_cell hbJ hHeld.2.2⟩ (fun hHeld => ?_)
          clear hK K
          refine wpAnyH_ready (rs := [13]) (by kernel_rfl) (by simp) ?_
          refine AllReadyH.cons rfl (fun K hK => ?_) AllReadyH.nil
          · obtain ⟨v6, w6, hrun, ho6, hg6, -⟩ := append_two (P := Tryd.prog) wJ _ _ 22 22 35 i0 _ 3 24 Tryd.underlying22 hi0 hz0 hz1 hz2 rfl (by decide) _ _ (insVs (jn [⟨16, n, 0⟩] A)) hoJ _ _ (insVs [⟨17, n, 0⟩]) hoQ (insVs_one _) (by simp only [List.length_cons, List.length_nil, jn_len]; unfold maxLen; omega) (by simp only [List.length_cons, List.length_nil, jn_len]; omega) hHeld.1.size
            obtain ⟨ad6, c6, rfl⟩ := owns_value ho6
            refine region_append rfl (.tmp 151) (.tmp 155) 22 rfl rfl rfl hrun ?_
            have hB6 : Below W1.heap.size W1 w6 := hHeld.1.grown hg6 hHeld.1.size (fun k hk => (hoJ.lt k hk).1)
            refine hK.out _ _ ⟨hB6, below_cell hB6 x1, below_cell hB6 x12⟩ (fun hHeld => ?_)
            clear hK K
            simp only [Act.put, List.setIfInBounds_toArray]
            refine take_at (i := 14) (n := 4) (v := ?_) rfl rfl (by kernel_rfl) (by kernel_rfl) (by kernel_rfl) (fun _ _ _ h => h) (Or.inl ⟨by rfl, ?_⟩) (by assumption) ?_
            rotate_left 1
            · intro wz hSw
              obtain ⟨-, s0, s1⟩ := hSw
              first | (go_simp; done) | (go_simp; with_reducible rfl)
            simp only [List.set_cons_zero, List.set_cons_succ]
            refine wpAnyH_done (by kernel_rfl) ?_ _
            refine NoPanic.normal ?_
            have H6 : Hid (w6.ownsRow W1.heap.size 35 3 (.slice ad6 ((jn [⟨16, n, 0⟩] A).length + [(⟨17, n, 0⟩ : Io)].length) c6) ((jn [⟨16, n, 0⟩] A).length + [(⟨17, n, 0⟩ : Io)].length) (insVs (jn [⟨16, n, 0⟩] A) ++ insVs [⟨17, n, 0⟩]) ∧ Below W1.heap.size W1 w6) := ⟨ho6, hHeld.1⟩
            go_wp2_with fail
            go_ret
            refine ⟨_, rfl, ?_, below_seq HX.out.1 H6.out.2⟩
            refine Ow.low (B := W1.heap.size) ?_ (by have := HX.out.2; omega)
            unfold Ow
            rw [List.length_append, insVs_append]
            exact H6.out.1
  · go_simp
    refine (HPy.out _ hHeld.1).mono ?_
    rintro r wA ⟨vA, rfl, hoA, hbA⟩
    obtain ⟨adA, cA, hvA⟩ := hoA.shape
    subst hvA
    have hoA := hoA.low (B' := W1.heap.size) hHeld.1.size
    refine hK.out _ _ ⟨below_seq hHeld.1 hbA, below_cell hbA hHeld.2.1, below_cell hbA hHeld.2.2⟩ (fun hHeld => ?_)
    clear hK K
    refine wpAnyH_ready (rs := [3, 12]) (by kernel_rfl) (by simp) ?_
    refine AllReadyH.cons rfl (fun K hK => ?_) (AllReadyH.cons rfl (fun K hK => ?_) AllReadyH.nil)
    · go_simp
      have hbP := below_new wA (.cells #[.int .i64 16, .int .i64 n, .int .i64 0] 35)
      have hoA := hoA.below hbP
      have hoP : Ow (wA.alloc (.cells #[.int .i64 16, .int .i64 n, .int .i64 0] 35)) W1.heap.size (.slice (some ⟨wA.heap.size, 0, none⟩) 1 1) [⟨16, n, 0⟩] := (Ow.lit wA [⟨16, n, 0⟩] _ rfl (by simp)).low hHeld.1.size
      refine hK.out _ _ ⟨below_seq hHeld.1 hbP, below_cell hbP hHeld.2.1, below_cell hbP hHeld.2.2⟩ (fun hHeld => ?_)
      clear hK K
      refine wpAnyH_ready (rs := [8, 12]) (by kernel_rfl) (by simp) ?_
      refine AllReadyH.cons rfl (fun K hK => ?_) (AllReadyH.cons rfl (fun K hK => ?_) AllReadyH.nil)
      · go_simp
        refine (join_any _ [⟨16, n, 0⟩] A _ _ W1.heap.size hoP hoA.sl (HJ.out.mono (by omega)) (by simp; omega)).mono ?_
        rintro r wJ ⟨vJ, rfl, hoJ, hbJ⟩
        obtain ⟨adJ, cJ, hvJ⟩ := hoJ.shape
        subst hvJ
        have hoA := hoA.below hbJ
        have hoP := hoP.below hbJ
        have hoJ := hoJ.low (B' := W1.heap.size) hHeld.1.size
        refine hK.out _ _ ⟨below_seq hHeld.1 hbJ, below_cell hbJ hHeld.2.1, below_cell hbJ hHeld.2.2⟩ (fun hHeld => ?_)
        clear hK K
        refine wpAnyH_ready (rs := [12]) (by kernel_rfl) (by simp) ?_
        refine AllReadyH.cons rfl (fun K hK => ?_) AllReadyH.nil
        · go_simp
          have hbQ := below_new wJ (.cells #[.int .i64 17, .int .i64 n, .int .i64 0] 35)
          have hoA := hoA.below hbQ
          have hoP := hoP.below hbQ
          have hoJ := hoJ.below hbQ
          have hoQ : Ow (wJ.alloc (.cells #[.int .i64 17, .int .i64 n, .int .i64 0] 35)) W1.heap.size (.slice (some ⟨wJ.heap.size, 0, none⟩) 1 1) [⟨17, n, 0⟩] := (Ow.lit wJ [⟨17, n, 0⟩] _ rfl (by simp)).low hHeld.1.size
          refine hK.out _ _ ⟨below_seq hHeld.1 hbQ, below_cell hbQ hHeld.2.1, below_cell hbQ hHeld.2.2⟩ (fun hHeld => ?_)
          clear hK K
          refine wpAnyH_ready (rs := [13]) (by kernel_rfl) (by simp) ?_
          refine AllReadyH.cons rfl (fun K hK => ?_) AllReadyH.nil
          · obtain ⟨v6, w6, hrun, ho6, hg6, -⟩ := append_two (P := Tryd.prog) (wJ.alloc (.cells #[.int .i64 17, .int .i64 n, .int .i64 0] 35)) _ _ 22 22 35 i0 _ 3 24 Tryd.underlying22 hi0 hz0 hz1 hz2 rfl (by decide) _ _ (insVs (jn [⟨16, n, 0⟩] A)) hoJ _ _ (insVs [⟨17, n, 0⟩]) hoQ (insVs_one _) (by simp only [List.length_cons, List.length_nil, jn_len]; unfold maxLen; omega) (by simp only [List.length_cons, List.length_nil, jn_len]; omega) hHeld.1.size
            obtain ⟨ad6, c6, rfl⟩ := owns_value ho6
            refine region_append rfl (.tmp 151) (.tmp 155) 22 rfl rfl rfl hrun ?_
            have hB6 : Below W1.heap.size W1 w6 := hHeld.1.grown hg6 hHeld.1.size (fun k hk => (hoJ.lt k hk).1)
            refine hK.out _ _ ⟨hB6, below_cell hB6 x1, below_cell hB6 x12⟩ (fun hHeld => ?_)
            clear hK K
            simp only [Act.put, List.setIfInBounds_toArray]
            refine take_at (i := 14) (n := 4) (v := ?_) rfl rfl (by kernel_rfl) (by kernel_rfl) (by kernel_rfl) (fun _ _ _ h => h) (Or.inl ⟨by rfl, ?_⟩) (by assumption) ?_
            rotate_left 1
            · intro wz hSw
              obtain ⟨-, s0, s1⟩ := hSw
              first | (go_simp; done) | (go_simp; with_reducible rfl)
            simp only [List.set_cons_zero, List.set_cons_succ]
            refine wpAnyH_done (by kernel_rfl) ?_ _
            refine NoPanic.normal ?_
            have H6 : Hid (w6.ownsRow W1.heap.size 35 3 (.slice ad6 ((jn [⟨16, n, 0⟩] A).length + [(⟨17, n, 0⟩ : Io)].length) c6) ((jn [⟨16, n, 0⟩] A).length + [(⟨17, n, 0⟩ : Io)].length) (insVs (jn [⟨16, n, 0⟩] A) ++ insVs [⟨17, n, 0⟩]) ∧ Below W1.heap.size W1 w6) := ⟨ho6, hHeld.1⟩
            go_wp2_with fail
            go_ret
            refine ⟨_, rfl, ?_, below_seq HX.out.1 H6.out.2⟩
            refine Ow.low (B := W1.heap.size) ?_ (by have := HX.out.2; omega)
            unfold Ow
            rw [List.length_append, insVs_append]
            exact H6.out.1
      · go_simp
        have hbQ := below_new (wA.alloc (.cells #[.int .i64 16, .int .i64 n, .int .i64 0] 35)) (.cells #[.int .i64 17, .int .i64 n, .int .i64 0] 35)
        have hoA := hoA.below hbQ
        have hoP := hoP.below hbQ
        have hoQ : Ow ((wA.alloc (.cells #[.int .i64 16, .int .i64 n, .int .i64 0] 35)).alloc (.cells #[.int .i64 17, .int .i64 n, .int .i64 0] 35)) W1.heap.size (.slice (some ⟨wA.heap.size + 1, 0, none⟩) 1 1) [⟨17, n, 0⟩] := (Ow.lit (wA.alloc (.cells #[.int .i64 16, .int .i64 n, .int .i64 0] 35)) [⟨17, n, 0⟩] _ (by simp) (by simp)).low hHeld.1.size
        refine hK.out _ _ ⟨below_seq hHeld.1 hbQ, below_cell hbQ hHeld.2.1, below_cell hbQ hHeld.2.2⟩ (fun hHeld => ?_)
        clear hK K
        refine wpAnyH_ready (rs := [8]) (by kernel_rfl) (by simp) ?_
        refine AllReadyH.cons rfl (fun K hK => ?_) AllReadyH.nil
        · go_simp
          refine (join_any _ [⟨16, n, 0⟩] A _ _ W1.heap.size hoP hoA.sl (HJ.out.mono (by omega)) (by simp; omega)).mono ?_
          rintro r wJ ⟨vJ, rfl, hoJ, hbJ⟩
          obtain ⟨adJ, cJ, hvJ⟩ := hoJ.shape
          subst hvJ
          have hoA := hoA.below hbJ
          have hoP := hoP.below hbJ
          have hoQ := hoQ.below hbJ
          have hoJ := hoJ.low (B' := W1.heap.size) hHeld.1.size
          refine hK.out _ _ ⟨below_seq hHeld.1 hbJ, below_cell hbJ hHeld.2.1, below_cell hbJ hHeld.2.2⟩ (fun hHeld => ?_)
          clear hK K
          refine wpAnyH_ready (rs := [13]) (by kernel_rfl) (by simp) ?_
          refine AllReadyH.cons rfl (fun K hK => ?_) AllReadyH.nil
          · obtain ⟨v6, w6, hrun, ho6, hg6, -⟩ := append_two (P := Tryd.prog) wJ _ _ 22 22 35 i0 _ 3 24 Tryd.underlying22 hi0 hz0 hz1 hz2 rfl (by decide) _ _ (insVs (jn [⟨16, n, 0⟩] A)) hoJ _ _ (insVs [⟨17, n, 0⟩]) hoQ (insVs_one _) (by simp only [List.length_cons, List.length_nil, jn_len]; unfold maxLen; omega) (by simp only [List.length_cons, List.length_nil, jn_len]; omega) hHeld.1.size
            obtain ⟨ad6, c6, rfl⟩ := owns_value ho6
            refine region_append rfl (.tmp 151) (.tmp 155) 22 rfl rfl rfl hrun ?_
            have hB6 : Below W1.heap.size W1 w6 := hHeld.1.grown hg6 hHeld.1.size (fun k hk => (hoJ.lt k hk).1)
            refine hK.out _ _ ⟨hB6, below_cell hB6 x1, below_cell hB6 x12⟩ (fun hHeld => ?_)
            clear hK K
            simp only [Act.put, List.setIfInBounds_toArray]
            refine take_at (i := 14) (n := 4) (v := ?_) rfl rfl (by kernel_rfl) (by kernel_rfl) (by kernel_rfl) (fun _ _ _ h => h) (Or.inl ⟨by rfl, ?_⟩) (by assumption) ?_
            rotate_left 1
            · intro wz hSw
              obtain ⟨-, s0, s1⟩ := hSw
              first | (go_simp; done) | (go_simp; with_reducible rfl)
            simp only [List.set_cons_zero, List.set_cons_succ]
            refine wpAnyH_done (by kernel_rfl) ?_ _
            refine NoPanic.normal ?_
            have H6 : Hid (w6.ownsRow W1.heap.size 35 3 (.slice ad6 ((jn [⟨16, n, 0⟩] A).length + [(⟨17, n, 0⟩ : Io)].length) c6) ((jn [⟨16, n, 0⟩] A).length + [(⟨17, n, 0⟩ : Io)].length) (insVs (jn [⟨16, n, 0⟩] A) ++ insVs [⟨17, n, 0⟩]) ∧ Below W1.heap.size W1 w6) := ⟨ho6, hHeld.1⟩
            go_wp2_with fail
            go_ret
            refine ⟨_, rfl, ?_, below_seq HX.out.1 H6.out.2⟩
            refine Ow.low (B := W1.heap.size) ?_ (by have := HX.out.2; omega)
            unfold Ow
            rw [List.length_append, insVs_append]
            exact H6.out.1
    · go_simp
      have hbQ := below_new wA (.cells #[.int .i64 17, .int .i64 n, .int .i64 0] 35)
      have hoA := hoA.below hbQ
      have hoQ : Ow (wA.alloc (.cells #[.int .i64 17, .int .i64 n, .int .i64 0] 35)) W1.heap.size (.slice (some ⟨wA.heap.size, 0, none⟩) 1 1) [⟨17, n, 0⟩] := (Ow.lit wA [⟨17, n, 0⟩] _ rfl (by simp)).low hHeld.1.size
      refine hK.out _ _ ⟨below_seq hHeld.1 hbQ, below_cell hbQ hHeld.2.1, below_cell hbQ hHeld.2.2⟩ (fun hHeld => ?_)
      clear hK K
      refine wpAnyH_ready (rs := [3]) (by kernel_rfl) (by simp) ?_
      refine AllReadyH.cons rfl (fun K hK => ?_) AllReadyH.nil
      · go_simp
        have hbP := below_new (wA.alloc (.cells #[.int .i64 17, .int .i64 n, .int .i64 0] 35)) (.cells #[.int .i64 16, .int .i64 n, .int .i64 0] 35)
        have hoA := hoA.below hbP
        have hoQ := hoQ.below hbP
        have hoP : Ow ((wA.alloc (.cells #[.int .i64 17, .int .i64 n, .int .i64 0] 35)).alloc (.cells #[.int .i64 16, .int .i64 n, .int .i64 0] 35)) W1.heap.size (.slice (some ⟨wA.heap.size + 1, 0, none⟩) 1 1) [⟨16, n, 0⟩] := (Ow.lit (wA.alloc (.cells #[.int .i64 17, .int .i64 n, .int .i64 0] 35)) [⟨16, n, 0⟩] _ (by simp) (by simp)).low hHeld.1.size
        refine hK.out _ _ ⟨below_seq hHeld.1 hbP, below_cell hbP hHeld.2.1, below_cell hbP hHeld.2.2⟩ (fun hHeld => ?_)
        clear hK K
        refine wpAnyH_ready (rs := [8]) (by kernel_rfl) (by simp) ?_
        refine AllReadyH.cons rfl (fun K hK => ?_) AllReadyH.nil
        · go_simp
          refine (join_any _ [⟨16, n, 0⟩] A _ _ W1.heap.size hoP hoA.sl (HJ.out.mono (by omega)) (by simp; omega)).mono ?_
          rintro r wJ ⟨vJ, rfl, hoJ, hbJ⟩
          obtain ⟨adJ, cJ, hvJ⟩ := hoJ.shape
          subst hvJ
          have hoA := hoA.below hbJ
          have hoQ := hoQ.below hbJ
          have hoP := hoP.below hbJ
          have hoJ := hoJ.low (B' := W1.heap.size) hHeld.1.size
          refine hK.out _ _ ⟨below_seq hHeld.1 hbJ, below_cell hbJ hHeld.2.1, below_cell hbJ hHeld.2.2⟩ (fun hHeld => ?_)
          clear hK K
          refine wpAnyH_ready (rs := [13]) (by kernel_rfl) (by simp) ?_
          refine AllReadyH.cons rfl (fun K hK => ?_) AllReadyH.nil
          · obtain ⟨v6, w6, hrun, ho6, hg6, -⟩ := append_two (P := Tryd.prog) wJ _ _ 22 22 35 i0 _ 3 24 Tryd.underlying22 hi0 hz0 hz1 hz2 rfl (by decide) _ _ (insVs (jn [⟨16, n, 0⟩] A)) hoJ _ _ (insVs [⟨17, n, 0⟩]) hoQ (insVs_one _) (by simp only [List.length_cons, List.length_nil, jn_len]; unfold maxLen; omega) (by simp only [List.length_cons, List.length_nil, jn_len]; omega) hHeld.1.size
            obtain ⟨ad6, c6, rfl⟩ := owns_value ho6
            refine region_append rfl (.tmp 151) (.tmp 155) 22 rfl rfl rfl hrun ?_
            have hB6 : Below W1.heap.size W1 w6 := hHeld.1.grown hg6 hHeld.1.size (fun k hk => (hoJ.lt k hk).1)
            refine hK.out _ _ ⟨hB6, below_cell hB6 x1, below_cell hB6 x12⟩ (fun hHeld => ?_)
            clear hK K
            simp only [Act.put, List.setIfInBounds_toArray]
            refine take_at (i := 14) (n := 4) (v := ?_) rfl rfl (by kernel_rfl) (by kernel_rfl) (by kernel_rfl) (fun _ _ _ h => h) (Or.inl ⟨by rfl, ?_⟩) (by assumption) ?_
            rotate_left 1
            · intro wz hSw
              obtain ⟨-, s0, s1⟩ := hSw
              first | (go_simp; done) | (go_simp; with_reducible rfl)
            simp only [List.set_cons_zero, List.set_cons_succ]
            refine wpAnyH_done (by kernel_rfl) ?_ _
            refine NoPanic.normal ?_
            have H6 : Hid (w6.ownsRow W1.heap.size 35 3 (.slice ad6 ((jn [⟨16, n, 0⟩] A).length + [(⟨17, n, 0⟩ : Io)].length) c6) ((jn [⟨16, n, 0⟩] A).length + [(⟨17, n, 0⟩ : Io)].length) (insVs (jn [⟨16, n, 0⟩] A) ++ insVs [⟨17, n, 0⟩]) ∧ Below W1.heap.size W1 w6) := ⟨ho6, hHeld.1⟩
            go_wp2_with fail
            go_ret
            refine ⟨_, rfl, ?_, below_seq HX.out.1 H6.out.2⟩
            refine Ow.low (B := W1.heap.size) ?_ (by have := HX.out.2; omega)
            unfold Ow
            rw [List.length_append, insVs_append]
            exact H6.out.1
  · go_simp
    have hbQ := below_new W1.drew (.cells #[.int .i64 17, .int .i64 n, .int .i64 0] 35)
    have hoQ : Ow (W1.drew.alloc (.cells #[.int .i64 17, .int .i64 n, .int .i64 0] 35)) W1.heap.size (.slice (some ⟨W1.drew.heap.size, 0, none⟩) 1 1) [⟨17, n, 0⟩] := (Ow.lit W1.drew [⟨17, n, 0⟩] _ rfl (by simp)).low hHeld.1.size
    refine hK.out _ _ ⟨below_seq hHeld.1 hbQ, below_cell hbQ hHeld.2.1, below_cell hbQ hHeld.2.2⟩ (fun hHeld => ?_)
    clear hK K
    refine wpAnyH_ready (rs := [3, 7]) (by kernel_rfl) (by simp) ?_
    refine AllReadyH.cons rfl (fun K hK => ?_) (AllReadyH.cons rfl (fun K hK => ?_) AllReadyH.nil)
    · go_simp
      have hbP := below_new (W1.drew.alloc (.cells #[.int .i64 17, .int .i64 n, .int .i64 0] 35)) (.cells #[.int .i64 16, .int .i64 n, .int .i64 0] 35)
      have hoQ := hoQ.below hbP
      have hoP : Ow ((W1.drew.alloc (.cells #[.int .i64 17, .int .i64 n, .int .i64 0] 35)).alloc (.cells #[.int .i64 16, .int .i64 n, .int .i64 0] 35)) W1.heap.size (.slice (some ⟨W1.heap.size + 1, 0, none⟩) 1 1) [⟨16, n, 0⟩] := (Ow.lit (W1.drew.alloc (.cells #[.int .i64 17, .int .i64 n, .int .i64 0] 35)) [⟨16, n, 0⟩] _ (by simp) (by simp)).low hHeld.1.size
      refine hK.out _ _ ⟨below_seq hHeld.1 hbP, below_cell hbP hHeld.2.1, below_cell hbP hHeld.2.2⟩ (fun hHeld => ?_)
      clear hK K
      refine wpAnyH_ready (rs := [7]) (by kernel_rfl) (by simp) ?_
      refine AllReadyH.cons rfl (fun K hK => ?_) AllReadyH.nil
      · go_simp
        refine (HPy.out _ hHeld.1).mono ?_
        rintro r wA ⟨vA, rfl, hoA, hbA⟩
        obtain ⟨adA, cA, hvA⟩ := hoA.shape
        subst hvA
        have hoQ := hoQ.below hbA
        have hoP := hoP.below hbA
        have hoA := hoA.low (B' := W1.heap.size) hHeld.1.size
        refine hK.out _ _ ⟨below_seq hHeld.1 hbA, below_cell hbA hHeld.2.1, below_cell hbA hHeld.2.2⟩ (fun hHeld => ?_)
        clear hK K
        refine wpAnyH_ready (rs := [8]) (by kernel_rfl) (by simp) ?_
        refine AllReadyH.cons rfl (fun K hK => ?_) AllReadyH.nil
        · go_simp
          refine (join_any _ [⟨16, n, 0⟩] A _ _ W1.heap.size hoP hoA.sl (HJ.out.mono (by omega)) (by simp; omega)).mono ?_
          rintro r wJ ⟨vJ, rfl, hoJ, hbJ⟩
          obtain ⟨adJ, cJ, hvJ⟩ := hoJ.shape
          subst hvJ
          have hoQ := hoQ.below hbJ
          have hoP := hoP.below hbJ
          have hoA := hoA.below hbJ
          have hoJ := hoJ.low (B' := W1.heap.size) hHeld.1.size
          refine hK.out _ _ ⟨below_seq hHeld.1 hbJ, below_cell hbJ hHeld.2.1, below_cell hbJ hHeld.2.2⟩ (fun hHeld => ?_)
          clear hK K
          refine wpAnyH_ready (rs := [13]) (by kernel_rfl) (by simp) ?_
          refine AllReadyH.cons rfl (fun K hK => ?_) AllReadyH.nil
          · obtain ⟨v6, w6, hrun, ho6, hg6, -⟩ := append_two (P := Tryd.prog) wJ _ _ 22 22 35 i0 _ 3 24 Tryd.underlying22 hi0 hz0 hz1 hz2 rfl (by decide) _ _ (insVs (jn [⟨16, n, 0⟩] A)) hoJ _ _ (insVs [⟨17, n, 0⟩]) hoQ (insVs_one _) (by simp only [List.length_cons, List.length_nil, jn_len]; unfold maxLen; omega) (by simp only [List.length_cons, List.length_nil, jn_len]; omega) hHeld.1.size
            obtain ⟨ad6, c6, rfl⟩ := owns_value ho6
            refine region_append rfl (.tmp 151) (.tmp 155) 22 rfl rfl rfl hrun ?_
            have hB6 : Below W1.heap.size W1 w6 := hHeld.1.grown hg6 hHeld.1.size (fun k hk => (hoJ.lt k hk).1)
            refine hK.out _ _ ⟨hB6, below_cell hB6 x1, below_cell hB6 x12⟩ (fun hHeld => ?_)
            clear hK K
            simp only [Act.put, List.setIfInBounds_toArray]
            refine take_at (i := 14) (n := 4) (v := ?_) rfl rfl (by kernel_rfl) (by kernel_rfl) (by kernel_rfl) (fun _ _ _ h => h) (Or.inl ⟨by rfl, ?_⟩) (by assumption) ?_
            rotate_left 1
            · intro wz hSw
              obtain ⟨-, s0, s1⟩ := hSw
              first | (go_simp; done) | (go_simp; with_reducible rfl)
            simp only [List.set_cons_zero, List.set_cons_succ]
            refine wpAnyH_done (by kernel_rfl) ?_ _
            refine NoPanic.normal ?_
            have H6 : Hid (w6.ownsRow W1.heap.size 35 3 (.slice ad6 ((jn [⟨16, n, 0⟩] A).length + [(⟨17, n, 0⟩ : Io)].length) c6) ((jn [⟨16, n, 0⟩] A).length + [(⟨17, n, 0⟩ : Io)].length) (insVs (jn [⟨16, n, 0⟩] A) ++ insVs [⟨17, n, 0⟩]) ∧ Below W1.heap.size W1 w6) := ⟨ho6, hHeld.1⟩
            go_wp2_with fail
            go_ret
            refine ⟨_, rfl, ?_, below_seq HX.out.1 H6.out.2⟩
            refine Ow.low (B := W1.heap.size) ?_ (by have := HX.out.2; omega)
            unfold Ow
            rw [List.length_append, insVs_append]
            exact H6.out.1
    · go_simp
      refine (HPy.out _ hHeld.1).mono ?_
      rintro r wA ⟨vA, rfl, hoA, hbA⟩
      obtain ⟨adA, cA, hvA⟩ := hoA.shape
      subst hvA
      have hoQ := hoQ.below hbA
      have hoA := hoA.low (B' := W1.heap.size) hHeld.1.size
      refine hK.out _ _ ⟨below_seq hHeld.1 hbA, below_cell hbA hHeld.2.1, below_cell hbA hHeld.2.2⟩ (fun hHeld => ?_)
      clear hK K
      refine wpAnyH_ready (rs := [3]) (by kernel_rfl) (by simp) ?_
      refine AllReadyH.cons rfl (fun K hK => ?_) AllReadyH.nil
      · go_simp
        have hbP := below_new wA (.cells #[.int .i64 16, .int .i64 n, .int .i64 0] 35)
        have hoQ := hoQ.below hbP
        have hoA := hoA.below hbP
        have hoP : Ow (wA.alloc (.cells #[.int .i64 16, .int .i64 n, .int .i64 0] 35)) W1.heap.size (.slice (some ⟨wA.heap.size, 0, none⟩) 1 1) [⟨16, n, 0⟩] := (Ow.lit wA [⟨16, n, 0⟩] _ rfl (by simp)).low hHeld.1.size
        refine hK.out _ _ ⟨below_seq hHeld.1 hbP, below_cell hbP hHeld.2.1, below_cell hbP hHeld.2.2⟩ (fun hHeld => ?_)
        clear hK K
        refine wpAnyH_ready (rs := [8]) (by kernel_rfl) (by simp) ?_
        refine AllReadyH.cons rfl (fun K hK => ?_) AllReadyH.nil
        · go_simp
          refine (join_any _ [⟨16, n, 0⟩] A _ _ W1.heap.size hoP hoA.sl (HJ.out.mono (by omega)) (by simp; omega)).mono ?_
          rintro r wJ ⟨vJ, rfl, hoJ, hbJ⟩
          obtain ⟨adJ, cJ, hvJ⟩ := hoJ.shape
          subst hvJ
          have hoQ := hoQ.below hbJ
          have hoA := hoA.below hbJ
          have hoP := hoP.below hbJ
          have hoJ := hoJ.low (B' := W1.heap.size) hHeld.1.size
          refine hK.out _ _ ⟨below_seq hHeld.1 hbJ, below_cell hbJ hHeld.2.1, below_cell hbJ hHeld.2.2⟩ (fun hHeld => ?_)
          clear hK K
          refine wpAnyH_ready (rs := [13]) (by kernel_rfl) (by simp) ?_
          refine AllReadyH.cons rfl (fun K hK => ?_) AllReadyH.nil
          · obtain ⟨v6, w6, hrun, ho6, hg6, -⟩ := append_two (P := Tryd.prog) wJ _ _ 22 22 35 i0 _ 3 24 Tryd.underlying22 hi0 hz0 hz1 hz2 rfl (by decide) _ _ (insVs (jn [⟨16, n, 0⟩] A)) hoJ _ _ (insVs [⟨17, n, 0⟩]) hoQ (insVs_one _) (by simp only [List.length_cons, List.length_nil, jn_len]; unfold maxLen; omega) (by simp only [List.length_cons, List.length_nil, jn_len]; omega) hHeld.1.size
            obtain ⟨ad6, c6, rfl⟩ := owns_value ho6
            refine region_append rfl (.tmp 151) (.tmp 155) 22 rfl rfl rfl hrun ?_
            have hB6 : Below W1.heap.size W1 w6 := hHeld.1.grown hg6 hHeld.1.size (fun k hk => (hoJ.lt k hk).1)
            refine hK.out _ _ ⟨hB6, below_cell hB6 x1, below_cell hB6 x12⟩ (fun hHeld => ?_)
            clear hK K
            simp only [Act.put, List.setIfInBounds_toArray]
            refine take_at (i := 14) (n := 4) (v := ?_) rfl rfl (by kernel_rfl) (by kernel_rfl) (by kernel_rfl) (fun _ _ _ h => h) (Or.inl ⟨by rfl, ?_⟩) (by assumption) ?_
            rotate_left 1
            · intro wz hSw
              obtain ⟨-, s0, s1⟩ := hSw
              first | (go_simp; done) | (go_simp; with_reducible rfl)
            simp only [List.set_cons_zero, List.set_cons_succ]
            refine wpAnyH_done (by kernel_rfl) ?_ _
            refine NoPanic.normal ?_
            have H6 : Hid (w6.ownsRow W1.heap.size 35 3 (.slice ad6 ((jn [⟨16, n, 0⟩] A).length + [(⟨17, n, 0⟩ : Io)].length) c6) ((jn [⟨16, n, 0⟩] A).length + [(⟨17, n, 0⟩ : Io)].length) (insVs (jn [⟨16, n, 0⟩] A) ++ insVs [⟨17, n, 0⟩]) ∧ Below W1.heap.size W1 w6) := ⟨ho6, hHeld.1⟩
            go_wp2_with fail
            go_ret
            refine ⟨_, rfl, ?_, below_seq HX.out.1 H6.out.2⟩
            refine Ow.low (B := W1.heap.size) ?_ (by have := HX.out.2; omega)
            unfold Ow
            rw [List.length_append, insVs_append]
            exact H6.out.1

end Go.Proofs.YtgemadoieielcacDoor.B
