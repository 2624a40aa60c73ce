import Derived.Test.YtgemadoieielcacDoorGCO
import Derived.Test.YtgemadoieielcacDoorGHts
namespace Go.Proofs.YtgemadoieielcacDoor.B
open Go.ChangeShapes Go.WideShapes Go.ChangeAt Go.RowKit

theorem HtAt_lt2 {w : World} {mb N : Nat} {M : Int → Option Int} (h : HtAt w mb N M) : mb < w.heap.size := by
  obtain ⟨D, ⟨es, clock, h1, r⟩, hM⟩ := h
  exact (Array.getElem?_eq_some_iff.1 h1).1

set_option maxRecDepth 20000 in
set_option maxHeartbeats 8000000 in
theorem piece2_any (N : Nat) (w : World) (e ca cb : Ex) (y l : List St) (n ek en ck ak an bk bn : Int) (ead aad bad yad lad : Option Addr) (em ec am ac bm bc yc lc : Nat) (loops : Int) (i1 : e.In w (.agg #[.int .i64 ek, .int .i64 en, .slice ead em ec])) (hle : e.Lay)  (_hN : 1 + e.nodes + ca.nodes + cb.nodes + St.bulkAll y + St.bulkAll l ≤ N + 1) (hN2 : 1 + e.nodes + ca.nodes + cb.nodes + St.bulkAll y + St.bulkAll l ≤ 20000) (_hlo : 0 ≤ loops ∧ loops + (1 + e.nodes + ca.nodes + cb.nodes + St.bulkAll y + St.bulkAll l : Nat) ≤ 1000000) :
    Calls Tryd.prog 100 #[.agg #[.int .i64 2, .int .i64 n, .int .i64 ek, .int .i64 en, .slice ead em ec, .int .i64 ck, .int .i64 ak, .int .i64 an, .slice aad am ac, .int .i64 bk, .int .i64 bn, .slice bad bm bc, .slice yad y.length yc, .slice lad l.length lc], .int .i64 loops] w fun r w' => ∃ v', r = .returned v' ∧ Ow w' w.heap.size v' (e.pc ++ [⟨10, n, 0⟩]) ∧ Below w.heap.size w w' := by
  have hB1 : Below w.heap.size w (w.alloc (.cells #[.int .i64 2, .int .i64 n, .int .i64 ek, .int .i64 en, .slice ead em ec, .int .i64 ck, .int .i64 ak, .int .i64 an, .slice aad am ac, .int .i64 bk, .int .i64 bn, .slice bad bm bc, .slice yad y.length yc, .slice lad l.length lc] 123)) := below_new _ _
  have hk1 := heap_alloc_new w (.cells #[.int .i64 2, .int .i64 n, .int .i64 ek, .int .i64 en, .slice ead em ec, .int .i64 ck, .int .i64 ak, .int .i64 an, .slice aad am ac, .int .i64 bk, .int .i64 bn, .slice bad bm bc, .slice yad y.length yc, .slice lad l.length lc] 123)
  have hs1 : (w.alloc (.cells #[.int .i64 2, .int .i64 n, .int .i64 ek, .int .i64 en, .slice ead em ec, .int .i64 ck, .int .i64 ak, .int .i64 an, .slice aad am ac, .int .i64 bk, .int .i64 bn, .slice bad bm bc, .slice yad y.length yc, .slice lad l.length lc] 123)).heap.size = w.heap.size + 1 := by simp
  have p8 := Ex.nodes_pos e
  obtain ⟨i0, hi0, hz0, hz1, hz2⟩ := info_parts infoN
  have HCe : Hid (∀ W, Below (w.alloc (.cells #[.int .i64 2, .int .i64 n, .int .i64 ek, .int .i64 en, .slice ead em ec, .int .i64 ck, .int .i64 ak, .int .i64 an, .slice aad am ac, .int .i64 bk, .int .i64 bn, .slice bad bm bc, .slice yad y.length yc, .slice lad l.length lc] 123)).heap.size (w.alloc (.cells #[.int .i64 2, .int .i64 n, .int .i64 ek, .int .i64 en, .slice ead em ec, .int .i64 ck, .int .i64 ak, .int .i64 an, .slice aad am ac, .int .i64 bk, .int .i64 bn, .slice bad bm bc, .slice yad y.length yc, .slice lad l.length lc] 123)) W → Calls Tryd.prog 131 #[.agg #[.int .i64 ek, .int .i64 en, .slice ead em ec]] W fun r w' => ∃ v', r = .returned v' ∧ Ow w' W.heap.size v' e.pc ∧ Below W.heap.size W w') := fun W hW => exprPiece_any 100001 e W _ (by omega) (by omega) (Ex.In.below (below_seq hB1 hW) _ i1) hle
  have hpe := Ex.pc_len e
  obtain ⟨Ep, hEp⟩ : ∃ Ep, e.pc = Ep := ⟨_, rfl⟩
  rw [hEp] at HCe hpe ⊢
  have hEb : Ep.length ≤ 160000 := by omega
  have hmm := @run_makeMap Tryd.prog
  clear i1 hle hEp
  go_enter Tryd.func100, Tryd.ntmps100
  go_wp2_with fail
  obtain ⟨W1, hW1⟩ : ∃ W1, w.alloc (.cells #[.int .i64 2, .int .i64 n, .int .i64 ek, .int .i64 en, .slice ead em ec, .int .i64 ck, .int .i64 ak, .int .i64 an, .slice aad am ac, .int .i64 bk, .int .i64 bn, .slice bad bm bc, .slice yad y.length yc, .slice lad l.length lc] 123) = W1 := ⟨_, rfl⟩
  rw [hW1] at hB1 hk1 hs1 HCe ⊢
  obtain ⟨d1, e1, l1⟩ := cells_of (l := [_, _, _, _, _, _, _, _, _, _, _, _, _, _]) hk1
  have x0 := d1 0 _ rfl
  have x1 := d1 1 _ rfl
  have x2 := d1 2 _ rfl
  have x3 := d1 3 _ rfl
  have x4 := d1 4 _ rfl
  have x5 := d1 5 _ rfl
  have x6 := d1 6 _ rfl
  have x7 := d1 7 _ rfl
  have x8 := d1 8 _ rfl
  have x9 := d1 9 _ rfl
  have x10 := d1 10 _ rfl
  have x11 := d1 11 _ rfl
  have HX : Hid (Below w.heap.size w W1 ∧ W1.heap.size = w.heap.size + 1) := ⟨hB1, hs1⟩
  have HXC : Hid (W1.cell? ⟨w.heap.size, 0, none⟩ = some (.int .i64 2) ∧ W1.cell? ⟨w.heap.size, 1, none⟩ = some (.int .i64 n)) := ⟨x0, x1⟩
  clear hW1 d1 e1 hk1 hB1 hs1
  refine wp_region_noPanic ?_
  refine wp_region_held_drew (S := fun w' => Below W1.heap.size W1 w' ∧ w'.cell? ⟨w.heap.size, 0, none⟩ = some (.int .i64 2) ∧ w'.cell? ⟨w.heap.size, 1, none⟩ = some (.int .i64 n) ∧ w'.cell? ⟨w.heap.size, 2, none⟩ = some (.int .i64 ek) ∧ w'.cell? ⟨w.heap.size, 3, none⟩ = some (.int .i64 en) ∧ w'.cell? ⟨w.heap.size, 4, none⟩ = some (.slice ead em ec)) (by kernel_rfl) ⟨(Below.refl _ _).drew, x0, x1, x2, x3, x4⟩ (fun hHeld => ?_)
  obtain ⟨Wd, hWd⟩ : ∃ Wd, W1.drew = Wd := ⟨_, rfl⟩
  rw [hWd] at hHeld ⊢
  clear hWd
  refine take_at (i := 0) (n := 19) (v := ?_) rfl rfl (by kernel_rfl) (by kernel_rfl) (by kernel_rfl) (fun _ _ _ h => h) (Or.inl ⟨by rfl, ?_⟩) (by assumption) ?_
  rotate_left 1
  · intro wz hSw
    obtain ⟨-, s0, s1, s2, s3, s4⟩ := hSw
    first | (go_simp; done) | (go_simp; with_reducible rfl)
  simp only [List.set_cons_zero, List.set_cons_succ]
  refine take_at (i := 1) (n := 20) (v := ?_) rfl rfl (by kernel_rfl) (by kernel_rfl) (by kernel_rfl) (fun _ _ _ h => h) (Or.inl ⟨by rfl, ?_⟩) (by assumption) ?_
  rotate_left 1
  · intro wz hSw
    obtain ⟨-, s0, s1, s2, s3, s4⟩ := hSw
    first | (go_simp; done) | (go_simp; with_reducible rfl)
  simp only [List.set_cons_zero, List.set_cons_succ]
  refine take_at (i := 7) (n := 24) (v := ?_) rfl rfl (by kernel_rfl) (by kernel_rfl) (by kernel_rfl) (fun _ _ _ h => h) (Or.inl ⟨by rfl, ?_⟩) (by assumption) ?_
  rotate_left 1
  · intro wz hSw
    obtain ⟨-, s0, s1, s2, s3, s4⟩ := hSw
    first | (go_simp; done) | (go_simp; with_reducible rfl)
  simp only [List.set_cons_zero, List.set_cons_succ]
  refine take_at (i := 8) (n := 25) (v := ?_) rfl rfl (by kernel_rfl) (by kernel_rfl) (by kernel_rfl) (fun _ _ _ h => h) (Or.inl ⟨by rfl, ?_⟩) (by assumption) ?_
  rotate_left 1
  · intro wz hSw
    obtain ⟨-, s0, s1, s2, s3, s4⟩ := hSw
    first | (go_simp; done) | (go_simp; with_reducible rfl)
  simp only [List.set_cons_zero, List.set_cons_succ]
  refine take_at (i := 10) (n := 27) (v := ?_) rfl rfl (by kernel_rfl) (by kernel_rfl) (by kernel_rfl) (fun _ _ _ h => h) (Or.inl ⟨by rfl, ?_⟩) (by assumption) ?_
  rotate_left 1
  · intro wz hSw
    obtain ⟨-, s0, s1, s2, s3, s4⟩ := hSw
    first | (go_simp; done) | (go_simp; with_reducible rfl)
  simp only [List.set_cons_zero, List.set_cons_succ]
  refine take_at (i := 11) (n := 28) (v := ?_) rfl rfl (by kernel_rfl) (by kernel_rfl) (by kernel_rfl) (fun _ _ _ h => h) (Or.inl ⟨by rfl, ?_⟩) (by assumption) ?_
  rotate_left 1
  · intro wz hSw
    obtain ⟨-, s0, s1, s2, s3, s4⟩ := hSw
    first | (go_simp; done) | (go_simp; with_reducible rfl)
  simp only [List.set_cons_zero, List.set_cons_succ]
  refine wpAnyH_ready (rs := [2, 3]) (by kernel_rfl) (by simp) ?_
  refine AllReadyH.cons rfl (fun K hK => ?_) (AllReadyH.cons rfl (fun K hK => ?_) AllReadyH.nil)
  · go_simp
    refine (HCe.out _ hHeld.1).mono ?_
    rintro r wE ⟨vE, rfl, hoE, hbE⟩
    obtain ⟨adE, cE, hvE⟩ := hoE.shape
    subst hvE
    have hoE := hoE.low (B' := W1.heap.size) hHeld.1.size
    refine hK.out _ _ ⟨below_seq hHeld.1 hbE, below_cell hbE hHeld.2.1, below_cell hbE hHeld.2.2.1, below_cell hbE hHeld.2.2.2.1, below_cell hbE hHeld.2.2.2.2.1, below_cell hbE hHeld.2.2.2.2.2⟩ (fun hHeld => ?_)
    clear hK K
    refine wpAnyH_ready (rs := [3]) (by kernel_rfl) (by simp) ?_
    refine AllReadyH.cons rfl (fun K hK => ?_) AllReadyH.nil
    · go_simp
      have neE : ∀ k, (Value.slice adE Ep.length cE).ownBlock = some k → k ≠ wE.heap.size := fun k hk e => by have := (hoE.lt k hk).2; omega
      have hbM := below_new wE (.map #[] 0)
      have hoE := hoE.below hbM
      have hM : HtAt (wE.alloc (.map #[] 0)) wE.heap.size 0 (fun _ => none) := HtAt.made wE
      have hgM : W1.heap.size ≤ wE.heap.size := hHeld.1.size
      refine hK.out _ _ ⟨below_seq hHeld.1 hbM, below_cell hbM hHeld.2.1, below_cell hbM hHeld.2.2.1, below_cell hbM hHeld.2.2.2.1, below_cell hbM hHeld.2.2.2.2.1, below_cell hbM hHeld.2.2.2.2.2⟩ (fun hHeld => ?_)
      clear hK K
      refine wpAnyH_ready (rs := [4, 5]) (by kernel_rfl) (by simp) ?_
      refine AllReadyH.cons rfl (fun K hK => ?_) (AllReadyH.cons rfl (fun K hK => ?_) AllReadyH.nil)
      · obtain ⟨wia, hra, hM, hga⟩ := hM.set (by omega) (z := 1) (v := 3) (by omega) (by omega)
        go_simp
        have hBa : Below W1.heap.size W1 wia := hHeld.1.grown hga hHeld.1.size (fun j hj => by cases hj; omega)
        have hoE := hoE.grown hga (fun k hk e => neE k hk (Option.some.inj e).symm)
        refine hK.out _ _ ⟨hBa, below_cell hBa x0, below_cell hBa x1, below_cell hBa x2, below_cell hBa x3, below_cell hBa x4⟩ (fun hHeld => ?_)
        clear hK K hra hga
        refine wpAnyH_ready (rs := [5]) (by kernel_rfl) (by simp) ?_
        refine AllReadyH.cons rfl (fun K hK => ?_) AllReadyH.nil
        · obtain ⟨wib, hrb, hM, hgb⟩ := hM.set (by omega) (z := 2) (v := 10) (by omega) (by omega)
          go_simp
          have hBb : Below W1.heap.size W1 wib := hHeld.1.grown hgb hHeld.1.size (fun j hj => by cases hj; omega)
          have hoE := hoE.grown hgb (fun k hk e => neE k hk (Option.some.inj e).symm)
          refine hK.out _ _ ⟨hBb, below_cell hBb x0, below_cell hBb x1, below_cell hBb x2, below_cell hBb x3, below_cell hBb x4⟩ (fun hHeld => ?_)
          clear hK K hrb hgb
          refine take_at (i := 6) (n := 23) (v := ?_) rfl rfl (by kernel_rfl) (by kernel_rfl) (by kernel_rfl) (fun _ _ _ h => h) (Or.inl ⟨by rfl, ?_⟩) (by assumption) ?_
          rotate_left 1
          · intro wz hSw
            obtain ⟨-, s0, s1, s2, s3, s4⟩ := hSw
            first | (go_simp; done) | (go_simp; with_reducible rfl)
          simp only [List.set_cons_zero, List.set_cons_succ]
          refine wpAnyH_ready (rs := [9]) (by kernel_rfl) (by simp) ?_
          refine AllReadyH.cons rfl (fun K hK => ?_) AllReadyH.nil
          · have hl := hM.look1 (z := 2) (by omega)
            unfold setH at hl; rw [if_pos rfl] at hl
            dsimp only [Option.getD_some] at hl
            go_simp
            refine hK.out _ _ hHeld (fun hHeld => ?_)
            clear hK K hl
            refine take_at (i := 12) (n := 29) (v := ?_) rfl rfl (by kernel_rfl) (by kernel_rfl) (by kernel_rfl) (fun _ _ _ h => h) (Or.inl ⟨by rfl, ?_⟩) (by assumption) ?_
            rotate_left 1
            · intro wz hSw
              obtain ⟨-, s0, s1, s2, s3, s4⟩ := hSw
              first | (go_simp; done) | (go_simp; with_reducible rfl)
            simp only [List.set_cons_zero, List.set_cons_succ]
            refine wpAnyH_ready (rs := [13]) (by kernel_rfl) (by simp) ?_
            refine AllReadyH.cons rfl (fun K hK => ?_) AllReadyH.nil
            · go_simp
              have hbQ := below_new wib (.cells #[.int .i64 10, .int .i64 n, .int .i64 0] 35)
              have hoE := hoE.below hbQ
              have hM := hM.below hbQ
              have hoQ : Ow (wib.alloc (.cells #[.int .i64 10, .int .i64 n, .int .i64 0] 35)) W1.heap.size (.slice (some ⟨wib.heap.size, 0, none⟩) 1 1) [⟨10, n, 0⟩] := (Ow.lit wib [⟨10, n, 0⟩] _ rfl (by simp)).low hHeld.1.size
              refine hK.out _ _ ⟨below_seq hHeld.1 hbQ, below_cell hbQ hHeld.2.1, below_cell hbQ hHeld.2.2.1, below_cell hbQ hHeld.2.2.2.1, below_cell hbQ hHeld.2.2.2.2.1, below_cell hbQ hHeld.2.2.2.2.2⟩ (fun hHeld => ?_)
              clear hK K
              refine wpAnyH_ready (rs := [14]) (by kernel_rfl) (by simp) ?_
              refine AllReadyH.cons rfl (fun K hK => ?_) AllReadyH.nil
              · obtain ⟨v6, w6, hrun, ho6, hg6, -⟩ := append_two (P := Tryd.prog) (wib.alloc (.cells #[.int .i64 10, .int .i64 n, .int .i64 0] 35)) _ _ 22 22 35 i0 _ 3 24 Tryd.underlying22 hi0 hz0 hz1 hz2 rfl (by decide) _ _ (insVs Ep) hoE _ _ (insVs [⟨10, n, 0⟩]) hoQ (insVs_one _) (by simp only [List.length_cons, List.length_nil]; unfold maxLen; omega) (by simp only [List.length_cons, List.length_nil]; omega) hHeld.1.size
                obtain ⟨ad6, c6, rfl⟩ := owns_value ho6
                refine region_append rfl (.tmp 21) (.tmp 30) 22 rfl rfl rfl hrun ?_
                have hB6 : Below W1.heap.size W1 w6 := hHeld.1.grown hg6 hHeld.1.size (fun k hk => (hoE.lt k hk).1)
                refine hK.out _ _ ⟨hB6, below_cell hB6 x0, below_cell hB6 x1, below_cell hB6 x2, below_cell hB6 x3, below_cell hB6 x4⟩ (fun hHeld => ?_)
                clear hK K
                simp only [Act.put, List.setIfInBounds_toArray]
                refine take_at (i := 15) (n := 4) (v := ?_) rfl rfl (by kernel_rfl) (by kernel_rfl) (by kernel_rfl) (fun _ _ _ h => h) (Or.inl ⟨by rfl, ?_⟩) (by assumption) ?_
                rotate_left 1
                · intro wz hSw
                  obtain ⟨-, s0, s1, s2, s3, s4⟩ := hSw
                  first | (go_simp; done) | (go_simp; with_reducible rfl)
                simp only [List.set_cons_zero, List.set_cons_succ]
                refine wpAnyH_done (by kernel_rfl) ?_ _
                refine NoPanic.normal ?_
                have H6 : Hid (w6.ownsRow W1.heap.size 35 3 (.slice ad6 (Ep.length + [(⟨10, n, 0⟩ : Io)].length) c6) (Ep.length + [(⟨10, n, 0⟩ : Io)].length) (insVs Ep ++ insVs [⟨10, n, 0⟩]) ∧ Below W1.heap.size W1 w6) := ⟨ho6, hHeld.1⟩
                go_wp2_with fail
                go_ret
                refine ⟨_, rfl, ?_, below_seq HX.out.1 H6.out.2⟩
                refine Ow.low (B := W1.heap.size) ?_ (by have := HX.out.2; omega)
                unfold Ow
                rw [List.length_append, insVs_append]
                exact H6.out.1
      · obtain ⟨wib, hrb, hM, hgb⟩ := hM.set (by omega) (z := 2) (v := 10) (by omega) (by omega)
        go_simp
        have hBb : Below W1.heap.size W1 wib := hHeld.1.grown hgb hHeld.1.size (fun j hj => by cases hj; omega)
        have hoE := hoE.grown hgb (fun k hk e => neE k hk (Option.some.inj e).symm)
        refine hK.out _ _ ⟨hBb, below_cell hBb x0, below_cell hBb x1, below_cell hBb x2, below_cell hBb x3, below_cell hBb x4⟩ (fun hHeld => ?_)
        clear hK K hrb hgb
        refine wpAnyH_ready (rs := [4]) (by kernel_rfl) (by simp) ?_
        refine AllReadyH.cons rfl (fun K hK => ?_) AllReadyH.nil
        · obtain ⟨wia, hra, hM, hga⟩ := hM.set (by omega) (z := 1) (v := 3) (by omega) (by omega)
          go_simp
          have hBa : Below W1.heap.size W1 wia := hHeld.1.grown hga hHeld.1.size (fun j hj => by cases hj; omega)
          have hoE := hoE.grown hga (fun k hk e => neE k hk (Option.some.inj e).symm)
          refine hK.out _ _ ⟨hBa, below_cell hBa x0, below_cell hBa x1, below_cell hBa x2, below_cell hBa x3, below_cell hBa x4⟩ (fun hHeld => ?_)
          clear hK K hra hga
          refine take_at (i := 6) (n := 23) (v := ?_) rfl rfl (by kernel_rfl) (by kernel_rfl) (by kernel_rfl) (fun _ _ _ h => h) (Or.inl ⟨by rfl, ?_⟩) (by assumption) ?_
          rotate_left 1
          · intro wz hSw
            obtain ⟨-, s0, s1, s2, s3, s4⟩ := hSw
            first | (go_simp; done) | (go_simp; with_reducible rfl)
          simp only [List.set_cons_zero, List.set_cons_succ]
          refine wpAnyH_ready (rs := [9]) (by kernel_rfl) (by simp) ?_
          refine AllReadyH.cons rfl (fun K hK => ?_) AllReadyH.nil
          · have hl := hM.look1 (z := 2) (by omega)
            unfold setH at hl; rw [if_neg (by decide), if_pos rfl] at hl
            dsimp only [Option.getD_some] at hl
            go_simp
            refine hK.out _ _ hHeld (fun hHeld => ?_)
            clear hK K hl
            refine take_at (i := 12) (n := 29) (v := ?_) rfl rfl (by kernel_rfl) (by kernel_rfl) (by kernel_rfl) (fun _ _ _ h => h) (Or.inl ⟨by rfl, ?_⟩) (by assumption) ?_
            rotate_left 1
            · intro wz hSw
              obtain ⟨-, s0, s1, s2, s3, s4⟩ := hSw
              first | (go_simp; done) | (go_simp; with_reducible rfl)
            simp only [List.set_cons_zero, List.set_cons_succ]
            refine wpAnyH_ready (rs := [13]) (by kernel_rfl) (by simp) ?_
            refine AllReadyH.cons rfl (fun K hK => ?_) AllReadyH.nil
            · go_simp
              have hbQ := below_new wia (.cells #[.int .i64 10, .int .i64 n, .int .i64 0] 35)
              have hoE := hoE.below hbQ
              have hM := hM.below hbQ
              have hoQ : Ow (wia.alloc (.cells #[.int .i64 10, .int .i64 n, .int .i64 0] 35)) W1.heap.size (.slice (some ⟨wia.heap.size, 0, none⟩) 1 1) [⟨10, n, 0⟩] := (Ow.lit wia [⟨10, n, 0⟩] _ rfl (by simp)).low hHeld.1.size
              refine hK.out _ _ ⟨below_seq hHeld.1 hbQ, below_cell hbQ hHeld.2.1, below_cell hbQ hHeld.2.2.1, below_cell hbQ hHeld.2.2.2.1, below_cell hbQ hHeld.2.2.2.2.1, below_cell hbQ hHeld.2.2.2.2.2⟩ (fun hHeld => ?_)
              clear hK K
              refine wpAnyH_ready (rs := [14]) (by kernel_rfl) (by simp) ?_
              refine AllReadyH.cons rfl (fun K hK => ?_) AllReadyH.nil
              · obtain ⟨v6, w6, hrun, ho6, hg6, -⟩ := append_two (P := Tryd.prog) (wia.alloc (.cells #[.int .i64 10, .int .i64 n, .int .i64 0] 35)) _ _ 22 22 35 i0 _ 3 24 Tryd.underlying22 hi0 hz0 hz1 hz2 rfl (by decide) _ _ (insVs Ep) hoE _ _ (insVs [⟨10, n, 0⟩]) hoQ (insVs_one _) (by simp only [List.length_cons, List.length_nil]; unfold maxLen; omega) (by simp only [List.length_cons, List.length_nil]; omega) hHeld.1.size
                obtain ⟨ad6, c6, rfl⟩ := owns_value ho6
                refine region_append rfl (.tmp 21) (.tmp 30) 22 rfl rfl rfl hrun ?_
                have hB6 : Below W1.heap.size W1 w6 := hHeld.1.grown hg6 hHeld.1.size (fun k hk => (hoE.lt k hk).1)
                refine hK.out _ _ ⟨hB6, below_cell hB6 x0, below_cell hB6 x1, below_cell hB6 x2, below_cell hB6 x3, below_cell hB6 x4⟩ (fun hHeld => ?_)
                clear hK K
                simp only [Act.put, List.setIfInBounds_toArray]
                refine take_at (i := 15) (n := 4) (v := ?_) rfl rfl (by kernel_rfl) (by kernel_rfl) (by kernel_rfl) (fun _ _ _ h => h) (Or.inl ⟨by rfl, ?_⟩) (by assumption) ?_
                rotate_left 1
                · intro wz hSw
                  obtain ⟨-, s0, s1, s2, s3, s4⟩ := hSw
                  first | (go_simp; done) | (go_simp; with_reducible rfl)
                simp only [List.set_cons_zero, List.set_cons_succ]
                refine wpAnyH_done (by kernel_rfl) ?_ _
                refine NoPanic.normal ?_
                have H6 : Hid (w6.ownsRow W1.heap.size 35 3 (.slice ad6 (Ep.length + [(⟨10, n, 0⟩ : Io)].length) c6) (Ep.length + [(⟨10, n, 0⟩ : Io)].length) (insVs Ep ++ insVs [⟨10, n, 0⟩]) ∧ Below W1.heap.size W1 w6) := ⟨ho6, hHeld.1⟩
                go_wp2_with fail
                go_ret
                refine ⟨_, rfl, ?_, below_seq HX.out.1 H6.out.2⟩
                refine Ow.low (B := W1.heap.size) ?_ (by have := HX.out.2; omega)
                unfold Ow
                rw [List.length_append, insVs_append]
                exact H6.out.1
  · go_simp
    have hbM := below_new Wd (.map #[] 0)
    have hM : HtAt (Wd.alloc (.map #[] 0)) Wd.heap.size 0 (fun _ => none) := HtAt.made Wd
    have hgM : W1.heap.size ≤ Wd.heap.size := hHeld.1.size
    refine hK.out _ _ ⟨below_seq hHeld.1 hbM, below_cell hbM hHeld.2.1, below_cell hbM hHeld.2.2.1, below_cell hbM hHeld.2.2.2.1, below_cell hbM hHeld.2.2.2.2.1, below_cell hbM hHeld.2.2.2.2.2⟩ (fun hHeld => ?_)
    clear hK K
    refine wpAnyH_ready (rs := [2, 4, 5]) (by kernel_rfl) (by simp) ?_
    refine AllReadyH.cons rfl (fun K hK => ?_) (AllReadyH.cons rfl (fun K hK => ?_) (AllReadyH.cons rfl (fun K hK => ?_) AllReadyH.nil))
    · go_simp
      refine (HCe.out _ hHeld.1).mono ?_
      rintro r wE ⟨vE, rfl, hoE, hbE⟩
      obtain ⟨adE, cE, hvE⟩ := hoE.shape
      subst hvE
      have neE : ∀ k, (Value.slice adE Ep.length cE).ownBlock = some k → k ≠ Wd.heap.size := fun k hk e => by have h1 := (hoE.lt k hk).1; have h2 := HtAt_lt2 hM; first | omega | (simp at h1 h2; omega)
      have hM := hM.below hbE
      have hoE := hoE.low (B' := W1.heap.size) hHeld.1.size
      refine hK.out _ _ ⟨below_seq hHeld.1 hbE, below_cell hbE hHeld.2.1, below_cell hbE hHeld.2.2.1, below_cell hbE hHeld.2.2.2.1, below_cell hbE hHeld.2.2.2.2.1, below_cell hbE hHeld.2.2.2.2.2⟩ (fun hHeld => ?_)
      clear hK K
      refine wpAnyH_ready (rs := [4, 5]) (by kernel_rfl) (by simp) ?_
      refine AllReadyH.cons rfl (fun K hK => ?_) (AllReadyH.cons rfl (fun K hK => ?_) AllReadyH.nil)
      · obtain ⟨wia, hra, hM, hga⟩ := hM.set (by omega) (z := 1) (v := 3) (by omega) (by omega)
        go_simp
        have hBa : Below W1.heap.size W1 wia := hHeld.1.grown hga hHeld.1.size (fun j hj => by cases hj; omega)
        have hoE := hoE.grown hga (fun k hk e => neE k hk (Option.some.inj e).symm)
        refine hK.out _ _ ⟨hBa, below_cell hBa x0, below_cell hBa x1, below_cell hBa x2, below_cell hBa x3, below_cell hBa x4⟩ (fun hHeld => ?_)
        clear hK K hra hga
        refine wpAnyH_ready (rs := [5]) (by kernel_rfl) (by simp) ?_
        refine AllReadyH.cons rfl (fun K hK => ?_) AllReadyH.nil
        · obtain ⟨wib, hrb, hM, hgb⟩ := hM.set (by omega) (z := 2) (v := 10) (by omega) (by omega)
          go_simp
          have hBb : Below W1.heap.size W1 wib := hHeld.1.grown hgb hHeld.1.size (fun j hj => by cases hj; omega)
          have hoE := hoE.grown hgb (fun k hk e => neE k hk (Option.some.inj e).symm)
          refine hK.out _ _ ⟨hBb, below_cell hBb x0, below_cell hBb x1, below_cell hBb x2, below_cell hBb x3, below_cell hBb x4⟩ (fun hHeld => ?_)
          clear hK K hrb hgb
          refine take_at (i := 6) (n := 23) (v := ?_) rfl rfl (by kernel_rfl) (by kernel_rfl) (by kernel_rfl) (fun _ _ _ h => h) (Or.inl ⟨by rfl, ?_⟩) (by assumption) ?_
          rotate_left 1
          · intro wz hSw
            obtain ⟨-, s0, s1, s2, s3, s4⟩ := hSw
            first | (go_simp; done) | (go_simp; with_reducible rfl)
          simp only [List.set_cons_zero, List.set_cons_succ]
          refine wpAnyH_ready (rs := [9]) (by kernel_rfl) (by simp) ?_
          refine AllReadyH.cons rfl (fun K hK => ?_) AllReadyH.nil
          · have hl := hM.look1 (z := 2) (by omega)
            unfold setH at hl; rw [if_pos rfl] at hl
            dsimp only [Option.getD_some] at hl
            go_simp
            refine hK.out _ _ hHeld (fun hHeld => ?_)
            clear hK K hl
            refine take_at (i := 12) (n := 29) (v := ?_) rfl rfl (by kernel_rfl) (by kernel_rfl) (by kernel_rfl) (fun _ _ _ h => h) (Or.inl ⟨by rfl, ?_⟩) (by assumption) ?_
            rotate_left 1
            · intro wz hSw
              obtain ⟨-, s0, s1, s2, s3, s4⟩ := hSw
              first | (go_simp; done) | (go_simp; with_reducible rfl)
            simp only [List.set_cons_zero, List.set_cons_succ]
            refine wpAnyH_ready (rs := [13]) (by kernel_rfl) (by simp) ?_
            refine AllReadyH.cons rfl (fun K hK => ?_) AllReadyH.nil
            · go_simp
              have hbQ := below_new wib (.cells #[.int .i64 10, .int .i64 n, .int .i64 0] 35)
              have hoE := hoE.below hbQ
              have hM := hM.below hbQ
              have hoQ : Ow (wib.alloc (.cells #[.int .i64 10, .int .i64 n, .int .i64 0] 35)) W1.heap.size (.slice (some ⟨wib.heap.size, 0, none⟩) 1 1) [⟨10, n, 0⟩] := (Ow.lit wib [⟨10, n, 0⟩] _ rfl (by simp)).low hHeld.1.size
              refine hK.out _ _ ⟨below_seq hHeld.1 hbQ, below_cell hbQ hHeld.2.1, below_cell hbQ hHeld.2.2.1, below_cell hbQ hHeld.2.2.2.1, below_cell hbQ hHeld.2.2.2.2.1, below_cell hbQ hHeld.2.2.2.2.2⟩ (fun hHeld => ?_)
              clear hK K
              refine wpAnyH_ready (rs := [14]) (by kernel_rfl) (by simp) ?_
              refine AllReadyH.cons rfl (fun K hK => ?_) AllReadyH.nil
              · obtain ⟨v6, w6, hrun, ho6, hg6, -⟩ := append_two (P := Tryd.prog) (wib.alloc (.cells #[.int .i64 10, .int .i64 n, .int .i64 0] 35)) _ _ 22 22 35 i0 _ 3 24 Tryd.underlying22 hi0 hz0 hz1 hz2 rfl (by decide) _ _ (insVs Ep) hoE _ _ (insVs [⟨10, n, 0⟩]) hoQ (insVs_one _) (by simp only [List.length_cons, List.length_nil]; unfold maxLen; omega) (by simp only [List.length_cons, List.length_nil]; omega) hHeld.1.size
                obtain ⟨ad6, c6, rfl⟩ := owns_value ho6
                refine region_append rfl (.tmp 21) (.tmp 30) 22 rfl rfl rfl hrun ?_
                have hB6 : Below W1.heap.size W1 w6 := hHeld.1.grown hg6 hHeld.1.size (fun k hk => (hoE.lt k hk).1)
                refine hK.out _ _ ⟨hB6, below_cell hB6 x0, below_cell hB6 x1, below_cell hB6 x2, below_cell hB6 x3, below_cell hB6 x4⟩ (fun hHeld => ?_)
                clear hK K
                simp only [Act.put, List.setIfInBounds_toArray]
                refine take_at (i := 15) (n := 4) (v := ?_) rfl rfl (by kernel_rfl) (by kernel_rfl) (by kernel_rfl) (fun _ _ _ h => h) (Or.inl ⟨by rfl, ?_⟩) (by assumption) ?_
                rotate_left 1
                · intro wz hSw
                  obtain ⟨-, s0, s1, s2, s3, s4⟩ := hSw
                  first | (go_simp; done) | (go_simp; with_reducible rfl)
                simp only [List.set_cons_zero, List.set_cons_succ]
                refine wpAnyH_done (by kernel_rfl) ?_ _
                refine NoPanic.normal ?_
                have H6 : Hid (w6.ownsRow W1.heap.size 35 3 (.slice ad6 (Ep.length + [(⟨10, n, 0⟩ : Io)].length) c6) (Ep.length + [(⟨10, n, 0⟩ : Io)].length) (insVs Ep ++ insVs [⟨10, n, 0⟩]) ∧ Below W1.heap.size W1 w6) := ⟨ho6, hHeld.1⟩
                go_wp2_with fail
                go_ret
                refine ⟨_, rfl, ?_, below_seq HX.out.1 H6.out.2⟩
                refine Ow.low (B := W1.heap.size) ?_ (by have := HX.out.2; omega)
                unfold Ow
                rw [List.length_append, insVs_append]
                exact H6.out.1
      · obtain ⟨wib, hrb, hM, hgb⟩ := hM.set (by omega) (z := 2) (v := 10) (by omega) (by omega)
        go_simp
        have hBb : Below W1.heap.size W1 wib := hHeld.1.grown hgb hHeld.1.size (fun j hj => by cases hj; omega)
        have hoE := hoE.grown hgb (fun k hk e => neE k hk (Option.some.inj e).symm)
        refine hK.out _ _ ⟨hBb, below_cell hBb x0, below_cell hBb x1, below_cell hBb x2, below_cell hBb x3, below_cell hBb x4⟩ (fun hHeld => ?_)
        clear hK K hrb hgb
        refine wpAnyH_ready (rs := [4]) (by kernel_rfl) (by simp) ?_
        refine AllReadyH.cons rfl (fun K hK => ?_) AllReadyH.nil
        · obtain ⟨wia, hra, hM, hga⟩ := hM.set (by omega) (z := 1) (v := 3) (by omega) (by omega)
          go_simp
          have hBa : Below W1.heap.size W1 wia := hHeld.1.grown hga hHeld.1.size (fun j hj => by cases hj; omega)
          have hoE := hoE.grown hga (fun k hk e => neE k hk (Option.some.inj e).symm)
          refine hK.out _ _ ⟨hBa, below_cell hBa x0, below_cell hBa x1, below_cell hBa x2, below_cell hBa x3, below_cell hBa x4⟩ (fun hHeld => ?_)
          clear hK K hra hga
          refine take_at (i := 6) (n := 23) (v := ?_) rfl rfl (by kernel_rfl) (by kernel_rfl) (by kernel_rfl) (fun _ _ _ h => h) (Or.inl ⟨by rfl, ?_⟩) (by assumption) ?_
          rotate_left 1
          · intro wz hSw
            obtain ⟨-, s0, s1, s2, s3, s4⟩ := hSw
            first | (go_simp; done) | (go_simp; with_reducible rfl)
          simp only [List.set_cons_zero, List.set_cons_succ]
          refine wpAnyH_ready (rs := [9]) (by kernel_rfl) (by simp) ?_
          refine AllReadyH.cons rfl (fun K hK => ?_) AllReadyH.nil
          · have hl := hM.look1 (z := 2) (by omega)
            unfold setH at hl; rw [if_neg (by decide), if_pos rfl] at hl
            dsimp only [Option.getD_some] at hl
            go_simp
            refine hK.out _ _ hHeld (fun hHeld => ?_)
            clear hK K hl
            refine take_at (i := 12) (n := 29) (v := ?_) rfl rfl (by kernel_rfl) (by kernel_rfl) (by kernel_rfl) (fun _ _ _ h => h) (Or.inl ⟨by rfl, ?_⟩) (by assumption) ?_
            rotate_left 1
            · intro wz hSw
              obtain ⟨-, s0, s1, s2, s3, s4⟩ := hSw
              first | (go_simp; done) | (go_simp; with_reducible rfl)
            simp only [List.set_cons_zero, List.set_cons_succ]
            refine wpAnyH_ready (rs := [13]) (by kernel_rfl) (by simp) ?_
            refine AllReadyH.cons rfl (fun K hK => ?_) AllReadyH.nil
            · go_simp
              have hbQ := below_new wia (.cells #[.int .i64 10, .int .i64 n, .int .i64 0] 35)
              have hoE := hoE.below hbQ
              have hM := hM.below hbQ
              have hoQ : Ow (wia.alloc (.cells #[.int .i64 10, .int .i64 n, .int .i64 0] 35)) W1.heap.size (.slice (some ⟨wia.heap.size, 0, none⟩) 1 1) [⟨10, n, 0⟩] := (Ow.lit wia [⟨10, n, 0⟩] _ rfl (by simp)).low hHeld.1.size
              refine hK.out _ _ ⟨below_seq hHeld.1 hbQ, below_cell hbQ hHeld.2.1, below_cell hbQ hHeld.2.2.1, below_cell hbQ hHeld.2.2.2.1, below_cell hbQ hHeld.2.2.2.2.1, below_cell hbQ hHeld.2.2.2.2.2⟩ (fun hHeld => ?_)
              clear hK K
              refine wpAnyH_ready (rs := [14]) (by kernel_rfl) (by simp) ?_
              refine AllReadyH.cons rfl (fun K hK => ?_) AllReadyH.nil
              · obtain ⟨v6, w6, hrun, ho6, hg6, -⟩ := append_two (P := Tryd.prog) (wia.alloc (.cells #[.int .i64 10, .int .i64 n, .int .i64 0] 35)) _ _ 22 22 35 i0 _ 3 24 Tryd.underlying22 hi0 hz0 hz1 hz2 rfl (by decide) _ _ (insVs Ep) hoE _ _ (insVs [⟨10, n, 0⟩]) hoQ (insVs_one _) (by simp only [List.length_cons, List.length_nil]; unfold maxLen; omega) (by simp only [List.length_cons, List.length_nil]; omega) hHeld.1.size
                obtain ⟨ad6, c6, rfl⟩ := owns_value ho6
                refine region_append rfl (.tmp 21) (.tmp 30) 22 rfl rfl rfl hrun ?_
                have hB6 : Below W1.heap.size W1 w6 := hHeld.1.grown hg6 hHeld.1.size (fun k hk => (hoE.lt k hk).1)
                refine hK.out _ _ ⟨hB6, below_cell hB6 x0, below_cell hB6 x1, below_cell hB6 x2, below_cell hB6 x3, below_cell hB6 x4⟩ (fun hHeld => ?_)
                clear hK K
                simp only [Act.put, List.setIfInBounds_toArray]
                refine take_at (i := 15) (n := 4) (v := ?_) rfl rfl (by kernel_rfl) (by kernel_rfl) (by kernel_rfl) (fun _ _ _ h => h) (Or.inl ⟨by rfl, ?_⟩) (by assumption) ?_
                rotate_left 1
                · intro wz hSw
                  obtain ⟨-, s0, s1, s2, s3, s4⟩ := hSw
                  first | (go_simp; done) | (go_simp; with_reducible rfl)
                simp only [List.set_cons_zero, List.set_cons_succ]
                refine wpAnyH_done (by kernel_rfl) ?_ _
                refine NoPanic.normal ?_
                have H6 : Hid (w6.ownsRow W1.heap.size 35 3 (.slice ad6 (Ep.length + [(⟨10, n, 0⟩ : Io)].length) c6) (Ep.length + [(⟨10, n, 0⟩ : Io)].length) (insVs Ep ++ insVs [⟨10, n, 0⟩]) ∧ Below W1.heap.size W1 w6) := ⟨ho6, hHeld.1⟩
                go_wp2_with fail
                go_ret
                refine ⟨_, rfl, ?_, below_seq HX.out.1 H6.out.2⟩
                refine Ow.low (B := W1.heap.size) ?_ (by have := HX.out.2; omega)
                unfold Ow
                rw [List.length_append, insVs_append]
                exact H6.out.1
    · obtain ⟨wia, hra, hM, hga⟩ := hM.set (by omega) (z := 1) (v := 3) (by omega) (by omega)
      go_simp
      have hBa : Below W1.heap.size W1 wia := hHeld.1.grown hga hHeld.1.size (fun j hj => by cases hj; omega)
      refine hK.out _ _ ⟨hBa, below_cell hBa x0, below_cell hBa x1, below_cell hBa x2, below_cell hBa x3, below_cell hBa x4⟩ (fun hHeld => ?_)
      clear hK K hra hga
      refine wpAnyH_ready (rs := [2, 5]) (by kernel_rfl) (by simp) ?_
      refine AllReadyH.cons rfl (fun K hK => ?_) (AllReadyH.cons rfl (fun K hK => ?_) AllReadyH.nil)
      · go_simp
        refine (HCe.out _ hHeld.1).mono ?_
        rintro r wE ⟨vE, rfl, hoE, hbE⟩
        obtain ⟨adE, cE, hvE⟩ := hoE.shape
        subst hvE
        have neE : ∀ k, (Value.slice adE Ep.length cE).ownBlock = some k → k ≠ Wd.heap.size := fun k hk e => by have h1 := (hoE.lt k hk).1; have h2 := HtAt_lt2 hM; first | omega | (simp at h1 h2; omega)
        have hM := hM.below hbE
        have hoE := hoE.low (B' := W1.heap.size) hHeld.1.size
        refine hK.out _ _ ⟨below_seq hHeld.1 hbE, below_cell hbE hHeld.2.1, below_cell hbE hHeld.2.2.1, below_cell hbE hHeld.2.2.2.1, below_cell hbE hHeld.2.2.2.2.1, below_cell hbE hHeld.2.2.2.2.2⟩ (fun hHeld => ?_)
        clear hK K
        refine wpAnyH_ready (rs := [5]) (by kernel_rfl) (by simp) ?_
        refine AllReadyH.cons rfl (fun K hK => ?_) AllReadyH.nil
        · obtain ⟨wib, hrb, hM, hgb⟩ := hM.set (by omega) (z := 2) (v := 10) (by omega) (by omega)
          go_simp
          have hBb : Below W1.heap.size W1 wib := hHeld.1.grown hgb hHeld.1.size (fun j hj => by cases hj; omega)
          have hoE := hoE.grown hgb (fun k hk e => neE k hk (Option.some.inj e).symm)
          refine hK.out _ _ ⟨hBb, below_cell hBb x0, below_cell hBb x1, below_cell hBb x2, below_cell hBb x3, below_cell hBb x4⟩ (fun hHeld => ?_)
          clear hK K hrb hgb
          refine take_at (i := 6) (n := 23) (v := ?_) rfl rfl (by kernel_rfl) (by kernel_rfl) (by kernel_rfl) (fun _ _ _ h => h) (Or.inl ⟨by rfl, ?_⟩) (by assumption) ?_
          rotate_left 1
          · intro wz hSw
            obtain ⟨-, s0, s1, s2, s3, s4⟩ := hSw
            first | (go_simp; done) | (go_simp; with_reducible rfl)
          simp only [List.set_cons_zero, List.set_cons_succ]
          refine wpAnyH_ready (rs := [9]) (by kernel_rfl) (by simp) ?_
          refine AllReadyH.cons rfl (fun K hK => ?_) AllReadyH.nil
          · have hl := hM.look1 (z := 2) (by omega)
            unfold setH at hl; rw [if_pos rfl] at hl
            dsimp only [Option.getD_some] at hl
            go_simp
            refine hK.out _ _ hHeld (fun hHeld => ?_)
            clear hK K hl
            refine take_at (i := 12) (n := 29) (v := ?_) rfl rfl (by kernel_rfl) (by kernel_rfl) (by kernel_rfl) (fun _ _ _ h => h) (Or.inl ⟨by rfl, ?_⟩) (by assumption) ?_
            rotate_left 1
            · intro wz hSw
              obtain ⟨-, s0, s1, s2, s3, s4⟩ := hSw
              first | (go_simp; done) | (go_simp; with_reducible rfl)
            simp only [List.set_cons_zero, List.set_cons_succ]
            refine wpAnyH_ready (rs := [13]) (by kernel_rfl) (by simp) ?_
            refine AllReadyH.cons rfl (fun K hK => ?_) AllReadyH.nil
            · go_simp
              have hbQ := below_new wib (.cells #[.int .i64 10, .int .i64 n, .int .i64 0] 35)
              have hoE := hoE.below hbQ
              have hM := hM.below hbQ
              have hoQ : Ow (wib.alloc (.cells #[.int .i64 10, .int .i64 n, .int .i64 0] 35)) W1.heap.size (.slice (some ⟨wib.heap.size, 0, none⟩) 1 1) [⟨10, n, 0⟩] := (Ow.lit wib [⟨10, n, 0⟩] _ rfl (by simp)).low hHeld.1.size
              refine hK.out _ _ ⟨below_seq hHeld.1 hbQ, below_cell hbQ hHeld.2.1, below_cell hbQ hHeld.2.2.1, below_cell hbQ hHeld.2.2.2.1, below_cell hbQ hHeld.2.2.2.2.1, below_cell hbQ hHeld.2.2.2.2.2⟩ (fun hHeld => ?_)
              clear hK K
              refine wpAnyH_ready (rs := [14]) (by kernel_rfl) (by simp) ?_
              refine AllReadyH.cons rfl (fun K hK => ?_) AllReadyH.nil
              · obtain ⟨v6, w6, hrun, ho6, hg6, -⟩ := append_two (P := Tryd.prog) (wib.alloc (.cells #[.int .i64 10, .int .i64 n, .int .i64 0] 35)) _ _ 22 22 35 i0 _ 3 24 Tryd.underlying22 hi0 hz0 hz1 hz2 rfl (by decide) _ _ (insVs Ep) hoE _ _ (insVs [⟨10, n, 0⟩]) hoQ (insVs_one _) (by simp only [List.length_cons, List.length_nil]; unfold maxLen; omega) (by simp only [List.length_cons, List.length_nil]; omega) hHeld.1.size
                obtain ⟨ad6, c6, rfl⟩ := owns_value ho6
                refine region_append rfl (.tmp 21) (.tmp 30) 22 rfl rfl rfl hrun ?_
                have hB6 : Below W1.heap.size W1 w6 := hHeld.1.grown hg6 hHeld.1.size (fun k hk => (hoE.lt k hk).1)
                refine hK.out _ _ ⟨hB6, below_cell hB6 x0, below_cell hB6 x1, below_cell hB6 x2, below_cell hB6 x3, below_cell hB6 x4⟩ (fun hHeld => ?_)
                clear hK K
                simp only [Act.put, List.setIfInBounds_toArray]
                refine take_at (i := 15) (n := 4) (v := ?_) rfl rfl (by kernel_rfl) (by kernel_rfl) (by kernel_rfl) (fun _ _ _ h => h) (Or.inl ⟨by rfl, ?_⟩) (by assumption) ?_
                rotate_left 1
                · intro wz hSw
                  obtain ⟨-, s0, s1, s2, s3, s4⟩ := hSw
                  first | (go_simp; done) | (go_simp; with_reducible rfl)
                simp only [List.set_cons_zero, List.set_cons_succ]
                refine wpAnyH_done (by kernel_rfl) ?_ _
                refine NoPanic.normal ?_
                have H6 : Hid (w6.ownsRow W1.heap.size 35 3 (.slice ad6 (Ep.length + [(⟨10, n, 0⟩ : Io)].length) c6) (Ep.length + [(⟨10, n, 0⟩ : Io)].length) (insVs Ep ++ insVs [⟨10, n, 0⟩]) ∧ Below W1.heap.size W1 w6) := ⟨ho6, hHeld.1⟩
                go_wp2_with fail
                go_ret
                refine ⟨_, rfl, ?_, below_seq HX.out.1 H6.out.2⟩
                refine Ow.low (B := W1.heap.size) ?_ (by have := HX.out.2; omega)
                unfold Ow
                rw [List.length_append, insVs_append]
                exact H6.out.1
      · obtain ⟨wib, hrb, hM, hgb⟩ := hM.set (by omega) (z := 2) (v := 10) (by omega) (by omega)
        go_simp
        have hBb : Below W1.heap.size W1 wib := hHeld.1.grown hgb hHeld.1.size (fun j hj => by cases hj; omega)
        refine hK.out _ _ ⟨hBb, below_cell hBb x0, below_cell hBb x1, below_cell hBb x2, below_cell hBb x3, below_cell hBb x4⟩ (fun hHeld => ?_)
        clear hK K hrb hgb
        refine take_at (i := 6) (n := 23) (v := ?_) rfl rfl (by kernel_rfl) (by kernel_rfl) (by kernel_rfl) (fun _ _ _ h => h) (Or.inl ⟨by rfl, ?_⟩) (by assumption) ?_
        rotate_left 1
        · intro wz hSw
          obtain ⟨-, s0, s1, s2, s3, s4⟩ := hSw
          first | (go_simp; done) | (go_simp; with_reducible rfl)
        simp only [List.set_cons_zero, List.set_cons_succ]
        refine wpAnyH_ready (rs := [2, 9]) (by kernel_rfl) (by simp) ?_
        refine AllReadyH.cons rfl (fun K hK => ?_) (AllReadyH.cons rfl (fun K hK => ?_) AllReadyH.nil)
        · go_simp
          refine (HCe.out _ hHeld.1).mono ?_
          rintro r wE ⟨vE, rfl, hoE, hbE⟩
          obtain ⟨adE, cE, hvE⟩ := hoE.shape
          subst hvE
          have neE : ∀ k, (Value.slice adE Ep.length cE).ownBlock = some k → k ≠ Wd.heap.size := fun k hk e => by have h1 := (hoE.lt k hk).1; have h2 := HtAt_lt2 hM; first | omega | (simp at h1 h2; omega)
          have hM := hM.below hbE
          have hoE := hoE.low (B' := W1.heap.size) hHeld.1.size
          refine hK.out _ _ ⟨below_seq hHeld.1 hbE, below_cell hbE hHeld.2.1, below_cell hbE hHeld.2.2.1, below_cell hbE hHeld.2.2.2.1, below_cell hbE hHeld.2.2.2.2.1, below_cell hbE hHeld.2.2.2.2.2⟩ (fun hHeld => ?_)
          clear hK K
          refine wpAnyH_ready (rs := [9]) (by kernel_rfl) (by simp) ?_
          refine AllReadyH.cons rfl (fun K hK => ?_) AllReadyH.nil
          · have hl := hM.look1 (z := 2) (by omega)
            unfold setH at hl; rw [if_pos rfl] at hl
            dsimp only [Option.getD_some] at hl
            go_simp
            refine hK.out _ _ hHeld (fun hHeld => ?_)
            clear hK K hl
            refine take_at (i := 12) (n := 29) (v := ?_) rfl rfl (by kernel_rfl) (by kernel_rfl) (by kernel_rfl) (fun _ _ _ h => h) (Or.inl ⟨by rfl, ?_⟩) (by assumption) ?_
            rotate_left 1
            · intro wz hSw
              obtain ⟨-, s0, s1, s2, s3, s4⟩ := hSw
              first | (go_simp; done) | (go_simp; with_reducible rfl)
            simp only [List.set_cons_zero, List.set_cons_succ]
            refine wpAnyH_ready (rs := [13]) (by kernel_rfl) (by simp) ?_
            refine AllReadyH.cons rfl (fun K hK => ?_) AllReadyH.nil
            · go_simp
              have hbQ := below_new wE (.cells #[.int .i64 10, .int .i64 n, .int .i64 0] 35)
              have hoE := hoE.below hbQ
              have hM := hM.below hbQ
              have hoQ : Ow (wE.alloc (.cells #[.int .i64 10, .int .i64 n, .int .i64 0] 35)) W1.heap.size (.slice (some ⟨wE.heap.size, 0, none⟩) 1 1) [⟨10, n, 0⟩] := (Ow.lit wE [⟨10, n, 0⟩] _ rfl (by simp)).low hHeld.1.size
              refine hK.out _ _ ⟨below_seq hHeld.1 hbQ, below_cell hbQ hHeld.2.1, below_cell hbQ hHeld.2.2.1, below_cell hbQ hHeld.2.2.2.1, below_cell hbQ hHeld.2.2.2.2.1, below_cell hbQ hHeld.2.2.2.2.2⟩ (fun hHeld => ?_)
              clear hK K
              refine wpAnyH_ready (rs := [14]) (by kernel_rfl) (by simp) ?_
              refine AllReadyH.cons rfl (fun K hK => ?_) AllReadyH.nil
              · obtain ⟨v6, w6, hrun, ho6, hg6, -⟩ := append_two (P := Tryd.prog) (wE.alloc (.cells #[.int .i64 10, .int .i64 n, .int .i64 0] 35)) _ _ 22 22 35 i0 _ 3 24 Tryd.underlying22 hi0 hz0 hz1 hz2 rfl (by decide) _ _ (insVs Ep) hoE _ _ (insVs [⟨10, n, 0⟩]) hoQ (insVs_one _) (by simp only [List.length_cons, List.length_nil]; unfold maxLen; omega) (by simp only [List.length_cons, List.length_nil]; omega) hHeld.1.size
                obtain ⟨ad6, c6, rfl⟩ := owns_value ho6
                refine region_append rfl (.tmp 21) (.tmp 30) 22 rfl rfl rfl hrun ?_
                have hB6 : Below W1.heap.size W1 w6 := hHeld.1.grown hg6 hHeld.1.size (fun k hk => (hoE.lt k hk).1)
                refine hK.out _ _ ⟨hB6, below_cell hB6 x0, below_cell hB6 x1, below_cell hB6 x2, below_cell hB6 x3, below_cell hB6 x4⟩ (fun hHeld => ?_)
                clear hK K
                simp only [Act.put, List.setIfInBounds_toArray]
                refine take_at (i := 15) (n := 4) (v := ?_) rfl rfl (by kernel_rfl) (by kernel_rfl) (by kernel_rfl) (fun _ _ _ h => h) (Or.inl ⟨by rfl, ?_⟩) (by assumption) ?_
                rotate_left 1
                · intro wz hSw
                  obtain ⟨-, s0, s1, s2, s3, s4⟩ := hSw
                  first | (go_simp; done) | (go_simp; with_reducible rfl)
                simp only [List.set_cons_zero, List.set_cons_succ]
                refine wpAnyH_done (by kernel_rfl) ?_ _
                refine NoPanic.normal ?_
                have H6 : Hid (w6.ownsRow W1.heap.size 35 3 (.slice ad6 (Ep.length + [(⟨10, n, 0⟩ : Io)].length) c6) (Ep.length + [(⟨10, n, 0⟩ : Io)].length) (insVs Ep ++ insVs [⟨10, n, 0⟩]) ∧ Below W1.heap.size W1 w6) := ⟨ho6, hHeld.1⟩
                go_wp2_with fail
                go_ret
                refine ⟨_, rfl, ?_, below_seq HX.out.1 H6.out.2⟩
                refine Ow.low (B := W1.heap.size) ?_ (by have := HX.out.2; omega)
                unfold Ow
                rw [List.length_append, insVs_append]
                exact H6.out.1
        · have hl := hM.look1 (z := 2) (by omega)
          unfold setH at hl; rw [if_pos rfl] at hl
          dsimp only [Option.getD_some] at hl
          go_simp
          refine hK.out _ _ hHeld (fun hHeld => ?_)
          clear hK K hl
          refine take_at (i := 12) (n := 29) (v := ?_) rfl rfl (by kernel_rfl) (by kernel_rfl) (by kernel_rfl) (fun _ _ _ h => h) (Or.inl ⟨by rfl, ?_⟩) (by assumption) ?_
          rotate_left 1
          · intro wz hSw
            obtain ⟨-, s0, s1, s2, s3, s4⟩ := hSw
            first | (go_simp; done) | (go_simp; with_reducible rfl)
          simp only [List.set_cons_zero, List.set_cons_succ]
          refine wpAnyH_ready (rs := [2, 13]) (by kernel_rfl) (by simp) ?_
          refine AllReadyH.cons rfl (fun K hK => ?_) (AllReadyH.cons rfl (fun K hK => ?_) AllReadyH.nil)
          · go_simp
            refine (HCe.out _ hHeld.1).mono ?_
            rintro r wE ⟨vE, rfl, hoE, hbE⟩
            obtain ⟨adE, cE, hvE⟩ := hoE.shape
            subst hvE
            have neE : ∀ k, (Value.slice adE Ep.length cE).ownBlock = some k → k ≠ Wd.heap.size := fun k hk e => by have h1 := (hoE.lt k hk).1; have h2 := HtAt_lt2 hM; first | omega | (simp at h1 h2; omega)
            have hM := hM.below hbE
            have hoE := hoE.low (B' := W1.heap.size) hHeld.1.size
            refine hK.out _ _ ⟨below_seq hHeld.1 hbE, below_cell hbE hHeld.2.1, below_cell hbE hHeld.2.2.1, below_cell hbE hHeld.2.2.2.1, below_cell hbE hHeld.2.2.2.2.1, below_cell hbE hHeld.2.2.2.2.2⟩ (fun hHeld => ?_)
            clear hK K
            refine wpAnyH_ready (rs := [13]) (by kernel_rfl) (by simp) ?_
            refine AllReadyH.cons rfl (fun K hK => ?_) AllReadyH.nil
            · go_simp
              have hbQ := below_new wE (.cells #[.int .i64 10, .int .i64 n, .int .i64 0] 35)
              have hoE := hoE.below hbQ
              have hM := hM.below hbQ
              have hoQ : Ow (wE.alloc (.cells #[.int .i64 10, .int .i64 n, .int .i64 0] 35)) W1.heap.size (.slice (some ⟨wE.heap.size, 0, none⟩) 1 1) [⟨10, n, 0⟩] := (Ow.lit wE [⟨10, n, 0⟩] _ rfl (by simp)).low hHeld.1.size
              refine hK.out _ _ ⟨below_seq hHeld.1 hbQ, below_cell hbQ hHeld.2.1, below_cell hbQ hHeld.2.2.1, below_cell hbQ hHeld.2.2.2.1, below_cell hbQ hHeld.2.2.2.2.1, below_cell hbQ hHeld.2.2.2.2.2⟩ (fun hHeld => ?_)
              clear hK K
              refine wpAnyH_ready (rs := [14]) (by kernel_rfl) (by simp) ?_
              refine AllReadyH.cons rfl (fun K hK => ?_) AllReadyH.nil
              · obtain ⟨v6, w6, hrun, ho6, hg6, -⟩ := append_two (P := Tryd.prog) (wE.alloc (.cells #[.int .i64 10, .int .i64 n, .int .i64 0] 35)) _ _ 22 22 35 i0 _ 3 24 Tryd.underlying22 hi0 hz0 hz1 hz2 rfl (by decide) _ _ (insVs Ep) hoE _ _ (insVs [⟨10, n, 0⟩]) hoQ (insVs_one _) (by simp only [List.length_cons, List.length_nil]; unfold maxLen; omega) (by simp only [List.length_cons, List.length_nil]; omega) hHeld.1.size
                obtain ⟨ad6, c6, rfl⟩ := owns_value ho6
                refine region_append rfl (.tmp 21) (.tmp 30) 22 rfl rfl rfl hrun ?_
                have hB6 : Below W1.heap.size W1 w6 := hHeld.1.grown hg6 hHeld.1.size (fun k hk => (hoE.lt k hk).1)
                refine hK.out _ _ ⟨hB6, below_cell hB6 x0, below_cell hB6 x1, below_cell hB6 x2, below_cell hB6 x3, below_cell hB6 x4⟩ (fun hHeld => ?_)
                clear hK K
                simp only [Act.put, List.setIfInBounds_toArray]
                refine take_at (i := 15) (n := 4) (v := ?_) rfl rfl (by kernel_rfl) (by kernel_rfl) (by kernel_rfl) (fun _ _ _ h => h) (Or.inl ⟨by rfl, ?_⟩) (by assumption) ?_
                rotate_left 1
                · intro wz hSw
                  obtain ⟨-, s0, s1, s2, s3, s4⟩ := hSw
                  first | (go_simp; done) | (go_simp; with_reducible rfl)
                simp only [List.set_cons_zero, List.set_cons_succ]
                refine wpAnyH_done (by kernel_rfl) ?_ _
                refine NoPanic.normal ?_
                have H6 : Hid (w6.ownsRow W1.heap.size 35 3 (.slice ad6 (Ep.length + [(⟨10, n, 0⟩ : Io)].length) c6) (Ep.length + [(⟨10, n, 0⟩ : Io)].length) (insVs Ep ++ insVs [⟨10, n, 0⟩]) ∧ Below W1.heap.size W1 w6) := ⟨ho6, hHeld.1⟩
                go_wp2_with fail
                go_ret
                refine ⟨_, rfl, ?_, below_seq HX.out.1 H6.out.2⟩
                refine Ow.low (B := W1.heap.size) ?_ (by have := HX.out.2; omega)
                unfold Ow
                rw [List.length_append, insVs_append]
                exact H6.out.1
          · go_simp
            have hbQ := below_new wib (.cells #[.int .i64 10, .int .i64 n, .int .i64 0] 35)
            have hM := hM.below hbQ
            have hoQ : Ow (wib.alloc (.cells #[.int .i64 10, .int .i64 n, .int .i64 0] 35)) W1.heap.size (.slice (some ⟨wib.heap.size, 0, none⟩) 1 1) [⟨10, n, 0⟩] := (Ow.lit wib [⟨10, n, 0⟩] _ rfl (by simp)).low hHeld.1.size
            refine hK.out _ _ ⟨below_seq hHeld.1 hbQ, below_cell hbQ hHeld.2.1, below_cell hbQ hHeld.2.2.1, below_cell hbQ hHeld.2.2.2.1, below_cell hbQ hHeld.2.2.2.2.1, below_cell hbQ hHeld.2.2.2.2.2⟩ (fun hHeld => ?_)
            clear hK K
            refine wpAnyH_ready (rs := [2]) (by kernel_rfl) (by simp) ?_
            refine AllReadyH.cons rfl (fun K hK => ?_) AllReadyH.nil
            · go_simp
              refine (HCe.out _ hHeld.1).mono ?_
              rintro r wE ⟨vE, rfl, hoE, hbE⟩
              obtain ⟨adE, cE, hvE⟩ := hoE.shape
              subst hvE
              have hoQ := hoQ.below hbE
              have neE : ∀ k, (Value.slice adE Ep.length cE).ownBlock = some k → k ≠ Wd.heap.size := fun k hk e => by have h1 := (hoE.lt k hk).1; have h2 := HtAt_lt2 hM; first | omega | (simp at h1 h2; omega)
              have hM := hM.below hbE
              have hoE := hoE.low (B' := W1.heap.size) hHeld.1.size
              refine hK.out _ _ ⟨below_seq hHeld.1 hbE, below_cell hbE hHeld.2.1, below_cell hbE hHeld.2.2.1, below_cell hbE hHeld.2.2.2.1, below_cell hbE hHeld.2.2.2.2.1, below_cell hbE hHeld.2.2.2.2.2⟩ (fun hHeld => ?_)
              clear hK K
              refine wpAnyH_ready (rs := [14]) (by kernel_rfl) (by simp) ?_
              refine AllReadyH.cons rfl (fun K hK => ?_) AllReadyH.nil
              · obtain ⟨v6, w6, hrun, ho6, hg6, -⟩ := append_two (P := Tryd.prog) wE _ _ 22 22 35 i0 _ 3 24 Tryd.underlying22 hi0 hz0 hz1 hz2 rfl (by decide) _ _ (insVs Ep) hoE _ _ (insVs [⟨10, n, 0⟩]) hoQ (insVs_one _) (by simp only [List.length_cons, List.length_nil]; unfold maxLen; omega) (by simp only [List.length_cons, List.length_nil]; omega) hHeld.1.size
                obtain ⟨ad6, c6, rfl⟩ := owns_value ho6
                refine region_append rfl (.tmp 21) (.tmp 30) 22 rfl rfl rfl hrun ?_
                have hB6 : Below W1.heap.size W1 w6 := hHeld.1.grown hg6 hHeld.1.size (fun k hk => (hoE.lt k hk).1)
                refine hK.out _ _ ⟨hB6, below_cell hB6 x0, below_cell hB6 x1, below_cell hB6 x2, below_cell hB6 x3, below_cell hB6 x4⟩ (fun hHeld => ?_)
                clear hK K
                simp only [Act.put, List.setIfInBounds_toArray]
                refine take_at (i := 15) (n := 4) (v := ?_) rfl rfl (by kernel_rfl) (by kernel_rfl) (by kernel_rfl) (fun _ _ _ h => h) (Or.inl ⟨by rfl, ?_⟩) (by assumption) ?_
                rotate_left 1
                · intro wz hSw
                  obtain ⟨-, s0, s1, s2, s3, s4⟩ := hSw
                  first | (go_simp; done) | (go_simp; with_reducible rfl)
                simp only [List.set_cons_zero, List.set_cons_succ]
                refine wpAnyH_done (by kernel_rfl) ?_ _
                refine NoPanic.normal ?_
                have H6 : Hid (w6.ownsRow W1.heap.size 35 3 (.slice ad6 (Ep.length + [(⟨10, n, 0⟩ : Io)].length) c6) (Ep.length + [(⟨10, n, 0⟩ : Io)].length) (insVs Ep ++ insVs [⟨10, n, 0⟩]) ∧ Below W1.heap.size W1 w6) := ⟨ho6, hHeld.1⟩
                go_wp2_with fail
                go_ret
                refine ⟨_, rfl, ?_, below_seq HX.out.1 H6.out.2⟩
                refine Ow.low (B := W1.heap.size) ?_ (by have := HX.out.2; omega)
                unfold Ow
                rw [List.length_append, insVs_append]
                exact H6.out.1
    · obtain ⟨wib, hrb, hM, hgb⟩ := hM.set (by omega) (z := 2) (v := 10) (by omega) (by omega)
      go_simp
      have hBb : Below W1.heap.size W1 wib := hHeld.1.grown hgb hHeld.1.size (fun j hj => by cases hj; omega)
      refine hK.out _ _ ⟨hBb, below_cell hBb x0, below_cell hBb x1, below_cell hBb x2, below_cell hBb x3, below_cell hBb x4⟩ (fun hHeld => ?_)
      clear hK K hrb hgb
      refine wpAnyH_ready (rs := [2, 4]) (by kernel_rfl) (by simp) ?_
      refine AllReadyH.cons rfl (fun K hK => ?_) (AllReadyH.cons rfl (fun K hK => ?_) AllReadyH.nil)
      · go_simp
        refine (HCe.out _ hHeld.1).mono ?_
        rintro r wE ⟨vE, rfl, hoE, hbE⟩
        obtain ⟨adE, cE, hvE⟩ := hoE.shape
        subst hvE
        have neE : ∀ k, (Value.slice adE Ep.length cE).ownBlock = some k → k ≠ Wd.heap.size := fun k hk e => by have h1 := (hoE.lt k hk).1; have h2 := HtAt_lt2 hM; first | omega | (simp at h1 h2; omega)
        have hM := hM.below hbE
        have hoE := hoE.low (B' := W1.heap.size) hHeld.1.size
        refine hK.out _ _ ⟨below_seq hHeld.1 hbE, below_cell hbE hHeld.2.1, below_cell hbE hHeld.2.2.1, below_cell hbE hHeld.2.2.2.1, below_cell hbE hHeld.2.2.2.2.1, below_cell hbE hHeld.2.2.2.2.2⟩ (fun hHeld => ?_)
        clear hK K
        refine wpAnyH_ready (rs := [4]) (by kernel_rfl) (by simp) ?_
        refine AllReadyH.cons rfl (fun K hK => ?_) AllReadyH.nil
        · obtain ⟨wia, hra, hM, hga⟩ := hM.set (by omega) (z := 1) (v := 3) (by omega) (by omega)
          go_simp
          have hBa : Below W1.heap.size W1 wia := hHeld.1.grown hga hHeld.1.size (fun j hj => by cases hj; omega)
          have hoE := hoE.grown hga (fun k hk e => neE k hk (Option.some.inj e).symm)
          refine hK.out _ _ ⟨hBa, below_cell hBa x0, below_cell hBa x1, below_cell hBa x2, below_cell hBa x3, below_cell hBa x4⟩ (fun hHeld => ?_)
          clear hK K hra hga
          refine take_at (i := 6) (n := 23) (v := ?_) rfl rfl (by kernel_rfl) (by kernel_rfl) (by kernel_rfl) (fun _ _ _ h => h) (Or.inl ⟨by rfl, ?_⟩) (by assumption) ?_
          rotate_left 1
          · intro wz hSw
            obtain ⟨-, s0, s1, s2, s3, s4⟩ := hSw
            first | (go_simp; done) | (go_simp; with_reducible rfl)
          simp only [List.set_cons_zero, List.set_cons_succ]
          refine wpAnyH_ready (rs := [9]) (by kernel_rfl) (by simp) ?_
          refine AllReadyH.cons rfl (fun K hK => ?_) AllReadyH.nil
          · have hl := hM.look1 (z := 2) (by omega)
            unfold setH at hl; rw [if_neg (by decide), if_pos rfl] at hl
            dsimp only [Option.getD_some] at hl
            go_simp
            refine hK.out _ _ hHeld (fun hHeld => ?_)
            clear hK K hl
            refine take_at (i := 12) (n := 29) (v := ?_) rfl rfl (by kernel_rfl) (by kernel_rfl) (by kernel_rfl) (fun _ _ _ h => h) (Or.inl ⟨by rfl, ?_⟩) (by assumption) ?_
            rotate_left 1
            · intro wz hSw
              obtain ⟨-, s0, s1, s2, s3, s4⟩ := hSw
              first | (go_simp; done) | (go_simp; with_reducible rfl)
            simp only [List.set_cons_zero, List.set_cons_succ]
            refine wpAnyH_ready (rs := [13]) (by kernel_rfl) (by simp) ?_
            refine AllReadyH.cons rfl (fun K hK => ?_) AllReadyH.nil
            · go_simp
              have hbQ := below_new wia (.cells #[.int .i64 10, .int .i64 n, .int .i64 0] 35)
              have hoE := hoE.below hbQ
              have hM := hM.below hbQ
              have hoQ : Ow (wia.alloc (.cells #[.int .i64 10, .int .i64 n, .int .i64 0] 35)) W1.heap.size (.slice (some ⟨wia.heap.size, 0, none⟩) 1 1) [⟨10, n, 0⟩] := (Ow.lit wia [⟨10, n, 0⟩] _ rfl (by simp)).low hHeld.1.size
              refine hK.out _ _ ⟨below_seq hHeld.1 hbQ, below_cell hbQ hHeld.2.1, below_cell hbQ hHeld.2.2.1, below_cell hbQ hHeld.2.2.2.1, below_cell hbQ hHeld.2.2.2.2.1, below_cell hbQ hHeld.2.2.2.2.2⟩ (fun hHeld => ?_)
              clear hK K
              refine wpAnyH_ready (rs := [14]) (by kernel_rfl) (by simp) ?_
              refine AllReadyH.cons rfl (fun K hK => ?_) AllReadyH.nil
              · obtain ⟨v6, w6, hrun, ho6, hg6, -⟩ := append_two (P := Tryd.prog) (wia.alloc (.cells #[.int .i64 10, .int .i64 n, .int .i64 0] 35)) _ _ 22 22 35 i0 _ 3 24 Tryd.underlying22 hi0 hz0 hz1 hz2 rfl (by decide) _ _ (insVs Ep) hoE _ _ (insVs [⟨10, n, 0⟩]) hoQ (insVs_one _) (by simp only [List.length_cons, List.length_nil]; unfold maxLen; omega) (by simp only [List.length_cons, List.length_nil]; omega) hHeld.1.size
                obtain ⟨ad6, c6, rfl⟩ := owns_value ho6
                refine region_append rfl (.tmp 21) (.tmp 30) 22 rfl rfl rfl hrun ?_
                have hB6 : Below W1.heap.size W1 w6 := hHeld.1.grown hg6 hHeld.1.size (fun k hk => (hoE.lt k hk).1)
                refine hK.out _ _ ⟨hB6, below_cell hB6 x0, below_cell hB6 x1, below_cell hB6 x2, below_cell hB6 x3, below_cell hB6 x4⟩ (fun hHeld => ?_)
                clear hK K
                simp only [Act.put, List.setIfInBounds_toArray]
                refine take_at (i := 15) (n := 4) (v := ?_) rfl rfl (by kernel_rfl) (by kernel_rfl) (by kernel_rfl) (fun _ _ _ h => h) (Or.inl ⟨by rfl, ?_⟩) (by assumption) ?_
                rotate_left 1
                · intro wz hSw
                  obtain ⟨-, s0, s1, s2, s3, s4⟩ := hSw
                  first | (go_simp; done) | (go_simp; with_reducible rfl)
                simp only [List.set_cons_zero, List.set_cons_succ]
                refine wpAnyH_done (by kernel_rfl) ?_ _
                refine NoPanic.normal ?_
                have H6 : Hid (w6.ownsRow W1.heap.size 35 3 (.slice ad6 (Ep.length + [(⟨10, n, 0⟩ : Io)].length) c6) (Ep.length + [(⟨10, n, 0⟩ : Io)].length) (insVs Ep ++ insVs [⟨10, n, 0⟩]) ∧ Below W1.heap.size W1 w6) := ⟨ho6, hHeld.1⟩
                go_wp2_with fail
                go_ret
                refine ⟨_, rfl, ?_, below_seq HX.out.1 H6.out.2⟩
                refine Ow.low (B := W1.heap.size) ?_ (by have := HX.out.2; omega)
                unfold Ow
                rw [List.length_append, insVs_append]
                exact H6.out.1
      · obtain ⟨wia, hra, hM, hga⟩ := hM.set (by omega) (z := 1) (v := 3) (by omega) (by omega)
        go_simp
        have hBa : Below W1.heap.size W1 wia := hHeld.1.grown hga hHeld.1.size (fun j hj => by cases hj; omega)
        refine hK.out _ _ ⟨hBa, below_cell hBa x0, below_cell hBa x1, below_cell hBa x2, below_cell hBa x3, below_cell hBa x4⟩ (fun hHeld => ?_)
        clear hK K hra hga
        refine take_at (i := 6) (n := 23) (v := ?_) rfl rfl (by kernel_rfl) (by kernel_rfl) (by kernel_rfl) (fun _ _ _ h => h) (Or.inl ⟨by rfl, ?_⟩) (by assumption) ?_
        rotate_left 1
        · intro wz hSw
          obtain ⟨-, s0, s1, s2, s3, s4⟩ := hSw
          first | (go_simp; done) | (go_simp; with_reducible rfl)
        simp only [List.set_cons_zero, List.set_cons_succ]
        refine wpAnyH_ready (rs := [2, 9]) (by kernel_rfl) (by simp) ?_
        refine AllReadyH.cons rfl (fun K hK => ?_) (AllReadyH.cons rfl (fun K hK => ?_) AllReadyH.nil)
        · go_simp
          refine (HCe.out _ hHeld.1).mono ?_
          rintro r wE ⟨vE, rfl, hoE, hbE⟩
          obtain ⟨adE, cE, hvE⟩ := hoE.shape
          subst hvE
          have neE : ∀ k, (Value.slice adE Ep.length cE).ownBlock = some k → k ≠ Wd.heap.size := fun k hk e => by have h1 := (hoE.lt k hk).1; have h2 := HtAt_lt2 hM; first | omega | (simp at h1 h2; omega)
          have hM := hM.below hbE
          have hoE := hoE.low (B' := W1.heap.size) hHeld.1.size
          refine hK.out _ _ ⟨below_seq hHeld.1 hbE, below_cell hbE hHeld.2.1, below_cell hbE hHeld.2.2.1, below_cell hbE hHeld.2.2.2.1, below_cell hbE hHeld.2.2.2.2.1, below_cell hbE hHeld.2.2.2.2.2⟩ (fun hHeld => ?_)
          clear hK K
          refine wpAnyH_ready (rs := [9]) (by kernel_rfl) (by simp) ?_
          refine AllReadyH.cons rfl (fun K hK => ?_) AllReadyH.nil
          · have hl := hM.look1 (z := 2) (by omega)
            unfold setH at hl; rw [if_neg (by decide), if_pos rfl] at hl
            dsimp only [Option.getD_some] at hl
            go_simp
            refine hK.out _ _ hHeld (fun hHeld => ?_)
            clear hK K hl
            refine take_at (i := 12) (n := 29) (v := ?_) rfl rfl (by kernel_rfl) (by kernel_rfl) (by kernel_rfl) (fun _ _ _ h => h) (Or.inl ⟨by rfl, ?_⟩) (by assumption) ?_
            rotate_left 1
            · intro wz hSw
              obtain ⟨-, s0, s1, s2, s3, s4⟩ := hSw
              first | (go_simp; done) | (go_simp; with_reducible rfl)
            simp only [List.set_cons_zero, List.set_cons_succ]
            refine wpAnyH_ready (rs := [13]) (by kernel_rfl) (by simp) ?_
            refine AllReadyH.cons rfl (fun K hK => ?_) AllReadyH.nil
            · go_simp
              have hbQ := below_new wE (.cells #[.int .i64 10, .int .i64 n, .int .i64 0] 35)
              have hoE := hoE.below hbQ
              have hM := hM.below hbQ
              have hoQ : Ow (wE.alloc (.cells #[.int .i64 10, .int .i64 n, .int .i64 0] 35)) W1.heap.size (.slice (some ⟨wE.heap.size, 0, none⟩) 1 1) [⟨10, n, 0⟩] := (Ow.lit wE [⟨10, n, 0⟩] _ rfl (by simp)).low hHeld.1.size
              refine hK.out _ _ ⟨below_seq hHeld.1 hbQ, below_cell hbQ hHeld.2.1, below_cell hbQ hHeld.2.2.1, below_cell hbQ hHeld.2.2.2.1, below_cell hbQ hHeld.2.2.2.2.1, below_cell hbQ hHeld.2.2.2.2.2⟩ (fun hHeld => ?_)
              clear hK K
              refine wpAnyH_ready (rs := [14]) (by kernel_rfl) (by simp) ?_
              refine AllReadyH.cons rfl (fun K hK => ?_) AllReadyH.nil
              · obtain ⟨v6, w6, hrun, ho6, hg6, -⟩ := append_two (P := Tryd.prog) (wE.alloc (.cells #[.int .i64 10, .int .i64 n, .int .i64 0] 35)) _ _ 22 22 35 i0 _ 3 24 Tryd.underlying22 hi0 hz0 hz1 hz2 rfl (by decide) _ _ (insVs Ep) hoE _ _ (insVs [⟨10, n, 0⟩]) hoQ (insVs_one _) (by simp only [List.length_cons, List.length_nil]; unfold maxLen; omega) (by simp only [List.length_cons, List.length_nil]; omega) hHeld.1.size
                obtain ⟨ad6, c6, rfl⟩ := owns_value ho6
                refine region_append rfl (.tmp 21) (.tmp 30) 22 rfl rfl rfl hrun ?_
                have hB6 : Below W1.heap.size W1 w6 := hHeld.1.grown hg6 hHeld.1.size (fun k hk => (hoE.lt k hk).1)
                refine hK.out _ _ ⟨hB6, below_cell hB6 x0, below_cell hB6 x1, below_cell hB6 x2, below_cell hB6 x3, below_cell hB6 x4⟩ (fun hHeld => ?_)
                clear hK K
                simp only [Act.put, List.setIfInBounds_toArray]
                refine take_at (i := 15) (n := 4) (v := ?_) rfl rfl (by kernel_rfl) (by kernel_rfl) (by kernel_rfl) (fun _ _ _ h => h) (Or.inl ⟨by rfl, ?_⟩) (by assumption) ?_
                rotate_left 1
                · intro wz hSw
                  obtain ⟨-, s0, s1, s2, s3, s4⟩ := hSw
                  first | (go_simp; done) | (go_simp; with_reducible rfl)
                simp only [List.set_cons_zero, List.set_cons_succ]
                refine wpAnyH_done (by kernel_rfl) ?_ _
                refine NoPanic.normal ?_
                have H6 : Hid (w6.ownsRow W1.heap.size 35 3 (.slice ad6 (Ep.length + [(⟨10, n, 0⟩ : Io)].length) c6) (Ep.length + [(⟨10, n, 0⟩ : Io)].length) (insVs Ep ++ insVs [⟨10, n, 0⟩]) ∧ Below W1.heap.size W1 w6) := ⟨ho6, hHeld.1⟩
                go_wp2_with fail
                go_ret
                refine ⟨_, rfl, ?_, below_seq HX.out.1 H6.out.2⟩
                refine Ow.low (B := W1.heap.size) ?_ (by have := HX.out.2; omega)
                unfold Ow
                rw [List.length_append, insVs_append]
                exact H6.out.1
        · have hl := hM.look1 (z := 2) (by omega)
          unfold setH at hl; rw [if_neg (by decide), if_pos rfl] at hl
          dsimp only [Option.getD_some] at hl
          go_simp
          refine hK.out _ _ hHeld (fun hHeld => ?_)
          clear hK K hl
          refine take_at (i := 12) (n := 29) (v := ?_) rfl rfl (by kernel_rfl) (by kernel_rfl) (by kernel_rfl) (fun _ _ _ h => h) (Or.inl ⟨by rfl, ?_⟩) (by assumption) ?_
          rotate_left 1
          · intro wz hSw
            obtain ⟨-, s0, s1, s2, s3, s4⟩ := hSw
            first | (go_simp; done) | (go_simp; with_reducible rfl)
          simp only [List.set_cons_zero, List.set_cons_succ]
          refine wpAnyH_ready (rs := [2, 13]) (by kernel_rfl) (by simp) ?_
          refine AllReadyH.cons rfl (fun K hK => ?_) (AllReadyH.cons rfl (fun K hK => ?_) AllReadyH.nil)
          · go_simp
            refine (HCe.out _ hHeld.1).mono ?_
            rintro r wE ⟨vE, rfl, hoE, hbE⟩
            obtain ⟨adE, cE, hvE⟩ := hoE.shape
            subst hvE
            have neE : ∀ k, (Value.slice adE Ep.length cE).ownBlock = some k → k ≠ Wd.heap.size := fun k hk e => by have h1 := (hoE.lt k hk).1; have h2 := HtAt_lt2 hM; first | omega | (simp at h1 h2; omega)
            have hM := hM.below hbE
            have hoE := hoE.low (B' := W1.heap.size) hHeld.1.size
            refine hK.out _ _ ⟨below_seq hHeld.1 hbE, below_cell hbE hHeld.2.1, below_cell hbE hHeld.2.2.1, below_cell hbE hHeld.2.2.2.1, below_cell hbE hHeld.2.2.2.2.1, below_cell hbE hHeld.2.2.2.2.2⟩ (fun hHeld => ?_)
            clear hK K
            refine wpAnyH_ready (rs := [13]) (by kernel_rfl) (by simp) ?_
            refine AllReadyH.cons rfl (fun K hK => ?_) AllReadyH.nil
            · go_simp
              have hbQ := below_new wE (.cells #[.int .i64 10, .int .i64 n, .int .i64 0] 35)
              have hoE := hoE.below hbQ
              have hM := hM.below hbQ
              have hoQ : Ow (wE.alloc (.cells #[.int .i64 10, .int .i64 n, .int .i64 0] 35)) W1.heap.size (.slice (some ⟨wE.heap.size, 0, none⟩) 1 1) [⟨10, n, 0⟩] := (Ow.lit wE [⟨10, n, 0⟩] _ rfl (by simp)).low hHeld.1.size
              refine hK.out _ _ ⟨below_seq hHeld.1 hbQ, below_cell hbQ hHeld.2.1, below_cell hbQ hHeld.2.2.1, below_cell hbQ hHeld.2.2.2.1, below_cell hbQ hHeld.2.2.2.2.1, below_cell hbQ hHeld.2.2.2.2.2⟩ (fun hHeld => ?_)
              clear hK K
              refine wpAnyH_ready (rs := [14]) (by kernel_rfl) (by simp) ?_
              refine AllReadyH.cons rfl (fun K hK => ?_) AllReadyH.nil
              · obtain ⟨v6, w6, hrun, ho6, hg6, -⟩ := append_two (P := Tryd.prog) (wE.alloc (.cells #[.int .i64 10, .int .i64 n, .int .i64 0] 35)) _ _ 22 22 35 i0 _ 3 24 Tryd.underlying22 hi0 hz0 hz1 hz2 rfl (by decide) _ _ (insVs Ep) hoE _ _ (insVs [⟨10, n, 0⟩]) hoQ (insVs_one _) (by simp only [List.length_cons, List.length_nil]; unfold maxLen; omega) (by simp only [List.length_cons, List.length_nil]; omega) hHeld.1.size
                obtain ⟨ad6, c6, rfl⟩ := owns_value ho6
                refine region_append rfl (.tmp 21) (.tmp 30) 22 rfl rfl rfl hrun ?_
                have hB6 : Below W1.heap.size W1 w6 := hHeld.1.grown hg6 hHeld.1.size (fun k hk => (hoE.lt k hk).1)
                refine hK.out _ _ ⟨hB6, below_cell hB6 x0, below_cell hB6 x1, below_cell hB6 x2, below_cell hB6 x3, below_cell hB6 x4⟩ (fun hHeld => ?_)
                clear hK K
                simp only [Act.put, List.setIfInBounds_toArray]
                refine take_at (i := 15) (n := 4) (v := ?_) rfl rfl (by kernel_rfl) (by kernel_rfl) (by kernel_rfl) (fun _ _ _ h => h) (Or.inl ⟨by rfl, ?_⟩) (by assumption) ?_
                rotate_left 1
                · intro wz hSw
                  obtain ⟨-, s0, s1, s2, s3, s4⟩ := hSw
                  first | (go_simp; done) | (go_simp; with_reducible rfl)
                simp only [List.set_cons_zero, List.set_cons_succ]
                refine wpAnyH_done (by kernel_rfl) ?_ _
                refine NoPanic.normal ?_
                have H6 : Hid (w6.ownsRow W1.heap.size 35 3 (.slice ad6 (Ep.length + [(⟨10, n, 0⟩ : Io)].length) c6) (Ep.length + [(⟨10, n, 0⟩ : Io)].length) (insVs Ep ++ insVs [⟨10, n, 0⟩]) ∧ Below W1.heap.size W1 w6) := ⟨ho6, hHeld.1⟩
                go_wp2_with fail
                go_ret
                refine ⟨_, rfl, ?_, below_seq HX.out.1 H6.out.2⟩
                refine Ow.low (B := W1.heap.size) ?_ (by have := HX.out.2; omega)
                unfold Ow
                rw [List.length_append, insVs_append]
                exact H6.out.1
          · go_simp
            have hbQ := below_new wia (.cells #[.int .i64 10, .int .i64 n, .int .i64 0] 35)
            have hM := hM.below hbQ
            have hoQ : Ow (wia.alloc (.cells #[.int .i64 10, .int .i64 n, .int .i64 0] 35)) W1.heap.size (.slice (some ⟨wia.heap.size, 0, none⟩) 1 1) [⟨10, n, 0⟩] := (Ow.lit wia [⟨10, n, 0⟩] _ rfl (by simp)).low hHeld.1.size
            refine hK.out _ _ ⟨below_seq hHeld.1 hbQ, below_cell hbQ hHeld.2.1, below_cell hbQ hHeld.2.2.1, below_cell hbQ hHeld.2.2.2.1, below_cell hbQ hHeld.2.2.2.2.1, below_cell hbQ hHeld.2.2.2.2.2⟩ (fun hHeld => ?_)
            clear hK K
            refine wpAnyH_ready (rs := [2]) (by kernel_rfl) (by simp) ?_
            refine AllReadyH.cons rfl (fun K hK => ?_) AllReadyH.nil
            · go_simp
              refine (HCe.out _ hHeld.1).mono ?_
              rintro r wE ⟨vE, rfl, hoE, hbE⟩
              obtain ⟨adE, cE, hvE⟩ := hoE.shape
              subst hvE
              have hoQ := hoQ.below hbE
              have neE : ∀ k, (Value.slice adE Ep.length cE).ownBlock = some k → k ≠ Wd.heap.size := fun k hk e => by have h1 := (hoE.lt k hk).1; have h2 := HtAt_lt2 hM; first | omega | (simp at h1 h2; omega)
              have hM := hM.below hbE
              have hoE := hoE.low (B' := W1.heap.size) hHeld.1.size
              refine hK.out _ _ ⟨below_seq hHeld.1 hbE, below_cell hbE hHeld.2.1, below_cell hbE hHeld.2.2.1, below_cell hbE hHeld.2.2.2.1, below_cell hbE hHeld.2.2.2.2.1, below_cell hbE hHeld.2.2.2.2.2⟩ (fun hHeld => ?_)
              clear hK K
              refine wpAnyH_ready (rs := [14]) (by kernel_rfl) (by simp) ?_
              refine AllReadyH.cons rfl (fun K hK => ?_) AllReadyH.nil
              · obtain ⟨v6, w6, hrun, ho6, hg6, -⟩ := append_two (P := Tryd.prog) wE _ _ 22 22 35 i0 _ 3 24 Tryd.underlying22 hi0 hz0 hz1 hz2 rfl (by decide) _ _ (insVs Ep) hoE _ _ (insVs [⟨10, n, 0⟩]) hoQ (insVs_one _) (by simp only [List.length_cons, List.length_nil]; unfold maxLen; omega) (by simp only [List.length_cons, List.length_nil]; omega) hHeld.1.size
                obtain ⟨ad6, c6, rfl⟩ := owns_value ho6
                refine region_append rfl (.tmp 21) (.tmp 30) 22 rfl rfl rfl hrun ?_
                have hB6 : Below W1.heap.size W1 w6 := hHeld.1.grown hg6 hHeld.1.size (fun k hk => (hoE.lt k hk).1)
                refine hK.out _ _ ⟨hB6, below_cell hB6 x0, below_cell hB6 x1, below_cell hB6 x2, below_cell hB6 x3, below_cell hB6 x4⟩ (fun hHeld => ?_)
                clear hK K
                simp only [Act.put, List.setIfInBounds_toArray]
                refine take_at (i := 15) (n := 4) (v := ?_) rfl rfl (by kernel_rfl) (by kernel_rfl) (by kernel_rfl) (fun _ _ _ h => h) (Or.inl ⟨by rfl, ?_⟩) (by assumption) ?_
                rotate_left 1
                · intro wz hSw
                  obtain ⟨-, s0, s1, s2, s3, s4⟩ := hSw
                  first | (go_simp; done) | (go_simp; with_reducible rfl)
                simp only [List.set_cons_zero, List.set_cons_succ]
                refine wpAnyH_done (by kernel_rfl) ?_ _
                refine NoPanic.normal ?_
                have H6 : Hid (w6.ownsRow W1.heap.size 35 3 (.slice ad6 (Ep.length + [(⟨10, n, 0⟩ : Io)].length) c6) (Ep.length + [(⟨10, n, 0⟩ : Io)].length) (insVs Ep ++ insVs [⟨10, n, 0⟩]) ∧ Below W1.heap.size W1 w6) := ⟨ho6, hHeld.1⟩
                go_wp2_with fail
                go_ret
                refine ⟨_, rfl, ?_, below_seq HX.out.1 H6.out.2⟩
                refine Ow.low (B := W1.heap.size) ?_ (by have := HX.out.2; omega)
                unfold Ow
                rw [List.length_append, insVs_append]
                exact H6.out.1

end Go.Proofs.YtgemadoieielcacDoor.B
