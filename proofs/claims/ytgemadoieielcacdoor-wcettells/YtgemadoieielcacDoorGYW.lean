import Derived.Test.YtgemadoieielcacDoorGXM
import Derived.Test.YtgemadoieielcacDoorGYU
import Derived.Test.YtgemadoieielcacDoorGWV
namespace Go.Proofs.YtgemadoieielcacDoor
open Go.ChangeShapes Go.WideShapes Go.ChangeAt Go.RowKit

set_option maxRecDepth 20000 in
set_option maxHeartbeats 4000000 in
/-- Still, of a list that was lent and stands as it did. -/
theorem Still_any (w : World) (l : List In) (m : In) (v v' : Value) (hl : l.length ≤ 100000) (h : LentI w l m v) (h' : InSl w l v') :
    Calls Tryd.prog 15 #[v, v', .agg #[.int .i64 m.op, .int .i64 m.a, .int .i64 m.b]] w fun r w' => r = .returned (.bool true) ∧ Below w.heap.size w w' := by
  obtain ⟨b, o, cap, rfl, hcap, hrow, hmark⟩ := h
  obtain ⟨ad', c', rfl, hc'⟩ := h'
  obtain ⟨mo, ma, mb⟩ := m
  have HR : Hid (_ ∧ _ ∧ _) := ⟨hrow, hmark, hc'⟩
  clear hrow hmark hc'
  go_enter Tryd.func15, Tryd.ntmps15
  go_wp2_with fail
  go_loopw [17] (fun x wr => ∃ j : Nat, j ≤ l.length + 3 ∧ x = .int .i64 j ∧ Below (w.heap.size + 1) (w.alloc (.cells #[.int .i64 mo, .int .i64 ma, .int .i64 mb] 35)) wr) (fun x _ => l.length + 3 - (intOf x).toNat)
  case atStart => exact ⟨0, Nat.zero_le _, rfl, Below.refl _ _⟩
  case round =>
    obtain ⟨j, hj, rfl, hb⟩ := hrel
    have hbw : Below w.heap.size w wr := (below_new w (.cells #[.int .i64 mo, .int .i64 ma, .int .i64 mb] 35)).trans (hb.mono (by omega))
    have m0 : wr.cell? ⟨w.heap.size, 0, none⟩ = some (.int .i64 mo) := (hb.cell (by show w.heap.size < w.heap.size + 1; omega)).trans (by go_simp)
    have m1 : wr.cell? ⟨w.heap.size, 1, none⟩ = some (.int .i64 ma) := (hb.cell (by show w.heap.size < w.heap.size + 1; omega)).trans (by go_simp)
    have m2 : wr.cell? ⟨w.heap.size, 2, none⟩ = some (.int .i64 mb) := (hb.cell (by show w.heap.size < w.heap.size + 1; omega)).trans (by go_simp)
    have lw : w.heap.size < wr.heap.size := World.block_lt_of_cell? _ _ m0
    have HB : Hid (Below (w.heap.size + 1) (w.alloc (.cells #[.int .i64 mo, .int .i64 ma, .int .i64 mb] 35)) wr) := hb
    by_cases hlt : j < l.length
    · have c := HR.out.1 j hlt
      have c0 := below_cell hbw c.1
      have c1 := below_cell hbw c.2.1
      have c2 := below_cell hbw c.2.2
      rcases HR.out.2.2 with h | ⟨b', o', had', hrow'⟩
      · rw [h] at hlt; simp at hlt
      subst had'
      have d := hrow' j hlt
      have d0 := below_cell hbw d.1
      have d1 := below_cell hbw d.2.1
      have d2 := below_cell hbw d.2.2
      have lb' : b' < wr.heap.size := World.block_lt_of_cell? _ _ d0
      have f1 : decide ((j : Int) < (l.length : Int)) = true := by simp; omega
      have f1' : decide (j < l.length) = true := by simp; omega
      have f2 : decide ((l.length : Int) ≤ (j : Int)) = false := by simp; omega
      have f2' : decide (l.length ≤ j) = false := by simp; omega
      clear hrow' c d hb hbw
      generalize l.getD j in0 = x at *
      obtain ⟨xo, xa, xb⟩ := x
      dsimp only at c0 c1 c2 d0 d1 d2
      go_wp2_with fail
      go_quiet (fail)
      go_wp2_with fail
      go_roundw
      case rel => exact ⟨j + 1, by omega, by go_num, (HB.out.alloc (by omega) _).trans ((below_drewN').mono (by simp; omega))⟩
      case measure => simp [intOf]; omega
    · by_cases hlt2 : j < l.length + 3
      · have c := HR.out.2.1 j (by omega) hlt2
        have c0 := below_cell hbw c.1
        have c1 := below_cell hbw c.2.1
        have c2 := below_cell hbw c.2.2
        have f1 : decide ((j : Int) < (l.length : Int)) = false := by simp; omega
        have f1' : decide (j < l.length) = false := by simp; omega
        have f2 : decide ((l.length : Int) ≤ (j : Int)) = true := by simp; omega
        have f2' : decide (l.length ≤ j) = true := by simp; omega
        clear c hb hbw
        go_wp2_with fail
        go_quiet (fail)
        go_wp2_with fail
        go_roundw
        case rel => exact ⟨j + 1, by omega, by go_num, (HB.out.alloc (by omega) _).trans ((below_drewN').mono (by simp; omega))⟩
        case measure => simp [intOf]; omega
      · have hje : j = l.length + 3 := by omega
        subst hje
        go_wp2_with fail
        go_ret
        exact ⟨rfl, hbw⟩
end Go.Proofs.YtgemadoieielcacDoor
namespace Go.Proofs.YtgemadoieielcacDoor
open Go.ChangeShapes Go.WideShapes Go.ChangeAt Go.RowKit Go.Shelf

set_option maxRecDepth 20000 in
set_option maxHeartbeats 400000 in
theorem tells_long (w : World) (l : List In) (iad : Option Addr) (ic : Nat) (hkk : KindsIn w) (hl : 3000 < l.length) : Calls Tryd.prog 8 #[.slice iad l.length ic] w fun r w' => r = .returned (.bool true) ∧ Below w.heap.size w w' := by
  have HT := timed_any w hkk
  have hli : (3000 : Int) < (l.length : Int) := by omega
  clear hkk
  go_enter Tryd.func8, Tryd.ntmps8
  go_wp2_with (go_at_call 42; refine HT.mono ?_; rintro r w1 ⟨rfl, hb1⟩; have H1 : Hid (Below w.heap.size w w1) := hb1; clear hb1 HT)
  go_ret
  exact ⟨rfl, H1.out⟩

set_option maxRecDepth 20000 in
set_option maxHeartbeats 400000 in
theorem tells_walk (w : World) (l : List In) (iad : Option Addr) (ic : Nat) (hkk : KindsIn w) (g0 : w.cell? ⟨0, 0, none⟩ = some (.int .i64 (-1))) (g1 : w.cell? ⟨0, 1, none⟩ = some (.int .i64 (-2))) (g2 : w.cell? ⟨0, 2, none⟩ = some (.int .i64 (-3))) (hI : InSl w l (.slice iad l.length ic)) (hnil : iad = none → l.length = 0 ∧ ic = 0) : Calls Tryd.prog 8 #[.slice iad l.length ic] w fun r w' => r = .returned (.bool true) ∧ Below w.heap.size w w' := by
  by_cases hlong : 3000 < l.length
  · exact tells_long w l iad ic hkk hlong
  have hli : ¬ (3000 : Int) < (l.length : Int) := by omega
  have hli' : (l.length : Int) ≤ 3000 := by omega
  have HT := timed_any w hkk
  have HK : Hid (KindsIn w ∧ InSl w l (.slice iad l.length ic) ∧ (iad = none → l.length = 0 ∧ ic = 0) ∧ w.cell? ⟨0, 0, none⟩ = some (.int .i64 (-1)) ∧ w.cell? ⟨0, 1, none⟩ = some (.int .i64 (-2)) ∧ w.cell? ⟨0, 2, none⟩ = some (.int .i64 (-3))) := ⟨hkk, hI, hnil, g0, g1, g2⟩
  have hn := nL_le l
  have hm := mL_le l
  have HWs := fun W hb => Worst_u W l iad ic (hI.below (w' := W) hb)
  have HLk := fun W hb => (Locks_any W l iad ic (hI.below (w' := W) hb)).mono fun _ _ h => hd_u h
  have HAn := fun W ad c hb hi => Analyse_u W l ad c (hkk.below (w' := W) hb) hi
  have HHe := fun W ad c hb hi => (Held_any W l ad c (hkk.below (w' := W) hb) hi).mono fun _ _ h => hd_u h
  generalize nL l = n at *
  generalize mL l = m at *
  generalize wL l = W at *
  generalize (anF l).1 = c at *
  generalize (anF l).2 = k at *
  generalize hRR : restF l = R at *
  generalize hHH : (fun j : Nat => heldA l j l.length) = R2 at *
  have HC : Hid _ := HWs
  have HC2 : Hid _ := HLk
  have HC3 : Hid _ := HAn
  have HC4 : Hid _ := HHe
  clear hkk hI hnil g0 g1 g2 HWs HLk HAn HHe hRR hHH
  go_enter Tryd.func8, Tryd.ntmps8
  go_wp2_with (go_at_call 42; refine HT.mono ?_; rintro r w1 ⟨rfl, hb1⟩; have H1 : Hid (Below w.heap.size w w1) := hb1; clear hb1 HT)
  go_wp2_with (go_at_call 43; refine (HC.out w1 H1.out).mono ?_; rintro r w2 ⟨bad, bc, rfl, hrow, hb2⟩; have H2 : Hid (Below w.heap.size w w2 ∧ RowI w2 bad n R) := ⟨below_seq H1.out hb2, hrow⟩; clear hb2 hrow)
  have hq2 : Below w2.heap.size w2 ((w2.alloc (.cells #[.int .i64 W, .slice bad n bc] 77)).alloc (.cells #[.int .i64 c, .int .i64 k] 30)) := ((Below.refl _ _).alloc (Nat.le_refl _) _).alloc (by simp) _
  have HQ2 : Hid (Below w2.heap.size w2 ((w2.alloc (.cells #[.int .i64 W, .slice bad n bc] 77)).alloc (.cells #[.int .i64 c, .int .i64 k] 30))) := hq2
  clear hq2
  go_wp2_with (go_at_call 44; refine (HC2.out _ (below_seq H2.out.1 HQ2.out)).mono ?_; rintro r w3 ⟨had, hc, rfl, hrow, -, hb3⟩; have x0 : w3.cell? ⟨w2.heap.size, 0, none⟩ = some (.int .i64 W) := below_cell hb3 (by go_simp); have x1 : w3.cell? ⟨w2.heap.size, 1, none⟩ = some (.slice bad n bc) := below_cell hb3 (by go_simp); have x2 : w3.cell? ⟨w2.heap.size + 1, 0, none⟩ = some (.int .i64 c) := below_cell hb3 (by go_simp); have x3 : w3.cell? ⟨w2.heap.size + 1, 1, none⟩ = some (.int .i64 k) := below_cell hb3 (by go_simp); have H3 : Hid (Below w.heap.size w w3 ∧ RowI w3 bad n R ∧ RowI w3 had m R2) := ⟨below_seq H2.out.1 (below_seq HQ2.out hb3), H2.out.2.below (below_seq HQ2.out hb3), hrow⟩; have lw2 : w2.heap.size < w3.heap.size := World.block_lt_of_cell? w3 _ x0; have lw3 : w2.heap.size + 1 < w3.heap.size := World.block_lt_of_cell? w3 _ x2; have n0 := below_cell H3.out.1 HK.out.2.2.2.1; have n1 := below_cell H3.out.1 HK.out.2.2.2.2.1; have n2 := below_cell H3.out.1 HK.out.2.2.2.2.2; have ln : 0 < w3.heap.size := World.block_lt_of_cell? w3 _ n0; have HL := fun W' (hb : Below w3.heap.size w3 W') => Lend_any W' l ⟨-1, -2, -3⟩ iad ic (by omega) (HK.out.2.1.below (below_seq H3.out.1 hb)) HK.out.2.2.1; have HL2 : Hid _ := HL; clear hb3 hrow HQ2 HL)
  have HQ3 : Hid (Below w3.heap.size w3 (w3.alloc (.cells #[.int .i64 c, .int .i64 k] 30))) := below_new _ _
  go_wp2_with (go_at_call 11; refine (HL2.out _ HQ3.out).mono ?_; rintro r w4 ⟨u, rfl, hu, hb4⟩; have hu' := hu; obtain ⟨ub, uo, uc, rfl, -⟩ := hu'; have hq := below_seq HQ3.out hb4; have v0 := below_cell hq x0; have v1 := below_cell hq x1; have v2 := below_cell hq x2; have v3 := below_cell hq x3; have v4 : w4.cell? ⟨w3.heap.size, 0, none⟩ = some (.int .i64 c) := below_cell hb4 (by go_simp); have v5 : w4.cell? ⟨w3.heap.size, 1, none⟩ = some (.int .i64 k) := below_cell hb4 (by go_simp); have m0 := below_cell hq n0; have m1 := below_cell hq n1; have m2 := below_cell hq n2; have H4 : Hid (Below w.heap.size w w4 ∧ RowI w4 bad n R ∧ RowI w4 had m R2 ∧ LentI w4 l ⟨-1, -2, -3⟩ (.slice (some ⟨ub, uo, none⟩) l.length uc)) := ⟨below_seq H3.out.1 hq, H3.out.2.1.below hq, H3.out.2.2.below hq, hu⟩; clear hb4 hu hq x0 x1 x2 x3 n0 n1 n2 HL2 HQ3 lw2 lw3 ln)
  go_loopw [30] (fun i wr => ∃ j : Nat, j ≤ 2 ∧ i = .int .i64 j ∧ Below w4.heap.size w4 wr) (fun i _ => 2 - (intOf i).toNat)
  case atStart => exact ⟨0, by omega, rfl, Below.refl _ _⟩
  case round =>
    obtain ⟨j, hj, rfl, hb⟩ := hrel
    by_cases hj2 : j < 2
    · have hji : (j : Int) < 2 := by omega
      have HB : Hid (Below w4.heap.size w4 wr) := hb
      have HO : Hid (LentI wr l ⟨-1, -2, -3⟩ (.slice (some ⟨ub, uo, none⟩) l.length uc)) := H4.out.2.2.2.below hb
      have HA := HC3.out wr (some ⟨ub, uo, none⟩) uc (below_seq H4.out.1 hb) HO.out.plain
      clear hb
      go_wp2_with (go_at_call 45; refine HA.mono ?_; rintro r w5 ⟨aad, ac, rfl, har, hasp, hb5⟩; have H5 : Hid (Below wr.heap.size wr w5 ∧ RowI w5 aad n R ∧ Sp w5 wr.heap.size aad n ac) := ⟨hb5, har, hasp⟩; clear hb5 har hasp HA)
      have HQ5 : Hid (Below w5.heap.size w5 ((w5.alloc (.cells #[.int .i64 W, .slice aad n ac] 77)).alloc (.cells #[.int .i64 c, .int .i64 k] 30))) := ((Below.refl _ _).alloc (Nat.le_refl _) _).alloc (by simp) _
      go_wp2_with (go_at_call 46; refine (HC4.out _ (some ⟨ub, uo, none⟩) uc (below_seq H4.out.1 (below_seq HB.out (below_seq H5.out.1 HQ5.out))) (HO.out.below (below_seq H5.out.1 HQ5.out)).plain).mono ?_; rintro r w6 ⟨xad, xc, rfl, hxr, hxsp, hb6⟩; have hq6 := below_seq HQ5.out hb6; have hqr := below_seq HB.out (below_seq H5.out.1 hq6); have a0 : w6.cell? ⟨w5.heap.size, 0, none⟩ = some (.int .i64 W) := below_cell hb6 (by go_simp); have a1 : w6.cell? ⟨w5.heap.size, 1, none⟩ = some (.slice aad n ac) := below_cell hb6 (by go_simp); have a2 : w6.cell? ⟨w5.heap.size + 1, 0, none⟩ = some (.int .i64 c) := below_cell hb6 (by go_simp); have a3 : w6.cell? ⟨w5.heap.size + 1, 1, none⟩ = some (.int .i64 k) := below_cell hb6 (by go_simp); have b0 := below_cell hqr v0; have b1 := below_cell hqr v1; have b2 := below_cell hqr v2; have b3 := below_cell hqr v3; have b4 := below_cell hqr v4; have b5 := below_cell hqr v5; have b6 := below_cell hqr m0; have b7 := below_cell hqr m1; have b8 := below_cell hqr m2; have la0 : w5.heap.size < w6.heap.size := World.block_lt_of_cell? w6 _ a0; have la1 : w5.heap.size + 1 < w6.heap.size := World.block_lt_of_cell? w6 _ a2; have lb0 : w2.heap.size < w6.heap.size := World.block_lt_of_cell? w6 _ b0; have lb1 : w2.heap.size + 1 < w6.heap.size := World.block_lt_of_cell? w6 _ b2; have lb2 : w3.heap.size < w6.heap.size := World.block_lt_of_cell? w6 _ b4; have lb3 : 0 < w6.heap.size := World.block_lt_of_cell? w6 _ b6; have H6 : Hid (Below wr.heap.size wr w6 ∧ RowI w6 aad n R ∧ Sp w6 wr.heap.size aad n ac ∧ RowI w6 bad n R ∧ RowI w6 xad m R2 ∧ RowI w6 had m R2 ∧ Sp w6 (((w5.alloc (.cells #[.int .i64 W, .slice aad n ac] 77)).alloc (.cells #[.int .i64 c, .int .i64 k] 30))).heap.size xad m xc ∧ LentI w6 l ⟨-1, -2, -3⟩ (.slice (some ⟨ub, uo, none⟩) l.length uc) ∧ InSl w6 l (.slice iad l.length ic)) := ⟨below_seq H5.out.1 hq6, H5.out.2.1.below hq6, H5.out.2.2.below hq6, H4.out.2.1.below hqr, hxr, H4.out.2.2.1.below hqr, hxsp, H4.out.2.2.2.below hqr, HK.out.2.1.below (below_seq H4.out.1 hqr)⟩; have HGA : Hid (∀ g, aad = some ⟨g, 0, none⟩ → g < w5.heap.size) := fun g hg => (by rcases H5.out.2.2 with ⟨h, -⟩ | ⟨g', -, h2, -, xs, -, h5⟩; (rw [hg] at h; cases h); (rw [hg] at h2; cases h2; exact (Array.getElem?_eq_some_iff.1 h5).1)); clear hb6 hxr hxsp hq6 hqr HQ5)
      have HQ7 : Hid (Below w6.heap.size w6 (w6.alloc (.cells #[.int .i64 c, .int .i64 k] 30))) := below_new _ _
      go_wp2_with (go_at_call 40; refine (Same_row _ n R aad bad ac bc (by omega) (H6.out.2.1.below HQ7.out) (H6.out.2.2.2.1.below HQ7.out)).mono ?_; rintro r w7 ⟨rfl, hb7⟩; have hq7 := below_seq HQ7.out hb7; have p4 : w7.cell? ⟨w6.heap.size, 0, none⟩ = some (.int .i64 c) := below_cell hb7 (by go_simp); have p5 : w7.cell? ⟨w6.heap.size, 1, none⟩ = some (.int .i64 k) := below_cell hb7 (by go_simp); have d1 := below_cell hq7 a1; have d4 := below_cell hq7 b4; have d5 := below_cell hq7 b5; have d6 := below_cell hq7 b6; have d7 := below_cell hq7 b7; have d8 := below_cell hq7 b8; have H7 : Hid (Below w6.heap.size w6 w7) := hq7; clear hb7 hq7 HQ7 a0 a2 a3 b0 b1 b2 b3 la0 la1 lb0 lb1 lb2 lb3 a1 b4 b5 b6 b7 b8)
      go_wp2_with (go_at_call 40; refine (Same_row _ m R2 xad had xc hc (by omega) (H6.out.2.2.2.2.1.below H7.out) (H6.out.2.2.2.2.2.1.below H7.out)).mono ?_; rintro r w8 ⟨rfl, hb8⟩; have f1 := below_cell hb8 d1; have f6 := below_cell hb8 d6; have f7 := below_cell hb8 d7; have f8 := below_cell hb8 d8; have H8 : Hid (Below w6.heap.size w6 w8) := below_seq H7.out hb8; have HSt := Still_any w8 l ⟨-1, -2, -3⟩ (.slice (some ⟨ub, uo, none⟩) l.length uc) (.slice iad l.length ic) (by omega) (H6.out.2.2.2.2.2.2.2.1.below (below_seq H7.out hb8)) (H6.out.2.2.2.2.2.2.2.2.below (below_seq H7.out hb8)); clear hb8 d1 d4 d5 d6 d7 d8 p4 p5)
      go_wp2_with (go_at_call 15; refine HSt.mono ?_; rintro r w9 ⟨rfl, hb9⟩; have h1 := below_cell hb9 f1; have H9 : Hid (Below w6.heap.size w6 w9) := below_seq H8.out hb9; have HSp := (H6.out.2.2.1.below H9.out).spoil (C := w5.heap.size) (by omega) HGA.out; clear hb9 f1 f6 f7 f8 HSt)
      go_wp2_with (go_at_call 17; refine HSp.mono ?_; rintro r wa ⟨rfl, hba, hka⟩; have HSp2 := ((H6.out.2.2.2.2.2.2.1.below H9.out).same (w' := wa) (fun k hk => hka k (by simp at hk; omega))).spoil (C := wa.heap.size + 1) (by omega) (fun g hg => (by rcases (H6.out.2.2.2.2.2.2.1.below H9.out).same (w' := wa) (fun k hk => hka k (by simp at hk; omega)) with ⟨h, -⟩ | ⟨g', -, h2, -, xs, -, h5⟩; (rw [hg] at h; cases h); (rw [hg] at h2; cases h2; have := (Array.getElem?_eq_some_iff.1 h5).1; omega))); have Ha : Hid (Below w4.heap.size w4 wa) := (below_seq HB.out (below_seq H6.out.1 H9.out)).trans (hba.mono HB.out.size); clear hba hka HSp h1)
      go_wp2_with (go_at_call 17; refine HSp2.mono ?_; rintro r wc ⟨rfl, hbc, -⟩; have Hc : Hid (Below w4.heap.size w4 wc) := Ha.out.trans (hbc.mono (by have := HB.out.size; have := H5.out.1.size; simp; omega)); clear hbc HSp2)
      exact ⟨⟨j + 1, by omega, by simp, Hc.out⟩, by simp [intOf]; omega⟩
    · have hj2' : j = 2 := by omega
      subst hj2'
      have HB : Hid (Below w.heap.size w wr) := below_seq H4.out.1 hb
      clear hb
      go_wp2_with fail
      go_ret
      exact ⟨rfl, HB.out⟩

end Go.Proofs.YtgemadoieielcacDoor
