import Derived.Test.YtcmoehednkaehadDoorGWV
import Derived.Test.YtcmoehednkaehadDoorXH
import Derived.Test.YtcmoehednkaehadDoorXM
import Derived.Test.YtcmoehednkaehadDoorStill
namespace Go.Proofs.YtcmoehednkaehadDoor
open Go.ChangeShapes Go.WideShapes Go.ChangeAt Go.RowKit Go.Shelf

theorem shown_any (w : World) (l : List In) (iad : Option Addr) (ic : Nat) (W : Int) (rad : Option Addr) (rn rc : Nat) (R : Nat → Int) (hI : InSl w l (.slice iad l.length ic)) (hr : RowI w rad rn R) (h0 : R rn = 0) : Calls Tryd.prog 13 #[.slice iad l.length ic, .agg #[.int .i64 W, .slice rad rn rc]] w fun r w' => ∃ v, r = .returned (.bool v) ∧ (v = true ↔ PV l W rn R) ∧ Below w.heap.size w w' := by
  rcases hc : docI l with ⟨c, k⟩
  have hc2 : checkI l = (c, k) := by rw [← doc_check]; exact hc
  by_cases hz : c = 0
  · have hc0 : docI l = (0, 0) := by rw [doc_check]; exact check_zero (by rw [hc2]; exact hz)
    by_cases hn : rn = l.length
    · subst hn
      exact shown_rest w l iad ic W rad rc R hI hc0 hr h0
    · exact (shown_len w l iad ic W rad rn rc hI hc0 hn).mono fun _ _ ⟨h1, h2⟩ => ⟨false, h1, ⟨fun h => (by cases h), fun h => absurd h.len hn⟩, h2⟩
  · exact (shown_check w l iad ic W rad rn rc hI c k hc hz).mono fun _ _ ⟨h1, h2⟩ => ⟨false, h1, ⟨fun h => (by cases h), fun h => absurd (by have := h.ok; rw [hc2] at this; exact this) hz⟩, h2⟩

theorem bool_of {v b : Bool} {p : Prop} (h1 : v = true ↔ p) (h2 : b = true ↔ p) : v = b := by
  rcases v with _ | _ <;> rcases b with _ | _
  · rfl
  · exact absurd (h1.2 (h2.1 rfl)) (by decide)
  · exact absurd (h2.2 (h1.1 rfl)) (by decide)
  · rfl

theorem proves_bv (bv : Bool) (w : World) (l : List In) (iad : Option Addr) (ic : Nat) (W : Int) (rad : Option Addr) (rn rc : Nat) (R : Nat → Int) (hb : bv = true ↔ PV l W rn R) (hkk : KindsIn w) (hI : InSl w l (.slice iad l.length ic)) (hrc : rn ≤ rc) (hr : RowI w rad rn R) (h0 : R rn = 0) : Calls Tryd.prog 12 #[.slice iad l.length ic, .agg #[.int .i64 W, .slice rad rn rc]] w fun r w' => r = .returned (.bool bv) ∧ Below w.heap.size w w' :=
  (Proves_any w l iad ic W rad rn rc R hkk hI hrc hr h0).mono fun _ _ ⟨v, h1, h2, h3⟩ => ⟨by rw [h1, bool_of h2 hb], h3⟩

theorem shown_bv (bv : Bool) (w : World) (l : List In) (iad : Option Addr) (ic : Nat) (W : Int) (rad : Option Addr) (rn rc : Nat) (R : Nat → Int) (hb : bv = true ↔ PV l W rn R) (hI : InSl w l (.slice iad l.length ic)) (hr : RowI w rad rn R) (h0 : R rn = 0) : Calls Tryd.prog 13 #[.slice iad l.length ic, .agg #[.int .i64 W, .slice rad rn rc]] w fun r w' => r = .returned (.bool bv) ∧ Below w.heap.size w w' :=
  (shown_any w l iad ic W rad rn rc R hI hr h0).mono fun _ _ ⟨v, h1, h2, h3⟩ => ⟨by rw [h1, bool_of h2 hb], h3⟩

theorem rowI_int {w : World} {ad : Option Addr} {c : Nat} {vs : List Int} (h : IntSl w vs (.slice ad vs.length c)) : RowI w ad vs.length (fun j => vs.getD j 0) := by
  obtain ⟨ad', c', e, h⟩ := h
  cases e
  rcases h with h | ⟨b, o, h1, h2⟩
  · exact .inl (by rw [h]; rfl)
  · exact .inr ⟨b, o, h1, h2⟩

set_option maxRecDepth 20000 in
set_option maxHeartbeats 4000000 in
theorem shows_long (w : World) (l : List In) (iad : Option Addr) (ic : Nat) (worst : Int) (vs : List Int) (vad : Option Addr) (vc : Nat) (hkk : KindsIn w) (hl : 3000 < l.length) : Calls Tryd.prog 3 #[.slice iad l.length ic, .int .i64 worst, .slice vad vs.length vc] w fun r w' => r = .returned (.bool true) ∧ Below w.heap.size w w' := by
  have HT := timed_any w hkk
  have hli : (3000 : Int) < (l.length : Int) := by omega
  clear hkk
  go_enter Tryd.func3, Tryd.ntmps3
  go_wp2_with (go_at_call 9; refine HT.mono ?_; rintro r w1 ⟨rfl, hb1⟩; have H1 : Hid (Below w.heap.size w w1) := hb1; clear hb1 HT)
  go_ret
  exact ⟨rfl, H1.out⟩

set_option maxRecDepth 20000 in
set_option maxHeartbeats 8000000 in
theorem shows_walk (w : World) (l : List In) (iad : Option Addr) (ic : Nat) (worst : Int) (vs : List Int) (vad : Option Addr) (vc : Nat) (hkk : KindsIn w) (g0 : w.cell? ⟨0, 0, none⟩ = some (.int .i64 (-1))) (g1 : w.cell? ⟨0, 1, none⟩ = some (.int .i64 (-2))) (g2 : w.cell? ⟨0, 2, none⟩ = some (.int .i64 (-3))) (hI : InSl w l (.slice iad l.length ic)) (hnil : iad = none → l.length = 0 ∧ ic = 0) (hvs : IntSl w vs (.slice vad vs.length vc)) (hvn : vad = none → vs.length = 0 ∧ vc = 0) (hvl : vs.length ≤ 1048576) : Calls Tryd.prog 3 #[.slice iad l.length ic, .int .i64 worst, .slice vad vs.length vc] w fun r w' => r = .returned (.bool true) ∧ Below w.heap.size w w' := by
  by_cases hlong : 3000 < l.length
  · exact shows_long w l iad ic worst vs vad vc hkk hlong
  have hli : ¬ (3000 : Int) < (l.length : Int) := by omega
  have hli' : (l.length : Int) ≤ 3000 := by omega
  have HT := timed_any w hkk
  obtain ⟨bv, hbv⟩ : ∃ bv : Bool, bv = true ↔ PV l worst vs.length (fun j => vs.getD j 0) := by
    by_cases h : PV l worst vs.length (fun j => vs.getD j 0)
    · exact ⟨true, ⟨fun _ => h, fun _ => rfl⟩⟩
    · exact ⟨false, ⟨fun e => (by cases e), fun e => absurd e h⟩⟩
  have h0 : (fun j => vs.getD j 0) vs.length = 0 := by simp [List.getD]
  have HK : Hid (KindsIn w ∧ InSl w l (.slice iad l.length ic) ∧ IntSl w vs (.slice vad vs.length vc)) := ⟨hkk, hI, hvs⟩
  have HN : Hid ((iad = none → l.length = 0 ∧ ic = 0) ∧ (vad = none → vs.length = 0 ∧ vc = 0)) := ⟨hnil, hvn⟩
  have HBV : Hid (bv = true ↔ PV l worst vs.length (fun j => vs.getD j 0)) := hbv
  have H00 : Hid ((fun j => vs.getD j 0) vs.length = 0) := h0
  clear hkk hI hvs hnil hvn hbv h0
  go_enter Tryd.func3, Tryd.ntmps3
  go_wp2_with (go_at_call 9; refine HT.mono ?_; rintro r w1 ⟨rfl, hb1⟩; have H1 : Hid (Below w.heap.size w w1) := hb1; have e0 := below_cell hb1 g0; have e1 := below_cell hb1 g1; have e2 := below_cell hb1 g2; have HL := Lend_any w1 l ⟨-1, -2, -3⟩ iad ic (by omega) (HK.out.2.1.below hb1) HN.out.1; clear hb1 HT g0 g1 g2)
  go_wp2_with (go_at_call 10; refine HL.mono ?_; rintro r w2 ⟨u, rfl, hu, hb2⟩; have hu' := hu; obtain ⟨ub, uo, uc, rfl, -⟩ := hu'; have H2 : Hid (Below w.heap.size w w2 ∧ LentI w2 l ⟨-1, -2, -3⟩ (.slice (some ⟨ub, uo, none⟩) l.length uc)) := ⟨below_seq H1.out hb2, hu⟩; have f0 := below_cell hb2 e0; have f1 := below_cell hb2 e1; have f2 := below_cell hb2 e2; have HV := LendN_any w2 vs (-9) vad vc (by omega) (HK.out.2.2.belowX (below_seq H1.out hb2)) HN.out.2; clear hb2 hu HL e0 e1 e2)
  go_wp2_with (go_at_call 11; refine HV.mono ?_; rintro r w3 ⟨x, rfl, hx, hb3⟩; have hx' := hx; obtain ⟨xb, xo, xc, rfl, hxc, -⟩ := hx'; have hxc' : vs.length ≤ xc := (by omega); have H3 : Hid (Below w.heap.size w w3 ∧ LentI w3 l ⟨-1, -2, -3⟩ (.slice (some ⟨ub, uo, none⟩) l.length uc) ∧ LentSl w3 vs (-9) (.slice (some ⟨xb, xo, none⟩) vs.length xc)) := ⟨below_seq H2.out.1 hb3, H2.out.2.below hb3, hx⟩; have k0 := below_cell hb3 f0; have k1 := below_cell hb3 f1; have k2 := below_cell hb3 f2; have HP := proves_bv bv w3 l (some ⟨ub, uo, none⟩) uc worst (some ⟨xb, xo, none⟩) vs.length xc (fun j => vs.getD j 0) HBV.out (HK.out.1.below (below_seq H2.out.1 hb3)) (H2.out.2.below hb3).plain hxc' (rowI_int hx.plain) H00.out; clear hb3 hx hxc HV f0 f1 f2)
  go_wp2_with (go_at_call 12; refine HP.mono ?_; rintro r w4 ⟨rfl, hb4⟩; have H4 : Hid (Below w.heap.size w w4 ∧ LentI w4 l ⟨-1, -2, -3⟩ (.slice (some ⟨ub, uo, none⟩) l.length uc) ∧ LentSl w4 vs (-9) (.slice (some ⟨xb, xo, none⟩) vs.length xc)) := ⟨below_seq H3.out.1 hb4, H3.out.2.1.below hb4, H3.out.2.2.below hb4⟩; have m0 := below_cell hb4 k0; have m1 := below_cell hb4 k1; have m2 := below_cell hb4 k2; have HS := shown_bv bv w4 l iad ic worst vad vs.length vc (fun j => vs.getD j 0) HBV.out (HK.out.2.1.below (below_seq H3.out.1 hb4)) (rowI_int (HK.out.2.2.belowX (below_seq H3.out.1 hb4))) H00.out; clear hb4 HP k0 k1 k2)
  go_wp2_with (go_at_call 13; refine HS.mono ?_; rintro r w5 ⟨rfl, hb5⟩; have H5 : Hid (Below w.heap.size w w5 ∧ LentI w5 l ⟨-1, -2, -3⟩ (.slice (some ⟨ub, uo, none⟩) l.length uc) ∧ LentSl w5 vs (-9) (.slice (some ⟨xb, xo, none⟩) vs.length xc)) := ⟨below_seq H4.out.1 hb5, H4.out.2.1.below hb5, H4.out.2.2.below hb5⟩; have n0 := below_cell hb5 m0; have n1 := below_cell hb5 m1; have n2 := below_cell hb5 m2; have HSt := Still_any w5 l ⟨-1, -2, -3⟩ (.slice (some ⟨ub, uo, none⟩) l.length uc) (.slice iad l.length ic) (by omega) (H4.out.2.1.below hb5) (HK.out.2.1.below (below_seq H4.out.1 hb5)); clear hb5 HS m0 m1 m2)
  go_wp2_with (go_at_call 14; refine HSt.mono ?_; rintro r w6 ⟨rfl, hb6⟩; have H6 : Hid (Below w.heap.size w w6) := below_seq H5.out.1 hb6; have HSn := StillN_any w6 vs (-9) (.slice (some ⟨xb, xo, none⟩) vs.length xc) (.slice vad vs.length vc) (by omega) (H5.out.2.2.below hb6) (HK.out.2.2.belowX (below_seq H5.out.1 hb6)); clear hb6 HSt)
  go_wp2_with (go_at_call 15; refine HSn.mono ?_; rintro r w7 ⟨rfl, hb7⟩; have H7 : Hid (Below w.heap.size w w7) := below_seq H6.out hb7; clear hb7 HSn)
  go_ret
  exact ⟨rfl, H7.out⟩

end Go.Proofs.YtcmoehednkaehadDoor
