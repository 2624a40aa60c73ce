import Derived.Test.YtcmoehednkaehadDoorGWM
namespace Go.Proofs.YtcmoehednkaehadDoor
open Go.ChangeShapes Go.WideShapes Go.ChangeAt Go.RowKit Go.Shelf

set_option maxRecDepth 20000 in
set_option maxHeartbeats 4000000 in
theorem bound_long (w : World) (l : List In) (iad : Option Addr) (ic : Nat) (worst : Int) (rad : Option Addr) (rn rc : Nat) (vs ins : List Int) (vad nad : Option Addr) (vc nc : Nat) (hkk : KindsIn w) (hl : 3000 < l.length) : Calls Tryd.prog 4 #[.slice iad l.length ic, .int .i64 worst, .slice rad rn rc, .slice vad vs.length vc, .slice nad ins.length nc] w fun r w' => r = .returned (.bool true) ∧ Below w.heap.size w w' := by
  have HK : Hid (KindsIn w ∧ True) := ⟨hkk, trivial⟩
  have HT := timed_any w hkk
  have hli : (3000 : Int) < (l.length : Int) := by omega
  clear hkk
  go_enter Tryd.func4, Tryd.ntmps4
  go_wp2_with (first | (go_at_call 9; refine HT.mono ?_; rintro r w1 ⟨rfl, hb1⟩; have H1 : Hid (Below w.heap.size w w1) := hb1; have HW := works_any w1 (HK.out.1.below hb1); clear hb1 HT) | (go_at_call 16; refine HW.mono ?_; rintro r w2 ⟨rfl, hb2⟩; have H2 : Hid (Below w.heap.size w w2) := below_seq H1.out hb2; clear hb2 HW))
  go_ret
  exact ⟨rfl, H2.out⟩

theorem Proves_not (w : World) (l : List In) (iad : Option Addr) (ic : Nat) (W : Int) (rad : Option Addr) (rn rc : Nat) (R : Nat → Int) (hkk : KindsIn w) (hI : InSl w l (.slice iad l.length ic)) (hrc : rn ≤ rc) (hr : RowI w rad rn R) (h0 : R rn = 0) (hp : ¬ PV l W rn R) : Calls Tryd.prog 12 #[.slice iad l.length ic, .agg #[.int .i64 W, .slice rad rn rc]] w fun r w' => r = .returned (.bool false) ∧ Below w.heap.size w w' := by
  refine (Proves_any w l iad ic W rad rn rc R hkk hI hrc hr h0).mono ?_
  rintro r w' ⟨v, rfl, hv, hb⟩
  rcases v with _ | _
  · exact ⟨rfl, hb⟩
  · exact absurd (hv.1 rfl) hp

theorem Proves_yes (w : World) (l : List In) (iad : Option Addr) (ic : Nat) (W : Int) (rad : Option Addr) (rn rc : Nat) (R : Nat → Int) (hkk : KindsIn w) (hI : InSl w l (.slice iad l.length ic)) (hrc : rn ≤ rc) (hr : RowI w rad rn R) (h0 : R rn = 0) (hp : PV l W rn R) : Calls Tryd.prog 12 #[.slice iad l.length ic, .agg #[.int .i64 W, .slice rad rn rc]] w fun r w' => r = .returned (.bool true) ∧ Below w.heap.size w w' := by
  refine (Proves_any w l iad ic W rad rn rc R hkk hI hrc hr h0).mono ?_
  rintro r w' ⟨v, rfl, hv, hb⟩
  rw [hv.2 hp]
  exact ⟨rfl, hb⟩

set_option maxRecDepth 20000 in
set_option maxHeartbeats 8000000 in
theorem bound_walk (w : World) (l : List In) (iad : Option Addr) (ic : Nat) (worst : Int) (rad : Option Addr) (rn rc : Nat) (vs ins : List Int) (vad nad : Option Addr) (vc nc : Nat) (R : Nat → Int) (hkk : KindsIn w) (hI : InSl w l (.slice iad l.length ic)) (hnil : iad = none → l.length = 0 ∧ ic = 0) (hrc : rn ≤ rc) (hr : RowI w rad rn R) (hr0 : ∀ j, rn ≤ j → R j = 0) (hvs : IntSl w vs (.slice vad vs.length vc)) (hins : IntSl w ins (.slice nad ins.length nc)) : Calls Tryd.prog 4 #[.slice iad l.length ic, .int .i64 worst, .slice rad rn rc, .slice vad vs.length vc, .slice nad ins.length nc] w fun r w' => r = .returned (.bool true) ∧ Below w.heap.size w w' := by
  by_cases hlong : 3000 < l.length
  · exact bound_long w l iad ic worst rad rn rc vs ins vad nad vc nc hkk hlong
  have hli : ¬ (3000 : Int) < (l.length : Int) := by omega
  have hli' : (l.length : Int) ≤ 3000 := by omega
  have HT := timed_any w hkk
  obtain ⟨T, hT⟩ : ∃ T, (resF l vs ins).2.2.2 = T := ⟨_, rfl⟩
  obtain ⟨G, hG⟩ : ∃ G, (resF l vs ins).1.1 = G := ⟨_, rfl⟩
  obtain ⟨K, hK⟩ : ∃ K, (resF l vs ins).1.2 = K := ⟨_, rfl⟩
  have HR0 : Hid (∀ W, Below w.heap.size w W → Calls Tryd.prog 18 #[.slice iad l.length ic, .slice vad vs.length vc, .slice nad ins.length nc] W fun r w' => ∃ ua un uc qa qn qc, r = .returned (.tuple #[.agg #[.slice ua un uc, .slice qa qn qc, .int .i64 T], .agg #[.int .i64 G, .int .i64 K]]) ∧ Below W.heap.size W w') := fun W hW => run_ans W l iad ic vad nad vc nc vs ins (hkk.below hW) (hI.below hW) hnil (hvs.below hW) (hins.below hW) T G K hT hG hK
  have HK : Hid (KindsIn w ∧ InSl w l (.slice iad l.length ic) ∧ RowI w rad rn R) := ⟨hkk, hI, hr⟩
  have HZ : Hid (∀ (W : Int) (n : Nat) (R : Nat → Int), PV l W n R → (∀ j, n ≤ j → R j = 0) → G = 0 → T ≤ W) := fun W n R hp hz h0 => by rw [← hT]; exact bound_pure hp hz (by rw [hG]; exact h0)
  have HN : Hid (rn ≤ rc ∧ ∀ j, rn ≤ j → R j = 0) := ⟨hrc, hr0⟩
  clear hkk hI hvs hins hnil hT hG hK hr hr0
  go_enter Tryd.func4, Tryd.ntmps4
  go_wp2_with (first | (go_at_call 9; refine HT.mono ?_; rintro r w1 ⟨rfl, hb1⟩; have H1 : Hid (Below w.heap.size w w1) := hb1; have HW := works_any w1 (HK.out.1.below hb1); clear hb1 HT) | (go_at_call 16; refine HW.mono ?_; rintro r w2 ⟨rfl, hb2⟩; have H2 : Hid (Below w.heap.size w w2) := below_seq H1.out hb2; clear hb2 HW))
  rcases HA17 w2 l iad ic (HK.out.1.below H2.out) (HK.out.2.1.below H2.out) with ⟨c, k, h1, HA⟩ | ⟨hc, hall, HA⟩
  · have hcb : (c != 0) = true := by simpa using h1
    clear HR0 HZ HN
    go_wp2_with (go_at_call 17; refine HA.mono ?_; rintro r w3 ⟨rfl, hb3⟩; have H3 : Hid (Below w.heap.size w w3) := below_seq H2.out hb3; clear hb3 HA)
    have hBb : Below w3.heap.size w3 (((w3.alloc (.cells #[.int .i64 0, .slice none 0 0] 31)).alloc (.cells #[.int .i64 c, .int .i64 k] 37)).alloc (.cells #[.int .i64 0, .slice none 0 0, .int .i64 worst, .slice rad rn rc] 31)) := (((Below.refl _ _).alloc (Nat.le_refl _) _).alloc (by simp) _).alloc (by simp; omega) _
    have z0 : (((w3.alloc (.cells #[.int .i64 0, .slice none 0 0] 31)).alloc (.cells #[.int .i64 c, .int .i64 k] 37)).alloc (.cells #[.int .i64 0, .slice none 0 0, .int .i64 worst, .slice rad rn rc] 31)).cell? ⟨w3.heap.size + 1, 0, none⟩ = some (.int .i64 c) := by go_simp
    have z1 : (((w3.alloc (.cells #[.int .i64 0, .slice none 0 0] 31)).alloc (.cells #[.int .i64 c, .int .i64 k] 37)).alloc (.cells #[.int .i64 0, .slice none 0 0, .int .i64 worst, .slice rad rn rc] 31)).cell? ⟨w3.heap.size + 1 + 1, 0, none⟩ = some (.int .i64 0) := by go_simp
    have z2 : (((w3.alloc (.cells #[.int .i64 0, .slice none 0 0] 31)).alloc (.cells #[.int .i64 c, .int .i64 k] 37)).alloc (.cells #[.int .i64 0, .slice none 0 0, .int .i64 worst, .slice rad rn rc] 31)).cell? ⟨w3.heap.size + 1 + 1, 1, none⟩ = some (.slice none 0 0) := by go_simp
    have z3 : (((w3.alloc (.cells #[.int .i64 0, .slice none 0 0] 31)).alloc (.cells #[.int .i64 c, .int .i64 k] 37)).alloc (.cells #[.int .i64 0, .slice none 0 0, .int .i64 worst, .slice rad rn rc] 31)).cell? ⟨w3.heap.size + 1 + 1, 2, none⟩ = some (.int .i64 worst) := by go_simp
    have z4 : (((w3.alloc (.cells #[.int .i64 0, .slice none 0 0] 31)).alloc (.cells #[.int .i64 c, .int .i64 k] 37)).alloc (.cells #[.int .i64 0, .slice none 0 0, .int .i64 worst, .slice rad rn rc] 31)).cell? ⟨w3.heap.size + 1 + 1, 3, none⟩ = some (.slice rad rn rc) := by go_simp
    generalize (((w3.alloc (.cells #[.int .i64 0, .slice none 0 0] 31)).alloc (.cells #[.int .i64 c, .int .i64 k] 37)).alloc (.cells #[.int .i64 0, .slice none 0 0, .int .i64 worst, .slice rad rn rc] 31)) = Wb at *
    have H5 : Hid (Below w3.heap.size w3 Wb) := hBb
    clear hBb
    go_loopw [37] (fun i wr => (i = .int .i64 0 ∨ i = .int .i64 1 ∨ i = .int .i64 2) ∧ Below Wb.heap.size Wb wr) (fun i _ => 3 - (intOf i).toNat)
    case atStart => exact ⟨.inl rfl, Below.refl _ _⟩
    case round =>
      have hb := hrel.2
      have HB : Hid (Below Wb.heap.size Wb wr) := hb
      have t0 := below_cell hb z0
      have t1 := below_cell hb z1
      have t2 := below_cell hb z2
      have t3 := below_cell hb z3
      have t4 := below_cell hb z4
      have lw : w3.heap.size + 1 + 1 < wr.heap.size := World.block_lt_of_cell? wr _ t1
      have lw0 : w3.heap.size + 1 < wr.heap.size := by omega
      have hi := hrel.1
      clear hb hrel z0 z1 z2 z3 z4
      rcases hi with rfl | rfl | rfl
      · go_wp2_with fail
        exact ⟨⟨.inr (.inl rfl), below_seq HB.out (below_new _ _)⟩, by simp [intOf]⟩
      · go_wp2_with fail
        exact ⟨⟨.inr (.inr rfl), below_seq HB.out (below_new _ _)⟩, by simp [intOf]⟩
      · go_wp2_with fail
        go_ret
        exact ⟨rfl, below_seq H3.out (below_seq H5.out HB.out)⟩
  · have HC : Hid (checkI l = (0, 0) ∧ ∀ j, restF l j ≤ 1099511627776) := ⟨hc, hall⟩
    obtain ⟨z, hz⟩ : ∃ z, restF l 0 = z := ⟨_, rfl⟩
    rw [hz] at HA
    have HZ0 : Hid (G = 0 → T ≤ z) := fun h0 => HZ.out z l.length (restF l) (by rw [← hz]; exact pv_self hc hall) (fun j hj => restF_out hj) h0
    have HZZ : Hid (restF l 0 = z) := hz
    clear hc hall hz
    go_wp2_with (go_at_call 17; refine HA.mono ?_; rintro r w3 ⟨rb, rfl, hrow, hb3⟩; have H3 : Hid (Below w.heap.size w w3 ∧ ∀ j, j < l.length → w3.cell? ⟨rb, j, none⟩ = some (.int .i64 (restF l j))) := ⟨below_seq H2.out hb3, hrow⟩; clear hb3 hrow HA)
    have hBb : Below w3.heap.size w3 (((w3.alloc (.cells #[.int .i64 z, .slice (some ⟨rb, 0, none⟩) l.length l.length] 31)).alloc (.cells #[.int .i64 0, .int .i64 0] 37)).alloc (.cells #[.int .i64 z, .slice (some ⟨rb, 0, none⟩) l.length l.length, .int .i64 worst, .slice rad rn rc] 31)) := (((Below.refl _ _).alloc (Nat.le_refl _) _).alloc (by simp) _).alloc (by simp; omega) _
    have z0 : (((w3.alloc (.cells #[.int .i64 z, .slice (some ⟨rb, 0, none⟩) l.length l.length] 31)).alloc (.cells #[.int .i64 0, .int .i64 0] 37)).alloc (.cells #[.int .i64 z, .slice (some ⟨rb, 0, none⟩) l.length l.length, .int .i64 worst, .slice rad rn rc] 31)).cell? ⟨w3.heap.size + 1, 0, none⟩ = some (.int .i64 0) := by go_simp
    have z1 : (((w3.alloc (.cells #[.int .i64 z, .slice (some ⟨rb, 0, none⟩) l.length l.length] 31)).alloc (.cells #[.int .i64 0, .int .i64 0] 37)).alloc (.cells #[.int .i64 z, .slice (some ⟨rb, 0, none⟩) l.length l.length, .int .i64 worst, .slice rad rn rc] 31)).cell? ⟨w3.heap.size + 1 + 1, 0, none⟩ = some (.int .i64 z) := by go_simp
    have z2 : (((w3.alloc (.cells #[.int .i64 z, .slice (some ⟨rb, 0, none⟩) l.length l.length] 31)).alloc (.cells #[.int .i64 0, .int .i64 0] 37)).alloc (.cells #[.int .i64 z, .slice (some ⟨rb, 0, none⟩) l.length l.length, .int .i64 worst, .slice rad rn rc] 31)).cell? ⟨w3.heap.size + 1 + 1, 1, none⟩ = some (.slice (some ⟨rb, 0, none⟩) l.length l.length) := by go_simp
    have z3 : (((w3.alloc (.cells #[.int .i64 z, .slice (some ⟨rb, 0, none⟩) l.length l.length] 31)).alloc (.cells #[.int .i64 0, .int .i64 0] 37)).alloc (.cells #[.int .i64 z, .slice (some ⟨rb, 0, none⟩) l.length l.length, .int .i64 worst, .slice rad rn rc] 31)).cell? ⟨w3.heap.size + 1 + 1, 2, none⟩ = some (.int .i64 worst) := by go_simp
    have z4 : (((w3.alloc (.cells #[.int .i64 z, .slice (some ⟨rb, 0, none⟩) l.length l.length] 31)).alloc (.cells #[.int .i64 0, .int .i64 0] 37)).alloc (.cells #[.int .i64 z, .slice (some ⟨rb, 0, none⟩) l.length l.length, .int .i64 worst, .slice rad rn rc] 31)).cell? ⟨w3.heap.size + 1 + 1, 3, none⟩ = some (.slice rad rn rc) := by go_simp
    generalize (((w3.alloc (.cells #[.int .i64 z, .slice (some ⟨rb, 0, none⟩) l.length l.length] 31)).alloc (.cells #[.int .i64 0, .int .i64 0] 37)).alloc (.cells #[.int .i64 z, .slice (some ⟨rb, 0, none⟩) l.length l.length, .int .i64 worst, .slice rad rn rc] 31)) = Wb at *
    have H5 : Hid (Below w3.heap.size w3 Wb) := hBb
    clear hBb
    go_loopw [37] (fun i wr => (i = .int .i64 0 ∨ i = .int .i64 1 ∨ i = .int .i64 2) ∧ Below Wb.heap.size Wb wr) (fun i _ => 3 - (intOf i).toNat)
    case atStart => exact ⟨.inl rfl, Below.refl _ _⟩
    case round =>
      have hb := hrel.2
      have HB : Hid (Below Wb.heap.size Wb wr) := hb
      have t0 := below_cell hb z0
      have t1 := below_cell hb z1
      have t2 := below_cell hb z2
      have t3 := below_cell hb z3
      have t4 := below_cell hb z4
      have lw : w3.heap.size + 1 + 1 < wr.heap.size := World.block_lt_of_cell? wr _ t1
      have lw0 : w3.heap.size + 1 < wr.heap.size := by omega
      have hi := hrel.1
      clear hb hrel z0 z1 z2 z3 z4
      rcases hi with rfl | rfl | rfl
      · have HR : Hid (∀ W, Below Wb.heap.size Wb W → Calls Tryd.prog 18 #[.slice iad l.length ic, .slice vad vs.length vc, .slice nad ins.length nc] W fun r w' => ∃ ua un uc qa qn qc, r = .returned (.tuple #[.agg #[.slice ua un uc, .slice qa qn qc, .int .i64 T], .agg #[.int .i64 G, .int .i64 K]]) ∧ Below W.heap.size W w') := fun W hW => HR0.out W (below_seq H3.out.1 (below_seq H5.out hW))
        have HP0 : Hid (∀ W, Below Wb.heap.size Wb W → Calls Tryd.prog 12 #[.slice iad l.length ic, .agg #[.int .i64 z, .slice (some ⟨rb, 0, none⟩) l.length l.length]] W fun r w' => r = .returned (.bool true) ∧ Below W.heap.size W w') := fun W hW => by
          have := Proves_self W l iad ic rb (HK.out.1.below (below_seq H3.out.1 (below_seq H5.out hW))) (HK.out.2.1.below (below_seq H3.out.1 (below_seq H5.out hW))) HC.out.1 HC.out.2 (fun j hj => below_cell (below_seq H5.out hW) (H3.out.2 j hj))
          rw [HZZ.out] at this
          exact this
        clear HR0
        by_cases hg : G = 0
        · subst hg
          have hTz := HZ0.out rfl
          have HX : Hid (Below wr.heap.size wr (wr.alloc (.cells #[.int .i64 z, .slice (some ⟨rb, 0, none⟩) l.length l.length] 31))) := below_new _ _
          have HP := HP0.out (wr.alloc (.cells #[.int .i64 z, .slice (some ⟨rb, 0, none⟩) l.length l.length] 31)) (below_seq HB.out HX.out)
          go_wp2_with (go_at_call 12; refine HP.mono ?_; rintro r w5 ⟨rfl, hb5⟩; have H6 : Hid (Below Wb.heap.size Wb w5) := below_seq (below_seq HB.out HX.out) hb5; have u0 : w5.cell? ⟨wr.heap.size, 0, none⟩ = some (.int .i64 z) := below_cell hb5 (by go_simp); have u1 : w5.cell? ⟨wr.heap.size, 1, none⟩ = some (.slice (some ⟨rb, 0, none⟩) l.length l.length) := below_cell hb5 (by go_simp); have lx : wr.heap.size < w5.heap.size := World.block_lt_of_cell? w5 _ u0; have lx1 : wr.heap.size < w5.heap.size + 1 := (by omega); clear hb5 HP)
          go_wp2_with (go_at_call 18; refine (HR.out _ H6.out).mono ?_; rintro r w6 ⟨ua, un, uc, qa, qn, qc, rfl, hb6⟩; have H7 : Hid (Below Wb.heap.size Wb w6) := below_seq H6.out hb6; have v0 := below_cell hb6 u0; have ly : wr.heap.size < w6.heap.size := World.block_lt_of_cell? w6 _ v0; have ly1 : wr.heap.size < w6.heap.size + 1 := (by omega); clear hb6 HR)
          exact ⟨⟨.inr (.inl rfl), (H7.out.alloc H7.out.size _).alloc (by have := H7.out.size; simp; omega) _⟩, by simp [intOf]⟩
        · have hgb : (G == 0) = false := by simpa using hg
          have HX : Hid (Below wr.heap.size wr (wr.alloc (.cells #[.int .i64 z, .slice (some ⟨rb, 0, none⟩) l.length l.length] 31))) := below_new _ _
          have HP := HP0.out (wr.alloc (.cells #[.int .i64 z, .slice (some ⟨rb, 0, none⟩) l.length l.length] 31)) (below_seq HB.out HX.out)
          go_wp2_with (go_at_call 12; refine HP.mono ?_; rintro r w5 ⟨rfl, hb5⟩; have H6 : Hid (Below Wb.heap.size Wb w5) := below_seq (below_seq HB.out HX.out) hb5; have u0 : w5.cell? ⟨wr.heap.size, 0, none⟩ = some (.int .i64 z) := below_cell hb5 (by go_simp); have u1 : w5.cell? ⟨wr.heap.size, 1, none⟩ = some (.slice (some ⟨rb, 0, none⟩) l.length l.length) := below_cell hb5 (by go_simp); have lx : wr.heap.size < w5.heap.size := World.block_lt_of_cell? w5 _ u0; have lx1 : wr.heap.size < w5.heap.size + 1 := (by omega); clear hb5 HP)
          go_wp2_with (go_at_call 18; refine (HR.out _ H6.out).mono ?_; rintro r w6 ⟨ua, un, uc, qa, qn, qc, rfl, hb6⟩; have H7 : Hid (Below Wb.heap.size Wb w6) := below_seq H6.out hb6; have v0 := below_cell hb6 u0; have ly : wr.heap.size < w6.heap.size := World.block_lt_of_cell? w6 _ v0; have ly1 : wr.heap.size < w6.heap.size + 1 := (by omega); clear hb6 HR)
          exact ⟨⟨.inr (.inl rfl), (H7.out.alloc H7.out.size _).alloc (by have := H7.out.size; simp; omega) _⟩, by simp [intOf]⟩
      · by_cases hp : PV l worst rn R
        · have HR : Hid (∀ W, Below Wb.heap.size Wb W → Calls Tryd.prog 18 #[.slice iad l.length ic, .slice vad vs.length vc, .slice nad ins.length nc] W fun r w' => ∃ ua un uc qa qn qc, r = .returned (.tuple #[.agg #[.slice ua un uc, .slice qa qn qc, .int .i64 T], .agg #[.int .i64 G, .int .i64 K]]) ∧ Below W.heap.size W w') := fun W hW => HR0.out W (below_seq H3.out.1 (below_seq H5.out hW))
          have HP1 : Hid (∀ W, Below Wb.heap.size Wb W → Calls Tryd.prog 12 #[.slice iad l.length ic, .agg #[.int .i64 worst, .slice rad rn rc]] W fun r w' => r = .returned (.bool true) ∧ Below W.heap.size W w') := fun W hW => Proves_yes W l iad ic worst rad rn rc R (HK.out.1.below (below_seq H3.out.1 (below_seq H5.out hW))) (HK.out.2.1.below (below_seq H3.out.1 (below_seq H5.out hW))) HN.out.1 (HK.out.2.2.below (below_seq H3.out.1 (below_seq H5.out hW))) (HN.out.2 _ (Nat.le_refl _)) hp
          have HZ1 := HZ.out worst rn R hp HN.out.2
          clear HR0 hp
          by_cases hg : G = 0
          · subst hg
            have hTz := HZ1 rfl
            clear HZ1
            have HX : Hid (Below wr.heap.size wr (wr.alloc (.cells #[.int .i64 worst, .slice rad rn rc] 31))) := below_new _ _
            have HP := HP1.out (wr.alloc (.cells #[.int .i64 worst, .slice rad rn rc] 31)) (below_seq HB.out HX.out)
            go_wp2_with (go_at_call 12; refine HP.mono ?_; rintro r w5 ⟨rfl, hb5⟩; have H6 : Hid (Below Wb.heap.size Wb w5) := below_seq (below_seq HB.out HX.out) hb5; have u0 : w5.cell? ⟨wr.heap.size, 0, none⟩ = some (.int .i64 worst) := below_cell hb5 (by go_simp); have u1 : w5.cell? ⟨wr.heap.size, 1, none⟩ = some (.slice rad rn rc) := below_cell hb5 (by go_simp); have lx : wr.heap.size < w5.heap.size := World.block_lt_of_cell? w5 _ u0; have lx1 : wr.heap.size < w5.heap.size + 1 := (by omega); clear hb5 HP)
            go_wp2_with (go_at_call 18; refine (HR.out _ H6.out).mono ?_; rintro r w6 ⟨ua, un, uc, qa, qn, qc, rfl, hb6⟩; have H7 : Hid (Below Wb.heap.size Wb w6) := below_seq H6.out hb6; have v0 := below_cell hb6 u0; have ly : wr.heap.size < w6.heap.size := World.block_lt_of_cell? w6 _ v0; have ly1 : wr.heap.size < w6.heap.size + 1 := (by omega); clear hb6 HR)
            exact ⟨⟨.inr (.inr rfl), (H7.out.alloc H7.out.size _).alloc (by have := H7.out.size; simp; omega) _⟩, by simp [intOf]⟩
          · have hgb : (G == 0) = false := by simpa using hg
            clear HZ1
            have HX : Hid (Below wr.heap.size wr (wr.alloc (.cells #[.int .i64 worst, .slice rad rn rc] 31))) := below_new _ _
            have HP := HP1.out (wr.alloc (.cells #[.int .i64 worst, .slice rad rn rc] 31)) (below_seq HB.out HX.out)
            go_wp2_with (go_at_call 12; refine HP.mono ?_; rintro r w5 ⟨rfl, hb5⟩; have H6 : Hid (Below Wb.heap.size Wb w5) := below_seq (below_seq HB.out HX.out) hb5; have u0 : w5.cell? ⟨wr.heap.size, 0, none⟩ = some (.int .i64 worst) := below_cell hb5 (by go_simp); have u1 : w5.cell? ⟨wr.heap.size, 1, none⟩ = some (.slice rad rn rc) := below_cell hb5 (by go_simp); have lx : wr.heap.size < w5.heap.size := World.block_lt_of_cell? w5 _ u0; have lx1 : wr.heap.size < w5.heap.size + 1 := (by omega); clear hb5 HP)
            go_wp2_with (go_at_call 18; refine (HR.out _ H6.out).mono ?_; rintro r w6 ⟨ua, un, uc, qa, qn, qc, rfl, hb6⟩; have H7 : Hid (Below Wb.heap.size Wb w6) := below_seq H6.out hb6; have v0 := below_cell hb6 u0; have ly : wr.heap.size < w6.heap.size := World.block_lt_of_cell? w6 _ v0; have ly1 : wr.heap.size < w6.heap.size + 1 := (by omega); clear hb6 HR)
            exact ⟨⟨.inr (.inr rfl), (H7.out.alloc H7.out.size _).alloc (by have := H7.out.size; simp; omega) _⟩, by simp [intOf]⟩
        · have HP1 : Hid (∀ W, Below Wb.heap.size Wb W → Calls Tryd.prog 12 #[.slice iad l.length ic, .agg #[.int .i64 worst, .slice rad rn rc]] W fun r w' => r = .returned (.bool false) ∧ Below W.heap.size W w') := fun W hW => Proves_not W l iad ic worst rad rn rc R (HK.out.1.below (below_seq H3.out.1 (below_seq H5.out hW))) (HK.out.2.1.below (below_seq H3.out.1 (below_seq H5.out hW))) HN.out.1 (HK.out.2.2.below (below_seq H3.out.1 (below_seq H5.out hW))) (HN.out.2 _ (Nat.le_refl _)) hp
          clear hp
          have HX : Hid (Below wr.heap.size wr (wr.alloc (.cells #[.int .i64 worst, .slice rad rn rc] 31))) := below_new _ _
          have HP := HP1.out (wr.alloc (.cells #[.int .i64 worst, .slice rad rn rc] 31)) (below_seq HB.out HX.out)
          go_wp2_with (go_at_call 12; refine HP.mono ?_; rintro r w5 ⟨rfl, hb5⟩; have H6 : Hid (Below Wb.heap.size Wb w5) := below_seq (below_seq HB.out HX.out) hb5; have u0 : w5.cell? ⟨wr.heap.size, 0, none⟩ = some (.int .i64 worst) := below_cell hb5 (by go_simp); have u1 : w5.cell? ⟨wr.heap.size, 1, none⟩ = some (.slice rad rn rc) := below_cell hb5 (by go_simp); have lx : wr.heap.size < w5.heap.size := World.block_lt_of_cell? w5 _ u0; have lx1 : wr.heap.size < w5.heap.size + 1 := (by omega); clear hb5 HP)
          exact ⟨⟨.inr (.inr rfl), H6.out⟩, by simp [intOf]⟩
      · go_wp2_with fail
        go_ret
        exact ⟨rfl, below_seq H3.out.1 (below_seq H5.out HB.out)⟩

end Go.Proofs.YtcmoehednkaehadDoor
