import Derived.Test.YtcmoehednkaehadDoorGWW
import Derived.Test.YtcmoehednkaehadDoorGWorks
namespace Go.Proofs.YtcmoehednkaehadDoor
open Go.ChangeShapes Go.WideShapes Go.ChangeAt Go.RowKit Go.Shelf

theorem phi_start (l : List In) (R : Nat → Int) (cl : Nat → Nat) (vs : List Int) : phi l R cl (osAt l) (ms0 vs) = R 0 := by
  show R 0 + sumI (tailI l R cl (ms0 vs).cs) (osAt l 0) = R 0
  show R 0 + sumI (tailI l R cl (ms0 vs).cs) [] = R 0
  simp [sumI]

/-- A run of an image without branches takes its worst time. -/
theorem met_pure {l : List In} {vs ins : List Int} (hc : checkI l = (0, 0)) (h12 : ∀ k, k < l.length → (l.getD k in0).op ≠ 12 ∧ (l.getD k in0).op ≠ 15) (h0 : (resF l vs ins).1.1 = 0) : (resF l vs ins).2.2.2 = restF l 0 := by
  have hd : docI l = (0, 0) := by rw [doc_check]; exact hc
  have hg := gl_of hc
  obtain ⟨M, g⟩ := good_of hd
  by_cases hv : vs.length = 8 ∧ ins.length = 4
  · rw [res_run hd hv.1 hv.2] at *
    rcases hr : runF l ins 20000 (ms0 vs) 0 with p | ⟨s, t⟩
    · rw [hr] at h0; simp at h0
    · have := run_met g hg.nst (restF_pos hg.fwd) (fun k hk => (restF_rule hg.fwd hk).symm) (restF_out (Nat.le_refl _)) h12 ins 20000 (ms0 vs) 0 (MI.start g hv.1) hr
      rw [phi_start] at this
      simpa using this
  · rw [res_range hd (by omega)] at h0
    simp at h0

/-- No run takes longer than what is shown. -/
theorem bound_pure {l : List In} {vs ins : List Int} {W : Int} {n : Nat} {R : Nat → Int} (hp : PV l W n R) (hz : ∀ j, n ≤ j → R j = 0) (h0 : (resF l vs ins).1.1 = 0) : (resF l vs ins).2.2.2 ≤ W := by
  have hc := check_zero hp.ok
  have hd : docI l = (0, 0) := by rw [doc_check]; exact hc
  have hg := gl_of hc
  obtain ⟨M, g⟩ := good_of hd
  have hn := hp.len
  subst hn
  by_cases hv : vs.length = 8 ∧ ins.length = 4
  · rw [res_run hd hv.1 hv.2] at *
    rcases hr : runF l ins 20000 (ms0 vs) 0 with p | ⟨s, t⟩
    · rw [hr] at h0; simp at h0
    · have := run_bound g hg.nst (fun k => by
        by_cases hk : k < l.length
        · exact (hp.rng k hk).1
        · rw [hz k (by omega)]; exact Int.le_refl _) hp.rul ins 20000 (ms0 vs) 0 (MI.start g hv.1) hr
      rw [phi_start] at this
      have := hp.top
      show t ≤ W
      omega
  · rw [res_range hd (by omega)] at h0
    simp at h0

/-- What Run answers, as a value. -/
theorem run_ans (w : World) (l : List In) (iad : Option Addr) (ic : Nat) (vad nad : Option Addr) (vc nc : Nat) (vs ins : List Int) (hkk : KindsIn w) (h : InSl w l (.slice iad l.length ic)) (hnil : iad = none → l.length = 0 ∧ ic = 0) (hvs : IntSl w vs (.slice vad vs.length vc)) (hins : IntSl w ins (.slice nad ins.length nc)) (T G K : Int) (hT : (resF l vs ins).2.2.2 = T) (hG : (resF l vs ins).1.1 = G) (hK : (resF l vs ins).1.2 = K) :
    Calls Tryd.prog 18 #[.slice iad l.length ic, .slice vad vs.length vc, .slice nad ins.length nc] w fun r w' => ∃ ua un uc qa qn qc, r = .returned (.tuple #[.agg #[.slice ua un uc, .slice qa qn qc, .int .i64 T], .agg #[.int .i64 G, .int .i64 K]]) ∧ Below w.heap.size w w' := by
  refine (Run_is w l iad ic vad nad vc nc vs ins hkk h hnil hvs hins).mono ?_
  rintro r w' ⟨hb, u, q, rfl, hu, hq, -⟩
  obtain ⟨ua, uc, rfl⟩ := owns_value hu
  obtain ⟨qa, qc, rfl⟩ := owns_value hq
  unfold ansV
  rw [hT, hG, hK]
  exact ⟨_, _, _, _, _, _, rfl, hb⟩

set_option maxRecDepth 20000 in
set_option maxHeartbeats 4000000 in
theorem met_long (w : World) (l : List In) (iad : Option Addr) (ic : Nat) (vs ins : List Int) (vad nad : Option Addr) (vc nc : Nat) (hkk : KindsIn w) (hl : 3000 < l.length) : Calls Tryd.prog 6 #[.slice iad l.length ic, .slice vad vs.length vc, .slice nad ins.length nc] w fun r w' => r = .returned (.bool true) ∧ Below w.heap.size w w' := by
  have HK : Hid (KindsIn w ∧ True) := ⟨hkk, trivial⟩
  have HT := timed_any w hkk
  have hli : (3000 : Int) < (l.length : Int) := by omega
  clear hkk
  go_enter Tryd.func6, Tryd.ntmps6
  go_wp2_with (first | (go_at_call 9; refine HT.mono ?_; rintro r w1 ⟨rfl, hb1⟩; have H1 : Hid (Below w.heap.size w w1) := hb1; have HW := works_any w1 (HK.out.1.below hb1); clear hb1 HT) | (go_at_call 16; refine HW.mono ?_; rintro r w2 ⟨rfl, hb2⟩; have H2 : Hid (Below w.heap.size w w2) := below_seq H1.out hb2; clear hb2 HW))
  go_ret
  exact ⟨rfl, H2.out⟩

set_option maxRecDepth 20000 in
set_option maxHeartbeats 8000000 in
theorem met_walk (w : World) (l : List In) (iad : Option Addr) (ic : Nat) (vs ins : List Int) (vad nad : Option Addr) (vc nc : Nat) (hkk : KindsIn w) (hI : InSl w l (.slice iad l.length ic)) (hnil : iad = none → l.length = 0 ∧ ic = 0) (hvs : IntSl w vs (.slice vad vs.length vc)) (hins : IntSl w ins (.slice nad ins.length nc)) : Calls Tryd.prog 6 #[.slice iad l.length ic, .slice vad vs.length vc, .slice nad ins.length nc] w fun r w' => r = .returned (.bool true) ∧ Below w.heap.size w w' := by
  by_cases hlong : 3000 < l.length
  · exact met_long w l iad ic vs ins vad nad vc nc hkk hlong
  have hli : ¬ (3000 : Int) < (l.length : Int) := by omega
  have hli' : (l.length : Int) ≤ 3000 := by omega
  have HT := timed_any w hkk
  have HK : Hid (KindsIn w ∧ InSl w l (.slice iad l.length ic) ∧ IntSl w vs (.slice vad vs.length vc) ∧ IntSl w ins (.slice nad ins.length nc)) := ⟨hkk, hI, hvs, hins⟩
  have HN : Hid (iad = none → l.length = 0 ∧ ic = 0) := hnil
  clear hkk hI hvs hins hnil
  go_enter Tryd.func6, Tryd.ntmps6
  go_wp2_with (first | (go_at_call 9; refine HT.mono ?_; rintro r w1 ⟨rfl, hb1⟩; have H1 : Hid (Below w.heap.size w w1) := hb1; have HW := works_any w1 (HK.out.1.below hb1); clear hb1 HT) | (go_at_call 16; refine HW.mono ?_; rintro r w2 ⟨rfl, hb2⟩; have H2 : Hid (Below w.heap.size w w2) := below_seq H1.out hb2; clear hb2 HW))
  go_loopw [24] (fun i wr => ∃ j : Nat, j ≤ l.length ∧ i = .int .i64 j ∧ Below w.heap.size w wr ∧ ∀ k, k < j → (l.getD k in0).op ≠ 12 ∧ (l.getD k in0).op ≠ 15) (fun i _ => l.length - (intOf i).toNat)
  case atStart => exact ⟨0, Nat.zero_le _, rfl, H2.out, fun k hk => by omega⟩
  case round =>
    obtain ⟨j, hj, rfl, hb, hac⟩ := hrel
    have HB : Hid (Below w.heap.size w wr ∧ ∀ k, k < j → (l.getD k in0).op ≠ 12 ∧ (l.getD k in0).op ≠ 15) := ⟨hb, hac⟩
    clear hb hac
    by_cases hjl : j < l.length
    · obtain ⟨ad', c', e', hrow⟩ := HK.out.2.1.below HB.out.1
      cases e'
      rcases hrow with hrow | ⟨ib, io, rfl, hrow⟩
      · rw [hrow] at hjl; simp at hjl
      obtain ⟨c0, c1, c2⟩ := hrow j hjl
      have hji : (j : Int) < (l.length : Int) := by omega
      have HX : Hid (∀ x, l.getD j in0 = x → x.op ≠ 12 → x.op ≠ 15 → ∀ k, k < j + 1 → (l.getD k in0).op ≠ 12 ∧ (l.getD k in0).op ≠ 15) := fun x hx h1 h2 k hk => by
        by_cases e : k = j
        · subst e; rw [hx]; exact ⟨h1, h2⟩
        · exact HB.out.2 k (by omega)
      rcases hx : l.getD j in0 with ⟨op, a, b⟩
      rw [hx] at c0 c1 c2
      have HE : Hid (l.getD j in0 = ⟨op, a, b⟩) := hx
      clear hrow hx
      dsimp only at c0 c1 c2
      by_cases h12 : op = 12
      · subst h12
        go_wp2_with fail
        go_ret
        exact ⟨rfl, below_seq HB.out.1 (below_new _ _)⟩
      by_cases h15 : op = 15
      · subst h15
        go_wp2_with fail
        go_ret
        exact ⟨rfl, below_seq HB.out.1 (below_new _ _)⟩
      · have hb12 : (op == 12) = false := by simpa using h12
        have hb15 : (op == 15) = false := by simpa using h15
        go_wp2_with fail
        exact ⟨⟨j + 1, by omega, by simp, below_seq HB.out.1 (below_new _ _), HX.out _ HE.out h12 h15⟩, by simp [intOf]; omega⟩
    · have hje : j = l.length := by omega
      subst hje
      have h12 := HB.out.2
      rcases HA17 wr l iad ic (HK.out.1.below HB.out.1) (HK.out.2.1.below HB.out.1) with ⟨c, k, h1, HA⟩ | ⟨hc, hall, HA⟩
      · have hcb : (c != 0) = true := by simpa using h1
        obtain ⟨T, hT⟩ : ∃ T, (resF l vs ins).2.2.2 = T := ⟨_, rfl⟩
        obtain ⟨G, hG⟩ : ∃ G, (resF l vs ins).1.1 = G := ⟨_, rfl⟩
        obtain ⟨K, hK⟩ : ∃ K, (resF l vs ins).1.2 = K := ⟨_, rfl⟩
        have HR : Hid (∀ W, Below w.heap.size w W → Calls Tryd.prog 18 #[.slice iad l.length ic, .slice vad vs.length vc, .slice nad ins.length nc] W fun r w' => ∃ ua un uc qa qn qc, r = .returned (.tuple #[.agg #[.slice ua un uc, .slice qa qn qc, .int .i64 T], .agg #[.int .i64 G, .int .i64 K]]) ∧ Below W.heap.size W w') := fun W hW => run_ans W l iad ic vad nad vc nc vs ins (HK.out.1.below hW) (HK.out.2.1.below hW) HN.out (HK.out.2.2.1.below hW) (HK.out.2.2.2.below hW) T G K hT hG hK
        clear h12 hT hG hK
        go_wp2_with (go_at_call 17; refine HA.mono ?_; rintro r w3 ⟨rfl, hb3⟩; have H3 : Hid (Below w.heap.size w w3) := below_seq HB.out.1 hb3; clear hb3 HA)
        have HB0 : Hid (Below w3.heap.size w3 ((w3.alloc (.cells #[.int .i64 0, .slice none 0 0] 31)).alloc (.cells #[.int .i64 c, .int .i64 k] 37))) := ((Below.refl _ _).alloc (Nat.le_refl _) _).alloc (by simp) _
        go_wp2_with (go_at_call 18; refine (HR.out _ (below_seq H3.out HB0.out)).mono ?_; rintro r w4 ⟨ua, un, uc, qa, qn, qc, rfl, hb4⟩; have H4 : Hid (Below w.heap.size w w4) := below_seq (below_seq H3.out HB0.out) hb4; have x0 : w4.cell? ⟨w3.heap.size, 0, none⟩ = some (.int .i64 0) := below_cell hb4 (by go_simp); have x1 : w4.cell? ⟨w3.heap.size, 1, none⟩ = some (.slice none 0 0) := below_cell hb4 (by go_simp); have x2 : w4.cell? ⟨w3.heap.size + 1, 0, none⟩ = some (.int .i64 c) := below_cell hb4 (by go_simp); have x3 : w4.cell? ⟨w3.heap.size + 1, 1, none⟩ = some (.int .i64 k) := below_cell hb4 (by go_simp); have lx : w3.heap.size + 1 < w4.heap.size := World.block_lt_of_cell? w4 _ x2; have lx0 : w3.heap.size < w4.heap.size := (by omega); have lx1 : w3.heap.size < w4.heap.size + 1 := (by omega); clear hb4 HR)
        go_ret
        exact ⟨rfl, (H4.out.alloc H4.out.size _).alloc (by have := H4.out.size; simp; omega) _⟩
      · obtain ⟨K, hK⟩ : ∃ K, (resF l vs ins).1.2 = K := ⟨_, rfl⟩
        by_cases hG : (resF l vs ins).1.1 = 0
        · have hT := met_pure (vs := vs) (ins := ins) hc h12 hG
          have HR : Hid (∀ W, Below w.heap.size w W → Calls Tryd.prog 18 #[.slice iad l.length ic, .slice vad vs.length vc, .slice nad ins.length nc] W fun r w' => ∃ ua un uc qa qn qc, r = .returned (.tuple #[.agg #[.slice ua un uc, .slice qa qn qc, .int .i64 (restF l 0)], .agg #[.int .i64 0, .int .i64 K]]) ∧ Below W.heap.size W w') := fun W hW => run_ans W l iad ic vad nad vc nc vs ins (HK.out.1.below hW) (HK.out.2.1.below hW) HN.out (HK.out.2.2.1.below hW) (HK.out.2.2.2.below hW) _ 0 K hT hG hK
          clear h12 hT hG hK hall hc
          generalize restF l 0 = z at *
          go_wp2_with (go_at_call 17; refine HA.mono ?_; rintro r w3 ⟨rb, rfl, -, hb3⟩; have H3 : Hid (Below w.heap.size w w3) := below_seq HB.out.1 hb3; clear hb3 HA)
          have HB0 : Hid (Below w3.heap.size w3 ((w3.alloc (.cells #[.int .i64 z, .slice (some ⟨rb, 0, none⟩) l.length l.length] 31)).alloc (.cells #[.int .i64 0, .int .i64 0] 37))) := ((Below.refl _ _).alloc (Nat.le_refl _) _).alloc (by simp) _
          go_wp2_with (go_at_call 18; refine (HR.out _ (below_seq H3.out HB0.out)).mono ?_; rintro r w4 ⟨ua, un, uc, qa, qn, qc, rfl, hb4⟩; have H4 : Hid (Below w.heap.size w w4) := below_seq (below_seq H3.out HB0.out) hb4; have x0 : w4.cell? ⟨w3.heap.size, 0, none⟩ = some (.int .i64 z) := below_cell hb4 (by go_simp); have x1 : w4.cell? ⟨w3.heap.size, 1, none⟩ = some (.slice (some ⟨rb, 0, none⟩) l.length l.length) := below_cell hb4 (by go_simp); have x2 : w4.cell? ⟨w3.heap.size + 1, 0, none⟩ = some (.int .i64 0) := below_cell hb4 (by go_simp); have x3 : w4.cell? ⟨w3.heap.size + 1, 1, none⟩ = some (.int .i64 0) := below_cell hb4 (by go_simp); have lx : w3.heap.size + 1 < w4.heap.size := World.block_lt_of_cell? w4 _ x2; have lx0 : w3.heap.size < w4.heap.size := (by omega); have lx1 : w3.heap.size < w4.heap.size + 1 := (by omega); clear hb4 HR)
          go_ret
          exact ⟨rfl, (H4.out.alloc H4.out.size _).alloc (by have := H4.out.size; simp; omega) _⟩
        · obtain ⟨G, hG'⟩ : ∃ G, (resF l vs ins).1.1 = G := ⟨_, rfl⟩
          obtain ⟨T, hT⟩ : ∃ T, (resF l vs ins).2.2.2 = T := ⟨_, rfl⟩
          have hGn : ¬ G = 0 := by rw [← hG']; exact hG
          have hGb : (G != 0) = true := by simpa using hGn
          have HR : Hid (∀ W, Below w.heap.size w W → Calls Tryd.prog 18 #[.slice iad l.length ic, .slice vad vs.length vc, .slice nad ins.length nc] W fun r w' => ∃ ua un uc qa qn qc, r = .returned (.tuple #[.agg #[.slice ua un uc, .slice qa qn qc, .int .i64 T], .agg #[.int .i64 G, .int .i64 K]]) ∧ Below W.heap.size W w') := fun W hW => run_ans W l iad ic vad nad vc nc vs ins (HK.out.1.below hW) (HK.out.2.1.below hW) HN.out (HK.out.2.2.1.below hW) (HK.out.2.2.2.below hW) T G K hT hG' hK
          clear h12 hT hG hG' hK hall hc
          generalize restF l 0 = z at *
          go_wp2_with (go_at_call 17; refine HA.mono ?_; rintro r w3 ⟨rb, rfl, -, hb3⟩; have H3 : Hid (Below w.heap.size w w3) := below_seq HB.out.1 hb3; clear hb3 HA)
          have HB0 : Hid (Below w3.heap.size w3 ((w3.alloc (.cells #[.int .i64 z, .slice (some ⟨rb, 0, none⟩) l.length l.length] 31)).alloc (.cells #[.int .i64 0, .int .i64 0] 37))) := ((Below.refl _ _).alloc (Nat.le_refl _) _).alloc (by simp) _
          go_wp2_with (go_at_call 18; refine (HR.out _ (below_seq H3.out HB0.out)).mono ?_; rintro r w4 ⟨ua, un, uc, qa, qn, qc, rfl, hb4⟩; have H4 : Hid (Below w.heap.size w w4) := below_seq (below_seq H3.out HB0.out) hb4; have x0 : w4.cell? ⟨w3.heap.size, 0, none⟩ = some (.int .i64 z) := below_cell hb4 (by go_simp); have x1 : w4.cell? ⟨w3.heap.size, 1, none⟩ = some (.slice (some ⟨rb, 0, none⟩) l.length l.length) := below_cell hb4 (by go_simp); have x2 : w4.cell? ⟨w3.heap.size + 1, 0, none⟩ = some (.int .i64 0) := below_cell hb4 (by go_simp); have x3 : w4.cell? ⟨w3.heap.size + 1, 1, none⟩ = some (.int .i64 0) := below_cell hb4 (by go_simp); have lx : w3.heap.size + 1 < w4.heap.size := World.block_lt_of_cell? w4 _ x2; have lx0 : w3.heap.size < w4.heap.size := (by omega); have lx1 : w3.heap.size < w4.heap.size + 1 := (by omega); clear hb4 HR)
          go_ret
          exact ⟨rfl, (H4.out.alloc H4.out.size _).alloc (by have := H4.out.size; simp; omega) _⟩

end Go.Proofs.YtcmoehednkaehadDoor
