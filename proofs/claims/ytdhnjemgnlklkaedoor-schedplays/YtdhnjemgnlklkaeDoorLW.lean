import Derived.Test.YtdhnjemgnlklkaeDoorLT
namespace Go.Proofs.YtdhnjemgnlklkaeDoor
open Go.ChangeShapes Go.WideShapes Go.ChangeAt Go.RowKit

/-- Where a walk stands. -/
def Phase (_ : Nat) : Prop := True

def noJ : Jb := ⟨-9, 0, 0, 0, 0⟩

theorem few_any (w : World) (n : Int) : Calls Tryd.prog 11 #[.int .i64 n] w fun r w' => r = .returned (.bool (decide (n ≤ 5000))) ∧ w' = w := by
  go_enter Tryd.func11, Tryd.ntmps11
  go_wp2_with fail
  go_ret
  exact ⟨rfl, rfl⟩

theorem late_two : lateF [⟨0, 0, 0, 3, 0⟩, ⟨0, 0, 0, 5, 0⟩] 4 [4, -1] = ((0, 0), [0]) := by kernel_rfl

theorem lateF_len (l : List Jb) (R : Nat) (es : List Int) : (lateF l R es).2.length ≤ l.length := by
  unfold lateF
  split
  · simp
  · exact lateFrom_len R l es 0

theorem make4 (W : World) (n g : Nat) (hn : n ≤ 100003) (hg : W.heap.size = g) : ∃ w1, (Instr.makeSlice 43 (.int .i64 (n : Int)) (.int .i64 (n : Int))).run Tryd.prog W = .ok (.slice (some ⟨g, 0, none⟩) n n) w1 ∧ Below W.heap.size W w1 := by
  subst hg
  obtain ⟨i0, hi0, hz0, hz1, hz2⟩ := info_parts info3
  have h := run_make (P := Tryd.prog) W 43 3 i0 _ Tryd.underlying43 hi0 hz0 .i64 .i64 (n : Int) (n : Int) (by omega) (by omega) (by rw [hz2]; omega) (by omega)
  rw [Int.toNat_natCast] at h
  exact ⟨_, h, below_new _ _⟩

/-- What the law holds to the end. -/
structure LL (w W : World) (l : List Jb) (rs es : List Int) (o1 o2 o3 : Value) : Prop where
  bel : Below w.heap.size w W
  jobs : Lent Jb.vals W l noJ o1
  runs : Lent nuV W rs (-9) o2
  ends : Lent nuV W es (-9) o3

theorem LL.grow {w W W' : World} {l : List Jb} {rs es : List Int} {o1 o2 o3 : Value} (h : LL w W l rs es o1 o2 o3) (hb : Below W.heap.size W W') : LL w W' l rs es o1 o2 o3 :=
  ⟨below_seq h.bel hb, h.jobs.below hb, h.runs.below hb, h.ends.below hb⟩

set_option maxRecDepth 20000 in
set_option maxHeartbeats 2000000 in
theorem late_walk (w : World) (l : List Jb) (rs es : List Int) (v v2 v3 : Value) (hg : JbAt w 2 0 noJ) (hv : RowSl Jb.vals w l v) (hv2 : RowSl nuV w rs v2) (hv3 : RowSl nuV w es v3) :
    Calls Tryd.prog 6 #[v, v2, v3] w fun r w' => r = .returned (.bool true) ∧ Below w.heap.size w w' := by
  obtain ⟨ad, c, rfl⟩ := hv.len
  obtain ⟨ad2, c2, rfl⟩ := hv2.len
  obtain ⟨ad3, c3, rfl⟩ := hv3.len
  have HV : Hid (JbAt w 2 0 noJ ∧ RowSl Jb.vals w l (.slice ad l.length c) ∧ RowSl nuV w rs (.slice ad2 rs.length c2) ∧ RowSl nuV w es (.slice ad3 es.length c3)) := ⟨hg, hv, hv2, hv3⟩
  clear hg hv hv2 hv3
  have HL := LendJ_any
  have HT := StillJ_any
  unfold Jb.val at HL HT
  obtain ⟨w2, hmk, hb2⟩ := make4 (w.alloc (.cells #[.int .i64 0, .int .i64 0, .int .i64 0, .int .i64 3, .int .i64 0, .int .i64 0, .int .i64 0, .int .i64 0, .int .i64 5, .int .i64 0] 49)) 4 (w.heap.size + 1) (by omega) (by simp)
  have hmk' : (Instr.makeSlice 43 (.int .i64 4) (.int .i64 4)).run Tryd.prog (w.alloc (.cells #[.int .i64 0, .int .i64 0, .int .i64 0, .int .i64 3, .int .i64 0, .int .i64 0, .int .i64 0, .int .i64 0, .int .i64 5, .int .i64 0] 49)) = .ok (.slice (some ⟨w.heap.size + 1, 0, none⟩) 4 4) w2 := hmk
  clear hmk
  have hr0 : RowSl Jb.vals (w.alloc (.cells #[.int .i64 0, .int .i64 0, .int .i64 0, .int .i64 3, .int .i64 0, .int .i64 0, .int .i64 0, .int .i64 0, .int .i64 5, .int .i64 0] 49)) [⟨0, 0, 0, 3, 0⟩, ⟨0, 0, 0, 5, 0⟩] (.slice (some ⟨w.heap.size, 0, none⟩) 2 2) := row_new (f := Jb.vals) w _ 2 #[.int .i64 0, .int .i64 0, .int .i64 0, .int .i64 3, .int .i64 0, .int .i64 0, .int .i64 0, .int .i64 0, .int .i64 5, .int .i64 0] 49 rfl rfl
  have hr1 : RowSl nuV (w2.alloc (.cells #[.int .i64 4, .int .i64 (-1)] 3)) [4, -1] (.slice (some ⟨w2.heap.size, 0, none⟩) 2 2) := row_new (f := nuV) w2 _ 2 #[.int .i64 4, .int .i64 (-1)] 3 rfl rfl
  have HC0 := Late_any (w2.alloc (.cells #[.int .i64 4, .int .i64 (-1)] 3)) _ _ _ _ (some ⟨w.heap.size + 1, 0, none⟩) 4 4 ((hr0.below hb2).below (below_new _ _)) hr1 (by simp)
  rw [late_two] at HC0
  have H0 : Hid (Below w.heap.size w (w2.alloc (.cells #[.int .i64 4, .int .i64 (-1)] 3))) := below_seq (below_seq (below_new _ _) hb2) (below_new _ _)
  clear hr0 hr1 hb2
  go_enter Tryd.func6, Tryd.ntmps6
  go_wp2_with (go_at_call 37; refine HC0.mono ?_; rintro r w4 ⟨us, rfl, ho4, hb4⟩; have H4 : Hid (Below w.heap.size w w4 ∧ RowSl nuV w4 [0] us) := ⟨below_seq H0.out hb4, rowOfN_own ho4⟩; clear ho4 hb4 HC0 H0 hmk')
  have hr2 : RowSl nuV ((w4.alloc (.cells #[.int .i64 0, .int .i64 0] 26)).alloc (.cells #[.int .i64 0] 3)) [0] (.slice (some ⟨w4.heap.size + 1, 0, none⟩) 1 1) := by
    have := row_new (f := nuV) (w4.alloc (.cells #[.int .i64 0, .int .i64 0] 26)) [0] 1 #[.int .i64 0] 3 rfl rfl
    simpa using this
  have HS0 := SameN_any _ [0] us _ (by simp) ((H4.out.2.below (below_new _ _)).below (below_new _ _)) hr2
  go_wp2_with (go_at_call 36; refine HS0.mono ?_; rintro r w5 ⟨rfl, hb5⟩; have H5 : Hid (Below w.heap.size w w5) := below_seq (below_seq (below_seq H4.out.1 (below_new _ _)) (below_new _ _)) hb5; clear hb5 HS0 H4 hr2)
  by_cases hl1 : l.length ≤ 5000
  · have hl1' : decide ((l.length : Int) ≤ 5000) = true := by simp; omega
    by_cases hl2 : rs.length ≤ 5000
    · have hl2' : decide ((rs.length : Int) ≤ 5000) = true := by simp; omega
      by_cases hl3 : es.length ≤ 5000
      · have hl3' : decide ((es.length : Int) ≤ 5000) = true := by simp; omega
        obtain ⟨k0, k1, k2, k3, k4⟩ := HV.out.1.below H5.out
        go_wp2_with (first | (go_at_call 11; refine (few_any _ _).mono ?_; rintro r w6 ⟨rfl, rfl⟩; first | rw [hl1'] | rw [hl2'] | rw [hl3']) | (go_at_call 29; refine (HL _ l noJ _ (by omega) (HV.out.2.1.below H5.out)).mono ?_; rintro r wa ⟨o1, rfl, hl9, hb9⟩; have Ha : Hid (Below w.heap.size w wa ∧ Lent Jb.vals wa l noJ o1) := ⟨below_seq H5.out hb9, hl9⟩; clear hl9 hb9 k0 k1 k2 k3 k4))
        have PH : Phase 1 := trivial
        go_wp2_with (go_at_call 23; guard_hyp PH : Phase 1; clear PH; refine (LendN_any _ rs (-9) _ (by omega) (HV.out.2.2.1.below Ha.out.1)).mono ?_; rintro r wb ⟨o2, rfl, hl9, hb9⟩; have Hb : Hid (Below w.heap.size w wb ∧ Lent Jb.vals wb l noJ o1 ∧ Lent nuV wb rs (-9) o2) := ⟨below_seq Ha.out.1 hb9, Ha.out.2.below hb9, hl9⟩; clear hl9 hb9)
        have PH : Phase 2 := trivial
        go_wp2_with (go_at_call 23; guard_hyp PH : Phase 2; clear PH; refine (LendN_any _ es (-9) _ (by omega) (HV.out.2.2.2.below Hb.out.1)).mono ?_; rintro r wc ⟨o3, rfl, hl9, hb9⟩; have Hc : Hid (LL w wc l rs es o1 o2 o3) := ⟨below_seq Hb.out.1 hb9, Hb.out.2.1.below hb9, Hb.out.2.2.below hb9, hl9⟩; clear hl9 hb9 Ha Hb H5; obtain ⟨a2, d2, rfl⟩ := Hc.out.runs.plain.len; obtain ⟨a3, d3, rfl⟩ := Hc.out.ends.plain.len)
        obtain ⟨z1, z2, ll, hJ⟩ : ∃ z1 z2 ll, lateF l rs.length es = ((z1, z2), ll) := ⟨_, _, _, rfl⟩
        have hll : ll.length ≤ 5000 := by have := lateF_len l rs.length es; rw [hJ] at this; simp at this; omega
        have HC1 := Late_any wc l es o1 _ a2 rs.length d2 Hc.out.jobs.plain Hc.out.ends.plain hl1
        rw [hJ] at HC1
        have HJ : Hid (lateF l rs.length es = ((z1, z2), ll)) := hJ
        clear hJ
        go_wp2_with (go_at_call 37; refine HC1.mono ?_; rintro r w7 ⟨u1, rfl, ho7, hb7⟩; have H7 : Hid (LL w (w7.alloc (.cells #[.int .i64 z1, .int .i64 z2] 26)) l rs es o1 (.slice a2 rs.length d2) (.slice a3 es.length d3) ∧ RowSl nuV (w7.alloc (.cells #[.int .i64 z1, .int .i64 z2] 26)) ll u1 ∧ (w7.alloc (.cells #[.int .i64 z1, .int .i64 z2] 26)).heap[w7.heap.size]? = some (.cells #[.int .i64 z1, .int .i64 z2] 26 (0, 0))) := ⟨(Hc.out.grow hb7).grow (below_new _ _), (rowOfN_own ho7).below (below_new _ _), heap_alloc_new _ _⟩; clear ho7 hb7 HC1 Hc)
        generalize w7.alloc (.cells #[.int .i64 z1, .int .i64 z2] 26) = wd at *
        generalize w7.heap.size = G at *
        have HC2 := Tardy_any wd l es _ _ ad2 rs.length c2 (HV.out.2.1.below H7.out.1.bel) (HV.out.2.2.2.below H7.out.1.bel) hl1
        rw [HJ.out] at HC2
        go_wp2_with (go_at_call 38; refine HC2.mono ?_; rintro r w8 ⟨u2, rfl, ho8, hb8⟩; have H8 : Hid (LL w (w8.alloc (.cells #[.int .i64 z1, .int .i64 z2] 26)) l rs es o1 (.slice a2 rs.length d2) (.slice a3 es.length d3) ∧ RowSl nuV (w8.alloc (.cells #[.int .i64 z1, .int .i64 z2] 26)) ll u1 ∧ RowSl nuV (w8.alloc (.cells #[.int .i64 z1, .int .i64 z2] 26)) ll u2) := ⟨(H7.out.1.grow hb8).grow (below_new _ _), (H7.out.2.1.below hb8).below (below_new _ _), (rowOfN_own ho8).below (below_new _ _)⟩; have hG := (hb8.block G (Array.getElem?_eq_some_iff.1 H7.out.2.2).1).trans H7.out.2.2; obtain ⟨gs, gf, gl⟩ := cells_of (l := [_, _]) hG; have g0 := gs 0 _ rfl; have g1 := gs 1 _ rfl; clear gs gf hG ho8 hb8 HC2 H7)
        have HS1 := SameN_any (w8.alloc (.cells #[.int .i64 z1, .int .i64 z2] 26)) ll u1 u2 (by omega) H8.out.2.1 H8.out.2.2
        go_wp2_with (go_at_call 36; refine HS1.mono ?_; rintro r w9 ⟨rfl, hb9⟩; have H9 : Hid (LL w w9 l rs es o1 (.slice a2 rs.length d2) (.slice a3 es.length d3)) := H8.out.1.grow hb9; clear hb9 HS1 H8 g0 g1 gl; obtain ⟨k0, k1, k2, k3, k4⟩ := HV.out.1.below H9.out.bel)
        go_wp2_with (go_at_call 34; refine (HT _ l noJ _ _ (by omega) H9.out.jobs (HV.out.2.1.below H9.out.bel)).mono ?_; rintro r w10 ⟨rfl, hb10⟩; have H10 : Hid (LL w w10 l rs es o1 (.slice a2 rs.length d2) (.slice a3 es.length d3)) := H9.out.grow hb10; clear hb10 H9 k0 k1 k2 k3 k4)
        have PH : Phase 3 := trivial
        go_wp2_with (go_at_call 25; guard_hyp PH : Phase 3; clear PH; refine (StillN_any _ rs (-9) _ _ (by omega) H10.out.runs (HV.out.2.2.1.below H10.out.bel)).mono ?_; rintro r w11 ⟨rfl, hb11⟩; have H11 : Hid (LL w w11 l rs es o1 (.slice a2 rs.length d2) (.slice a3 es.length d3)) := H10.out.grow hb11; clear hb11 H10)
        have PH : Phase 4 := trivial
        go_wp2_with (go_at_call 25; guard_hyp PH : Phase 4; clear PH; refine (StillN_any _ es (-9) _ _ (by omega) H11.out.ends (HV.out.2.2.2.below H11.out.bel)).mono ?_; rintro r w12 ⟨rfl, hb12⟩; have H12 : Hid (Below w.heap.size w w12) := below_seq H11.out.bel hb12; clear hb12 H11)
        go_ret
        exact ⟨rfl, H12.out⟩
      · have hl3' : decide ((es.length : Int) ≤ 5000) = false := by simp; omega
        go_wp2_with (go_at_call 11; refine (few_any _ _).mono ?_; rintro r w6 ⟨rfl, rfl⟩; first | rw [hl1'] | rw [hl2'] | rw [hl3'])
        go_ret
        exact ⟨rfl, H5.out⟩
    · have hl2' : decide ((rs.length : Int) ≤ 5000) = false := by simp; omega
      go_wp2_with (go_at_call 11; refine (few_any _ _).mono ?_; rintro r w6 ⟨rfl, rfl⟩; first | rw [hl1'] | rw [hl2'])
      go_ret
      exact ⟨rfl, H5.out⟩
  · have hl1' : decide ((l.length : Int) ≤ 5000) = false := by simp; omega
    go_wp2_with (go_at_call 11; refine (few_any _ _).mono ?_; rintro r w6 ⟨rfl, rfl⟩; rw [hl1'])
    go_ret
    exact ⟨rfl, H5.out⟩
end Go.Proofs.YtdhnjemgnlklkaeDoor
