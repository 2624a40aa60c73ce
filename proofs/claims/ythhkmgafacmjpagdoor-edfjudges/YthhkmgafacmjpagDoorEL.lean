import Derived.Test.YthhkmgafacmjpagDoorER
namespace Go.Proofs.YthhkmgafacmjpagDoor
open Go.ChangeShapes Go.WideShapes Go.ChangeAt Go.RowKit Go.Sort

theorem few_any (w : World) (n : Int) : Calls Tryd.prog 6 #[.int .i64 n] w fun r w' => r = .returned (.bool (decide (n ≤ 5000))) ∧ w' = w := by
  go_enter Tryd.func6, Tryd.ntmps6
  go_wp2_with fail
  go_ret
  exact ⟨rfl, rfl⟩

abbrev twoE : List Jb := [⟨0, 1, 2, 4, 0⟩, ⟨0, 2, 2, 4, 0⟩]

theorem see_two : seeAll twoE twoE sn0 = ⟨1, 4, true⟩ := by kernel_rfl

theorem jres_two : JRes twoE 1 4 13 0 := by
  refine .inr ⟨by kernel_rfl, rfl, ?_⟩
  have h := see_judged twoE
  rw [see_two] at h
  exact h

/-- What the law holds to the end. -/
structure EW (w W : World) (l : List Jb) (o1 : Value) : Prop where
  bel : Below w.heap.size w W
  jobs : Lent Jb.vals W l noJ o1

theorem EW.grow {w W W' : World} {l : List Jb} {o1 : Value} (h : EW w W l o1) (hb : Below W.heap.size W W') : EW w W' l o1 := ⟨below_seq h.bel hb, h.jobs.below hb⟩

set_option maxRecDepth 20000 in
set_option maxHeartbeats 4000000 in
theorem judges_walk (w : World) (l : List Jb) (v : Value) (hg : JbAt w 0 0 noJ) (hv : RowSl Jb.vals w l v) :
    Calls Tryd.prog 3 #[v] w fun r w' => r = .returned (.bool true) ∧ Below w.heap.size w w' := by
  obtain ⟨ad, c, rfl⟩ := hv.len
  have HV : Hid (JbAt w 0 0 noJ ∧ RowSl Jb.vals w l (.slice ad l.length c)) := ⟨hg, hv⟩
  clear hg hv
  have HL := LendJ_any
  have HT := StillJ_any
  unfold Jb.val at HL HT
  have hr0 : RowSl Jb.vals (w.alloc (.cells #[.int .i64 0, .int .i64 1, .int .i64 2, .int .i64 4, .int .i64 0, .int .i64 0, .int .i64 2, .int .i64 2, .int .i64 4, .int .i64 0] 29)) twoE (.slice (some ⟨w.heap.size, 0, none⟩) 2 2) := row_new (f := Jb.vals) w _ 2 #[.int .i64 0, .int .i64 1, .int .i64 2, .int .i64 4, .int .i64 0, .int .i64 0, .int .i64 2, .int .i64 2, .int .i64 4, .int .i64 0] 29 rfl rfl
  have HC0 := Judge_any (w.alloc (.cells #[.int .i64 0, .int .i64 1, .int .i64 2, .int .i64 4, .int .i64 0, .int .i64 0, .int .i64 2, .int .i64 2, .int .i64 4, .int .i64 0] 29)) twoE _ hr0
  have H0 : Hid (Below w.heap.size w (w.alloc (.cells #[.int .i64 0, .int .i64 1, .int .i64 2, .int .i64 4, .int .i64 0, .int .i64 0, .int .i64 2, .int .i64 2, .int .i64 4, .int .i64 0] 29))) := below_new _ _
  clear hr0
  go_enter Tryd.func3, Tryd.ntmps3
  go_upto_region 2 with (go_at_call 4; refine HC0.mono ?_; rintro r w1 ⟨za, zb, zc, zk, rfl, hj1, hb1⟩; obtain ⟨e1, e2, e3, e4⟩ := jres_unique hj1 jres_two; subst e1 e2 e3 e4; have H1 : Hid (Below w.heap.size w (w1.alloc (.cells #[.int .i64 13, .int .i64 0] 25))) := below_seq (below_seq H0.out hb1) (below_new _ _); clear hj1 hb1 HC0 H0)
  obtain ⟨fs, -, fl⟩ := cells_of (l := [_, _]) (heap_alloc_new w1 (.cells #[.int .i64 13, .int .i64 0] 25))
  have g0 := fs 0 _ rfl
  have g1 := fs 1 _ rfl
  clear fs
  generalize w1.alloc (.cells #[.int .i64 13, .int .i64 0] 25) = w2 at *
  go_cut [31] from 21 to 30 (fun v wc => v = .bool false ∧ Below w.heap.size w wc)
  case first =>
    go_region_with (go_at_call 5; refine (F_any _ _ _).mono ?_; rintro r w3 ⟨rfl, hb3⟩; have H3 : Hid (Below w.heap.size w w3) := below_seq H1.out (below_seq below_drewN' hb3); have g0' := below_cell (below_seq below_drewN' hb3) g0; have g1' := below_cell (below_seq below_drewN' hb3) g1; clear hb3)
    all_goals go_wp2_with fail
    all_goals first | exact ⟨rfl, H3.out⟩ | (go_meet; exact ⟨rfl, H3.out⟩)
  case rest =>
    obtain ⟨rfl, hbc⟩ := hcut
    have H4 : Hid (Below w.heap.size w wc) := hbc
    clear hbc H1 g0 g1 fl
    by_cases hl : l.length ≤ 5000
    · have hl1 : decide ((l.length : Int) ≤ 5000) = true := by simp; omega
      by_cases hm : 100 < l.length ∧ l.length ≤ 4000
      · have hm1 : (100 : Int) < (l.length : Int) := by omega
        have hm2 : (l.length : Int) ≤ 4000 := by omega
        go_wp2_with (go_at_call 6; refine (few_any _ _).mono ?_; rintro r w6 ⟨rfl, hw6⟩; subst hw6; rw [hl1])
        go_ret
        exact ⟨rfl, H4.out⟩
      · obtain ⟨k0, k1, k2, k3, k4⟩ := HV.out.1.below H4.out
        have hmm : ¬ (100 : Int) < (l.length : Int) ∨ ((100 : Int) < (l.length : Int) ∧ ¬ (l.length : Int) ≤ 4000) := by omega
        rcases hmm with hm1 | ⟨hm1, hm2⟩
        all_goals
          go_upto_region 7 with (first | (go_at_call 6; refine (few_any _ _).mono ?_; rintro r w6 ⟨rfl, hw6⟩; have hw6 := hw6.symm; subst hw6; rw [hl1]) | (go_at_call 7; refine (HL _ l noJ _ (by omega) (HV.out.2.below H4.out)).mono ?_; rintro r wa ⟨o1, rfl, hl9, hb9⟩; have Ha : Hid (EW w wa l o1) := ⟨below_seq H4.out hb9, hl9⟩; clear hl9 hb9 k0 k1 k2 k3 k4))
          go_upto_region 8 with (go_at_call 4; refine (Judge_any _ l o1 Ha.out.jobs.plain).mono ?_; rintro r wb ⟨xa, xb, xc, xk, rfl, hj, hb⟩; have Hb : Hid (EW w (wb.alloc (.cells #[.int .i64 xc, .int .i64 xk] 25)) l o1 ∧ JRes l xa xb xc xk ∧ (wb.alloc (.cells #[.int .i64 xc, .int .i64 xk] 25)).heap[wb.heap.size]? = some (.cells #[.int .i64 xc, .int .i64 xk] 25 (0, 0))) := ⟨(Ha.out.grow hb).grow (below_new _ _), hj, heap_alloc_new _ _⟩; clear hj hb Ha)
          generalize wb.alloc (.cells #[.int .i64 xc, .int .i64 xk] 25) = wd at *
          generalize wb.heap.size = G at *
          go_upto_region 9 with (go_at_call 8; refine (JudgeOf_any _ l _ (HV.out.2.below Hb.out.1.bel)).mono ?_; rintro r we ⟨ya, yb, yc, yk, rfl, hj, hb⟩; obtain ⟨e1, e2, e3, e4⟩ := jres_unique hj Hb.out.2.1; subst e1 e2 e3 e4; have Hc : Hid (EW w (we.alloc (.cells #[.int .i64 yc, .int .i64 yk] 25)) l o1) := (Hb.out.1.grow hb).grow (below_new _ _); have hG := (hb.block G (Array.getElem?_eq_some_iff.1 Hb.out.2.2).1).trans Hb.out.2.2; obtain ⟨gs, gf, gl⟩ := cells_of (l := [_, _]) hG; have g0 := gs 0 _ rfl; have g1 := gs 1 _ rfl; clear gs gf hG hj hb Hb)
          obtain ⟨k0, k1, k2, k3, k4⟩ := HV.out.1.below Hc.out.bel
          go_wp2_with (go_at_call 9; refine (HT _ l noJ _ _ (by omega) Hc.out.jobs (HV.out.2.below Hc.out.bel)).mono ?_; rintro r wf ⟨rfl, hb⟩; have Hd : Hid (Below w.heap.size w wf) := below_seq Hc.out.bel hb; clear hb Hc)
          go_ret
          exact ⟨rfl, Hd.out⟩
    · have hl1 : decide ((l.length : Int) ≤ 5000) = false := by simp; omega
      go_wp2_with (go_at_call 6; refine (few_any _ _).mono ?_; rintro r w6 ⟨rfl, hw6⟩; subst hw6; rw [hl1])
      go_ret
      exact ⟨rfl, H4.out⟩

end Go.Proofs.YthhkmgafacmjpagDoor
