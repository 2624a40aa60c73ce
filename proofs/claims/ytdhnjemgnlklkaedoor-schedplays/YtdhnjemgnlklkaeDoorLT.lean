import Derived.Test.YtdhnjemgnlklkaeDoorLA
namespace Go.Proofs.YtdhnjemgnlklkaeDoor
open Go.ChangeShapes Go.WideShapes Go.ChangeAt Go.RowKit

set_option maxRecDepth 20000 in
set_option maxHeartbeats 4000000 in
theorem Tardy_bad (w : World) (l : List Jb) (es : List Int) (v ve : Value) (ra : Option Addr) (R rc : Nat) (hv : RowSl Jb.vals w l v) (he : RowSl nuV w es ve) (hne : es.length ≠ l.length) :
    Calls Tryd.prog 38 #[v, .agg #[.slice ra R rc, ve]] w fun r w' => r = .returned (.tuple #[.slice none 0 0, .agg #[.int .i64 2, .int .i64 0]]) ∧ Below w.heap.size w w' := by
  obtain ⟨ad, c, rfl⟩ := hv.len
  obtain ⟨ad2, c2, rfl⟩ := he.len
  have hn : ((es.length : Int) != (l.length : Int)) = true := by simp; omega
  have H0 := LO.start w (.slice ra R rc) (.slice ad2 es.length c2)
  clear hv he
  go_enter Tryd.func38, Tryd.ntmps38
  go_wp2_with (go_at_call 47; refine (F_any _ _ _).mono ?_; rintro r w1 ⟨rfl, hb1⟩; have H1 := H0.grow hb1; have HL : Hid (LO w w1 (.slice ra R rc) (.slice ad2 es.length c2) [] (.slice none 0 0)) := H1; obtain ⟨rs1, rf1, rl1⟩ := cells_of (l := [_, _]) H1.res; have r10 := rs1 0 _ rfl; have r11 := rs1 1 _ rfl; have f10 := rf1 0; have f11 := rf1 1; clear rs1 rf1 H1 hb1 H0)
  refine bodyPost_ret (Tardy_ends (g := w.heap.size + 1) (c := .int .i64 2) (k := .int .i64 0) (set_two HL.out.res) rfl rfl) rfl ?_
  exact ⟨rfl, (HL.out.end2 _ _).2⟩

set_option maxRecDepth 20000 in
set_option maxHeartbeats 4000000 in
theorem Tardy_good (w : World) (l : List Jb) (es : List Int) (v ve : Value) (ra : Option Addr) (R rc : Nat) (hv : RowSl Jb.vals w l v) (he : RowSl nuV w es ve) (hne : es.length = l.length) (hl : l.length ≤ 5000) :
    Calls Tryd.prog 38 #[v, .agg #[.slice ra R rc, ve]] w fun r w' => ∃ u, r = .returned (.tuple #[u, .agg #[.int .i64 0, .int .i64 0]]) ∧ w'.ownsRow (w.heap.size + 2) 3 1 u (lateFrom R l es 0).length ((lateFrom R l es 0).flatMap nuV) ∧ Below w.heap.size w w' := by
  obtain ⟨ad, c, rfl, -, hcap, hrow⟩ := hv
  obtain ⟨ad2, c2, rfl, -, hcap2, hrow2⟩ := he
  have HR : Hid ((l = [] ∨ ∃ b o, ad = some ⟨b, o, none⟩ ∧ ∀ q u, (l.flatMap Jb.vals)[q]? = some u → w.cell? ⟨b, o + q, none⟩ = some u) ∧ (es = [] ∨ ∃ b o, ad2 = some ⟨b, o, none⟩ ∧ ∀ q u, (es.flatMap nuV)[q]? = some u → w.cell? ⟨b, o + q, none⟩ = some u) ∧ es.length = l.length) := ⟨hrow, hrow2, hne⟩
  rw [hne] at hcap2 ⊢
  clear hrow hrow2 hne
  have H0 := LO.start w (.slice ra R rc) (.slice ad2 l.length c2)
  have HL : Hid (LO w ((w.alloc (.cells #[.slice ra R rc, .slice ad2 l.length c2] 57)).alloc (.cells #[.int .i64 0, .int .i64 0] 26)) (.slice ra R rc) (.slice ad2 l.length c2) [] (.slice none 0 0)) := H0
  clear H0
  go_enter Tryd.func38, Tryd.ntmps38
  go_wp2_with fail
  go_loopw [6, 18] (fun av i wr => ∃ (j : Nat) (acc : List Int), j ≤ l.length ∧ i = .int .i64 j ∧ LO w wr (.slice ra R rc) (.slice ad2 l.length c2) acc av ∧ acc ++ lateFrom R (l.drop j) (es.drop j) j = lateFrom R l es 0 ∧ acc.length ≤ j) (fun _ i _ => l.length - (intOf i).toNat)
  case atStart => exact ⟨0, [], Nat.zero_le _, rfl, HL.out, rfl, Nat.le_refl _⟩
  case round =>
    obtain ⟨j, acc, hj, rfl, hg, hac, hal⟩ := hrel
    obtain ⟨cad, cc, rfl⟩ := owns_value hg.row
    obtain ⟨bs, bf, bl⟩ := cells_of (l := [_, _]) hg.box
    have b0 := bs 0 _ rfl
    have b1 := bs 1 _ rfl
    have HG : Hid (LO w wr (.slice ra R rc) (.slice ad2 l.length c2) acc (.slice cad acc.length cc)) := hg
    by_cases hjl : j < l.length
    · obtain ⟨x, hx, hd⟩ := drop_at hjl
      obtain ⟨e, he, hd2⟩ := drop_at (l := es) (show j < es.length by rw [HR.out.2.2]; omega)
      rcases HR.out.1 with h | ⟨gb, go, rfl, hr1⟩
      · rw [h] at hjl; simp at hjl
      rcases HR.out.2.1 with h | ⟨eb, eo, rfl, hr2⟩
      · rw [h] at he; simp at he
      obtain ⟨y0, y1, y2, y3, y4⟩ := jb_at (fun q u hq => below_cell hg.bel (hr1 q u hq)) hx
      have z0 := nu_at (fun q u hq => below_cell hg.bel (hr2 q u hq)) he
      have lz : eb < wr.heap.size := World.block_lt_of_cell? _ _ z0
      rw [lateFrom_at hd hd2] at hac
      obtain ⟨xk, xa, xc, xd, xp⟩ := x
      dsimp only at y0 y1 y2 y3 y4 hac
      have HA : Hid ((acc ++ if xd < e ∨ (e < 0 ∧ xd ≤ (R : Int)) then (j : Int) :: lateFrom R (l.drop (j + 1)) (es.drop (j + 1)) (j + 1) else lateFrom R (l.drop (j + 1)) (es.drop (j + 1)) (j + 1)) = lateFrom R l es 0) := hac
      have HG1 : Hid (∀ nq, LO w ((wr.alloc (.cells #[.int .i64 xk, .int .i64 xa, .int .i64 xc, .int .i64 xd, .int .i64 xp] 49)).drewN nq) (.slice ra R rc) (.slice (some ⟨eb, eo, none⟩) l.length c2) acc (.slice cad acc.length cc)) := fun nq => (hg.grow (below_new _ _)).grow below_drewN'
      clear hac hd hd2 hr1 hr2 bs bf hx he hg
      by_cases q1 : xd < e
      · have e1 : decide (xd < e) = true := by simpa using q1
        have e9 := HA.out
        rw [if_pos (by omega)] at e9
        go_wp2_with fail
        go_quiet (fail)
        have HG2 := HG1.out nq
        generalize (wr.alloc (.cells #[.int .i64 xk, .int .i64 xa, .int .i64 xc, .int .i64 xd, .int .i64 xp] 49)).drewN nq = wz at *
        obtain ⟨ad9, c9, w9, hrun, ho9⟩ := HG2.push (j : Int) (by omega)
        have HE : Hid ((acc ++ [(j : Int)]) ++ lateFrom R (l.drop (j + 1)) (es.drop (j + 1)) (j + 1) = lateFrom R l es 0 ∧ LO w w9 (.slice ra R rc) (.slice (some ⟨eb, eo, none⟩) l.length c2) (acc ++ [(j : Int)]) (.slice ad9 (acc.length + 1) c9)) := ⟨by rw [List.append_assoc]; exact e9, ho9⟩
        clear e9 ho9 HG2 HG1 HA
        go_wp2_with (at_builtin; refine append_known rfl (.tmp 47) (.tmp 49) 43 rfl rfl rfl hrun ?_)
        exact ⟨⟨j + 1, _, by omega, by simp, HE.out.2, HE.out.1, by simp; omega⟩, by simp [intOf]; omega⟩
      · have e1 : decide (xd < e) = false := by simpa using q1
        by_cases q2 : e < 0
        · have e2 : decide (e < 0) = true := by simpa using q2
          by_cases q3 : xd ≤ (R : Int)
          · have e3 : decide (xd ≤ (R : Int)) = true := by simpa using q3
            have e9 := HA.out
            rw [if_pos (by omega)] at e9
            go_wp2_with fail
            go_quiet (fail)
            have HG2 := HG1.out nq
            generalize (wr.alloc (.cells #[.int .i64 xk, .int .i64 xa, .int .i64 xc, .int .i64 xd, .int .i64 xp] 49)).drewN nq = wz at *
            obtain ⟨ad9, c9, w9, hrun, ho9⟩ := HG2.push (j : Int) (by omega)
            have HE : Hid ((acc ++ [(j : Int)]) ++ lateFrom R (l.drop (j + 1)) (es.drop (j + 1)) (j + 1) = lateFrom R l es 0 ∧ LO w w9 (.slice ra R rc) (.slice (some ⟨eb, eo, none⟩) l.length c2) (acc ++ [(j : Int)]) (.slice ad9 (acc.length + 1) c9)) := ⟨by rw [List.append_assoc]; exact e9, ho9⟩
            clear e9 ho9 HG2 HG1 HA
            go_wp2_with (at_builtin; refine append_known rfl (.tmp 47) (.tmp 49) 43 rfl rfl rfl hrun ?_)
            exact ⟨⟨j + 1, _, by omega, by simp, HE.out.2, HE.out.1, by simp; omega⟩, by simp [intOf]; omega⟩
          · have e3 : decide (xd ≤ (R : Int)) = false := by simpa using q3
            have e9 := HA.out
            rw [if_neg (by omega)] at e9
            have HE : Hid (acc ++ lateFrom R (l.drop (j + 1)) (es.drop (j + 1)) (j + 1) = lateFrom R l es 0) := e9
            clear e9 HA
            go_wp2_with fail
            go_quiet (fail)
            go_wp2_with fail
            exact ⟨⟨j + 1, acc, by omega, by simp, HG1.out nq, HE.out, by omega⟩, by simp [intOf]; omega⟩
        · have e2 : decide (e < 0) = false := by simpa using q2
          have e9 := HA.out
          rw [if_neg (by omega)] at e9
          have HE : Hid (acc ++ lateFrom R (l.drop (j + 1)) (es.drop (j + 1)) (j + 1) = lateFrom R l es 0) := e9
          clear e9 HA
          go_wp2_with fail
          go_quiet (fail)
          go_wp2_with fail
          exact ⟨⟨j + 1, acc, by omega, by simp, HG1.out nq, HE.out, by omega⟩, by simp [intOf]; omega⟩
    · have hje : j = l.length := by omega
      subst hje
      obtain ⟨rs1, rf1, rl1⟩ := cells_of (l := [_, _]) hg.res
      have r10 := rs1 0 _ rfl
      have r11 := rs1 1 _ rfl
      have f10 := rf1 0
      have f11 := rf1 1
      clear rs1 rf1 bs bf hg
      have hac' : acc = lateFrom R l es 0 := by rw [List.drop_length, lateFrom_end, List.append_nil] at hac; exact hac
      have HE : Hid (acc = lateFrom R l es 0) := hac'
      clear hac hac'
      go_wp2_with fail
      refine bodyPost_ret (Tardy_ends (g := w.heap.size + 1) (c := .int .i64 0) (k := .int .i64 0) (p := .slice cad acc.length cc) (set_two HG.out.res) rfl rfl) rfl ?_
      rw [← HE.out]
      exact ⟨_, rfl, HG.out.end2 _ _⟩

/-- sched.Late. -/
theorem Late_any (w : World) (l : List Jb) (es : List Int) (v ve : Value) (ra : Option Addr) (R rc : Nat) (hv : RowSl Jb.vals w l v) (he : RowSl nuV w es ve) (hl : l.length ≤ 5000) :
    Calls Tryd.prog 37 #[v, .agg #[.slice ra R rc, ve]] w fun r w' => ∃ u, r = .returned (.tuple #[u, .agg #[.int .i64 (lateF l R es).1.1, .int .i64 (lateF l R es).1.2]]) ∧ w'.ownsRow (w.heap.size + 2) 3 1 u (lateF l R es).2.length ((lateF l R es).2.flatMap nuV) ∧ Below w.heap.size w w' := by
  unfold lateF
  by_cases h : es.length = l.length
  · rw [if_neg (by simpa using h)]
    exact Late_good w l es v ve ra R rc hv he h hl
  · rw [if_pos h]
    refine (Late_bad w l es v ve ra R rc hv he h).mono ?_
    rintro r w' ⟨rfl, hb⟩
    exact ⟨_, rfl, nums_nil _ _, hb⟩

/-- The document's Late. -/
theorem Tardy_any (w : World) (l : List Jb) (es : List Int) (v ve : Value) (ra : Option Addr) (R rc : Nat) (hv : RowSl Jb.vals w l v) (he : RowSl nuV w es ve) (hl : l.length ≤ 5000) :
    Calls Tryd.prog 38 #[v, .agg #[.slice ra R rc, ve]] w fun r w' => ∃ u, r = .returned (.tuple #[u, .agg #[.int .i64 (lateF l R es).1.1, .int .i64 (lateF l R es).1.2]]) ∧ w'.ownsRow (w.heap.size + 2) 3 1 u (lateF l R es).2.length ((lateF l R es).2.flatMap nuV) ∧ Below w.heap.size w w' := by
  unfold lateF
  by_cases h : es.length = l.length
  · rw [if_neg (by simpa using h)]
    exact Tardy_good w l es v ve ra R rc hv he h hl
  · rw [if_pos h]
    refine (Tardy_bad w l es v ve ra R rc hv he h).mono ?_
    rintro r w' ⟨rfl, hb⟩
    exact ⟨_, rfl, nums_nil _ _, hb⟩

end Go.Proofs.YtdhnjemgnlklkaeDoor
