import Derived.Test.YtccoobcggbbciaiGreatDoorSPY
import Derived.Test.YtccoobcggbbciaiGreatDoorSPZ
import Derived.Deep.CutRange
namespace Go.Proofs.YtccoobcggbbciaiGreatDoor.S8
open Go.ChangeShapes Go.WideShapes Go.ChangeAt Go.RowKit

theorem CheckJobs_ends {w : World} {g : Nat} {c k : Value} {a : Act} (h : w.heap[g]? = some (.cells #[c, k] 30 (0, 0))) (h3 : a.tmps[2]?.getD undef = .pointer (some ⟨g, 0, none⟩)) :
    (results Tryz.f49 a.tmps).run Tryz.prog w = .ok (.agg #[c, k]) w := by
  obtain ⟨c1, f1, l1⟩ := cells_of (l := [_, _]) h
  have c10 := c1 0 _ rfl
  have c11 := c1 1 _ rfl
  simp [results, Tryz.results49, go_sem, h3, c10, c11]

set_option maxRecDepth 20000 in
set_option maxHeartbeats 2000000 in
theorem CheckJobs_any (w : World) (l : List Jb) (v : Value) (hv : RowSl Jb.vals w l v) : Calls Tryz.prog 49 #[v] w fun r w' => r = .returned (.agg #[.int .i64 (chkJ l).1, .int .i64 (chkJ l).2]) ∧ Below w.heap.size w w' := by
  by_cases hn : 4000 < l.length
  · have hn' : (4000 : Int) < (l.length : Int) := by omega
    have e0 : chkJ l = (2, 0) := by unfold chkJ; rw [if_pos hn]
    rw [e0]
    obtain ⟨ad, c, rfl⟩ := hv.len
    clear hv e0
    go_enter Tryz.func49, Tryz.ntmps49
    go_wp2_with (go_at_call 33; refine (F_any _ _ _).mono ?_; rintro r w9 ⟨rfl, hb9⟩; have H9 : Hid (FB w w9 w.heap.size) := (FB.start w).grow hb9; obtain ⟨rs1, rf1, rl1⟩ := cells_of (l := [_, _]) H9.out.res; have r10 := rs1 0 _ rfl; have r11 := rs1 1 _ rfl; have f10 := rf1 0; have f11 := rf1 1; clear rs1 rf1 hb9)
    refine bodyPost_ret (CheckJobs_ends (g := w.heap.size) (c := .int .i64 2) (k := .int .i64 0) (set_two H9.out.res) rfl) rfl ?_
    exact ⟨rfl, H9.out.set _ _⟩
  have hn' : ¬ (4000 : Int) < (l.length : Int) := by omega
  have e0 : chkJ l = chkFrom l 0 := by unfold chkJ; rw [if_neg hn]
  rw [e0]
  clear e0
  obtain ⟨ad, c, rfl, -, hcap, hrow⟩ := hv
  have HR : Hid (l = [] ∨ ∃ b o, ad = some ⟨b, o, none⟩ ∧ ∀ q u, (l.flatMap Jb.vals)[q]? = some u → w.cell? ⟨b, o + q, none⟩ = some u) := hrow
  clear hrow
  go_enter Tryz.func49, Tryz.ntmps49
  go_wp2_with fail
  go_loopw [11] (fun i wr => ∃ j : Nat, j ≤ l.length ∧ i = .int .i64 j ∧ FB w wr w.heap.size ∧ chkFrom (l.drop j) j = chkFrom l 0) (fun i _ => l.length - (intOf i).toNat)
  case atStart => exact ⟨0, Nat.zero_le _, rfl, FB.start _, rfl⟩
  case round =>
    obtain ⟨j, hj, rfl, hg, hac⟩ := hrel
    have HG : Hid (FB w wr w.heap.size) := hg
    by_cases hjl : j < l.length
    · obtain ⟨x, hx, hd⟩ := drop_at hjl
      rcases HR.out with h | ⟨gb, go, rfl, hr1⟩
      · rw [h] at hjl; simp at hjl
      obtain ⟨y0, y1, y2, y3, y4⟩ := jb_at (fun q u hq => below_cell hg.bel (hr1 q u hq)) hx
      rw [chkFrom_at hd] at hac
      obtain ⟨xk, xa, xc, xd, xp⟩ := x
      dsimp only at y0 y1 y2 y3 y4 hac
      have HA : Hid ((if 0 ≤ xa ∧ xa ≤ 60000 ∧ 1 ≤ xc ∧ xc ≤ 10000 ∧ 0 ≤ xd ∧ xd ≤ 80000 then chkFrom (l.drop (j + 1)) (j + 1) else (3, (j : Int))) = chkFrom l 0) := hac
      clear hac hd hr1 hx hg
      by_cases q0 : xa < 0
      · have HE : Hid ((3, (j : Int)) = chkFrom l 0) := by have e := HA.out; rw [if_neg (by omega)] at e; exact e
        go_wp2_with (go_at_call 33; refine (F_any _ _ _).mono ?_; rintro r w9 ⟨rfl, hb9⟩; have H9 : Hid (FB w w9 w.heap.size) := (HG.out.grow (below_new _ _)).grow hb9; obtain ⟨rs1, rf1, rl1⟩ := cells_of (l := [_, _]) H9.out.res; have r10 := rs1 0 _ rfl; have r11 := rs1 1 _ rfl; have f10 := rf1 0; have f11 := rf1 1; clear rs1 rf1 hb9)
        refine bodyPost_ret (CheckJobs_ends (g := w.heap.size) (c := .int .i64 3) (k := .int .i64 (j : Int)) (set_two H9.out.res) rfl) rfl ?_
        rw [← HE.out]
        exact ⟨rfl, H9.out.set _ _⟩
      · skip
        by_cases q1 : 60000 < xa
        · have HE : Hid ((3, (j : Int)) = chkFrom l 0) := by have e := HA.out; rw [if_neg (by omega)] at e; exact e
          go_wp2_with (go_at_call 33; refine (F_any _ _ _).mono ?_; rintro r w9 ⟨rfl, hb9⟩; have H9 : Hid (FB w w9 w.heap.size) := (HG.out.grow (below_new _ _)).grow hb9; obtain ⟨rs1, rf1, rl1⟩ := cells_of (l := [_, _]) H9.out.res; have r10 := rs1 0 _ rfl; have r11 := rs1 1 _ rfl; have f10 := rf1 0; have f11 := rf1 1; clear rs1 rf1 hb9)
          refine bodyPost_ret (CheckJobs_ends (g := w.heap.size) (c := .int .i64 3) (k := .int .i64 (j : Int)) (set_two H9.out.res) rfl) rfl ?_
          rw [← HE.out]
          exact ⟨rfl, H9.out.set _ _⟩
        · skip
          by_cases q2 : xc < 1
          · have HE : Hid ((3, (j : Int)) = chkFrom l 0) := by have e := HA.out; rw [if_neg (by omega)] at e; exact e
            go_wp2_with (go_at_call 33; refine (F_any _ _ _).mono ?_; rintro r w9 ⟨rfl, hb9⟩; have H9 : Hid (FB w w9 w.heap.size) := (HG.out.grow (below_new _ _)).grow hb9; obtain ⟨rs1, rf1, rl1⟩ := cells_of (l := [_, _]) H9.out.res; have r10 := rs1 0 _ rfl; have r11 := rs1 1 _ rfl; have f10 := rf1 0; have f11 := rf1 1; clear rs1 rf1 hb9)
            refine bodyPost_ret (CheckJobs_ends (g := w.heap.size) (c := .int .i64 3) (k := .int .i64 (j : Int)) (set_two H9.out.res) rfl) rfl ?_
            rw [← HE.out]
            exact ⟨rfl, H9.out.set _ _⟩
          · skip
            by_cases q3 : 10000 < xc
            · have HE : Hid ((3, (j : Int)) = chkFrom l 0) := by have e := HA.out; rw [if_neg (by omega)] at e; exact e
              go_wp2_with (go_at_call 33; refine (F_any _ _ _).mono ?_; rintro r w9 ⟨rfl, hb9⟩; have H9 : Hid (FB w w9 w.heap.size) := (HG.out.grow (below_new _ _)).grow hb9; obtain ⟨rs1, rf1, rl1⟩ := cells_of (l := [_, _]) H9.out.res; have r10 := rs1 0 _ rfl; have r11 := rs1 1 _ rfl; have f10 := rf1 0; have f11 := rf1 1; clear rs1 rf1 hb9)
              refine bodyPost_ret (CheckJobs_ends (g := w.heap.size) (c := .int .i64 3) (k := .int .i64 (j : Int)) (set_two H9.out.res) rfl) rfl ?_
              rw [← HE.out]
              exact ⟨rfl, H9.out.set _ _⟩
            · skip
              by_cases q4 : xd < 0
              · have HE : Hid ((3, (j : Int)) = chkFrom l 0) := by have e := HA.out; rw [if_neg (by omega)] at e; exact e
                go_wp2_with (go_at_call 33; refine (F_any _ _ _).mono ?_; rintro r w9 ⟨rfl, hb9⟩; have H9 : Hid (FB w w9 w.heap.size) := (HG.out.grow (below_new _ _)).grow hb9; obtain ⟨rs1, rf1, rl1⟩ := cells_of (l := [_, _]) H9.out.res; have r10 := rs1 0 _ rfl; have r11 := rs1 1 _ rfl; have f10 := rf1 0; have f11 := rf1 1; clear rs1 rf1 hb9)
                refine bodyPost_ret (CheckJobs_ends (g := w.heap.size) (c := .int .i64 3) (k := .int .i64 (j : Int)) (set_two H9.out.res) rfl) rfl ?_
                rw [← HE.out]
                exact ⟨rfl, H9.out.set _ _⟩
              · skip
                by_cases q5 : 80000 < xd
                · have HE : Hid ((3, (j : Int)) = chkFrom l 0) := by have e := HA.out; rw [if_neg (by omega)] at e; exact e
                  go_wp2_with (go_at_call 33; refine (F_any _ _ _).mono ?_; rintro r w9 ⟨rfl, hb9⟩; have H9 : Hid (FB w w9 w.heap.size) := (HG.out.grow (below_new _ _)).grow hb9; obtain ⟨rs1, rf1, rl1⟩ := cells_of (l := [_, _]) H9.out.res; have r10 := rs1 0 _ rfl; have r11 := rs1 1 _ rfl; have f10 := rf1 0; have f11 := rf1 1; clear rs1 rf1 hb9)
                  refine bodyPost_ret (CheckJobs_ends (g := w.heap.size) (c := .int .i64 3) (k := .int .i64 (j : Int)) (set_two H9.out.res) rfl) rfl ?_
                  rw [← HE.out]
                  exact ⟨rfl, H9.out.set _ _⟩
                · skip
                  have HE : Hid (chkFrom (l.drop (j + 1)) (j + 1) = chkFrom l 0) := by have e := HA.out; rw [if_pos (by omega)] at e; exact e
                  go_wp2_with fail
                  exact ⟨⟨j + 1, by omega, by simp, HG.out.grow (below_new _ _), HE.out⟩, by simp [intOf]; omega⟩
    · have hje : j = l.length := by omega
      subst hje
      have HE : Hid ((0, 0) = chkFrom l 0) := by rw [List.drop_length] at hac; exact hac
      obtain ⟨rs1, rf1, rl1⟩ := cells_of (l := [_, _]) HG.out.res
      have r10 := rs1 0 _ rfl
      have r11 := rs1 1 _ rfl
      have f10 := rf1 0
      have f11 := rf1 1
      clear rs1 rf1
      clear hg hac
      go_wp2_with fail
      refine bodyPost_ret (CheckJobs_ends (g := w.heap.size) (c := .int .i64 0) (k := .int .i64 0) (set_two HG.out.res) rfl) rfl ?_
      rw [← HE.out]
      exact ⟨rfl, HG.out.set _ _⟩


/-- Two jobs, in boxes. -/
structure TwoJ (w W : World) (b1 b2 : Nat) (x y : Jb) : Prop where
  bel : Below w.heap.size w W
  c1 : JbAt W b1 0 x
  c2 : JbAt W b2 0 y

theorem jbAt_of {W : World} {b : Nat} {x : Jb} {t : TypeId} (h : W.heap[b]? = some (.cells #[.int .i64 x.k, .int .i64 x.a, .int .i64 x.c, .int .i64 x.d, .int .i64 x.p] t (0, 0))) : JbAt W b 0 x := by
  obtain ⟨hc, -, -⟩ := cells_of (l := [_, _, _, _, _]) h
  exact ⟨hc 0 _ rfl, hc 1 _ rfl, hc 2 _ rfl, hc 3 _ rfl, hc 4 _ rfl⟩

theorem five_heap {W : World} {b : Nat} {t : TypeId} {z0 z1 z2 z3 z4 u0 u1 u2 u3 u4 : Value} (h : W.heap[b]? = some (.cells #[z0, z1, z2, z3, z4] t (0, 0))) : (((((W.setCell ⟨b, 0, none⟩ u0).setCell ⟨b, 1, none⟩ u1).setCell ⟨b, 2, none⟩ u2).setCell ⟨b, 3, none⟩ u3).setCell ⟨b, 4, none⟩ u4).heap[b]? = some (.cells #[u0, u1, u2, u3, u4] t (0, 0)) := by
  rw [setCell_at (setCell_at (setCell_at (setCell_at (setCell_at h))))]
  rfl

/-- What Goes says. -/
def GoesPost (pol : Int) (l : List Jb) (i j : Nat) (w : World) (r : Ending) (w' : World) : Prop := ∃ b : Bool, r = .returned (.bool b) ∧ (b = true ↔ lexJ pol l i j) ∧ Below w.heap.size w w'

theorem keep5 {W : World} {b q : Nat} {u0 u1 u2 u3 u4 : Value} (h : q ≠ b) : (((((W.setCell ⟨b, 0, none⟩ u0).setCell ⟨b, 1, none⟩ u1).setCell ⟨b, 2, none⟩ u2).setCell ⟨b, 3, none⟩ u3).setCell ⟨b, 4, none⟩ u4).heap[q]? = W.heap[q]? := by
  rw [Below.heap_setCell _ _ _ _ h, Below.heap_setCell _ _ _ _ h, Below.heap_setCell _ _ _ _ h, Below.heap_setCell _ _ _ _ h, Below.heap_setCell _ _ _ _ h]
theorem lt_of_h {W : World} {g : Nat} {o : Obj} (h : W.heap[g]? = some o) : g < W.heap.size := (Array.getElem?_eq_some_iff.1 h).1

set_option maxRecDepth 20000 in
set_option maxHeartbeats 2000000 in
theorem Goes_any (w : World) (l : List Jb) (v : Value) (i j : Nat) (pol : Int) (hv : RowSl Jb.vals w l v) (hp : pol = 1 ∨ pol = 2) (hi : i < l.length) (hj : j < l.length) :
    Calls Tryz.prog 80 #[v, .int .i64 (i : Int), .int .i64 (j : Int), .int .i64 pol] w fun r w' => GoesPost pol l i j w r w' := by
  obtain ⟨ad, c, rfl, -, -, hrow⟩ := hv
  rcases hrow with h | ⟨gb, go, rfl, hr1⟩
  · rw [h] at hi; simp at hi
  obtain ⟨x, hx, -⟩ := drop_at hi
  obtain ⟨y, hy, -⟩ := drop_at hj
  have hJx : J l i = x := by unfold J; rw [List.getD_eq_getElem?_getD, hx]; rfl
  have hJy : J l j = y := by unfold J; rw [List.getD_eq_getElem?_getD, hy]; rfl
  have cx := jb_at hr1 hx
  have cy := jb_at hr1 hy
  obtain ⟨xk, xa, xc, xd, xp⟩ := x
  obtain ⟨yk, ya, yc, yd, yp⟩ := y
  have HL : Hid (lexJ pol l i j ↔ lex (if pol = 1 then - xp else xd) xa i (if pol = 1 then - yp else yd) ya j) := by
    have e : lexJ pol l i j ↔ lex (if pol = 1 then - xp else xd) xa i (if pol = 1 then - yp else yd) ya j := by unfold lexJ key; rw [hJx, hJy]
    exact e
  have hii : (i : Int) < (l.length : Int) := by omega
  have hji : (j : Int) < (l.length : Int) := by omega
  clear hr1 hx hy hJx hJy
  go_enter Tryz.func80, Tryz.ntmps80
  go_upto_region 1 with fail
  go_cut [9, 10] from 11 to 18 (fun v9 v10 wc => ∃ b1 b2, v9 = .pointer (some ⟨b1, 0, none⟩) ∧ v10 = .pointer (some ⟨b2, 0, none⟩) ∧ TwoJ w wc b1 b2 ⟨xk, xa, xc, xd, xp⟩ ⟨yk, ya, yc, yd, yp⟩)
  case first =>
    have hS0 : (fun w' : World => w'.cell? ⟨gb, go + i * 5, none⟩ = some (.int .i64 xk) ∧ w'.cell? ⟨gb, go + i * 5 + 1, none⟩ = some (.int .i64 xa) ∧ w'.cell? ⟨gb, go + i * 5 + 2, none⟩ = some (.int .i64 xc) ∧ w'.cell? ⟨gb, go + i * 5 + 3, none⟩ = some (.int .i64 xd) ∧ w'.cell? ⟨gb, go + i * 5 + 4, none⟩ = some (.int .i64 xp) ∧ w'.cell? ⟨gb, go + j * 5, none⟩ = some (.int .i64 yk) ∧ w'.cell? ⟨gb, go + j * 5 + 1, none⟩ = some (.int .i64 ya) ∧ w'.cell? ⟨gb, go + j * 5 + 2, none⟩ = some (.int .i64 yc) ∧ w'.cell? ⟨gb, go + j * 5 + 3, none⟩ = some (.int .i64 yd) ∧ w'.cell? ⟨gb, go + j * 5 + 4, none⟩ = some (.int .i64 yp)) w.drew := ⟨cx.1, cx.2.1, cx.2.2.1, cx.2.2.2.1, cx.2.2.2.2, cy.1, cy.2.1, cy.2.2.1, cy.2.2.2.1, cy.2.2.2.2⟩
    have lg : gb < w.heap.size := World.block_lt_of_cell? _ _ cx.1
    have hbr : Below w.heap.size w w.drew := (Below.refl _ _).drew
    clear cx cy
    have HS : Hid (∀ w'', Below w.heap.size w w'' → (fun w' : World => w'.cell? ⟨gb, go + i * 5, none⟩ = some (.int .i64 xk) ∧ w'.cell? ⟨gb, go + i * 5 + 1, none⟩ = some (.int .i64 xa) ∧ w'.cell? ⟨gb, go + i * 5 + 2, none⟩ = some (.int .i64 xc) ∧ w'.cell? ⟨gb, go + i * 5 + 3, none⟩ = some (.int .i64 xd) ∧ w'.cell? ⟨gb, go + i * 5 + 4, none⟩ = some (.int .i64 xp) ∧ w'.cell? ⟨gb, go + j * 5, none⟩ = some (.int .i64 yk) ∧ w'.cell? ⟨gb, go + j * 5 + 1, none⟩ = some (.int .i64 ya) ∧ w'.cell? ⟨gb, go + j * 5 + 2, none⟩ = some (.int .i64 yc) ∧ w'.cell? ⟨gb, go + j * 5 + 3, none⟩ = some (.int .i64 yd) ∧ w'.cell? ⟨gb, go + j * 5 + 4, none⟩ = some (.int .i64 yp)) w'') := fun w'' hb => by
      obtain ⟨s0, s1, s2, s3, s4, s5, s6, s7, s8, s9⟩ := hS0
      exact ⟨below_cell hb s0, below_cell hb s1, below_cell hb s2, below_cell hb s3, below_cell hb s4, below_cell hb s5, below_cell hb s6, below_cell hb s7, below_cell hb s8, below_cell hb s9⟩
    refine wp_region_noPanic ?_
    refine wp_region_held_drew (S := fun w' => w'.cell? ⟨gb, go + i * 5, none⟩ = some (.int .i64 xk) ∧ w'.cell? ⟨gb, go + i * 5 + 1, none⟩ = some (.int .i64 xa) ∧ w'.cell? ⟨gb, go + i * 5 + 2, none⟩ = some (.int .i64 xc) ∧ w'.cell? ⟨gb, go + i * 5 + 3, none⟩ = some (.int .i64 xd) ∧ w'.cell? ⟨gb, go + i * 5 + 4, none⟩ = some (.int .i64 xp) ∧ w'.cell? ⟨gb, go + j * 5, none⟩ = some (.int .i64 yk) ∧ w'.cell? ⟨gb, go + j * 5 + 1, none⟩ = some (.int .i64 ya) ∧ w'.cell? ⟨gb, go + j * 5 + 2, none⟩ = some (.int .i64 yc) ∧ w'.cell? ⟨gb, go + j * 5 + 3, none⟩ = some (.int .i64 yd) ∧ w'.cell? ⟨gb, go + j * 5 + 4, none⟩ = some (.int .i64 yp)) (by kernel_rfl) hS0 (fun hHeld => ?_)
    refine take_at (i := 0) (n := 11) (v := ?_) rfl rfl (by kernel_rfl) (by kernel_rfl) (by kernel_rfl) (fun _ _ _ h => h) (Or.inl ⟨by rfl, ?_⟩) (by assumption) ?_
    rotate_left 1
    · intro wz hSw
      obtain ⟨s0, s1, s2, s3, s4, s5, s6, s7, s8, s9⟩ := hSw
      first | (go_simp; done) | (go_simp; with_reducible rfl)
    simp only [List.set_cons_zero, List.set_cons_succ]
    refine take_at (i := 1) (n := 12) (v := ?_) rfl rfl (by kernel_rfl) (by kernel_rfl) (by kernel_rfl) (fun _ _ _ h => h) (Or.inl ⟨by rfl, ?_⟩) (by assumption) ?_
    rotate_left 1
    · intro wz hSw
      obtain ⟨s0, s1, s2, s3, s4, s5, s6, s7, s8, s9⟩ := hSw
      first | (go_simp; done) | (go_simp; with_reducible rfl)
    simp only [List.set_cons_zero, List.set_cons_succ]
    refine take_at (i := 2) (n := 13) (v := ?_) rfl rfl (by kernel_rfl) (by kernel_rfl) (by kernel_rfl) (fun _ _ _ h => h) (Or.inl ⟨by rfl, ?_⟩) (by assumption) ?_
    rotate_left 1
    · intro wz hSw
      obtain ⟨s0, s1, s2, s3, s4, s5, s6, s7, s8, s9⟩ := hSw
      first | (go_simp; done) | (go_simp; with_reducible rfl)
    simp only [List.set_cons_zero, List.set_cons_succ]
    refine take_at (i := 3) (n := 14) (v := ?_) rfl rfl (by kernel_rfl) (by kernel_rfl) (by kernel_rfl) (fun _ _ _ h => h) (Or.inl ⟨by rfl, ?_⟩) (by assumption) ?_
    rotate_left 1
    · intro wz hSw
      obtain ⟨s0, s1, s2, s3, s4, s5, s6, s7, s8, s9⟩ := hSw
      first | (go_simp; done) | (go_simp; with_reducible rfl)
    simp only [List.set_cons_zero, List.set_cons_succ]
    refine take_at (i := 4) (n := 15) (v := ?_) rfl rfl (by kernel_rfl) (by kernel_rfl) (by kernel_rfl) (fun _ _ _ h => h) (Or.inl ⟨by rfl, ?_⟩) (by assumption) ?_
    rotate_left 1
    · intro wz hSw
      obtain ⟨s0, s1, s2, s3, s4, s5, s6, s7, s8, s9⟩ := hSw
      first | (go_simp; done) | (go_simp; with_reducible rfl)
    simp only [List.set_cons_zero, List.set_cons_succ]
    refine take_at (i := 5) (n := 16) (v := ?_) rfl rfl (by kernel_rfl) (by kernel_rfl) (by kernel_rfl) (fun _ _ _ h => h) (Or.inl ⟨by rfl, ?_⟩) (by assumption) ?_
    rotate_left 1
    · intro wz hSw
      obtain ⟨s0, s1, s2, s3, s4, s5, s6, s7, s8, s9⟩ := hSw
      first | (go_simp; done) | (go_simp; with_reducible rfl)
    simp only [List.set_cons_zero, List.set_cons_succ]
    refine take_at (i := 6) (n := 17) (v := ?_) rfl rfl (by kernel_rfl) (by kernel_rfl) (by kernel_rfl) (fun _ _ _ h => h) (Or.inl ⟨by rfl, ?_⟩) (by assumption) ?_
    rotate_left 1
    · intro wz hSw
      obtain ⟨s0, s1, s2, s3, s4, s5, s6, s7, s8, s9⟩ := hSw
      first | (go_simp; done) | (go_simp; with_reducible rfl)
    simp only [List.set_cons_zero, List.set_cons_succ]
    refine take_at (i := 7) (n := 18) (v := ?_) rfl rfl (by kernel_rfl) (by kernel_rfl) (by kernel_rfl) (fun _ _ _ h => h) (Or.inl ⟨by rfl, ?_⟩) (by assumption) ?_
    rotate_left 1
    · intro wz hSw
      obtain ⟨s0, s1, s2, s3, s4, s5, s6, s7, s8, s9⟩ := hSw
      first | (go_simp; done) | (go_simp; with_reducible rfl)
    simp only [List.set_cons_zero, List.set_cons_succ]
    generalize w.drew = w0 at hS0 hbr ⊢
    refine wpAnyH_ready (rs := [8, 9]) (by kernel_rfl) (by simp) ?_
    refine AllReadyH.cons rfl (fun K' hK' => ?_) (AllReadyH.cons rfl (fun K' hK' => ?_) AllReadyH.nil)
    · skip
      have hA := heap_alloc_new w0 (.cells #[.int .i64 0, .int .i64 0, .int .i64 0, .int .i64 0, .int .i64 0] 63)
      have hbA : Below w.heap.size w (w0.alloc (.cells #[.int .i64 0, .int .i64 0, .int .i64 0, .int .i64 0, .int .i64 0] 63)) := hbr.trans ((below_new w0 _).mono hbr.size)
      go_simp
      generalize w0.alloc (.cells #[.int .i64 0, .int .i64 0, .int .i64 0, .int .i64 0, .int .i64 0] 63) = wA at hA hbA ⊢
      refine hK'.out _ _ (HS.out _ hbA) (fun hHeld => ?_)
      clear hK' K'
      have hSA := HS.out _ hbA
      refine wpAnyH_ready (rs := [9]) (by kernel_rfl) (by simp) ?_
      refine AllReadyH.cons rfl (fun K' hK' => ?_) AllReadyH.nil
      have hB := heap_alloc_new wA (.cells #[.int .i64 0, .int .i64 0, .int .i64 0, .int .i64 0, .int .i64 0] 63)
      have hA2 := (Below.heap_alloc wA (.cells #[.int .i64 0, .int .i64 0, .int .i64 0, .int .i64 0, .int .i64 0] 63) _ (lt_of_h hA)).trans hA
      have hbB : Below w.heap.size w (wA.alloc (.cells #[.int .i64 0, .int .i64 0, .int .i64 0, .int .i64 0, .int .i64 0] 63)) := hbA.trans ((below_new wA _).mono hbA.size)
      have hdif : w0.heap.size ≠ wA.heap.size := by have := lt_of_h hA; omega
      have hw0 := hbr.size
      have hwA := hbA.size
      go_simp
      generalize wA.alloc (.cells #[.int .i64 0, .int .i64 0, .int .i64 0, .int .i64 0, .int .i64 0] 63) = wB at hA2 hB hbB ⊢
      refine hK'.out _ _ (HS.out _ hbB) (fun hHeld => ?_)
      clear hK' K'
      have hSB := HS.out _ hbB
      obtain ⟨ac, af, al⟩ := cells_of (l := [_, _, _, _, _]) hA2
      obtain ⟨bs, bf, bl⟩ := cells_of (l := [_, _, _, _, _]) hB
      have a0 := ac 0 _ rfl
      have b0 := bs 0 _ rfl
      have af0 := af 0
      have bf0 := bf 0
      have a1 := ac 1 _ rfl
      have b1 := bs 1 _ rfl
      have af1 := af 1
      have bf1 := bf 1
      have a2 := ac 2 _ rfl
      have b2 := bs 2 _ rfl
      have af2 := af 2
      have bf2 := bf 2
      have a3 := ac 3 _ rfl
      have b3 := bs 3 _ rfl
      have af3 := af 3
      have bf3 := bf 3
      have a4 := ac 4 _ rfl
      have b4 := bs 4 _ rfl
      have af4 := af 4
      have bf4 := bf 4
      clear ac af bs bf
      refine wpAnyH_ready (rs := [10]) (by kernel_rfl) (by simp) ?_
      refine AllReadyH.cons rfl (fun K' hK' => ?_) AllReadyH.nil
      · have hC := five_heap (u0 := .int .i64 xk) (u1 := .int .i64 xa) (u2 := .int .i64 xc) (u3 := .int .i64 xd) (u4 := .int .i64 xp) hA2
        have hD : (((((wB.setCell ⟨w0.heap.size, 0, none⟩ (.int .i64 xk)).setCell ⟨w0.heap.size, 1, none⟩ (.int .i64 xa)).setCell ⟨w0.heap.size, 2, none⟩ (.int .i64 xc)).setCell ⟨w0.heap.size, 3, none⟩ (.int .i64 xd)).setCell ⟨w0.heap.size, 4, none⟩ (.int .i64 xp)).heap[wA.heap.size]? = _ := (keep5 (by first | exact hdif | exact Ne.symm hdif)).trans hB
        have hbC : Below w.heap.size w (((((wB.setCell ⟨w0.heap.size, 0, none⟩ (.int .i64 xk)).setCell ⟨w0.heap.size, 1, none⟩ (.int .i64 xa)).setCell ⟨w0.heap.size, 2, none⟩ (.int .i64 xc)).setCell ⟨w0.heap.size, 3, none⟩ (.int .i64 xd)).setCell ⟨w0.heap.size, 4, none⟩ (.int .i64 xp)) := ((((hbB.setCell (by show w.heap.size ≤ w0.heap.size; omega) _).setCell (by show w.heap.size ≤ w0.heap.size; omega) _).setCell (by show w.heap.size ≤ w0.heap.size; omega) _).setCell (by show w.heap.size ≤ w0.heap.size; omega) _).setCell (by show w.heap.size ≤ w0.heap.size; omega) _
        go_simp
        generalize (((((wB.setCell ⟨w0.heap.size, 0, none⟩ (.int .i64 xk)).setCell ⟨w0.heap.size, 1, none⟩ (.int .i64 xa)).setCell ⟨w0.heap.size, 2, none⟩ (.int .i64 xc)).setCell ⟨w0.heap.size, 3, none⟩ (.int .i64 xd)).setCell ⟨w0.heap.size, 4, none⟩ (.int .i64 xp)) = wC at hC hD hbC ⊢
        refine hK'.out _ _ (HS.out _ hbC) (fun hHeld => ?_)
        clear hK' K'
        obtain ⟨ds, df, dl⟩ := cells_of (l := [_, _, _, _, _]) hD
        have d0 := ds 0 _ rfl
        have df0 := df 0
        have d1 := ds 1 _ rfl
        have df1 := df 1
        have d2 := ds 2 _ rfl
        have df2 := df 2
        have d3 := ds 3 _ rfl
        have df3 := df 3
        have d4 := ds 4 _ rfl
        have df4 := df 4
        clear ds df
        refine wpAnyH_ready (rs := [11]) (by kernel_rfl) (by simp) ?_
        refine AllReadyH.cons rfl (fun K' hK' => ?_) AllReadyH.nil
        have hE := five_heap (u0 := .int .i64 yk) (u1 := .int .i64 ya) (u2 := .int .i64 yc) (u3 := .int .i64 yd) (u4 := .int .i64 yp) hD
        have hC2 : (((((wC.setCell ⟨wA.heap.size, 0, none⟩ (.int .i64 yk)).setCell ⟨wA.heap.size, 1, none⟩ (.int .i64 ya)).setCell ⟨wA.heap.size, 2, none⟩ (.int .i64 yc)).setCell ⟨wA.heap.size, 3, none⟩ (.int .i64 yd)).setCell ⟨wA.heap.size, 4, none⟩ (.int .i64 yp)).heap[w0.heap.size]? = _ := (keep5 (by first | exact hdif | exact Ne.symm hdif)).trans hC
        have hbE : Below w.heap.size w (((((wC.setCell ⟨wA.heap.size, 0, none⟩ (.int .i64 yk)).setCell ⟨wA.heap.size, 1, none⟩ (.int .i64 ya)).setCell ⟨wA.heap.size, 2, none⟩ (.int .i64 yc)).setCell ⟨wA.heap.size, 3, none⟩ (.int .i64 yd)).setCell ⟨wA.heap.size, 4, none⟩ (.int .i64 yp)) := ((((hbC.setCell (by show w.heap.size ≤ wA.heap.size; omega) _).setCell (by show w.heap.size ≤ wA.heap.size; omega) _).setCell (by show w.heap.size ≤ wA.heap.size; omega) _).setCell (by show w.heap.size ≤ wA.heap.size; omega) _).setCell (by show w.heap.size ≤ wA.heap.size; omega) _
        go_simp
        generalize (((((wC.setCell ⟨wA.heap.size, 0, none⟩ (.int .i64 yk)).setCell ⟨wA.heap.size, 1, none⟩ (.int .i64 ya)).setCell ⟨wA.heap.size, 2, none⟩ (.int .i64 yc)).setCell ⟨wA.heap.size, 3, none⟩ (.int .i64 yd)).setCell ⟨wA.heap.size, 4, none⟩ (.int .i64 yp)) = wE at hE hC2 hbE ⊢
        refine hK'.out _ _ (HS.out _ hbE) (fun hHeld => ?_)
        clear hK' K'
        refine wpAnyH_done (by kernel_rfl) ?_ _
        refine NoPanic.normal ?_
        go_wp2_with fail
        go_meet
        case rel => exact ⟨_, _, rfl, rfl, hbE, jbAt_of hC2, jbAt_of hE⟩
    · skip
      have hA := heap_alloc_new w0 (.cells #[.int .i64 0, .int .i64 0, .int .i64 0, .int .i64 0, .int .i64 0] 63)
      have hbA : Below w.heap.size w (w0.alloc (.cells #[.int .i64 0, .int .i64 0, .int .i64 0, .int .i64 0, .int .i64 0] 63)) := hbr.trans ((below_new w0 _).mono hbr.size)
      go_simp
      generalize w0.alloc (.cells #[.int .i64 0, .int .i64 0, .int .i64 0, .int .i64 0, .int .i64 0] 63) = wA at hA hbA ⊢
      refine hK'.out _ _ (HS.out _ hbA) (fun hHeld => ?_)
      clear hK' K'
      have hSA := HS.out _ hbA
      refine wpAnyH_ready (rs := [8]) (by kernel_rfl) (by simp) ?_
      refine AllReadyH.cons rfl (fun K' hK' => ?_) AllReadyH.nil
      have hB := heap_alloc_new wA (.cells #[.int .i64 0, .int .i64 0, .int .i64 0, .int .i64 0, .int .i64 0] 63)
      have hA2 := (Below.heap_alloc wA (.cells #[.int .i64 0, .int .i64 0, .int .i64 0, .int .i64 0, .int .i64 0] 63) _ (lt_of_h hA)).trans hA
      have hbB : Below w.heap.size w (wA.alloc (.cells #[.int .i64 0, .int .i64 0, .int .i64 0, .int .i64 0, .int .i64 0] 63)) := hbA.trans ((below_new wA _).mono hbA.size)
      have hdif : w0.heap.size ≠ wA.heap.size := by have := lt_of_h hA; omega
      have hw0 := hbr.size
      have hwA := hbA.size
      go_simp
      generalize wA.alloc (.cells #[.int .i64 0, .int .i64 0, .int .i64 0, .int .i64 0, .int .i64 0] 63) = wB at hA2 hB hbB ⊢
      refine hK'.out _ _ (HS.out _ hbB) (fun hHeld => ?_)
      clear hK' K'
      have hSB := HS.out _ hbB
      obtain ⟨ac, af, al⟩ := cells_of (l := [_, _, _, _, _]) hA2
      obtain ⟨bs, bf, bl⟩ := cells_of (l := [_, _, _, _, _]) hB
      have a0 := ac 0 _ rfl
      have b0 := bs 0 _ rfl
      have af0 := af 0
      have bf0 := bf 0
      have a1 := ac 1 _ rfl
      have b1 := bs 1 _ rfl
      have af1 := af 1
      have bf1 := bf 1
      have a2 := ac 2 _ rfl
      have b2 := bs 2 _ rfl
      have af2 := af 2
      have bf2 := bf 2
      have a3 := ac 3 _ rfl
      have b3 := bs 3 _ rfl
      have af3 := af 3
      have bf3 := bf 3
      have a4 := ac 4 _ rfl
      have b4 := bs 4 _ rfl
      have af4 := af 4
      have bf4 := bf 4
      clear ac af bs bf
      refine wpAnyH_ready (rs := [10]) (by kernel_rfl) (by simp) ?_
      refine AllReadyH.cons rfl (fun K' hK' => ?_) AllReadyH.nil
      · have hC := five_heap (u0 := .int .i64 xk) (u1 := .int .i64 xa) (u2 := .int .i64 xc) (u3 := .int .i64 xd) (u4 := .int .i64 xp) hB
        have hD : (((((wB.setCell ⟨wA.heap.size, 0, none⟩ (.int .i64 xk)).setCell ⟨wA.heap.size, 1, none⟩ (.int .i64 xa)).setCell ⟨wA.heap.size, 2, none⟩ (.int .i64 xc)).setCell ⟨wA.heap.size, 3, none⟩ (.int .i64 xd)).setCell ⟨wA.heap.size, 4, none⟩ (.int .i64 xp)).heap[w0.heap.size]? = _ := (keep5 (by first | exact hdif | exact Ne.symm hdif)).trans hA2
        have hbC : Below w.heap.size w (((((wB.setCell ⟨wA.heap.size, 0, none⟩ (.int .i64 xk)).setCell ⟨wA.heap.size, 1, none⟩ (.int .i64 xa)).setCell ⟨wA.heap.size, 2, none⟩ (.int .i64 xc)).setCell ⟨wA.heap.size, 3, none⟩ (.int .i64 xd)).setCell ⟨wA.heap.size, 4, none⟩ (.int .i64 xp)) := ((((hbB.setCell (by show w.heap.size ≤ wA.heap.size; omega) _).setCell (by show w.heap.size ≤ wA.heap.size; omega) _).setCell (by show w.heap.size ≤ wA.heap.size; omega) _).setCell (by show w.heap.size ≤ wA.heap.size; omega) _).setCell (by show w.heap.size ≤ wA.heap.size; omega) _
        go_simp
        generalize (((((wB.setCell ⟨wA.heap.size, 0, none⟩ (.int .i64 xk)).setCell ⟨wA.heap.size, 1, none⟩ (.int .i64 xa)).setCell ⟨wA.heap.size, 2, none⟩ (.int .i64 xc)).setCell ⟨wA.heap.size, 3, none⟩ (.int .i64 xd)).setCell ⟨wA.heap.size, 4, none⟩ (.int .i64 xp)) = wC at hC hD hbC ⊢
        refine hK'.out _ _ (HS.out _ hbC) (fun hHeld => ?_)
        clear hK' K'
        obtain ⟨ds, df, dl⟩ := cells_of (l := [_, _, _, _, _]) hD
        have d0 := ds 0 _ rfl
        have df0 := df 0
        have d1 := ds 1 _ rfl
        have df1 := df 1
        have d2 := ds 2 _ rfl
        have df2 := df 2
        have d3 := ds 3 _ rfl
        have df3 := df 3
        have d4 := ds 4 _ rfl
        have df4 := df 4
        clear ds df
        refine wpAnyH_ready (rs := [11]) (by kernel_rfl) (by simp) ?_
        refine AllReadyH.cons rfl (fun K' hK' => ?_) AllReadyH.nil
        have hE := five_heap (u0 := .int .i64 yk) (u1 := .int .i64 ya) (u2 := .int .i64 yc) (u3 := .int .i64 yd) (u4 := .int .i64 yp) hD
        have hC2 : (((((wC.setCell ⟨w0.heap.size, 0, none⟩ (.int .i64 yk)).setCell ⟨w0.heap.size, 1, none⟩ (.int .i64 ya)).setCell ⟨w0.heap.size, 2, none⟩ (.int .i64 yc)).setCell ⟨w0.heap.size, 3, none⟩ (.int .i64 yd)).setCell ⟨w0.heap.size, 4, none⟩ (.int .i64 yp)).heap[wA.heap.size]? = _ := (keep5 (by first | exact hdif | exact Ne.symm hdif)).trans hC
        have hbE : Below w.heap.size w (((((wC.setCell ⟨w0.heap.size, 0, none⟩ (.int .i64 yk)).setCell ⟨w0.heap.size, 1, none⟩ (.int .i64 ya)).setCell ⟨w0.heap.size, 2, none⟩ (.int .i64 yc)).setCell ⟨w0.heap.size, 3, none⟩ (.int .i64 yd)).setCell ⟨w0.heap.size, 4, none⟩ (.int .i64 yp)) := ((((hbC.setCell (by show w.heap.size ≤ w0.heap.size; omega) _).setCell (by show w.heap.size ≤ w0.heap.size; omega) _).setCell (by show w.heap.size ≤ w0.heap.size; omega) _).setCell (by show w.heap.size ≤ w0.heap.size; omega) _).setCell (by show w.heap.size ≤ w0.heap.size; omega) _
        go_simp
        generalize (((((wC.setCell ⟨w0.heap.size, 0, none⟩ (.int .i64 yk)).setCell ⟨w0.heap.size, 1, none⟩ (.int .i64 ya)).setCell ⟨w0.heap.size, 2, none⟩ (.int .i64 yc)).setCell ⟨w0.heap.size, 3, none⟩ (.int .i64 yd)).setCell ⟨w0.heap.size, 4, none⟩ (.int .i64 yp)) = wE at hE hC2 hbE ⊢
        refine hK'.out _ _ (HS.out _ hbE) (fun hHeld => ?_)
        clear hK' K'
        refine wpAnyH_done (by kernel_rfl) ?_ _
        refine NoPanic.normal ?_
        go_wp2_with fail
        go_meet
        case rel => exact ⟨_, _, rfl, rfl, hbE, jbAt_of hC2, jbAt_of hE⟩
  case rest =>
    obtain ⟨b1, b2, rfl, rfl, htw⟩ := hcut
    obtain ⟨c0, c1, c2, c3, c4⟩ := htw.c1
    obtain ⟨d0, d1, d2, d3, d4⟩ := htw.c2
    have HB : Hid (Below w.heap.size w wc) := htw.bel
    dsimp only [Nat.zero_add] at c0 c1 c2 c3 c4 d0 d1 d2 d3 d4
    clear htw cx cy
    rcases hp with rfl | rfl
    · by_cases q1 : xp = yp
      · have e1 : (xp != yp) = false := by simpa using q1
        by_cases q2 : xa = ya
        · have e2 : (xa != ya) = false := by simpa using q2
          go_wp2_with fail
          go_ret
          refine ⟨_, rfl, ?_, HB.out⟩
          rw [HL.out]
          unfold lex
          simp
          omega
        · have e2 : (xa != ya) = true := by simpa using q2
          go_wp2_with fail
          go_ret
          refine ⟨_, rfl, ?_, HB.out⟩
          rw [HL.out]
          unfold lex
          simp
          omega
      · have e1 : (xp != yp) = true := by simpa using q1
        go_wp2_with fail
        go_ret
        refine ⟨_, rfl, ?_, HB.out⟩
        rw [HL.out]
        unfold lex
        simp
        omega
    · by_cases q1 : xd = yd
      · have e1 : (xd != yd) = false := by simpa using q1
        by_cases q2 : xa = ya
        · have e2 : (xa != ya) = false := by simpa using q2
          go_wp2_with fail
          go_ret
          refine ⟨_, rfl, ?_, HB.out⟩
          rw [HL.out]
          unfold lex
          simp
          omega
        · have e2 : (xa != ya) = true := by simpa using q2
          go_wp2_with fail
          go_ret
          refine ⟨_, rfl, ?_, HB.out⟩
          rw [HL.out]
          unfold lex
          simp
          omega
      · have e1 : (xd != yd) = true := by simpa using q1
        go_wp2_with fail
        go_ret
        refine ⟨_, rfl, ?_, HB.out⟩
        rw [HL.out]
        unfold lex
        simp
        omega
end Go.Proofs.YtccoobcggbbciaiGreatDoor.S8
