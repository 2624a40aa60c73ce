import Derived.Test.YthhkmgafacmjpagDoorEJ
namespace Go.Proofs.YthhkmgafacmjpagDoor
open Go.ChangeShapes Go.WideShapes Go.ChangeAt Go.RowKit Go.Sort

theorem JudgeOf_ends {w : World} {g : Nat} {c k p q : Value} {a : Act} (h : w.heap[g]? = some (.cells #[c, k] 25 (0, 0))) (h1 : a.tmps[2]?.getD undef = p) (h2 : a.tmps[3]?.getD undef = q) (h3 : a.tmps[4]?.getD undef = .pointer (some ⟨g, 0, none⟩)) :
    (results Tryd.f8 a.tmps).run Tryd.prog w = .ok (.tuple #[p, q, .agg #[c, k]]) w := by
  obtain ⟨c1, f1, l1⟩ := cells_of (l := [_, _]) h
  have c10 := c1 0 _ rfl
  have c11 := c1 1 _ rfl
  subst h1 h2
  simp [results, Tryd.results8, go_sem, h3, c10, c11]

set_option maxRecDepth 20000 in
set_option maxHeartbeats 2000000 in
theorem JudgeOf_bad (w : World) (l : List Jb) (v : Value) (hv : RowSl Jb.vals w l v) (h0 : (chkJ l).1 ≠ 0) :
    Calls Tryd.prog 8 #[v] w fun r w' => r = .returned (.tuple #[.int .i64 0, .int .i64 0, .agg #[.int .i64 (chkJ l).1, .int .i64 (chkJ l).2]]) ∧ Below w.heap.size w w' := by
  have HC := CheckJobs_any (w.alloc (.cells #[.int .i64 0, .int .i64 0] 25)) l v (hv.below (below_new _ _))
  obtain ⟨ad, c, rfl⟩ := hv.len
  clear hv
  generalize (chkJ l).1 = z1 at *
  generalize (chkJ l).2 = z2 at *
  have hz : (z1 != 0) = true := by simpa using h0
  clear h0
  go_enter Tryd.func8, Tryd.ntmps8
  go_upto_region 3 with (go_at_call 17; refine HC.mono ?_; rintro r w1 ⟨rfl, hb1⟩; have H1 : Hid (RB w (w1.alloc (.cells #[.int .i64 z1, .int .i64 z2] 25)) 0 0) := ((RB.start w).grow hb1).grow (below_new _ _); have hl1 : w.heap.size < w1.heap.size := ((RB.start w).grow hb1).lt; clear hb1 HC)
  obtain ⟨fs, -, fl⟩ := cells_of (l := [_, _]) (heap_alloc_new w1 (.cells #[.int .i64 z1, .int .i64 z2] 25))
  have g0 := fs 0 _ rfl
  have g1 := fs 1 _ rfl
  clear fs
  generalize w1.alloc (.cells #[.int .i64 z1, .int .i64 z2] 25) = w2 at *
  obtain ⟨rs1, rf1, rl1⟩ := cells_of (l := [_, _]) H1.out.res
  have r10 := rs1 0 _ rfl
  have r11 := rs1 1 _ rfl
  have f10 := rf1 0
  have f11 := rf1 1
  clear rs1 rf1
  go_region
  all_goals go_wp2_with fail
  all_goals
    have hx := H1.out.set z1 z2
    refine bodyPost_ret (JudgeOf_ends (g := w.heap.size) (c := .int .i64 z1) (k := .int .i64 z2) hx.res rfl rfl rfl) rfl ?_
    exact ⟨rfl, hx.bel.drew⟩

theorem seeRow_at {l : List Jb} {x : Int} {k : Nat} {y : Jb} {s : Sn} (h : l.drop k = y :: l.drop (k + 1)) : seeRow l x (l.drop k) s = seeRow l x (l.drop (k + 1)) (seeOne l x y.d s) := by rw [h, seeRow]

theorem seeAll_at {l : List Jb} {k : Nat} {x : Jb} {s : Sn} (h : l.drop k = x :: l.drop (k + 1)) : seeAll l (l.drop k) s = seeAll l (l.drop (k + 1)) (seeRow l x.a l s) := by rw [h, seeAll]

theorem sumG_at {g : Jb → Int} {l : List Jb} {k : Nat} {x : Jb} (h : l.drop k = x :: l.drop (k + 1)) : sumG g (l.drop k) = g x + sumG g (l.drop (k + 1)) := by rw [h, sumG]

theorem anyW_at {a b : Int} {l : List Jb} {k : Nat} {x : Jb} (h : l.drop k = x :: l.drop (k + 1)) : anyW a b (l.drop k) = ((decide (a ≤ x.a) && decide (x.d ≤ b)) || anyW a b (l.drop (k + 1))) := by rw [h]; rfl

theorem seeOne_yes {l : List Jb} {x y : Int} {s : Sn} (h1 : anyW x y l = true) (h2 : y - x < sumW x y l) (h3 : s.f = false ∨ x < s.a ∨ (x = s.a ∧ y < s.b)) : seeOne l x y s = ⟨x, y, true⟩ := by
  unfold seeOne tells
  rw [if_pos]
  rw [h1]
  rcases h3 with h3 | h3 | h3
  · simp [h2, h3]
  · simp [h2, h3]
  · have e2 : decide (y - x < sumW x y l) = true := decide_eq_true h2
    have e3 : (decide (x = s.a) && decide (y < s.b)) = true := by
      rw [Bool.and_eq_true]
      exact ⟨decide_eq_true h3.1, decide_eq_true h3.2⟩
    rw [e2, e3]
    simp

theorem seeOne_no {l : List Jb} {x y : Int} {s : Sn} (h : anyW x y l = false ∨ ¬ y - x < sumW x y l ∨ (s.f = true ∧ ¬ x < s.a ∧ ¬ (x = s.a ∧ y < s.b))) : seeOne l x y s = s := by
  unfold seeOne tells
  rw [if_neg]
  rcases h with h | h | ⟨h1, h2, h3⟩
  · simp [h]
  · simp [h]
  · have e1 : decide (x < s.a) = false := decide_eq_false h2
    have e2 : (decide (x = s.a) && decide (y < s.b)) = false := by
      rw [← Bool.not_eq_true, Bool.and_eq_true, decide_eq_true_iff, decide_eq_true_iff]
      exact h3
    rw [h1, e1, e2]
    simp

theorem sumW_low {a b : Int} {l : List Jb} (hok : ∀ x ∈ l, okJ x) : 0 ≤ sumW a b l := sumG_nonneg (fun x hx => by have := (hok x hx).2.2.1; unfold inW; split <;> omega)

set_option maxRecDepth 20000 in
set_option maxHeartbeats 8000000 in
theorem JudgeOf_good (w : World) (l : List Jb) (v : Value) (hv : RowSl Jb.vals w l v) (h0 : (chkJ l).1 = 0) :
    Calls Tryd.prog 8 #[v] w fun r w' => ∃ a b c, r = .returned (.tuple #[.int .i64 a, .int .i64 b, .agg #[.int .i64 c, .int .i64 0]]) ∧ Judged l a b c ∧ Below w.heap.size w w' := by
  obtain ⟨hcl, hcok, hce⟩ := chkJ_ok h0
  have HC := CheckJobs_any (w.alloc (.cells #[.int .i64 0, .int .i64 0] 25)) l v (hv.below (below_new _ _))
  rw [hce] at HC
  dsimp only at HC
  have hj := see_judged l
  have HJ : Hid (Judged l (if (seeAll l l sn0).f = true then (seeAll l l sn0).a else 0) (if (seeAll l l sn0).f = true then (seeAll l l sn0).b else 0) (if (seeAll l l sn0).f = true then eNone else 0)) := hj
  clear hj
  obtain ⟨ad, c, rfl, -, hcap, hrow⟩ := hv
  have HR : Hid ((l = [] ∨ ∃ b o, ad = some ⟨b, o, none⟩ ∧ ∀ q u, (l.flatMap Jb.vals)[q]? = some u → w.cell? ⟨b, o + q, none⟩ = some u) ∧ ∀ x ∈ l, okJ x) := ⟨hrow, hcok⟩
  clear hrow hcok hce h0
  go_enter Tryd.func8, Tryd.ntmps8
  go_upto_region 2 with (go_at_call 17; refine HC.mono ?_; rintro r w1 ⟨rfl, hb1⟩; have H1 : Hid (RB w (w1.alloc (.cells #[.int .i64 0, .int .i64 0] 25)) 0 0) := ((RB.start w).grow hb1).grow (below_new _ _); clear hb1 HC)
  obtain ⟨fs, -, fl⟩ := cells_of (l := [_, _]) (heap_alloc_new w1 (.cells #[.int .i64 0, .int .i64 0] 25))
  have g0 := fs 0 _ rfl
  clear fs fl
  generalize w1.alloc (.cells #[.int .i64 0, .int .i64 0] 25) = w2 at *
  go_wp2_with fail
  clear g0
  go_loopw [6, 7, 8, 25] (fun va vb vf vi wr => ∃ (i : Nat) (s : Sn), i ≤ l.length ∧ va = .int .i64 s.a ∧ vb = .int .i64 s.b ∧ vf = .bool s.f ∧ vi = .int .i64 i ∧ RB w wr 0 0 ∧ seeAll l (l.drop i) s = seeAll l l sn0) (fun _ _ _ vi _ => l.length - (intOf vi).toNat)
  case atStart => exact ⟨0, sn0, Nat.zero_le _, rfl, rfl, rfl, rfl, H1.out, rfl⟩
  case round =>
    obtain ⟨i, ⟨ta, tb, tf⟩, hi, rfl, rfl, rfl, rfl, hg, hac⟩ := hrel
    have HG : Hid (RB w wr 0 0) := hg
    by_cases hil : i < l.length
    · obtain ⟨x, hx, hd⟩ := drop_at hil
      rcases HR.out.1 with h | ⟨gb, go, rfl, hr1⟩
      · rw [h] at hil; simp at hil
      obtain ⟨y0, y1, y2, y3, y4⟩ := jb_at (fun q u hq => below_cell hg.bel (hr1 q u hq)) hx
      have hox := HR.out.2 x (List.mem_of_getElem? hx)
      rw [seeAll_at hd] at hac
      obtain ⟨xk, xa, xc, xd, xp⟩ := x
      unfold okJ at hox
      dsimp only at y0 y1 y2 y3 y4 hac hox
      obtain ⟨k1, k2, -⟩ := hox
      have HO : Hid (seeAll l (l.drop (i + 1)) (seeRow l xa l ⟨ta, tb, tf⟩) = seeAll l l sn0) := hac
      have HC1 : Hid (∀ q u, (l.flatMap Jb.vals)[q]? = some u → w.cell? ⟨gb, go + q, none⟩ = some u) := hr1
      clear hac hd hr1 hx hg
      go_wp2_with fail
      have HX : Hid (RB w (wr.alloc (.cells #[.int .i64 xk, .int .i64 xa, .int .i64 xc, .int .i64 xd, .int .i64 xp] 29)) 0 0 ∧ (wr.alloc (.cells #[.int .i64 xk, .int .i64 xa, .int .i64 xc, .int .i64 xd, .int .i64 xp] 29)).cell? ⟨wr.heap.size, 1, none⟩ = some (.int .i64 xa)) := ⟨HG.out.grow (below_new _ _), (cells_of (l := [_, _, _, _, _]) (heap_alloc_new wr (.cells #[.int .i64 xk, .int .i64 xa, .int .i64 xc, .int .i64 xd, .int .i64 xp] 29))).1 1 _ rfl⟩
      clear HG y0 y1 y2 y3 y4
      generalize wr.alloc (.cells #[.int .i64 xk, .int .i64 xa, .int .i64 xc, .int .i64 xd, .int .i64 xp] 29) = wX at *
      generalize wr.heap.size = X at *
      go_loopw [6, 7, 8, 31] (fun va vb vf vk wy => ∃ (k : Nat) (s : Sn), k ≤ l.length ∧ va = .int .i64 s.a ∧ vb = .int .i64 s.b ∧ vf = .bool s.f ∧ vk = .int .i64 k ∧ Below wX.heap.size wX wy ∧ seeRow l xa (l.drop k) s = seeRow l xa l ⟨ta, tb, tf⟩) (fun _ _ _ vk _ => l.length - (intOf vk).toNat)
      case atStart => exact ⟨0, ⟨ta, tb, tf⟩, Nat.zero_le _, rfl, rfl, rfl, rfl, Below.refl _ _, rfl⟩
      case round =>
        rename_i wr0
        obtain ⟨k, ⟨sa, sb, sf⟩, hk, rfl, rfl, rfl, rfl, hg2, hac⟩ := hrel
        have HG2 : Hid (Below wX.heap.size wX wr) := hg2
        by_cases hkl : k < l.length
        · obtain ⟨y, hy, hd⟩ := drop_at hkl
          obtain ⟨y0, y1, y2, y3, y4⟩ := jb_at (fun q u hq => below_cell hg2 (below_cell HX.out.1.bel (HC1.out q u hq))) hy
          have hoy := HR.out.2 y (List.mem_of_getElem? hy)
          rw [seeRow_at hd] at hac
          obtain ⟨yk, ya, yc, yd, yp⟩ := y
          unfold okJ at hoy
          dsimp only at y0 y1 y2 y3 y4 hac hoy
          obtain ⟨-, -, -, -, k5, k6⟩ := hoy
          have HM : Hid (seeRow l xa (l.drop (k + 1)) (seeOne l xa yd ⟨sa, sb, sf⟩) = seeRow l xa l ⟨ta, tb, tf⟩) := hac
          clear hac hd hy hg2
          go_wp2_with fail
          have HY : Hid (Below wX.heap.size wX (wr.alloc (.cells #[.int .i64 yk, .int .i64 ya, .int .i64 yc, .int .i64 yd, .int .i64 yp] 29)) ∧ (wr.alloc (.cells #[.int .i64 yk, .int .i64 ya, .int .i64 yc, .int .i64 yd, .int .i64 yp] 29)).cell? ⟨wr.heap.size, 3, none⟩ = some (.int .i64 yd)) := ⟨below_seq HG2.out (below_new _ _), (cells_of (l := [_, _, _, _, _]) (heap_alloc_new wr (.cells #[.int .i64 yk, .int .i64 ya, .int .i64 yc, .int .i64 yd, .int .i64 yp] 29))).1 3 _ rfl⟩
          clear HG2 y0 y1 y2 y3 y4
          generalize wr.alloc (.cells #[.int .i64 yk, .int .i64 ya, .int .i64 yc, .int .i64 yd, .int .i64 yp] 29) = wY at *
          generalize wr.heap.size = Y at *
          go_loopw [13, 14, 37] (fun vz vg vm wz => ∃ (m : Nat) (z : Int) (g : Bool), m ≤ l.length ∧ vz = .int .i64 z ∧ vg = .bool g ∧ vm = .int .i64 m ∧ 0 ≤ z ∧ z ≤ 10000 * (m : Int) ∧ Below wY.heap.size wY wz ∧ z + sumG (inW xa yd) (l.drop m) = sumW xa yd l ∧ (g || anyW xa yd (l.drop m)) = anyW xa yd l) (fun _ _ vm _ => l.length - (intOf vm).toNat)
          case atStart => exact ⟨0, 0, false, Nat.zero_le _, rfl, rfl, rfl, Int.le_refl _, by omega, Below.refl _ _, by rw [List.drop_zero]; unfold sumW; omega, by simp⟩
          case round =>
            rename_i wr1
            obtain ⟨m, z, g, hm, rfl, rfl, rfl, hz0, hz1, hg3, hsum, hany⟩ := hrel
            have HB3 : Hid (Below wX.heap.size wX wr) := below_seq HY.out.1 hg3
            have cx := below_cell HB3.out HX.out.2
            have cy := below_cell hg3 HY.out.2
            have lx : X < wr.heap.size := World.block_lt_of_cell? _ _ cx
            have ly : Y < wr.heap.size := World.block_lt_of_cell? _ _ cy
            have HG3 : Hid (Below wY.heap.size wY wr) := hg3
            by_cases hml : m < l.length
            · obtain ⟨u, hu, hd⟩ := drop_at hml
              obtain ⟨y0, y1, y2, y3, y4⟩ := jb_at (fun q u hq => below_cell HB3.out (below_cell HX.out.1.bel (HC1.out q u hq))) hu
              have hou := HR.out.2 u (List.mem_of_getElem? hu)
              rw [sumG_at hd] at hsum
              rw [anyW_at hd] at hany
              obtain ⟨uk, ua, uc, ud, up⟩ := u
              unfold okJ at hou
              have hiw : inW xa yd ⟨uk, ua, uc, ud, up⟩ = if xa ≤ ua ∧ ud ≤ yd then uc else 0 := rfl
              rw [hiw] at hsum
              dsimp only at y0 y1 y2 y3 y4 hsum hany hou
              obtain ⟨-, -, n3, n4, -, -⟩ := hou
              clear hd hu hg3
              by_cases p1 : xa ≤ ua
              · by_cases p2 : ud ≤ yd
                · have HS : Hid ((z + uc) + sumG (inW xa yd) (l.drop (m + 1)) = sumW xa yd l ∧ (true || anyW xa yd (l.drop (m + 1))) = anyW xa yd l) := by
                    rw [if_pos ⟨p1, p2⟩] at hsum
                    refine ⟨by omega, ?_⟩
                    rw [← hany]; simp [p1, p2]
                  clear hsum hany
                  go_wp2_with fail
                  exact ⟨⟨m + 1, z + uc, true, by omega, rfl, rfl, by simp, by omega, by omega, below_seq HG3.out (below_new _ _), HS.out.1, HS.out.2⟩, by simp [intOf]; omega⟩
                · have HS : Hid (z + sumG (inW xa yd) (l.drop (m + 1)) = sumW xa yd l ∧ (g || anyW xa yd (l.drop (m + 1))) = anyW xa yd l) := by
                    rw [if_neg (fun h => p2 h.2)] at hsum
                    refine ⟨by omega, ?_⟩
                    rw [← hany]; simp [p2]
                  clear hsum hany
                  go_wp2_with fail
                  exact ⟨⟨m + 1, z, g, by omega, rfl, rfl, by simp, by omega, by omega, below_seq HG3.out (below_new _ _), HS.out.1, HS.out.2⟩, by simp [intOf]; omega⟩
              · have HS : Hid (z + sumG (inW xa yd) (l.drop (m + 1)) = sumW xa yd l ∧ (g || anyW xa yd (l.drop (m + 1))) = anyW xa yd l) := by
                  rw [if_neg (fun h => p1 h.1)] at hsum
                  refine ⟨by omega, ?_⟩
                  rw [← hany]; simp [p1]
                clear hsum hany
                go_wp2_with fail
                exact ⟨⟨m + 1, z, g, by omega, rfl, rfl, by simp, by omega, by omega, below_seq HG3.out (below_new _ _), HS.out.1, HS.out.2⟩, by simp [intOf]; omega⟩
            · have hme : m = l.length := by omega
              subst hme
              have hze : z = sumW xa yd l := by rw [List.drop_length, sumG] at hsum; omega
              have hge : g = anyW xa yd l := by rw [List.drop_length] at hany; rw [← hany]; simp [anyW]
              rw [hze] at hz0 hz1 ⊢
              clear hze hsum hany HG3 hg3 z
              rcases hGb : anyW xa yd l with _ | _
              · have HT : Hid (seeOne l xa yd ⟨sa, sb, sf⟩ = ⟨sa, sb, sf⟩) := seeOne_no (.inl hGb)
                rw [hGb] at hge
                subst hge
                rcases sf with _ | _
                · go_wp2_with fail
                  exact ⟨⟨k + 1, ⟨sa, sb, false⟩, by omega, rfl, rfl, rfl, by simp, HB3.out, (by have e := HM.out; rw [HT.out] at e; exact e)⟩, by simp [intOf]; omega⟩
                · go_wp2_with fail
                  exact ⟨⟨k + 1, ⟨sa, sb, true⟩, by omega, rfl, rfl, rfl, by simp, HB3.out, (by have e := HM.out; rw [HT.out] at e; exact e)⟩, by simp [intOf]; omega⟩
              · rw [hGb] at hge
                subst hge
                by_cases hS : yd - xa < sumW xa yd l
                · rcases sf with _ | _
                  · have HT : Hid (seeOne l xa yd ⟨sa, sb, false⟩ = ⟨xa, yd, true⟩) := seeOne_yes hGb hS (.inl rfl)
                    go_upto_region 20 with fail
                    go_quiet (fail)
                    go_wp2_with fail
                    exact ⟨⟨k + 1, ⟨xa, yd, true⟩, by omega, rfl, rfl, rfl, by simp, below_seq HB3.out below_drewN', (by have e := HM.out; rw [HT.out] at e; exact e)⟩, by simp [intOf]; omega⟩
                  · by_cases hA : xa < sa
                    · have HT : Hid (seeOne l xa yd ⟨sa, sb, true⟩ = ⟨xa, yd, true⟩) := seeOne_yes hGb hS (.inr (.inl hA))
                      go_upto_region 20 with fail
                      go_quiet (fail)
                      go_wp2_with fail
                      exact ⟨⟨k + 1, ⟨xa, yd, true⟩, by omega, rfl, rfl, rfl, by simp, below_seq HB3.out below_drewN', (by have e := HM.out; rw [HT.out] at e; exact e)⟩, by simp [intOf]; omega⟩
                    · by_cases hE : xa = sa
                      · subst hE
                        by_cases hD : yd < sb
                        · have HT : Hid (seeOne l xa yd ⟨xa, sb, true⟩ = ⟨xa, yd, true⟩) := seeOne_yes hGb hS (.inr (.inr ⟨rfl, hD⟩))
                          go_upto_region 20 with fail
                          go_quiet (fail)
                          go_wp2_with fail
                          exact ⟨⟨k + 1, ⟨xa, yd, true⟩, by omega, rfl, rfl, rfl, by simp, below_seq HB3.out below_drewN', (by have e := HM.out; rw [HT.out] at e; exact e)⟩, by simp [intOf]; omega⟩
                        · have HT : Hid (seeOne l xa yd ⟨xa, sb, true⟩ = ⟨xa, sb, true⟩) := seeOne_no (.inr (.inr ⟨rfl, hA, fun h => hD h.2⟩))
                          go_wp2_with fail
                          exact ⟨⟨k + 1, ⟨xa, sb, true⟩, by omega, rfl, rfl, rfl, by simp, HB3.out, (by have e := HM.out; rw [HT.out] at e; exact e)⟩, by simp [intOf]; omega⟩
                      · have HT : Hid (seeOne l xa yd ⟨sa, sb, true⟩ = ⟨sa, sb, true⟩) := seeOne_no (.inr (.inr ⟨rfl, hA, fun h => hE h.1⟩))
                        go_wp2_with fail
                        exact ⟨⟨k + 1, ⟨sa, sb, true⟩, by omega, rfl, rfl, rfl, by simp, HB3.out, (by have e := HM.out; rw [HT.out] at e; exact e)⟩, by simp [intOf]; omega⟩
                · have HT : Hid (seeOne l xa yd ⟨sa, sb, sf⟩ = ⟨sa, sb, sf⟩) := seeOne_no (.inr (.inl hS))
                  rcases sf with _ | _
                  · go_wp2_with fail
                    exact ⟨⟨k + 1, ⟨sa, sb, false⟩, by omega, rfl, rfl, rfl, by simp, HB3.out, (by have e := HM.out; rw [HT.out] at e; exact e)⟩, by simp [intOf]; omega⟩
                  · go_wp2_with fail
                    exact ⟨⟨k + 1, ⟨sa, sb, true⟩, by omega, rfl, rfl, rfl, by simp, HB3.out, (by have e := HM.out; rw [HT.out] at e; exact e)⟩, by simp [intOf]; omega⟩
        · have hke : k = l.length := by omega
          subst hke
          have HS : Hid ((⟨sa, sb, sf⟩ : Sn) = seeRow l xa l ⟨ta, tb, tf⟩) := by rw [List.drop_length] at hac; exact hac
          clear hac hg2
          go_wp2_with fail
          exact ⟨⟨i + 1, ⟨sa, sb, sf⟩, by omega, rfl, rfl, rfl, by simp, HX.out.1.grow HG2.out, (by rw [HS.out]; exact HO.out)⟩, by simp [intOf]; omega⟩
    · have hie : i = l.length := by omega
      subst hie
      have HS : Hid ((⟨ta, tb, tf⟩ : Sn) = seeAll l l sn0) := by rw [List.drop_length] at hac; exact hac
      clear hac hg
      obtain ⟨rs1, rf1, rl1⟩ := cells_of (l := [_, _]) HG.out.res
      have r10 := rs1 0 _ rfl
      have r11 := rs1 1 _ rfl
      have f10 := rf1 0
      have f11 := rf1 1
      clear rs1 rf1
      rcases tf with _ | _
      · go_wp2_with fail
        have hx := HG.out.set 0 0
        refine bodyPost_ret (JudgeOf_ends (g := w.heap.size) (c := .int .i64 0) (k := .int .i64 0) hx.res rfl rfl rfl) rfl ?_
        refine ⟨0, 0, 0, rfl, ?_, hx.bel⟩
        have e := HJ.out
        rw [← HS.out] at e
        exact e
      · clear r10 r11 f10 f11
        go_wp2_with (go_at_call 5; refine (F_any _ _ _).mono ?_; rintro r w7 ⟨rfl, hb7⟩; have H7 : Hid (RB w w7 0 0) := HG.out.grow hb7; clear hb7 HG; obtain ⟨rs1, rf1, rl1⟩ := cells_of (l := [_, _]) H7.out.res; have r10 := rs1 0 _ rfl; have r11 := rs1 1 _ rfl; have f10 := rf1 0; have f11 := rf1 1; clear rs1 rf1)
        have hx := H7.out.set 13 0
        refine bodyPost_ret (JudgeOf_ends (g := w.heap.size) (c := .int .i64 13) (k := .int .i64 0) hx.res rfl rfl rfl) rfl ?_
        refine ⟨ta, tb, 13, rfl, ?_, hx.bel⟩
        have e := HJ.out
        rw [← HS.out] at e
        exact e

/-- The document's. -/
theorem JudgeOf_any (w : World) (l : List Jb) (v : Value) (hv : RowSl Jb.vals w l v) :
    Calls Tryd.prog 8 #[v] w fun r w' => ∃ a b c k, r = .returned (.tuple #[.int .i64 a, .int .i64 b, .agg #[.int .i64 c, .int .i64 k]]) ∧ JRes l a b c k ∧ Below w.heap.size w w' := by
  by_cases h0 : (chkJ l).1 = 0
  · refine (JudgeOf_good w l v hv h0).mono ?_
    rintro r w' ⟨a, b, c, rfl, h1, h2⟩
    exact ⟨a, b, c, 0, rfl, .inr ⟨h0, rfl, h1⟩, h2⟩
  · refine (JudgeOf_bad w l v hv h0).mono ?_
    rintro r w' ⟨rfl, h2⟩
    exact ⟨0, 0, _, _, rfl, .inl ⟨h0, rfl, rfl, rfl, rfl⟩, h2⟩

end Go.Proofs.YthhkmgafacmjpagDoor
