import Derived.Test.YtccoobcggbbciaiGreatDoorMH
namespace Go.Proofs.YtccoobcggbbciaiGreatDoor
open Go.ChangeShapes Go.WideShapes Go.ChangeAt Go.RowKit

theorem CC_ends {w : World} {g : Nat} {c k : Value} {a : Act} (h : w.heap[g]? = some (.cells #[c, k] 30 (0, 0))) (h3 : a.tmps[2]?.getD undef = .pointer (some ⟨g, 0, none⟩)) :
    (results Tryz.f32 a.tmps).run Tryz.prog w = .ok (.agg #[c, k]) w := by
  obtain ⟨c1, f1, l1⟩ := cells_of (l := [_, _]) h
  have c10 := c1 0 _ rfl
  have c11 := c1 1 _ rfl
  simp [results, Tryz.results32, go_sem, h3, c10, c11]

theorem from_K {P : Program} {c : Code} {q : Exit → Act → World → Prop} {K : Act → World → Prop} (h : ∀ a w, Code.wp P c q a w → K a w) (a : Act) (w : World) (g : Code.wp P c q a w) : K a w := h a w g

theorem rangeC_iff (x : Cr) : rangeC x = true ↔ x.c < 1 ∨ x.h < x.c ∨ x.t < 1 ∨ 10000 < x.t ∨ x.d < x.c ∨ x.p < 0 ∨ 1000 < x.p := by
  unfold rangeC within
  simp only [Bool.or_eq_true, decide_eq_true_eq, Bool.not_eq_eq_eq_not, Bool.not_true, Bool.and_eq_false_iff, decide_eq_false_iff_not]
  omega

theorem orderC_iff (x : Cr) (h : rangeC x = false) : orderC x = true ↔ x.t < x.d ∨ x.d < x.h ∨ (x.hi = false ∧ x.c < x.h) := by
  have hr : ¬ (x.h < x.c) := fun e => by
    have := (rangeC_iff x).2 (.inr (.inl e))
    rw [h] at this; cases this
  unfold orderC
  cases hh : x.hi with
  | true => simp
  | false =>
    simp only [Bool.or_eq_true, decide_eq_true_eq, Bool.not_false, Bool.true_and, bne_iff_ne, ne_eq]
    constructor
    · rintro ((a | a) | a)
      · exact .inl a
      · exact .inr (.inl a)
      · exact .inr (.inr ⟨trivial, by omega⟩)
    · rintro (a | a | ⟨-, a⟩)
      · exact .inl (.inl a)
      · exact .inl (.inr a)
      · exact .inr (by omega)

set_option maxRecDepth 20000 in
set_option maxHeartbeats 8000000 in
theorem CheckCrit_any (w : World) (l : List Cr) (v : Value) (hv : RowSl Cr.vals w l v) : Calls Tryz.prog 32 #[v] w fun r w' => r = .returned (.agg #[.int .i64 (chkC l).1, .int .i64 (chkC l).2]) ∧ Below w.heap.size w w' := by
  have HV : Hid (RowSl Cr.vals w l v) := hv
  have HF : Hid (FB w (w.alloc (.cells #[.int .i64 0, .int .i64 0] 30)) w.heap.size) := FB.start w
  obtain ⟨ad, c, rfl⟩ := hv.len
  clear hv
  by_cases h0 : l.length = 0
  · have e : chkC l = (2, 0) := by unfold chkC; rw [if_pos (.inl h0)]
    rw [e]
    have h0' : ((l.length : Int) == 0) = true := by simp [h0]
    have h0i : (l.length : Int) = 0 := by omega
    dsimp only
    go_enter Tryz.func32, Tryz.ntmps32
    go_wp2_with (go_at_call 33; refine (F_any _ _ _).mono ?_; rintro r w9 ⟨rfl, hb9⟩; have H9 : Hid (FB w w9 w.heap.size) := HF.out.grow hb9; obtain ⟨qs, qf, ql⟩ := cells_of (l := [_, _]) (HF.out.grow hb9).res; have q0 := qs 0 _ rfl; have q1 := qs 1 _ rfl; have qf0 := qf 0; have qf1 := qf 1; clear qs qf hb9)
    refine bodyPost_ret (CC_ends (g := w.heap.size) (c := .int .i64 2) (k := .int .i64 0) (set_two H9.out.res) rfl) rfl ?_
    exact ⟨rfl, H9.out.set _ _⟩
  have h0' : ((l.length : Int) == 0) = false := by rw [beq_eq_false_iff_ne]; omega
  have h0i : ¬ (l.length : Int) = 0 := by omega
  by_cases h8 : 8 < l.length
  · have e : chkC l = (2, 0) := by unfold chkC; rw [if_pos (.inr h8)]
    rw [e]
    have h8' : (8 : Int) < (l.length : Int) := by omega
    dsimp only
    go_enter Tryz.func32, Tryz.ntmps32
    go_wp2_with (go_at_call 33; refine (F_any _ _ _).mono ?_; rintro r w9 ⟨rfl, hb9⟩; have H9 : Hid (FB w w9 w.heap.size) := HF.out.grow hb9; obtain ⟨qs, qf, ql⟩ := cells_of (l := [_, _]) (HF.out.grow hb9).res; have q0 := qs 0 _ rfl; have q1 := qs 1 _ rfl; have qf0 := qf 0; have qf1 := qf 1; clear qs qf hb9)
    refine bodyPost_ret (CC_ends (g := w.heap.size) (c := .int .i64 2) (k := .int .i64 0) (set_two H9.out.res) rfl) rfl ?_
    exact ⟨rfl, H9.out.set _ _⟩
  have h8' : ¬ (8 : Int) < (l.length : Int) := by omega
  have e : chkC l = chkCFrom l l 0 := by unfold chkC; rw [if_neg (by omega)]
  rw [e]
  clear e
  obtain ⟨y1, y2, hy⟩ : ∃ y1 y2, chkCFrom l l 0 = (y1, y2) := ⟨_, _, rfl⟩
  have HY : Hid (chkCFrom l l 0 = (y1, y2)) := hy
  rw [hy]
  clear hy
  dsimp only
  go_enter Tryz.func32, Tryz.ntmps32
  go_wp2_with fail
  obtain ⟨G, hG⟩ : ∃ G, w.heap.size = G := ⟨_, rfl⟩
  rw [hG] at HF
  simp only [hG]
  go_loopw [18] (fun iv wr => ∃ j : Nat, j ≤ l.length ∧ iv = .int .i64 (j : Int) ∧ FB w wr G ∧ chkCFrom l (l.drop j) j = (y1, y2)) (fun iv _ => l.length - (intOf iv).toNat)
  case atStart => exact ⟨0, Nat.zero_le _, rfl, HF.out, HY.out⟩
  case round =>
    obtain ⟨j, hj, rfl, hfb, hf⟩ := hrel
    by_cases hjl : j < l.length
    · obtain ⟨x, hx, hd'⟩ := drop_at hjl
      rw [hd', chkCFrom] at hf
      have hv1 := HV.out
      obtain ⟨ad', c', eq, -, hcap, hr⟩ := hv1
      cases eq
      rcases hr with h | ⟨ab, ao, rfl, hr⟩
      · rw [h] at hjl; simp at hjl
      obtain ⟨z0, z1, z2, z3, z4, z5⟩ := cr_at (fun q u hq => below_cell hfb.bel (hr q u hq)) hx
      have hbn := below_new wr (.cells #[.int .i64 x.c, .int .i64 x.h, .int .i64 x.t, .int .i64 x.d, .bool x.hi, .int .i64 x.p] 35)
      have H5 : Hid (FB w (wr.alloc (.cells #[.int .i64 x.c, .int .i64 x.h, .int .i64 x.t, .int .i64 x.d, .bool x.hi, .int .i64 x.p] 35)) G ∧ (if wrongC x (l.take j) = 0 then chkCFrom l (l.drop (j + 1)) (j + 1) else (wrongC x (l.take j), (j : Int))) = (y1, y2) ∧ (∀ q u, (l.flatMap Cr.vals)[q]? = some u → w.cell? ⟨ab, ao + q, none⟩ = some u)) := ⟨hfb.grow hbn, hf, hr⟩
      have d0 := cells_of (l := [_, _, _, _, _, _]) (heap_alloc_new wr (.cells #[.int .i64 x.c, .int .i64 x.h, .int .i64 x.t, .int .i64 x.d, .bool x.hi, .int .i64 x.p] 35))
      have g0 := d0.1 0 _ rfl
      have g1 := d0.1 1 _ rfl
      have g2 := d0.1 2 _ rfl
      have g3 := d0.1 3 _ rfl
      have g4 := d0.1 4 _ rfl
      have g5 := d0.1 5 _ rfl
      have gl := d0.2.2
      have hR := rangeC_iff x
      have hO := orderC_iff x
      obtain ⟨rg, hrg⟩ : ∃ rg, rangeC x = rg := ⟨_, rfl⟩
      obtain ⟨og, hog⟩ : ∃ og, orderC x = og := ⟨_, rfl⟩
      have HW : Hid (wrongC x (l.take j) = if rg = true then 3 else if og = true then 12 else if (l.take j).any (fun y => y.p == x.p) = true then 5 else 0) := by
        have e : wrongC x (l.take j) = if rg = true then 3 else if og = true then 12 else if (l.take j).any (fun y => y.p == x.p) = true then 5 else 0 := by unfold wrongC; rw [hrg, hog]
        exact e
      rw [hrg] at hR hO
      rw [hog] at hO
      clear hrg hog hf hr hfb hbn d0 hx hd'
      have hji : (j : Int) < (l.length : Int) := by omega
      obtain ⟨xc, xh, xt, xd, xi, xp⟩ := x
      dsimp only at z0 z1 z2 z3 z4 z5 g0 g1 g2 g3 g4 g5 gl hR hO H5 HW
      go_upto_region 6 with fail
      clear z0 z1 z2 z3 z4 z5
      generalize wr.alloc (.cells #[.int .i64 xc, .int .i64 xh, .int .i64 xt, .int .i64 xd, .bool xi, .int .i64 xp] 35) = w5 at *
      obtain ⟨cg, hcg⟩ : ∃ cg, wr.heap.size = cg := ⟨_, rfl⟩
      rw [hcg] at g0 g1 g2 g3 g4 g5 gl ⊢
      clear hcg
      have HK : Hid (FB w w5 G) := H5.out.1
      go_cut [59] from 23 to 58 (fun c W => c = .bool rg ∧ W = w5)
      case first =>
        by_cases q1 : xc < 1
        · obtain rfl : rg = true := hR.2 (.inl q1)
          go_wp2_with fail
          go_meet
          case rel => exact ⟨rfl, rfl⟩
        by_cases q2 : xh < xc
        · obtain rfl : rg = true := hR.2 (.inr (.inl q2))
          go_wp2_with fail
          go_meet
          case rel => exact ⟨rfl, rfl⟩
        by_cases q3 : xt < 1
        · obtain rfl : rg = true := hR.2 (.inr (.inr (.inl q3)))
          go_wp2_with fail
          go_meet
          case rel => exact ⟨rfl, rfl⟩
        by_cases q4 : 10000 < xt
        · obtain rfl : rg = true := hR.2 (.inr (.inr (.inr (.inl q4))))
          go_wp2_with fail
          go_meet
          case rel => exact ⟨rfl, rfl⟩
        by_cases q5 : xd < xc
        · obtain rfl : rg = true := hR.2 (.inr (.inr (.inr (.inr (.inl q5)))))
          go_wp2_with fail
          go_meet
          case rel => exact ⟨rfl, rfl⟩
        by_cases q6 : xp < 0
        · obtain rfl : rg = true := hR.2 (.inr (.inr (.inr (.inr (.inr (.inl q6))))))
          go_wp2_with fail
          go_meet
          case rel => exact ⟨rfl, rfl⟩
        by_cases q7 : 1000 < xp
        · obtain rfl : rg = true := hR.2 (.inr (.inr (.inr (.inr (.inr (.inr q7))))))
          go_wp2_with fail
          go_meet
          case rel => exact ⟨rfl, rfl⟩
        obtain rfl : rg = false := by
          cases rg with
          | false => rfl
          | true => exact absurd (hR.1 rfl) (by omega)
        go_wp2_with fail
        go_meet
        case rel => exact ⟨rfl, rfl⟩
      case rest =>
        obtain ⟨rfl, hW⟩ := hcut
        subst hW
        refine from_K (by assumption) _ _ ?_
        cases rg with
        | true =>
          have e : 3 = y1 ∧ (j : Int) = y2 := by
            have h9 := H5.out.2.1
            rw [HW.out] at h9
            simp at h9
            exact h9
          obtain ⟨rfl, rfl⟩ := e
          clear hR hO
          go_upto_region 7 with fail
          clear g0 g1 g2 g3 g4 g5 gl
          go_wp2_with (go_at_call 33; refine (F_any _ _ _).mono ?_; rintro r w9 ⟨rfl, hb9⟩; have H9 : Hid (FB w w9 G) := HK.out.grow hb9; obtain ⟨qs, qf, ql⟩ := cells_of (l := [_, _]) (HK.out.grow hb9).res; have q0 := qs 0 _ rfl; have q1 := qs 1 _ rfl; have qf0 := qf 0; have qf1 := qf 1; clear qs qf hb9)
          refine bodyPost_ret (CC_ends (g := G) (c := .int .i64 3) (k := .int .i64 (j : Int)) (set_two H9.out.res) rfl) rfl ?_
          exact ⟨rfl, H9.out.set _ _⟩
        | false =>
          have hOO := hO rfl
          have hnr : ¬ (xc < 1 ∨ xh < xc ∨ xt < 1 ∨ 10000 < xt ∨ xd < xc ∨ xp < 0 ∨ 1000 < xp) := fun e => by have := hR.2 e; cases this
          clear hO hR
          go_upto_region 8 with fail
          go_cut [85] from 62 to 84 (fun c W => c = .bool og ∧ W = wc)
          case first =>
            by_cases q1 : xt < xd
            · obtain rfl : og = true := hOO.2 (.inl q1)
              go_wp2_with fail
              go_meet
              case rel => exact ⟨rfl, rfl⟩
            by_cases q2 : xd < xh
            · obtain rfl : og = true := hOO.2 (.inr (.inl q2))
              go_wp2_with fail
              go_meet
              case rel => exact ⟨rfl, rfl⟩
            cases xi with
            | true =>
              obtain rfl : og = false := by
                cases og with
                | false => rfl
                | true => rcases hOO.1 rfl with h | h | ⟨h, -⟩; omega; omega; cases h
              go_wp2_with fail
              go_meet
              case rel => exact ⟨rfl, rfl⟩
            | false =>
              by_cases q3 : xc < xh
              · obtain rfl : og = true := hOO.2 (.inr (.inr ⟨rfl, q3⟩))
                go_wp2_with fail
                go_meet
                case rel => exact ⟨rfl, rfl⟩
              · obtain rfl : og = false := by
                  cases og with
                  | false => rfl
                  | true => rcases hOO.1 rfl with h | h | ⟨-, h⟩ <;> omega
                go_wp2_with fail
                go_meet
                case rel => exact ⟨rfl, rfl⟩
          case rest =>
            obtain ⟨rfl, hW2⟩ := hcut
            subst hW2
            refine from_K (by assumption) _ _ ?_
            cases og with
            | true =>
              have e : 12 = y1 ∧ (j : Int) = y2 := by
                have h9 := H5.out.2.1
                rw [HW.out] at h9
                simp at h9
                exact h9
              obtain ⟨rfl, rfl⟩ := e
              clear hOO hnr
              go_upto_region 9 with fail
              clear g0 g1 g2 g3 g4 g5 gl
              go_wp2_with (go_at_call 33; refine (F_any _ _ _).mono ?_; rintro r w9 ⟨rfl, hb9⟩; have H9 : Hid (FB w w9 G) := HK.out.grow hb9; obtain ⟨qs, qf, ql⟩ := cells_of (l := [_, _]) (HK.out.grow hb9).res; have q0 := qs 0 _ rfl; have q1 := qs 1 _ rfl; have qf0 := qf 0; have qf1 := qf 1; clear qs qf hb9)
              refine bodyPost_ret (CC_ends (g := G) (c := .int .i64 12) (k := .int .i64 (j : Int)) (set_two H9.out.res) rfl) rfl ?_
              exact ⟨rfl, H9.out.set _ _⟩
            | false =>
              clear hOO hnr
              have hcap0 : ¬ c = 0 := by omega
              have hjc : (j : Int) ≤ (c : Int) := by omega
              have hjt : ((j : Int)).toNat = j := Int.toNat_natCast j
              go_upto_region 10 with fail
              have HQ : Hid (wrongC ⟨xc, xh, xt, xd, xi, xp⟩ (l.take j) = if (l.take j).any (fun y => y.p == xp) = true then 5 else 0) := by
                have e : wrongC ⟨xc, xh, xt, xd, xi, xp⟩ (l.take j) = if (l.take j).any (fun y => y.p == xp) = true then 5 else 0 := by
                  have h9 := HW.out
                  simp only [Bool.false_eq_true, if_false] at h9
                  exact h9
                exact e
              clear HW
              go_wp2_with fail
              go_loopw [92] (fun iv wr => ∃ q : Nat, q ≤ j ∧ iv = .int .i64 (q : Int) ∧ Below wc.heap.size wc wr ∧ (l.take q).any (fun y => y.p == xp) = false) (fun iv _ => j - (intOf iv).toNat)
              case atStart => exact ⟨0, Nat.zero_le _, rfl, Below.refl _ _, rfl⟩
              case round =>
                obtain ⟨q, hq, rfl, hb, hno⟩ := hrel
                by_cases hqj : q < j
                · obtain ⟨y, hy, -⟩ := drop_at (l := l) (k := q) (by omega)
                  obtain ⟨z0, z1, z2, z3, z4, z5⟩ := cr_at (fun p u hp => below_cell (below_seq HK.out.bel hb) (H5.out.2.2 p u hp)) hy
                  have hbn := below_new wr (.cells #[.int .i64 y.c, .int .i64 y.h, .int .i64 y.t, .int .i64 y.d, .bool y.hi, .int .i64 y.p] 35)
                  have d0 := cells_of (l := [_, _, _, _, _, _]) (heap_alloc_new wr (.cells #[.int .i64 y.c, .int .i64 y.h, .int .i64 y.t, .int .i64 y.d, .bool y.hi, .int .i64 y.p] 35))
                  have o5 := d0.1 5 _ rfl
                  have ol := d0.2.2
                  have k5 := below_cell (below_seq hb hbn) g5
                  have kl := World.block_lt_of_cell? _ _ k5
                  have hts : l.take (q + 1) = l.take q ++ [y] := by rw [List.take_add_one, hy]; rfl
                  have HB : Hid (Below wc.heap.size wc (wr.alloc (.cells #[.int .i64 y.c, .int .i64 y.h, .int .i64 y.t, .int .i64 y.d, .bool y.hi, .int .i64 y.p] 35)) ∧ (l.take (q + 1)).any (fun y => y.p == xp) = (y.p == xp) ∧ l[q]? = some y) := ⟨below_seq hb hbn, by rw [hts, List.any_append, hno]; simp, hy⟩
                  have hqi : (q : Int) < (j : Int) := by omega
                  clear hb hno hy hbn d0 hts
                  obtain ⟨yc, yh, yt, yd, yi, yp⟩ := y
                  dsimp only at z0 z1 z2 z3 z4 z5 o5 ol k5 kl HB
                  by_cases hp : yp = xp
                  · subst hp
                    have hany : (l.take j).any (fun y => y.p == yp) = true := List.any_eq_true.2 ⟨⟨yc, yh, yt, yd, yi, yp⟩, List.mem_of_getElem? (i := q) (by rw [List.getElem?_take, if_pos hqj]; exact HB.out.2.2), by simp⟩
                    have e : 5 = y1 ∧ (j : Int) = y2 := by
                      have h9 := H5.out.2.1
                      rw [HQ.out, hany] at h9
                      simp at h9
                      exact h9
                    obtain ⟨rfl, rfl⟩ := e
                    have HK2 : Hid (FB w (wr.alloc (.cells #[.int .i64 yc, .int .i64 yh, .int .i64 yt, .int .i64 yd, .bool yi, .int .i64 yp] 35)) G) := HK.out.grow HB.out.1
                    go_upto_region 13 with fail
                    clear z0 z1 z2 z3 z4 z5
                    generalize (wr.alloc (.cells #[.int .i64 yc, .int .i64 yh, .int .i64 yt, .int .i64 yd, .bool yi, .int .i64 yp] 35)) = w7 at *
                    generalize wr.heap.size = og2 at *
                    go_wp2_with (go_at_call 33; refine (F_any _ _ _).mono ?_; rintro r w9 ⟨rfl, hb9⟩; have H9 : Hid (FB w w9 G) := HK2.out.grow hb9; obtain ⟨qs, qf, ql⟩ := cells_of (l := [_, _]) (HK2.out.grow hb9).res; have q0 := qs 0 _ rfl; have q1 := qs 1 _ rfl; have qf0 := qf 0; have qf1 := qf 1; clear qs qf hb9)
                    refine bodyPost_ret (CC_ends (g := G) (c := .int .i64 5) (k := .int .i64 (j : Int)) (set_two H9.out.res) rfl) rfl ?_
                    exact ⟨rfl, H9.out.set _ _⟩
                  · have hpb : (yp == xp) = false := by simpa using hp
                    go_wp2_with fail
                    exact ⟨⟨q + 1, by omega, by simp, HB.out.1, by rw [HB.out.2.1]; exact hpb⟩, by simp [intOf]; omega⟩
                · have hqe : q = j := by omega
                  subst hqe
                  have e : chkCFrom l (l.drop (q + 1)) (q + 1) = (y1, y2) := by
                    have h9 := H5.out.2.1
                    rw [HQ.out, hno] at h9
                    simpa using h9
                  have HE : Hid (FB w wr G ∧ chkCFrom l (l.drop (q + 1)) (q + 1) = (y1, y2)) := ⟨HK.out.grow hb, e⟩
                  clear hb hno e
                  go_wp2_with fail
                  exact ⟨⟨q + 1, by omega, by simp, HE.out.1, HE.out.2⟩, by simp [intOf]; omega⟩
    · have hje : j = l.length := by omega
      subst hje
      rw [List.drop_length, chkCFrom] at hf
      obtain ⟨rfl, rfl⟩ := Prod.mk.inj hf
      obtain ⟨qs, qf, ql⟩ := cells_of (l := [_, _]) hfb.res
      have q0 := qs 0 _ rfl
      have q1 := qs 1 _ rfl
      have qf0 := qf 0
      have qf1 := qf 1
      have H9 : Hid (FB w wr G) := hfb
      clear qs qf hfb hf
      go_wp2_with fail
      refine bodyPost_ret (CC_ends (g := G) (c := .int .i64 0) (k := .int .i64 0) (set_two H9.out.res) rfl) rfl ?_
      exact ⟨rfl, H9.out.set _ _⟩
end Go.Proofs.YtccoobcggbbciaiGreatDoor
