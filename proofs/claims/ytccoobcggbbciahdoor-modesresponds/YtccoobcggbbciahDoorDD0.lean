import Derived.Test.YtccoobcggbbciahDoorDB0
import Derived.Test.YtccoobcggbbciahDoorDC0
namespace Go.Proofs.YtccoobcggbbciahDoor
open Go.ChangeShapes Go.WideShapes Go.ChangeAt Go.RowKit

theorem Two_ends {w : World} {g : Nat} {c k u v : Value} {a : Act} (h : w.heap[g]? = some (.cells #[c, k] 31 (0, 0))) (h1 : a.tmps[2]?.getD undef = u) (h2 : a.tmps[3]?.getD undef = v) (h3 : a.tmps[4]?.getD undef = .pointer (some ⟨g, 0, none⟩)) :
    (results Tryd.f8 a.tmps).run Tryd.prog w = .ok (.tuple #[u, v, .agg #[c, k]]) w := by
  obtain ⟨c1, f1, l1⟩ := cells_of (l := [_, _]) h
  have c10 := c1 0 _ rfl
  have c11 := c1 1 _ rfl
  simp [results, Tryd.results8, go_sem, h1, h2, h3, c10, c11]

set_option maxRecDepth 20000 in
set_option maxHeartbeats 2000000 in
theorem Two_bad (w : World) (l : List Cr) (v : Value) (hv : RowSl Cr.vals w l v) (h0 : (chkC l).1 ≠ 0) : Calls Tryd.prog 8 #[v] w (RespPost (w.alloc (.cells #[v] 22)) l) := by
  have HC := CheckCrit_any ((w.alloc (.cells #[v] 22)).alloc (.cells #[.int .i64 0, .int .i64 0] 31)) l v (hv.below (below_seq (below_new _ _) (below_new _ _)))
  obtain ⟨z1, z2, hz⟩ : ∃ z1 z2, chkC l = (z1, z2) := ⟨_, _, rfl⟩
  have HZ : Hid (chkC l = (z1, z2) ∧ (chkC l).1 ≠ 0) := ⟨hz, h0⟩
  rw [hz] at HC h0
  dsimp only at HC h0
  have hz1 : (z1 != 0) = true := by simpa using h0
  obtain ⟨ad, c, rfl⟩ := hv.len
  clear hv hz h0
  go_enter Tryd.func8, Tryd.ntmps8
  go_upto_region 3 with (go_at_call 10; refine HC.mono ?_; rintro r w1 ⟨rfl, hb1⟩; have H1 : Hid (FB (w.alloc (.cells #[.slice ad l.length c] 22)) (w1.alloc (.cells #[.int .i64 z1, .int .i64 z2] 31)) (w.alloc (.cells #[.slice ad l.length c] 22)).heap.size) := ((FB.start _).grow hb1).grow (below_new _ _); have hl1 : (w.alloc (.cells #[.slice ad l.length c] 22)).heap.size < w1.heap.size := ((FB.start _).grow hb1).lt; clear hb1 HC)
  have hs : (w.alloc (.cells #[.slice ad l.length c] 22)).heap.size = w.heap.size + 1 := by simp
  rw [hs] at H1 hl1
  generalize (w.alloc (.cells #[.slice ad l.length c] 22)) = w0 at *
  obtain ⟨fs, -, fl⟩ := cells_of (l := [_, _]) (heap_alloc_new w1 (.cells #[.int .i64 z1, .int .i64 z2] 31))
  have g0 := fs 0 _ rfl
  have g1 := fs 1 _ rfl
  clear fs
  generalize (w1.alloc (.cells #[.int .i64 z1, .int .i64 z2] 31)) = w2 at *
  obtain ⟨G, hG⟩ : ∃ G, w.heap.size + 1 = G := ⟨_, rfl⟩
  rw [hG] at H1 hl1 hs
  simp only [hG]
  clear hG
  obtain ⟨qs, qf, ql⟩ := cells_of (l := [_, _]) H1.out.res
  have q0 := qs 0 _ rfl
  have q1 := qs 1 _ rfl
  have qf0 := qf 0
  have qf1 := qf 1
  clear qs qf
  go_region
  all_goals go_wp2_with fail
  all_goals
    refine bodyPost_ret (Two_ends (g := G) (c := .int .i64 z1) (k := .int .i64 z2) (u := .slice none 0 0) (v := .slice none 0 0) (set_two H1.out.res) rfl rfl rfl) rfl ?_
    exact ⟨[], [], _, _, z1, z2, .inl ⟨HZ.out.2, rfl, rfl, HZ.out.1.symm⟩, rfl, S8.nums_nil _ _, S8.nums_nil _ _, (fun q e => by cases e), (H1.out.set _ _).drew⟩

set_option maxRecDepth 20000 in
set_option maxHeartbeats 8000000 in
theorem Two_good (w : World) (l : List Cr) (v : Value) (hv : RowSl Cr.vals w l v) (h0 : (chkC l).1 = 0) : Calls Tryd.prog 8 #[v] w (RespPost (w.alloc (.cells #[v] 22)) l) := by
  have HC := CheckCrit_any ((w.alloc (.cells #[v] 22)).alloc (.cells #[.int .i64 0, .int .i64 0] 31)) l v (hv.below (below_seq (below_new _ _) (below_new _ _)))
  obtain ⟨hl1, hl8, hok, hce⟩ := chkC_ok h0
  rw [hce] at HC
  dsimp only at HC
  have hv' := hv
  obtain ⟨ad, c, rfl, -, hcap, hrw⟩ := hv'
  rcases hrw with hnil | ⟨ab, ao, rfl, hrow⟩
  · rw [hnil] at hl1; simp at hl1
  have hbx := cells_of (l := [_]) (heap_alloc_new w (.cells #[.slice (some ⟨ab, ao, none⟩) l.length c] 22))
  have HV : Hid (RowSl Cr.vals (w.alloc (.cells #[.slice (some ⟨ab, ao, none⟩) l.length c] 22)) l (.slice (some ⟨ab, ao, none⟩) l.length c) ∧ (∀ x ∈ l, okCr x) ∧ (∀ q u, (l.flatMap Cr.vals)[q]? = some u → (w.alloc (.cells #[.slice (some ⟨ab, ao, none⟩) l.length c] 22)).cell? ⟨ab, ao + q, none⟩ = some u) ∧ (chkC l).1 = 0 ∧ (w.alloc (.cells #[.slice (some ⟨ab, ao, none⟩) l.length c] 22)).cell? ⟨w.heap.size, 0, none⟩ = some (.slice (some ⟨ab, ao, none⟩) l.length c)) := ⟨hv.below (below_new _ _), hok, fun q u hq => below_cell (below_new _ _) (hrow q u hq), h0, hbx.1 0 _ rfl⟩
  clear hv hok hrow h0 hce hbx
  go_enter Tryd.func8, Tryd.ntmps8
  go_upto_region 2 with (go_at_call 10; refine HC.mono ?_; rintro r w1 ⟨rfl, hb1⟩; have H1 : Hid (FB (w.alloc (.cells #[.slice (some ⟨ab, ao, none⟩) l.length c] 22)) (w1.alloc (.cells #[.int .i64 0, .int .i64 0] 31)) (w.alloc (.cells #[.slice (some ⟨ab, ao, none⟩) l.length c] 22)).heap.size) := ((FB.start _).grow hb1).grow (below_new _ _); clear hb1 HC)
  have hs : (w.alloc (.cells #[.slice (some ⟨ab, ao, none⟩) l.length c] 22)).heap.size = w.heap.size + 1 := by simp
  generalize (w.alloc (.cells #[.slice (some ⟨ab, ao, none⟩) l.length c] 22)) = w0 at *
  obtain ⟨fs, -, fl⟩ := cells_of (l := [_, _]) (heap_alloc_new w1 (.cells #[.int .i64 0, .int .i64 0] 31))
  have g0 := fs 0 _ rfl
  clear fs
  generalize (w1.alloc (.cells #[.int .i64 0, .int .i64 0] 31)) = w2 at *
  have H3 : Hid (RO w0 w2 (.slice none 0 0) (.slice none 0 0) [] []) := RO.start H1.out
  clear H1
  obtain ⟨G, hG⟩ : ∃ G, w.heap.size + 1 = G := ⟨_, rfl⟩
  rw [hG] at hs
  simp only [hG]
  clear hG
  obtain ⟨gl, hgl⟩ : ∃ gl, w.heap.size = gl := ⟨_, rfl⟩
  rw [hgl] at HV
  simp only [hgl]
  clear hgl
  have b0 := below_cell H3.out.fb.bel HV.out.2.2.2.2
  go_wp2_with fail
  clear b0 g0 fl
  go_loopw [2, 3, 18] (fun u2 u3 i4 wr => ∃ (j : Nat) (av bv : Value), j ≤ l.length ∧ i4 = .int .i64 j ∧ av = u2 ∧ bv = u3 ∧ RO w0 wr av bv (wsF l (l.take j)) (isF l (l.take j)) ∧ failC l (l.drop j) j = failC l l 0) (fun _ _ i4 _ => l.length - (intOf i4).toNat)
  case atStart => exact ⟨0, _, _, Nat.zero_le _, rfl, rfl, rfl, H3.out, rfl⟩
  case round =>
    obtain ⟨j, av, bv, hj, rfl, e2, e3, hro, hf⟩ := hrel
    subst e2 e3
    have HT : Hid (RO w0 wr av bv (wsF l (l.take j)) (isF l (l.take j))) := hro
    by_cases hjl : j < l.length
    · obtain ⟨x, hx, hd⟩ := drop_at hjl
      rw [hd, failC] at hf
      obtain ⟨y0, y1, y2, y3, y4, y5⟩ := cr_at (fun q u hq => below_cell hro.fb.bel (HV.out.2.2.1 q u hq)) hx
      have hxo := HV.out.2.1 x (List.mem_of_getElem? hx)
      have HX : Hid (l[j]? = some x ∧ (if (worstM l x).2.2 = true then failC l (l.drop (j + 1)) (j + 1) else (j : Int)) = failC l l 0) := ⟨hx, hf⟩
      have hts : (l.take (j + 1)) = l.take j ++ [x] := by rw [List.take_add_one, hx]; rfl
      have HTS : Hid (wsF l (l.take (j + 1)) = wsF l (l.take j) ++ [(worstM l x).1] ∧ isF l (l.take (j + 1)) = isF l (l.take j) ++ [(worstM l x).2.1] ∧ (wsF l (l.take j)).length = j ∧ (isF l (l.take j)).length = j) := ⟨by rw [hts]; simp [wsF], by rw [hts]; simp [isF], by simp [wsF]; omega, by simp [isF]; omega⟩
      clear hf hx hd hts
      obtain ⟨xc, xh, xt, xd, xi, xp⟩ := x
      have hxd : 0 ≤ xd ∧ xd ≤ 10000 := by
        obtain ⟨k1, k2, k3, k4, k5, k6, k7⟩ := hxo
        dsimp only at k1 k2 k3 k4 k5 k6 k7
        exact ⟨by omega, by omega⟩
      dsimp only at y0 y1 y2 y3 y4 y5
      have HT0 := heap_alloc_new wr (.cells #[.int .i64 xc, .int .i64 xh, .int .i64 xt, .int .i64 xd, .bool xi, .int .i64 xp] 27)
      have HA : Hid (RO w0 (wr.alloc (.cells #[.int .i64 xc, .int .i64 xh, .int .i64 xt, .int .i64 xd, .bool xi, .int .i64 xp] 27)) av bv (wsF l (l.take j)) (isF l (l.take j)) ∧ (wr.alloc (.cells #[.int .i64 xc, .int .i64 xh, .int .i64 xt, .int .i64 xd, .bool xi, .int .i64 xp] 27)).heap[wr.heap.size]? = some (.cells #[.int .i64 xc, .int .i64 xh, .int .i64 xt, .int .i64 xd, .bool xi, .int .i64 xp] 27 (0, 0))) := ⟨hro.grow (below_new _ _), HT0⟩
      have HL1 := least1_any (wr.alloc (.cells #[.int .i64 xc, .int .i64 xh, .int .i64 xt, .int .i64 xd, .bool xi, .int .i64 xp] 27)) l _ ⟨xc, xh, xt, xd, xi, xp⟩ wr.heap.size gl xd hl8 HV.out.2.1 hxo (HV.out.1.below HA.out.1.fb.bel) HT0 (below_cell HA.out.1.fb.bel HV.out.2.2.2.2) hxd
      dsimp only at HL1
      obtain ⟨wv, hwv⟩ : ∃ wv, wOf (fun z => xc + aheadF (upC z) xp l) 0 xd = wv := ⟨_, rfl⟩
      have hwr : 0 ≤ wv ∧ wv ≤ 10000 := by
        have := wOf_range (ask := fun z => xc + aheadF (upC z) xp l) (jj := 0) (d := xd) (by omega) hxd.1
        rw [hwv] at this
        omega
      rw [hwv] at HL1
      have HWV : Hid (wellF l ⟨xc, xh, xt, xd, xi, xp⟩ = wv) := hwv
      clear hwv hro HT0
      have b0 := below_cell HT.out.fb.bel HV.out.2.2.2.2
      have hji : (j : Int) < (l.length : Int) := by omega
      go_upto_region 8 with (go_at_call 17; refine HL1.mono ?_; rintro r w5 ⟨rfl, hb5⟩; have H5 : Hid (Below (wr.alloc (.cells #[.int .i64 xc, .int .i64 xh, .int .i64 xt, .int .i64 xd, .bool xi, .int .i64 xp] 27)).heap.size (wr.alloc (.cells #[.int .i64 xc, .int .i64 xh, .int .i64 xt, .int .i64 xd, .bool xi, .int .i64 xp] 27)) (w5.alloc (.cells #[.int .i64 wv] 3))) := below_seq hb5 (below_new _ _); clear hb5 HL1)
      have H6 : RO w0 (w5.alloc (.cells #[.int .i64 wv] 3)) av bv (wsF l (l.take j)) (isF l (l.take j)) := HA.out.1.grow H5.out
      have HT6 : Hid ((w5.alloc (.cells #[.int .i64 wv] 3)).heap[wr.heap.size]? = some (.cells #[.int .i64 xc, .int .i64 xh, .int .i64 xt, .int .i64 xd, .bool xi, .int .i64 xp] 27 (0, 0))) := (H5.out.block _ (Array.getElem?_eq_some_iff.1 HA.out.2).1).trans HA.out.2
      have o0 := (cells_of (l := [_]) (heap_alloc_new w5 (.cells #[.int .i64 wv] 3))).1 0 _ rfl
      have t3 := (cells_of (l := [_, _, _, _, _, _]) HT6.out).1 3 _ rfl
      have t4 := (cells_of (l := [_, _, _, _, _, _]) HT6.out).1 4 _ rfl
      clear y0 y1 y2 y3 y4 y5 HA H5 b0 HT
      generalize (w5.alloc (.cells #[.int .i64 wv] 3)) = w6 at *
      generalize w5.heap.size = gw at *
      generalize wr.heap.size = gt at *
      cases xi with
      | false =>
        have HR : Hid (RO w0 w6 av bv (wsF l (l.take j)) (isF l (l.take j))) := H6
        clear H6
        by_cases hw : wv = 0
        · subst hw
          have hwm : worstM l ⟨xc, xh, xt, xd, false, xp⟩ = (0, 0, false) := by unfold worstM; rw [if_pos HWV.out]
          have HF : Hid ((j : Int) = failC l l 0) := by
            have e := HX.out.2
            rw [hwm] at e
            show (j : Int) = failC l l 0
            simpa using e
          clear hwm
          have hb0 : ((0 : Int) == 0) = true := rfl
          go_upto_region 12 with fail
          go_wp2_with (go_at_call 21; refine (F_any _ _ _).mono ?_; rintro r w9 ⟨rfl, hb9⟩; have H9 : Hid (FB w0 w9 G) := (by have h := HR.out.fb.grow hb9; rw [hs] at h; exact h); obtain ⟨qs, qf, ql⟩ := cells_of (l := [_, _]) H9.out.res; have q0 := qs 0 _ rfl; have q1 := qs 1 _ rfl; have qf0 := qf 0; have qf1 := qf 1; clear qs qf hb9)
          refine bodyPost_ret (Two_ends (g := G) (c := .int .i64 13) (k := .int .i64 (j : Int)) (u := .slice none 0 0) (v := .slice none 0 0) (set_two H9.out.res) rfl rfl rfl) rfl ?_
          exact ⟨[], [], _, _, 13, (j : Int), .inr ⟨HV.out.2.2.2.1, .inl ⟨by have := HF.out; omega, rfl, rfl, rfl, HF.out⟩⟩, rfl, S8.nums_nil _ _, S8.nums_nil _ _, (fun q e => by cases e), H9.out.set _ _⟩
        · have hwb : (wv == 0) = false := by simpa using hw
          have hwm : worstM l ⟨xc, xh, xt, xd, false, xp⟩ = (wv, 0, true) := by unfold worstM; rw [if_neg (by rw [HWV.out]; exact hw), if_pos rfl, HWV.out]
          have HF : Hid (failC l (l.drop (j + 1)) (j + 1) = failC l l 0) := by
            have e := HX.out.2
            rw [hwm] at e
            show failC l (l.drop (j + 1)) (j + 1) = failC l l 0
            simpa using e
          have HT1 : Hid (wsF l (l.take (j + 1)) = wsF l (l.take j) ++ [wv]) := by
            have e := HTS.out.1
            rw [hwm] at e
            exact e
          have HT2 : Hid (isF l (l.take (j + 1)) = isF l (l.take j) ++ [0]) := by
            have e := HTS.out.2.1
            rw [hwm] at e
            exact e
          clear hwm
          go_upto_region 13 with fail
          obtain ⟨a6, c6, w6', hr6, ho6⟩ := HR.out.push1 wv (by have := HTS.out.2.2.1; omega)
          obtain ⟨a7, c7, w7', hr7, ho7⟩ := ho6.push2 0 (by have := HTS.out.2.2.2; omega)
          rw [← HT1.out, ← HT2.out] at ho7
          have H7 : Hid (RO w0 w7' _ _ (wsF l (l.take (j + 1))) (isF l (l.take (j + 1)))) := ho7
          clear ho6 ho7
          go_wp2_with (first | (at_builtin; refine append_knownM rfl (.tmp 49) (.tmp 51) 28 rfl rfl rfl hr7 ?_) | (at_builtin; refine append_knownM rfl (.tmp 45) (.tmp 47) 28 rfl rfl rfl hr6 ?_))
          exact ⟨⟨j + 1, _, _, by omega, by simp, rfl, rfl, H7.out, HF.out⟩, by simp [intOf]; omega⟩
      | true =>
        have HL2 := least2_any w6 l _ ⟨xc, xh, xt, xd, true, xp⟩ gt gl xd gw wv o0 hwr hl8 HV.out.2.1 hxo (HV.out.1.below H6.fb.bel) HT6.out (below_cell H6.fb.bel HV.out.2.2.2.2) hxd
        dsimp only at HL2
        obtain ⟨iv, hiv⟩ : ∃ iv, wOf (fun z => xh + aheadF (upI wv z) xp l) 0 xd = iv := ⟨_, rfl⟩
        rw [hiv] at HL2
        have HIV : Hid (illF l ⟨xc, xh, xt, xd, true, xp⟩ = iv) := by
          have e : illF l ⟨xc, xh, xt, xd, true, xp⟩ = wOf (fun z => xh + aheadF (upI (wellF l ⟨xc, xh, xt, xd, true, xp⟩) z) xp l) 0 xd := rfl
          rw [HWV.out, hiv] at e
          exact e
        have HR6 : Hid (RO w0 w6 av bv (wsF l (l.take j)) (isF l (l.take j))) := H6
        clear H6 hiv
        go_upto_region 11 with (go_at_call 17; refine HL2.mono ?_; rintro r w8 ⟨rfl, hb8⟩; have HR : Hid (RO w0 w8 av bv (wsF l (l.take j)) (isF l (l.take j))) := HR6.out.grow hb8; have o0' := below_cell hb8 o0; have t4' := below_cell hb8 t4; clear hb8 HL2)
        clear o0 t3 t4
        by_cases hw : wv = 0
        · subst hw
          have hwm : worstM l ⟨xc, xh, xt, xd, true, xp⟩ = (0, 0, false) := by unfold worstM; rw [if_pos HWV.out]
          have HF : Hid ((j : Int) = failC l l 0) := by
            have e := HX.out.2
            rw [hwm] at e
            show (j : Int) = failC l l 0
            simpa using e
          clear hwm
          have hb0 : ((0 : Int) == 0) = true := rfl
          go_upto_region 12 with fail
          go_wp2_with (go_at_call 21; refine (F_any _ _ _).mono ?_; rintro r w9 ⟨rfl, hb9⟩; have H9 : Hid (FB w0 w9 G) := (by have h := HR.out.fb.grow hb9; rw [hs] at h; exact h); obtain ⟨qs, qf, ql⟩ := cells_of (l := [_, _]) H9.out.res; have q0 := qs 0 _ rfl; have q1 := qs 1 _ rfl; have qf0 := qf 0; have qf1 := qf 1; clear qs qf hb9)
          refine bodyPost_ret (Two_ends (g := G) (c := .int .i64 13) (k := .int .i64 (j : Int)) (u := .slice none 0 0) (v := .slice none 0 0) (set_two H9.out.res) rfl rfl rfl) rfl ?_
          exact ⟨[], [], _, _, 13, (j : Int), .inr ⟨HV.out.2.2.2.1, .inl ⟨by have := HF.out; omega, rfl, rfl, rfl, HF.out⟩⟩, rfl, S8.nums_nil _ _, S8.nums_nil _ _, (fun q e => by cases e), H9.out.set _ _⟩
        · have hwb : (wv == 0) = false := by simpa using hw
          by_cases hi : iv = 0
          · subst hi
            have hwm : worstM l ⟨xc, xh, xt, xd, true, xp⟩ = (wv, 0, false) := by unfold worstM; rw [if_neg (by rw [HWV.out]; exact hw), if_neg (by simp), HWV.out, HIV.out]; rfl
            have HF : Hid ((j : Int) = failC l l 0) := by
              have e := HX.out.2
              rw [hwm] at e
              show (j : Int) = failC l l 0
              simpa using e
            clear hwm
            have hb0 : ((0 : Int) == 0) = true := rfl
            go_upto_region 12 with fail
            go_wp2_with (go_at_call 21; refine (F_any _ _ _).mono ?_; rintro r w9 ⟨rfl, hb9⟩; have H9 : Hid (FB w0 w9 G) := (by have h := HR.out.fb.grow hb9; rw [hs] at h; exact h); obtain ⟨qs, qf, ql⟩ := cells_of (l := [_, _]) H9.out.res; have q0 := qs 0 _ rfl; have q1 := qs 1 _ rfl; have qf0 := qf 0; have qf1 := qf 1; clear qs qf hb9)
            refine bodyPost_ret (Two_ends (g := G) (c := .int .i64 13) (k := .int .i64 (j : Int)) (u := .slice none 0 0) (v := .slice none 0 0) (set_two H9.out.res) rfl rfl rfl) rfl ?_
            exact ⟨[], [], _, _, 13, (j : Int), .inr ⟨HV.out.2.2.2.1, .inl ⟨by have := HF.out; omega, rfl, rfl, rfl, HF.out⟩⟩, rfl, S8.nums_nil _ _, S8.nums_nil _ _, (fun q e => by cases e), H9.out.set _ _⟩
          · have hib : (iv == 0) = false := by simpa using hi
            have hwm : worstM l ⟨xc, xh, xt, xd, true, xp⟩ = (wv, iv, true) := by unfold worstM; rw [if_neg (by rw [HWV.out]; exact hw), if_neg (by simp), HWV.out, HIV.out]; simp [hi]
            have HF : Hid (failC l (l.drop (j + 1)) (j + 1) = failC l l 0) := by
              have e := HX.out.2
              rw [hwm] at e
              show failC l (l.drop (j + 1)) (j + 1) = failC l l 0
              simpa using e
            have HT1 : Hid (wsF l (l.take (j + 1)) = wsF l (l.take j) ++ [wv]) := by
              have e := HTS.out.1
              rw [hwm] at e
              exact e
            have HT2 : Hid (isF l (l.take (j + 1)) = isF l (l.take j) ++ [iv]) := by
              have e := HTS.out.2.1
              rw [hwm] at e
              exact e
            clear hwm
            go_upto_region 13 with fail
            obtain ⟨a6, c6, w6', hr6, ho6⟩ := HR.out.push1 wv (by have := HTS.out.2.2.1; omega)
            obtain ⟨a7, c7, w7', hr7, ho7⟩ := ho6.push2 iv (by have := HTS.out.2.2.2; omega)
            rw [← HT1.out, ← HT2.out] at ho7
            have H7 : Hid (RO w0 w7' _ _ (wsF l (l.take (j + 1))) (isF l (l.take (j + 1)))) := ho7
            clear ho6 ho7
            go_wp2_with (first | (at_builtin; refine append_knownM rfl (.tmp 49) (.tmp 51) 28 rfl rfl rfl hr7 ?_) | (at_builtin; refine append_knownM rfl (.tmp 45) (.tmp 47) 28 rfl rfl rfl hr6 ?_))
            exact ⟨⟨j + 1, _, _, by omega, by simp, rfl, rfl, H7.out, HF.out⟩, by simp [intOf]; omega⟩
    · have hje : j = l.length := by omega
      subst hje
      rw [List.drop_length, failC] at hf
      have HE : Hid ((-1 : Int) = failC l l 0) := hf
      have H9 : Hid (FB w0 wr G) := by
        have h := hro.fb
        rw [hs] at h
        exact h
      obtain ⟨qs, qf, ql⟩ := cells_of (l := [_, _]) H9.out.res
      have q0 := qs 0 _ rfl
      have q1 := qs 1 _ rfl
      have qf0 := qf 0
      have qf1 := qf 1
      clear qs qf hro hf
      go_wp2_with fail
      subst hs
      refine bodyPost_ret (Two_ends (g := w0.heap.size) (c := .int .i64 0) (k := .int .i64 0) (u := _) (v := _) (set_two HT.out.fb.res) rfl rfl rfl) rfl ?_
      exact ⟨wsF l (l.take l.length), isF l (l.take l.length), _, _, 0, 0, .inr ⟨HV.out.2.2.2.1, .inr ⟨HE.out.symm, rfl, rfl, (by rw [List.take_length]), (by rw [List.take_length])⟩⟩, rfl, (HT.out.end2 _ _).1, (HT.out.end2 _ _).2, HT.out.ne, HT.out.fb.set _ _⟩

theorem Two_any (w : World) (l : List Cr) (v : Value) (hv : RowSl Cr.vals w l v) : Calls Tryd.prog 8 #[v] w (RespPost (w.alloc (.cells #[v] 22)) l) := by
  by_cases h0 : (chkC l).1 = 0
  · exact Two_good w l v hv h0
  · exact Two_bad w l v hv h0
end Go.Proofs.YtccoobcggbbciahDoor
