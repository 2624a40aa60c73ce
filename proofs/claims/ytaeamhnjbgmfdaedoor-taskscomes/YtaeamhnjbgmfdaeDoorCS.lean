import Derived.Test.YtaeamhnjbgmfdaeDoorCP
import Derived.Test.YtaeamhnjbgmfdaeDoorTM
namespace Go.Proofs.YtaeamhnjbgmfdaeDoor
open Go.ChangeShapes Go.WideShapes Go.ChangeAt Go.RowKit

theorem Soon_ends {w : World} {g : Nat} {c k p : Value} {a : Act} (h : w.heap[g]? = some (.cells #[c, k] 26 (0, 0))) (h2 : a.tmps[4]?.getD undef = p) (h3 : a.tmps[5]?.getD undef = .pointer (some ⟨g, 0, none⟩)) :
    (results Tryd.f11 a.tmps).run Tryd.prog w = .ok (.tuple #[p, .agg #[c, k]]) w := by
  obtain ⟨c1, f1, l1⟩ := cells_of (l := [_, _]) h
  have c10 := c1 0 _ rfl
  have c11 := c1 1 _ rfl
  subst h2
  simp [results, Tryd.results11, go_sem, h3, c10, c11]

set_option maxRecDepth 20000 in
set_option maxHeartbeats 4000000 in
theorem Soon_bad (w : World) (l : List Ta) (v : Value) (n : Int) (hS : ∀ x ∈ l, x.nm.size ≤ 9223372036854775807) (hv : RowSl Ta.vals w l v) (h0 : (chkF l).1 ≠ 0) : Calls Tryd.prog 11 #[v, .int .i64 n] w fun r w' => r = .returned (.tuple #[.slice none 0 0, .agg #[.int .i64 (chkF l).1, .int .i64 (chkF l).2]]) ∧ Below w.heap.size w w' := by
  have HC := CheckSet_any (w.alloc (.cells #[.int .i64 0, .int .i64 0] 26)) l v hS (hv.below (below_new _ _))
  obtain ⟨ad, c, rfl⟩ := hv.len
  generalize (chkF l).1 = z at *
  generalize (chkF l).2 = z2 at *
  have hzb : (z != 0) = true := by simpa using h0
  clear hv
  go_enter Tryd.func11, Tryd.ntmps11
  go_wp2_with (go_at_call 25; refine HC.mono ?_; rintro r w1 ⟨rfl, hb1⟩; have H1 : Hid (FB w w1 w.heap.size) := (FB.start w).grow hb1; obtain ⟨rs1, rf1, rl1⟩ := cells_of (l := [_, _]) H1.out.res; have r10 := rs1 0 _ rfl; have r11 := rs1 1 _ rfl; have f10 := rf1 0; have f11 := rf1 1; clear rs1 rf1 hb1 HC)
  go_region
  all_goals go_wp2_with fail
  all_goals
    refine bodyPost_ret (Soon_ends (g := w.heap.size) (c := .int .i64 z) (k := .int .i64 z2) (set_alloc2 H1.out.res) rfl rfl) rfl ?_
    exact ⟨rfl, ((H1.out.set _ _).alloc (by have := (H1.out.set (.int .i64 z) (.int .i64 z2)).size; omega) _).drew⟩

set_option maxRecDepth 20000 in
set_option maxHeartbeats 4000000 in
theorem Soon_range (w : World) (l : List Ta) (v : Value) (n : Int) (hS : ∀ x ∈ l, x.nm.size ≤ 9223372036854775807) (hv : RowSl Ta.vals w l v) (h0 : (chkF l).1 = 0) (hn : n < 0 ∨ 20000 < n) : Calls Tryd.prog 11 #[v, .int .i64 n] w fun r w' => r = .returned (.tuple #[.slice none 0 0, .agg #[.int .i64 3, .int .i64 0]]) ∧ Below w.heap.size w w' := by
  have HC := CheckSet_any (w.alloc (.cells #[.int .i64 0, .int .i64 0] 26)) l v hS (hv.below (below_new _ _))
  obtain ⟨ad, c, rfl⟩ := hv.len
  rw [h0] at HC
  generalize (chkF l).2 = z2 at *
  clear hv
  by_cases q1 : n < 0
  · go_enter Tryd.func11, Tryd.ntmps11
    go_wp2_with (go_at_call 25; refine HC.mono ?_; rintro r w1 ⟨rfl, hb1⟩; have H1 : Hid (FB w (w1.alloc (.cells #[.int .i64 0, .int .i64 z2] 26)) w.heap.size) := ((FB.start w).grow hb1).grow (below_new _ _); clear hb1 HC)
    go_wp2_with (go_at_call 26; refine (F_any _ _ _).mono ?_; rintro r w2 ⟨rfl, hb2⟩; have H2 : Hid (FB w w2 w.heap.size) := H1.out.grow hb2; obtain ⟨rs1, rf1, rl1⟩ := cells_of (l := [_, _]) H2.out.res; have r10 := rs1 0 _ rfl; have r11 := rs1 1 _ rfl; have f10 := rf1 0; have f11 := rf1 1; clear rs1 rf1 hb2)
    refine bodyPost_ret (Soon_ends (g := w.heap.size) (c := .int .i64 3) (k := .int .i64 0) (set_two H2.out.res) rfl rfl) rfl ?_
    exact ⟨rfl, H2.out.set _ _⟩
  · have q2 : 20000 < n := by omega
    go_enter Tryd.func11, Tryd.ntmps11
    go_wp2_with (go_at_call 25; refine HC.mono ?_; rintro r w1 ⟨rfl, hb1⟩; have H1 : Hid (FB w (w1.alloc (.cells #[.int .i64 0, .int .i64 z2] 26)) w.heap.size) := ((FB.start w).grow hb1).grow (below_new _ _); clear hb1 HC)
    go_wp2_with (go_at_call 26; refine (F_any _ _ _).mono ?_; rintro r w2 ⟨rfl, hb2⟩; have H2 : Hid (FB w w2 w.heap.size) := H1.out.grow hb2; obtain ⟨rs1, rf1, rl1⟩ := cells_of (l := [_, _]) H2.out.res; have r10 := rs1 0 _ rfl; have r11 := rs1 1 _ rfl; have f10 := rf1 0; have f11 := rf1 1; clear rs1 rf1 hb2)
    refine bodyPost_ret (Soon_ends (g := w.heap.size) (c := .int .i64 3) (k := .int .i64 0) (set_two H2.out.res) rfl rfl) rfl ?_
    exact ⟨rfl, H2.out.set _ _⟩

theorem cnt_range {x : Ta} {u : Int} (h : stands x = true) (hu : u ≤ 20000) : 0 ≤ cnt x u ∧ cnt x u ≤ 40000 := by
  have := stands_t h
  unfold cnt
  split
  · refine ⟨Int.ediv_nonneg (by omega) (by omega), ?_⟩
    have := Int.ediv_le_self x.t (show 0 ≤ u - x.o + x.t - 1 by omega)
    omega
  · omega

set_option maxRecDepth 20000 in
set_option maxHeartbeats 4000000 in
theorem Soon_walk (w : World) (l : List Ta) (v : Value) (N : Nat) (hS : ∀ x ∈ l, x.nm.size ≤ 9223372036854775807) (hv : RowSl Ta.vals w l v) (h0 : (chkF l).1 = 0) (hN : N ≤ 20000) : Calls Tryd.prog 11 #[v, .int .i64 (N : Int)] w fun r w' => ∃ u, r = .returned (.tuple #[u, .agg #[.int .i64 (comesF l (N : Int)).1.1, .int .i64 (comesF l (N : Int)).1.2]]) ∧ w'.ownsRow (w.heap.size + 1) 32 2 u (comesF l (N : Int)).2.length ((comesF l (N : Int)).2.flatMap Co.vals) ∧ Below w.heap.size w w' := by
  have HC := CheckSet_any (w.alloc (.cells #[.int .i64 0, .int .i64 0] 26)) l v hS (hv.below (below_new _ _))
  obtain ⟨h1, h8, hst⟩ := chkF_ok h0
  have hcf : comesF l (N : Int) = if 4000 < (comesUpto l N).length then ((2, 0), []) else ((0, 0), comesUpto l N) := by
    unfold comesF
    rw [if_neg (by simpa using h0), if_neg (by omega), Int.toNat_natCast]
  have hcl := cnts_len hst N
  rw [h0] at HC
  generalize (chkF l).2 = z2 at *
  obtain ⟨ad, c, rfl, -, hcap, hrow⟩ := hv
  rcases hrow with h | ⟨b, o, rfl, hrow⟩
  · rw [h] at h1; simp at h1
  have HR : Hid ((∀ q u, (l.flatMap Ta.vals)[q]? = some u → w.cell? ⟨b, o + q, none⟩ = some u) ∧ (∀ x ∈ l, stands x = true) ∧ (comesF l (N : Int) = if 4000 < (comesUpto l N).length then ((2, 0), []) else ((0, 0), comesUpto l N)) ∧ cnts l (N : Int) = ((comesUpto l N).length : Int)) := ⟨hrow, hst, hcf, hcl⟩
  clear hrow hst hcf h0 hS hcl
  have p1 : ¬ (N : Int) < 0 := by omega
  have p2 : ¬ (20000 : Int) < (N : Int) := by omega
  go_enter Tryd.func11, Tryd.ntmps11
  go_wp2_with (go_at_call 25; refine HC.mono ?_; rintro r w1 ⟨rfl, hb1⟩; have H1 : Hid (FB w (w1.alloc (.cells #[.int .i64 0, .int .i64 z2] 26)) w.heap.size) := ((FB.start w).grow hb1).grow (below_new _ _); clear hb1 HC)
  go_loopw [7, 29] (fun nv i wr => ∃ (j : Nat) (s : Int), j ≤ l.length ∧ i = .int .i64 j ∧ nv = .int .i64 s ∧ 0 ≤ s ∧ s ≤ 40000 * (j : Int) ∧ s + cnts (l.drop j) (N : Int) = cnts l (N : Int) ∧ FB w wr w.heap.size) (fun _ i _ => l.length - (intOf i).toNat)
  case atStart => exact ⟨0, 0, Nat.zero_le _, rfl, rfl, by omega, by omega, by simp, H1.out⟩
  case round =>
    obtain ⟨j, s, hj, rfl, rfl, hs0, hs1, hsc, hg⟩ := hrel
    by_cases hjl : j < l.length
    · obtain ⟨x, hx, hd⟩ := drop_at hjl
      obtain ⟨y0, y1, y2, y3, y4, y5, y6⟩ := ta_at (fun q u hq => below_cell hg.bel (HR.out.1 q u hq)) hx
      have hstx := HR.out.2.1 x (List.mem_of_getElem? hx)
      have hst := stands_t hstx
      have hcr := cnt_range (u := (N : Int)) hstx (by omega)
      rw [hd, cnts] at hsc
      have HA : Hid (FB w wr w.heap.size ∧ s + (cnt x (N : Int) + cnts (l.drop (j + 1)) (N : Int)) = cnts l (N : Int)) := ⟨hg, hsc⟩
      clear hg hsc hd
      by_cases q1 : x.o < (N : Int)
      · have e : cnt x (N : Int) = ((N : Int) - x.o + x.t - 1) / x.t := by unfold cnt; rw [if_pos q1]
        rw [e] at hcr
        have hq := Int.tdiv_eq_ediv_of_nonneg (b := x.t) (show 0 ≤ (N : Int) - x.o + x.t - 1 by omega)
        have HQ : Hid (cnt x (N : Int) = ((N : Int) - x.o + x.t - 1) / x.t) := e
        clear e
        go_wp2_with fail
        exact ⟨⟨j + 1, _, by omega, by simp, rfl, by omega, by omega, by have := HA.out.2; rw [HQ.out] at this; omega, HA.out.1.grow (below_new _ _)⟩, by simp [intOf]; omega⟩
      · have e : cnt x (N : Int) = 0 := by unfold cnt; rw [if_neg q1]
        have HQ : Hid (cnt x (N : Int) = 0) := e
        clear e hcr
        go_wp2_with fail
        exact ⟨⟨j + 1, s, by omega, by simp, rfl, by omega, by omega, by have := HA.out.2; rw [HQ.out] at this; omega, HA.out.1.grow (below_new _ _)⟩, by simp [intOf]; omega⟩
    · have hje : j = l.length := by omega
      subst hje
      rw [List.drop_length, cnts] at hsc
      have hse : s = ((comesUpto l N).length : Int) := by have := HR.out.2.2.2; omega
      subst hse
      have HG : Hid (FB w wr w.heap.size) := hg
      clear hsc hg
      by_cases q4 : 4000 < (comesUpto l N).length
      · have q4' : (4000 : Int) < ((comesUpto l N).length : Int) := by omega
        have e := HR.out.2.2.1
        rw [if_pos q4] at e
        have HE : Hid (comesF l (N : Int) = ((2, 0), [])) := e
        clear e
        go_wp2_with (go_at_call 26; refine (F_any _ _ _).mono ?_; rintro r w2 ⟨rfl, hb2⟩; have H2 : Hid (FB w w2 w.heap.size) := HG.out.grow hb2; obtain ⟨rs1, rf1, rl1⟩ := cells_of (l := [_, _]) H2.out.res; have r10 := rs1 0 _ rfl; have r11 := rs1 1 _ rfl; have f10 := rf1 0; have f11 := rf1 1; clear rs1 rf1 hb2)
        refine bodyPost_ret (Soon_ends (g := w.heap.size) (c := .int .i64 2) (k := .int .i64 0) (set_two H2.out.res) rfl rfl) rfl ?_
        rw [HE.out]
        exact ⟨_, rfl, Comes_nil _ _, H2.out.set _ _⟩
      have q4' : ¬ (4000 : Int) < ((comesUpto l N).length : Int) := by omega
      have H2 : Hid (CO w wr (comesUpto l 0) (.slice none 0 0)) := ⟨HG.out, Comes_nil _ _⟩
      have e := HR.out.2.2.1
      rw [if_neg q4] at e
      have HE0 : Hid (comesF l (N : Int) = ((0, 0), comesUpto l N)) := e
      clear e
      have hmono : ∀ u : Nat, u ≤ N → (comesUpto l u).length ≤ 4000 := fun u hu => by
        have := comesUpto_mono l u (N - u)
        rw [show u + (N - u) = N by omega] at this
        omega
      have HM : Hid (∀ u : Nat, u ≤ N → (comesUpto l u).length ≤ 4000) := hmono
      clear hmono
      go_wp2_with fail
      go_loopw [10, 11] (fun cv i wr => ∃ u : Nat, u ≤ N ∧ i = .int .i64 u ∧ CO w wr (comesUpto l u) cv) (fun _ i _ => N - (intOf i).toNat)
      case atStart => exact ⟨0, Nat.zero_le _, rfl, H2.out⟩
      case round =>
        obtain ⟨u, hu, rfl, hg⟩ := hrel
        have HG2 : Hid (CO w wr (comesUpto l u) u10) := hg
        have hle := HM.out u hu
        by_cases hlt : u < N
        · clear hg
          go_wp2_with fail
          go_loopw [10, 61] (fun cv i wl => ∃ (j : Nat) (acc : List Co), j ≤ l.length ∧ i = .int .i64 j ∧ CO w wl acc cv ∧ acc ++ hitsFrom (u : Int) (l.drop j) j = comesUpto l (u + 1) ∧ acc.length ≤ 4000 + j) (fun _ i _ => l.length - (intOf i).toNat)
          case atStart => exact ⟨0, comesUpto l u, Nat.zero_le _, rfl, HG2.out, rfl, by omega⟩
          case round =>
            obtain ⟨j, acc, hj, rfl, hg, hac, hal⟩ := hrel
            obtain ⟨cad, cc, rfl⟩ := owns_value hg.row
            by_cases hjl : j < l.length
            · obtain ⟨x, hx, hd⟩ := drop_at hjl
              obtain ⟨y0, y1, y2, y3, y4, y5, y6⟩ := ta_at (fun q u hq => below_cell hg.fb.bel (HR.out.1 q u hq)) hx
              have hst := stands_t (HR.out.2.1 x (List.mem_of_getElem? hx))
              rw [hd, hitsFrom] at hac
              have HA : Hid (CO w wr acc (.slice cad acc.length cc) ∧ (acc ++ if hits x (u : Int) then ⟨(j : Int), (u : Int)⟩ :: hitsFrom (u : Int) (l.drop (j + 1)) (j + 1) else hitsFrom (u : Int) (l.drop (j + 1)) (j + 1)) = comesUpto l (u + 1)) := ⟨hg, hac⟩
              clear hg hac hd
              by_cases q1 : (u : Int) < x.o
              · have e := HA.out.2
                rw [if_neg (fun h : hits x (u : Int) => by have := h.1; omega)] at e
                have HE : Hid (acc ++ hitsFrom (u : Int) (l.drop (j + 1)) (j + 1) = comesUpto l (u + 1)) := e
                have q1' : ¬ x.o ≤ (u : Int) := by omega
                clear e
                go_wp2_with fail
                exact ⟨⟨j + 1, acc, by omega, by simp, HA.out.1.grow (below_new _ _), HE.out, by omega⟩, by simp [intOf]; omega⟩
              · have q1' : x.o ≤ (u : Int) := by omega
                by_cases q2 : ((u : Int) - x.o) % x.t = 0
                · have e := HA.out.2
                  rw [if_pos (show hits x (u : Int) from ⟨by omega, q2⟩)] at e
                  obtain ⟨ad9, c9, w9, hrun, hco9, hsz9, hold9⟩ := (HA.out.1.grow (below_new wr (.cells #[.string x.nm, .int .i64 x.c, .int .i64 x.t, .int .i64 x.d, .int .i64 x.j, .int .i64 x.o, .int .i64 x.p] 36))).push ⟨(j : Int), (u : Int)⟩ (by omega)
                  dsimp only at hrun
                  rw [show (wr.alloc (.cells #[.string x.nm, .int .i64 x.c, .int .i64 x.t, .int .i64 x.d, .int .i64 x.j, .int .i64 x.o, .int .i64 x.p] 36)).heap.size = wr.heap.size + 1 by simp] at hrun
                  have HE : Hid ((acc ++ [⟨(j : Int), (u : Int)⟩]) ++ hitsFrom (u : Int) (l.drop (j + 1)) (j + 1) = comesUpto l (u + 1) ∧ CO w w9 (acc ++ [⟨(j : Int), (u : Int)⟩]) (.slice ad9 (acc.length + 1) c9)) := ⟨by rw [List.append_assoc]; exact e, hco9⟩
                  clear e hco9 hsz9 hold9
                  go_wp2_with (at_builtin; refine append_known rfl (.tmp 80) (.tmp 84) 23 rfl rfl rfl hrun ?_)
                  exact ⟨⟨j + 1, _, by omega, by simp, HE.out.2, HE.out.1, by simp; omega⟩, by simp [intOf]; omega⟩
                · have e := HA.out.2
                  rw [if_neg (fun h : hits x (u : Int) => q2 h.2)] at e
                  have HE : Hid (acc ++ hitsFrom (u : Int) (l.drop (j + 1)) (j + 1) = comesUpto l (u + 1)) := e
                  have q2' : (((u : Int) - x.o) % x.t == 0) = false := by simpa using q2
                  clear e
                  go_wp2_with fail
                  exact ⟨⟨j + 1, acc, by omega, by simp, HA.out.1.grow (below_new _ _), HE.out, by omega⟩, by simp [intOf]; omega⟩
            · have hje : j = l.length := by omega
              subst hje
              obtain rfl := hits_end hac
              have HA : Hid (CO w wr (comesUpto l (u + 1)) (.slice cad (comesUpto l (u + 1)).length cc)) := hg
              clear hg
              go_wp2_with fail
              exact ⟨⟨u + 1, by omega, by simp, HA.out⟩, by simp [intOf]; omega⟩
        · have hue : u = N := by omega
          subst hue
          obtain ⟨cad, cc, rfl⟩ := owns_value hg.row
          obtain ⟨rs1, rf1, rl1⟩ := cells_of (l := [_, _]) hg.fb.res
          have r10 := rs1 0 _ rfl
          have r11 := rs1 1 _ rfl
          have f10 := rf1 0
          have f11 := rf1 1
          clear rs1 rf1 hg
          go_wp2_with fail
          refine bodyPost_ret (Soon_ends (g := w.heap.size) (c := .int .i64 0) (k := .int .i64 0) (p := .slice cad (comesUpto l u).length cc) (set_two HG2.out.fb.res) rfl rfl) rfl ?_
          rw [HE0.out]
          refine ⟨.slice cad (comesUpto l u).length cc, rfl, ?_, HG2.out.fb.set _ _⟩
          refine ownsRow_keep2 HG2.out.row (fun q hq => ?_)
          have hq1 := (HG2.out.row.lt q hq).1
          rw [Below.heap_setCell _ _ _ _ (by show q ≠ w.heap.size; omega), Below.heap_setCell _ _ _ _ (by show q ≠ w.heap.size; omega)]

/-- punctualref.Soon. -/
theorem Soon_any (w : World) (l : List Ta) (v : Value) (n : Int) (hS : ∀ x ∈ l, x.nm.size ≤ 9223372036854775807) (hv : RowSl Ta.vals w l v) : Calls Tryd.prog 11 #[v, .int .i64 n] w fun r w' => ∃ u, r = .returned (.tuple #[u, .agg #[.int .i64 (comesF l n).1.1, .int .i64 (comesF l n).1.2]]) ∧ w'.ownsRow (w.heap.size + 1) 32 2 u (comesF l n).2.length ((comesF l n).2.flatMap Co.vals) ∧ Below w.heap.size w w' := by
  by_cases h0 : (chkF l).1 = 0
  · by_cases hn : n < 0 ∨ 20000 < n
    · have e : comesF l n = ((3, 0), []) := by unfold comesF; rw [if_neg (by simpa using h0), if_pos hn]
      rw [e]
      refine (Soon_range w l v n hS hv h0 hn).mono ?_
      rintro r w' ⟨rfl, hb⟩
      exact ⟨_, rfl, Comes_nil _ _, hb⟩
    · obtain ⟨N, rfl⟩ : ∃ N : Nat, n = (N : Int) := ⟨n.toNat, by omega⟩
      exact Soon_walk w l v N hS hv h0 (by omega)
  · have e : comesF l n = (chkF l, []) := by unfold comesF; rw [if_pos h0]
    rw [e]
    refine (Soon_bad w l v n hS hv h0).mono ?_
    rintro r w' ⟨rfl, hb⟩
    exact ⟨_, rfl, Comes_nil _ _, hb⟩
end Go.Proofs.YtaeamhnjbgmfdaeDoor
