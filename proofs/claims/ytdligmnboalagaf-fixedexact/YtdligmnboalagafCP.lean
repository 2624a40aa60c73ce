import Derived.Test.YtdligmnboalagafCB
import Derived.Test.YtdligmnboalagafJJ
import Derived.Deep.CutRange
import Derived.Test.YtdligmnboalagafXR
namespace Go.Proofs.Ytdligmnboalagaf
open Go.ChangeShapes Go.WideShapes Go.ChangeAt Go.RowKit

theorem infoCo : (Try.prog.info? 49).map (fun i => (i.zero, i.size, i.bytes)) = some (some (.agg #[.int .i64 0, .int .i64 0]), 2, 16) := by kernel_rfl

/-- A fault's block, and a row of comings of one's own. -/
structure CO (w wr : World) (cs : List Co) (cv : Value) : Prop where
  fb : FB w wr w.heap.size
  row : wr.ownsRow (w.heap.size + 1) 49 2 cv cs.length (cs.flatMap Co.vals)

theorem CO.grow {w wr wr' : World} {cs : List Co} {cv : Value} (h : CO w wr cs cv) (hb : Below wr.heap.size wr wr') : CO w wr' cs cv := ⟨h.fb.grow hb, ownsRow_below h.row hb⟩

theorem CO.push {w wr : World} {cs : List Co} {cv : Value} (h : CO w wr cs cv) (x : Co) (hl : cs.length ≤ 5000) :
    ∃ ad c w4, (Builtin.append_ #[23, 23] 23 #[cv, .slice (some ⟨wr.heap.size, 0, none⟩) 1 1]).run Try.prog (wr.alloc (.cells #[.int .i64 x.k, .int .i64 x.a] 49)) = .ok (.slice ad (cs.length + 1) c) w4 ∧ CO w w4 (cs ++ [x]) (.slice ad (cs.length + 1) c) ∧ wr.heap.size < w4.heap.size ∧ ∀ k, k < wr.heap.size → some k ≠ cv.ownBlock → w4.heap[k]? = wr.heap[k]? := by
  obtain ⟨i0, hi0, hz0, hz1, hz2⟩ := info_parts infoCo
  have h1 := h.grow (below_new wr (.cells #[.int .i64 x.k, .int .i64 x.a] 49))
  have hlt := h.fb.lt
  obtain ⟨v4, w4, hrun, ho4, hg4, -, hv4⟩ := run_append_own_at (P := Try.prog) (w := wr.alloc (.cells #[.int .i64 x.k, .int .i64 x.a] 49)) (w.heap.size + 1) 23 23 49 i0 _ 2 16 Try.underlying23 hi0 hz0 hz1 hz2 rfl (by decide) cv cs.length (cs.flatMap Co.vals) h1.row ⟨wr.heap.size, 0, none⟩ 1 1 x.vals rfl (fun j u hj => by rw [Addr.add_lit]; have := (cells_of (l := x.vals) (heap_alloc_new wr (.cells #[.int .i64 x.k, .int .i64 x.a] 49))).1 j u hj; simpa using this) (fun u hu => Co.one hu) (by unfold maxLen; omega) (by omega) (by simp; omega)
  obtain ⟨ad, c, rfl⟩ := owns_value ho4
  have hne : ∀ k, k < w.heap.size + 1 → some k ≠ cv.ownBlock := fun k hk e => by have := (h.row.lt k e.symm).1; omega
  have hold : ∀ k, k < wr.heap.size → some k ≠ cv.ownBlock → w4.heap[k]? = wr.heap[k]? := fun k hk hn => (hg4.block k (by simp; omega) hn).trans (Below.heap_alloc _ _ _ hk)
  have hbel : Below (w.heap.size + 1) wr w4 := ((below_new wr _).mono (by omega)).grown hg4 (by simp; omega) (fun k hk => (h.row.lt k hk).1)
  refine ⟨ad, c, w4, hrun, ⟨⟨h.fb.bel.trans (hbel.mono (by omega)), (hold _ hlt (hne _ (by omega))).trans h.fb.res, h.fb.low⟩, ?_⟩, ?_, hold⟩
  · rw [List.length_append, show (cs ++ [x]).flatMap Co.vals = cs.flatMap Co.vals ++ x.vals by simp]
    exact ho4
  · have := hg4.size
    simp at this
    omega

theorem rowOfC_own {w : World} {B : Nat} {cs : List Co} {v : Value} (h : w.ownsRow B 49 2 v cs.length (cs.flatMap Co.vals)) : RowSl Co.vals w cs v := by
  have h' := h
  obtain ⟨hl, ⟨h1, h2⟩ | ⟨g, cap, cur, he, hb, hg, hr⟩⟩ := h
  · subst h1
    have : cs = [] := by
      cases cs with
      | nil => rfl
      | cons x r => simp_all
    subst this
    exact RowSl.nil _ _
  · subst he
    refine ⟨_, cap, rfl, (fun e => by cases e), by omega, .inr ⟨g, 0, rfl, fun q u hq => ?_⟩⟩
    have hql := (List.getElem?_eq_some_iff.1 hq).1
    rw [flat_length Co.vals 2 Co.len] at hql
    rw [Nat.zero_add]
    exact (h'.cellAt q (by omega)).trans hq

theorem Comes_ends {w : World} {g : Nat} {c k p : Value} {a : Act} (h : w.heap[g]? = some (.cells #[c, k] 29 (0, 0))) (h2 : a.tmps[4]?.getD undef = p) (h3 : a.tmps[5]?.getD undef = .pointer (some ⟨g, 0, none⟩)) :
    (results Try.f16 a.tmps).run Try.prog w = .ok (.tuple #[p, .agg #[c, k]]) w := by
  obtain ⟨c1, f1, l1⟩ := cells_of (l := [_, _]) h
  have c10 := c1 0 _ rfl
  have c11 := c1 1 _ rfl
  subst h2
  simp [results, Try.results16, go_sem, h3, c10, c11]

theorem Comes_nil (w : World) (B : Nat) : w.ownsRow B 49 2 (.slice none 0 0) ([] : List Co).length (([] : List Co).flatMap Co.vals) := ⟨rfl, .inl ⟨rfl, rfl⟩⟩

set_option maxRecDepth 20000 in
set_option maxHeartbeats 4000000 in
theorem Comes_bad (w : World) (l : List Ta) (v : Value) (n : Int) (hv : RowSl Ta.vals w l v) (h0 : (chkF l).1 ≠ 0) : Calls Try.prog 16 #[v, .int .i64 n] w fun r w' => r = .returned (.tuple #[.slice none 0 0, .agg #[.int .i64 (chkF l).1, .int .i64 (chkF l).2]]) ∧ Below w.heap.size w w' := by
  have HC := Check_any (w.alloc (.cells #[.int .i64 0, .int .i64 0] 29)) l v (hv.below (below_new _ _))
  obtain ⟨ad, c, rfl⟩ := hv.len
  generalize (chkF l).1 = z at *
  generalize (chkF l).2 = z2 at *
  have hzb : (z != 0) = true := by simpa using h0
  clear hv
  go_enter Try.func16, Try.ntmps16
  go_wp2_with (go_at_call 33; refine HC.mono ?_; rintro r w1 ⟨rfl, hb1⟩; have H1 : Hid (FB w w1 w.heap.size) := (FB.start w).grow hb1; obtain ⟨rs1, rf1, rl1⟩ := cells_of (l := [_, _]) H1.out.res; have r10 := rs1 0 _ rfl; have r11 := rs1 1 _ rfl; have f10 := rf1 0; have f11 := rf1 1; clear rs1 rf1 hb1 HC)
  go_region
  all_goals go_wp2_with fail
  all_goals
    refine bodyPost_ret (Comes_ends (g := w.heap.size) (c := .int .i64 z) (k := .int .i64 z2) (set_alloc2 H1.out.res) rfl rfl) rfl ?_
    exact ⟨rfl, ((H1.out.set _ _).alloc (by have := (H1.out.set (.int .i64 z) (.int .i64 z2)).size; omega) _).drew⟩

set_option maxRecDepth 20000 in
set_option maxHeartbeats 4000000 in
theorem Comes_range (w : World) (l : List Ta) (v : Value) (n : Int) (hv : RowSl Ta.vals w l v) (h0 : (chkF l).1 = 0) (hn : n < 0 ∨ 20000 < n) : Calls Try.prog 16 #[v, .int .i64 n] w fun r w' => r = .returned (.tuple #[.slice none 0 0, .agg #[.int .i64 3, .int .i64 0]]) ∧ Below w.heap.size w w' := by
  have HC := Check_any (w.alloc (.cells #[.int .i64 0, .int .i64 0] 29)) l v (hv.below (below_new _ _))
  obtain ⟨ad, c, rfl⟩ := hv.len
  rw [h0] at HC
  generalize (chkF l).2 = z2 at *
  have hw : within n 0 20000 = false := by unfold within; simp; omega
  clear hv hn
  go_enter Try.func16, Try.ntmps16
  go_wp2_with (go_at_call 33; refine HC.mono ?_; rintro r w1 ⟨rfl, hb1⟩; have H1 : Hid (FB w w1 w.heap.size) := (FB.start w).grow hb1; obtain ⟨rs1, rf1, rl1⟩ := cells_of (l := [_, _]) H1.out.res; have r10 := rs1 0 _ rfl; have r11 := rs1 1 _ rfl; have f10 := rf1 0; have f11 := rf1 1; clear rs1 rf1 hb1 HC)
  go_wp2_with (go_at_call 26; refine (within_any _ _ _ _).mono ?_; rintro r w2 ⟨rfl, rfl⟩; rw [hw])
  refine bodyPost_ret (Comes_ends (g := w.heap.size) (c := .int .i64 3) (k := .int .i64 0) (set_alloc2 H1.out.res) rfl rfl) rfl ?_
  exact ⟨rfl, (H1.out.set _ _).alloc (by have := (H1.out.set (.int .i64 3) (.int .i64 0)).size; omega) _⟩

theorem hits_end {l : List Ta} {u : Nat} {acc : List Co} (h : acc ++ hitsFrom (u : Int) (l.drop l.length) l.length = comesUpto l (u + 1)) : acc = comesUpto l (u + 1) := by
  rw [List.drop_length, hitsFrom, List.append_nil] at h
  exact h

set_option maxRecDepth 20000 in
set_option maxHeartbeats 4000000 in
theorem Comes_walk (w : World) (l : List Ta) (v : Value) (N : Nat) (hv : RowSl Ta.vals w l v) (h0 : (chkF l).1 = 0) (hN : N ≤ 20000) : Calls Try.prog 16 #[v, .int .i64 (N : Int)] w fun r w' => ∃ u, r = .returned (.tuple #[u, .agg #[.int .i64 (comesF l (N : Int)).1.1, .int .i64 (comesF l (N : Int)).1.2]]) ∧ w'.ownsRow (w.heap.size + 1) 49 2 u (comesF l (N : Int)).2.length ((comesF l (N : Int)).2.flatMap Co.vals) ∧ Below w.heap.size w w' := by
  have HC := Check_any (w.alloc (.cells #[.int .i64 0, .int .i64 0] 29)) l v (hv.below (below_new _ _))
  obtain ⟨h1, h8, hst⟩ := chkF_ok h0
  have hcf : comesF l (N : Int) = if 4000 < (comesUpto l N).length then ((2, 0), []) else ((0, 0), comesUpto l N) := by
    unfold comesF
    rw [if_neg (by simpa using h0), if_neg (by omega), Int.toNat_natCast]
  rw [h0] at HC
  generalize (chkF l).2 = z2 at *
  obtain ⟨ad, c, rfl, -, hcap, hrow⟩ := hv
  rcases hrow with h | ⟨b, o, rfl, hrow⟩
  · rw [h] at h1; simp at h1
  have HR : Hid ((∀ q u, (l.flatMap Ta.vals)[q]? = some u → w.cell? ⟨b, o + q, none⟩ = some u) ∧ (∀ x ∈ l, stands x = true) ∧ comesF l (N : Int) = if 4000 < (comesUpto l N).length then ((2, 0), []) else ((0, 0), comesUpto l N)) := ⟨hrow, hst, hcf⟩
  clear hrow hst hcf h0
  have hw : within (N : Int) 0 20000 = true := by unfold within; simp; omega
  go_enter Try.func16, Try.ntmps16
  go_wp2_with (go_at_call 33; refine HC.mono ?_; rintro r w1 ⟨rfl, hb1⟩; have H1 : Hid (FB w w1 w.heap.size) := (FB.start w).grow hb1; clear hb1 HC)
  go_wp2_with (go_at_call 26; refine (within_any _ _ _ _).mono ?_; rintro r w2 ⟨rfl, rfl⟩; rw [hw])
  have H2 : Hid (CO w (w1.alloc (.cells #[.int .i64 0, .int .i64 z2] 29)) (comesUpto l 0) (.slice none 0 0)) := ⟨H1.out.grow (below_new _ _), Comes_nil _ _⟩
  go_loopw [7, 22] (fun cv i wr => ∃ u : Nat, u ≤ N ∧ i = .int .i64 u ∧ CO w wr (comesUpto l u) cv ∧ (comesUpto l u).length ≤ 4000) (fun _ i _ => N - (intOf i).toNat)
  case atStart => exact ⟨0, Nat.zero_le _, rfl, H2.out, by simp [comesUpto]⟩
  case round =>
    obtain ⟨u, hu, rfl, hg, hle⟩ := hrel
    have HG : Hid (CO w wr (comesUpto l u) u7) := hg
    by_cases hlt : u < N
    · clear hg
      go_wp2_with fail
      go_loopw [7, 27] (fun cv i wl => ∃ (j : Nat) (acc : List Co), j ≤ l.length ∧ i = .int .i64 j ∧ CO w wl acc cv ∧ acc ++ hitsFrom (u : Int) (l.drop j) j = comesUpto l (u + 1) ∧ acc.length ≤ 4000 + j) (fun _ i _ => l.length - (intOf i).toNat)
      case atStart => exact ⟨0, comesUpto l u, Nat.zero_le _, rfl, HG.out, rfl, by omega⟩
      case round =>
        obtain ⟨j, acc, hj, rfl, hg, hac, hal⟩ := hrel
        obtain ⟨cad, cc, rfl⟩ := owns_value hg.row
        by_cases hjl : j < l.length
        · obtain ⟨x, hx, hd⟩ := drop_at hjl
          obtain ⟨y0, y1, y2, y3, y4, y5, y6⟩ := ta_at (fun q u hq => below_cell hg.fb.bel (HR.out.1 q u hq)) hx
          have hst := stands_t (HR.out.2.1 x (List.mem_of_getElem? hx))
          rw [hd, hitsFrom] at hac
          have HA : Hid (CO w wr acc (.slice cad acc.length cc) ∧ (acc ++ if hits x (u : Int) then ⟨(j : Int), (u : Int)⟩ :: hitsFrom (u : Int) (l.drop (j + 1)) (j + 1) else hitsFrom (u : Int) (l.drop (j + 1)) (j + 1)) = comesUpto l (u + 1)) := ⟨hg, hac⟩
          clear hg hac hd
          by_cases q1 : (u : Int) < x.o
          · have e := HA.out.2
            rw [if_neg (fun h : hits x (u : Int) => by have := h.1; omega)] at e
            have HE : Hid (acc ++ hitsFrom (u : Int) (l.drop (j + 1)) (j + 1) = comesUpto l (u + 1)) := e
            clear e
            go_wp2_with fail
            exact ⟨⟨j + 1, acc, by omega, by simp, HA.out.1.grow (below_new _ _), HE.out, by omega⟩, by simp [intOf]; omega⟩
          · by_cases q2 : ((u : Int) - x.o) % x.t = 0
            · have e := HA.out.2
              rw [if_pos (show hits x (u : Int) from ⟨by omega, q2⟩)] at e
              obtain ⟨ad9, c9, w9, hrun, hco9, hsz9, hold9⟩ := (HA.out.1.grow (below_new wr (.cells #[.string x.nm, .int .i64 x.c, .int .i64 x.t, .int .i64 x.d, .int .i64 x.j, .int .i64 x.o, .int .i64 x.p] 45))).push ⟨(j : Int), (u : Int)⟩ (by omega)
              dsimp only at hrun
              rw [show (wr.alloc (.cells #[.string x.nm, .int .i64 x.c, .int .i64 x.t, .int .i64 x.d, .int .i64 x.j, .int .i64 x.o, .int .i64 x.p] 45)).heap.size = wr.heap.size + 1 by simp] at hrun
              have HE : Hid ((acc ++ [⟨(j : Int), (u : Int)⟩]) ++ hitsFrom (u : Int) (l.drop (j + 1)) (j + 1) = comesUpto l (u + 1) ∧ CO w w9 (acc ++ [⟨(j : Int), (u : Int)⟩]) (.slice ad9 (acc.length + 1) c9)) := ⟨by rw [List.append_assoc]; exact e, hco9⟩
              clear e hco9 hsz9 hold9
              go_wp2_with (at_builtin; refine append_known rfl (.tmp 46) (.tmp 50) 23 rfl rfl rfl hrun ?_)
              exact ⟨⟨j + 1, _, by omega, by simp, HE.out.2, HE.out.1, by simp; omega⟩, by simp [intOf]; omega⟩
            · have e := HA.out.2
              rw [if_neg (fun h : hits x (u : Int) => q2 h.2)] at e
              have HE : Hid (acc ++ hitsFrom (u : Int) (l.drop (j + 1)) (j + 1) = comesUpto l (u + 1)) := e
              clear e
              go_wp2_with fail
              exact ⟨⟨j + 1, acc, by omega, by simp, HA.out.1.grow (below_new _ _), HE.out, by omega⟩, by simp [intOf]; omega⟩
        · have hje : j = l.length := by omega
          subst hje
          obtain rfl := hits_end hac
          have HA : Hid (CO w wr (comesUpto l (u + 1)) (.slice cad (comesUpto l (u + 1)).length cc)) := hg
          obtain ⟨rs1, rf1, rl1⟩ := cells_of (l := [_, _]) hg.fb.res
          have r10 := rs1 0 _ rfl
          have r11 := rs1 1 _ rfl
          have f10 := rf1 0
          have f11 := rf1 1
          clear rs1 rf1 hg
          by_cases q4 : 4000 < (comesUpto l (u + 1)).length
          · have q4' : (4000 : Int) < ((comesUpto l (u + 1)).length : Int) := by omega
            have e := HR.out.2.2
            rw [if_pos (by have := comesUpto_mono l (u + 1) (N - (u + 1)); rw [show u + 1 + (N - (u + 1)) = N by omega] at this; omega)] at e
            have HE : Hid (comesF l (N : Int) = ((2, 0), [])) := e
            clear e
            go_wp2_with fail
            refine bodyPost_ret (Comes_ends (g := w.heap.size) (c := .int .i64 2) (k := .int .i64 0) (set_two HA.out.fb.res) rfl rfl) rfl ?_
            rw [HE.out]
            exact ⟨_, rfl, Comes_nil _ _, HA.out.fb.set _ _⟩
          · have q4' : ¬ (4000 : Int) < ((comesUpto l (u + 1)).length : Int) := by omega
            go_wp2_with fail
            exact ⟨⟨u + 1, by omega, by simp, HA.out, by omega⟩, by simp [intOf]; omega⟩
    · have hue : u = N := by omega
      subst hue
      obtain ⟨cad, cc, rfl⟩ := owns_value hg.row
      have e := HR.out.2.2
      rw [if_neg (by omega)] at e
      have HE : Hid (comesF l (u : Int) = ((0, 0), comesUpto l u)) := e
      obtain ⟨rs1, rf1, rl1⟩ := cells_of (l := [_, _]) hg.fb.res
      have r10 := rs1 0 _ rfl
      have r11 := rs1 1 _ rfl
      have f10 := rf1 0
      have f11 := rf1 1
      clear rs1 rf1 hg e
      go_wp2_with fail
      refine bodyPost_ret (Comes_ends (g := w.heap.size) (c := .int .i64 0) (k := .int .i64 0) (p := .slice cad (comesUpto l u).length cc) (set_two HG.out.fb.res) rfl rfl) rfl ?_
      rw [HE.out]
      refine ⟨.slice cad (comesUpto l u).length cc, rfl, ?_, HG.out.fb.set _ _⟩
      refine ownsRow_keep2 HG.out.row (fun q hq => ?_)
      have hq1 := (HG.out.row.lt q hq).1
      rw [Below.heap_setCell _ _ _ _ (by show q ≠ w.heap.size; omega), Below.heap_setCell _ _ _ _ (by show q ≠ w.heap.size; omega)]

/-- tasks.Comes. -/
theorem Comes_any (w : World) (l : List Ta) (v : Value) (n : Int) (hv : RowSl Ta.vals w l v) : Calls Try.prog 16 #[v, .int .i64 n] w fun r w' => ∃ u, r = .returned (.tuple #[u, .agg #[.int .i64 (comesF l n).1.1, .int .i64 (comesF l n).1.2]]) ∧ w'.ownsRow (w.heap.size + 1) 49 2 u (comesF l n).2.length ((comesF l n).2.flatMap Co.vals) ∧ Below w.heap.size w w' := by
  by_cases h0 : (chkF l).1 = 0
  · by_cases hn : n < 0 ∨ 20000 < n
    · have e : comesF l n = ((3, 0), []) := by unfold comesF; rw [if_neg (by simpa using h0), if_pos hn]
      rw [e]
      refine (Comes_range w l v n hv h0 hn).mono ?_
      rintro r w' ⟨rfl, hb⟩
      exact ⟨_, rfl, Comes_nil _ _, hb⟩
    · obtain ⟨N, rfl⟩ : ∃ N : Nat, n = (N : Int) := ⟨n.toNat, by omega⟩
      exact Comes_walk w l v N hv h0 (by omega)
  · have e : comesF l n = (chkF l, []) := by unfold comesF; rw [if_pos h0]
    rw [e]
    refine (Comes_bad w l v n hv h0).mono ?_
    rintro r w' ⟨rfl, hb⟩
    exact ⟨_, rfl, Comes_nil _ _, hb⟩
end Go.Proofs.Ytdligmnboalagaf
