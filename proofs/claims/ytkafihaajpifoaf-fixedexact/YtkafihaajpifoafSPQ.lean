import Derived.Test.YtkafihaajpifoafSPP
import Derived.Test.YtkafihaajpifoafSRI
namespace Go.Proofs.Ytkafihaajpifoaf.S8
open Go.ChangeShapes Go.WideShapes Go.ChangeAt Go.RowKit

/-- What is wrong with what is to be played. -/
def plE (l : List Jb) (pol n : Int) : Int × Int := if (chkJ l).1 ≠ 0 then chkJ l else if pol ≠ 1 ∧ pol ≠ 2 then (6, 0) else if n < 0 ∨ 20000 < n then (3, 0) else (0, 0)

theorem plE_ok {l : List Jb} {pol n : Int} (h : (plE l pol n).1 = 0) : (chkJ l).1 = 0 ∧ (pol = 1 ∨ pol = 2) ∧ 0 ≤ n ∧ n ≤ 20000 ∧ plE l pol n = (0, 0) := by
  unfold plE at h ⊢
  by_cases h1 : (chkJ l).1 ≠ 0
  · rw [if_pos h1] at h; exact absurd h h1
  · rw [if_neg h1] at h ⊢
    by_cases h2 : pol ≠ 1 ∧ pol ≠ 2
    · rw [if_pos h2] at h; cases h
    · rw [if_neg h2] at h ⊢
      by_cases h3 : n < 0 ∨ 20000 < n
      · rw [if_pos h3] at h; cases h
      · rw [if_neg h3] at h ⊢
        exact ⟨by simpa using h1, by omega, by omega, by omega, rfl⟩

/-- Two blocks for results. -/
structure TB (w W : World) : Prop where
  bel : Below w.heap.size w W
  r1 : W.heap[w.heap.size]? = some (.cells #[.slice none 0 0, .slice none 0 0] 37 (0, 0))
  r2 : W.heap[w.heap.size + 1]? = some (.cells #[.int .i64 0, .int .i64 0] 29 (0, 0))

theorem TB.start (w : World) : TB w ((w.alloc (.cells #[.slice none 0 0, .slice none 0 0] 37)).alloc (.cells #[.int .i64 0, .int .i64 0] 29)) :=
  ⟨below_seq (below_new _ _) (below_new _ _), (Below.heap_alloc _ _ _ (by simp)).trans (heap_alloc_new _ _), by have := heap_alloc_new (w.alloc (.cells #[.slice none 0 0, .slice none 0 0] 37)) (.cells #[.int .i64 0, .int .i64 0] 29); simpa using this⟩

theorem TB.grow {w W W' : World} (h : TB w W) (hb : Below W.heap.size W W') : TB w W' :=
  ⟨below_seq h.bel hb, (hb.block _ (lt_of_heap h.r1)).trans h.r1, (hb.block _ (lt_of_heap h.r2)).trans h.r2⟩

/-- Both results are laid. -/
theorem TB.put {w W : World} (h : TB w W) (a b c k : Value) : (((((W.setCell ⟨w.heap.size, 0, none⟩ a).setCell ⟨w.heap.size, 1, none⟩ b).setCell ⟨w.heap.size + 1, 0, none⟩ c).setCell ⟨w.heap.size + 1, 1, none⟩ k)).heap[w.heap.size]? = some (.cells #[a, b] 37 (0, 0)) ∧ (((((W.setCell ⟨w.heap.size, 0, none⟩ a).setCell ⟨w.heap.size, 1, none⟩ b).setCell ⟨w.heap.size + 1, 0, none⟩ c).setCell ⟨w.heap.size + 1, 1, none⟩ k)).heap[w.heap.size + 1]? = some (.cells #[c, k] 29 (0, 0)) ∧ Below w.heap.size w (((((W.setCell ⟨w.heap.size, 0, none⟩ a).setCell ⟨w.heap.size, 1, none⟩ b).setCell ⟨w.heap.size + 1, 0, none⟩ c).setCell ⟨w.heap.size + 1, 1, none⟩ k)) ∧ ∀ q, w.heap.size + 1 < q → (((((W.setCell ⟨w.heap.size, 0, none⟩ a).setCell ⟨w.heap.size, 1, none⟩ b).setCell ⟨w.heap.size + 1, 0, none⟩ c).setCell ⟨w.heap.size + 1, 1, none⟩ k)).heap[q]? = W.heap[q]? := by
  have ha : ((W.setCell ⟨w.heap.size, 0, none⟩ a).setCell ⟨w.heap.size, 1, none⟩ b).heap[w.heap.size]? = some (.cells #[a, b] 37 (0, 0)) := by rw [setCell_at (setCell_at h.r1)]; rfl
  have hb : ((W.setCell ⟨w.heap.size, 0, none⟩ a).setCell ⟨w.heap.size, 1, none⟩ b).heap[w.heap.size + 1]? = some (.cells #[.int .i64 0, .int .i64 0] 29 (0, 0)) := by
    rw [Below.heap_setCell _ _ _ _ (by show w.heap.size + 1 ≠ w.heap.size; omega), Below.heap_setCell _ _ _ _ (by show w.heap.size + 1 ≠ w.heap.size; omega)]
    exact h.r2
  refine ⟨?_, ?_, (((h.bel.setCell (show w.heap.size ≤ w.heap.size by omega) _).setCell (show w.heap.size ≤ w.heap.size by omega) _).setCell (show w.heap.size ≤ w.heap.size + 1 by omega) _).setCell (show w.heap.size ≤ w.heap.size + 1 by omega) _, fun q hq => ?_⟩
  · rw [Below.heap_setCell _ _ _ _ (by show w.heap.size ≠ w.heap.size + 1; omega), Below.heap_setCell _ _ _ _ (by show w.heap.size ≠ w.heap.size + 1; omega)]
    exact ha
  · rw [setCell_at (setCell_at hb)]; rfl
  · rw [Below.heap_setCell _ _ _ _ (by show q ≠ w.heap.size + 1; omega), Below.heap_setCell _ _ _ _ (by show q ≠ w.heap.size + 1; omega), Below.heap_setCell _ _ _ _ (by show q ≠ w.heap.size; omega), Below.heap_setCell _ _ _ _ (by show q ≠ w.heap.size; omega)]

theorem Play_ends {w : World} {g1 g2 : Nat} {a b c k : Value} {ac : Act} (h : w.heap[g1]? = some (.cells #[a, b] 37 (0, 0))) (h' : w.heap[g2]? = some (.cells #[c, k] 29 (0, 0))) (h2 : ac.tmps[8]?.getD undef = .pointer (some ⟨g1, 0, none⟩)) (h3 : ac.tmps[9]?.getD undef = .pointer (some ⟨g2, 0, none⟩)) :
    (results Try.f12 ac.tmps).run Try.prog w = .ok (.tuple #[.agg #[a, b], .agg #[c, k]]) w := by
  obtain ⟨c1, f1, l1⟩ := cells_of (l := [_, _]) h
  have c10 := c1 0 _ rfl
  have c11 := c1 1 _ rfl
  obtain ⟨d1, f2, l2⟩ := cells_of (l := [_, _]) h'
  have d10 := d1 0 _ rfl
  have d11 := d1 1 _ rfl
  simp [results, Try.results12, go_sem, h2, h3, c10, c11, d10, d11]

/-- What was played, as it lies. -/
structure OutW (w W : World) (l : List Jb) (pol : Int) (pre : Bool) (n : Nat) (v1 v2 : Value) : Prop where
  out : ∃ s rb eb, Plays l pol pre n s ∧ v1 = .slice (some ⟨rb, 0, none⟩) n n ∧ v2 = .slice (some ⟨eb, 0, none⟩) l.length l.length ∧ W.heap[rb]? = some (.cells (s.runs.map (Value.int .i64)).toArray 3 (0, 0)) ∧ W.heap[eb]? = some (.cells (s.ends.map (Value.int .i64)).toArray 3 (0, 0)) ∧ rb ≠ eb ∧ w.heap.size ≤ rb ∧ w.heap.size ≤ eb
  bel : Below w.heap.size w W

set_option maxRecDepth 20000 in
set_option maxHeartbeats 2000000 in
theorem Play_bad (w : World) (l : List Jb) (v : Value) (pol n : Int) (pre : Bool) (hv : RowSl Jb.vals w l v) (h0 : (plE l pol n).1 ≠ 0) :
    Calls Try.prog 12 #[v, .int .i64 pol, .bool pre, .int .i64 n] w fun r W => r = .returned (.tuple #[.agg #[.slice none 0 0, .slice none 0 0], .agg #[.int .i64 (plE l pol n).1, .int .i64 (plE l pol n).2]]) ∧ Below w.heap.size w W := by
  obtain ⟨ad, c, rfl⟩ := hv.len
  have HC := Check_any ((w.alloc (.cells #[.slice none 0 0, .slice none 0 0] 37)).alloc (.cells #[.int .i64 0, .int .i64 0] 29)) l _ (hv.below (TB.start w).bel)
  clear hv
  by_cases h1 : (chkJ l).1 = 0
  · have e : plE l pol n = if pol ≠ 1 ∧ pol ≠ 2 then (6, 0) else if n < 0 ∨ 20000 < n then (3, 0) else (0, 0) := by unfold plE; rw [if_neg (by simpa using h1)]
    rw [e] at h0 ⊢
    rw [h1] at HC
    generalize (chkJ l).2 = z2 at *
    clear e
    by_cases h2 : pol ≠ 1 ∧ pol ≠ 2
    · rw [if_pos h2]
      have b1 : (pol != 1) = true := by simpa using h2.1
      have b2 : (pol != 2) = true := by simpa using h2.2
      clear h2 h0
      go_enter Try.func12, Try.ntmps12
      go_upto_region 2 with (go_at_call 27; refine HC.mono ?_; rintro r w1 ⟨rfl, hb1⟩; have H1 : Hid (TB w (w1.alloc (.cells #[.int .i64 0, .int .i64 z2] 29))) := ((TB.start w).grow hb1).grow (below_new _ _); clear hb1 HC)
      obtain ⟨fs, -, -⟩ := cells_of (l := [_, _]) (heap_alloc_new w1 (.cells #[.int .i64 0, .int .i64 z2] 29))
      have g0 := fs 0 _ rfl
      clear fs
      generalize w1.alloc (.cells #[.int .i64 0, .int .i64 z2] 29) = w2 at *
      obtain ⟨qs, qf, ql⟩ := cells_of (l := [_, _]) H1.out.r1
      have q0 := qs 0 _ rfl
      have q1 := qs 1 _ rfl
      have qf0 := qf 0
      have qf1 := qf 1
      obtain ⟨rs, rf, rl⟩ := cells_of (l := [_, _]) H1.out.r2
      have r0 := rs 0 _ rfl
      have r1 := rs 1 _ rfl
      have rf0 := rf 0
      have rf1 := rf 1
      clear qs qf rs rf
      go_wp2_with fail
      have hx := H1.out.put (.slice none 0 0) (.slice none 0 0) (.int .i64 6) (.int .i64 0)
      refine bodyPost_ret (Play_ends (g1 := w.heap.size) (g2 := w.heap.size + 1) (a := .slice none 0 0) (b := .slice none 0 0) (c := .int .i64 6) (k := .int .i64 0) hx.1 hx.2.1 rfl rfl) rfl ?_
      exact ⟨rfl, hx.2.2.1⟩
    · rw [if_neg h2] at h0 ⊢
      by_cases h3 : n < 0 ∨ 20000 < n
      · rw [if_pos h3]
        have hw : within n 0 20000 = false := by unfold within; simp; omega
        have hp : (pol != 1) = true ∧ (pol != 2) = false ∨ (pol != 1) = false := by
          by_cases hq : pol = 1
          · right; simp [hq]
          · left; simp; exact ⟨hq, by omega⟩
        clear h2 h0 h3
        go_enter Try.func12, Try.ntmps12
        go_upto_region 2 with (go_at_call 27; refine HC.mono ?_; rintro r w1 ⟨rfl, hb1⟩; have H1 : Hid (TB w (w1.alloc (.cells #[.int .i64 0, .int .i64 z2] 29))) := ((TB.start w).grow hb1).grow (below_new _ _); clear hb1 HC)
        obtain ⟨fs, -, -⟩ := cells_of (l := [_, _]) (heap_alloc_new w1 (.cells #[.int .i64 0, .int .i64 z2] 29))
        have g0 := fs 0 _ rfl
        clear fs
        generalize w1.alloc (.cells #[.int .i64 0, .int .i64 z2] 29) = w2 at *
        obtain ⟨qs, qf, ql⟩ := cells_of (l := [_, _]) H1.out.r1
        have q0 := qs 0 _ rfl
        have q1 := qs 1 _ rfl
        have qf0 := qf 0
        have qf1 := qf 1
        obtain ⟨rs, rf, rl⟩ := cells_of (l := [_, _]) H1.out.r2
        have r0 := rs 0 _ rfl
        have r1 := rs 1 _ rfl
        have rf0 := rf 0
        have rf1 := rf 1
        clear qs qf rs rf
        rcases hp with ⟨b1, b2⟩ | b1
        · go_wp2_with (go_at_call 28; refine (within_any _ _ _ _).mono ?_; rintro r w3 ⟨rfl, rfl⟩; rw [hw])
          have hx := H1.out.put (.slice none 0 0) (.slice none 0 0) (.int .i64 3) (.int .i64 0)
          refine bodyPost_ret (Play_ends (g1 := w.heap.size) (g2 := w.heap.size + 1) (a := .slice none 0 0) (b := .slice none 0 0) (c := .int .i64 3) (k := .int .i64 0) hx.1 hx.2.1 rfl rfl) rfl ?_
          exact ⟨rfl, hx.2.2.1⟩
        · go_wp2_with (go_at_call 28; refine (within_any _ _ _ _).mono ?_; rintro r w3 ⟨rfl, rfl⟩; rw [hw])
          have hx := H1.out.put (.slice none 0 0) (.slice none 0 0) (.int .i64 3) (.int .i64 0)
          refine bodyPost_ret (Play_ends (g1 := w.heap.size) (g2 := w.heap.size + 1) (a := .slice none 0 0) (b := .slice none 0 0) (c := .int .i64 3) (k := .int .i64 0) hx.1 hx.2.1 rfl rfl) rfl ?_
          exact ⟨rfl, hx.2.2.1⟩
      · rw [if_neg h3] at h0
        exact absurd rfl h0
  · have e : plE l pol n = chkJ l := by unfold plE; rw [if_pos h1]
    rw [e]
    generalize (chkJ l).1 = z1 at *
    generalize (chkJ l).2 = z2 at *
    have hz : (z1 != 0) = true := by simpa using h1
    clear e h0 h1
    go_enter Try.func12, Try.ntmps12
    go_upto_region 3 with (go_at_call 27; refine HC.mono ?_; rintro r w1 ⟨rfl, hb1⟩; have H1 : Hid (TB w (w1.alloc (.cells #[.int .i64 z1, .int .i64 z2] 29))) := ((TB.start w).grow hb1).grow (below_new _ _); have hl1 : w.heap.size < w1.heap.size := lt_of_heap ((TB.start w).grow hb1).r1; have hl2 : w.heap.size + 1 < w1.heap.size := lt_of_heap ((TB.start w).grow hb1).r2; clear hb1 HC)
    obtain ⟨fs, -, fl⟩ := cells_of (l := [_, _]) (heap_alloc_new w1 (.cells #[.int .i64 z1, .int .i64 z2] 29))
    have g0 := fs 0 _ rfl
    have g1 := fs 1 _ rfl
    clear fs
    generalize w1.alloc (.cells #[.int .i64 z1, .int .i64 z2] 29) = w2 at *
    obtain ⟨qs, qf, ql⟩ := cells_of (l := [_, _]) H1.out.r1
    have q0 := qs 0 _ rfl
    have q1 := qs 1 _ rfl
    have qf0 := qf 0
    have qf1 := qf 1
    obtain ⟨rs, rf, rl⟩ := cells_of (l := [_, _]) H1.out.r2
    have r0 := rs 0 _ rfl
    have r1 := rs 1 _ rfl
    have rf0 := rf 0
    have rf1 := rf 1
    clear qs qf rs rf
    go_region
    all_goals go_wp2_with fail
    all_goals
      have hx := H1.out.put (.slice none 0 0) (.slice none 0 0) (.int .i64 z1) (.int .i64 z2)
      refine bodyPost_ret (Play_ends (g1 := w.heap.size) (g2 := w.heap.size + 1) (a := .slice none 0 0) (b := .slice none 0 0) (c := .int .i64 z1) (k := .int .i64 z2) hx.1 hx.2.1 rfl rfl) rfl ?_
      exact ⟨rfl, hx.2.2.1.drew⟩

set_option maxRecDepth 20000 in
set_option maxHeartbeats 2000000 in
theorem Play_good (w : World) (l : List Jb) (v : Value) (pol : Int) (n : Nat) (pre : Bool) (hv : RowSl Jb.vals w l v) (h0 : (plE l pol (n : Int)).1 = 0) :
    Calls Try.prog 12 #[v, .int .i64 pol, .bool pre, .int .i64 (n : Int)] w fun r W => ∃ v1 v2, r = .returned (.tuple #[.agg #[v1, v2], .agg #[.int .i64 0, .int .i64 0]]) ∧ OutW w W l pol pre n v1 v2 := by
  obtain ⟨hck, hpp, hn0, hn1, -⟩ := plE_ok h0
  obtain ⟨hcl, hcok, hce⟩ := chkJ_ok hck
  have HC := Check_any ((w.alloc (.cells #[.slice none 0 0, .slice none 0 0] 37)).alloc (.cells #[.int .i64 0, .int .i64 0] 29)) l v (hv.below (TB.start w).bel)
  rw [hce] at HC
  dsimp only at HC
  obtain ⟨ad, c, rfl⟩ := hv.len
  have HV : Hid (RowSl Jb.vals w l (.slice ad l.length c) ∧ (∀ x ∈ l, okJ x)) := ⟨hv, hcok⟩
  have hw : within (n : Int) 0 20000 = true := by unfold within; simp; omega
  have hp : (pol != 1) = true ∧ (pol != 2) = false ∨ (pol != 1) = false := by
    rcases hpp with rfl | rfl
    · right; rfl
    · left; exact ⟨rfl, rfl⟩
  have HP : Hid (pol = 1 ∨ pol = 2) := hpp
  clear hv hcok hck hce h0 hpp
  go_enter Try.func12, Try.ntmps12
  go_upto_region 2 with (go_at_call 27; refine HC.mono ?_; rintro r w1 ⟨rfl, hb1⟩; have H1 : Hid (TB w (w1.alloc (.cells #[.int .i64 0, .int .i64 0] 29))) := ((TB.start w).grow hb1).grow (below_new _ _); clear hb1 HC)
  obtain ⟨fs, -, -⟩ := cells_of (l := [_, _]) (heap_alloc_new w1 (.cells #[.int .i64 0, .int .i64 0] 29))
  have g0 := fs 0 _ rfl
  clear fs
  generalize w1.alloc (.cells #[.int .i64 0, .int .i64 0] 29) = w2 at *
  have HBy := By_any w2 pol
  have HNw := New_any w2 l _ pol HP.out (HV.out.1.below H1.out.bel) (by omega)
  generalize (if pol = 2 then 60 else 61) = f at *
  rcases hp with ⟨b1, b2⟩ | b1
  · go_wp2_with (first
      | (go_at_call 28; refine (within_any _ _ _ _).mono ?_; rintro r w3 ⟨rfl, hw3⟩; have hw4 := hw3.symm; subst hw4; rw [hw])
      | (go_at_call 31; refine HBy.mono ?_; rintro r w3 ⟨rfl, hw3⟩; have hw4 := hw3.symm; subst hw4)
      | (go_at_call 30; refine HNw.mono ?_; rintro r w4 ⟨B, K, Lf, Rn, Rd, C, rk, cm, cv, rfl, hcw, hrk, hcm⟩; have H4 : Hid (LineW w2 B K Lf Rn Rd C w4 l rk cm 0 [] (l.map (·.c)) (.slice ad l.length c) (.slice none 0 0) cv ∧ Ranked l pol rk ∧ Coming l rk cm) := ⟨hcw, hrk, hcm⟩; clear hcw hrk hcm HNw HBy))
    go_wp2_with (go_at_call 29; refine (play_any w2 w4 B K Lf Rn Rd C l pol rk cm _ _ _ pre n H4.out.1 H4.out.2.1 H4.out.2.2 (by omega) HV.out.2 (by omega)).mono ?_; rintro r w5 ⟨s, rb, eb, hpl, rfl, hrb, heb, hne, lrb, leb, hb5⟩; have H5 : Hid (TB w w5 ∧ Plays l pol pre n s ∧ w5.heap[rb]? = some (.cells (s.runs.map (Value.int .i64)).toArray 3 (0, 0)) ∧ w5.heap[eb]? = some (.cells (s.ends.map (Value.int .i64)).toArray 3 (0, 0)) ∧ rb ≠ eb ∧ w2.heap.size ≤ rb ∧ w2.heap.size ≤ eb) := ⟨H1.out.grow hb5, hpl, hrb, heb, hne, lrb, leb⟩; clear hpl hrb heb hne lrb leb hb5; obtain ⟨qs, qf, ql⟩ := cells_of (l := [_, _]) H5.out.1.r1; have q0 := qs 0 _ rfl; have q1 := qs 1 _ rfl; have qf0 := qf 0; have qf1 := qf 1; obtain ⟨rs, rf, rl⟩ := cells_of (l := [_, _]) H5.out.1.r2; have r0 := rs 0 _ rfl; have r1 := rs 1 _ rfl; have rf0 := rf 0; have rf1 := rf 1; clear qs qf rs rf)
    have hx := H5.out.1.put (.slice (some ⟨rb, 0, none⟩) n n) (.slice (some ⟨eb, 0, none⟩) l.length l.length) (.int .i64 0) (.int .i64 0)
    refine bodyPost_ret (Play_ends (g1 := w.heap.size) (g2 := w.heap.size + 1) (a := .slice (some ⟨rb, 0, none⟩) n n) (b := .slice (some ⟨eb, 0, none⟩) l.length l.length) (c := .int .i64 0) (k := .int .i64 0) hx.1 hx.2.1 rfl rfl) rfl ?_
    have hsz : w.heap.size + 1 < w2.heap.size := lt_of_heap H1.out.r2
    refine ⟨_, _, rfl, ⟨⟨s, rb, eb, H5.out.2.1, rfl, rfl, ?_, ?_, H5.out.2.2.2.2.1, by have := H5.out.2.2.2.2.2.1; omega, by have := H5.out.2.2.2.2.2.2; omega⟩, hx.2.2.1⟩⟩
    · rw [hx.2.2.2 rb (by have := H5.out.2.2.2.2.2.1; omega)]; exact H5.out.2.2.1
    · rw [hx.2.2.2 eb (by have := H5.out.2.2.2.2.2.2; omega)]; exact H5.out.2.2.2.1
  · go_wp2_with (first
      | (go_at_call 28; refine (within_any _ _ _ _).mono ?_; rintro r w3 ⟨rfl, hw3⟩; have hw4 := hw3.symm; subst hw4; rw [hw])
      | (go_at_call 31; refine HBy.mono ?_; rintro r w3 ⟨rfl, hw3⟩; have hw4 := hw3.symm; subst hw4)
      | (go_at_call 30; refine HNw.mono ?_; rintro r w4 ⟨B, K, Lf, Rn, Rd, C, rk, cm, cv, rfl, hcw, hrk, hcm⟩; have H4 : Hid (LineW w2 B K Lf Rn Rd C w4 l rk cm 0 [] (l.map (·.c)) (.slice ad l.length c) (.slice none 0 0) cv ∧ Ranked l pol rk ∧ Coming l rk cm) := ⟨hcw, hrk, hcm⟩; clear hcw hrk hcm HNw HBy))
    go_wp2_with (go_at_call 29; refine (play_any w2 w4 B K Lf Rn Rd C l pol rk cm _ _ _ pre n H4.out.1 H4.out.2.1 H4.out.2.2 (by omega) HV.out.2 (by omega)).mono ?_; rintro r w5 ⟨s, rb, eb, hpl, rfl, hrb, heb, hne, lrb, leb, hb5⟩; have H5 : Hid (TB w w5 ∧ Plays l pol pre n s ∧ w5.heap[rb]? = some (.cells (s.runs.map (Value.int .i64)).toArray 3 (0, 0)) ∧ w5.heap[eb]? = some (.cells (s.ends.map (Value.int .i64)).toArray 3 (0, 0)) ∧ rb ≠ eb ∧ w2.heap.size ≤ rb ∧ w2.heap.size ≤ eb) := ⟨H1.out.grow hb5, hpl, hrb, heb, hne, lrb, leb⟩; clear hpl hrb heb hne lrb leb hb5; obtain ⟨qs, qf, ql⟩ := cells_of (l := [_, _]) H5.out.1.r1; have q0 := qs 0 _ rfl; have q1 := qs 1 _ rfl; have qf0 := qf 0; have qf1 := qf 1; obtain ⟨rs, rf, rl⟩ := cells_of (l := [_, _]) H5.out.1.r2; have r0 := rs 0 _ rfl; have r1 := rs 1 _ rfl; have rf0 := rf 0; have rf1 := rf 1; clear qs qf rs rf)
    have hx := H5.out.1.put (.slice (some ⟨rb, 0, none⟩) n n) (.slice (some ⟨eb, 0, none⟩) l.length l.length) (.int .i64 0) (.int .i64 0)
    refine bodyPost_ret (Play_ends (g1 := w.heap.size) (g2 := w.heap.size + 1) (a := .slice (some ⟨rb, 0, none⟩) n n) (b := .slice (some ⟨eb, 0, none⟩) l.length l.length) (c := .int .i64 0) (k := .int .i64 0) hx.1 hx.2.1 rfl rfl) rfl ?_
    have hsz : w.heap.size + 1 < w2.heap.size := lt_of_heap H1.out.r2
    refine ⟨_, _, rfl, ⟨⟨s, rb, eb, H5.out.2.1, rfl, rfl, ?_, ?_, H5.out.2.2.2.2.1, by have := H5.out.2.2.2.2.2.1; omega, by have := H5.out.2.2.2.2.2.2; omega⟩, hx.2.2.1⟩⟩
    · rw [hx.2.2.2 rb (by have := H5.out.2.2.2.2.2.1; omega)]; exact H5.out.2.2.1
    · rw [hx.2.2.2 eb (by have := H5.out.2.2.2.2.2.2; omega)]; exact H5.out.2.2.2.1
end Go.Proofs.Ytkafihaajpifoaf.S8
