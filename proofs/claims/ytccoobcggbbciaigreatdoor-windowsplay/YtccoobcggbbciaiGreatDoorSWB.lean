import Derived.Test.YtccoobcggbbciaiGreatDoorSWA
import Derived.Test.YtccoobcggbbciaiGreatDoorSRI
import Derived.Test.YtccoobcggbbciaiGreatDoorSPA
import Derived.Test.YtccoobcggbbciaiGreatDoorVF
namespace Go.Proofs.YtccoobcggbbciaiGreatDoor.S8
open Go.ChangeShapes Go.WideShapes Go.ChangeAt Go.RowKit Go.Sort

/-- Two blocks for results. -/
structure TB (w W : World) : Prop where
  bel : Below w.heap.size w W
  r1 : W.heap[w.heap.size]? = some (.cells #[.slice none 0 0, .slice none 0 0] 41 (0, 0))
  r2 : W.heap[w.heap.size + 1]? = some (.cells #[.int .i64 0, .int .i64 0] 30 (0, 0))

theorem TB.start (w : World) : TB w ((w.alloc (.cells #[.slice none 0 0, .slice none 0 0] 41)).alloc (.cells #[.int .i64 0, .int .i64 0] 30)) :=
  ⟨below_seq (below_new _ _) (below_new _ _), (Below.heap_alloc _ _ _ (by simp)).trans (heap_alloc_new _ _), by have := heap_alloc_new (w.alloc (.cells #[.slice none 0 0, .slice none 0 0] 41)) (.cells #[.int .i64 0, .int .i64 0] 30); simpa using this⟩

theorem TB.grow {w W W' : World} (h : TB w W) (hb : Below W.heap.size W W') : TB w W' :=
  ⟨below_seq h.bel hb, (hb.block _ (lt_of_heap h.r1)).trans h.r1, (hb.block _ (lt_of_heap h.r2)).trans h.r2⟩

/-- Both results are laid. -/
theorem TB.put {w W : World} (h : TB w W) (a b c k : Value) : (((((W.setCell ⟨w.heap.size, 0, none⟩ a).setCell ⟨w.heap.size, 1, none⟩ b).setCell ⟨w.heap.size + 1, 0, none⟩ c).setCell ⟨w.heap.size + 1, 1, none⟩ k)).heap[w.heap.size]? = some (.cells #[a, b] 41 (0, 0)) ∧ (((((W.setCell ⟨w.heap.size, 0, none⟩ a).setCell ⟨w.heap.size, 1, none⟩ b).setCell ⟨w.heap.size + 1, 0, none⟩ c).setCell ⟨w.heap.size + 1, 1, none⟩ k)).heap[w.heap.size + 1]? = some (.cells #[c, k] 30 (0, 0)) ∧ Below w.heap.size w (((((W.setCell ⟨w.heap.size, 0, none⟩ a).setCell ⟨w.heap.size, 1, none⟩ b).setCell ⟨w.heap.size + 1, 0, none⟩ c).setCell ⟨w.heap.size + 1, 1, none⟩ k)) ∧ ∀ q, w.heap.size + 1 < q → (((((W.setCell ⟨w.heap.size, 0, none⟩ a).setCell ⟨w.heap.size, 1, none⟩ b).setCell ⟨w.heap.size + 1, 0, none⟩ c).setCell ⟨w.heap.size + 1, 1, none⟩ k)).heap[q]? = W.heap[q]? := by
  have ha : ((W.setCell ⟨w.heap.size, 0, none⟩ a).setCell ⟨w.heap.size, 1, none⟩ b).heap[w.heap.size]? = some (.cells #[a, b] 41 (0, 0)) := by rw [setCell_at (setCell_at h.r1)]; rfl
  have hb : ((W.setCell ⟨w.heap.size, 0, none⟩ a).setCell ⟨w.heap.size, 1, none⟩ b).heap[w.heap.size + 1]? = some (.cells #[.int .i64 0, .int .i64 0] 30 (0, 0)) := by
    rw [Below.heap_setCell _ _ _ _ (by show w.heap.size + 1 ≠ w.heap.size; omega), Below.heap_setCell _ _ _ _ (by show w.heap.size + 1 ≠ w.heap.size; omega)]
    exact h.r2
  refine ⟨?_, ?_, (((h.bel.setCell (show w.heap.size ≤ w.heap.size by omega) _).setCell (show w.heap.size ≤ w.heap.size by omega) _).setCell (show w.heap.size ≤ w.heap.size + 1 by omega) _).setCell (show w.heap.size ≤ w.heap.size + 1 by omega) _, fun q hq => ?_⟩
  · rw [Below.heap_setCell _ _ _ _ (by show w.heap.size ≠ w.heap.size + 1; omega), Below.heap_setCell _ _ _ _ (by show w.heap.size ≠ w.heap.size + 1; omega)]
    exact ha
  · rw [setCell_at (setCell_at hb)]; rfl
  · rw [Below.heap_setCell _ _ _ _ (by show q ≠ w.heap.size + 1; omega), Below.heap_setCell _ _ _ _ (by show q ≠ w.heap.size + 1; omega), Below.heap_setCell _ _ _ _ (by show q ≠ w.heap.size; omega), Below.heap_setCell _ _ _ _ (by show q ≠ w.heap.size; omega)]


theorem Hosted_ends {w : World} {g1 g2 : Nat} {a b c k : Value} {ac : Act} (h : w.heap[g1]? = some (.cells #[a, b] 41 (0, 0))) (h' : w.heap[g2]? = some (.cells #[c, k] 30 (0, 0))) (h2 : ac.tmps[8]?.getD undef = .pointer (some ⟨g1, 0, none⟩)) (h3 : ac.tmps[9]?.getD undef = .pointer (some ⟨g2, 0, none⟩)) :
    (results Tryz.f25 ac.tmps).run Tryz.prog w = .ok (.tuple #[.agg #[a, b], .agg #[c, k]]) w := by
  obtain ⟨c1, f1, l1⟩ := cells_of (l := [_, _]) h
  have c10 := c1 0 _ rfl
  have c11 := c1 1 _ rfl
  obtain ⟨d1, f2, l2⟩ := cells_of (l := [_, _]) h'
  have d10 := d1 0 _ rfl
  have d11 := d1 1 _ rfl
  simp [results, Tryz.results25, go_sem, h2, h3, c10, c11, d10, d11]


theorem frmF_ok {n : Int} {l : List Wi} (h : (frmF n l).1 = 0) : (1 ≤ n ∧ n ≤ 10000) ∧ l.length ≤ 20 ∧ _root_.Go.Proofs.YtccoobcggbbciaiGreatDoor.Srt n 0 l := by
  obtain ⟨a, b, c, -⟩ := frmF_good (n := n) (l := l) (z := (frmF n l).2) (by rw [← h])
  exact ⟨a, b, c⟩

/-- Is a core there in tick t? -/
def opW (n : Int) (wl : List Wi) (t : Nat) : Bool := thr n wl (t : Int)

/-- What was played, as it lies. -/
def OutO (w W : World) (l : List Jb) (op : Nat → Bool) (n : Nat) (v1 v2 : Value) : Prop := (∃ s rb eb, PlaysO l op n s ∧ v1 = .slice (some ⟨rb, 0, none⟩) n n ∧ v2 = .slice (some ⟨eb, 0, none⟩) l.length l.length ∧ W.heap[eb]? = some (.cells (s.ends.map (Value.int .i64)).toArray 3 (0, 0)) ∧ w.heap.size ≤ eb ∧ W.heap[rb]? = some (.cells (s.runs.map (Value.int .i64)).toArray 3 (0, 0)) ∧ w.heap.size ≤ rb ∧ rb ≠ eb) ∧ Below w.heap.size w W

set_option maxRecDepth 20000 in
set_option maxHeartbeats 2000000 in
theorem Hosted_bad (w : World) (l : List Jb) (wl : List Wi) (n u : Int) (v vw : Value) (hv : RowSl Jb.vals w l v) (hvw : RowSl Wi.vals w wl vw) (h0 : (frmF n wl).1 ≠ 0) :
    Calls Tryz.prog 25 #[v, .int .i64 n, vw, .int .i64 u] w fun r W => r = .returned (.tuple #[.agg #[.slice none 0 0, .slice none 0 0], .agg #[.int .i64 (frmF n wl).1, .int .i64 (frmF n wl).2]]) ∧ Below w.heap.size w W := by
  obtain ⟨ad, c, rfl⟩ := hv.len
  obtain ⟨ad1, c1, rfl⟩ := hvw.len
  have HC := Frame_any ((w.alloc (.cells #[.slice none 0 0, .slice none 0 0] 41)).alloc (.cells #[.int .i64 0, .int .i64 0] 30)) n wl _ (hvw.below (TB.start w).bel)
  clear hv hvw
  generalize (frmF n wl).1 = z1 at *
  generalize (frmF n wl).2 = z2 at *
  have hz : (z1 != 0) = true := by simpa using h0
  clear h0
  go_enter Tryz.func25, Tryz.ntmps25
  go_upto_region 3 with (go_at_call 42; refine HC.mono ?_; rintro r w1 ⟨rfl, hb1⟩; have H1 : Hid (TB w (w1.alloc (.cells #[.int .i64 z1, .int .i64 z2] 30))) := ((TB.start w).grow hb1).grow (below_new _ _); have hl1 : w.heap.size < w1.heap.size := lt_of_heap ((TB.start w).grow hb1).r1; have hl2 : w.heap.size + 1 < w1.heap.size := lt_of_heap ((TB.start w).grow hb1).r2; clear hb1 HC)
  obtain ⟨fs, -, fl⟩ := cells_of (l := [_, _]) (heap_alloc_new w1 (.cells #[.int .i64 z1, .int .i64 z2] 30))
  have g0 := fs 0 _ rfl
  have g1 := fs 1 _ rfl
  clear fs
  generalize w1.alloc (.cells #[.int .i64 z1, .int .i64 z2] 30) = w2 at *
  obtain ⟨qs, qf, ql⟩ := cells_of (l := [_, _]) H1.out.r1
  have q0 := qs 0 _ rfl
  have q1 := qs 1 _ rfl
  have qf0 := qf 0
  have qf1 := qf 1
  obtain ⟨rs, rf, rl⟩ := cells_of (l := [_, _]) H1.out.r2
  have r0 := rs 0 _ rfl
  have r1 := rs 1 _ rfl
  have rf0 := rf 0
  have rf1 := rf 1
  clear qs qf rs rf
  go_region
  all_goals go_wp2_with fail
  all_goals
    have hx := H1.out.put (.slice none 0 0) (.slice none 0 0) (.int .i64 z1) (.int .i64 z2)
    refine bodyPost_ret (Hosted_ends (g1 := w.heap.size) (g2 := w.heap.size + 1) (a := .slice none 0 0) (b := .slice none 0 0) (c := .int .i64 z1) (k := .int .i64 z2) hx.1 hx.2.1 rfl rfl) rfl ?_
    exact ⟨rfl, hx.2.2.1.drew⟩

set_option maxRecDepth 20000 in
set_option maxHeartbeats 2000000 in
theorem Hosted_good (w : World) (l : List Jb) (wl : List Wi) (n : Int) (u : Nat) (v vw : Value) (hv : RowSl Jb.vals w l v) (hvw : RowSl Wi.vals w wl vw) (h0 : (frmF n wl).1 = 0) (hj : (chkJ l).1 = 0) (hu : u ≤ 20000) :
    Calls Tryz.prog 25 #[v, .int .i64 n, vw, .int .i64 (u : Int)] w fun r W => ∃ v1 v2, r = .returned (.tuple #[.agg #[v1, v2], .agg #[.int .i64 0, .int .i64 0]]) ∧ OutO w W l (opW n wl) u v1 v2 := by
  obtain ⟨ad, c, rfl⟩ := hv.len
  obtain ⟨ad1, c1, rfl⟩ := hvw.len
  have HV : Hid (RowSl Jb.vals w l (.slice ad l.length c) ∧ RowSl Wi.vals w wl (.slice ad1 wl.length c1) ∧ (frmF n wl).1 = 0 ∧ (chkJ l).1 = 0) := ⟨hv, hvw, h0, hj⟩
  have HC := Frame_any ((w.alloc (.cells #[.slice none 0 0, .slice none 0 0] 41)).alloc (.cells #[.int .i64 0, .int .i64 0] 30)) n wl _ (hvw.below (TB.start w).bel)
  rw [h0] at HC
  generalize (frmF n wl).2 = z2 at *
  have hwi : wthin (u : Int) 0 20000 = true := by simp [wthin]; omega
  clear hv hvw h0 hj
  obtain ⟨z4, hz4⟩ : ∃ z4, (chkJ l).2 = z4 := ⟨_, rfl⟩
  have HJ : Hid ((chkJ l).1 = 0 ∧ (chkJ l).2 = z4) := ⟨HV.out.2.2.2, hz4⟩
  clear hz4
  go_enter Tryz.func25, Tryz.ntmps25
  go_upto_region 2 with (go_at_call 42; refine HC.mono ?_; rintro r w1 ⟨rfl, hb1⟩; have H1 : Hid (TB w (w1.alloc (.cells #[.int .i64 0, .int .i64 z2] 30))) := ((TB.start w).grow hb1).grow (below_new _ _); clear hb1 HC)
  obtain ⟨fs, -, fl⟩ := cells_of (l := [_, _]) (heap_alloc_new w1 (.cells #[.int .i64 0, .int .i64 z2] 30))
  have g0 := fs 0 _ rfl
  clear fs
  generalize w1.alloc (.cells #[.int .i64 0, .int .i64 z2] 30) = w2 at *
  have HC2 := Check_any w2 l _ (HV.out.1.below H1.out.bel)
  rw [HJ.out.1, HJ.out.2] at HC2
  go_upto_region 5 with (go_at_call 54; refine HC2.mono ?_; rintro r w3 ⟨rfl, hb3⟩; have H3 : Hid (TB w (w3.alloc (.cells #[.int .i64 0, .int .i64 z4] 30))) := (H1.out.grow hb3).grow (below_new _ _); clear hb3 HC2)
  obtain ⟨fs, -, fl2⟩ := cells_of (l := [_, _]) (heap_alloc_new w3 (.cells #[.int .i64 0, .int .i64 z4] 30))
  have g1 := fs 0 _ rfl
  clear fs H1 HJ g0 fl
  generalize w3.alloc (.cells #[.int .i64 0, .int .i64 z4] 30) = w4 at *
  go_upto_region 9 with (go_at_call 55; refine (wthin_any _ _ _ _).mono ?_; rintro r w5 ⟨rfl, hw5⟩; have hw6 := hw5.symm; subst hw6; clear hw5; rw [hwi])
  have HB := By_any w4 1
  have HNw := New_any w4 l _ 1 (.inl rfl) (HV.out.1.below H3.out.bel) (by have := (chkJ_ok HV.out.2.2.2).1; omega)
  rw [if_neg (by decide)] at HB HNw
  go_upto_region 10 with (first | (go_at_call 57; refine HB.mono ?_; rintro r w5 ⟨rfl, hw5⟩; have hw6 := hw5.symm; subst hw6; clear hw5 HB) | (go_at_call 56; refine HNw.mono ?_; rintro r w6 ⟨B, K, Lf, Rn, Rd, C, rk, cm, cv, rfl, hline, hrk, hcm⟩; have H6 : Hid (LineW w4 B K Lf Rn Rd C w6 l rk cm 0 [] (l.map (·.c)) (.slice ad l.length c) (.slice none 0 0) cv ∧ Ranked l 1 rk ∧ Coming l rk cm ∧ TB w w6) := ⟨hline, hrk, hcm, H3.out.grow hline.bel⟩; clear hline hrk hcm HNw))
  have HP := playM_any w4 w6 B K Lf Rn Rd C l rk cm (.slice ad l.length c) (.slice none 0 0) cv u (opW n wl) (.agg #[.int .i64 n, .slice ad1 wl.length c1]) H6.out.1 H6.out.2.1 H6.out.2.2.1 (by have := (chkJ_ok HV.out.2.2.2).1; omega) (chkJ_ok HV.out.2.2.2).2.1 hu (fun W' hb t _ => open_any W' n (t : Int) wl ad1 c1 (frmF_ok HV.out.2.2.1).1 (frmF_ok HV.out.2.2.1).2.1 (frmF_ok HV.out.2.2.1).2.2 (by omega) (HV.out.2.1.below (below_seq H3.out.bel hb)))
  have H6' : Hid (TB w w6) := H6.out.2.2.2
  obtain ⟨qs, qf, ql⟩ := cells_of (l := [_, _]) H6'.out.r1
  clear qs qf
  go_wp2_with (go_at_call 58; refine HP.mono ?_; rintro r w7 ⟨s, rb, eb, hpl, rfl, hrb, heb, hne, hrl, hel, hb7⟩; have H7 : Hid (TB w w7 ∧ PlaysO l (opW n wl) u s ∧ w7.heap[eb]? = some (.cells (s.ends.map (Value.int .i64)).toArray 3 (0, 0)) ∧ w4.heap.size ≤ eb ∧ w.heap.size + 1 < w4.heap.size ∧ w7.heap[rb]? = some (.cells (s.runs.map (Value.int .i64)).toArray 3 (0, 0)) ∧ w4.heap.size ≤ rb ∧ rb ≠ eb) := ⟨H3.out.grow hb7, hpl, heb, hel, lt_of_heap H3.out.r2, hrb, hrl, hne⟩; obtain ⟨qs, qf, ql⟩ := cells_of (l := [_, _]) H7.out.1.r1; have q0 := qs 0 _ rfl; have q1 := qs 1 _ rfl; have qf0 := qf 0; have qf1 := qf 1; obtain ⟨rs, rf, rl⟩ := cells_of (l := [_, _]) H7.out.1.r2; have r0 := rs 0 _ rfl; have r1 := rs 1 _ rfl; have rf0 := rf 0; have rf1 := rf 1; clear qs qf rs rf hpl hrb heb hne hrl hel hb7 HP)
  have hx := H7.out.1.put (.slice (some ⟨rb, 0, none⟩) u u) (.slice (some ⟨eb, 0, none⟩) l.length l.length) (.int .i64 0) (.int .i64 0)
  refine bodyPost_ret (Hosted_ends (g1 := w.heap.size) (g2 := w.heap.size + 1) (a := .slice (some ⟨rb, 0, none⟩) u u) (b := .slice (some ⟨eb, 0, none⟩) l.length l.length) (c := .int .i64 0) (k := .int .i64 0) hx.1 hx.2.1 rfl rfl) rfl ?_
  exact ⟨_, _, rfl, ⟨s, rb, eb, H7.out.2.1, rfl, rfl, (hx.2.2.2 eb (by have := H7.out.2.2.2; omega)).trans H7.out.2.2.1, by have := H7.out.2.2.2; omega, (hx.2.2.2 rb (by have := H7.out.2.2.2; omega)).trans H7.out.2.2.2.2.2.1, by have := H7.out.2.2.2; omega, H7.out.2.2.2.2.2.2.2⟩, hx.2.2.1⟩
end Go.Proofs.YtccoobcggbbciaiGreatDoor.S8
