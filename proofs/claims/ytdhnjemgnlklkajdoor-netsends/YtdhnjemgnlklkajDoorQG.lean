import Derived.Test.YtdhnjemgnlklkajDoorPQ
import Derived.Test.YtdhnjemgnlklkajDoorQD
import Derived.Test.YtdhnjemgnlklkajDoorQF
namespace Go.Proofs.YtdhnjemgnlklkajDoor
open Go.ChangeShapes Go.WideShapes Go.ChangeAt Go.RowKit

set_option maxRecDepth 20000 in
set_option maxHeartbeats 2000000 in
theorem PlayJobs_bad (w : World) (l : List Jb) (v : Value) (pol n : Int) (pre : Bool) (hv : RowSl Jb.vals w l v) (h0 : (plE l pol n).1 ≠ 0) :
    Calls Tryd.prog 32 #[v, .int .i64 pol, .bool pre, .int .i64 n] w fun r W => r = .returned (.tuple #[.agg #[.slice none 0 0, .slice none 0 0], .agg #[.int .i64 (plE l pol n).1, .int .i64 (plE l pol n).2]]) ∧ Below w.heap.size w W := by
  obtain ⟨ad, c, rfl⟩ := hv.len
  have HC := CheckJobs_any ((w.alloc (.cells #[.slice none 0 0, .slice none 0 0] 45)).alloc (.cells #[.int .i64 0, .int .i64 0] 31)) l _ (hv.below (TB.start w).bel)
  clear hv
  by_cases h1 : (chkJ l).1 = 0
  · have e : plE l pol n = if pol ≠ 1 ∧ pol ≠ 2 then (6, 0) else if n < 0 ∨ 20000 < n then (3, 0) else (0, 0) := by unfold plE; rw [if_neg (by simpa using h1)]
    rw [e] at h0 ⊢
    rw [h1] at HC
    generalize (chkJ l).2 = z2 at *
    clear e
    by_cases h2 : pol ≠ 1 ∧ pol ≠ 2
    · rw [if_pos h2]
      have b1 : (pol != 1) = true := by simpa using h2.1
      have b2 : (pol != 2) = true := by simpa using h2.2
      clear h2 h0
      go_enter Tryd.func32, Tryd.ntmps32
      go_upto_region 2 with (go_at_call 47; refine HC.mono ?_; rintro r w1 ⟨rfl, hb1⟩; have H1 : Hid (TB w (w1.alloc (.cells #[.int .i64 0, .int .i64 z2] 31))) := ((TB.start w).grow hb1).grow (below_new _ _); clear hb1 HC)
      obtain ⟨fs, -, -⟩ := cells_of (l := [_, _]) (heap_alloc_new w1 (.cells #[.int .i64 0, .int .i64 z2] 31))
      have g0 := fs 0 _ rfl
      clear fs
      generalize w1.alloc (.cells #[.int .i64 0, .int .i64 z2] 31) = w2 at *
      go_wp2_with (go_at_call 27; refine (F_any _ _ _).mono ?_; rintro r w3 ⟨rfl, hb3⟩; have H3 : Hid (TB w w3) := H1.out.grow hb3; clear hb3; obtain ⟨qs, qf, ql⟩ := cells_of (l := [_, _]) H3.out.r1; have q0 := qs 0 _ rfl; have q1 := qs 1 _ rfl; have qf0 := qf 0; have qf1 := qf 1; obtain ⟨rs, rf, rl⟩ := cells_of (l := [_, _]) H3.out.r2; have r0 := rs 0 _ rfl; have r1 := rs 1 _ rfl; have rf0 := rf 0; have rf1 := rf 1; clear qs qf rs rf)
      have hx := H3.out.put (.slice none 0 0) (.slice none 0 0) (.int .i64 6) (.int .i64 0)
      refine bodyPost_ret (PlayJobs_ends (g1 := w.heap.size) (g2 := w.heap.size + 1) (a := .slice none 0 0) (b := .slice none 0 0) (c := .int .i64 6) (k := .int .i64 0) hx.1 hx.2.1 rfl rfl) rfl ?_
      exact ⟨rfl, hx.2.2.1⟩
    · rw [if_neg h2] at h0 ⊢
      by_cases h3 : n < 0 ∨ 20000 < n
      · rw [if_pos h3]
        have hw : decide (n < 0) = true ∨ decide (n < 0) = false ∧ decide (20000 < n) = true := by
          by_cases hq : n < 0
          · left; simpa using hq
          · right; simp; omega
        have hp : (pol != 1) = true ∧ (pol != 2) = false ∨ (pol != 1) = false := by
          by_cases hq : pol = 1
          · right; simp [hq]
          · left; simp; exact ⟨hq, by omega⟩
        clear h2 h0 h3
        go_enter Tryd.func32, Tryd.ntmps32
        go_upto_region 2 with (go_at_call 47; refine HC.mono ?_; rintro r w1 ⟨rfl, hb1⟩; have H1 : Hid (TB w (w1.alloc (.cells #[.int .i64 0, .int .i64 z2] 31))) := ((TB.start w).grow hb1).grow (below_new _ _); clear hb1 HC)
        obtain ⟨fs, -, -⟩ := cells_of (l := [_, _]) (heap_alloc_new w1 (.cells #[.int .i64 0, .int .i64 z2] 31))
        have g0 := fs 0 _ rfl
        clear fs
        generalize w1.alloc (.cells #[.int .i64 0, .int .i64 z2] 31) = w2 at *
        rcases hp with ⟨b1, b2⟩ | b1 <;> rcases hw with c1 | ⟨c1, c2⟩
        all_goals
          go_wp2_with (go_at_call 27; refine (F_any _ _ _).mono ?_; rintro r w3 ⟨rfl, hb3⟩; have H3 : Hid (TB w w3) := H1.out.grow hb3; clear hb3; obtain ⟨qs, qf, ql⟩ := cells_of (l := [_, _]) H3.out.r1; have q0 := qs 0 _ rfl; have q1 := qs 1 _ rfl; have qf0 := qf 0; have qf1 := qf 1; obtain ⟨rs, rf, rl⟩ := cells_of (l := [_, _]) H3.out.r2; have r0 := rs 0 _ rfl; have r1 := rs 1 _ rfl; have rf0 := rf 0; have rf1 := rf 1; clear qs qf rs rf)
          have hx := H3.out.put (.slice none 0 0) (.slice none 0 0) (.int .i64 3) (.int .i64 0)
          refine bodyPost_ret (PlayJobs_ends (g1 := w.heap.size) (g2 := w.heap.size + 1) (a := .slice none 0 0) (b := .slice none 0 0) (c := .int .i64 3) (k := .int .i64 0) hx.1 hx.2.1 rfl rfl) rfl ?_
          exact ⟨rfl, hx.2.2.1⟩
      · rw [if_neg h3] at h0
        exact absurd rfl h0
  · have e : plE l pol n = chkJ l := by unfold plE; rw [if_pos h1]
    rw [e]
    generalize (chkJ l).1 = z1 at *
    generalize (chkJ l).2 = z2 at *
    have hz : (z1 != 0) = true := by simpa using h1
    clear e h0 h1
    go_enter Tryd.func32, Tryd.ntmps32
    go_upto_region 3 with (go_at_call 47; refine HC.mono ?_; rintro r w1 ⟨rfl, hb1⟩; have H1 : Hid (TB w (w1.alloc (.cells #[.int .i64 z1, .int .i64 z2] 31))) := ((TB.start w).grow hb1).grow (below_new _ _); have hl1 : w.heap.size < w1.heap.size := lt_of_heap ((TB.start w).grow hb1).r1; have hl2 : w.heap.size + 1 < w1.heap.size := lt_of_heap ((TB.start w).grow hb1).r2; clear hb1 HC)
    obtain ⟨fs, -, fl⟩ := cells_of (l := [_, _]) (heap_alloc_new w1 (.cells #[.int .i64 z1, .int .i64 z2] 31))
    have g0 := fs 0 _ rfl
    have g1 := fs 1 _ rfl
    clear fs
    generalize w1.alloc (.cells #[.int .i64 z1, .int .i64 z2] 31) = w2 at *
    obtain ⟨qs, qf, ql⟩ := cells_of (l := [_, _]) H1.out.r1
    have q0 := qs 0 _ rfl
    have q1 := qs 1 _ rfl
    have qf0 := qf 0
    have qf1 := qf 1
    obtain ⟨rs, rf, rl⟩ := cells_of (l := [_, _]) H1.out.r2
    have r0 := rs 0 _ rfl
    have r1 := rs 1 _ rfl
    have rf0 := rf 0
    have rf1 := rf 1
    clear qs qf rs rf
    go_region
    all_goals go_wp2_with fail
    all_goals
      have hx := H1.out.put (.slice none 0 0) (.slice none 0 0) (.int .i64 z1) (.int .i64 z2)
      refine bodyPost_ret (PlayJobs_ends (g1 := w.heap.size) (g2 := w.heap.size + 1) (a := .slice none 0 0) (b := .slice none 0 0) (c := .int .i64 z1) (k := .int .i64 z2) hx.1 hx.2.1 rfl rfl) rfl ?_
      exact ⟨rfl, hx.2.2.1.drew⟩

set_option maxRecDepth 20000 in
set_option maxHeartbeats 2000000 in
theorem PlayJobs_good (w : World) (l : List Jb) (v : Value) (pol : Int) (n : Nat) (pre : Bool) (hv : RowSl Jb.vals w l v) (h0 : (plE l pol (n : Int)).1 = 0) :
    Calls Tryd.prog 32 #[v, .int .i64 pol, .bool pre, .int .i64 (n : Int)] w fun r W => ∃ v1 v2, r = .returned (.tuple #[.agg #[v1, v2], .agg #[.int .i64 0, .int .i64 0]]) ∧ OutW w W l pol pre n v1 v2 := by
  obtain ⟨hck, hpp, hn0, hn1, -⟩ := plE_ok h0
  obtain ⟨hcl, hcok, hce⟩ := chkJ_ok hck
  have HC := CheckJobs_any ((w.alloc (.cells #[.slice none 0 0, .slice none 0 0] 45)).alloc (.cells #[.int .i64 0, .int .i64 0] 31)) l v (hv.below (TB.start w).bel)
  rw [hce] at HC
  dsimp only at HC
  obtain ⟨ad, c, rfl⟩ := hv.len
  have HV : Hid (RowSl Jb.vals w l (.slice ad l.length c) ∧ (∀ x ∈ l, okJ x)) := ⟨hv, hcok⟩
  have c1 : decide ((n : Int) < 0) = false := by simp
  have c2 : decide (20000 < (n : Int)) = false := by simp; omega
  have hp : (pol != 1) = true ∧ (pol != 2) = false ∨ (pol != 1) = false := by
    rcases hpp with rfl | rfl
    · right; rfl
    · left; exact ⟨rfl, rfl⟩
  have HP : Hid (pol = 1 ∨ pol = 2) := hpp
  clear hv hcok hck hce h0 hpp
  go_enter Tryd.func32, Tryd.ntmps32
  go_upto_region 2 with (go_at_call 47; refine HC.mono ?_; rintro r w1 ⟨rfl, hb1⟩; have H1 : Hid (TB w (w1.alloc (.cells #[.int .i64 0, .int .i64 0] 31))) := ((TB.start w).grow hb1).grow (below_new _ _); clear hb1 HC)
  obtain ⟨fs, -, -⟩ := cells_of (l := [_, _]) (heap_alloc_new w1 (.cells #[.int .i64 0, .int .i64 0] 31))
  have g0 := fs 0 _ rfl
  clear fs
  generalize w1.alloc (.cells #[.int .i64 0, .int .i64 0] 31) = w2 at *
  have HPl := Played_any w2 l _ pol pre n (HV.out.1.below H1.out.bel) HP.out (by omega) HV.out.2 (by omega)
  rcases hp with ⟨b1, b2⟩ | b1
  all_goals
    go_wp2_with (go_at_call 48; refine HPl.mono ?_; rintro r w4 ⟨s, mb, eb, rb, cnt, vs, hpl, rfl, href⟩; have H4 : Hid (Plays l pol pre n s ∧ RefW w2 w4 mb eb rb cnt n s.left s.ends s.runs vs) := ⟨hpl, href⟩; clear hpl href HPl)
    go_wp2_with (go_at_call 50; refine (One_any w2 w4 mb eb rb cnt n s.left s.ends s.runs vs H4.out.2 (plays_ok HV.out.2 n s H4.out.1).runs (by omega)).mono ?_; rintro r w5 ⟨rfl, hb5, hh5⟩; have H5 : Hid (TB w w5 ∧ w5.heap[w4.heap.size]? = some (.cells (s.runs.map (Value.int .i64)).toArray 3 (0, 0)) ∧ w5.heap[eb]? = some (.cells (s.ends.map (Value.int .i64)).toArray 3 (0, 0)) ∧ w4.heap.size ≠ eb ∧ w2.heap.size ≤ w4.heap.size ∧ w2.heap.size ≤ eb) := ⟨(H1.out.grow H4.out.2.bel).grow hb5, hh5, (hb5.block _ (lt_of_heap H4.out.2.ev)).trans H4.out.2.ev, by have := lt_of_heap H4.out.2.ev; omega, H4.out.2.bel.size, H4.out.2.low.2.1⟩; clear hb5 hh5; obtain ⟨qs, qf, ql⟩ := cells_of (l := [_, _]) H5.out.1.r1; have q0 := qs 0 _ rfl; have q1 := qs 1 _ rfl; have qf0 := qf 0; have qf1 := qf 1; obtain ⟨rs, rf, rl⟩ := cells_of (l := [_, _]) H5.out.1.r2; have r0 := rs 0 _ rfl; have r1 := rs 1 _ rfl; have rf0 := rf 0; have rf1 := rf 1; clear qs qf rs rf)
    have hx := H5.out.1.put (.slice (some ⟨w4.heap.size, 0, none⟩) n n) (.slice (some ⟨eb, 0, none⟩) l.length l.length) (.int .i64 0) (.int .i64 0)
    refine bodyPost_ret (PlayJobs_ends (g1 := w.heap.size) (g2 := w.heap.size + 1) (a := .slice (some ⟨w4.heap.size, 0, none⟩) n n) (b := .slice (some ⟨eb, 0, none⟩) l.length l.length) (c := .int .i64 0) (k := .int .i64 0) hx.1 hx.2.1 rfl rfl) rfl ?_
    have hsz : w.heap.size + 1 < w2.heap.size := lt_of_heap H1.out.r2
    refine ⟨_, _, rfl, ⟨⟨s, w4.heap.size, eb, H4.out.1, rfl, rfl, ?_, ?_, H5.out.2.2.2.1, by have := H5.out.2.2.2.2.1; omega, by have := H5.out.2.2.2.2.2; omega⟩, hx.2.2.1⟩⟩
    · rw [hx.2.2.2 _ (by have := H5.out.2.2.2.2.1; omega)]; exact H5.out.2.1
    · rw [hx.2.2.2 eb (by have := H5.out.2.2.2.2.2; omega)]; exact H5.out.2.2.1
end Go.Proofs.YtdhnjemgnlklkajDoor
