import Derived.Test.YtdligmnboalagafXA
import Derived.Test.YtdligmnboalagafTS
namespace Go.Proofs.Ytdligmnboalagaf
open Go.ChangeShapes Go.WideShapes Go.ChangeAt Go.RowKit

theorem CheckFixed_ends {w : World} {g : Nat} {c k : Value} {a : Act} (h : w.heap[g]? = some (.cells #[c, k] 29 (0, 0))) (h3 : a.tmps[2]?.getD undef = .pointer (some ⟨g, 0, none⟩)) :
    (results Try.f15 a.tmps).run Try.prog w = .ok (.agg #[c, k]) w := by
  obtain ⟨c1, f1, l1⟩ := cells_of (l := [_, _]) h
  have c10 := c1 0 _ rfl
  have c11 := c1 1 _ rfl
  simp [results, Try.results15, go_sem, h3, c10, c11]

set_option maxRecDepth 20000 in
set_option maxHeartbeats 4000000 in
theorem CheckFixed_any (w : World) (l : List Ta) (v : Value) (hS : ∀ x ∈ l, x.nm.size ≤ 9223372036854775807) (hv : RowSl Ta.vals w l v) : Calls Try.prog 15 #[v] w fun r w' => r = .returned (.agg #[.int .i64 (chkX l).1, .int .i64 (chkX l).2]) ∧ Below w.heap.size w w' := by
  obtain ⟨ad, c, rfl⟩ := hv.len
  have HV : Hid (RowSl Ta.vals w l (.slice ad l.length c)) := hv
  have HC := fun W hb => CheckSet_any W l (.slice ad l.length c) hS (HV.out.below (w' := W) hb)
  have HF : Hid (FB w (w.alloc (.cells #[.int .i64 0, .int .i64 0] 29)) w.heap.size) := FB.start w
  clear hv hS
  by_cases h0 : (chkF l).1 ≠ 0
  · rw [show chkX l = chkF l by unfold chkX; rw [if_pos h0]]
    have hzb : ((chkF l).1 != 0) = true := by simpa using h0
    go_enter Try.func15, Try.ntmps15
    go_wp2_with (go_at_call 31; refine (HC _ HF.out.bel).mono ?_; rintro r w1 ⟨rfl, hb1⟩; have H1 : Hid (FB w w1 w.heap.size) := HF.out.grow hb1; obtain ⟨rs1, rf1, rl1⟩ := cells_of (l := [_, _]) H1.out.res; have r10 := rs1 0 _ rfl; have r11 := rs1 1 _ rfl; have f10 := rf1 0; have f11 := rf1 1; clear rs1 rf1 hb1)
    refine bodyPost_ret (CheckFixed_ends (H1.out.endA _ _ _).1 rfl) rfl ?_
    exact ⟨rfl, (H1.out.endA _ _ _).2⟩
  · have EX : Hid (chkX l = if 0 ≤ ordFrom l 0 then (12, ordFrom l 0) else (0, 0)) := by show _ = _; unfold chkX; rw [if_neg h0]
    have hz : (chkF l).1 = 0 := by omega
    have hl8 := (chkF_ok hz).2.1
    have hl1 := (chkF_ok hz).1
    obtain ⟨ad', c', e, -, hcap, hrow⟩ := HV.out
    cases e
    rcases hrow with h | ⟨b, o, rfl, hrow⟩
    · rw [h] at hl1; simp at hl1
    have HR : Hid (∀ q u, (l.flatMap Ta.vals)[q]? = some u → w.cell? ⟨b, o + q, none⟩ = some u) := hrow
    clear hrow
    go_enter Try.func15, Try.ntmps15
    go_wp2_with (go_at_call 31; refine (HC _ HF.out.bel).mono ?_; rintro r w1 ⟨rfl, hb1⟩; rw [hz]; have H1 : Hid (FB w (w1.alloc (.cells #[.int .i64 0, .int .i64 (chkF l).2] 29)) w.heap.size) := (HF.out.grow hb1).grow (below_new _ _); clear hb1)
    go_loopw [14] (fun iv wr => ∃ j : Nat, j ≤ l.length ∧ iv = .int .i64 (j : Int) ∧ FB w wr w.heap.size ∧ Hid (ordFrom (l.drop j) j = ordFrom l 0)) (fun iv _ => l.length - (intOf iv).toNat)
    case atStart => exact ⟨0, Nat.zero_le _, rfl, H1.out, rfl⟩
    case round =>
      obtain ⟨j, hjl, rfl, hg, HQ⟩ := hrel
      by_cases hlt : j < l.length
      · obtain ⟨y, hy, hdr⟩ := drop_at hlt
        have hq := HQ.out
        rw [hdr, ordFrom] at hq
        obtain ⟨c0, c1, c2, c3, c4, c5, c6⟩ := ta_at (fun q u hq => below_cell hg.bel (HR.out q u hq)) hy
        have HG : Hid (FB w wr w.heap.size) := hg
        have lb : b < wr.heap.size := World.block_lt_of_cell? _ _ c0
        have hj' : (j : Int) < (l.length : Int) := by omega
        by_cases hz2 : y.t < y.d
        · rw [if_pos hz2] at hq
          have HQ' : Hid ((j : Int) = ordFrom l 0) := hq
          clear hq hg HQ
          go_wp2_with (go_at_call 32; refine (F_any _ _ _).mono ?_; rintro r w2 ⟨rfl, hb2⟩; have H2 : Hid (FB w w2 w.heap.size) := (HG.out.grow (below_new _ _)).grow hb2; obtain ⟨rs1, rf1, rl1⟩ := cells_of (l := [_, _]) H2.out.res; have r10 := rs1 0 _ rfl; have r11 := rs1 1 _ rfl; have f10 := rf1 0; have f11 := rf1 1; clear rs1 rf1 hb2)
          refine bodyPost_ret (CheckFixed_ends (set_two H2.out.res) rfl) rfl ?_
          rw [EX.out, ← HQ'.out, if_pos (by omega)]
          exact ⟨rfl, H2.out.set _ _⟩
        · rw [if_neg hz2] at hq
          have HQ' : Hid (_ = _) := hq
          clear hq hg HQ
          go_wp2_with fail
          exact ⟨⟨j + 1, by omega, by simp, HG.out.grow (below_new _ _), HQ'.out⟩, by simp [intOf]; omega⟩
      · have hje : j = l.length := by omega
        subst hje
        have hq := HQ.out
        rw [List.drop_length, ordFrom] at hq
        have HG : Hid (FB w wr w.heap.size) := hg
        have HQ' : Hid ((-1 : Int) = ordFrom l 0) := hq
        obtain ⟨rs1, rf1, rl1⟩ := cells_of (l := [_, _]) hg.res
        have r10 := rs1 0 _ rfl
        have r11 := rs1 1 _ rfl
        have f10 := rf1 0
        have f11 := rf1 1
        clear rs1 rf1 hq hg HQ
        go_wp2_with fail
        refine bodyPost_ret (CheckFixed_ends (set_two HG.out.res) rfl) rfl ?_
        rw [EX.out, ← HQ'.out, if_neg (by omega)]
        exact ⟨rfl, HG.out.set _ _⟩

end Go.Proofs.Ytdligmnboalagaf
