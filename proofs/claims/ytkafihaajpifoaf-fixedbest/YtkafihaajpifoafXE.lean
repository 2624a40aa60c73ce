import Derived.Test.YtkafihaajpifoafXD
import Derived.Test.YtkafihaajpifoafXR
namespace Go.Proofs.Ytkafihaajpifoaf
open Go.ChangeShapes Go.WideShapes Go.ChangeAt Go.RowKit

theorem Responses_ends {w : World} {g : Nat} {c k p : Value} {a : Act} (h : w.heap[g]? = some (.cells #[c, k] 29 (0, 0))) (h2 : a.tmps[4]?.getD undef = p) (h3 : a.tmps[5]?.getD undef = .pointer (some ⟨g, 0, none⟩)) :
    (results Try.f9 a.tmps).run Try.prog w = .ok (.tuple #[p, .agg #[c, k]]) w := by
  obtain ⟨c1, f1, l1⟩ := cells_of (l := [_, _]) h
  have c10 := c1 0 _ rfl
  have c11 := c1 1 _ rfl
  simp [results, Try.results9, go_sem, h2, h3, c10, c11]

set_option maxRecDepth 20000 in
set_option maxHeartbeats 4000000 in
theorem Responses_any (w : World) (l : List Ta) (bs : List Int) (v v2 : Value) (hl : l.length ≤ 1000000) (hv : RowSl Ta.vals w l v) (hv2 : RowSl nuV w bs v2) : Calls Try.prog 9 #[v, v2] w fun r w' => ∃ u, r = .returned (.tuple #[u, .agg #[.int .i64 (responsesF l bs).2.1, .int .i64 (responsesF l bs).2.2]]) ∧ RowSl nuV w' (responsesF l bs).1 u ∧ Below w.heap.size w w' := by
  obtain ⟨ad, c, rfl⟩ := hv.len
  have HV : Hid (RowSl Ta.vals w l (.slice ad l.length c)) := hv
  have HF : Hid (FB w (w.alloc (.cells #[.int .i64 0, .int .i64 0] 29)) w.heap.size) := FB.start w
  have HC := check_any (w.alloc (.cells #[.int .i64 0, .int .i64 0] 29)) l (.slice ad l.length c) hl (HV.out.below (below_new _ _))
  by_cases h0 : (chkX l).1 ≠ 0
  · rw [show responsesF l bs = ([], chkX l) by unfold responsesF; rw [if_pos h0]]
    obtain ⟨ad2, c2, rfl⟩ := hv2.len
    clear hv hv2
    generalize (chkX l).1 = z at *
    generalize (chkX l).2 = z2 at *
    have hzb : (z != 0) = true := by simpa using h0
    go_enter Try.func9, Try.ntmps9
    go_wp2_with (go_at_call 22; refine HC.mono ?_; rintro r w1 ⟨rfl, hb1⟩; have H1 : Hid (FB w w1 w.heap.size) := HF.out.grow hb1; obtain ⟨rs1, rf1, rl1⟩ := cells_of (l := [_, _]) H1.out.res; have r10 := rs1 0 _ rfl; have r11 := rs1 1 _ rfl; have f10 := rf1 0; have f11 := rf1 1; clear rs1 rf1 hb1 HC)
    go_region
    all_goals go_wp2_with fail
    all_goals
      refine bodyPost_ret (Responses_ends (H1.out.endA (.int .i64 z) (.int .i64 z2) _).1 rfl rfl) rfl ?_
      exact ⟨_, rfl, RowSl.nil _ _, (H1.out.endA (.int .i64 z) (.int .i64 z2) _).2.drew⟩
  · have hz : (chkX l).1 = 0 := by omega
    obtain ⟨-, -, hl1, h8, hst, -⟩ := chkX_ok hz
    by_cases hle : bs.length = l.length
    · have EX : Hid (responsesF l bs = respsFrom l bs 0 []) := by
        show _ = _
        unfold responsesF
        rw [if_neg h0, if_neg (by simp [hle])]
      obtain ⟨ad2, c2, rfl, -, hcap2, hrow⟩ := hv2
      rcases hrow with h | ⟨b2, o2, rfl, hrow⟩
      · rw [h] at hle; simp at hle; omega
      have HR : Hid (∀ q u, (bs.flatMap nuV)[q]? = some u → w.cell? ⟨b2, o2 + q, none⟩ = some u) := hrow
      rw [hle] at hcap2 ⊢
      have HL : Hid (bs.length = l.length) := hle
      have HRsp : Hid (∀ W, Below w.heap.size w W → ∀ i block, Calls Try.prog 24 #[.slice ad l.length c, .int .i64 i, .int .i64 block] W fun r w' => r = .returned (.tuple #[.int .i64 (respF l i block).1, .agg #[.int .i64 (respF l i block).2.1, .int .i64 (respF l i block).2.2]]) ∧ Below W.heap.size W w') := fun W hb i block => resp_any W l (.slice ad l.length c) i block h8 hst (HV.out.below hb)
      rw [hz] at HC
      generalize (chkX l).2 = z2 at *
      clear hv hrow hst hle h0
      go_enter Try.func9, Try.ntmps9
      go_wp2_with (go_at_call 22; refine HC.mono ?_; rintro r w1 ⟨rfl, hb1⟩; have H1 : Hid (FB w (w1.alloc (.cells #[.int .i64 0, .int .i64 z2] 29)) w.heap.size) := (HF.out.grow hb1).grow (below_new _ _); clear hb1 HC)
      go_loopw [7, 26] (fun av iv wr => ∃ (j : Nat) (acc : List Int), j ≤ l.length ∧ iv = .int .i64 (j : Int) ∧ acc.length ≤ j ∧ NO w wr w.heap.size acc av ∧ Hid (respsFrom l (bs.drop j) j acc = respsFrom l bs 0 [])) (fun _ iv _ => l.length - (intOf iv).toNat)
      case atStart => exact ⟨0, [], Nat.zero_le _, rfl, by simp, NO.start H1.out, rfl⟩
      case round =>
        obtain ⟨j, acc, hjl, rfl, hac, hno, HQ⟩ := hrel
        obtain ⟨ad5, c5, rfl⟩ := hno.val
        have HN : Hid (NO w wr w.heap.size acc (.slice ad5 acc.length c5)) := hno
        by_cases hlt : j < l.length
        · obtain ⟨b, hb, hdr⟩ := drop_at (l := bs) (k := j) (by have := HL.out; omega)
          have hq := HQ.out
          rw [respsFrom_at hdr] at hq
          have cb := nu_at (fun q u hq => below_cell hno.fb.bel (HR.out q u hq)) hb
          have lb : b2 < wr.heap.size := World.block_lt_of_cell? _ _ cb
          have hj' : (j : Int) < (l.length : Int) := by omega
          have HP := fun W (hb : Below w.heap.size w W) => HRsp.out W hb (j : Int) b
          have HQ' : Hid ((if (respF l (j : Int) b).2.1 ≠ 0 then ([], (respF l (j : Int) b).2) else respsFrom l (bs.drop (j + 1)) (j + 1) (acc ++ [(respF l (j : Int) b).1])) = respsFrom l bs 0 []) := hq
          clear hq HQ hno hdr hb
          generalize eq0 : respF l (j : Int) b = q at *
          obtain ⟨q0, q1, q2⟩ := q
          dsimp only at *
          by_cases hz1 : q1 ≠ 0
          · have hzb : (q1 != 0) = true := by simpa using hz1
            have e := HQ'.out
            rw [if_pos hz1] at e
            have HE : Hid (responsesF l bs = ([], (q1, q2))) := EX.out.trans e.symm
            clear e HQ'
            go_wp2_with (go_at_call 24; refine (HP _ (by first | exact HN.out.fb.bel | exact below_seq HN.out.fb.bel (below_new _ _))).mono ?_; rintro r w2 ⟨rfl, hb2⟩; have H2 : Hid (FB w w2 w.heap.size) := (by first | exact HN.out.fb.grow hb2 | exact (HN.out.fb.grow (below_new _ _)).grow hb2); obtain ⟨rs1, rf1, rl1⟩ := cells_of (l := [_, _]) H2.out.res; have r10 := rs1 0 _ rfl; have r11 := rs1 1 _ rfl; have f10 := rf1 0; have f11 := rf1 1; clear rs1 rf1 hb2 HP)
            go_region
            all_goals go_wp2_with fail
            all_goals
              first
                | (refine bodyPost_ret (Responses_ends (H2.out.endA (.int .i64 q1) (.int .i64 q2) _).1 rfl rfl) rfl ?_
                   rw [HE.out]
                   exact ⟨_, rfl, RowSl.nil _ _, (H2.out.endA (.int .i64 q1) (.int .i64 q2) _).2.drew⟩)
                | fail
          · have hz2 : q1 = 0 := by omega
            subst hz2
            have e := HQ'.out
            rw [if_neg (by simp)] at e
            have HE : Hid (respsFrom l (bs.drop (j + 1)) (j + 1) (acc ++ [q0]) = respsFrom l bs 0 []) := e
            clear e HQ' hz1
            go_wp2_with (first | (go_at_call 24; refine (HP _ (by first | exact HN.out.fb.bel | exact below_seq HN.out.fb.bel (below_new _ _))).mono ?_; rintro r w2 ⟨rfl, hb2⟩; have H2 : Hid (NO w w2 w.heap.size acc (.slice ad5 acc.length c5)) := (by first | exact HN.out.grow hb2 | exact (HN.out.grow (below_new _ _)).grow hb2); obtain ⟨ad9, c9, w9, hrun, ho9⟩ := NO.push (H2.out.grow (below_new w2 (.cells #[.int .i64 0, .int .i64 q2] 29))) q0 (by omega); rw [show (w2.alloc (.cells #[.int .i64 0, .int .i64 q2] 29)).heap.size = w2.heap.size + 1 by simp] at hrun; have H9 : Hid (NO w w9 w.heap.size (acc ++ [q0]) (.slice ad9 (acc.length + 1) c9)) := ho9; clear hb2 HP ho9) | (at_builtin; refine append_known rfl (.tmp 42) (.tmp 44) 24 rfl rfl rfl hrun ?_))
            first
              | exact ⟨⟨j + 1, acc ++ [q0], by omega, by simp, by simp; omega, H9.out, HE.out⟩, by simp [intOf]; omega⟩
              | fail
        · have hje : j = l.length := by omega
          subst hje
          have hq := HQ.out
          rw [← HL.out, List.drop_length, respsFrom] at hq
          obtain ⟨rs1, rf1, rl1⟩ := cells_of (l := [_, _]) hno.fb.res
          have r10 := rs1 0 _ rfl
          have r11 := rs1 1 _ rfl
          have f10 := rf1 0
          have f11 := rf1 1
          have HE : Hid (responsesF l bs = (acc, (0, 0))) := EX.out.trans hq.symm
          clear rs1 rf1 hq hno HQ
          go_wp2_with fail
          first
            | (refine bodyPost_ret (Responses_ends (set_two HN.out.fb.res) rfl rfl) rfl ?_
               rw [HE.out]
               exact ⟨_, rfl, HN.out.set _ _, HN.out.fb.set _ _⟩)
            | fail
    · rw [show responsesF l bs = ([], (2, 0)) by unfold responsesF; rw [if_neg h0, if_pos hle]]
      obtain ⟨ad2, c2, rfl⟩ := hv2.len
      rw [hz] at HC
      clear hv hv2
      generalize (chkX l).2 = z2 at *
      have hb' : ((bs.length : Int) != (l.length : Int)) = true := by simp; omega
      go_enter Try.func9, Try.ntmps9
      go_wp2_with (go_at_call 22; refine HC.mono ?_; rintro r w1 ⟨rfl, hb1⟩; have H1 : Hid (FB w w1 w.heap.size) := HF.out.grow hb1; obtain ⟨rs1, rf1, rl1⟩ := cells_of (l := [_, _]) H1.out.res; have r10 := rs1 0 _ rfl; have r11 := rs1 1 _ rfl; have f10 := rf1 0; have f11 := rf1 1; clear rs1 rf1 hb1 HC)
      first
        | (refine bodyPost_ret (Responses_ends (H1.out.endA (.int .i64 2) (.int .i64 0) _).1 rfl rfl) rfl ?_
           exact ⟨_, rfl, RowSl.nil _ _, (H1.out.endA (.int .i64 2) (.int .i64 0) _).2⟩)
        | (go_wp2_with (go_at_call 33; refine (F_any _ _ _).mono ?_; rintro r w3 ⟨rfl, hb3⟩; have H3 : Hid (FB w w3 w.heap.size) := (H1.out.grow (below_new _ _)).grow hb3; obtain ⟨rs1, rf1, rl1⟩ := cells_of (l := [_, _]) H3.out.res; have s10 := rs1 0 _ rfl; have s11 := rs1 1 _ rfl; have t10 := rf1 0; have t11 := rf1 1; clear rs1 rf1 hb3)
           refine bodyPost_ret (Responses_ends (set_two H3.out.res) rfl rfl) rfl ?_
           exact ⟨_, rfl, RowSl.nil _ _, H3.out.set _ _⟩)
        | fail
end Go.Proofs.Ytkafihaajpifoaf
