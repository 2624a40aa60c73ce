import Derived.Test.YtcejfmmcdagnoacDoorCosts
namespace Go.Proofs.YtcejfmmcdagnoacDoor
open Go.ChangeShapes Go.WideShapes Go.ChangeAt Go.RowKit

set_option maxRecDepth 20000 in
set_option maxHeartbeats 4000000 in
theorem costs_walk (w : World) (hk : KindsIn w) (op a b : Int) (ov : Bool) : Calls Tryd.prog 5 #[.agg #[.int .i64 op, .int .i64 a, .int .i64 b], .bool ov] w fun r w' => r = .returned (.bool true) ∧ Below w.heap.size w w' := by
  have H0 : Hid (KindsIn w) := hk
  clear hk
  have PH : Phase 1 := trivial
  by_cases h : op < 1
  · have h0 : op < 1 ∨ 18 < op := .inl h
    go_enter Tryd.func5, Tryd.ntmps5
    go_wp2_with (go_at_call 25; guard_hyp PH : Phase 1; clear PH; refine (Cost_6 _ (H0.out.below (below_new _ _)) 0 0 false).mono ?_; rintro r w1 ⟨rfl, hb1⟩; have c0 : w1.cell? ⟨w.heap.size, 0, none⟩ = some (.int .i64 op) := below_cell hb1 (by go_simp); have c1 : w1.cell? ⟨w.heap.size, 1, none⟩ = some (.int .i64 a) := below_cell hb1 (by go_simp); have c2 : w1.cell? ⟨w.heap.size, 2, none⟩ = some (.int .i64 b) := below_cell hb1 (by go_simp); have H1 : Hid (Below w.heap.size w w1) := below_seq (below_new _ _) hb1; clear hb1; have PH : Phase 2 := trivial)
    go_wp2_with (go_at_call 25; guard_hyp PH : Phase 2; clear PH; refine (Cost_no _ op a b ov h0).mono ?_; rintro r w2 ⟨rfl, hb2⟩; have H2 : Hid (Below w.heap.size w w2) := below_seq H1.out hb2; clear hb2)
    go_ret
    exact ⟨rfl, H2.out⟩
  · by_cases h' : 18 < op
    · have h0 : op < 1 ∨ 18 < op := .inr h'
      have h1 : 1 ≤ op := by omega
      go_enter Tryd.func5, Tryd.ntmps5
      go_wp2_with (go_at_call 25; guard_hyp PH : Phase 1; clear PH; refine (Cost_6 _ (H0.out.below (below_new _ _)) 0 0 false).mono ?_; rintro r w1 ⟨rfl, hb1⟩; have c0 : w1.cell? ⟨w.heap.size, 0, none⟩ = some (.int .i64 op) := below_cell hb1 (by go_simp); have c1 : w1.cell? ⟨w.heap.size, 1, none⟩ = some (.int .i64 a) := below_cell hb1 (by go_simp); have c2 : w1.cell? ⟨w.heap.size, 2, none⟩ = some (.int .i64 b) := below_cell hb1 (by go_simp); have H1 : Hid (Below w.heap.size w w1) := below_seq (below_new _ _) hb1; clear hb1; have PH : Phase 2 := trivial)
      go_wp2_with (go_at_call 25; guard_hyp PH : Phase 2; clear PH; refine (Cost_no _ op a b ov h0).mono ?_; rintro r w2 ⟨rfl, hb2⟩; have H2 : Hid (Below w.heap.size w w2) := below_seq H1.out hb2; clear hb2)
      go_ret
      exact ⟨rfl, H2.out⟩
    · have h1 : 1 ≤ op := by omega
      have h2 : op ≤ 18 := by omega
      have HZ : Hid (Alike w op) := alike w H0.out op h1 h2
      obtain ⟨z, hz⟩ := HZ.out a b ov
      have HC : Hid (_ ∧ _) := hz
      clear hz HZ
      go_enter Tryd.func5, Tryd.ntmps5
      go_wp2_with (go_at_call 25; guard_hyp PH : Phase 1; clear PH; refine (Cost_6 _ (H0.out.below (below_new _ _)) 0 0 false).mono ?_; rintro r w1 ⟨rfl, hb1⟩; have c0 : w1.cell? ⟨w.heap.size, 0, none⟩ = some (.int .i64 op) := below_cell hb1 (by go_simp); have c1 : w1.cell? ⟨w.heap.size, 1, none⟩ = some (.int .i64 a) := below_cell hb1 (by go_simp); have c2 : w1.cell? ⟨w.heap.size, 2, none⟩ = some (.int .i64 b) := below_cell hb1 (by go_simp); have H1 : Hid (Below w.heap.size w w1) := below_seq (below_new _ _) hb1; clear hb1; have PH : Phase 2 := trivial)
      go_wp2_with fail
      go_region_with (first
        | (go_at_call 25; refine (HC.out.1 _ (by first | exact H1.out.drew | exact H1.out)).mono ?_; rintro r w2 ⟨rfl, hb2⟩; have H2 : Hid (Below w.heap.size w w2) := (by first | exact below_seq H1.out.drew hb2 | exact below_seq H1.out hb2); replace c0 : w2.cell? ⟨w.heap.size, 0, none⟩ = some (.int .i64 op) := below_cell hb2 c0; replace c1 : w2.cell? ⟨w.heap.size, 1, none⟩ = some (.int .i64 a) := below_cell hb2 c1; replace c2 : w2.cell? ⟨w.heap.size, 2, none⟩ = some (.int .i64 b) := below_cell hb2 c2; clear hb2)
        | (go_at_call 26; refine (HC.out.2 _).mono ?_; rintro r w3 ⟨rfl, hb3⟩; have H3 : Hid (Below w.heap.size w w3) := below_seq H2.out hb3; clear hb3))
      all_goals go_wp2_with fail
      all_goals go_ret
      all_goals refine ⟨?_, H3.out⟩
      all_goals rfl
end Go.Proofs.YtcejfmmcdagnoacDoor
