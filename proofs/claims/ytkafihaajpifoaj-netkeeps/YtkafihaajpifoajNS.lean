import Derived.Test.YtkafihaajpifoajNJ
import Derived.Test.YtkafihaajpifoajNP
namespace Go.Proofs.Ytkafihaajpifoaj
open Go.ChangeShapes Go.WideShapes Go.ChangeAt Go.RowKit

abbrev busL : List Fr := [⟨2, 10, 10, 0⟩, ⟨3, 10, 10, 0⟩, ⟨2, 20, 20, 0⟩]

abbrev busC : List Co := [⟨2, 0⟩, ⟨0, 1⟩]

theorem one_time {hd tl : List Fr} {m : Fr} {h busy w : Int} (hh : heldF tl = h) (hk : (kinds m busy).toNat = 1) (h1 : Fx (busyAsk h hd m) 1 (some busy)) (h2 : Fx (qAsk h hd m ((0 : Nat) : Int)) 0 (some w)) : Wst hd m tl (some (max 0 (m.j + w - ((0 : Nat) : Int) * m.t + m.c))) := by
  subst hh
  refine .some h1 ?_
  rw [hk]
  exact .next .zero h2

theorem bus_told : TmA busL [4, 6, 7] (0, 0) := by
  refine .inr ⟨by decide, .inl ⟨⟨by decide, fun i m v h1 h2 => ?_⟩, rfl, rfl⟩⟩
  rcases i with _ | _ | _ | i
  · simp at h1 h2
    subst h1 h2
    refine ⟨one_time (h := 2) (busy := 4) (w := 2) (by decide) (by decide) ⟨by decide, by decide, by decide, fun v a b e => ?_⟩ ⟨by decide, by decide, by decide, fun v a b e => ?_⟩, by decide⟩
    · simp [busyAsk, sumF, upF] at e; omega
    · simp [qAsk, sumF] at e; omega
  · simp at h1 h2
    subst h1 h2
    refine ⟨one_time (h := 1) (busy := 6) (w := 3) (by decide) (by decide) ⟨by decide, by decide, by decide, fun v a b e => ?_⟩ ⟨by decide, by decide, by decide, fun v a b e => ?_⟩, by decide⟩
    · simp [busyAsk, sumF, upF] at e; omega
    · simp [qAsk, sumF, dnF] at e; omega
  · simp at h1 h2
    subst h1 h2
    refine ⟨one_time (h := 0) (busy := 7) (w := 5) (by decide) (by decide) ⟨by decide, by decide, by decide, fun v a b e => ?_⟩ ⟨by decide, by decide, by decide, fun v a b e => ?_⟩, by decide⟩
    · simp [busyAsk, sumF, upF] at e; have a1 : (v + 10 - 1) / 10 = 1 := (by omega); have a2 : (v + 20 - 1) / 20 = 1 := (by omega); omega
    · simp [qAsk, sumF, dnF] at e; omega
  · simp at h1

abbrev busJ : List Jb := [⟨2, 0, 2, 20, 1⟩, ⟨0, 1, 2, 11, 3⟩]

theorem best_bus {left : List Int} {t : Int} {i : Nat} (hi : i < 2) (h1 : (J busJ i).a ≤ t) (h2 : 0 < L left i) (h3 : ∀ j, j < 2 → (J busJ j).a ≤ t → 0 < L left j → j ≠ i → lexJ 1 busJ i j) : IsBest busJ 1 left t (i : Int) := .inr ⟨i, rfl, hi, h1, h2, h3⟩

theorem plays_bus : Plays busJ 1 false 6 ⟨[0, 0], [2, 4], [0, 0, 1, 1, -1, -1]⟩ := by
  refine ⟨⟨[0, 0], [2, 4], [0, 0, 1, 1, -1]⟩, -1, ⟨⟨[0, 0], [2, 4], [0, 0, 1, 1]⟩, -1, ⟨⟨[0, 1], [2, -1], [0, 0, 1]⟩, ((1 : Nat) : Int), ⟨⟨[0, 2], [2, -1], [0, 0]⟩, ((1 : Nat) : Int), ⟨⟨[1, 2], [-1, -1], [0]⟩, ((0 : Nat) : Int), ⟨St.init busJ, ((0 : Nat) : Int), rfl, .inr ⟨fun h => absurd h.2.1 (by decide), best_bus (by decide) (by decide) (by decide) ?_⟩, rfl⟩, .inl ⟨rfl, ⟨by decide, by decide⟩, by decide⟩, rfl⟩, .inr ⟨fun h => absurd h.2.2 (by decide), best_bus (by decide) (by decide) (by decide) ?_⟩, rfl⟩, .inl ⟨rfl, ⟨by decide, by decide⟩, by decide⟩, rfl⟩, .inr ⟨fun h => absurd h.2.2 (by decide), .inl ⟨rfl, ?_⟩⟩, rfl⟩, .inr ⟨fun h => absurd h.2.1 (by decide), .inl ⟨rfl, ?_⟩⟩, rfl⟩
  · intro j hj h1 h2 hne
    rcases j with _ | _ | j
    · exact absurd rfl hne
    · exact absurd h1 (by decide)
    · omega
  · intro j hj h1 h2 hne
    rcases j with _ | _ | j
    · exact absurd h2 (by decide)
    · exact absurd rfl hne
    · omega
  · intro i hi
    rcases i with _ | _ | i
    · decide
    · decide
    · simp at hi; omega
  · intro i hi
    rcases i with _ | _ | i
    · decide
    · decide
    · simp at hi; omega

theorem bus_res {z1 z2 : Int} {rs es : List Int} (h : SndRes busL busC [0, 0] 6 z1 z2 rs es) : z1 = 0 ∧ z2 = 0 ∧ rs = [0, 0, 1, 1, -1, -1] ∧ es = [2, 4] :=
  h.one (.inr ⟨by decide, .inr ⟨by decide, rfl, rfl, _, plays_bus, rfl, rfl⟩⟩)

theorem Times_bus (w : World) (v : Value) (hv : RowSl Fr.vals w busL v) : Calls Try.prog 7 #[v] w fun r w' => ∃ a c, r = .returned (.tuple #[.slice a 3 c, .agg #[.int .i64 0, .int .i64 0]]) ∧ RowSl nuV w' [4, 6, 7] (.slice a 3 c) ∧ Below w.heap.size w w' := by
  refine (Times_any w busL v hv).mono ?_
  rintro r w' ⟨ts, e, tv, h1, rfl, h2, h3⟩
  obtain ⟨rfl, rfl⟩ := h1.one bus_told
  obtain ⟨a, c, rfl⟩ := h2.len
  exact ⟨a, c, rfl, h2, h3⟩

theorem Send_bus (w : World) (v v1 v2 : Value) (hv : RowSl Fr.vals w busL v) (hv1 : RowSl Co.vals w busC v1) (hv2 : RowSl nuV w [0, 0] v2) : Calls Try.prog 8 #[v, v1, v2, .int .i64 6] w fun r w' => ∃ a c a2 c2, r = .returned (.tuple #[.agg #[.slice a 6 c, .slice a2 2 c2], .agg #[.int .i64 0, .int .i64 0]]) ∧ RowSl nuV w' [0, 0, 1, 1, -1, -1] (.slice a 6 c) ∧ Below w.heap.size w w' := by
  refine (Send_any w busL busC [0, 0] v v1 v2 6 hv hv1 hv2).mono ?_
  rintro r w' ⟨u1, u2, z1, z2, rs, es, rfl, hs, hres⟩
  obtain ⟨rfl, rfl, rfl, rfl⟩ := bus_res hs
  obtain ⟨a, c, a2, c2, rfl, rfl⟩ := hres.slices
  exact ⟨a, c, a2, c2, rfl, hres.rows.1, hres.1⟩

set_option maxRecDepth 20000 in
set_option maxHeartbeats 2000000 in
theorem bus_any (w : World) : Calls Try.prog 5 #[] w fun r w' => r = .returned (.bool true) ∧ Below w.heap.size w w' := by
  have hr0 : RowSl Fr.vals (w.alloc (.cells #[.int .i64 2, .int .i64 10, .int .i64 10, .int .i64 0, .int .i64 3, .int .i64 10, .int .i64 10, .int .i64 0, .int .i64 2, .int .i64 20, .int .i64 20, .int .i64 0] 35)) busL (.slice (some ⟨w.heap.size, 0, none⟩) 3 3) := row_new (f := Fr.vals) w busL 3 #[.int .i64 2, .int .i64 10, .int .i64 10, .int .i64 0, .int .i64 3, .int .i64 10, .int .i64 10, .int .i64 0, .int .i64 2, .int .i64 20, .int .i64 20, .int .i64 0] 35 rfl rfl
  have HT := Times_bus _ _ hr0
  have H0 : Hid (Below w.heap.size w (w.alloc (.cells #[.int .i64 2, .int .i64 10, .int .i64 10, .int .i64 0, .int .i64 3, .int .i64 10, .int .i64 10, .int .i64 0, .int .i64 2, .int .i64 20, .int .i64 20, .int .i64 0] 35)) ∧ RowSl Fr.vals (w.alloc (.cells #[.int .i64 2, .int .i64 10, .int .i64 10, .int .i64 0, .int .i64 3, .int .i64 10, .int .i64 10, .int .i64 0, .int .i64 2, .int .i64 20, .int .i64 20, .int .i64 0] 35)) busL (.slice (some ⟨w.heap.size, 0, none⟩) 3 3)) := ⟨below_new _ _, hr0⟩
  clear hr0
  go_enter Try.func5, Try.ntmps5
  go_upto_region 3 with (go_at_call 7; refine HT.mono ?_; rintro r w1 ⟨a1, c1, rfl, hr1, hb1⟩; have H1 : Hid (Below w.heap.size w (w1.alloc (.cells #[.int .i64 0, .int .i64 0] 29)) ∧ RowSl Fr.vals (w1.alloc (.cells #[.int .i64 0, .int .i64 0] 29)) busL (.slice (some ⟨w.heap.size, 0, none⟩) 3 3) ∧ RowSl nuV (w1.alloc (.cells #[.int .i64 0, .int .i64 0] 29)) [4, 6, 7] (.slice a1 3 c1) ∧ (w1.alloc (.cells #[.int .i64 0, .int .i64 0] 29)).heap[w1.heap.size]? = some (.cells #[.int .i64 0, .int .i64 0] 29 (0, 0))) := ⟨below_seq (below_seq H0.out.1 hb1) (below_new _ _), (H0.out.2.below hb1).below (below_new _ _), hr1.below (below_new _ _), heap_alloc_new _ _⟩; clear hb1 hr1 HT H0)
  generalize w1.alloc (.cells #[.int .i64 0, .int .i64 0] 29) = w2 at *
  generalize w1.heap.size = G1 at *
  have hs1 : RowSl Co.vals (w2.alloc (.cells #[.int .i64 2, .int .i64 0, .int .i64 0, .int .i64 1] 33)) busC (.slice (some ⟨w2.heap.size, 0, none⟩) 2 2) := row_new (f := Co.vals) w2 busC 2 #[.int .i64 2, .int .i64 0, .int .i64 0, .int .i64 1] 33 rfl rfl
  have hs2 : RowSl nuV ((w2.alloc (.cells #[.int .i64 2, .int .i64 0, .int .i64 0, .int .i64 1] 33)).alloc (.cells #[.int .i64 0, .int .i64 0] 3)) [0, 0] (.slice (some ⟨w2.heap.size + 1, 0, none⟩) 2 2) := by
    have := row_new (f := nuV) (w2.alloc (.cells #[.int .i64 2, .int .i64 0, .int .i64 0, .int .i64 1] 33)) [0, 0] 2 #[.int .i64 0, .int .i64 0] 3 rfl rfl
    simpa using this
  have HS := Send_bus ((w2.alloc (.cells #[.int .i64 2, .int .i64 0, .int .i64 0, .int .i64 1] 33)).alloc (.cells #[.int .i64 0, .int .i64 0] 3)) _ _ _ (H1.out.2.1.below (below_seq (below_new _ _) (below_new _ _))) (hs1.below (below_new _ _)) hs2
  have HB2 : Hid (Below w2.heap.size w2 ((w2.alloc (.cells #[.int .i64 2, .int .i64 0, .int .i64 0, .int .i64 1] 33)).alloc (.cells #[.int .i64 0, .int .i64 0] 3))) := below_seq (below_new _ _) (below_new _ _)
  clear hs1 hs2
  go_upto_region 4 with (go_at_call 8; refine HS.mono ?_; rintro r w3 ⟨a2, c2, a3, c3, rfl, hr3, hb3⟩; have hbz : Below w2.heap.size w2 w3 := below_seq HB2.out hb3; have H3 : Hid (Below w.heap.size w ((w3.alloc (.cells #[.slice a2 6 c2, .slice a3 2 c3] 37)).alloc (.cells #[.int .i64 0, .int .i64 0] 29)) ∧ RowSl nuV ((w3.alloc (.cells #[.slice a2 6 c2, .slice a3 2 c3] 37)).alloc (.cells #[.int .i64 0, .int .i64 0] 29)) [4, 6, 7] (.slice a1 3 c1) ∧ RowSl nuV ((w3.alloc (.cells #[.slice a2 6 c2, .slice a3 2 c3] 37)).alloc (.cells #[.int .i64 0, .int .i64 0] 29)) [0, 0, 1, 1, -1, -1] (.slice a2 6 c2) ∧ ((w3.alloc (.cells #[.slice a2 6 c2, .slice a3 2 c3] 37)).alloc (.cells #[.int .i64 0, .int .i64 0] 29)).heap[G1]? = some (.cells #[.int .i64 0, .int .i64 0] 29 (0, 0)) ∧ ((w3.alloc (.cells #[.slice a2 6 c2, .slice a3 2 c3] 37)).alloc (.cells #[.int .i64 0, .int .i64 0] 29)).heap[w3.heap.size]? = some (.cells #[.slice a2 6 c2, .slice a3 2 c3] 37 (0, 0)) ∧ ((w3.alloc (.cells #[.slice a2 6 c2, .slice a3 2 c3] 37)).alloc (.cells #[.int .i64 0, .int .i64 0] 29)).heap[w3.heap.size + 1]? = some (.cells #[.int .i64 0, .int .i64 0] 29 (0, 0))) := ⟨below_seq (below_seq H1.out.1 hbz) (below_seq (below_new _ _) (below_new _ _)), (H1.out.2.2.1.below hbz).below (below_seq (below_new _ _) (below_new _ _)), hr3.below (below_seq (below_new _ _) (below_new _ _)), ((below_seq (below_new _ _) (below_new _ _)).block _ (ltH ((hbz.block _ (ltH H1.out.2.2.2)).trans H1.out.2.2.2))).trans ((hbz.block _ (ltH H1.out.2.2.2)).trans H1.out.2.2.2), (Below.heap_alloc _ _ _ (by simp)).trans (heap_alloc_new _ _), by have := heap_alloc_new (w3.alloc (.cells #[.slice a2 6 c2, .slice a3 2 c3] 37)) (.cells #[.int .i64 0, .int .i64 0] 29); simpa using this⟩; clear hb3 hr3 hbz HS H1 HB2)
  generalize ((w3.alloc (.cells #[.slice a2 6 c2, .slice a3 2 c3] 37)).alloc (.cells #[.int .i64 0, .int .i64 0] 29)) = w4 at *
  generalize w3.heap.size = G2 at *
  have d1 := (cells_of (l := [_, _]) H3.out.2.2.2.1).1 0 _ rfl
  have l1 := ltH H3.out.2.2.2.1
  have hq1 : RowSl nuV (w4.alloc (.cells #[.int .i64 4, .int .i64 6, .int .i64 7] 3)) [4, 6, 7] (.slice (some ⟨w4.heap.size, 0, none⟩) 3 3) := row_new (f := nuV) w4 [4, 6, 7] 3 #[.int .i64 4, .int .i64 6, .int .i64 7] 3 rfl rfl
  have HS1 := SameN_any _ [4, 6, 7] _ _ (by decide) (H3.out.2.1.below (below_new _ _)) hq1
  go_wp2_with (go_at_call 15; refine HS1.mono ?_; rintro r w5 ⟨rfl, hb5⟩; have hbz : Below w4.heap.size w4 w5 := below_seq (below_new _ _) hb5; have H5 : Hid (Below w.heap.size w w5 ∧ RowSl nuV w5 [0, 0, 1, 1, -1, -1] (.slice a2 6 c2)) := ⟨below_seq H3.out.1 hbz, H3.out.2.2.1.below hbz⟩; have d2 := (cells_of (l := [_, _]) ((hbz.block _ (ltH H3.out.2.2.2.2.1)).trans H3.out.2.2.2.2.1)).1 0 _ rfl; have d3 := (cells_of (l := [_, _]) ((hbz.block _ (ltH H3.out.2.2.2.2.2)).trans H3.out.2.2.2.2.2)).1 0 _ rfl; have l2 := ltH ((hbz.block _ (ltH H3.out.2.2.2.2.1)).trans H3.out.2.2.2.2.1); have HS2 := SameN_any (w5.alloc (.cells #[.int .i64 0, .int .i64 0, .int .i64 1, .int .i64 1, .int .i64 (-1), .int .i64 (-1)] 3)) [0, 0, 1, 1, -1, -1] _ _ (by decide) (H5.out.2.below (below_new _ _)) (row_new (f := nuV) w5 [0, 0, 1, 1, -1, -1] 6 #[.int .i64 0, .int .i64 0, .int .i64 1, .int .i64 1, .int .i64 (-1), .int .i64 (-1)] 3 rfl rfl); clear hb5 hbz HS1 hq1 H3 d1 l1)
  go_wp2_with (go_at_call 15; refine HS2.mono ?_; rintro r w6 ⟨rfl, hb6⟩; have H6 : Hid (Below w.heap.size w w6) := below_seq (below_seq H5.out.1 (below_new _ _)) hb6; clear hb6)
  go_ret
  exact ⟨rfl, H6.out⟩
end Go.Proofs.Ytkafihaajpifoaj
