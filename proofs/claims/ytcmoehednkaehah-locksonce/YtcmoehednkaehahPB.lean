import Derived.Test.YtcmoehednkaehahPA
namespace Go.Proofs.Ytcmoehednkaehah
open Go.ChangeShapes Go.WideShapes Go.ChangeAt Go.RowKit

theorem pair_len (v0 v1 : Value) : ∀ y ∈ pairL v0 v1, y.acts.length ≤ 200 := by
  intro y hy
  simp only [pairL, List.mem_cons, List.not_mem_nil, or_false] at hy
  rcases hy with rfl | rfl
  · show 4 ≤ 200
    omega
  · show 3 ≤ 200
    omega

theorem pair_x (v0 v1 : Value) : (x0 (pairL v0 v1)).es.map En.x = pairL v0 v1 := rfl

theorem PlayPair3 (w : World) (v v0 v1 : Value) (hv : LkSl w (pairL v0 v1) v) : Calls Try.prog 9 #[v, .int .i64 3, .int .i64 6] w fun r w' => ∃ rv ev tv, r = .returned (.tuple #[.agg #[rv, ev, tv, .bool false], .agg #[.int .i64 0, .int .i64 0]]) ∧ Below w.heap.size w w' ∧ RowSl nuV w' [0, 0, 0, 0, 1, -1] rv ∧ RowSl nuV w' [4, 5] ev ∧ RowSl nuV w' [0, 0] tv := by
  have hs : ∀ k, k ≤ 6 → (playF 3 (pairL v0 v1) k).isSome = true := fun k hk => by
    have := some3 v0 v1
    rw [List.all_eq_true] at this
    exact this k (List.mem_range.2 (by omega))
  refine (Play_good3 (fun now runs x => playF 3 (pairL v0 v1) now = some (runs, x) ∧ x.es.map En.x = pairL v0 v1) w (pairL v0 v1) v hv (chk_pair v0 v1) 6 (by omega) ⟨rfl, pair_x v0 v1⟩ (play_tick (pair_len v0 v1) (by show 2 ≤ 100; omega) 3 (.inl rfl) 6 (by omega) hs)).mono ?_
  rintro r w' ⟨rv, ev, tv, runs, x, rfl, hp, hl, hi, -⟩
  have h := pair3 v0 v1
  rw [hi] at h
  simp only [Option.map_some, outF, Option.some.injEq, Prod.mk.injEq] at h
  obtain ⟨rfl, h2, h3, h4⟩ := h
  refine ⟨rv, ev, tv, ?_, hp.bel, hp.r, by rw [← h2]; exact hp.e, by rw [← h3]; exact hp.t⟩
  rw [show stuckF ((6 : Nat) : Int) x.es x.en false = false from h4]

theorem PlayPair1 (w : World) (v v0 v1 : Value) (hv : LkSl w (pairL v0 v1) v) : Calls Try.prog 9 #[v, .int .i64 1, .int .i64 6] w fun r w' => ∃ rv ev tv sk, r = .returned (.tuple #[.agg #[rv, ev, tv, .bool sk], .agg #[.int .i64 0, .int .i64 0]]) ∧ Below w.heap.size w w' ∧ RowSl nuV w' [0, 2] tv ∧ (∃ n c a, rv = .slice a n c) ∧ ∃ n c a, ev = .slice a n c := by
  have hs : ∀ k, k ≤ 6 → (playF 1 (pairL v0 v1) k).isSome = true := fun k hk => by
    have := some1 v0 v1
    rw [List.all_eq_true] at this
    exact this k (List.mem_range.2 (by omega))
  refine (Play_good1 (fun now runs x => playF 1 (pairL v0 v1) now = some (runs, x) ∧ x.es.map En.x = pairL v0 v1) w (pairL v0 v1) v hv (chk_pair v0 v1) 6 (by omega) ⟨rfl, pair_x v0 v1⟩ (play_tick (pair_len v0 v1) (by show 2 ≤ 100; omega) 1 (.inr rfl) 6 (by omega) hs)).mono ?_
  rintro r w' ⟨rv, ev, tv, runs, x, rfl, hp, hl, hi, -⟩
  have h := pair1 v0 v1
  rw [hi] at h
  simp only [Option.map_some, outF, Option.some.injEq] at h
  obtain ⟨a1, c1, e1⟩ := hp.r.len
  obtain ⟨a2, c2, e2⟩ := hp.e.len
  exact ⟨rv, ev, tv, _, rfl, hp.bel, by rw [← h]; exact hp.t, ⟨_, _, _, e1⟩, ⟨_, _, _, e2⟩⟩

theorem RowSl.len' {l : List Int} {w : World} {v : Value} (h : RowSl nuV w l v) : ∃ ad c, v = .slice ad l.length c := h.len

structure LkW (w W : World) (g1 g3 : Nat) (r1 e1 t1 r3 e3 t3 : Value) (sk : Bool) : Prop where
  bel : Below w.heap.size w W
  c1 : W.heap[g1]? = some (.cells #[r1, e1, t1, .bool false] 37 (0, 0))
  c3 : W.heap[g3]? = some (.cells #[r3, e3, t3, .bool sk] 37 (0, 0))
  k1 : RowSl nuV W [0, 0, 0, 0, 1, -1] r1
  k2 : RowSl nuV W [4, 5] e1
  k3 : RowSl nuV W [0, 0] t1
  k4 : RowSl nuV W [0, 2] t3

theorem LkW.grow {w W W' : World} {g1 g3 : Nat} {r1 e1 t1 r3 e3 t3 : Value} {sk : Bool} (h : LkW w W g1 g3 r1 e1 t1 r3 e3 t3 sk) (hb : Below W.heap.size W W') : LkW w W' g1 g3 r1 e1 t1 r3 e3 t3 sk :=
  ⟨below_seq h.bel hb, (hb.block _ (heap_lt h.c1)).trans h.c1, (hb.block _ (heap_lt h.c3)).trans h.c3, h.k1.below hb, h.k2.below hb, h.k3.below hb, h.k4.below hb⟩

theorem LkW.cells {w W : World} {g1 g3 : Nat} {r1 e1 t1 r3 e3 t3 : Value} {sk : Bool} (h : LkW w W g1 g3 r1 e1 t1 r3 e3 t3 sk) : W.cell? ⟨g1, 0, none⟩ = some r1 ∧ W.cell? ⟨g1, 1, none⟩ = some e1 ∧ W.cell? ⟨g1, 2, none⟩ = some t1 ∧ W.cell? ⟨g1, 3, none⟩ = some (.bool false) ∧ W.cell? ⟨g3, 2, none⟩ = some t3 ∧ g1 < W.heap.size ∧ g3 < W.heap.size := by
  obtain ⟨a, -, l1⟩ := cells_of (l := [_, _, _, _]) h.c1
  obtain ⟨b, -, l3⟩ := cells_of (l := [_, _, _, _]) h.c3
  exact ⟨a 0 _ rfl, a 1 _ rfl, a 2 _ rfl, a 3 _ rfl, b 2 _ rfl, l1, l3⟩

set_option maxRecDepth 20000 in
set_option maxHeartbeats 4000000 in
theorem locked_any (w : World) : Calls Try.prog 5 #[] w fun r w' => r = .returned (.bool true) ∧ Below w.heap.size w w' := by
  go_enter Try.func5, Try.ntmps5
  go_wp2_with (go_at_call 15; refine (pair_any _).mono ?_; rintro r w1 ⟨v, v0, v1, rfl, hv, hb⟩; have H1 : Hid (LkSl w1 (pairL v0 v1) v ∧ Below w.heap.size w w1) := ⟨hv, hb⟩; clear hv hb)
  go_wp2_with (go_at_call 9; refine (PlayPair3 _ v v0 v1 H1.out.1).mono ?_; rintro r w2 ⟨rv, ev, tv, rfl, hb, h1, h2, h3⟩; obtain ⟨a1, c1, rfl⟩ := h1.len'; obtain ⟨a2, c2, rfl⟩ := h2.len'; obtain ⟨a3, c3, rfl⟩ := h3.len'; have H2 : Hid (Below w.heap.size w w2 ∧ RowSl nuV w2 [0, 0, 0, 0, 1, -1] (.slice a1 6 c1) ∧ RowSl nuV w2 [4, 5] (.slice a2 2 c2) ∧ RowSl nuV w2 [0, 0] (.slice a3 2 c3)) := ⟨below_seq H1.out.2 hb, h1, h2, h3⟩; clear h1 h2 h3 hb H1)
  obtain ⟨wb, hwb⟩ : ∃ wb, (w2.alloc (.cells #[.slice a1 6 c1, .slice a2 2 c2, .slice a3 2 c3, .bool false] 37)).alloc (.cells #[.int .i64 0, .int .i64 0] 31) = wb := ⟨_, rfl⟩
  rw [hwb]
  have HB : Hid (Below w2.heap.size w2 wb ∧ wb.heap[w2.heap.size]? = some (.cells #[.slice a1 6 c1, .slice a2 2 c2, .slice a3 2 c3, .bool false] 37 (0, 0)) ∧ wb.heap[w2.heap.size + 1]? = some (.cells #[.int .i64 0, .int .i64 0] 31 (0, 0))) := by
    rw [← hwb]
    refine ⟨below_seq (below_new _ _) (below_new _ _), ?_, ?_⟩
    · rw [(below_new _ _).block _ (by simp)]
      exact heap_alloc_new _ _
    · have := heap_alloc_new (w2.alloc (.cells #[.slice a1 6 c1, .slice a2 2 c2, .slice a3 2 c3, .bool false] 37)) (.cells #[.int .i64 0, .int .i64 0] 31)
      simpa using this
  clear hwb
  go_wp2_with (go_at_call 15; refine (pair_any _).mono ?_; rintro r w3 ⟨v', v0', v1', rfl, hv, hb⟩; have H3 : Hid (LkSl w3 (pairL v0' v1') v' ∧ Below wb.heap.size wb w3) := ⟨hv, hb⟩; clear hv hb)
  go_wp2_with (go_at_call 9; refine (PlayPair1 _ v' v0' v1' H3.out.1).mono ?_; rintro r w4 ⟨rv, ev, tv, sk, rfl, hb, h1, ⟨n4, c4, a4, rfl⟩, ⟨n5, c5, a5, rfl⟩⟩; obtain ⟨a6, c6, rfl⟩ := h1.len'; have hbb := below_seq H3.out.2 hb; have H4 : Hid (Below w2.heap.size w2 w4 ∧ w4.heap[w2.heap.size]? = some (.cells #[.slice a1 6 c1, .slice a2 2 c2, .slice a3 2 c3, .bool false] 37 (0, 0)) ∧ RowSl nuV w4 [0, 2] (.slice a6 2 c6)) := ⟨below_seq HB.out.1 hbb, (hbb.block _ (heap_lt HB.out.2.1)).trans HB.out.2.1, h1⟩; obtain ⟨z1, -, z2⟩ := cells_of (l := [_, _]) ((hbb.block _ (heap_lt HB.out.2.2)).trans HB.out.2.2); have z0 := z1 0 _ rfl; obtain ⟨q, -, q9⟩ := cells_of (l := [_, _, _, _]) H4.out.2.1; have q0 := q 0 _ rfl; have q1 := q 1 _ rfl; have q2 := q 2 _ rfl; have q3 := q 3 _ rfl; have n1 : ¬ (w2.heap.size = w4.heap.size) := (by omega); have n2 : ¬ (w2.heap.size + 1 = w4.heap.size) := (by omega); have n3 : ¬ (w2.heap.size = w4.heap.size + 1) := (by omega); clear h1 hb H3 hbb HB z1 q)
  have HL : Hid (LkW w ((w4.alloc (.cells #[.slice a4 n4 c4, .slice a5 n5 c5, .slice a6 2 c6, .bool sk] 37)).alloc (.cells #[.int .i64 0, .int .i64 0] 31)) w2.heap.size w4.heap.size (.slice a1 6 c1) (.slice a2 2 c2) (.slice a3 2 c3) (.slice a4 n4 c4) (.slice a5 n5 c5) (.slice a6 2 c6) sk) := by
    have b1 := below_new w4 (.cells #[.slice a4 n4 c4, .slice a5 n5 c5, .slice a6 2 c6, .bool sk] 37)
    have b2 := below_new (w4.alloc (.cells #[.slice a4 n4 c4, .slice a5 n5 c5, .slice a6 2 c6, .bool sk] 37)) (.cells #[.int .i64 0, .int .i64 0] 31)
    have b3 := below_seq H4.out.1 (below_seq b1 b2)
    refine ⟨below_seq H2.out.1 b3, ((below_seq b1 b2).block _ (heap_lt H4.out.2.1)).trans H4.out.2.1, (b2.block _ (by simp)).trans (heap_alloc_new _ _), H2.out.2.1.below b3, H2.out.2.2.1.below b3, H2.out.2.2.2.below b3, H4.out.2.2.below (below_seq b1 b2)⟩
  clear z0 z2 q0 q1 q2 q3 q9 n1 n2 n3 H4 H2
  obtain ⟨wc, hwc⟩ : ∃ wc, (w4.alloc (.cells #[.slice a4 n4 c4, .slice a5 n5 c5, .slice a6 2 c6, .bool sk] 37)).alloc (.cells #[.int .i64 0, .int .i64 0] 31) = wc := ⟨_, rfl⟩
  rw [hwc] at HL
  rw [hwc]
  have ec : w4.heap.size + 1 + 1 = wc.heap.size := by rw [← hwc]; simp
  clear hwc
  go_wp2_with (go_at_call 10; refine (SameN_any _ [0, 0, 0, 0, 1, -1] _ _ (by decide) (HL.out.k1.below (below_new _ _)) (row_at wc _ _ 6 _ 3 ec.symm rfl rfl)).mono ?_; rintro r w5 ⟨rfl, hb⟩; have H5 : Hid (LkW w w5 w2.heap.size w4.heap.size (.slice a1 6 c1) (.slice a2 2 c2) (.slice a3 2 c3) (.slice a4 n4 c4) (.slice a5 n5 c5) (.slice a6 2 c6) sk) := (HL.out.grow (below_new _ _)).grow hb; clear ec hb; obtain ⟨y0, y1, y2, y3, y4, l1, l3⟩ := H5.out.cells; clear HL)
  go_wp2_with (go_at_call 10; refine (SameN_any _ [4, 5] _ _ (by decide) (H5.out.k2.below (below_new _ _)) (row_new _ _ _ _ _ rfl rfl)).mono ?_; rintro r w6 ⟨rfl, hb⟩; have H6 : Hid (LkW w w6 w2.heap.size w4.heap.size (.slice a1 6 c1) (.slice a2 2 c2) (.slice a3 2 c3) (.slice a4 n4 c4) (.slice a5 n5 c5) (.slice a6 2 c6) sk) := (H5.out.grow (below_new _ _)).grow hb; clear y0 y1 y2 y3 y4 l1 l3 hb; obtain ⟨y0, y1, y2, y3, y4, l1, l3⟩ := H6.out.cells; clear H5)
  go_wp2_with (go_at_call 10; refine (SameN_any _ [0, 0] _ _ (by decide) (H6.out.k3.below (below_new _ _)) (row_new _ _ _ _ _ rfl rfl)).mono ?_; rintro r w7 ⟨rfl, hb⟩; have H7 : Hid (LkW w w7 w2.heap.size w4.heap.size (.slice a1 6 c1) (.slice a2 2 c2) (.slice a3 2 c3) (.slice a4 n4 c4) (.slice a5 n5 c5) (.slice a6 2 c6) sk) := (H6.out.grow (below_new _ _)).grow hb; clear y0 y1 y2 y3 y4 l1 l3 hb; obtain ⟨y0, y1, y2, y3, y4, l1, l3⟩ := H7.out.cells; clear H6)
  go_wp2_with (go_at_call 10; refine (SameN_any _ [0, 2] _ _ (by decide) (H7.out.k4.below (below_new _ _)) (row_new _ _ _ _ _ rfl rfl)).mono ?_; rintro r w8 ⟨rfl, hb⟩; have H8 : Hid (LkW w w8 w2.heap.size w4.heap.size (.slice a1 6 c1) (.slice a2 2 c2) (.slice a3 2 c3) (.slice a4 n4 c4) (.slice a5 n5 c5) (.slice a6 2 c6) sk) := (H7.out.grow (below_new _ _)).grow hb; clear y0 y1 y2 y3 y4 l1 l3 hb; obtain ⟨y0, y1, y2, y3, y4, l1, l3⟩ := H8.out.cells; clear H7)
  go_ret
  exact ⟨rfl, H8.out.bel⟩
end Go.Proofs.Ytcmoehednkaehah
