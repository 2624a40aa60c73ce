import Derived.Test.YtcmoehednkaehahGSPi
import Derived.Test.YtcmoehednkaehahGSPx
import Derived.Test.YtcmoehednkaehahGSRe
import Derived.Test.YtcmoehednkaehahGSRw
import Derived.Test.YtcmoehednkaehahGSRt
import Derived.Test.YtcmoehednkaehahGSRk
import Derived.Test.YtcmoehednkaehahGSRd
import Derived.Test.YtcmoehednkaehahGSRg
import Derived.Test.YtcmoehednkaehahGSC
import Derived.Test.YtcmoehednkaehahGOW
import Derived.Test.YtcmoehednkaehahGLS
import Derived.Test.YtcmoehednkaehahGSN
import Derived.Test.YtcmoehednkaehahGLX
namespace Go.Proofs.Ytcmoehednkaehah
open Go.ChangeShapes Go.WideShapes Go.ChangeAt Go.RowKit

/-- punctualref.PlayLocked. -/
theorem PlayDoc_good (w : World) (l : List Lj) (v : Value) (hv : LkSl w l v) (hok : chkLk l = (0, 0)) (pr : Int) (hpr : pr = 1 ∨ pr = 2 ∨ pr = 3) (U : Nat) (hU : U ≤ 20000) :
    Calls Try.prog 8 #[v, .int .i64 pr, .int .i64 (U : Int)] w fun r w' => ∃ rv ev tv runs x, r = .returned (.tuple #[.agg #[rv, ev, tv, .bool (stuckF U x.es x.en false)], .agg #[.int .i64 0, .int .i64 0]]) ∧ PlayW w w' l.length rv ev tv runs x ∧ runs.length = U ∧ Rn pr l U runs x :=
  SMp.2 ⟨SOp.2.2.2 ⟨so_idle⟩ ⟨SQp.2.2.2.2.2.2 ⟨sq_empty⟩ ⟨sq_worked⟩ ⟨sq_work⟩ ⟨sq_take⟩ ⟨sq_wait⟩ ⟨sq_give⟩⟩ ⟨so_exit⟩⟩ w l v hv hok pr hpr U hU
end Go.Proofs.Ytcmoehednkaehah
namespace Go.Proofs.Ytcmoehednkaehah
open Go.ChangeShapes Go.WideShapes Go.ChangeAt Go.RowKit

theorem pair_len (v0 v1 : Value) : ∀ y ∈ pairL v0 v1, y.acts.length ≤ 200 := by
  intro y hy
  simp only [pairL, List.mem_cons, List.not_mem_nil, or_false] at hy
  rcases hy with rfl | rfl
  · show 4 ≤ 200
    omega
  · show 3 ≤ 200
    omega

theorem pair_x (v0 v1 : Value) : (x0 (pairL v0 v1)).es.map En.x = pairL v0 v1 := rfl

theorem PlayPair3 (w : World) (v v0 v1 : Value) (hv : LkSl w (pairL v0 v1) v) : Calls Try.prog 9 #[v, .int .i64 3, .int .i64 6] w fun r w' => ∃ rv ev tv, r = .returned (.tuple #[.agg #[rv, ev, tv, .bool false], .agg #[.int .i64 0, .int .i64 0]]) ∧ Below w.heap.size w w' ∧ RowSl nuV w' [0, 0, 0, 0, 1, -1] rv ∧ RowSl nuV w' [4, 5] ev ∧ RowSl nuV w' [0, 0] tv := by
  have hs : ∀ k, k ≤ 6 → (playF 3 (pairL v0 v1) k).isSome = true := fun k hk => by
    have := some3 v0 v1
    rw [List.all_eq_true] at this
    exact this k (List.mem_range.2 (by omega))
  refine (Play_good3 (fun now runs x => playF 3 (pairL v0 v1) now = some (runs, x) ∧ x.es.map En.x = pairL v0 v1) w (pairL v0 v1) v hv (chk_pair v0 v1) 6 (by omega) ⟨rfl, pair_x v0 v1⟩ (play_tick (pair_len v0 v1) (by show 2 ≤ 100; omega) 3 (.inl rfl) 6 (by omega) hs)).mono ?_
  rintro r w' ⟨rv, ev, tv, runs, x, rfl, hp, hl, hi, -⟩
  have h := pair3 v0 v1
  rw [hi] at h
  simp only [Option.map_some, outF, Option.some.injEq, Prod.mk.injEq] at h
  obtain ⟨rfl, h2, h3, h4⟩ := h
  refine ⟨rv, ev, tv, ?_, hp.bel, hp.r, by rw [← h2]; exact hp.e, by rw [← h3]; exact hp.t⟩
  rw [show stuckF ((6 : Nat) : Int) x.es x.en false = false from h4]

theorem PlayPair1 (w : World) (v v0 v1 : Value) (hv : LkSl w (pairL v0 v1) v) : Calls Try.prog 9 #[v, .int .i64 1, .int .i64 6] w fun r w' => ∃ rv ev tv sk, r = .returned (.tuple #[.agg #[rv, ev, tv, .bool sk], .agg #[.int .i64 0, .int .i64 0]]) ∧ Below w.heap.size w w' ∧ RowSl nuV w' [0, 2] tv ∧ (∃ n c a, rv = .slice a n c) ∧ ∃ n c a, ev = .slice a n c := by
  have hs : ∀ k, k ≤ 6 → (playF 1 (pairL v0 v1) k).isSome = true := fun k hk => by
    have := some1 v0 v1
    rw [List.all_eq_true] at this
    exact this k (List.mem_range.2 (by omega))
  refine (Play_good1 (fun now runs x => playF 1 (pairL v0 v1) now = some (runs, x) ∧ x.es.map En.x = pairL v0 v1) w (pairL v0 v1) v hv (chk_pair v0 v1) 6 (by omega) ⟨rfl, pair_x v0 v1⟩ (play_tick (pair_len v0 v1) (by show 2 ≤ 100; omega) 1 (.inr rfl) 6 (by omega) hs)).mono ?_
  rintro r w' ⟨rv, ev, tv, runs, x, rfl, hp, hl, hi, -⟩
  have h := pair1 v0 v1
  rw [hi] at h
  simp only [Option.map_some, outF, Option.some.injEq] at h
  obtain ⟨a1, c1, e1⟩ := hp.r.len
  obtain ⟨a2, c2, e2⟩ := hp.e.len
  exact ⟨rv, ev, tv, _, rfl, hp.bel, by rw [← h]; exact hp.t, ⟨_, _, _, e1⟩, ⟨_, _, _, e2⟩⟩

theorem RowSl.len' {l : List Int} {w : World} {v : Value} (h : RowSl nuV w l v) : ∃ ad c, v = .slice ad l.length c := h.len

structure LkW (w W : World) (g1 g3 : Nat) (r1 e1 t1 r3 e3 t3 : Value) (sk : Bool) : Prop where
  bel : Below w.heap.size w W
  c1 : W.heap[g1]? = some (.cells #[r1, e1, t1, .bool false] 37 (0, 0))
  c3 : W.heap[g3]? = some (.cells #[r3, e3, t3, .bool sk] 37 (0, 0))
  k1 : RowSl nuV W [0, 0, 0, 0, 1, -1] r1
  k2 : RowSl nuV W [4, 5] e1
  k3 : RowSl nuV W [0, 0] t1
  k4 : RowSl nuV W [0, 2] t3

theorem LkW.grow {w W W' : World} {g1 g3 : Nat} {r1 e1 t1 r3 e3 t3 : Value} {sk : Bool} (h : LkW w W g1 g3 r1 e1 t1 r3 e3 t3 sk) (hb : Below W.heap.size W W') : LkW w W' g1 g3 r1 e1 t1 r3 e3 t3 sk :=
  ⟨below_seq h.bel hb, (hb.block _ (heap_lt h.c1)).trans h.c1, (hb.block _ (heap_lt h.c3)).trans h.c3, h.k1.below hb, h.k2.below hb, h.k3.below hb, h.k4.below hb⟩

theorem LkW.cells {w W : World} {g1 g3 : Nat} {r1 e1 t1 r3 e3 t3 : Value} {sk : Bool} (h : LkW w W g1 g3 r1 e1 t1 r3 e3 t3 sk) : W.cell? ⟨g1, 0, none⟩ = some r1 ∧ W.cell? ⟨g1, 1, none⟩ = some e1 ∧ W.cell? ⟨g1, 2, none⟩ = some t1 ∧ W.cell? ⟨g1, 3, none⟩ = some (.bool false) ∧ W.cell? ⟨g3, 2, none⟩ = some t3 ∧ g1 < W.heap.size ∧ g3 < W.heap.size := by
  obtain ⟨a, -, l1⟩ := cells_of (l := [_, _, _, _]) h.c1
  obtain ⟨b, -, l3⟩ := cells_of (l := [_, _, _, _]) h.c3
  exact ⟨a 0 _ rfl, a 1 _ rfl, a 2 _ rfl, a 3 _ rfl, b 2 _ rfl, l1, l3⟩

set_option maxRecDepth 20000 in
set_option maxHeartbeats 4000000 in
theorem locked_any (w : World) : Calls Try.prog 5 #[] w fun r w' => r = .returned (.bool true) ∧ Below w.heap.size w w' := by
  go_enter Try.func5, Try.ntmps5
  go_wp2_with (go_at_call 15; refine (pair_any _).mono ?_; rintro r w1 ⟨v, v0, v1, rfl, hv, hb⟩; have H1 : Hid (LkSl w1 (pairL v0 v1) v ∧ Below w.heap.size w w1) := ⟨hv, hb⟩; clear hv hb)
  go_wp2_with (go_at_call 9; refine (PlayPair3 _ v v0 v1 H1.out.1).mono ?_; rintro r w2 ⟨rv, ev, tv, rfl, hb, h1, h2, h3⟩; obtain ⟨a1, c1, rfl⟩ := h1.len'; obtain ⟨a2, c2, rfl⟩ := h2.len'; obtain ⟨a3, c3, rfl⟩ := h3.len'; have H2 : Hid (Below w.heap.size w w2 ∧ RowSl nuV w2 [0, 0, 0, 0, 1, -1] (.slice a1 6 c1) ∧ RowSl nuV w2 [4, 5] (.slice a2 2 c2) ∧ RowSl nuV w2 [0, 0] (.slice a3 2 c3)) := ⟨below_seq H1.out.2 hb, h1, h2, h3⟩; clear h1 h2 h3 hb H1)
  obtain ⟨wb, hwb⟩ : ∃ wb, (w2.alloc (.cells #[.slice a1 6 c1, .slice a2 2 c2, .slice a3 2 c3, .bool false] 37)).alloc (.cells #[.int .i64 0, .int .i64 0] 31) = wb := ⟨_, rfl⟩
  rw [hwb]
  have HB : Hid (Below w2.heap.size w2 wb ∧ wb.heap[w2.heap.size]? = some (.cells #[.slice a1 6 c1, .slice a2 2 c2, .slice a3 2 c3, .bool false] 37 (0, 0)) ∧ wb.heap[w2.heap.size + 1]? = some (.cells #[.int .i64 0, .int .i64 0] 31 (0, 0))) := by
    rw [← hwb]
    refine ⟨below_seq (below_new _ _) (below_new _ _), ?_, ?_⟩
    · rw [(below_new _ _).block _ (by simp)]
      exact heap_alloc_new _ _
    · have := heap_alloc_new (w2.alloc (.cells #[.slice a1 6 c1, .slice a2 2 c2, .slice a3 2 c3, .bool false] 37)) (.cells #[.int .i64 0, .int .i64 0] 31)
      simpa using this
  clear hwb
  go_wp2_with (go_at_call 15; refine (pair_any _).mono ?_; rintro r w3 ⟨v', v0', v1', rfl, hv, hb⟩; have H3 : Hid (LkSl w3 (pairL v0' v1') v' ∧ Below wb.heap.size wb w3) := ⟨hv, hb⟩; clear hv hb)
  go_wp2_with (go_at_call 9; refine (PlayPair1 _ v' v0' v1' H3.out.1).mono ?_; rintro r w4 ⟨rv, ev, tv, sk, rfl, hb, h1, ⟨n4, c4, a4, rfl⟩, ⟨n5, c5, a5, rfl⟩⟩; obtain ⟨a6, c6, rfl⟩ := h1.len'; have hbb := below_seq H3.out.2 hb; have H4 : Hid (Below w2.heap.size w2 w4 ∧ w4.heap[w2.heap.size]? = some (.cells #[.slice a1 6 c1, .slice a2 2 c2, .slice a3 2 c3, .bool false] 37 (0, 0)) ∧ RowSl nuV w4 [0, 2] (.slice a6 2 c6)) := ⟨below_seq HB.out.1 hbb, (hbb.block _ (heap_lt HB.out.2.1)).trans HB.out.2.1, h1⟩; obtain ⟨z1, -, z2⟩ := cells_of (l := [_, _]) ((hbb.block _ (heap_lt HB.out.2.2)).trans HB.out.2.2); have z0 := z1 0 _ rfl; obtain ⟨q, -, q9⟩ := cells_of (l := [_, _, _, _]) H4.out.2.1; have q0 := q 0 _ rfl; have q1 := q 1 _ rfl; have q2 := q 2 _ rfl; have q3 := q 3 _ rfl; have n1 : ¬ (w2.heap.size = w4.heap.size) := (by omega); have n2 : ¬ (w2.heap.size + 1 = w4.heap.size) := (by omega); have n3 : ¬ (w2.heap.size = w4.heap.size + 1) := (by omega); clear h1 hb H3 hbb HB z1 q)
  have HL : Hid (LkW w ((w4.alloc (.cells #[.slice a4 n4 c4, .slice a5 n5 c5, .slice a6 2 c6, .bool sk] 37)).alloc (.cells #[.int .i64 0, .int .i64 0] 31)) w2.heap.size w4.heap.size (.slice a1 6 c1) (.slice a2 2 c2) (.slice a3 2 c3) (.slice a4 n4 c4) (.slice a5 n5 c5) (.slice a6 2 c6) sk) := by
    have b1 := below_new w4 (.cells #[.slice a4 n4 c4, .slice a5 n5 c5, .slice a6 2 c6, .bool sk] 37)
    have b2 := below_new (w4.alloc (.cells #[.slice a4 n4 c4, .slice a5 n5 c5, .slice a6 2 c6, .bool sk] 37)) (.cells #[.int .i64 0, .int .i64 0] 31)
    have b3 := below_seq H4.out.1 (below_seq b1 b2)
    refine ⟨below_seq H2.out.1 b3, ((below_seq b1 b2).block _ (heap_lt H4.out.2.1)).trans H4.out.2.1, (b2.block _ (by simp)).trans (heap_alloc_new _ _), H2.out.2.1.below b3, H2.out.2.2.1.below b3, H2.out.2.2.2.below b3, H4.out.2.2.below (below_seq b1 b2)⟩
  clear z0 z2 q0 q1 q2 q3 q9 n1 n2 n3 H4 H2
  obtain ⟨wc, hwc⟩ : ∃ wc, (w4.alloc (.cells #[.slice a4 n4 c4, .slice a5 n5 c5, .slice a6 2 c6, .bool sk] 37)).alloc (.cells #[.int .i64 0, .int .i64 0] 31) = wc := ⟨_, rfl⟩
  rw [hwc] at HL
  rw [hwc]
  have ec : w4.heap.size + 1 + 1 = wc.heap.size := by rw [← hwc]; simp
  clear hwc
  go_wp2_with (go_at_call 10; refine (SameN_any _ [0, 0, 0, 0, 1, -1] _ _ (by decide) (HL.out.k1.below (below_new _ _)) (row_at wc _ _ 6 _ 3 ec.symm rfl rfl)).mono ?_; rintro r w5 ⟨rfl, hb⟩; have H5 : Hid (LkW w w5 w2.heap.size w4.heap.size (.slice a1 6 c1) (.slice a2 2 c2) (.slice a3 2 c3) (.slice a4 n4 c4) (.slice a5 n5 c5) (.slice a6 2 c6) sk) := (HL.out.grow (below_new _ _)).grow hb; clear ec hb; obtain ⟨y0, y1, y2, y3, y4, l1, l3⟩ := H5.out.cells; clear HL)
  go_wp2_with (go_at_call 10; refine (SameN_any _ [4, 5] _ _ (by decide) (H5.out.k2.below (below_new _ _)) (row_new _ _ _ _ _ rfl rfl)).mono ?_; rintro r w6 ⟨rfl, hb⟩; have H6 : Hid (LkW w w6 w2.heap.size w4.heap.size (.slice a1 6 c1) (.slice a2 2 c2) (.slice a3 2 c3) (.slice a4 n4 c4) (.slice a5 n5 c5) (.slice a6 2 c6) sk) := (H5.out.grow (below_new _ _)).grow hb; clear y0 y1 y2 y3 y4 l1 l3 hb; obtain ⟨y0, y1, y2, y3, y4, l1, l3⟩ := H6.out.cells; clear H5)
  go_wp2_with (go_at_call 10; refine (SameN_any _ [0, 0] _ _ (by decide) (H6.out.k3.below (below_new _ _)) (row_new _ _ _ _ _ rfl rfl)).mono ?_; rintro r w7 ⟨rfl, hb⟩; have H7 : Hid (LkW w w7 w2.heap.size w4.heap.size (.slice a1 6 c1) (.slice a2 2 c2) (.slice a3 2 c3) (.slice a4 n4 c4) (.slice a5 n5 c5) (.slice a6 2 c6) sk) := (H6.out.grow (below_new _ _)).grow hb; clear y0 y1 y2 y3 y4 l1 l3 hb; obtain ⟨y0, y1, y2, y3, y4, l1, l3⟩ := H7.out.cells; clear H6)
  go_wp2_with (go_at_call 10; refine (SameN_any _ [0, 2] _ _ (by decide) (H7.out.k4.below (below_new _ _)) (row_new _ _ _ _ _ rfl rfl)).mono ?_; rintro r w8 ⟨rfl, hb⟩; have H8 : Hid (LkW w w8 w2.heap.size w4.heap.size (.slice a1 6 c1) (.slice a2 2 c2) (.slice a3 2 c3) (.slice a4 n4 c4) (.slice a5 n5 c5) (.slice a6 2 c6) sk) := (H7.out.grow (below_new _ _)).grow hb; clear y0 y1 y2 y3 y4 l1 l3 hb; obtain ⟨y0, y1, y2, y3, y4, l1, l3⟩ := H8.out.cells; clear H7)
  go_ret
  exact ⟨rfl, H8.out.bel⟩
end Go.Proofs.Ytcmoehednkaehah
namespace Go.Proofs.Ytcmoehednkaehah
open Go.ChangeShapes Go.WideShapes Go.ChangeAt Go.RowKit

theorem bump_none : ∀ (es : List En) (ws : List Int), (∀ e ∈ es, e.wt = -1) → bumpF es ws = ws
  | [], _, _ => rfl
  | _ :: _, [], _ => rfl
  | e :: r, z :: q, h => by rw [bumpF, if_pos (h e List.mem_cons_self), bump_none r q (fun e he => h e (List.mem_cons_of_mem _ he))]

theorem stuck_none (t : Int) : ∀ (es : List En) (en : List Int), (∀ e ∈ es, e.wt = -1) → stuckF t es en false = false
  | [], _, _ => rfl
  | _ :: _, [], _ => rfl
  | e :: r, z :: q, h => by
    rw [stuckF, stuck_none t r q (fun e he => h e (List.mem_cons_of_mem _ he)), if_pos (h e List.mem_cons_self)]
    split <;> (try split) <;> rfl

/-- locks.Play by ceilings: what is true of it. -/
theorem Play_once (w : World) (l : List Lj) (v : Value) (hv : LkSl w l v) (hok : chkLk l = (0, 0)) (U : Nat) (hU : U ≤ 20000) :
    Calls Try.prog 9 #[v, .int .i64 3, .int .i64 (U : Int)] w fun r w' => ∃ rv ev tv runs x, r = .returned (.tuple #[.agg #[rv, ev, tv, .bool false], .agg #[.int .i64 0, .int .i64 0]]) ∧ PlayW w w' l.length rv ev tv runs x ∧ runs.length = U ∧ G l U runs (nrm x) := by
  have ok : Ok l := ok_of (by rw [hok])
  refine (Play_good3 (fun now runs x => G l now runs (nrm x)) w l v hv hok U hU ?_ ?_).mono ?_
  · have h : nrm (x0 l) = x0 l := by
      unfold nrm x0
      dsimp only
      rw [List.map_map]
      rfl
    show G l 0 [] (nrm (x0 l))
    rw [h]
    exact G.start ok
  · intro w0 w' A B now runs hacts hlt hlen hti
    refine tick_gen (fun now runs x => G l now runs (nrm x)) (fun f x' => G l (now + 1) (runs ++ [f]) (nrm x')) 3 (topsF l) l.length w0 w' A B now runs ok.few (by omega) hti ?_ ?_
    · intro A' w2 rv x hr g
      exact begin_any ok w0 w2 A' rv x hr hacts now (by omega) runs g
    · intro f x' g
      have hw : ∀ e ∈ x'.es, e.wt = -1 := fun e he => g.wt (nac e) (List.mem_map.2 ⟨e, he, rfl⟩)
      have hws : x'.ws = List.replicate l.length 0 := g.ws
      refine ⟨fun z hz => ?_, ?_⟩
      · rw [hws] at hz
        have := (List.mem_replicate.1 hz).2
        omega
      · rw [bump_none _ _ hw]
        exact g
  · rintro r w' ⟨rv, ev, tv, runs, x, rfl, h1, h2, h3⟩
    refine ⟨rv, ev, tv, runs, x, ?_, h1, h2, h3⟩
    rw [stuck_none _ _ _ (fun e he => h3.wt (nac e) (List.mem_map.2 ⟨e, he, rfl⟩))]

/-- What the statement asks of each job. -/
theorem G.last {l : List Lj} {U : Nat} {runs : List Int} {x : Rs} (g : G l U runs x) {j : Nat} {xj : Lj} {z : Int} (hj : l[j]? = some xj) (hz : x.en[j]? = some z) (h0 : 0 ≤ xj.a) :
    (z = -1 ∨ (0 ≤ z ∧ z ≤ U)) ∧ heldF l runs xj.p xj.a.toNat (if z < 0 then U else z.toNat) ≤ mostF xj.p l := by
  obtain ⟨e, he⟩ := at_lt g.len (List.getElem?_eq_some_iff.1 hj).1
  rcases g.st j e z he hz with ⟨rfl, -⟩ | ⟨h1, h2, -⟩
  · refine ⟨.inl rfl, ?_⟩
    rw [if_pos (by omega)]
    by_cases ha : xj.a ≤ U
    · exact (g.up j xj hj hz ha).1
    · rw [heldF_none _ _ _ _ _ (by omega)]
      exact mostF_nonneg _ _
  · refine ⟨.inr ⟨h1, h2⟩, ?_⟩
    rw [if_neg (by omega)]
    exact g.dn j xj z hj hz (by omega)
end Go.Proofs.Ytcmoehednkaehah
namespace Go.Proofs.Ytcmoehednkaehah
open Go.ChangeShapes Go.WideShapes Go.ChangeAt Go.RowKit

theorem Cop.block_lt {w W : World} {js : List Lj} {ov : Value} (h : Cop w W js ov) {k : Nat} (hk : ov.ownBlock = some k) : k < W.heap.size := by
  obtain ⟨-, ⟨e, -⟩ | ⟨g, cap, cur, e, -, hg, -⟩⟩ := h.own
  · rw [e] at hk; cases hk
  · rw [e] at hk; cases hk; exact (Array.getElem?_eq_some_iff.1 hg).1

theorem Cop.block_low {w W : World} {js : List Lj} {ov : Value} (h : Cop w W js ov) {k : Nat} (hk : ov.ownBlock = some k) : w.heap.size ≤ k := by
  obtain ⟨-, ⟨e, -⟩ | ⟨g, cap, cur, e, hB, -⟩⟩ := h.own
  · rw [e] at hk; cases hk
  · rw [e] at hk; cases hk; exact hB

set_option maxRecDepth 20000 in
set_option maxHeartbeats 4000000 in
/-- punctualsame.Acts. -/
theorem Acts_any (w : World) (l : List Lj) (v : Value) (hl : l.length ≤ 5000) (hs : ∀ x ∈ l, x.acts.length * 16 ≤ 140737488355328) (hv : LkSl w l v) :
    Calls Try.prog 7 #[v] w fun r w' => ∃ u js, r = .returned u ∧ js.map Lj.core = l.map Lj.core ∧ LkSl w' js u ∧ Below w.heap.size w w' ∧ (∀ k, u.ownBlock = some k → w.heap.size ≤ k) ∧ ∀ x ∈ js, ∀ k, x.v.ownBlock = some k → w.heap.size ≤ k := by
  obtain ⟨⟨ad, c, rfl, -, hcap, hrow⟩, hacts⟩ := hv
  have HR : Hid ((∀ W, Below w.heap.size w W → (l = [] ∨ ∃ b o, ad = some ⟨b, o, none⟩ ∧ ∀ q u, (l.flatMap Lj.vals)[q]? = some u → W.cell? ⟨b, o + q, none⟩ = some u)) ∧ (∀ x ∈ l, RowSl Ac.vals w x.acts x.v) ∧ ∀ x ∈ l, x.acts.length * 16 ≤ 140737488355328) := ⟨fun W hb => hrow.imp id (fun ⟨b, o, e, h⟩ => ⟨b, o, e, fun q u hq => below_cell hb (h q u hq)⟩), hacts, hs⟩
  clear hrow hacts hs
  go_enter Try.func7, Try.ntmps7
  go_wp2_with fail
  go_loopw [3, 8] (fun ov i wr => ∃ (j : Nat) (js : List Lj), j ≤ l.length ∧ i = .int .i64 j ∧ Cop w wr js ov ∧ js.map Lj.core = (l.take j).map Lj.core) (fun _ i _ => l.length - (intOf i).toNat)
  case atStart => exact ⟨0, [], Nat.zero_le _, rfl, ⟨Below.refl _ _, ⟨rfl, .inl ⟨rfl, rfl⟩⟩, fun x hx => by simp at hx, fun x hx => by simp at hx, fun x hx => by simp at hx, fun x hx => by simp at hx⟩, rfl⟩
  case round =>
    obtain ⟨j, js, hj, rfl, hc, hq⟩ := hrel
    have hjs : js.length = j := by
      have := congrArg List.length hq
      simp at this
      omega
    subst hjs
    obtain ⟨oad, oc, rfl⟩ := owns_value hc.own
    by_cases hlt : js.length < l.length
    · obtain ⟨x, hx, hd⟩ := drop_at hlt
      rcases HR.out.1 wr hc.bel with h | ⟨b, o, rfl, hrow⟩
      · rw [h] at hlt; simp at hlt
      have ha := lj_at hrow hx
      have hmem := List.mem_of_getElem? hx
      have hac := (HR.out.2.1 x hmem).below hc.bel
      have hsz := HR.out.2.2 x hmem
      obtain ⟨xa, xp, xacts, xv⟩ := x
      dsimp only at hac hsz
      obtain ⟨aad, ac, rfl⟩ := hac.len
      obtain ⟨c0, c1, c2⟩ := ha
      dsimp only at c0 c1 c2
      have lb : b < wr.heap.size := World.block_lt_of_cell? _ _ c0
      have hji : (js.length : Int) < (l.length : Int) := by omega
      obtain ⟨u, W2, hrun, hu, hb2, hub⟩ := copyActs (wr.alloc (.cells #[.int .i64 xa, .int .i64 xp, .slice aad xacts.length ac] 47)) xacts aad ac hsz (hac.below (below_new _ _))
      obtain ⟨uad, uc, rfl⟩ := hu.len
      have hjb : W2.heap[wr.heap.size]? = some (.cells #[.int .i64 xa, .int .i64 xp, .slice aad xacts.length ac] 47 (0, 0)) := (hb2.block _ (by simp)).trans (heap_alloc_new _ _)
      obtain ⟨jc, jf, jl⟩ := cells_of (l := [_, _, _]) hjb
      have jc0 := jc 0 _ rfl
      have jc1 := jc 1 _ rfl
      have jc2 := jc 2 _ rfl
      have jf2 := jf 2
      have hB3 : Below wr.heap.size wr (W2.setCell ⟨wr.heap.size, 2, none⟩ (.slice uad xacts.length uc)) := (below_seq (below_new wr _) hb2).setCell (Nat.le_refl _) _
      have hub' : ∀ k, (Value.slice uad xacts.length uc).ownBlock = some k → wr.heap.size < k ∧ k < W2.heap.size := fun k hk => by
        have h7 := hub k hk
        simp at h7
        omega
      have hu3 : RowSl Ac.vals (W2.setCell ⟨wr.heap.size, 2, none⟩ (.slice uad xacts.length uc)) xacts (.slice uad xacts.length uc) := hu.keep fun k hk => Below.heap_setCell _ _ _ _ (by have := hub' k hk; show ¬ (k = wr.heap.size); omega)
      obtain ⟨ov', W4, hrun2, hc4⟩ := (hc.grow hB3).push ⟨xa, xp, xacts, .slice uad xacts.length uc⟩ (by omega) hu3 rfl (fun k hk => ⟨by have := hub' k hk; simp; omega, fun e => by have h7 := hc.block_lt e; have h8 := hub' k hk; omega⟩) (fun k hk => by have h8 := hub' k hk; have h9 := hc.bel.size; omega)
      rw [show (wr.alloc (.cells #[.int .i64 xa, .int .i64 xp, .slice aad xacts.length ac] 47)).heap.size = wr.heap.size + 1 by simp] at hrun
      rw [show (W2.setCell ⟨wr.heap.size, 2, none⟩ (.slice uad xacts.length uc)).heap.size = W2.heap.size by simp] at hrun2
      have HC : Hid (Cop w W4 (js ++ ([⟨xa, xp, xacts, .slice uad xacts.length uc⟩] : List Lj)) ov') := hc4
      have HQ : Hid ((js ++ ([⟨xa, xp, xacts, .slice uad xacts.length uc⟩] : List Lj)).map Lj.core = (l.take (js.length + 1)).map Lj.core) := by
        show _ = _
        rw [List.take_add_one, hx, List.map_append, List.map_append, hq]
        rfl
      have H1 : Hid (_ = _) := hrun
      have H2 : Hid (_ = _) := hrun2
      clear hc hq hrow hac hx hd hmem hu hb2 hub hub' hjb jc jf hB3 hu3 hc4 hrun hrun2
      go_wp2_with (first | (at_builtin; refine append_known rfl (.tmp 12) (.tmp 14) 45 rfl rfl rfl H1.out ?_) | (at_builtin; refine append_known rfl (.tmp 17) (.tmp 19) 22 rfl rfl rfl H2.out ?_))
      exact ⟨⟨js.length + 1, _, by omega, by simp, HC.out, HQ.out⟩, by simp [intOf]; omega⟩
    · have hje : js.length = l.length := by omega
      rw [hje, List.take_length] at hq
      have HC : Hid (Cop w wr js (.slice oad js.length oc) ∧ js.map Lj.core = l.map Lj.core) := ⟨hc, hq⟩
      clear hc hq
      go_wp2_with fail
      go_ret
      exact ⟨_, js, rfl, HC.out.2, ⟨row_own Lj.len HC.out.1.own, HC.out.1.acts⟩, HC.out.1.bel, fun k hk => HC.out.1.block_low hk, HC.out.1.low⟩
end Go.Proofs.Ytcmoehednkaehah
namespace Go.Proofs.Ytcmoehednkaehah
open Go.ChangeShapes Go.WideShapes Go.ChangeAt Go.RowKit

theorem lkOne_core {x y : Lj} (h : x.core = y.core) : lkOne x = lkOne y := by
  obtain ⟨xa, xp, xacts, xv⟩ := x
  obtain ⟨ya, yp, yacts, yv⟩ := y
  simp only [Lj.core, Prod.mk.injEq] at h
  obtain ⟨rfl, rfl, rfl⟩ := h
  rfl

theorem chkL_core : ∀ (a b : List Lj) (k : Nat), a.map Lj.core = b.map Lj.core → chkL a k = chkL b k
  | [], [], _, _ => rfl
  | [], _ :: _, _, h => by simp at h
  | _ :: _, [], _, h => by simp at h
  | x :: r, y :: s, k, h => by
    simp only [List.map_cons, List.cons.injEq] at h
    rw [chkL, chkL, lkOne_core h.1, chkL_core r s (k + 1) h.2]

theorem chkLk_core {a b : List Lj} (h : a.map Lj.core = b.map Lj.core) : chkLk a = chkLk b := by
  have hl : a.length = b.length := by simpa using congrArg List.length h
  unfold chkLk
  rw [hl, chkL_core a b 0 h]

theorem mostF_core (p : Int) : ∀ (a b : List Lj), a.map Lj.core = b.map Lj.core → mostF p a = mostF p b
  | [], [], _ => rfl
  | [], _ :: _, h => by simp at h
  | _ :: _, [], h => by simp at h
  | x :: r, y :: s, h => by
    simp only [List.map_cons, List.cons.injEq] at h
    obtain ⟨xa, xp, xacts, xv⟩ := x
    obtain ⟨ya, yp, yacts, yv⟩ := y
    obtain ⟨h1, h2⟩ := h
    simp only [Lj.core, Prod.mk.injEq] at h1
    obtain ⟨rfl, rfl, rfl⟩ := h1
    rw [mostF, mostF, mostF_core p r s h2]

theorem core_at {a b : List Lj} (h : a.map Lj.core = b.map Lj.core) {i : Nat} {x : Lj} (hx : b[i]? = some x) : ∃ y, a[i]? = some y ∧ y.a = x.a ∧ y.p = x.p ∧ y.acts = x.acts := by
  have h1 : (a.map Lj.core)[i]? = (b.map Lj.core)[i]? := by rw [h]
  rw [List.getElem?_map, List.getElem?_map, hx] at h1
  cases ha : a[i]? with
  | none => rw [ha] at h1; simp at h1
  | some y =>
    rw [ha] at h1
    simp [Lj.core] at h1
    exact ⟨y, rfl, h1.1, h1.2.1, h1.2.2⟩

theorem hc_core {a b : List Lj} (h : a.map Lj.core = b.map Lj.core) (p r : Int) : hc a p r = hc b p r := by
  unfold hc
  split
  · cases hb : b[r.toNat]? with
    | none =>
      have hl : a.length = b.length := by simpa using congrArg List.length h
      rw [List.getElem?_eq_none (by have := List.getElem?_eq_none_iff.1 hb; omega)]
    | some x =>
      obtain ⟨y, hy, -, hp, -⟩ := core_at h hb
      rw [hy]
      dsimp only
      rw [hp]
  · rfl

theorem heldF_core {a b : List Lj} (h : a.map Lj.core = b.map Lj.core) (runs : List Int) (p : Int) (s e : Nat) : heldF a runs p s e = heldF b runs p s e := by
  unfold heldF
  congr 1
  exact List.map_congr_left (fun r _ => hc_core h p r)

theorem heldF_next {l : List Lj} {runs : List Int} {p r : Int} {a t : Nat} (ha : a ≤ t) (hr : runs[t]? = some r) : heldF l runs p a (t + 1) = heldF l runs p a t + hc l p r := by
  have ht := (List.getElem?_eq_some_iff.1 hr).1
  unfold heldF
  rw [List.take_add_one, hr, List.drop_append_of_le_length (by simp; omega)]
  simp

theorem mostF_drop {l : List Lj} {k : Nat} {x : Lj} (h : l[k]? = some x) (p : Int) : mostF p (l.drop k) = max (if x.p < p then longF x.acts else 0) (mostF p (l.drop (k + 1))) := by
  rw [List.drop_eq_getElem_cons (List.getElem?_eq_some_iff.1 h).1, (List.getElem?_eq_some_iff.1 h).2, mostF]

theorem Play_endsD {w : World} {g h : Nat} {a1 a2 a3 a4 c k : Value} {a : Act} (hg : w.heap[g]? = some (.cells #[a1, a2, a3, a4] 37 (0, 0))) (hh : w.heap[h]? = some (.cells #[c, k] 31 (0, 0))) (h3 : a.tmps[6]?.getD undef = .pointer (some ⟨g, 0, none⟩)) (h4 : a.tmps[7]?.getD undef = .pointer (some ⟨h, 0, none⟩)) :
    (results Try.f9 a.tmps).run Try.prog w.drew = .ok (.tuple #[.agg #[a1, a2, a3, a4], .agg #[c, k]]) w.drew := Play_ends (w := w.drew) hg hh h3 h4

theorem play_store2 {W5 : World} {s : Nat} {x1 x2 x3 x4 y1 y2 : Value} (a1 a2 a3 a4 b1 b2 : Value) (h6 : W5.heap[s]? = some (.cells #[x1, x2, x3, x4] 37 (0, 0))) (h7 : W5.heap[s + 1]? = some (.cells #[y1, y2] 31 (0, 0))) :
    let W' := (((((W5.setCell ⟨s, 0, none⟩ a1).setCell ⟨s, 1, none⟩ a2).setCell ⟨s, 2, none⟩ a3).setCell ⟨s, 3, none⟩ a4).setCell ⟨s + 1, 0, none⟩ b1).setCell ⟨s + 1, 1, none⟩ b2
    W'.heap[s]? = some (.cells #[a1, a2, a3, a4] 37 (0, 0)) ∧ W'.heap[s + 1]? = some (.cells #[b1, b2] 31 (0, 0)) ∧ Below s W5 W' := by
  intro W'
  have e1 : ∀ k, k ≠ s → ((((W5.setCell ⟨s, 0, none⟩ a1).setCell ⟨s, 1, none⟩ a2).setCell ⟨s, 2, none⟩ a3).setCell ⟨s, 3, none⟩ a4).heap[k]? = W5.heap[k]? := fun k hk => by
    rw [Below.heap_setCell _ _ _ _ hk, Below.heap_setCell _ _ _ _ hk, Below.heap_setCell _ _ _ _ hk, Below.heap_setCell _ _ _ _ hk]
  have e2 : ∀ k, k ≠ s + 1 → W'.heap[k]? = ((((W5.setCell ⟨s, 0, none⟩ a1).setCell ⟨s, 1, none⟩ a2).setCell ⟨s, 2, none⟩ a3).setCell ⟨s, 3, none⟩ a4).heap[k]? := fun k hk => by
    rw [Below.heap_setCell _ _ _ _ hk, Below.heap_setCell _ _ _ _ hk]
  refine ⟨?_, ?_, ?_⟩
  · rw [e2 s (by omega), setCell_at (setCell_at (setCell_at (setCell_at h6)))]
    rfl
  · exact set_two ((e1 (s + 1) (by omega)).trans h7)
  · exact ((((((Below.refl s W5).setCell (Nat.le_refl _) _).setCell (Nat.le_refl _) _).setCell (Nat.le_refl _) _).setCell (Nat.le_refl _) _).setCell (Nat.le_succ _) _).setCell (Nat.le_succ _) _

set_option maxRecDepth 20000 in
set_option maxHeartbeats 2000000 in
theorem Play_bad (w : World) (l : List Lj) (v : Value) (hv : LkSl w l v) (h0 : (chkLk l).1 ≠ 0) (U : Int) :
    Calls Try.prog 9 #[v, .int .i64 3, .int .i64 U] w fun r w' => r = .returned (.tuple #[.agg #[.slice none 0 0, .slice none 0 0, .slice none 0 0, .bool false], .agg #[.int .i64 (chkLk l).1, .int .i64 (chkLk l).2]]) ∧ Below w.heap.size w w' := by
  have HC0 := checkJobs_any ((w.alloc (.cells #[.slice none 0 0, .slice none 0 0, .slice none 0 0, .bool false] 37)).alloc (.cells #[.int .i64 0, .int .i64 0] 31)) l v (hv.below (below_seq (below_new _ _) (below_new _ _)))
  generalize (chkLk l).1 = z1 at *
  generalize (chkLk l).2 = z2 at *
  have h0' : (z1 != 0) = true := by simpa using h0
  clear hv
  go_enter Try.func9, Try.ntmps9
  go_wp2_with (go_at_call 19; refine HC0.mono ?_; rintro r w1 ⟨rfl, hb1⟩; have H1 : Hid (Below ((w.alloc (.cells #[.slice none 0 0, .slice none 0 0, .slice none 0 0, .bool false] 37)).alloc (.cells #[.int .i64 0, .int .i64 0] 31)).heap.size ((w.alloc (.cells #[.slice none 0 0, .slice none 0 0, .slice none 0 0, .bool false] 37)).alloc (.cells #[.int .i64 0, .int .i64 0] 31)) w1) := hb1; clear hb1 HC0)
  obtain ⟨Wn, hWn⟩ : ∃ Wn, w1.alloc (.cells #[.int .i64 z1, .int .i64 z2] 31) = Wn := ⟨_, rfl⟩
  rw [hWn]
  have hs1 : w.heap.size + 2 ≤ w1.heap.size := by have := H1.out.size; simp at this; omega
  have q6 : Wn.heap[w.heap.size]? = some (.cells #[.slice none 0 0, .slice none 0 0, .slice none 0 0, .bool false] 37 (0, 0)) := by
    rw [← hWn, (below_new w1 _).block _ (by omega), H1.out.block _ (by simp <;> omega), (below_new _ _).block _ (by simp <;> omega)]
    exact heap_alloc_new w _
  have q7 : Wn.heap[w.heap.size + 1]? = some (.cells #[.int .i64 0, .int .i64 0] 31 (0, 0)) := by
    rw [← hWn, (below_new w1 _).block _ (by omega), H1.out.block _ (by simp <;> omega)]
    have := heap_alloc_new (w.alloc (.cells #[.slice none 0 0, .slice none 0 0, .slice none 0 0, .bool false] 37)) (.cells #[.int .i64 0, .int .i64 0] 31)
    simpa using this
  have q8 : Wn.heap[w1.heap.size]? = some (.cells #[.int .i64 z1, .int .i64 z2] 31 (0, 0)) := by rw [← hWn]; exact heap_alloc_new _ _
  have HQ : Hid (Below w.heap.size w Wn ∧ Wn.heap[w.heap.size]? = some (.cells #[.slice none 0 0, .slice none 0 0, .slice none 0 0, .bool false] 37 (0, 0)) ∧ Wn.heap[w.heap.size + 1]? = some (.cells #[.int .i64 0, .int .i64 0] 31 (0, 0))) := by
    refine ⟨?_, q6, q7⟩
    rw [← hWn]
    exact below_seq (below_seq (below_seq (below_new _ _) (below_new _ _)) H1.out) (below_new _ _)
  obtain ⟨xc, xf, xl⟩ := cells_of (l := [_, _, _, _]) q6
  obtain ⟨yc, yf, yl⟩ := cells_of (l := [_, _]) q7
  obtain ⟨zc, -, zl⟩ := cells_of (l := [_, _]) q8
  have x0' := xc 0 _ rfl
  have x1' := xc 1 _ rfl
  have x2' := xc 2 _ rfl
  have x3' := xc 3 _ rfl
  have y0' := yc 0 _ rfl
  have y1' := yc 1 _ rfl
  have z0' := zc 0 _ rfl
  have z1' := zc 1 _ rfl
  have xf0 := xf 0
  have xf1 := xf 1
  have xf2 := xf 2
  have xf3 := xf 3
  have yf0 := yf 0
  have yf1 := yf 1
  have n1 : ¬ (w1.heap.size = w.heap.size) := by omega
  have n2 : ¬ (w1.heap.size = w.heap.size + 1) := by omega
  clear hWn H1 xc xf yc yf zc q6 q7 q8
  refine wp_region_noPanic ?_
  refine wp_region_held_drew (S := fun w' => w'.cell? ⟨w1.heap.size, 0, none⟩ = some (.int .i64 z1) ∧ w'.cell? ⟨w1.heap.size, 1, none⟩ = some (.int .i64 z2)) (by kernel_rfl) (by refine ⟨?_, ?_⟩ <;> go_simp) (fun hHeld => ?_)
  refine take_at (i := 0) (n := 17) (v := ?_) rfl rfl (by kernel_rfl) (by kernel_rfl) (by kernel_rfl) (fun _ _ _ h => h) (Or.inl ⟨by rfl, ?_⟩) (by assumption) ?_
  rotate_left 1
  · intro wz hSw
    obtain ⟨s0, s1⟩ := hSw
    first | (go_simp; done) | (go_simp; with_reducible rfl)
  simp only [List.set_cons_zero, List.set_cons_succ]
  refine take_at (i := 1) (n := 18) (v := ?_) rfl rfl (by kernel_rfl) (by kernel_rfl) (by kernel_rfl) (fun _ _ _ h => h) (Or.inl ⟨by rfl, ?_⟩) (by assumption) ?_
  rotate_left 1
  · intro wz hSw
    obtain ⟨s0, s1⟩ := hSw
    first | (go_simp; done) | (go_simp; with_reducible rfl)
  simp only [List.set_cons_zero, List.set_cons_succ]
  refine wpAnyH_ready (rs := [2]) (by kernel_rfl) (by simp) ?_
  refine AllReadyH.cons rfl (fun K hK => ?_) AllReadyH.nil
  go_simp
  refine hK.out _ _ (by refine ⟨?_, ?_⟩ <;> go_simp) (fun hHeld => ?_)
  clear hK K
  refine wpAnyH_ready (rs := [3]) (by kernel_rfl) (by simp) ?_
  refine AllReadyH.cons rfl (fun K hK => ?_) AllReadyH.nil
  go_simp
  refine hK.out _ _ (by refine ⟨?_, ?_⟩ <;> go_simp) (fun hHeld => ?_)
  clear hK K
  refine wpAnyH_done (by kernel_rfl) ?_ _
  refine NoPanic.normal ?_
  go_wp2_with fail
  obtain ⟨s6, s7, sb⟩ := play_store2 (W5 := Wn) (s := w.heap.size) (.slice none 0 0) (.slice none 0 0) (.slice none 0 0) (.bool false) (.int .i64 z1) (.int .i64 z2) HQ.out.2.1 HQ.out.2.2
  refine bodyPost_ret (Play_endsD s6 s7 rfl rfl) rfl ?_
  exact ⟨rfl, (HQ.out.1.trans sb).drew⟩

set_option maxRecDepth 20000 in
set_option maxHeartbeats 2000000 in
theorem Play_range (w : World) (l : List Lj) (v : Value) (hv : LkSl w l v) (h0 : chkLk l = (0, 0)) (U : Int) (hU : within U 0 20000 = false) :
    Calls Try.prog 9 #[v, .int .i64 3, .int .i64 U] w fun r w' => r = .returned (.tuple #[.agg #[.slice none 0 0, .slice none 0 0, .slice none 0 0, .bool false], .agg #[.int .i64 3, .int .i64 0]]) ∧ Below w.heap.size w w' := by
  have HC0 := checkJobs_any ((w.alloc (.cells #[.slice none 0 0, .slice none 0 0, .slice none 0 0, .bool false] 37)).alloc (.cells #[.int .i64 0, .int .i64 0] 31)) l v (hv.below (below_seq (below_new _ _) (below_new _ _)))
  rw [h0] at HC0
  clear hv h0
  go_enter Try.func9, Try.ntmps9
  go_wp2_with (go_at_call 19; refine HC0.mono ?_; rintro r w1 ⟨rfl, hb1⟩; have H1 : Hid (Below ((w.alloc (.cells #[.slice none 0 0, .slice none 0 0, .slice none 0 0, .bool false] 37)).alloc (.cells #[.int .i64 0, .int .i64 0] 31)).heap.size ((w.alloc (.cells #[.slice none 0 0, .slice none 0 0, .slice none 0 0, .bool false] 37)).alloc (.cells #[.int .i64 0, .int .i64 0] 31)) w1) := hb1; clear hb1 HC0)
  obtain ⟨Wn, hWn⟩ : ∃ Wn, w1.alloc (.cells #[.int .i64 0, .int .i64 0] 31) = Wn := ⟨_, rfl⟩
  rw [hWn]
  have hs1 : w.heap.size + 2 ≤ w1.heap.size := by have := H1.out.size; simp at this; omega
  have q6 : Wn.heap[w.heap.size]? = some (.cells #[.slice none 0 0, .slice none 0 0, .slice none 0 0, .bool false] 37 (0, 0)) := by
    rw [← hWn, (below_new w1 _).block _ (by omega), H1.out.block _ (by simp <;> omega), (below_new _ _).block _ (by simp <;> omega)]
    exact heap_alloc_new w _
  have q7 : Wn.heap[w.heap.size + 1]? = some (.cells #[.int .i64 0, .int .i64 0] 31 (0, 0)) := by
    rw [← hWn, (below_new w1 _).block _ (by omega), H1.out.block _ (by simp <;> omega)]
    have := heap_alloc_new (w.alloc (.cells #[.slice none 0 0, .slice none 0 0, .slice none 0 0, .bool false] 37)) (.cells #[.int .i64 0, .int .i64 0] 31)
    simpa using this
  have q8 : Wn.heap[w1.heap.size]? = some (.cells #[.int .i64 0, .int .i64 0] 31 (0, 0)) := by rw [← hWn]; exact heap_alloc_new _ _
  have HQ : Hid (Below w.heap.size w Wn ∧ Wn.heap[w.heap.size]? = some (.cells #[.slice none 0 0, .slice none 0 0, .slice none 0 0, .bool false] 37 (0, 0)) ∧ Wn.heap[w.heap.size + 1]? = some (.cells #[.int .i64 0, .int .i64 0] 31 (0, 0))) := by
    refine ⟨?_, q6, q7⟩
    rw [← hWn]
    exact below_seq (below_seq (below_seq (below_new _ _) (below_new _ _)) H1.out) (below_new _ _)
  obtain ⟨xc, xf, xl⟩ := cells_of (l := [_, _, _, _]) q6
  obtain ⟨yc, yf, yl⟩ := cells_of (l := [_, _]) q7
  obtain ⟨zc, -, zl⟩ := cells_of (l := [_, _]) q8
  have x0' := xc 0 _ rfl
  have x1' := xc 1 _ rfl
  have x2' := xc 2 _ rfl
  have x3' := xc 3 _ rfl
  have y0' := yc 0 _ rfl
  have y1' := yc 1 _ rfl
  have z0' := zc 0 _ rfl
  have z1' := zc 1 _ rfl
  have xf0 := xf 0
  have xf1 := xf 1
  have xf2 := xf 2
  have xf3 := xf 3
  have yf0 := yf 0
  have yf1 := yf 1
  have n1 : ¬ (w1.heap.size = w.heap.size) := by omega
  have n2 : ¬ (w1.heap.size = w.heap.size + 1) := by omega
  clear hWn H1 xc xf yc yf zc q6 q7 q8
  go_wp2_with (go_at_call 20; refine (within_any _ _ _ _).mono ?_; rintro r w2 ⟨rfl, rfl⟩; rw [hU])
  obtain ⟨s6, s7, sb⟩ := play_store2 (W5 := w2) (s := w.heap.size) (.slice none 0 0) (.slice none 0 0) (.slice none 0 0) (.bool false) (.int .i64 3) (.int .i64 0) HQ.out.2.1 HQ.out.2.2
  refine bodyPost_ret (Play_ends s6 s7 rfl rfl) rfl ?_
  exact ⟨rfl, HQ.out.1.trans sb⟩
end Go.Proofs.Ytcmoehednkaehah
