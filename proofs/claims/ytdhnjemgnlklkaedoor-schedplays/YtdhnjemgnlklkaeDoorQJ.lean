import Derived.Test.YtdhnjemgnlklkaeDoorQI
namespace Go.Proofs.YtdhnjemgnlklkaeDoor
open Go.ChangeShapes Go.WideShapes Go.ChangeAt Go.RowKit

/-- What the law holds to the end. -/
structure PLL (w W : World) (l : List Jb) (o1 : Value) (G : Nat) (rs es : List Int) (b1 b2 : Value) (z1 z2 : Int) : Prop where
  bel : Below w.heap.size w W
  jobs : Lent Jb.vals W l noJ o1
  c1 : W.heap[G]? = some (.cells [b1, b2].toArray 57 (0, 0))
  c2 : W.heap[G + 1]? = some (.cells [.int .i64 z1, .int .i64 z2].toArray 26 (0, 0))
  r1 : RowSl nuV W rs b1
  r2 : RowSl nuV W es b2

theorem PLL.grow {w W W' : World} {l : List Jb} {o1 : Value} {G : Nat} {rs es : List Int} {b1 b2 : Value} {z1 z2 : Int} (h : PLL w W l o1 G rs es b1 b2 z1 z2) (hb : Below W.heap.size W W') : PLL w W' l o1 G rs es b1 b2 z1 z2 :=
  ⟨below_seq h.bel hb, h.jobs.below hb, (hb.block _ (lt_of_heap h.c1)).trans h.c1, (hb.block _ (lt_of_heap h.c2)).trans h.c2, h.r1.below hb, h.r2.below hb⟩

/-- What a round holds. -/
structure RND (wr W : World) (D : Nat) (rs es : List Int) (v1 v2 : Value) (p1 p2 : Option Nat) : Prop where
  bel : Below wr.heap.size wr W
  d1 : W.heap[D]? = some (.cells [v1, v2].toArray 57 (0, 0))
  r1 : RowOwn wr.heap.size W rs v1 p1
  r2 : RowOwn wr.heap.size W es v2 p2
  ne : ∀ g, p1 = some g → p2 ≠ some g
  nd : p1 ≠ some D ∧ p2 ≠ some D
  lo : (∀ g, p1 = some g → wr.heap.size ≤ g) ∧ (∀ g, p2 = some g → wr.heap.size ≤ g)

theorem RND.grow {wr W W' : World} {D : Nat} {rs es : List Int} {v1 v2 : Value} {p1 p2 : Option Nat} (h : RND wr W D rs es v1 v2 p1 p2) (hb : Below W.heap.size W W') : RND wr W' D rs es v1 v2 p1 p2 :=
  ⟨below_seq h.bel hb, (hb.block _ (lt_of_heap h.d1)).trans h.d1, h.r1.keep (grown_of_below hb) (fun _ _ e => by cases e), h.r2.keep (grown_of_below hb) (fun _ _ e => by cases e), h.ne, h.nd, h.lo⟩

/-- What it holds behind the first Spoil. -/
structure RN2 (wr W : World) (D : Nat) (es : List Int) (v1 v2 : Value) (p2 : Option Nat) : Prop where
  bel : Below wr.heap.size wr W
  d1 : W.heap[D]? = some (.cells [v1, v2].toArray 57 (0, 0))
  r2 : RowOwn wr.heap.size W es v2 p2
  lo : ∀ g, p2 = some g → wr.heap.size ≤ g

theorem RN2.grow {wr W W' : World} {D : Nat} {es : List Int} {v1 v2 : Value} {p2 : Option Nat} (h : RN2 wr W D es v1 v2 p2) (hb : Below W.heap.size W W') : RN2 wr W' D es v1 v2 p2 :=
  ⟨below_seq h.bel hb, (hb.block _ (lt_of_heap h.d1)).trans h.d1, h.r2.keep (grown_of_below hb) (fun _ _ e => by cases e), h.lo⟩

theorem RND.spoil {wr W W' : World} {D : Nat} {rs es : List Int} {v1 v2 : Value} {p1 p2 : Option Nat} (h : RND wr W D rs es v1 v2 p1 p2) (hg : W.grownBy W' p1) : RN2 wr W' D es v1 v2 p2 :=
  ⟨h.bel.trans (grownBy_below hg h.bel.size h.lo.1), (hg.block _ (lt_of_heap h.d1) (fun e => h.nd.1 e.symm)).trans h.d1, h.r2.keep hg (fun g e e2 => h.ne g e2 e), h.lo.2⟩

theorem RN2.spoil {wr W W' : World} {D : Nat} {es : List Int} {v1 v2 : Value} {p2 : Option Nat} (h : RN2 wr W D es v1 v2 p2) (hg : W.grownBy W' p2) : Below wr.heap.size wr W' :=
  h.bel.trans (grownBy_below hg h.bel.size h.lo)

theorem RND.start {wr W W' : World} {rs es : List Int} {v1 v2 : Value} (h : Res wr W rs es v1 v2) (hb : Below W.heap.size W W') (hd : W'.heap[W.heap.size]? = some (.cells [v1, v2].toArray 57 (0, 0))) : ∃ p1 p2, RND wr W' W.heap.size rs es v1 v2 p1 p2 := by
  obtain ⟨hbel, -, -, p1, p2, h1, h2, hne⟩ := h
  have key : ∀ (xs : List Int) v p, RowOwn wr.heap.size W xs v p → p ≠ some W.heap.size ∧ ∀ g, p = some g → wr.heap.size ≤ g := fun xs v p hp => by
    rcases hp with ⟨rfl, -⟩ | ⟨g, rfl, -, hg, hB, -⟩
    · exact ⟨by simp, fun g e => by cases e⟩
    · refine ⟨fun e => ?_, fun q e => by cases e; exact hB⟩
      have := lt_of_heap hg
      have e2 : g = W.heap.size := Option.some.inj e
      omega
  exact ⟨p1, p2, below_seq hbel hb, hd, h1.keep (grown_of_below hb) (fun _ _ e => by cases e), h2.keep (grown_of_below hb) (fun _ _ e => by cases e), hne, ⟨(key _ _ _ h1).1, (key _ _ _ h2).1⟩, (key _ _ _ h1).2, (key _ _ _ h2).2⟩

set_option maxRecDepth 20000 in
set_option maxHeartbeats 4000000 in
theorem plays_walk (w : World) (l : List Jb) (v : Value) (pol n : Int) (pre : Bool) (hg : JbAt w 2 0 noJ) (hv : RowSl Jb.vals w l v) :
    Calls Tryd.prog 5 #[v, .int .i64 pol, .bool pre, .int .i64 n] w fun r w' => r = .returned (.bool true) ∧ Below w.heap.size w w' := by
  obtain ⟨ad, c, rfl⟩ := hv.len
  have HV : Hid (JbAt w 2 0 noJ ∧ RowSl Jb.vals w l (.slice ad l.length c)) := ⟨hg, hv⟩
  clear hg hv
  have HL := LendJ_any
  have HT := StillJ_any
  unfold Jb.val at HL HT
  go_enter Tryd.func5, Tryd.ntmps5
  go_wp2_with (go_at_call 26; refine (runs_any w).mono ?_; rintro r w1 ⟨rfl, hb1⟩; have H1 : Hid (Below w.heap.size w w1) := hb1; clear hb1)
  by_cases hl1 : l.length ≤ 5000
  · have hl1' : decide ((l.length : Int) ≤ 5000) = true := by simp; omega
    by_cases hs : smallB (l.length : Int) n = true
    · have HP := PlayJobs_res w1 l _ pol n pre (HV.out.2.below H1.out)
      go_wp2_with (first | (go_at_call 11; refine (few_any _ _).mono ?_; rintro r w6 ⟨rfl, hw6⟩; have hw7 := hw6.symm; subst hw7; clear hw6; rw [hl1']) | (go_at_call 27; refine (small_any _ _ _).mono ?_; rintro r w6 ⟨rfl, hw6⟩; have hw7 := hw6.symm; subst hw7; clear hw6; rw [hs]) | (go_at_call 28; refine HP.mono ?_; rintro r w2 ⟨v1, v2, z1, z2, rs, es, rfl, hpr, hres⟩; obtain ⟨a1, c1, a2, c2, rfl, rfl⟩ := hres.slices; have H2 : Hid (PlRes l pol pre n z1 z2 rs es ∧ Res w1 w2 rs es (.slice a1 rs.length c1) (.slice a2 es.length c2)) := ⟨hpr, hres⟩; have hb5 : Below w.heap.size w ((w2.alloc (.cells #[.slice a1 rs.length c1, .slice a2 es.length c2] 57)).alloc (.cells #[.int .i64 z1, .int .i64 z2] 26)) := below_seq (below_seq (below_seq H1.out hres.1) (below_new _ _)) (below_new _ _); obtain ⟨k0, k1, k2, k3, k4⟩ := HV.out.1.below hb5; clear hpr hres HP))
      have hx1 : ((w2.alloc (.cells #[.slice a1 rs.length c1, .slice a2 es.length c2] 57)).alloc (.cells #[.int .i64 z1, .int .i64 z2] 26)).heap[w2.heap.size]? = some (.cells [.slice a1 rs.length c1, .slice a2 es.length c2].toArray 57 (0, 0)) := (Below.heap_alloc _ _ _ (by simp)).trans (heap_alloc_new _ _)
      have hx2 : ((w2.alloc (.cells #[.slice a1 rs.length c1, .slice a2 es.length c2] 57)).alloc (.cells #[.int .i64 z1, .int .i64 z2] 26)).heap[w2.heap.size + 1]? = some (.cells [.int .i64 z1, .int .i64 z2].toArray 26 (0, 0)) := by
        have := heap_alloc_new (w2.alloc (.cells #[.slice a1 rs.length c1, .slice a2 es.length c2] 57)) (.cells #[.int .i64 z1, .int .i64 z2] 26)
        simpa using this
      have hb6 : Below w2.heap.size w2 ((w2.alloc (.cells #[.slice a1 rs.length c1, .slice a2 es.length c2] 57)).alloc (.cells #[.int .i64 z1, .int .i64 z2] 26)) := below_seq (below_new _ _) (below_new _ _)
      have H5 : Hid (Below w.heap.size w ((w2.alloc (.cells #[.slice a1 rs.length c1, .slice a2 es.length c2] 57)).alloc (.cells #[.int .i64 z1, .int .i64 z2] 26)) ∧ ((w2.alloc (.cells #[.slice a1 rs.length c1, .slice a2 es.length c2] 57)).alloc (.cells #[.int .i64 z1, .int .i64 z2] 26)).heap[w2.heap.size]? = some (.cells [.slice a1 rs.length c1, .slice a2 es.length c2].toArray 57 (0, 0)) ∧ ((w2.alloc (.cells #[.slice a1 rs.length c1, .slice a2 es.length c2] 57)).alloc (.cells #[.int .i64 z1, .int .i64 z2] 26)).heap[w2.heap.size + 1]? = some (.cells [.int .i64 z1, .int .i64 z2].toArray 26 (0, 0)) ∧ RowSl nuV ((w2.alloc (.cells #[.slice a1 rs.length c1, .slice a2 es.length c2] 57)).alloc (.cells #[.int .i64 z1, .int .i64 z2] 26)) rs (.slice a1 rs.length c1) ∧ RowSl nuV ((w2.alloc (.cells #[.slice a1 rs.length c1, .slice a2 es.length c2] 57)).alloc (.cells #[.int .i64 z1, .int .i64 z2] 26)) es (.slice a2 es.length c2) ∧ rs.length ≤ 1000000 ∧ es.length ≤ 1000000 ∧ PlRes l pol pre n z1 z2 rs es) := ⟨hb5, hx1, hx2, H2.out.2.rows.1.below hb6, H2.out.2.rows.2.below hb6, H2.out.2.2.1, H2.out.2.2.2.1, H2.out.1⟩
      clear hx1 hx2 hb6 hb5 H2
      generalize ((w2.alloc (.cells #[.slice a1 rs.length c1, .slice a2 es.length c2] 57)).alloc (.cells #[.int .i64 z1, .int .i64 z2] 26)) = w5 at *
      generalize w2.heap.size = G at *
      go_wp2_with (go_at_call 29; refine (HL _ l noJ _ (by omega) (HV.out.2.below H5.out.1)).mono ?_; rintro r wa ⟨o1, rfl, hl9, hb9⟩; have Ha : Hid (PLL w wa l o1 G rs es (.slice a1 rs.length c1) (.slice a2 es.length c2) z1 z2) := ⟨below_seq H5.out.1 hb9, hl9, (hb9.block _ (lt_of_heap H5.out.2.1)).trans H5.out.2.1, (hb9.block _ (lt_of_heap H5.out.2.2.1)).trans H5.out.2.2.1, H5.out.2.2.2.1.below hb9, H5.out.2.2.2.2.1.below hb9⟩; have HN : Hid (rs.length ≤ 1000000 ∧ es.length ≤ 1000000 ∧ PlRes l pol pre n z1 z2 rs es) := H5.out.2.2.2.2.2; clear hl9 hb9 k0 k1 k2 k3 k4 H5)
      have HC1 := Check_any wa l _ Ha.out.jobs.plain
      go_wp2_with (go_at_call 30; refine HC1.mono ?_; rintro r wb ⟨rfl, hb⟩; have Hb : Hid (PLL w wb l o1 G rs es (.slice a1 rs.length c1) (.slice a2 es.length c2) z1 z2) := Ha.out.grow hb; clear hb HC1)
      go_wp2_with (go_at_call 31; refine (CheckJobs_any wb l _ (HV.out.2.below Hb.out.bel)).mono ?_; rintro r wc ⟨rfl, hb⟩; have Hc : Hid (PLL w wc l o1 G rs es (.slice a1 rs.length c1) (.slice a2 es.length c2) z1 z2) := Hb.out.grow hb; clear hb)
      clear Ha Hb
      go_loopw [43] (fun i W => ∃ j : Nat, j ≤ 2 ∧ i = .int .i64 j ∧ PLL w W l o1 G rs es (.slice a1 rs.length c1) (.slice a2 es.length c2) z1 z2) (fun i _ => 2 - (intOf i).toNat)
      case atStart => exact ⟨0, by omega, rfl, Hc.out⟩
      case round =>
        obtain ⟨j, hj, rfl, hpll⟩ := hrel
        have Hd : Hid (PLL w wr l o1 G rs es (.slice a1 rs.length c1) (.slice a2 es.length c2) z1 z2) := hpll
        clear hpll
        by_cases hj2 : j < 2
        · have hji : (j : Int) < 2 := by omega
          have HP := Play_res wr l _ pol n pre Hd.out.jobs.plain
          go_upto_region 12 with (go_at_call 32; refine HP.mono ?_; rintro r w4 ⟨v1, v2, y1, y2, rs', es', rfl, hpr, hres⟩; obtain ⟨q1, q2, q3, q4⟩ := plRes_unique HN.out.2.2 hpr; subst q1 q2 q3 q4; obtain ⟨e1, f1, e2, f2, rfl, rfl⟩ := hres.slices; have H4 : Hid (Res wr w4 rs es (.slice e1 rs.length f1) (.slice e2 es.length f2)) := hres; clear hpr hres HP)
          have hx1 : ((w4.alloc (.cells #[.slice e1 rs.length f1, .slice e2 es.length f2] 57)).alloc (.cells #[.int .i64 z1, .int .i64 z2] 26)).heap[w4.heap.size]? = some (.cells [.slice e1 rs.length f1, .slice e2 es.length f2].toArray 57 (0, 0)) := (Below.heap_alloc _ _ _ (by simp)).trans (heap_alloc_new _ _)
          have hx2 : ((w4.alloc (.cells #[.slice e1 rs.length f1, .slice e2 es.length f2] 57)).alloc (.cells #[.int .i64 z1, .int .i64 z2] 26)).heap[w4.heap.size + 1]? = some (.cells [.int .i64 z1, .int .i64 z2].toArray 26 (0, 0)) := by
            have := heap_alloc_new (w4.alloc (.cells #[.slice e1 rs.length f1, .slice e2 es.length f2] 57)) (.cells #[.int .i64 z1, .int .i64 z2] 26)
            simpa using this
          obtain ⟨p1, p2, hrn⟩ := RND.start H4.out (below_seq (below_new _ _) (below_new _ _)) hx1
          have hpl := Hd.out.grow hrn.bel
          have n0 := (cells_of hx1).1 0 _ rfl
          have n1 := (cells_of hx1).1 1 _ rfl
          have m0 := (cells_of hx2).1 0 _ rfl
          have m1 := (cells_of hx2).1 1 _ rfl
          have s0 := (cells_of hpl.c1).1 0 _ rfl
          have s1 := (cells_of hpl.c1).1 1 _ rfl
          have t0 := (cells_of hpl.c2).1 0 _ rfl
          have t1 := (cells_of hpl.c2).1 1 _ rfl
          have HS := SameP_any _ rs es _ _ _ _ HN.out.1 HN.out.2.1 hrn.r1.row hrn.r2.row hpl.r1 hpl.r2
          have HR : Hid (RND wr ((w4.alloc (.cells #[.slice e1 rs.length f1, .slice e2 es.length f2] 57)).alloc (.cells #[.int .i64 z1, .int .i64 z2] 26)) w4.heap.size rs es (.slice e1 rs.length f1) (.slice e2 es.length f2) p1 p2) := hrn
          clear hx1 hx2 hrn hpl H4
          generalize ((w4.alloc (.cells #[.slice e1 rs.length f1, .slice e2 es.length f2] 57)).alloc (.cells #[.int .i64 z1, .int .i64 z2] 26)) = w5b at *
          generalize w4.heap.size = D at *
          go_wp2_with (go_at_call 33; refine HS.mono ?_; rintro r w6 ⟨rfl, hb6⟩; have H6 : Hid (RND wr w6 D rs es (.slice e1 rs.length f1) (.slice e2 es.length f2) p1 p2) := HR.out.grow hb6; obtain ⟨k0, k1, k2, k3, k4⟩ := HV.out.1.below (Hd.out.grow H6.out.bel).bel; clear hb6 HS HR n0 n1 m0 m1 s0 s1 t0 t1)
          go_wp2_with (go_at_call 34; refine (HT _ l noJ _ _ (by omega) (Hd.out.grow H6.out.bel).jobs (HV.out.2.below (Hd.out.grow H6.out.bel).bel)).mono ?_; rintro r w7 ⟨rfl, hb7⟩; have H7 : Hid (RND wr w7 D rs es (.slice e1 rs.length f1) (.slice e2 es.length f2) p1 p2) := H6.out.grow hb7; have n0 := (cells_of H7.out.d1).1 0 _ rfl; clear hb7 H6 k0 k1 k2 k3 k4)
          have PH : Phase 1 := trivial
          go_wp2_with (go_at_call 35; guard_hyp PH : Phase 1; clear PH; refine (Spoil_row _ _ rs _ p1 H7.out.r1).mono ?_; rintro r w8 ⟨rfl, hg8⟩; have H8 : Hid (RN2 wr w8 D es (.slice e1 rs.length f1) (.slice e2 es.length f2) p2) := H7.out.spoil hg8; have n1 := (cells_of H8.out.d1).1 1 _ rfl; have s1 := (cells_of (Hd.out.grow H8.out.bel).c1).1 1 _ rfl; clear hg8 H7 n0)
          go_wp2_with (go_at_call 36; refine (SameN_any _ es _ _ (by have := HN.out.2.1; omega) H8.out.r2.row (Hd.out.grow H8.out.bel).r2).mono ?_; rintro r w9 ⟨rfl, hb9⟩; have H9 : Hid (RN2 wr w9 D es (.slice e1 rs.length f1) (.slice e2 es.length f2) p2) := H8.out.grow hb9; have n2 := (cells_of H9.out.d1).1 1 _ rfl; clear hb9 H8 n1 s1)
          have PH : Phase 2 := trivial
          go_wp2_with (go_at_call 35; guard_hyp PH : Phase 2; clear PH; refine (Spoil_row _ _ es _ p2 H9.out.r2).mono ?_; rintro r w10 ⟨rfl, hg10⟩; have H10 : Hid (PLL w w10 l o1 G rs es (.slice a1 rs.length c1) (.slice a2 es.length c2) z1 z2) := Hd.out.grow (H9.out.spoil hg10); clear hg10 H9 n2)
          exact ⟨⟨j + 1, by omega, by simp, H10.out⟩, by simp [intOf]; omega⟩
        · have hje : j = 2 := by omega
          subst hje
          go_wp2_with fail
          go_ret
          exact ⟨rfl, Hd.out.bel⟩
    · have hs' : smallB (l.length : Int) n = false := by simpa using hs
      go_wp2_with (first | (go_at_call 11; refine (few_any _ _).mono ?_; rintro r w6 ⟨rfl, hw6⟩; have hw7 := hw6.symm; subst hw7; clear hw6; rw [hl1']) | (go_at_call 27; refine (small_any _ _ _).mono ?_; rintro r w6 ⟨rfl, hw6⟩; have hw7 := hw6.symm; subst hw7; clear hw6; rw [hs']))
      go_ret
      exact ⟨rfl, H1.out⟩
  · have hl1' : decide ((l.length : Int) ≤ 5000) = false := by simp; omega
    go_wp2_with (go_at_call 11; refine (few_any _ _).mono ?_; rintro r w6 ⟨rfl, hw6⟩; have hw7 := hw6.symm; subst hw7; clear hw6; rw [hl1'])
    go_ret
    exact ⟨rfl, H1.out⟩
end Go.Proofs.YtdhnjemgnlklkaeDoor
