import Derived.Test.YtdhnjemgnlklkajDoorND
import Derived.Test.YtdhnjemgnlklkajDoorNP
namespace Go.Proofs.YtdhnjemgnlklkajDoor
open Go.ChangeShapes Go.WideShapes Go.ChangeAt Go.RowKit

theorem SendOf_ends {w : World} {g1 g2 : Nat} {a b c k : Value} {ac : Act} (h : w.heap[g1]? = some (.cells #[a, b] 45 (0, 0))) (h' : w.heap[g2]? = some (.cells #[c, k] 31 (0, 0))) (h2 : ac.tmps[8]?.getD undef = .pointer (some ⟨g1, 0, none⟩)) (h3 : ac.tmps[9]?.getD undef = .pointer (some ⟨g2, 0, none⟩)) :
    (results Tryd.f18 ac.tmps).run Tryd.prog w = .ok (.tuple #[.agg #[a, b], .agg #[c, k]]) w := by
  obtain ⟨c1, f1, l1⟩ := cells_of (l := [_, _]) h
  have c10 := c1 0 _ rfl
  have c11 := c1 1 _ rfl
  obtain ⟨d1, f2, l2⟩ := cells_of (l := [_, _]) h'
  have d10 := d1 0 _ rfl
  have d11 := d1 1 _ rfl
  simp [results, Tryd.results18, go_sem, h2, h3, c10, c11, d10, d11]

/-- Both results' blocks, and a row of jobs of one's own. -/
structure JO (w W : World) (acc : List Jb) (av : Value) : Prop where
  tb : TB w W
  row : W.ownsRow (w.heap.size + 2) 63 5 av acc.length (acc.flatMap Jb.vals)
theorem JO.grow {w W W' : World} {acc : List Jb} {av : Value} (h : JO w W acc av) (hb : Below W.heap.size W W') : JO w W' acc av := ⟨h.tb.grow hb, ownsRow_below h.row hb⟩
theorem JO.val {w W : World} {acc : List Jb} {av : Value} (h : JO w W acc av) : ∃ ad c, av = .slice ad acc.length c := owns_value h.row
theorem JO.push {w W : World} {acc : List Jb} {av : Value} (h : JO w W acc av) (x : Jb) (hl : acc.length ≤ 100000) :
    ∃ ad c w4, (Builtin.append_ #[61, 61] 61 #[av, .slice (some ⟨W.heap.size, 0, none⟩) 1 1]).run Tryd.prog (W.alloc (.cells #[.int .i64 x.k, .int .i64 x.a, .int .i64 x.c, .int .i64 x.d, .int .i64 x.p] 63)) = .ok (.slice ad (acc.length + 1) c) w4 ∧ JO w w4 (acc ++ [x]) (.slice ad (acc.length + 1) c) ∧ ∀ k, k < W.heap.size → some k ≠ av.ownBlock → w4.heap[k]? = W.heap[k]? := by
  obtain ⟨i0, hi0, hz0, hz1, hz2⟩ := info_parts infoJb
  have h1 := h.grow (below_new W (.cells #[.int .i64 x.k, .int .i64 x.a, .int .i64 x.c, .int .i64 x.d, .int .i64 x.p] 63))
  have hlt := lt_of_heap h.tb.r2
  obtain ⟨v4, w4, hrun, ho4, hg4, -, hv4⟩ := run_append_own_at (P := Tryd.prog) (w := W.alloc (.cells #[.int .i64 x.k, .int .i64 x.a, .int .i64 x.c, .int .i64 x.d, .int .i64 x.p] 63)) (w.heap.size + 2) 61 61 63 i0 _ 5 40 Tryd.underlying61 hi0 hz0 hz1 hz2 rfl (by decide) av acc.length (acc.flatMap Jb.vals) h1.row ⟨W.heap.size, 0, none⟩ 1 1 (Jb.vals x) rfl (fun j u hj => by rw [Addr.add_lit]; have := (cells_of (l := Jb.vals x) (heap_alloc_new W (.cells #[.int .i64 x.k, .int .i64 x.a, .int .i64 x.c, .int .i64 x.d, .int .i64 x.p] 63))).1 j u hj; simpa using this) (fun u hu => Jb.one hu) (by unfold maxLen; omega) (by omega) (by simp; omega)
  obtain ⟨ad, c, rfl⟩ := owns_value ho4
  have hne : ∀ k, k < w.heap.size + 2 → some k ≠ av.ownBlock := fun k hk e => by have := (h.row.lt k e.symm).1; omega
  have hold : ∀ k, k < W.heap.size → some k ≠ av.ownBlock → w4.heap[k]? = W.heap[k]? := fun k hk hn => (hg4.block k (by simp; omega) hn).trans (Below.heap_alloc _ _ _ hk)
  have hbel : Below (w.heap.size + 2) W w4 := ((below_new W _).mono (by omega)).grown hg4 (by simp; omega) (fun k hk => (h.row.lt k hk).1)
  refine ⟨ad, c, w4, hrun, ⟨⟨h.tb.bel.trans (hbel.mono (by omega)), (hold _ (by omega) (hne _ (by omega))).trans h.tb.r1, (hold _ hlt (hne _ (by omega))).trans h.tb.r2⟩, ?_⟩, hold⟩
  rw [List.length_append, show (acc ++ [x]).flatMap Jb.vals = acc.flatMap Jb.vals ++ Jb.vals x by simp]
  exact ho4
theorem JO.jobs {w W : World} {acc : List Jb} {av : Value} (h : JO w W acc av) : RowSl Jb.vals W acc av := by
  have h' := h.row
  obtain ⟨hl, ⟨h1, h2⟩ | ⟨g, cap, cur, he, hb, hg, hr⟩⟩ := h.row
  · subst h1
    have : acc = [] := by
      cases acc with
      | nil => rfl
      | cons x r => simp_all
    subst this
    exact RowSl.nil _ _
  · subst he
    refine ⟨_, cap, rfl, (fun e => by cases e), by omega, .inr ⟨g, 0, rfl, fun q u hq => ?_⟩⟩
    have hql := (List.getElem?_eq_some_iff.1 hq).1
    rw [flat_length Jb.vals 5 Jb.len] at hql
    rw [Nat.zero_add]
    exact (h'.cellAt q (by omega)).trans hq

set_option maxRecDepth 20000 in
set_option maxHeartbeats 4000000 in
theorem SendOf_any (w : World) (l : List Fr) (cs : List Co) (la : List Int) (v v1 v2 : Value) (n : Int) (hv : RowSl Fr.vals w l v) (hv1 : RowSl Co.vals w cs v1) (hv2 : RowSl nuV w la v2) : Calls Tryd.prog 18 #[v, v1, v2, .int .i64 n] w (SendPost w l cs la n) := by
  have HC := fun W (hb : Below w.heap.size w W) => CheckB_any W l v (hv.below hb)
  obtain ⟨ad, c, rfl, -, hcap, hrw⟩ := hv
  obtain ⟨ad1, c1, rfl, -, hcap1, hrw1⟩ := hv1
  obtain ⟨ad2, c2, rfl, -, hcap2, hrw2⟩ := hv2
  by_cases h0 : (chkN l).1 = 0
  rotate_left 1
  · have e : chkS l cs la = chkN l := by unfold chkS; rw [if_pos h0]
    obtain ⟨z1, z2, hz⟩ : ∃ z1 z2, chkN l = (z1, z2) := ⟨_, _, rfl⟩
    have HZ : Hid (chkS l cs la = (z1, z2) ∧ (chkS l cs la).1 ≠ 0) := ⟨e.trans hz, by rw [e]; exact h0⟩
    rw [hz] at HC h0
    dsimp only at HC h0
    have hz1 : (z1 != 0) = true := by simpa using h0
    clear e hz h0 hrw hrw1 hrw2
    go_enter Tryd.func18, Tryd.ntmps18
    go_upto_region 3 with (go_at_call 11; refine (HC _ (TB.start w).bel).mono ?_; rintro r w1 ⟨rfl, hb1⟩; have H1 : Hid (TB w (w1.alloc (.cells #[.int .i64 z1, .int .i64 z2] 31))) := ((TB.start w).grow hb1).grow (below_new _ _); have hl1 : w.heap.size < w1.heap.size := lt_of_heap ((TB.start w).grow hb1).r1; have hl2 : w.heap.size + 1 < w1.heap.size := lt_of_heap ((TB.start w).grow hb1).r2; clear hb1 HC)
    obtain ⟨fs, -, fl⟩ := cells_of (l := [_, _]) (heap_alloc_new w1 (.cells #[.int .i64 z1, .int .i64 z2] 31))
    have g0 := fs 0 _ rfl
    have g1 := fs 1 _ rfl
    clear fs
    generalize w1.alloc (.cells #[.int .i64 z1, .int .i64 z2] 31) = w2 at *
    obtain ⟨qs, qf, ql⟩ := cells_of (l := [_, _]) H1.out.r1; have q0 := qs 0 _ rfl; have q1 := qs 1 _ rfl; have qf0 := qf 0; have qf1 := qf 1; obtain ⟨ss, sf, sl⟩ := cells_of (l := [_, _]) H1.out.r2; have s0 := ss 0 _ rfl; have s1 := ss 1 _ rfl; have sf0 := sf 0; have sf1 := sf 1; clear qs qf ss sf
    go_region
    all_goals go_wp2_with fail
    all_goals
      have hx := H1.out.put (.slice none 0 0) (.slice none 0 0) (.int .i64 z1) (.int .i64 z2)
      refine bodyPost_ret (SendOf_ends (g1 := w.heap.size) (g2 := w.heap.size + 1) (a := .slice none 0 0) (b := .slice none 0 0) (c := .int .i64 z1) (k := .int .i64 z2) hx.1 hx.2.1 rfl rfl) rfl ?_
      exact ⟨_, _, z1, z2, [], [], rfl, .inl ⟨HZ.out.2, by rw [HZ.out.1], by rw [HZ.out.1], rfl, rfl⟩, res_nil hx.2.2.1.drew⟩
  · obtain ⟨hl1, hl8, hok, hce⟩ := chkN_ok h0
    rw [hce] at HC
    dsimp only at HC
    rcases hrw with hnil | ⟨ab, ao, rfl, hrow⟩
    · rw [hnil] at hl1; simp at hl1
    have HV : Hid ((∀ x ∈ l, okFr x) ∧ (∀ q u, (l.flatMap Fr.vals)[q]? = some u → w.cell? ⟨ab, ao + q, none⟩ = some u) ∧ (chkN l).1 = 0) := ⟨hok, hrow, h0⟩
    have HR : Hid ((cs = [] ∨ ∃ b o, ad1 = some ⟨b, o, none⟩ ∧ ∀ q u, (cs.flatMap Co.vals)[q]? = some u → w.cell? ⟨b, o + q, none⟩ = some u) ∧ (la = [] ∨ ∃ b o, ad2 = some ⟨b, o, none⟩ ∧ ∀ q u, (la.flatMap nuV)[q]? = some u → w.cell? ⟨b, o + q, none⟩ = some u)) := ⟨hrw1, hrw2⟩
    clear hok hrow h0 hce hrw1 hrw2
    have HST : ∀ w1, Below ((w.alloc (.cells #[.slice none 0 0, .slice none 0 0] 45)).alloc (.cells #[.int .i64 0, .int .i64 0] 31)).heap.size ((w.alloc (.cells #[.slice none 0 0, .slice none 0 0] 45)).alloc (.cells #[.int .i64 0, .int .i64 0] 31)) w1 → TB w (w1.alloc (.cells #[.int .i64 0, .int .i64 0] 31)) := fun w1 hb1 => ((TB.start w).grow hb1).grow (below_new _ _)
    by_cases hm : 4000 < cs.length ∨ la.length ≠ cs.length
    · have e : chkS l cs la = (2, 0) := by unfold chkS; rw [if_neg (by have := HV.out.2.2; omega), if_pos hm]
      have HZ : Hid (chkS l cs la = (2, 0)) := e
      clear e
      have hcase : (4000 < cs.length) ∨ (cs.length ≤ 4000 ∧ la.length ≠ cs.length) := by omega
      clear hm
      rcases hcase with h4 | ⟨h4, hne⟩
      · have h4' : (4000 : Int) < (cs.length : Int) := by omega
        go_enter Tryd.func18, Tryd.ntmps18
        go_upto_region 2 with (go_at_call 11; refine (HC _ (TB.start w).bel).mono ?_; rintro r w1 ⟨rfl, hb1⟩; have H1 : Hid (TB w (w1.alloc (.cells #[.int .i64 0, .int .i64 0] 31))) := HST _ hb1; clear hb1 HC HST)
        obtain ⟨fs, -, fl⟩ := cells_of (l := [_, _]) (heap_alloc_new w1 (.cells #[.int .i64 0, .int .i64 0] 31))
        have g0 := fs 0 _ rfl
        clear fs
        generalize w1.alloc (.cells #[.int .i64 0, .int .i64 0] 31) = w2 at *
        go_wp2_with (go_at_call 27; refine (F_any _ _ _).mono ?_; rintro r w8 ⟨rfl, hb8⟩; have H8 : Hid (TB w w8) := H1.out.grow hb8; obtain ⟨qs, qf, ql⟩ := cells_of (l := [_, _]) H8.out.r1; have q0 := qs 0 _ rfl; have q1 := qs 1 _ rfl; have qf0 := qf 0; have qf1 := qf 1; obtain ⟨ss, sf, sl⟩ := cells_of (l := [_, _]) H8.out.r2; have s0 := ss 0 _ rfl; have s1 := ss 1 _ rfl; have sf0 := sf 0; have sf1 := sf 1; clear qs qf ss sf; clear hb8)
        have hx9 := H8.out.put (.slice none 0 0) (.slice none 0 0) (.int .i64 2) (.int .i64 0)
        refine bodyPost_ret (SendOf_ends (g1 := w.heap.size) (g2 := w.heap.size + 1) (a := .slice none 0 0) (b := .slice none 0 0) (c := .int .i64 2) (k := .int .i64 0) hx9.1 hx9.2.1 rfl rfl) rfl ?_
        exact ⟨_, _, 2, 0, [], [], rfl, .inl ⟨by rw [HZ.out]; decide, by rw [HZ.out], by rw [HZ.out], rfl, rfl⟩, res_nil hx9.2.2.1⟩
      · have h4' : ¬ (4000 : Int) < (cs.length : Int) := by omega
        have hne' : ((la.length : Int) != (cs.length : Int)) = true := by rw [bne_iff_ne]; omega
        go_enter Tryd.func18, Tryd.ntmps18
        go_upto_region 2 with (go_at_call 11; refine (HC _ (TB.start w).bel).mono ?_; rintro r w1 ⟨rfl, hb1⟩; have H1 : Hid (TB w (w1.alloc (.cells #[.int .i64 0, .int .i64 0] 31))) := HST _ hb1; clear hb1 HC HST)
        obtain ⟨fs, -, fl⟩ := cells_of (l := [_, _]) (heap_alloc_new w1 (.cells #[.int .i64 0, .int .i64 0] 31))
        have g0 := fs 0 _ rfl
        clear fs
        generalize w1.alloc (.cells #[.int .i64 0, .int .i64 0] 31) = w2 at *
        go_wp2_with (go_at_call 27; refine (F_any _ _ _).mono ?_; rintro r w8 ⟨rfl, hb8⟩; have H8 : Hid (TB w w8) := H1.out.grow hb8; obtain ⟨qs, qf, ql⟩ := cells_of (l := [_, _]) H8.out.r1; have q0 := qs 0 _ rfl; have q1 := qs 1 _ rfl; have qf0 := qf 0; have qf1 := qf 1; obtain ⟨ss, sf, sl⟩ := cells_of (l := [_, _]) H8.out.r2; have s0 := ss 0 _ rfl; have s1 := ss 1 _ rfl; have sf0 := sf 0; have sf1 := sf 1; clear qs qf ss sf; clear hb8)
        have hx9 := H8.out.put (.slice none 0 0) (.slice none 0 0) (.int .i64 2) (.int .i64 0)
        refine bodyPost_ret (SendOf_ends (g1 := w.heap.size) (g2 := w.heap.size + 1) (a := .slice none 0 0) (b := .slice none 0 0) (c := .int .i64 2) (k := .int .i64 0) hx9.1 hx9.2.1 rfl rfl) rfl ?_
        exact ⟨_, _, 2, 0, [], [], rfl, .inl ⟨by rw [HZ.out]; decide, by rw [HZ.out], by rw [HZ.out], rfl, rfl⟩, res_nil hx9.2.2.1⟩
    · have hm1 : cs.length ≤ 4000 := by omega
      have hm2 : la.length = cs.length := by omega
      have HCS : Hid (chkS l cs la = sndF l (cs.zip la) 0) := by
        have e : chkS l cs la = sndF l (cs.zip la) 0 := by unfold chkS; rw [if_neg (by have := HV.out.2.2; omega), if_neg hm]
        exact e
      have h4' : ¬ (4000 : Int) < (cs.length : Int) := by omega
      rw [hm2] at hcap2 ⊢
      have HL : Hid (la.length = cs.length) := hm2
      clear hm hm2
      go_enter Tryd.func18, Tryd.ntmps18
      go_upto_region 2 with (go_at_call 11; refine (HC _ (TB.start w).bel).mono ?_; rintro r w1 ⟨rfl, hb1⟩; have H1 : Hid (JO w (w1.alloc (.cells #[.int .i64 0, .int .i64 0] 31)) [] (.slice none 0 0)) := ⟨HST _ hb1, ⟨rfl, .inl ⟨rfl, rfl⟩⟩⟩; clear hb1 HC HST)
      obtain ⟨fs, -, fl⟩ := cells_of (l := [_, _]) (heap_alloc_new w1 (.cells #[.int .i64 0, .int .i64 0] 31))
      have g0 := fs 0 _ rfl
      clear fs
      generalize w1.alloc (.cells #[.int .i64 0, .int .i64 0] 31) = w2 at *
      go_wp2_with fail
      clear g0 fl
      go_loopw [11, 35] (fun av i4 wr => ∃ js : List Jb, js.length ≤ cs.length ∧ i4 = .int .i64 (js.length : Nat) ∧ JO w wr js av ∧ Hid (js ++ ((cs.zip la).drop js.length).map (sndJ1 l) = sndJ l cs la) ∧ Hid (sndF l ((cs.zip la).drop js.length) js.length = sndF l (cs.zip la) 0)) (fun _ i4 _ => cs.length - (intOf i4).toNat)
      case atStart => exact ⟨[], Nat.zero_le _, rfl, H1.out, by show [] ++ _ = _; simp [sndJ], rfl⟩
      case round =>
        obtain ⟨js, hjs, rfl, hjo, HS, HN⟩ := hrel
        obtain ⟨ad5, c5, rfl⟩ := hjo.val
        have HG : Hid (JO w wr js (.slice ad5 js.length c5)) := hjo
        by_cases hjl : js.length < cs.length
        · obtain ⟨x, hx, -⟩ := drop_at hjl
          obtain ⟨y, hy, -⟩ := drop_at (l := la) (k := js.length) (by have := HL.out; omega)
          have hp : (cs.zip la)[js.length]? = some (x, y) := by rw [List.getElem?_zip_eq_some]; exact ⟨hx, hy⟩
          have hsn := HN.out
          rw [sndF_at hp] at hsn
          dsimp only at hsn
          have hdr : ((cs.zip la).drop js.length).map (sndJ1 l) = sndJ1 l (x, y) :: ((cs.zip la).drop (js.length + 1)).map (sndJ1 l) := by
            obtain ⟨hl', he'⟩ := List.getElem?_eq_some_iff.1 hp
            rw [List.drop_eq_getElem_cons hl', he', List.map_cons]
          rcases HR.out.1 with h | ⟨b1, o1, rfl, hr1⟩
          · rw [h] at hjl; simp at hjl
          rcases HR.out.2 with h | ⟨b2, o2, rfl, hr2⟩
          · have := HL.out; rw [h] at this; simp at this; omega
          obtain ⟨y0, y1⟩ := co_at (fun q u hq => below_cell hjo.tb.bel (hr1 q u hq)) hx
          have n0 := nu_at (fun q u hq => below_cell hjo.tb.bel (hr2 q u hq)) hy
          have hb2w : b2 < w.heap.size := World.block_lt_of_cell? _ _ (nu_at hr2 hy)
          obtain ⟨xk, xa⟩ := x
          dsimp only at y0 y1
          have hb1l : b1 < wr.heap.size := World.block_lt_of_cell? _ _ y0
          have hb2l : b2 < wr.heap.size := World.block_lt_of_cell? _ _ n0
          have HDR : Hid (((cs.zip la).drop js.length).map (sndJ1 l) = sndJ1 l (⟨xk, xa⟩, y) :: ((cs.zip la).drop (js.length + 1)).map (sndJ1 l)) := hdr
          clear hr1 hr2 hx hy hp hdr hjo HN
          generalize hj : js.length = j at *
          have HJ : Hid (js.length = j) := hj
          clear hj
          have hji : (j : Int) < (cs.length : Int) := by omega
          by_cases hk : xk < 0 ∨ (l.length : Int) ≤ xk
          · have e : sndOne l ⟨xk, xa⟩ y = 4 := by unfold sndOne; rw [if_pos hk]
            rw [e, if_neg (by decide)] at hsn
            have HE : Hid (chkS l cs la = (4, (j : Int)) ∧ True) := ⟨HCS.out.trans hsn.symm, trivial⟩
            have HNZ : Hid (((4 : Int), (j : Int)).1 ≠ 0) := (show (4 : Int) ≠ 0 by decide)
            clear e hsn
            have HB2 : Hid (TB w (wr.alloc (.cells #[.int .i64 xk, .int .i64 xa] 42))) := HG.out.tb.grow (below_new _ _)
            by_cases hk1 : xk < 0
            · go_upto_region 11 with fail
              generalize wr.alloc (.cells #[.int .i64 xk, .int .i64 xa] 42) = wz at *
              go_wp2_with (go_at_call 27; refine (F_any _ _ _).mono ?_; rintro r w8 ⟨rfl, hb8⟩; have H8 : Hid (TB w w8) := HB2.out.grow hb8; obtain ⟨qs, qf, ql⟩ := cells_of (l := [_, _]) H8.out.r1; have q0 := qs 0 _ rfl; have q1 := qs 1 _ rfl; have qf0 := qf 0; have qf1 := qf 1; obtain ⟨ss, sf, sl⟩ := cells_of (l := [_, _]) H8.out.r2; have s0 := ss 0 _ rfl; have s1 := ss 1 _ rfl; have sf0 := sf 0; have sf1 := sf 1; clear qs qf ss sf; clear hb8)
              have hx9 := H8.out.put (.slice none 0 0) (.slice none 0 0) (.int .i64 4) (.int .i64 (j : Int))
              refine bodyPost_ret (SendOf_ends (g1 := w.heap.size) (g2 := w.heap.size + 1) (a := .slice none 0 0) (b := .slice none 0 0) (c := .int .i64 4) (k := .int .i64 (j : Int)) hx9.1 hx9.2.1 rfl rfl) rfl ?_
              exact ⟨_, _, 4, (j : Int), [], [], rfl, .inl ⟨by rw [HE.out.1]; exact HNZ.out, by rw [HE.out.1], by rw [HE.out.1], rfl, rfl⟩, res_nil hx9.2.2.1⟩
            · have hk2 : (l.length : Int) ≤ xk := by omega
              go_upto_region 11 with fail
              generalize wr.alloc (.cells #[.int .i64 xk, .int .i64 xa] 42) = wz at *
              go_wp2_with (go_at_call 27; refine (F_any _ _ _).mono ?_; rintro r w8 ⟨rfl, hb8⟩; have H8 : Hid (TB w w8) := HB2.out.grow hb8; obtain ⟨qs, qf, ql⟩ := cells_of (l := [_, _]) H8.out.r1; have q0 := qs 0 _ rfl; have q1 := qs 1 _ rfl; have qf0 := qf 0; have qf1 := qf 1; obtain ⟨ss, sf, sl⟩ := cells_of (l := [_, _]) H8.out.r2; have s0 := ss 0 _ rfl; have s1 := ss 1 _ rfl; have sf0 := sf 0; have sf1 := sf 1; clear qs qf ss sf; clear hb8)
              have hx9 := H8.out.put (.slice none 0 0) (.slice none 0 0) (.int .i64 4) (.int .i64 (j : Int))
              refine bodyPost_ret (SendOf_ends (g1 := w.heap.size) (g2 := w.heap.size + 1) (a := .slice none 0 0) (b := .slice none 0 0) (c := .int .i64 4) (k := .int .i64 (j : Int)) hx9.1 hx9.2.1 rfl rfl) rfl ?_
              exact ⟨_, _, 4, (j : Int), [], [], rfl, .inl ⟨by rw [HE.out.1]; exact HNZ.out, by rw [HE.out.1], by rw [HE.out.1], rfl, rfl⟩, res_nil hx9.2.2.1⟩
          · obtain ⟨kn, rfl⟩ : ∃ kn : Nat, xk = (kn : Int) := ⟨xk.toNat, by omega⟩
            have hkn : kn < l.length := by omega
            obtain ⟨m, hm, -⟩ := drop_at hkn
            obtain ⟨m0, m1, m2, m3⟩ := fr_at (fun q u hq => below_cell HG.out.tb.bel (HV.out.2.1 q u hq)) hm
            have habw : ab < w.heap.size := World.block_lt_of_cell? _ _ (fr_at HV.out.2.1 hm).1
            have hmo := HV.out.1 m (List.mem_of_getElem? hm)
            have hFk : Fk l (kn : Int) = m := by unfold Fk; rw [Int.toNat_natCast, List.getD_eq_getElem?_getD, hm]; rfl
            have hkni : (kn : Int) < (l.length : Int) := by omega
            have hkn0 : ¬ (l.length : Int) ≤ (kn : Int) := by omega
            have hs1 : sndOne l ⟨(kn : Int), xa⟩ y = if xa < 0 ∨ 20000 < xa ∨ y < 0 ∨ m.j < y then 3 else 0 := by unfold sndOne; rw [if_neg hk, hFk]
            rw [hs1] at hsn
            have HSJ : Hid (sndJ1 l (⟨(kn : Int), xa⟩, y) = ⟨(kn : Int), xa + y, m.c, xa + m.d, (l.length : Int) - (kn : Int)⟩) := by
              have e : sndJ1 l (⟨(kn : Int), xa⟩, y) = ⟨(kn : Int), xa + y, m.c, xa + m.d, (l.length : Int) - (kn : Int)⟩ := by unfold sndJ1; dsimp only; rw [hFk]
              exact e
            obtain ⟨mc, mt, md, mj⟩ := m
            obtain ⟨g1, g2, g3, g4, g5, g6, g7, g8⟩ := hmo
            dsimp only at m0 m1 m2 m3 hsn g1 g2 g3 g4 g5 g6 g7 g8
            have habl : ab < wr.heap.size := World.block_lt_of_cell? _ _ m0
            have HB2 : Hid (JO w (wr.alloc (.cells #[.int .i64 (kn : Int), .int .i64 xa] 42)) js (.slice ad5 j c5)) := HG.out.grow (below_new _ _)
            have HNZ : Hid (((3 : Int), (j : Int)).1 ≠ 0) := (show (3 : Int) ≠ 0 by decide)
            have hbb := below_new wr (.cells #[.int .i64 (kn : Int), .int .i64 xa] 42)
            have z13 := cells_of (l := [_, _]) (heap_alloc_new wr (.cells #[.int .i64 (kn : Int), .int .i64 xa] 42))
            have a0 := z13.1 0 _ rfl
            have a1 := z13.1 1 _ rfl
            have nn := below_cell hbb n0
            have mm0 := below_cell hbb m0
            have mm2 := below_cell hbb m2
            have mm3 := below_cell hbb m3
            have hown : ∀ g, (Value.slice ad5 j c5).ownBlock = some g → w.heap.size + 2 ≤ g ∧ g < wr.heap.size := fun g e => HG.out.row.lt g e
            have HOW : Hid (∀ g, (Value.slice ad5 j c5).ownBlock = some g → w.heap.size + 2 ≤ g ∧ g < wr.heap.size) := hown
            clear hs1 hFk hm hk z13 hbb hown
            go_upto_region 12 with fail
            clear y0 y1 n0 m0 m1 m2 m3
            have hB13l : wr.heap.size < (wr.alloc (.cells #[.int .i64 (kn : Int), .int .i64 xa] 42)).heap.size := by simp
            generalize (wr.alloc (.cells #[.int .i64 (kn : Int), .int .i64 xa] 42)) = wz at *
            generalize wr.heap.size = B13 at *
            by_cases q0 : xa < 0
            · skip
              have HE : Hid (chkS l cs la = (3, (j : Int)) ∧ True) := by
                rw [if_pos (show xa < 0 ∨ 20000 < xa ∨ y < 0 ∨ mj < y by omega), if_neg (by decide)] at hsn
                exact ⟨HCS.out.trans hsn.symm, trivial⟩
              clear hsn
              go_quiet (fail)
              have HB3 : Hid (TB w (wz.drewN nq)) := HB2.out.tb.grow below_drewN'
              generalize wz.drewN nq = wy at *
              go_wp2_with (go_at_call 27; refine (F_any _ _ _).mono ?_; rintro r w8 ⟨rfl, hb8⟩; have H8 : Hid (TB w w8) := HB3.out.grow hb8; obtain ⟨qs, qf, ql⟩ := cells_of (l := [_, _]) H8.out.r1; have q0 := qs 0 _ rfl; have q1 := qs 1 _ rfl; have qf0 := qf 0; have qf1 := qf 1; obtain ⟨ss, sf, sl⟩ := cells_of (l := [_, _]) H8.out.r2; have s0 := ss 0 _ rfl; have s1 := ss 1 _ rfl; have sf0 := sf 0; have sf1 := sf 1; clear qs qf ss sf; clear hb8)
              have hx9 := H8.out.put (.slice none 0 0) (.slice none 0 0) (.int .i64 3) (.int .i64 (j : Int))
              refine bodyPost_ret (SendOf_ends (g1 := w.heap.size) (g2 := w.heap.size + 1) (a := .slice none 0 0) (b := .slice none 0 0) (c := .int .i64 3) (k := .int .i64 (j : Int)) hx9.1 hx9.2.1 rfl rfl) rfl ?_
              exact ⟨_, _, 3, (j : Int), [], [], rfl, .inl ⟨by rw [HE.out.1]; exact HNZ.out, by rw [HE.out.1], by rw [HE.out.1], rfl, rfl⟩, res_nil hx9.2.2.1⟩
            by_cases q1 : 20000 < xa
            · skip
              have HE : Hid (chkS l cs la = (3, (j : Int)) ∧ True) := by
                rw [if_pos (show xa < 0 ∨ 20000 < xa ∨ y < 0 ∨ mj < y by omega), if_neg (by decide)] at hsn
                exact ⟨HCS.out.trans hsn.symm, trivial⟩
              clear hsn
              go_quiet (fail)
              have HB3 : Hid (TB w (wz.drewN nq)) := HB2.out.tb.grow below_drewN'
              generalize wz.drewN nq = wy at *
              go_wp2_with (go_at_call 27; refine (F_any _ _ _).mono ?_; rintro r w8 ⟨rfl, hb8⟩; have H8 : Hid (TB w w8) := HB3.out.grow hb8; obtain ⟨qs, qf, ql⟩ := cells_of (l := [_, _]) H8.out.r1; have q0 := qs 0 _ rfl; have q1 := qs 1 _ rfl; have qf0 := qf 0; have qf1 := qf 1; obtain ⟨ss, sf, sl⟩ := cells_of (l := [_, _]) H8.out.r2; have s0 := ss 0 _ rfl; have s1 := ss 1 _ rfl; have sf0 := sf 0; have sf1 := sf 1; clear qs qf ss sf; clear hb8)
              have hx9 := H8.out.put (.slice none 0 0) (.slice none 0 0) (.int .i64 3) (.int .i64 (j : Int))
              refine bodyPost_ret (SendOf_ends (g1 := w.heap.size) (g2 := w.heap.size + 1) (a := .slice none 0 0) (b := .slice none 0 0) (c := .int .i64 3) (k := .int .i64 (j : Int)) hx9.1 hx9.2.1 rfl rfl) rfl ?_
              exact ⟨_, _, 3, (j : Int), [], [], rfl, .inl ⟨by rw [HE.out.1]; exact HNZ.out, by rw [HE.out.1], by rw [HE.out.1], rfl, rfl⟩, res_nil hx9.2.2.1⟩
            by_cases q2 : y < 0
            · skip
              have HE : Hid (chkS l cs la = (3, (j : Int)) ∧ True) := by
                rw [if_pos (show xa < 0 ∨ 20000 < xa ∨ y < 0 ∨ mj < y by omega), if_neg (by decide)] at hsn
                exact ⟨HCS.out.trans hsn.symm, trivial⟩
              clear hsn
              go_quiet (fail)
              have HB3 : Hid (TB w (wz.drewN nq)) := HB2.out.tb.grow below_drewN'
              generalize wz.drewN nq = wy at *
              go_wp2_with (go_at_call 27; refine (F_any _ _ _).mono ?_; rintro r w8 ⟨rfl, hb8⟩; have H8 : Hid (TB w w8) := HB3.out.grow hb8; obtain ⟨qs, qf, ql⟩ := cells_of (l := [_, _]) H8.out.r1; have q0 := qs 0 _ rfl; have q1 := qs 1 _ rfl; have qf0 := qf 0; have qf1 := qf 1; obtain ⟨ss, sf, sl⟩ := cells_of (l := [_, _]) H8.out.r2; have s0 := ss 0 _ rfl; have s1 := ss 1 _ rfl; have sf0 := sf 0; have sf1 := sf 1; clear qs qf ss sf; clear hb8)
              have hx9 := H8.out.put (.slice none 0 0) (.slice none 0 0) (.int .i64 3) (.int .i64 (j : Int))
              refine bodyPost_ret (SendOf_ends (g1 := w.heap.size) (g2 := w.heap.size + 1) (a := .slice none 0 0) (b := .slice none 0 0) (c := .int .i64 3) (k := .int .i64 (j : Int)) hx9.1 hx9.2.1 rfl rfl) rfl ?_
              exact ⟨_, _, 3, (j : Int), [], [], rfl, .inl ⟨by rw [HE.out.1]; exact HNZ.out, by rw [HE.out.1], by rw [HE.out.1], rfl, rfl⟩, res_nil hx9.2.2.1⟩
            by_cases q3 : mj < y
            · skip
              have HE : Hid (chkS l cs la = (3, (j : Int)) ∧ True) := by
                rw [if_pos (show xa < 0 ∨ 20000 < xa ∨ y < 0 ∨ mj < y by omega), if_neg (by decide)] at hsn
                exact ⟨HCS.out.trans hsn.symm, trivial⟩
              clear hsn
              go_quiet (fail)
              have HB3 : Hid (TB w (wz.drewN nq)) := HB2.out.tb.grow below_drewN'
              generalize wz.drewN nq = wy at *
              go_wp2_with (go_at_call 27; refine (F_any _ _ _).mono ?_; rintro r w8 ⟨rfl, hb8⟩; have H8 : Hid (TB w w8) := HB3.out.grow hb8; obtain ⟨qs, qf, ql⟩ := cells_of (l := [_, _]) H8.out.r1; have q0 := qs 0 _ rfl; have q1 := qs 1 _ rfl; have qf0 := qf 0; have qf1 := qf 1; obtain ⟨ss, sf, sl⟩ := cells_of (l := [_, _]) H8.out.r2; have s0 := ss 0 _ rfl; have s1 := ss 1 _ rfl; have sf0 := sf 0; have sf1 := sf 1; clear qs qf ss sf; clear hb8)
              have hx9 := H8.out.put (.slice none 0 0) (.slice none 0 0) (.int .i64 3) (.int .i64 (j : Int))
              refine bodyPost_ret (SendOf_ends (g1 := w.heap.size) (g2 := w.heap.size + 1) (a := .slice none 0 0) (b := .slice none 0 0) (c := .int .i64 3) (k := .int .i64 (j : Int)) hx9.1 hx9.2.1 rfl rfl) rfl ?_
              exact ⟨_, _, 3, (j : Int), [], [], rfl, .inl ⟨by rw [HE.out.1]; exact HNZ.out, by rw [HE.out.1], by rw [HE.out.1], rfl, rfl⟩, res_nil hx9.2.2.1⟩
            have HN2 : Hid (sndF l (List.drop (j + 1) (cs.zip la)) (j + 1) = sndF l (cs.zip la) 0) := by
              rw [if_neg (show ¬ (xa < 0 ∨ 20000 < xa ∨ y < 0 ∨ mj < y) by omega), if_pos rfl] at hsn
              exact hsn
            clear hsn
            go_quiet (fail)
            have HB3 : Hid (JO w (wz.drewN nq) js (.slice ad5 j c5)) := HB2.out.grow below_drewN'
            have a0' : (wz.drewN nq).cell? ⟨B13, 0, none⟩ = _ := a0
            have a1' : (wz.drewN nq).cell? ⟨B13, 1, none⟩ = _ := a1
            have nn' : (wz.drewN nq).cell? ⟨b2, o2 + j, none⟩ = _ := nn
            have mm0' : (wz.drewN nq).cell? ⟨ab, ao + kn * 4, none⟩ = _ := mm0
            have mm2' : (wz.drewN nq).cell? ⟨ab, ao + kn * 4 + 2, none⟩ = _ := mm2
            have hB13' : B13 < (wz.drewN nq).heap.size := hB13l
            clear a0 a1 nn mm0 mm2 mm3
            generalize wz.drewN nq = wy at *
            have w1e : IntKind.i64.wrap (xa + y) = xa + y := by rw [IntKind.wrap_i64]; omega
            have w2e : IntKind.i64.wrap (xa + md) = xa + md := by rw [IntKind.wrap_i64]; omega
            have w3e : IntKind.i64.wrap ((l.length : Int) - (kn : Int)) = (l.length : Int) - (kn : Int) := by rw [IntKind.wrap_i64]; omega
            go_upto_region 14 with fail
            have HB4 : Hid (JO w wy.drew js (.slice ad5 j c5)) := HB3.out.grow (by first | exact (Below.refl _ _).drew | exact below_drewN' (n := 1))
            obtain ⟨ad9, c9, w9, hrun, ho9, hold9⟩ := HB4.out.push ⟨(kn : Int), xa + y, mc, xa + md, (l.length : Int) - (kn : Int)⟩ (by have := HJ.out; omega)
            dsimp only at hrun
            rw [HJ.out] at hrun ho9
            have H9 : Hid (JO w w9 (js ++ [⟨(kn : Int), xa + y, mc, xa + md, (l.length : Int) - (kn : Int)⟩]) (.slice ad9 (j + 1) c9)) := ho9
            have hS0 : (fun w' : World => w'.cell? ⟨B13, 0, none⟩ = some (.int .i64 (kn : Int)) ∧ w'.cell? ⟨B13, 1, none⟩ = some (.int .i64 xa) ∧ w'.cell? ⟨b2, o2 + j, none⟩ = some (.int .i64 y) ∧ w'.cell? ⟨ab, ao + kn * 4, none⟩ = some (.int .i64 mc) ∧ w'.cell? ⟨ab, ao + kn * 4 + 2, none⟩ = some (.int .i64 md)) wy.drew := ⟨a0', a1', nn', mm0', mm2'⟩
            have hk9 : ∀ (g o : Nat) (u : Value), wy.drew.cell? ⟨g, o, none⟩ = some u → g < wy.drew.heap.size → some g ≠ (Value.slice ad5 j c5).ownBlock → w9.cell? ⟨g, o, none⟩ = some u := fun g o u hu hg hne => by
              have e := hold9 g hg hne
              unfold World.cell? at hu ⊢
              rw [e]; exact hu
            have hS9 : (fun w' : World => w'.cell? ⟨B13, 0, none⟩ = some (.int .i64 (kn : Int)) ∧ w'.cell? ⟨B13, 1, none⟩ = some (.int .i64 xa) ∧ w'.cell? ⟨b2, o2 + j, none⟩ = some (.int .i64 y) ∧ w'.cell? ⟨ab, ao + kn * 4, none⟩ = some (.int .i64 mc) ∧ w'.cell? ⟨ab, ao + kn * 4 + 2, none⟩ = some (.int .i64 md)) w9 := ⟨hk9 _ _ _ a0' (by show B13 < wy.heap.size; exact hB13') (fun e => by have := (HOW.out _ e.symm).2; omega), hk9 _ _ _ a1' (by show B13 < wy.heap.size; exact hB13') (fun e => by have := (HOW.out _ e.symm).2; omega), hk9 _ _ _ nn' (by show b2 < wy.heap.size; omega) (fun e => by have := (HOW.out _ e.symm).1; omega), hk9 _ _ _ mm0' (by show ab < wy.heap.size; omega) (fun e => by have := (HOW.out _ e.symm).1; omega), hk9 _ _ _ mm2' (by show ab < wy.heap.size; omega) (fun e => by have := (HOW.out _ e.symm).1; omega)⟩
            clear ho9 hold9 hk9
            refine wp_region_noPanic ?_
            refine wp_region_held_drew (S := fun w' : World => w'.cell? ⟨B13, 0, none⟩ = some (.int .i64 (kn : Int)) ∧ w'.cell? ⟨B13, 1, none⟩ = some (.int .i64 xa) ∧ w'.cell? ⟨b2, o2 + j, none⟩ = some (.int .i64 y) ∧ w'.cell? ⟨ab, ao + kn * 4, none⟩ = some (.int .i64 mc) ∧ w'.cell? ⟨ab, ao + kn * 4 + 2, none⟩ = some (.int .i64 md)) (by kernel_rfl) hS0 (fun hHeld => ?_)
            refine take_at (i := 0) (n := 84) (v := ?_) rfl rfl (by kernel_rfl) (by kernel_rfl) (by kernel_rfl) (fun _ _ _ h => h) (Or.inl ⟨by rfl, ?_⟩) (by assumption) ?_
            rotate_left 1
            · intro wz1 hSw
              obtain ⟨s0, s1, s2, s3, s4⟩ := hSw
              first | (go_simp; done) | (go_simp; with_reducible rfl)
            simp only [List.set_cons_zero, List.set_cons_succ]
            refine take_at (i := 1) (n := 85) (v := ?_) rfl rfl (by kernel_rfl) (by kernel_rfl) (by kernel_rfl) (fun _ _ _ h => h) (Or.inl ⟨by rfl, ?_⟩) (by assumption) ?_
            rotate_left 1
            · intro wz1 hSw
              obtain ⟨s0, s1, s2, s3, s4⟩ := hSw
              first | (go_simp; done) | (go_simp; with_reducible rfl)
            simp only [List.set_cons_zero, List.set_cons_succ]
            refine take_at (i := 2) (n := 86) (v := ?_) rfl rfl (by kernel_rfl) (by kernel_rfl) (by kernel_rfl) (fun _ _ _ h => h) (Or.inl ⟨by rfl, ?_⟩) (by assumption) ?_
            rotate_left 1
            · intro wz1 hSw
              obtain ⟨s0, s1, s2, s3, s4⟩ := hSw
              first | (go_simp; done) | (go_simp; with_reducible rfl)
            simp only [List.set_cons_zero, List.set_cons_succ]
            refine take_at (i := 3) (n := 87) (v := ?_) rfl rfl (by kernel_rfl) (by kernel_rfl) (by kernel_rfl) (fun _ _ _ h => h) (Or.inl ⟨by rfl, ?_⟩) (by assumption) ?_
            rotate_left 1
            · intro wz1 hSw
              obtain ⟨s0, s1, s2, s3, s4⟩ := hSw
              first | (go_simp; done) | (go_simp; with_reducible rfl)
            simp only [List.set_cons_zero, List.set_cons_succ]
            refine take_at (i := 4) (n := 88) (v := ?_) rfl rfl (by kernel_rfl) (by kernel_rfl) (by kernel_rfl) (fun _ _ _ h => h) (Or.inl ⟨by rfl, ?_⟩) (by assumption) ?_
            rotate_left 1
            · intro wz1 hSw
              obtain ⟨s0, s1, s2, s3, s4⟩ := hSw
              first | (go_simp; done) | (go_simp; with_reducible rfl)
            simp only [List.set_cons_zero, List.set_cons_succ]
            refine take_at (i := 5) (n := 89) (v := ?_) rfl rfl (by kernel_rfl) (by kernel_rfl) (by kernel_rfl) (fun _ _ _ h => h) (Or.inl ⟨by rfl, ?_⟩) (by assumption) ?_
            rotate_left 1
            · intro wz1 hSw
              obtain ⟨s0, s1, s2, s3, s4⟩ := hSw
              first | (go_simp; done) | (go_simp; with_reducible rfl)
            simp only [List.set_cons_zero, List.set_cons_succ]
            refine take_at (i := 6) (n := 90) (v := ?_) rfl rfl (by kernel_rfl) (by kernel_rfl) (by kernel_rfl) (fun _ _ _ h => h) (Or.inl ⟨by rfl, ?_⟩) (by assumption) ?_
            rotate_left 1
            · intro wz1 hSw
              obtain ⟨s0, s1, s2, s3, s4⟩ := hSw
              first | (go_simp; done) | (go_simp; with_reducible rfl)
            simp only [List.set_cons_zero, List.set_cons_succ]
            refine take_at (i := 7) (n := 91) (v := ?_) rfl rfl (by kernel_rfl) (by kernel_rfl) (by kernel_rfl) (fun _ _ _ h => h) (Or.inl ⟨by rfl, ?_⟩) (by assumption) ?_
            rotate_left 1
            · intro wz1 hSw
              obtain ⟨s0, s1, s2, s3, s4⟩ := hSw
              first | (go_simp; done) | (go_simp; with_reducible rfl)
            simp only [List.set_cons_zero, List.set_cons_succ]
            refine take_at (i := 8) (n := 92) (v := ?_) rfl rfl (by kernel_rfl) (by kernel_rfl) (by kernel_rfl) (fun _ _ _ h => h) (Or.inl ⟨by rfl, ?_⟩) (by assumption) ?_
            rotate_left 1
            · intro wz1 hSw
              obtain ⟨s0, s1, s2, s3, s4⟩ := hSw
              first | (go_simp; done) | (go_simp; with_reducible rfl)
            simp only [List.set_cons_zero, List.set_cons_succ]
            refine take_at (i := 9) (n := 93) (v := ?_) rfl rfl (by kernel_rfl) (by kernel_rfl) (by kernel_rfl) (fun _ _ _ h => h) (Or.inl ⟨by rfl, ?_⟩) (by assumption) ?_
            rotate_left 1
            · intro wz1 hSw
              obtain ⟨s0, s1, s2, s3, s4⟩ := hSw
              first | (go_simp; done) | (go_simp; with_reducible rfl)
            simp only [List.set_cons_zero, List.set_cons_succ]
            refine take_at (i := 10) (n := 94) (v := ?_) rfl rfl (by kernel_rfl) (by kernel_rfl) (by kernel_rfl) (fun _ _ _ h => h) (Or.inl ⟨by rfl, ?_⟩) (by assumption) ?_
            rotate_left 1
            · intro wz1 hSw
              obtain ⟨s0, s1, s2, s3, s4⟩ := hSw
              first | (go_simp; done) | (go_simp; with_reducible rfl)
            simp only [List.set_cons_zero, List.set_cons_succ]
            refine take_at (i := 11) (n := 95) (v := ?_) rfl rfl (by kernel_rfl) (by kernel_rfl) (by kernel_rfl) (fun _ _ _ h => h) (Or.inl ⟨by rfl, ?_⟩) (by assumption) ?_
            rotate_left 1
            · intro wz1 hSw
              obtain ⟨s0, s1, s2, s3, s4⟩ := hSw
              first | (go_simp; done) | (go_simp; with_reducible rfl)
            simp only [List.set_cons_zero, List.set_cons_succ]
            refine take_at (i := 12) (n := 96) (v := ?_) rfl rfl (by kernel_rfl) (by kernel_rfl) (by kernel_rfl) (fun _ _ _ h => h) (Or.inl ⟨by rfl, ?_⟩) (by assumption) ?_
            rotate_left 1
            · intro wz1 hSw
              obtain ⟨s0, s1, s2, s3, s4⟩ := hSw
              first | (go_simp; done) | (go_simp; with_reducible rfl)
            simp only [List.set_cons_zero, List.set_cons_succ]
            refine take_at (i := 13) (n := 97) (v := ?_) rfl rfl (by kernel_rfl) (by kernel_rfl) (by kernel_rfl) (fun _ _ _ h => h) (Or.inl ⟨by rfl, ?_⟩) (by assumption) ?_
            rotate_left 1
            · intro wz1 hSw
              obtain ⟨s0, s1, s2, s3, s4⟩ := hSw
              first | (go_simp; done) | (go_simp; with_reducible rfl)
            simp only [List.set_cons_zero, List.set_cons_succ]
            refine take_at (i := 14) (n := 98) (v := ?_) rfl rfl (by kernel_rfl) (by kernel_rfl) (by kernel_rfl) (fun _ _ _ h => h) (Or.inl ⟨by rfl, ?_⟩) (by assumption) ?_
            rotate_left 1
            · intro wz1 hSw
              obtain ⟨s0, s1, s2, s3, s4⟩ := hSw
              first | (go_simp; done) | (go_simp; with_reducible rfl)
            simp only [List.set_cons_zero, List.set_cons_succ]
            refine take_at (i := 15) (n := 99) (v := ?_) rfl rfl (by kernel_rfl) (by kernel_rfl) (by kernel_rfl) (fun _ _ _ h => h) (Or.inl ⟨by rfl, ?_⟩) (by assumption) ?_
            rotate_left 1
            · intro wz1 hSw
              obtain ⟨s0, s1, s2, s3, s4⟩ := hSw
              first | (go_simp; done) | (go_simp; with_reducible rfl)
            simp only [List.set_cons_zero, List.set_cons_succ]
            refine take_at (i := 16) (n := 100) (v := ?_) rfl rfl (by kernel_rfl) (by kernel_rfl) (by kernel_rfl) (fun _ _ _ h => h) (Or.inl ⟨by rfl, ?_⟩) (by assumption) ?_
            rotate_left 1
            · intro wz1 hSw
              obtain ⟨s0, s1, s2, s3, s4⟩ := hSw
              first | (go_simp; done) | (go_simp; with_reducible rfl)
            simp only [List.set_cons_zero, List.set_cons_succ]
            refine take_at (i := 17) (n := 101) (v := ?_) rfl rfl (by kernel_rfl) (by kernel_rfl) (by kernel_rfl) (fun _ _ _ h => h) (Or.inl ⟨by rfl, ?_⟩) (by assumption) ?_
            rotate_left 1
            · intro wz1 hSw
              obtain ⟨s0, s1, s2, s3, s4⟩ := hSw
              first | (go_simp; done) | (go_simp; with_reducible rfl)
            simp only [List.set_cons_zero, List.set_cons_succ]
            refine take_at (i := 18) (n := 102) (v := ?_) rfl rfl (by kernel_rfl) (by kernel_rfl) (by kernel_rfl) (fun _ _ _ h => h) (Or.inl ⟨by rfl, ?_⟩) (by assumption) ?_
            rotate_left 1
            · intro wz1 hSw
              obtain ⟨s0, s1, s2, s3, s4⟩ := hSw
              first | (go_simp; done) | (go_simp; with_reducible rfl)
            simp only [List.set_cons_zero, List.set_cons_succ]
            refine take_at (i := 19) (n := 103) (v := ?_) rfl rfl (by kernel_rfl) (by kernel_rfl) (by kernel_rfl) (fun _ _ _ h => h) (Or.inl ⟨by rfl, ?_⟩) (by assumption) ?_
            rotate_left 1
            · intro wz1 hSw
              obtain ⟨s0, s1, s2, s3, s4⟩ := hSw
              first | (go_simp; done) | (go_simp; with_reducible rfl)
            simp only [List.set_cons_zero, List.set_cons_succ]
            refine take_at (i := 20) (n := 104) (v := ?_) rfl rfl (by kernel_rfl) (by kernel_rfl) (by kernel_rfl) (fun _ _ _ h => h) (Or.inl ⟨by rfl, ?_⟩) (by assumption) ?_
            rotate_left 1
            · intro wz1 hSw
              obtain ⟨s0, s1, s2, s3, s4⟩ := hSw
              first | (go_simp; done) | (go_simp; with_reducible rfl)
            simp only [List.set_cons_zero, List.set_cons_succ]
            refine take_at (i := 21) (n := 105) (v := ?_) rfl rfl (by kernel_rfl) (by kernel_rfl) (by kernel_rfl) (fun _ _ _ h => h) (Or.inl ⟨by rfl, ?_⟩) (by assumption) ?_
            rotate_left 1
            · intro wz1 hSw
              obtain ⟨s0, s1, s2, s3, s4⟩ := hSw
              first | (go_simp; done) | (go_simp; with_reducible rfl)
            simp only [List.set_cons_zero, List.set_cons_succ]
            refine take_at (i := 22) (n := 106) (v := ?_) rfl rfl (by kernel_rfl) (by kernel_rfl) (by kernel_rfl) (fun _ _ _ h => h) (Or.inl ⟨by rfl, ?_⟩) (by assumption) ?_
            rotate_left 1
            · intro wz1 hSw
              obtain ⟨s0, s1, s2, s3, s4⟩ := hSw
              first | (go_simp; done) | (go_simp; with_reducible rfl)
            simp only [List.set_cons_zero, List.set_cons_succ]
            refine take_at (i := 23) (n := 107) (v := ?_) rfl rfl (by kernel_rfl) (by kernel_rfl) (by kernel_rfl) (fun _ _ _ h => h) (Or.inl ⟨by rfl, ?_⟩) (by assumption) ?_
            rotate_left 1
            · intro wz1 hSw
              obtain ⟨s0, s1, s2, s3, s4⟩ := hSw
              first | (go_simp; done) | (go_simp; with_reducible rfl)
            simp only [List.set_cons_zero, List.set_cons_succ]
            refine take_at (i := 24) (n := 108) (v := ?_) rfl rfl (by kernel_rfl) (by kernel_rfl) (by kernel_rfl) (fun _ _ _ h => h) (Or.inl ⟨by rfl, ?_⟩) (by assumption) ?_
            rotate_left 1
            · intro wz1 hSw
              obtain ⟨s0, s1, s2, s3, s4⟩ := hSw
              first | (go_simp; done) | (go_simp; with_reducible rfl)
            simp only [List.set_cons_zero, List.set_cons_succ]
            refine take_at (i := 25) (n := 109) (v := ?_) rfl rfl (by kernel_rfl) (by kernel_rfl) (by kernel_rfl) (fun _ _ _ h => h) (Or.inl ⟨by rfl, ?_⟩) (by assumption) ?_
            rotate_left 1
            · intro wz1 hSw
              obtain ⟨s0, s1, s2, s3, s4⟩ := hSw
              first | (go_simp; done) | (go_simp; with_reducible rfl)
            simp only [List.set_cons_zero, List.set_cons_succ]
            refine take_at (i := 26) (n := 110) (v := ?_) rfl rfl (by kernel_rfl) (by kernel_rfl) (by kernel_rfl) (fun _ _ _ h => h) (Or.inl ⟨by rfl, ?_⟩) (by assumption) ?_
            rotate_left 1
            · intro wz1 hSw
              obtain ⟨s0, s1, s2, s3, s4⟩ := hSw
              first | (go_simp; done) | (go_simp; with_reducible rfl)
            simp only [List.set_cons_zero, List.set_cons_succ]
            refine take_at (i := 27) (n := 111) (v := ?_) rfl rfl (by kernel_rfl) (by kernel_rfl) (by kernel_rfl) (fun _ _ _ h => h) (Or.inl ⟨by rfl, ?_⟩) (by assumption) ?_
            rotate_left 1
            · intro wz1 hSw
              obtain ⟨s0, s1, s2, s3, s4⟩ := hSw
              first | (go_simp; done) | (go_simp; with_reducible rfl)
            simp only [List.set_cons_zero, List.set_cons_succ]
            refine take_at (i := 28) (n := 112) (v := ?_) rfl rfl (by kernel_rfl) (by kernel_rfl) (by kernel_rfl) (fun _ _ _ h => h) (Or.inl ⟨by rfl, ?_⟩) (by assumption) ?_
            rotate_left 1
            · intro wz1 hSw
              obtain ⟨s0, s1, s2, s3, s4⟩ := hSw
              first | (go_simp; done) | (go_simp; with_reducible rfl)
            simp only [List.set_cons_zero, List.set_cons_succ]
            refine take_at (i := 29) (n := 113) (v := ?_) rfl rfl (by kernel_rfl) (by kernel_rfl) (by kernel_rfl) (fun _ _ _ h => h) (Or.inl ⟨by rfl, ?_⟩) (by assumption) ?_
            rotate_left 1
            · intro wz1 hSw
              obtain ⟨s0, s1, s2, s3, s4⟩ := hSw
              first | (go_simp; done) | (go_simp; with_reducible rfl)
            simp only [List.set_cons_zero, List.set_cons_succ]
            refine take_at (i := 30) (n := 114) (v := ?_) rfl rfl (by kernel_rfl) (by kernel_rfl) (by kernel_rfl) (fun _ _ _ h => h) (Or.inl ⟨by rfl, ?_⟩) (by assumption) ?_
            rotate_left 1
            · intro wz1 hSw
              obtain ⟨s0, s1, s2, s3, s4⟩ := hSw
              first | (go_simp; done) | (go_simp; with_reducible rfl)
            simp only [List.set_cons_zero, List.set_cons_succ]
            refine wpAnyH_ready (rs := [31]) (by kernel_rfl) (by simp) ?_
            refine AllReadyH.cons rfl (fun K hK => ?_) AllReadyH.nil
            go_simp
            refine hK.out _ _ (by obtain ⟨p0, p1, p2, p3, p4⟩ := hS0; exact ⟨below_cell (below_new _ _) p0, below_cell (below_new _ _) p1, below_cell (below_new _ _) p2, below_cell (below_new _ _) p3, below_cell (below_new _ _) p4⟩) (fun hHeld => ?_)
            clear hK K
            refine wpAnyH_ready (rs := [32]) (by kernel_rfl) (by simp) ?_
            refine AllReadyH.cons rfl (fun K hK => ?_) AllReadyH.nil
            refine region_append rfl (.tmp 84) (.tmp 115) 61 rfl rfl rfl hrun ?_
            refine hK.out _ _ hS9 (fun hHeld => ?_)
            clear hK K
            refine take_at (i := 33) (n := 11) (v := ?_) rfl rfl (by kernel_rfl) (by kernel_rfl) (by kernel_rfl) (fun _ _ _ h => h) (Or.inl ⟨by rfl, ?_⟩) (by assumption) ?_
            rotate_left 1
            · intro wz1 hSw
              obtain ⟨s0, s1, s2, s3, s4⟩ := hSw
              first | (go_simp; done) | (go_simp; with_reducible rfl)
            simp only [List.set_cons_zero, List.set_cons_succ]
            refine wpAnyH_done (by kernel_rfl) ?_ _
            refine NoPanic.normal ?_
            clear hS0 hS9 hHeld hrun
            go_wp2_with fail
            refine ⟨⟨js ++ [⟨(kn : Int), xa + y, mc, xa + md, (l.length : Int) - (kn : Int)⟩], by simp; have := HJ.out; omega, by have := HJ.out; simp; omega, H9.out, ?_, ?_⟩, by have := HJ.out; simp [intOf]; omega⟩
            · have e : js ++ [⟨(kn : Int), xa + y, mc, xa + md, (l.length : Int) - (kn : Int)⟩] ++ ((cs.zip la).drop (js ++ [(⟨(kn : Int), xa + y, mc, xa + md, (l.length : Int) - (kn : Int)⟩ : Jb)]).length).map (sndJ1 l) = sndJ l cs la := by
                rw [← HS.out, List.length_append, HJ.out, HDR.out, HSJ.out]
                simp
              exact e
            · have e : sndF l ((cs.zip la).drop (js ++ [(⟨(kn : Int), xa + y, mc, xa + md, (l.length : Int) - (kn : Int)⟩ : Jb)]).length) (js ++ [(⟨(kn : Int), xa + y, mc, xa + md, (l.length : Int) - (kn : Int)⟩ : Jb)]).length = sndF l (cs.zip la) 0 := by
                rw [List.length_append, HJ.out]; exact HN2.out
              exact e
        · have hje : js.length = cs.length := by omega
          have hjn : js = sndJ l cs la := by
            have := HS.out
            rw [List.drop_of_length_le (by rw [List.length_zip]; omega)] at this
            simpa using this
          have hcs0 : chkS l cs la = (0, 0) := by
            have := HN.out
            rw [List.drop_of_length_le (by rw [List.length_zip]; omega), sndF] at this
            exact HCS.out.trans this.symm
          have HJS : Hid (js = sndJ l cs la ∧ chkS l cs la = (0, 0)) := ⟨hjn, hcs0⟩
          have HPl := PlayJobs_res wr js _ 1 n false hjo.jobs
          have hji : ¬ ((js.length : Nat) : Int) < (cs.length : Int) := by omega
          clear hjo HS HN hjn hcs0 hje
          go_wp2_with (go_at_call 32; refine HPl.mono ?_; rintro r w5 ⟨u1, u2, z1, z2, rs, es, rfl, hpr, hres⟩; have H5 : Hid (TB w w5 ∧ PlRes js 1 false n z1 z2 rs es ∧ Res wr w5 rs es u1 u2) := ⟨HG.out.tb.grow hres.1, hpr, hres⟩; obtain ⟨a1, cc1, a2, cc2, rfl, rfl⟩ := hres.slices; obtain ⟨qs, qf, ql⟩ := cells_of (l := [_, _]) H5.out.1.r1; have q0 := qs 0 _ rfl; have q1 := qs 1 _ rfl; have qf0 := qf 0; have qf1 := qf 1; obtain ⟨ss, sf, sl⟩ := cells_of (l := [_, _]) H5.out.1.r2; have s0 := ss 0 _ rfl; have s1 := ss 1 _ rfl; have sf0 := sf 0; have sf1 := sf 1; clear qs qf ss sf; clear hpr hres HPl)
          have hx := H5.out.1.put (.slice a1 rs.length cc1) (.slice a2 es.length cc2) (.int .i64 z1) (.int .i64 z2)
          refine bodyPost_ret (SendOf_ends (g1 := w.heap.size) (g2 := w.heap.size + 1) (a := .slice a1 rs.length cc1) (b := .slice a2 es.length cc2) (c := .int .i64 z1) (k := .int .i64 z2) hx.1 hx.2.1 rfl rfl) rfl ?_
          have hsz : w.heap.size + 1 < wr.heap.size := lt_of_heap HG.out.tb.r2
          exact ⟨_, _, z1, z2, rs, es, rfl, .inr ⟨by rw [HJS.out.2], by rw [← HJS.out.1]; exact H5.out.2.1⟩, H5.out.2.2.turn hx.2.2.1 (by omega) (fun q hq => hx.2.2.2 q (by omega))⟩
end Go.Proofs.YtdhnjemgnlklkajDoor
