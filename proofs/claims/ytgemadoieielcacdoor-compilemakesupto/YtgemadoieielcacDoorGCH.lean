import Derived.Test.YtgemadoieielcacDoorGCG
namespace Go.Proofs.YtgemadoieielcacDoor.B
open Go.ChangeShapes Go.WideShapes Go.ChangeAt Go.RowKit

set_option maxRecDepth 20000 in
set_option maxHeartbeats 400000 in
theorem while_any (w0 : World) (bb N : Nat) (hE : EndsIn w0) (hK : CompsIn w0) (hL : ListC w0 bb N) (ca cb : Ex) (y l : List St) (k n ek en ck ak an bk bn : Int) (ead aad bad yad lad : Option Addr) (em ec am ac bm bc yc lc : Nat) (i2 : ca.In w0 (.agg #[.int .i64 ak, .int .i64 an, .slice aad am ac])) (i3 : cb.In w0 (.agg #[.int .i64 bk, .int .i64 bn, .slice bad bm bc])) (i4 : St.Sl w0 y (.slice yad y.length yc)) (hck : 1 ≤ ck ∧ ck ≤ 4) (hla : ca.Lay) (hlb : cb.Lay) (hly : St.LayAll y) (hN : St.bulkAll y ≤ N) (w : World) (img : List Io) (loops i : Int) (iv : Value) (hw : BW w0 w bb img loops iv) (hlen : img.length + 8 * (ca.nodes + cb.nodes + St.bulkAll y) ≤ 600000) (hlo : 0 ≤ loops ∧ loops + (St.bulkAll y : Nat) ≤ 1000000) :
    Calls Tryd.prog 127 #[.pointer (some ⟨bb, 0, none⟩), .agg #[.int .i64 k, .int .i64 n, .int .i64 ek, .int .i64 en, .slice ead em ec, .int .i64 ck, .int .i64 ak, .int .i64 an, .slice aad am ac, .int .i64 bk, .int .i64 bn, .slice bad bm bc, .slice yad y.length yc, .slice lad l.length lc], .int .i64 i] w fun r w' => r = .returned (.tuple #[]) ∧ ∃ iv', BW w0 w' bb (img ++ mv img.length (whP (cdP ck ca cb) (St.pcAll y loops) i)) loops iv' ∧ BG bb w w' iv iv' := by
  have hcl := cdP_len ck ca cb
  have hyl := St.pcAll_len y loops
  have hcm := cdP_mv img.length ck ca cb hla hlb
  have p6 := Ex.nodes_pos ca
  have p7 := Ex.nodes_pos cb
  have hW1 := hw.below (below_new w (.cells #[.int .i64 k, .int .i64 n, .int .i64 ek, .int .i64 en, .slice ead em ec, .int .i64 ck, .int .i64 ak, .int .i64 an, .slice aad am ac, .int .i64 bk, .int .i64 bn, .slice bad bm bc, .slice yad y.length yc, .slice lad l.length lc] 123))
  have hK1 := Kp.new hw (.cells #[.int .i64 k, .int .i64 n, .int .i64 ek, .int .i64 en, .slice ead em ec, .int .i64 ck, .int .i64 ak, .int .i64 an, .slice aad am ac, .int .i64 bk, .int .i64 bn, .slice bad bm bc, .slice yad y.length yc, .slice lad l.length lc] 123)
  have HC1 := bcond_any w0 _ bb img loops iv ck ca cb ak an bk bn aad bad am ac bm bc hE hK hck i2 i3 hla hlb (by omega) (by omega) hW1 (by omega)
  have HK1 : Hid (Kp (w.alloc (.cells #[.int .i64 k, .int .i64 n, .int .i64 ek, .int .i64 en, .slice ead em ec, .int .i64 ck, .int .i64 ak, .int .i64 an, .slice aad am ac, .int .i64 bk, .int .i64 bn, .slice bad bm bc, .slice yad y.length yc, .slice lad l.length lc] 123)) bb iv w.heap.size (.cells #[.int .i64 k, .int .i64 n, .int .i64 ek, .int .i64 en, .slice ead em ec, .int .i64 ck, .int .i64 ak, .int .i64 an, .slice aad am ac, .int .i64 bk, .int .i64 bn, .slice bad bm bc, .slice yad y.length yc, .slice lad l.length lc] 123 (0, 0)) ∧ BG bb w (w.alloc (.cells #[.int .i64 k, .int .i64 n, .int .i64 ek, .int .i64 en, .slice ead em ec, .int .i64 ck, .int .i64 ak, .int .i64 an, .slice aad am ac, .int .i64 bk, .int .i64 bn, .slice bad bm bc, .slice yad y.length yc, .slice lad l.length lc] 123)) iv iv) := ⟨hK1, BG.of_below (below_new _ _)⟩
  have HI : Hid (St.Sl w0 y (.slice yad y.length yc) ∧ St.LayAll y ∧ ListC w0 bb N ∧ mv img.length (cdP ck ca cb) = cdP ck ca cb) := ⟨i4, hly, hL, hcm⟩
  have hlt := hw.cells.2.2.2
  clear hw hW1 hK1 i2 i3 i4 hly hL hcm hE hK
  generalize cdP ck ca cb = C at *
  go_enter Tryd.func127, Tryd.ntmps127
  go_wp2_with (go_at_call 145; refine HC1.mono ?_; rintro r w2 ⟨q, p, iv2, rfl, hp2, hw2, hg2⟩; have hk2 := HK1.out.1.go hg2; obtain ⟨d1, e1, lk2⟩ := cells_of (l := [_, _, _, _, _, _, _, _, _, _, _, _, _, _]) hk2.blk; have x2_12 := d1 12 _ rfl; clear d1 e1; have HC2 := HI.out.2.2.1 y w2 _ (img ++ C ++ [⟨12, 0, 0⟩]) loops iv2 (by omega) HI.out.1 HI.out.2.1 hw2 (by simp; omega) (by omega); have H2 : Hid (LpAt w2 bb iv2 q p (img ++ C).length ∧ BG bb w w2 iv iv2) := ⟨hp2, HK1.out.2.trans hg2⟩; clear hp2 hw2 hg2 hk2 HC1)
  go_wp2_with (go_at_call 60; refine HC2.mono ?_; rintro r w3 ⟨rfl, iv3, hw3, hg3⟩; have H3 : Hid (BW w0 w3 bb (img ++ C ++ [⟨12, 0, 0⟩] ++ mv ((img ++ C ++ [(⟨12, 0, 0⟩ : Io)]).length) (St.pcAll y loops)) loops iv3 ∧ LpAt w3 bb iv3 q p (img ++ C).length ∧ BG bb w w3 iv iv3) := ⟨hw3, H2.out.1.go hg3, H2.out.2.trans hg3⟩; clear hw3 hg3 HC2)
  obtain ⟨s2, hs2⟩ : ∃ s2 : List Io, s2 = img ++ C ++ [⟨12, 0, 0⟩] ++ mv ((img ++ C ++ [(⟨12, 0, 0⟩ : Io)]).length) (St.pcAll y loops) := ⟨_, rfl⟩
  have ls2 : s2.length = img.length + C.length + 1 + (St.pcAll y loops).length := by rw [hs2]; simp [mv_len]; omega
  rw [← hs2] at H3
  have HC3 := leap_any w0 w3 bb s2 loops iv3 11 H3.out.1 (by omega)
  go_wp2_with (go_at_call 146; refine HC3.mono ?_; rintro r w4 ⟨q2, p2, iv4, rfl, hp4, hw4, hg4⟩; have H4 : Hid (LpAt w4 bb iv4 q2 p2 s2.length ∧ LpAt w4 bb iv4 q p (img ++ C).length ∧ BG bb w w4 iv iv4) := ⟨hp4, H3.out.2.1.go hg4, H3.out.2.2.trans hg4⟩; have HC4 := land_any w0 w4 bb (s2 ++ [⟨11, 0, 0⟩]) loops iv4 q p _ hw4 H4.out.2.1 (by simp only [List.length_append, ls2, List.length_cons, List.length_nil]; omega); clear hp4 hw4 hg4 HC3)
  obtain ⟨s4, hs4⟩ : ∃ s4 : List Io, s4 = landI (s2 ++ [⟨11, 0, 0⟩]) (img ++ C).length := ⟨_, rfl⟩
  have ls4 : s4.length = s2.length + 1 := by rw [hs4]; simp [landI]
  go_wp2_with (go_at_call 158; refine HC4.mono ?_; rintro r w5 ⟨rfl, hw5, hg5⟩; have hw5' : BW w0 w5 bb s4 loops iv4 := (by rw [hs4]; exact hw5); have HC5 := put_any w0 w5 bb s4 loops iv4 15 i hw5' (by omega); have H5 : Hid (LpAt w5 bb iv4 q2 p2 s2.length ∧ BG bb w w5 iv iv4) := ⟨H4.out.1.go hg5, H4.out.2.2.trans hg5⟩; clear hw5 hw5' hg5 HC4)
  go_wp2_with (go_at_call 122; refine HC5.mono ?_; rintro r w6 ⟨rfl, iv6, hw6, hg6⟩; have HC6 := land_any w0 w6 bb _ loops iv6 q2 p2 _ hw6 (H5.out.1.go hg6) (by rw [List.length_append, ls4]; omega); have H6 : Hid (BG bb w w6 iv iv6) := H5.out.2.trans hg6; clear hw6 hg6 HC5)
  go_wp2_with (go_at_call 158; refine HC6.mono ?_; rintro r w7 ⟨rfl, hw7, hg7⟩; have H7 : Hid (_ ∧ BG bb w w7 iv iv6) := ⟨hw7, H6.out.trans hg7⟩; clear hw7 hg7 HC6)
  go_end0
  refine ⟨rfl, iv6, ?_, H7.out.2⟩
  have hq := H7.out.1
  have e := wh_img img C (St.pcAll y loops) i HI.out.2.2.2 s2 s4 hs2 hs4
  unfold landI at e
  rw [e] at hq
  exact hq

theorem BW.loops {w0 w : World} {bb : Nat} {img : List Io} {loops : Int} {iv : Value} (h : BW w0 w bb img loops iv) (z : Int) : BW w0 (w.setCell ⟨bb, 1, none⟩ (.int .i64 z)) bb img z iv ∧ BG bb w (w.setCell ⟨bb, 1, none⟩ (.int .i64 z)) iv iv := by
  have ho := h.old
  refine ⟨⟨h.bel.setCell (by show w0.heap.size ≤ bb; omega) _, h.old, ?_, ownsRow_same h.own (fun k hk1 _ => Below.heap_setCell _ _ _ _ (by show k ≠ bb; omega))⟩, rfl, rfl, rfl, by simp, fun k _ h2 _ => Below.heap_setCell _ _ _ _ h2, .inl rfl⟩
  rw [setCell_at h.blk]
  simp


set_option maxRecDepth 20000 in
set_option maxHeartbeats 400000 in
theorem loop125_any (w0 : World) (bb : Nat) (n : Int) (q p : Nat) (w : World) (img I : List Io) (loops : Int) (iv : Value) (hw : BW w0 w bb img loops iv) (hn : 0 ≤ n ∧ n ≤ 1000) (hlen : img.length + 8 + I.length ≤ 700000) (hlo : 0 ≤ loops ∧ loops ≤ 1000000)
    (hin : n ≠ 0 → ∀ W iv', BW w0 W bb (img ++ [⟨13, loops, n - 1⟩]) (loops + 1) iv' → BG bb w W iv iv' → Calls Tryd.prog 125 #[.int .i64 loops, .pointer (some ⟨q, 0, none⟩), .pointer (some ⟨p, 0, none⟩)] W fun r w' => r = .returned (.tuple #[]) ∧ ∃ iv'', BW w0 w' bb (img ++ [⟨13, loops, n - 1⟩] ++ mv ((img ++ [(⟨13, loops, n - 1⟩ : Io)]).length) I) (loops + 1) iv'' ∧ BG bb W w' iv' iv'') :
    Calls Tryd.prog 124 #[.pointer (some ⟨bb, 0, none⟩), .int .i64 n, .func (Fn.func 125) #[] #[.pointer (some ⟨q, 0, none⟩), .pointer (some ⟨p, 0, none⟩)]] w fun r w' => r = .returned (.tuple #[]) ∧ ∃ iv', BW w0 w' bb (img ++ mv img.length (if n = 0 then [] else lpP loops n I)) loops iv' ∧ BG bb w w' iv iv' := by
  by_cases h0 : n = 0
  · subst h0
    have HW : Hid (BW w0 w bb img loops iv) := hw
    clear hin hw
    go_enter Tryd.func124, Tryd.ntmps124
    go_wp2_with fail
    refine bodyPost_ret (results_none rfl _ _ _) rfl ?_
    refine ⟨rfl, iv, ?_, BG.refl _ _ _⟩
    have hq := HW.out
    first | rw [if_pos rfl, mv_nil, List.append_nil] | rw [mv_nil, List.append_nil]
    exact hq
  obtain ⟨ad, c, rfl⟩ := hw.shape
  obtain ⟨c0, c1, fz, hlt⟩ := hw.cells
  have HW : Hid (BW w0 w bb img loops (.slice ad img.length c)) := hw
  have HI : Hid _ := hin h0
  have h0b : (n == 0) = false := by simpa using h0
  clear hw fz hin
  go_enter Tryd.func124, Tryd.ntmps124
  go_wp2_with (at_builtin; refine wp_pushI rfl (.tmp 18) (.tmp 23) rfl (bb + 1) (.slice ad img.length c) img 13 loops (n - 1) w.heap.size img.length rfl rfl rfl rfl HW.out.own (by omega) (by omega) ?_; intro ad4 c4 w4 ho4 hg4 hv4; obtain ⟨q1, q2, q3⟩ := HW.out.push (img' := img ++ [⟨13, loops, n - 1⟩]) (by simpa using ho4) hg4 (by simpa using hv4); have H4 : Hid (_ ∧ _) := ⟨q2, q3⟩; obtain ⟨d1, e1, l1⟩ := cells_of (l := [_, _]) q1; have d10 := d1 0 _ rfl; have d11 := d1 1 _ rfl; have e10 := e1 0; have e11 := e1 1; clear q1 q2 q3 ho4 hg4 hv4 d1 e1)
  simp only [List.length_append, List.length_cons, List.length_nil, Nat.zero_add] at H4
  have hx := H4.out.1.loops (loops + 1)
  have HC := HI.out _ _ hx.1 (H4.out.2.trans hx.2)
  have HG : Hid (BG bb w ((w4.setCell ⟨bb, 0, none⟩ (.slice ad4 (img.length + 1) c4)).setCell ⟨bb, 1, none⟩ (.int .i64 (loops + 1))) (.slice ad img.length c) (.slice ad4 (img.length + 1) c4)) := H4.out.2.trans hx.2
  clear hx HI
  obtain ⟨s5, hs5⟩ : ∃ s5 : List Io, s5 = img ++ [⟨13, loops, n - 1⟩] ++ mv ((img ++ [(⟨13, loops, n - 1⟩ : Io)]).length) I := ⟨_, rfl⟩
  have LS5 : Hid (s5.length = img.length + 1 + I.length) := by show _ = _; rw [hs5]; simp [mv_len]; omega
  rw [← hs5] at HC
  have HS5 : Hid (s5 = img ++ [⟨13, loops, n - 1⟩] ++ mv ((img ++ [(⟨13, loops, n - 1⟩ : Io)]).length) I) := hs5
  clear hs5
  go_wp2_with (first
    | (go_at_call 125; refine HC.mono ?_; rintro r w5 ⟨rfl, iv5, hw5, hg5⟩; obtain ⟨ad5, c5, rfl⟩ := hw5.shape; obtain ⟨z0, z1, zf, zl⟩ := hw5.cells; have zf0 := zf 0; have zf1 := zf 1; have hy := hw5.loops loops; have H5 : Hid (BW w0 (w5.setCell ⟨bb, 1, none⟩ (.int .i64 loops)) bb s5 loops (.slice ad5 s5.length c5) ∧ BG bb w (w5.setCell ⟨bb, 1, none⟩ (.int .i64 loops)) (.slice ad img.length c) (.slice ad5 s5.length c5)) := ⟨hy.1, (HG.out.trans hg5).trans hy.2⟩; clear hw5 hg5 HC zf hy)
    | (at_builtin; refine wp_pushI rfl (.tmp 53) (.tmp 57) rfl (bb + 1) (.slice ad5 s5.length c5) s5 14 loops ((img.length : Int) + 1) w5.heap.size s5.length (by simp) rfl rfl rfl H5.out.1.own (by have := H5.out.1.cells.2.2.2; omega) (by have := LS5.out; omega) ?_; intro ad6 c6 w6 ho6 hg6 hv6; obtain ⟨q1, q2, q3⟩ := H5.out.1.push (img' := s5 ++ [⟨14, loops, (img.length : Int) + 1⟩]) (by simpa using ho6) hg6 (by simpa using hv6); have H6 : Hid (_ ∧ _) := ⟨q2, H5.out.2.trans q3⟩; obtain ⟨d1, e1, l1⟩ := cells_of (l := [_, _]) q1; have d60 := d1 0 _ rfl; have e60 := e1 0; clear q1 q2 q3 ho6 hg6 hv6 d1 e1))
  go_end0
  simp only [List.length_append, List.length_cons, List.length_nil, Nat.zero_add] at H6
  refine ⟨rfl, _, ?_, H6.out.2⟩
  have hq := H6.out.1
  have e := lp_img img I loops n
  rw [← HS5.out] at e
  simp only [List.length_append, List.length_cons, List.length_nil, Nat.zero_add] at e
  have e2 : s5 ++ [(⟨14, loops, (img.length : Int) + 1⟩ : Io)] = img ++ mv img.length (lpP loops n I) := by rw [← e]; simp
  rw [e2] at hq
  first | exact hq | (rw [if_neg h0]; exact hq)

set_option maxRecDepth 20000 in
set_option maxHeartbeats 400000 in
theorem loop126_any (w0 : World) (bb : Nat) (n : Int) (q p : Nat) (w : World) (img I : List Io) (loops : Int) (iv : Value) (hw : BW w0 w bb img loops iv) (hn : 0 ≤ n ∧ n ≤ 1000) (hlen : img.length + 8 + I.length ≤ 700000) (hlo : 0 ≤ loops ∧ loops ≤ 1000000)
    (hin : n ≠ 0 → ∀ W iv', BW w0 W bb (img ++ [⟨13, loops, n - 1⟩]) (loops + 1) iv' → BG bb w W iv iv' → Calls Tryd.prog 126 #[.int .i64 loops, .pointer (some ⟨q, 0, none⟩), .pointer (some ⟨p, 0, none⟩)] W fun r w' => r = .returned (.tuple #[]) ∧ ∃ iv'', BW w0 w' bb (img ++ [⟨13, loops, n - 1⟩] ++ mv ((img ++ [(⟨13, loops, n - 1⟩ : Io)]).length) I) (loops + 1) iv'' ∧ BG bb W w' iv' iv'') :
    Calls Tryd.prog 124 #[.pointer (some ⟨bb, 0, none⟩), .int .i64 n, .func (Fn.func 126) #[] #[.pointer (some ⟨q, 0, none⟩), .pointer (some ⟨p, 0, none⟩)]] w fun r w' => r = .returned (.tuple #[]) ∧ ∃ iv', BW w0 w' bb (img ++ mv img.length (if n = 0 then [] else lpP loops n I)) loops iv' ∧ BG bb w w' iv iv' := by
  by_cases h0 : n = 0
  · subst h0
    have HW : Hid (BW w0 w bb img loops iv) := hw
    clear hin hw
    go_enter Tryd.func124, Tryd.ntmps124
    go_wp2_with fail
    refine bodyPost_ret (results_none rfl _ _ _) rfl ?_
    refine ⟨rfl, iv, ?_, BG.refl _ _ _⟩
    have hq := HW.out
    first | rw [if_pos rfl, mv_nil, List.append_nil] | rw [mv_nil, List.append_nil]
    exact hq
  obtain ⟨ad, c, rfl⟩ := hw.shape
  obtain ⟨c0, c1, fz, hlt⟩ := hw.cells
  have HW : Hid (BW w0 w bb img loops (.slice ad img.length c)) := hw
  have HI : Hid _ := hin h0
  have h0b : (n == 0) = false := by simpa using h0
  clear hw fz hin
  go_enter Tryd.func124, Tryd.ntmps124
  go_wp2_with (at_builtin; refine wp_pushI rfl (.tmp 18) (.tmp 23) rfl (bb + 1) (.slice ad img.length c) img 13 loops (n - 1) w.heap.size img.length rfl rfl rfl rfl HW.out.own (by omega) (by omega) ?_; intro ad4 c4 w4 ho4 hg4 hv4; obtain ⟨q1, q2, q3⟩ := HW.out.push (img' := img ++ [⟨13, loops, n - 1⟩]) (by simpa using ho4) hg4 (by simpa using hv4); have H4 : Hid (_ ∧ _) := ⟨q2, q3⟩; obtain ⟨d1, e1, l1⟩ := cells_of (l := [_, _]) q1; have d10 := d1 0 _ rfl; have d11 := d1 1 _ rfl; have e10 := e1 0; have e11 := e1 1; clear q1 q2 q3 ho4 hg4 hv4 d1 e1)
  simp only [List.length_append, List.length_cons, List.length_nil, Nat.zero_add] at H4
  have hx := H4.out.1.loops (loops + 1)
  have HC := HI.out _ _ hx.1 (H4.out.2.trans hx.2)
  have HG : Hid (BG bb w ((w4.setCell ⟨bb, 0, none⟩ (.slice ad4 (img.length + 1) c4)).setCell ⟨bb, 1, none⟩ (.int .i64 (loops + 1))) (.slice ad img.length c) (.slice ad4 (img.length + 1) c4)) := H4.out.2.trans hx.2
  clear hx HI
  obtain ⟨s5, hs5⟩ : ∃ s5 : List Io, s5 = img ++ [⟨13, loops, n - 1⟩] ++ mv ((img ++ [(⟨13, loops, n - 1⟩ : Io)]).length) I := ⟨_, rfl⟩
  have LS5 : Hid (s5.length = img.length + 1 + I.length) := by show _ = _; rw [hs5]; simp [mv_len]; omega
  rw [← hs5] at HC
  have HS5 : Hid (s5 = img ++ [⟨13, loops, n - 1⟩] ++ mv ((img ++ [(⟨13, loops, n - 1⟩ : Io)]).length) I) := hs5
  clear hs5
  go_wp2_with (first
    | (go_at_call 126; refine HC.mono ?_; rintro r w5 ⟨rfl, iv5, hw5, hg5⟩; obtain ⟨ad5, c5, rfl⟩ := hw5.shape; obtain ⟨z0, z1, zf, zl⟩ := hw5.cells; have zf0 := zf 0; have zf1 := zf 1; have hy := hw5.loops loops; have H5 : Hid (BW w0 (w5.setCell ⟨bb, 1, none⟩ (.int .i64 loops)) bb s5 loops (.slice ad5 s5.length c5) ∧ BG bb w (w5.setCell ⟨bb, 1, none⟩ (.int .i64 loops)) (.slice ad img.length c) (.slice ad5 s5.length c5)) := ⟨hy.1, (HG.out.trans hg5).trans hy.2⟩; clear hw5 hg5 HC zf hy)
    | (at_builtin; refine wp_pushI rfl (.tmp 53) (.tmp 57) rfl (bb + 1) (.slice ad5 s5.length c5) s5 14 loops ((img.length : Int) + 1) w5.heap.size s5.length (by simp) rfl rfl rfl H5.out.1.own (by have := H5.out.1.cells.2.2.2; omega) (by have := LS5.out; omega) ?_; intro ad6 c6 w6 ho6 hg6 hv6; obtain ⟨q1, q2, q3⟩ := H5.out.1.push (img' := s5 ++ [⟨14, loops, (img.length : Int) + 1⟩]) (by simpa using ho6) hg6 (by simpa using hv6); have H6 : Hid (_ ∧ _) := ⟨q2, H5.out.2.trans q3⟩; obtain ⟨d1, e1, l1⟩ := cells_of (l := [_, _]) q1; have d60 := d1 0 _ rfl; have e60 := e1 0; clear q1 q2 q3 ho6 hg6 hv6 d1 e1))
  go_end0
  simp only [List.length_append, List.length_cons, List.length_nil, Nat.zero_add] at H6
  refine ⟨rfl, _, ?_, H6.out.2⟩
  have hq := H6.out.1
  have e := lp_img img I loops n
  rw [← HS5.out] at e
  simp only [List.length_append, List.length_cons, List.length_nil, Nat.zero_add] at e
  have e2 : s5 ++ [(⟨14, loops, (img.length : Int) + 1⟩ : Io)] = img ++ mv img.length (lpP loops n I) := by rw [← e]; simp
  rw [e2] at hq
  first | exact hq | (rw [if_neg h0]; exact hq)

end Go.Proofs.YtgemadoieielcacDoor.B
