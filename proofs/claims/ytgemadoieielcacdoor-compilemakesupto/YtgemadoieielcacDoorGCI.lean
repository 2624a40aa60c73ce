import Derived.Test.YtgemadoieielcacDoorGCG
import Derived.Test.YtgemadoieielcacDoorGCH
namespace Go.Proofs.YtgemadoieielcacDoor.B
open Go.ChangeShapes Go.WideShapes Go.ChangeAt Go.RowKit

theorem Ex.In.open {w : World} : ∀ {e : Ex} {v : Value}, e.In w v → ∃ k n ad m c, v = .agg #[.int .i64 k, .int .i64 n, .slice ad m c]
  | .mk k n a, v, h => by
    unfold Ex.In at h
    obtain ⟨ad, c, rfl, -⟩ := h
    exact ⟨k, n, ad, _, c, rfl⟩

theorem St.In.open {w : World} {k n ck : Int} {e ca cb : Ex} {y l : List St} {v : Value} (h : (St.mk k n e ck ca cb y l).In w v) : ∃ ek en ead em ec ak an aad am ac bk bn bad bm bc yad yc lad lc, v = .agg #[.int .i64 k, .int .i64 n, .int .i64 ek, .int .i64 en, .slice ead em ec, .int .i64 ck, .int .i64 ak, .int .i64 an, .slice aad am ac, .int .i64 bk, .int .i64 bn, .slice bad bm bc, .slice yad y.length yc, .slice lad l.length lc] ∧ e.In w (.agg #[.int .i64 ek, .int .i64 en, .slice ead em ec]) ∧ ca.In w (.agg #[.int .i64 ak, .int .i64 an, .slice aad am ac]) ∧ cb.In w (.agg #[.int .i64 bk, .int .i64 bn, .slice bad bm bc]) ∧ St.Sl w y (.slice yad y.length yc) ∧ St.Sl w l (.slice lad l.length lc) := by
  unfold St.In at h
  obtain ⟨e0, e1, e2, a0, a1, a2, b0, b1, b2, sb, sl, rfl, h1, h2, h3, ⟨yad, yc, rfl, h4⟩, ⟨lad, lc, rfl, h5⟩⟩ := h
  obtain ⟨ek, en, ead, em, ec, q1⟩ := Ex.In.open h1
  obtain ⟨ak, an, aad, am, ac, q2⟩ := Ex.In.open h2
  obtain ⟨bk, bn, bad, bm, bc, q3⟩ := Ex.In.open h3
  simp at q1 q2 q3
  obtain ⟨rfl, rfl, rfl⟩ := q1
  obtain ⟨rfl, rfl, rfl⟩ := q2
  obtain ⟨rfl, rfl, rfl⟩ := q3
  exact ⟨ek, en, ead, em, ec, ak, an, aad, am, ac, bk, bn, bad, bm, bc, yad, yc, lad, lc, rfl, h1, h2, h3, ⟨_, _, rfl, h4⟩, ⟨_, _, rfl, h5⟩⟩

set_option maxRecDepth 20000 in
set_option maxHeartbeats 400000 in
theorem stmt1_any (w0 : World) (bb N : Nat) (hL : ListC w0 bb N) (y l : List St) (k n ek en ck ak an bk bn : Int) (ead aad bad yad lad : Option Addr) (em ec am ac bm bc yc lc : Nat) (i4 : St.Sl w0 y (.slice yad y.length yc)) (hly : St.LayAll y) (hN : St.bulkAll y ≤ N) (w : World) (img : List Io) (loops i : Int) (iv : Value) (q p : Nat) (hw : BW w0 w bb img loops iv) (hq : Kp w bb iv q (.cells #[.pointer (some ⟨bb, 0, none⟩)] 163 (0, 0))) (hp : Kp w bb iv p (.cells #[.int .i64 k, .int .i64 n, .int .i64 ek, .int .i64 en, .slice ead em ec, .int .i64 ck, .int .i64 ak, .int .i64 an, .slice aad am ac, .int .i64 bk, .int .i64 bn, .slice bad bm bc, .slice yad y.length yc, .slice lad l.length lc] 123 (0, 0))) (hlen : img.length + 8 * (St.bulkAll y) ≤ 600000) (hlo : 0 ≤ loops ∧ loops + (St.bulkAll y : Nat) ≤ 1000000) :
    Calls Tryd.prog 125 #[.int .i64 i, .pointer (some ⟨q, 0, none⟩), .pointer (some ⟨p, 0, none⟩)] w fun r w' => r = .returned (.tuple #[]) ∧ ∃ iv', BW w0 w' bb (img ++ mv img.length (St.pcAll y loops)) loops iv' ∧ BG bb w w' iv iv' := by
  have HC := hL y w _ img loops iv hN i4 hly hw hlen hlo
  obtain ⟨d1, e1, l1⟩ := cells_of (l := [_]) hq.blk
  have x0 := d1 0 _ rfl
  obtain ⟨d2, e2, l2⟩ := cells_of (l := [_, _, _, _, _, _, _, _, _, _, _, _, _, _]) hp.blk
  have x12 := d2 12 _ rfl
  clear d1 e1 d2 e2 hq hp hw i4 hly hL
  go_enter Tryd.func125, Tryd.ntmps125
  go_wp2_with (go_at_call 60; refine HC.mono ?_; rintro r w2 ⟨rfl, iv2, hw2, hg2⟩; have H2 : Hid (_ ∧ _) := ⟨hw2, hg2⟩; clear hw2 hg2 HC)
  go_end0
  exact ⟨rfl, iv2, H2.out.1, H2.out.2⟩

set_option maxRecDepth 20000 in
set_option maxHeartbeats 400000 in
theorem stmt2_any (w0 : World) (bb N : Nat) (hE : EndsIn w0) (hK : CompsIn w0) (hL : ListC w0 bb N) (ca cb : Ex) (y l : List St) (k n ek en ck ak an bk bn : Int) (ead aad bad yad lad : Option Addr) (em ec am ac bm bc yc lc : Nat) (i2 : ca.In w0 (.agg #[.int .i64 ak, .int .i64 an, .slice aad am ac])) (i3 : cb.In w0 (.agg #[.int .i64 bk, .int .i64 bn, .slice bad bm bc])) (i4 : St.Sl w0 y (.slice yad y.length yc)) (hck : 1 ≤ ck ∧ ck ≤ 4) (hla : ca.Lay) (hlb : cb.Lay) (hly : St.LayAll y) (hN : St.bulkAll y ≤ N) (w : World) (img : List Io) (loops i : Int) (iv : Value) (q p : Nat) (hw : BW w0 w bb img loops iv) (hq : Kp w bb iv q (.cells #[.pointer (some ⟨bb, 0, none⟩)] 163 (0, 0))) (hp : Kp w bb iv p (.cells #[.int .i64 k, .int .i64 n, .int .i64 ek, .int .i64 en, .slice ead em ec, .int .i64 ck, .int .i64 ak, .int .i64 an, .slice aad am ac, .int .i64 bk, .int .i64 bn, .slice bad bm bc, .slice yad y.length yc, .slice lad l.length lc] 123 (0, 0))) (hlen : img.length + 8 * (ca.nodes + cb.nodes + St.bulkAll y) ≤ 600000) (hlo : 0 ≤ loops ∧ loops + (St.bulkAll y : Nat) ≤ 1000000) :
    Calls Tryd.prog 126 #[.int .i64 i, .pointer (some ⟨q, 0, none⟩), .pointer (some ⟨p, 0, none⟩)] w fun r w' => r = .returned (.tuple #[]) ∧ ∃ iv', BW w0 w' bb (img ++ mv img.length (whP (cdP ck ca cb) (St.pcAll y loops) i)) loops iv' ∧ BG bb w w' iv iv' := by
  have HC := while_any w0 bb N hE hK hL ca cb y l k n ek en ck ak an bk bn ead aad bad yad lad em ec am ac bm bc yc lc i2 i3 i4 hck hla hlb hly hN w img loops i iv hw hlen hlo
  obtain ⟨d1, e1, l1⟩ := cells_of (l := [_]) hq.blk
  have x0 := d1 0 _ rfl
  obtain ⟨d2, e2, l2⟩ := cells_of (l := [_, _, _, _, _, _, _, _, _, _, _, _, _, _]) hp.blk
  have y0 := d2 0 _ rfl
  have y1 := d2 1 _ rfl
  have y2 := d2 2 _ rfl
  have y3 := d2 3 _ rfl
  have y4 := d2 4 _ rfl
  have y5 := d2 5 _ rfl
  have y6 := d2 6 _ rfl
  have y7 := d2 7 _ rfl
  have y8 := d2 8 _ rfl
  have y9 := d2 9 _ rfl
  have y10 := d2 10 _ rfl
  have y11 := d2 11 _ rfl
  have y12 := d2 12 _ rfl
  have y13 := d2 13 _ rfl
  clear d1 e1 d2 e2 hq hp hw i2 i3 i4 hly hL hE hK
  go_enter Tryd.func126, Tryd.ntmps126
  go_wp2_with (go_at_call 127; refine HC.mono ?_; rintro r w2 ⟨rfl, iv2, hw2, hg2⟩; have H2 : Hid (_ ∧ _) := ⟨hw2, hg2⟩; clear hw2 hg2 HC)
  go_end0
  exact ⟨rfl, iv2, H2.out.1, H2.out.2⟩

set_option maxRecDepth 20000 in
set_option maxHeartbeats 400000 in
theorem stmt_of_listC (w0 : World) (bb N : Nat) (hE : EndsIn w0) (hK : CompsIn w0) (hL : ListC w0 bb N) : StmtC w0 bb (N + 1) := by
  intro s w v img loops iv hN hin hlay hw hlen hlo
  rcases s with ⟨k, n, e, ck, ca, cb, y, l⟩
  obtain ⟨ek, en, ead, em, ec, ak, an, aad, am, ac, bk, bn, bad, bm, bc, yad, yc, lad, lc, rfl, i1, i2, i3, i4, i5⟩ := St.In.open hin
  clear hin
  rw [St.bulk] at hN hlen hlo
  rw [St.Lay] at hlay
  have p6 := Ex.nodes_pos ca
  have p7 := Ex.nodes_pos cb
  have p8 := Ex.nodes_pos e
  have p9 := Ex.pc_len e
  have hq1 := Kp.new hw (.cells #[.pointer (some ⟨bb, 0, none⟩)] 163)
  have hw1 := hw.below (below_new w (.cells #[.pointer (some ⟨bb, 0, none⟩)] 163))
  have hp1 := Kp.new hw1 (.cells #[.int .i64 k, .int .i64 n, .int .i64 ek, .int .i64 en, .slice ead em ec, .int .i64 ck, .int .i64 ak, .int .i64 an, .slice aad am ac, .int .i64 bk, .int .i64 bn, .slice bad bm bc, .slice yad y.length yc, .slice lad l.length lc] 123)
  rw [World.size_alloc] at hp1
  have hg1 : BG bb (w.alloc (.cells #[.pointer (some ⟨bb, 0, none⟩)] 163)) ((w.alloc (.cells #[.pointer (some ⟨bb, 0, none⟩)] 163)).alloc (.cells #[.int .i64 k, .int .i64 n, .int .i64 ek, .int .i64 en, .slice ead em ec, .int .i64 ck, .int .i64 ak, .int .i64 an, .slice aad am ac, .int .i64 bk, .int .i64 bn, .slice bad bm bc, .slice yad y.length yc, .slice lad l.length lc] 123)) iv iv := BG.of_below (below_new _ _)
  have HB2 : Hid ((Kp ((w.alloc (.cells #[.pointer (some ⟨bb, 0, none⟩)] 163)).alloc (.cells #[.int .i64 k, .int .i64 n, .int .i64 ek, .int .i64 en, .slice ead em ec, .int .i64 ck, .int .i64 ak, .int .i64 an, .slice aad am ac, .int .i64 bk, .int .i64 bn, .slice bad bm bc, .slice yad y.length yc, .slice lad l.length lc] 123)) bb iv w.heap.size (.cells #[.pointer (some ⟨bb, 0, none⟩)] 163 (0, 0)) ∧ Kp ((w.alloc (.cells #[.pointer (some ⟨bb, 0, none⟩)] 163)).alloc (.cells #[.int .i64 k, .int .i64 n, .int .i64 ek, .int .i64 en, .slice ead em ec, .int .i64 ck, .int .i64 ak, .int .i64 an, .slice aad am ac, .int .i64 bk, .int .i64 bn, .slice bad bm bc, .slice yad y.length yc, .slice lad l.length lc] 123)) bb iv (w.heap.size + 1) (.cells #[.int .i64 k, .int .i64 n, .int .i64 ek, .int .i64 en, .slice ead em ec, .int .i64 ck, .int .i64 ak, .int .i64 an, .slice aad am ac, .int .i64 bk, .int .i64 bn, .slice bad bm bc, .slice yad y.length yc, .slice lad l.length lc] 123 (0, 0))) ∧ BW w0 ((w.alloc (.cells #[.pointer (some ⟨bb, 0, none⟩)] 163)).alloc (.cells #[.int .i64 k, .int .i64 n, .int .i64 ek, .int .i64 en, .slice ead em ec, .int .i64 ck, .int .i64 ak, .int .i64 an, .slice aad am ac, .int .i64 bk, .int .i64 bn, .slice bad bm bc, .slice yad y.length yc, .slice lad l.length lc] 123)) bb img loops iv ∧ BG bb w ((w.alloc (.cells #[.pointer (some ⟨bb, 0, none⟩)] 163)).alloc (.cells #[.int .i64 k, .int .i64 n, .int .i64 ek, .int .i64 en, .slice ead em ec, .int .i64 ck, .int .i64 ak, .int .i64 an, .slice aad am ac, .int .i64 bk, .int .i64 bn, .slice bad bm bc, .slice yad y.length yc, .slice lad l.length lc] 123)) iv iv) := ⟨⟨hq1.go hg1, hp1⟩, hw1.below (below_new _ _), (BG.of_below (below_new _ _)).trans hg1⟩
  have hlt := hw.cells.2.2.2
  clear hq1 hw1 hp1 hg1 hw
  have hk : k = 1 ∨ k = 2 ∨ k = 3 ∨ k = 4 ∨ k = 5 ∨ k = 6 ∨ k = 7 := by have := hlay.1; omega
  rcases hk with hk | hk | hk | hk | hk | hk | hk
  · subst hk
    have hE1 := hlay.2.1 (.inl rfl)
    have HLE : Hid e.Lay := hE1
    have HC1 := bexpr_any w0 bb loops hE 1048577 e _ _ img iv (by omega) (by omega) i1 hE1 HB2.out.2.1 (by omega)
    clear hE1
    go_enter Tryd.func95, Tryd.ntmps95
    go_wp2_with (go_at_call 121; refine HC1.mono ?_; rintro r w2 ⟨rfl, iv2, hw2, hg2⟩; have hk := HB2.out.1.1.go hg2; obtain ⟨d1, e1, lq2⟩ := cells_of (l := [_]) hk.blk; have q2_0 := d1 0 _ rfl; clear d1 e1; have hk2 := HB2.out.1.2.go hg2; obtain ⟨d1, e1, lk2⟩ := cells_of (l := [_, _, _, _, _, _, _, _, _, _, _, _, _, _]) hk2.blk; have x2_1 := d1 1 _ rfl; clear d1 e1; have HC2 := put_any w0 w2 bb _ loops iv2 3 n hw2 (by rw [List.length_append]; omega); have H2 : Hid (BG bb w w2 iv iv2) := HB2.out.2.2.trans hg2; clear hw2 hg2 hk hk2 HC1)
    go_wp2_with (go_at_call 122; refine HC2.mono ?_; rintro r w3 ⟨rfl, iv3, hw3, hg3⟩; have H3 : Hid (_ ∧ BG bb w w3 iv iv3) := ⟨hw3, H2.out.trans hg3⟩; clear hw3 hg3 HC2)
    go_end0
    refine ⟨rfl, iv3, ?_, H3.out.2⟩
    have hq := H3.out.1
    rw [List.append_assoc] at hq
    rw [St.pc]
    simp only [if_true]
    rw [mv_append, Ex.pc_mv _ e HLE.out]
    exact hq
  · subst hk
    have hE1 := hlay.2.1 (.inr rfl)
    have HLE : Hid e.Lay := hE1
    have HC1 := bexpr_any w0 bb loops hE 1048577 e _ _ img iv (by omega) (by omega) i1 hE1 HB2.out.2.1 (by omega)
    clear hE1
    go_enter Tryd.func95, Tryd.ntmps95
    go_wp2_with (go_at_call 121; refine HC1.mono ?_; rintro r w2 ⟨rfl, iv2, hw2, hg2⟩; have hk := HB2.out.1.1.go hg2; obtain ⟨d1, e1, lq2⟩ := cells_of (l := [_]) hk.blk; have q2_0 := d1 0 _ rfl; clear d1 e1; have hk2 := HB2.out.1.2.go hg2; obtain ⟨d1, e1, lk2⟩ := cells_of (l := [_, _, _, _, _, _, _, _, _, _, _, _, _, _]) hk2.blk; have x2_1 := d1 1 _ rfl; clear d1 e1; have HC2 := put_any w0 w2 bb _ loops iv2 10 n hw2 (by rw [List.length_append]; omega); have H2 : Hid (BG bb w w2 iv iv2) := HB2.out.2.2.trans hg2; clear hw2 hg2 hk hk2 HC1)
    go_wp2_with (go_at_call 122; refine HC2.mono ?_; rintro r w3 ⟨rfl, iv3, hw3, hg3⟩; have H3 : Hid (_ ∧ BG bb w w3 iv iv3) := ⟨hw3, H2.out.trans hg3⟩; clear hw3 hg3 HC2)
    go_end0
    refine ⟨rfl, iv3, ?_, H3.out.2⟩
    have hq := H3.out.1
    rw [List.append_assoc] at hq
    rw [St.pc]
    simp only [show ¬ ((2 : Int) = 1) by decide, if_true, if_false]
    rw [mv_append, Ex.pc_mv _ e HLE.out]
    exact hq
  · subst hk
    obtain ⟨hck, hla, hlb⟩ := hlay.2.2.1 (.inl rfl)
    have HC1 := choice_any w0 bb N hE hK hL ca cb y l 3 n ek en ck ak an bk bn ead aad bad yad lad em ec am ac bm bc yc lc i2 i3 i4 i5 hck hla hlb hlay.2.2.2.2.1 hlay.2.2.2.2.2 (by omega) _ img loops iv HB2.out.2.1 (by omega) (by omega)
    go_enter Tryd.func95, Tryd.ntmps95
    go_wp2_with (go_at_call 123; refine HC1.mono ?_; rintro r w2 ⟨rfl, iv2, hw2, hg2⟩; have H2 : Hid (_ ∧ BG bb w w2 iv iv2) := ⟨hw2, HB2.out.2.2.trans hg2⟩; clear hw2 hg2 HC1)
    go_end0
    refine ⟨rfl, iv2, ?_, H2.out.2⟩
    have hq := H2.out.1
    rw [St.pc]
    simp only [show ¬ ((3 : Int) = 1) by decide, show ¬ ((3 : Int) = 2) by decide, if_true, if_false]
    exact hq
  · subst hk
    have hn := hlay.2.2.2.1 (.inl rfl)
    have hyl := St.pcAll_len y (loops + 1)
    have hcl := cdP_len ck ca cb
    have HC1 := loop125_any w0 bb n w.heap.size (w.heap.size + 1) _ img (St.pcAll y (loops + 1)) loops iv HB2.out.2.1 hn (by omega) (by omega) (fun hn0 W iv1 hW hG => stmt1_any w0 bb N hL y l 4 n ek en ck ak an bk bn ead aad bad yad lad em ec am ac bm bc yc lc i4 hlay.2.2.2.2.1 (by omega) W _ (loops + 1) loops iv1 (w.heap.size) (w.heap.size + 1) hW (HB2.out.1.1.go hG) (HB2.out.1.2.go hG) (by rw [List.length_append]; simp; omega) (by omega))
    go_enter Tryd.func95, Tryd.ntmps95
    go_wp2_with (go_at_call 124; refine HC1.mono ?_; rintro r w2 ⟨rfl, iv2, hw2, hg2⟩; have H2 : Hid (_ ∧ BG bb w w2 iv iv2) := ⟨hw2, HB2.out.2.2.trans hg2⟩; clear hw2 hg2 HC1)
    go_end0
    refine ⟨rfl, iv2, ?_, H2.out.2⟩
    have hq := H2.out.1
    rw [St.pc]
    simp only [show ¬ ((4 : Int) = 1) by decide, show ¬ ((4 : Int) = 2) by decide, show ¬ ((4 : Int) = 3) by decide, if_true, if_false]
    exact hq
  · subst hk
    obtain ⟨hck, hla, hlb⟩ := hlay.2.2.1 (.inr rfl)
    have hn := hlay.2.2.2.1 (.inr rfl)
    have hyl := St.pcAll_len y (loops + 1)
    have hcl := cdP_len ck ca cb
    have HC1 := loop126_any w0 bb n w.heap.size (w.heap.size + 1) _ img (whP (cdP ck ca cb) (St.pcAll y (loops + 1)) loops) loops iv HB2.out.2.1 hn (by simp only [whP, jn_len, List.length_append, List.length_cons, List.length_nil]; omega) (by omega) (fun hn0 W iv1 hW hG => stmt2_any w0 bb N hE hK hL ca cb y l 5 n ek en ck ak an bk bn ead aad bad yad lad em ec am ac bm bc yc lc i2 i3 i4 hck hla hlb hlay.2.2.2.2.1 (by omega) W _ (loops + 1) loops iv1 (w.heap.size) (w.heap.size + 1) hW (HB2.out.1.1.go hG) (HB2.out.1.2.go hG) (by rw [List.length_append]; simp; omega) (by omega))
    go_enter Tryd.func95, Tryd.ntmps95
    go_wp2_with (go_at_call 124; refine HC1.mono ?_; rintro r w2 ⟨rfl, iv2, hw2, hg2⟩; have H2 : Hid (_ ∧ BG bb w w2 iv iv2) := ⟨hw2, HB2.out.2.2.trans hg2⟩; clear hw2 hg2 HC1)
    go_end0
    refine ⟨rfl, iv2, ?_, H2.out.2⟩
    have hq := H2.out.1
    rw [St.pc]
    simp only [show ¬ ((5 : Int) = 1) by decide, show ¬ ((5 : Int) = 2) by decide, show ¬ ((5 : Int) = 3) by decide, show ¬ ((5 : Int) = 4) by decide, if_true, if_false]
    exact hq
  · subst hk
    have HC1 := put_any w0 _ bb img loops iv 16 n HB2.out.2.1 (by omega)
    have hyl := St.pcAll_len y loops
    have HI : Hid (St.Sl w0 y (.slice yad y.length yc) ∧ St.LayAll y ∧ ListC w0 bb N) := ⟨i4, hlay.2.2.2.2.1, hL⟩
    go_enter Tryd.func95, Tryd.ntmps95
    go_wp2_with (go_at_call 122; refine HC1.mono ?_; rintro r w2 ⟨rfl, iv2, hw2, hg2⟩; have hk := HB2.out.1.1.go hg2; obtain ⟨d1, e1, lq2⟩ := cells_of (l := [_]) hk.blk; have q2_0 := d1 0 _ rfl; clear d1 e1; have hk2 := HB2.out.1.2.go hg2; obtain ⟨d1, e1, lk2⟩ := cells_of (l := [_, _, _, _, _, _, _, _, _, _, _, _, _, _]) hk2.blk; have x2_12 := d1 12 _ rfl; clear d1 e1; have HC2 := HI.out.2.2 y w2 _ _ loops iv2 (by omega) HI.out.1 HI.out.2.1 hw2 (by simp only [List.length_append, List.length_cons, List.length_nil]; omega) (by omega); have H2 : Hid (BG bb w w2 iv iv2 ∧ Kp w2 bb iv2 w.heap.size (.cells #[.pointer (some ⟨bb, 0, none⟩)] 163 (0, 0)) ∧ Kp w2 bb iv2 (w.heap.size + 1) (.cells #[.int .i64 6, .int .i64 n, .int .i64 ek, .int .i64 en, .slice ead em ec, .int .i64 ck, .int .i64 ak, .int .i64 an, .slice aad am ac, .int .i64 bk, .int .i64 bn, .slice bad bm bc, .slice yad y.length yc, .slice lad l.length lc] 123 (0, 0))) := ⟨HB2.out.2.2.trans hg2, hk, hk2⟩; clear hw2 hg2 hk hk2 HC1)
    go_wp2_with (go_at_call 60; refine HC2.mono ?_; rintro r w3 ⟨rfl, iv3, hw3, hg3⟩; have hk := H2.out.2.1.go hg3; obtain ⟨d1, e1, lq3⟩ := cells_of (l := [_]) hk.blk; have q3_0 := d1 0 _ rfl; clear d1 e1; have hk2 := H2.out.2.2.go hg3; obtain ⟨d1, e1, lk3⟩ := cells_of (l := [_, _, _, _, _, _, _, _, _, _, _, _, _, _]) hk2.blk; have x3_1 := d1 1 _ rfl; clear d1 e1; have HC3 := put_any w0 w3 bb _ loops iv3 17 n hw3 (by simp only [List.length_append, mv_len, List.length_cons, List.length_nil]; omega); have H3 : Hid (BG bb w w3 iv iv3) := H2.out.1.trans hg3; clear hw3 hg3 hk hk2 HC2)
    go_wp2_with (go_at_call 122; refine HC3.mono ?_; rintro r w4 ⟨rfl, iv4, hw4, hg4⟩; have H4 : Hid (_ ∧ BG bb w w4 iv iv4) := ⟨hw4, H3.out.trans hg4⟩; clear hw4 hg4 HC3)
    go_end0
    refine ⟨rfl, iv4, ?_, H4.out.2⟩
    have hq := H4.out.1
    rw [St.pc]
    simp only [show ¬ ((6 : Int) = 1) by decide, show ¬ ((6 : Int) = 2) by decide, show ¬ ((6 : Int) = 3) by decide, show ¬ ((6 : Int) = 4) by decide, show ¬ ((6 : Int) = 5) by decide, if_true, if_false]
    rw [mv_append, mv_jn, mv_one, mv_one, mvI_id (by show (16 : Int) ≠ 11 ∧ (16 : Int) ≠ 12 ∧ (16 : Int) ≠ 14; decide), mvI_id (by show (17 : Int) ≠ 11 ∧ (17 : Int) ≠ 12 ∧ (17 : Int) ≠ 14; decide)]
    simp only [List.append_assoc, List.length_append, List.length_cons, List.length_nil] at hq ⊢
    exact hq
  · subst hk
    have HC1 := put_any w0 _ bb img loops iv 18 n HB2.out.2.1 (by omega)
    go_enter Tryd.func95, Tryd.ntmps95
    go_wp2_with (go_at_call 122; refine HC1.mono ?_; rintro r w2 ⟨rfl, iv2, hw2, hg2⟩; have H2 : Hid (_ ∧ BG bb w w2 iv iv2) := ⟨hw2, HB2.out.2.2.trans hg2⟩; clear hw2 hg2 HC1)
    go_end0
    refine ⟨rfl, iv2, ?_, H2.out.2⟩
    have hq := H2.out.1
    rw [St.pc]
    simp only [show ¬ ((7 : Int) = 1) by decide, show ¬ ((7 : Int) = 2) by decide, show ¬ ((7 : Int) = 3) by decide, show ¬ ((7 : Int) = 4) by decide, show ¬ ((7 : Int) = 5) by decide, show ¬ ((7 : Int) = 6) by decide, if_false]
    exact hq

theorem all_listC (w0 : World) (bb : Nat) (hE : EndsIn w0) (hK : CompsIn w0) : ∀ N, ListC w0 bb N
  | 0 => list_of_stmtC w0 bb 0 (fun s w v img loops iv hN => by cases s; rw [St.bulk] at hN; omega)
  | N + 1 => list_of_stmtC w0 bb (N + 1) (stmt_of_listC w0 bb N hE hK (all_listC w0 bb hE hK N))

end Go.Proofs.YtgemadoieielcacDoor.B
