import Derived.Test.YtccoobcggbbciamKD0
import Derived.Test.YtccoobcggbbciamHZ8
import Derived.Deep.QuietTactic
import Derived.Deep.CutRange
namespace Go.Proofs.Ytccoobcggbbciam
open Go.ChangeShapes Go.WideShapes Go.ChangeAt Go.RowKit
open Keep

theorem co_at' {w : World} {l : List Co} {b o j : Nat} {x : Co} (h : ∀ q u, (l.flatMap Co.vals)[q]? = some u → w.cell? ⟨b, o + q, none⟩ = some u) (hj : l[j]? = some x) : w.cell? ⟨b, o + j * 2, none⟩ = some (.int .i64 x.k) ∧ w.cell? ⟨b, o + j * 2 + 1, none⟩ = some (.int .i64 x.a) := by
  have key : ∀ k u, k < 2 → x.vals[k]? = some u → w.cell? ⟨b, o + j * 2 + k, none⟩ = some u := fun k u hk hu => by
    rw [Nat.add_assoc]
    exact h _ _ ((flat_at Co.vals 2 Co.len l j k x hj hk).trans hu)
  exact ⟨key 0 _ (by decide) rfl, key 1 _ (by decide) rfl⟩

def FL2 (W : World) (g : Nat) (a b : Int) : Prop := W.heap[g]? = some (.cells #[.int .i64 a, .int .i64 b] 33 (0, 0))
theorem FL2.cells {W : World} {g : Nat} {z1 z2 : Int} (h : FL2 W g z1 z2) : W.cell? ⟨g, 0, none⟩ = some (.int .i64 z1) ∧ W.cell? ⟨g, 1, none⟩ = some (.int .i64 z2) ∧ g < W.heap.size := by
  obtain ⟨c1, -, c3⟩ := cells_of (l := [_, _]) h
  exact ⟨c1 0 _ rfl, c1 1 _ rfl, c3⟩

/-- How the law stands behind Responses: the world only grows; the block of the fault; the numbers told. -/
structure KW (w W : World) (g : Nat) (z1 z2 : Int) (ts : List Int) (tv : Value) : Prop where
  bel : Below w.heap.size w W
  fl : FL W g z1 z2
  low : w.heap.size ≤ g
  ts : RowSl nuV W ts tv
theorem KW.grow {w W W' : World} {g : Nat} {z1 z2 : Int} {ts : List Int} {tv : Value} (h : KW w W g z1 z2 ts tv) (hb : Below W.heap.size W W') : KW w W' g z1 z2 ts tv := ⟨below_seq h.bel hb, h.fl.grow hb, h.low, h.ts.below hb⟩

/-- The ends as they lie. -/
structure KE (W : World) (gE : Nat) (ev : List Value) (rs : Nat → List Int) (m : Nat) : Prop where
  blk : W.heap[gE]? = some (.cells ev.toArray 24 (0, 0))
  len : ev.length = m
  row : ∀ (i : Nat) (v : Value), ev[i]? = some v → EnR W v (rs i)
theorem EnR.keepC {W W' : World} {v : Value} {r : List Int} (h : EnR W v r) (hk : ∀ (g : Nat) (cs : Array Value), W.heap[g]? = some (Obj.cells cs 3 (0, 0)) → W'.heap[g]? = some (Obj.cells cs 3 (0, 0))) : EnR W' v r := by
  obtain ⟨g, c, ex, h1, h2, h3⟩ := h
  exact ⟨g, c, ex, h1, h2, hk _ _ h3⟩
theorem KE.grow {W W' : World} {gE : Nat} {ev : List Value} {rs : Nat → List Int} {m : Nat} (h : KE W gE ev rs m) (hb : Below W.heap.size W W') : KE W' gE ev rs m := by
  have key : ∀ (g : Nat) (o : Obj), W.heap[g]? = some o → W'.heap[g]? = some o := fun g o ho => (hb.block g (Array.getElem?_eq_some_iff.1 ho).1).trans ho
  exact ⟨key _ _ h.blk, h.len, fun i v hv => (h.row i v hv).keepC (fun g _ hg => key g _ hg)⟩
theorem KE.same {W W' : World} {gE : Nat} {ev : List Value} {rs : Nat → List Int} {m : Nat} (h : KE W gE ev rs m) (he : ∀ k : Nat, W'.heap[k]? = W.heap[k]?) : KE W' gE ev rs m :=
  ⟨(he _).trans h.blk, h.len, fun i v hv => (h.row i v hv).keepC (fun g _ hg => (he g).trans hg)⟩
theorem cell_same {W W' : World} (he : ∀ k : Nat, W'.heap[k]? = W.heap[k]?) (g o : Nat) : W'.cell? ⟨g, o, none⟩ = W.cell? ⟨g, o, none⟩ := by
  unfold World.cell?
  rw [he g]
theorem RowSl.same {α : Type} {f : α → List Value} {w w' : World} {l : List α} {v : Value} (h : RowSl f w l v) (he : ∀ g o : Nat, w'.cell? ⟨g, o, none⟩ = w.cell? ⟨g, o, none⟩) : RowSl f w' l v := by
  obtain ⟨ad, c, h1, h2, h4, h3⟩ := h
  refine ⟨ad, c, h1, h2, h4, h3.imp id ?_⟩
  rintro ⟨b, o, e, h⟩
  exact ⟨b, o, e, fun q u hq => (he _ _).trans (h q u hq)⟩
theorem set_zero {W : World} {g : Nat} (h : W.heap[g]? = some (.cells #[.int .i64 0, .int .i64 0] 29 (0, 0))) (k : Nat) : ((W.setCell ⟨g, 0, none⟩ (.int .i64 0)).setCell ⟨g, 1, none⟩ (.int .i64 0)).heap[k]? = W.heap[k]? := by
  by_cases hk : k = g
  · subst hk
    rw [set_two h, h]
  · rw [Below.heap_setCell _ _ _ _ hk, Below.heap_setCell _ _ _ _ hk]
end Go.Proofs.Ytccoobcggbbciam
namespace Go.Proofs.Ytccoobcggbbciam
open Go.ChangeShapes Go.WideShapes Go.ChangeAt Go.RowKit
open Keep

set_option maxRecDepth 20000 in
set_option maxHeartbeats 8000000 in
theorem keep_walk (w : World) (l : List Pa) (cs : List Co) (tk : List Int) (v v2 v3 : Value) (htl : tk.length ≤ 9223372036854775807) (hv : RowSl Pa.vals w l v) (hv2 : RowSl Co.vals w cs v2) (hv3 : RowSl nuV w tk v3) :
    Calls Try.prog 3 #[v, v2, v3] w fun r w' => r = .returned (.bool true) ∧ Below w.heap.size w w' := by
  obtain ⟨ad, c, rfl⟩ := hv.len
  obtain ⟨ad2, c2, rfl⟩ := hv2.len
  obtain ⟨ad3, c3, rfl⟩ := hv3.len
  have HV : Hid (RowSl Pa.vals w l (.slice ad l.length c) ∧ RowSl Co.vals w cs (.slice ad2 cs.length c2) ∧ RowSl nuV w tk (.slice ad3 tk.length c3) ∧ tk.length ≤ 9223372036854775807) := ⟨hv, hv2, hv3, htl⟩
  clear hv hv2 hv3 htl
  go_enter Try.func3, Try.ntmps3
  go_wp2_with (go_at_call 4; refine (chained_any _).mono ?_; rintro r w2 ⟨rfl, hb2⟩; have H2 : Hid (Below w.heap.size w w2) := hb2; clear hb2)
  by_cases hl : l.length ≤ 5000
  rotate_left 1
  · have hl' : decide ((l.length : Int) ≤ 5000) = false := by simp; omega
    go_wp2_with (go_at_call 5; refine (few_any _ _).mono ?_; rintro r w5 ⟨rfl, rfl⟩; rw [hl'])
    go_ret
    exact ⟨rfl, H2.out⟩
  have hl' : decide ((l.length : Int) ≤ 5000) = true := by simp; omega
  by_cases hl2 : cs.length ≤ 200
  rotate_left 1
  · have hl2' : (200 : Int) < (cs.length : Int) := by omega
    go_wp2_with (go_at_call 5; refine (few_any _ _).mono ?_; rintro r w5 ⟨rfl, rfl⟩; rw [hl'])
    go_ret
    exact ⟨rfl, H2.out⟩
  have hl2' : ¬ (200 : Int) < (cs.length : Int) := by omega
  go_upto_region 5 with (go_at_call 5; refine (few_any _ _).mono ?_; rintro r w5 ⟨rfl, h5⟩; have h5' := h5.symm; subst h5'; clear h5; rw [hl'])
  go_upto_region 6 with (go_at_call 6; refine (RespsC_any _ l _ (HV.out.1.below H2.out)).mono ?_; rintro r w6 ⟨ts, e, tv, hR, rfl, ht, hb6, -⟩; obtain ⟨f1, f2⟩ := e; have H6 : Hid (KW w (w6.alloc (.cells #[.int .i64 f1, .int .i64 f2] 29)) w6.heap.size f1 f2 ts tv ∧ RespsR l ts (f1, f2)) := ⟨⟨below_seq H2.out (below_seq hb6 (below_new _ _)), FL.new _ _ _, (below_seq H2.out hb6).size, ht.below (below_new _ _)⟩, hR⟩; clear hb6 H2 ht hR)
  generalize w6.alloc (.cells #[.int .i64 f1, .int .i64 f2] 29) = W6 at *
  generalize w6.heap.size = g at *
  obtain ⟨a0, a1, a2⟩ := H6.out.1.fl.cells
  obtain ⟨tad, tc, rfl⟩ := H6.out.1.ts.len
  by_cases hf : f1 = 0
  rotate_left 1
  · have hts : ts = [] := resps_none H6.out.2 hf
    subst hts
    have hfb : (f1 != 0) = true := by simpa using hf
    have HB6 : Hid (Below w.heap.size w W6) := H6.out.1.bel
    clear H6
    go_wp2_with fail
    go_ret
    exact ⟨by simp, HB6.out⟩
  subst hf
  obtain ⟨hR, rfl⟩ := resps_zero H6.out.2
  have HR : Hid (RespsR l ts (0, 0)) := hR
  obtain ⟨hok, htsl, hchk⟩ := resps_ok hR
  have HO : Hid (PsOk l ∧ (chkP l).1 = 0) := ⟨hok, hchk⟩
  have hk9 := H6.out.1
  rw [htsl] at hk9 ⊢
  have HK : Hid (KW w W6 g 0 0 ts (.slice tad l.length tc)) := hk9
  clear hk9
  clear hR hok hchk H6
  go_wp2_with fail
  go_loopw [9, 43] (fun ev iv wr => ∃ (j : Nat) (e : Int), j ≤ cs.length ∧ ev = .int .i64 e ∧ iv = .int .i64 (j : Int) ∧ Hid (Below W6.heap.size W6 wr ∧ TakeTo l cs j e)) (fun _ iv _ => cs.length - (intOf iv).toNat)
  case atStart => exact ⟨0, 0, Nat.zero_le _, rfl, rfl, Below.refl _ _, TakeTo.zero _ _⟩
  case round =>
    obtain ⟨j, e, hj, rfl, rfl, HT⟩ := hrel
    by_cases hjl : j < cs.length
    · obtain ⟨x, hx, -⟩ := drop_at hjl
      have HX : Hid (Ck cs j = x) := getD_some hx
      have HB : Hid (Below w.heap.size w wr) := below_seq HK.out.bel HT.out.1
      obtain ⟨ad9, cc9, e9, -, hcap, hrow⟩ := HV.out.2.1
      cases e9
      rcases hrow with h | ⟨b2, o2, rfl, hrow⟩
      · rw [h] at hjl; simp at hjl
      obtain ⟨x0, x1⟩ := co_at' (fun q u hq => below_cell HB.out (hrow q u hq)) hx
      have lb2 : b2 < wr.heap.size := World.block_lt_of_cell? _ _ x0
      have hji : (j : Int) < (cs.length : Int) := by omega
      have hjc : j ≤ c2 := by omega
      have hjc' : (j : Int) ≤ (c2 : Int) := by omega
      have HROW : Hid (∀ q u, (cs.flatMap Co.vals)[q]? = some u → w.cell? ⟨b2, o2 + q, none⟩ = some u) := hrow
      clear hrow hx a0 a1 a2
      obtain ⟨xk, xa⟩ := x
      dsimp only at x0 x1
      by_cases h1 : xk < 0
      · go_wp2_with fail
        go_ret
        exact ⟨rfl, below_seq HB.out (below_new _ _)⟩
      by_cases h2 : (l.length : Int) ≤ xk
      · go_wp2_with fail
        go_ret
        exact ⟨rfl, below_seq HB.out (below_new _ _)⟩
      obtain ⟨k0, rfl⟩ : ∃ k0 : Nat, xk = (k0 : Int) := ⟨xk.toNat, by omega⟩
      have hk0 : k0 < l.length := by omega
      have hk0i : (k0 : Int) < (l.length : Int) := by omega
      obtain ⟨y, hy, -⟩ := drop_at hk0
      obtain ⟨ad9, cc9, e9, -, -, hrowp⟩ := HV.out.1
      cases e9
      rcases hrowp with h | ⟨b1, o1, rfl, hrowp⟩
      · rw [h] at hk0; simp at hk0
      obtain ⟨y0, y1, y2, y3, y4, y5, y6⟩ := pa7_at (fun q u hq => below_cell HB.out (hrowp q u hq)) hy
      have HY : Hid (l.getD k0 paZ = y) := getD_some hy
      have lb1 : b1 < wr.heap.size := World.block_lt_of_cell? _ _ y0
      have hyt := part_t HO.out.1 hk0
      rw [HY.out] at hyt
      clear hrowp hy y0 y2 y3 y5 y6
      obtain ⟨yco, yfr, yse, yc, yt, yd, yp⟩ := y
      dsimp only at y1 y4 hyt
      by_cases h3 : yfr = -1
      rotate_left 1
      · have h3b : (yfr != -1) = true := by simpa using h3
        go_wp2_with fail
        go_ret
        exact ⟨rfl, below_seq HB.out (below_new _ _)⟩
      subst h3
      by_cases h4 : xa < 0
      · go_wp2_with fail
        go_ret
        exact ⟨rfl, below_seq HB.out (below_new _ _)⟩
      by_cases h5 : 2000 < xa
      · go_wp2_with fail
        go_ret
        exact ⟨rfl, below_seq HB.out (below_new _ _)⟩
      go_upto_region 14 with fail
      have H14 : Hid (Below w.heap.size w (wr.alloc (.cells #[.int .i64 (k0 : Int), .int .i64 xa] 33)) ∧ Below W6.heap.size W6 (wr.alloc (.cells #[.int .i64 (k0 : Int), .int .i64 xa] 33)) ∧ FL2 (wr.alloc (.cells #[.int .i64 (k0 : Int), .int .i64 xa] 33)) wr.heap.size (k0 : Int) xa) := ⟨below_seq HB.out (below_new _ _), below_seq HT.out.1 (below_new _ _), heap_alloc_new _ _⟩
      have y4' := below_cell (below_new wr (.cells #[.int .i64 (k0 : Int), .int .i64 xa] 33)) y4
      have y1' := below_cell (below_new wr (.cells #[.int .i64 (k0 : Int), .int .i64 xa] 33)) y1
      clear x0 x1 y1 y4 lb1 lb2
      have HTT : Hid (TakeTo l cs j e) := HT.out.2
      clear HT HB
      generalize wr.alloc (.cells #[.int .i64 (k0 : Int), .int .i64 xa] 33) = Wc at *
      generalize wr.heap.size = gc at *
      obtain ⟨z0, z1, z2⟩ := H14.out.2.2.cells
      have lb1 : b1 < Wc.heap.size := World.block_lt_of_cell? _ _ y1'
      have HYC : Hid (Wc.cell? ⟨b1, o1 + k0 * 7 + 4, none⟩ = some (.int .i64 yt)) := y4'
      go_wp2_with fail
      go_loopw [81] (fun iv wl => ∃ m : Nat, m ≤ j ∧ iv = .int .i64 (m : Int) ∧ Hid (Below Wc.heap.size Wc wl ∧ ∀ q, q < m → FarC l ⟨(k0 : Int), xa⟩ (Ck cs q))) (fun iv _ => j - (intOf iv).toNat)
      case atStart => exact ⟨0, Nat.zero_le _, rfl, Below.refl _ _, fun q hq => by omega⟩
      case round =>
        obtain ⟨m, hm, rfl, HM⟩ := hrel
        have t4 := below_cell HM.out.1 HYC.out
        have c0 := below_cell HM.out.1 z0
        have c1 := below_cell HM.out.1 z1
        have lgc : gc < wr.heap.size := World.block_lt_of_cell? _ _ c0
        have lbt : b1 < wr.heap.size := World.block_lt_of_cell? _ _ t4
        clear z0 z1 z2 lb1 y1'
        by_cases hml : m < j
        · obtain ⟨y', hy', -⟩ := drop_at (show m < cs.length by omega)
          have HXo : Hid (Ck cs m = y') := getD_some hy'
          obtain ⟨q0, q1⟩ := co_at' (fun q u hq => below_cell (below_seq H14.out.1 HM.out.1) (HROW.out q u hq)) hy'
          have hTm := (HTT.out.at_ m hml).1
          rw [HXo.out] at hTm
          obtain ⟨ok, oa⟩ := y'
          have hoa := hTm.2.2.2
          dsimp only at q0 q1 hoa
          clear hTm hy'
          have hmi : (m : Int) < (j : Int) := by omega
          have lbq : b2 < wr.heap.size := World.block_lt_of_cell? _ _ q0
          go_upto_region 17 with fail
          have HO2 : Hid (Below Wc.heap.size Wc (wr.alloc (.cells #[.int .i64 ok, .int .i64 oa] 33)) ∧ FL2 (wr.alloc (.cells #[.int .i64 ok, .int .i64 oa] 33)) wr.heap.size ok oa) := ⟨below_seq HM.out.1 (below_new _ _), heap_alloc_new _ _⟩
          have t4' := below_cell (below_new wr (.cells #[.int .i64 ok, .int .i64 oa] 33)) t4
          have c0' := below_cell (below_new wr (.cells #[.int .i64 ok, .int .i64 oa] 33)) c0
          have c1' := below_cell (below_new wr (.cells #[.int .i64 ok, .int .i64 oa] 33)) c1
          clear t4 c0 c1 lgc lbt q0 q1 lbq
          have HF : Hid (∀ q, q < m → FarC l ⟨(k0 : Int), xa⟩ (Ck cs q)) := HM.out.2
          clear HM
          generalize wr.alloc (.cells #[.int .i64 ok, .int .i64 oa] 33) = Wo at *
          generalize wr.heap.size = go at *
          obtain ⟨d0, d1, d2⟩ := HO2.out.2.cells
          have HBo : Hid (Below Wc.heap.size Wc Wo ∧ Below w.heap.size w Wo) := ⟨HO2.out.1, below_seq H14.out.1 HO2.out.1⟩
          have w1 : IntKind.i64.wrap (xa - oa) = xa - oa := by rw [IntKind.wrap_i64]; omega
          have w2 : IntKind.i64.wrap (oa - xa) = oa - xa := by rw [IntKind.wrap_i64]; omega
          clear HO2
          by_cases hkk : ok = (k0 : Int)
          · have HKK : Hid (ok = (k0 : Int)) := hkk
            have hkb : (ok == (k0 : Int)) = true := by simpa using hkk
            by_cases hmx : xa - oa < oa - xa
            · by_cases hT : oa - xa < yt
              · go_quiet (fail)
                go_wp2_with fail
                go_ret
                exact ⟨rfl, below_seq HBo.out.2 (below_drewN' (n := nq))⟩
              · go_quiet (fail)
                go_wp2_with fail
                refine ⟨⟨m + 1, by omega, by simp, below_seq HBo.out.1 (below_drewN' (n := nq)), fun q hq => ?_⟩, by simp [intOf]; omega⟩
                by_cases hqm : q < m
                · exact HF.out q hqm
                · have e9 : q = m := by omega
                  subst e9
                  intro _
                  rw [HXo.out]
                  show (l.getD ((k0 : Int)).toNat paZ).t ≤ max (xa - oa) (oa - xa)
                  rw [Int.toNat_natCast, HY.out]
                  show yt ≤ _
                  omega
            · by_cases hT : xa - oa < yt
              · go_quiet (fail)
                go_wp2_with fail
                go_ret
                exact ⟨rfl, below_seq HBo.out.2 (below_drewN' (n := nq))⟩
              · go_quiet (fail)
                go_wp2_with fail
                refine ⟨⟨m + 1, by omega, by simp, below_seq HBo.out.1 (below_drewN' (n := nq)), fun q hq => ?_⟩, by simp [intOf]; omega⟩
                by_cases hqm : q < m
                · exact HF.out q hqm
                · have e9 : q = m := by omega
                  subst e9
                  intro _
                  rw [HXo.out]
                  show (l.getD ((k0 : Int)).toNat paZ).t ≤ max (xa - oa) (oa - xa)
                  rw [Int.toNat_natCast, HY.out]
                  show yt ≤ _
                  omega
          · have HKK : Hid (¬ ok = (k0 : Int)) := hkk
            have hkb : (ok == (k0 : Int)) = false := by simpa using hkk
            go_quiet (fail)
            go_wp2_with fail
            refine ⟨⟨m + 1, by omega, by simp, below_seq HBo.out.1 (below_drewN' (n := nq)), fun q hq => ?_⟩, by simp [intOf]; omega⟩
            by_cases hqm : q < m
            · exact HF.out q hqm
            · have e9 : q = m := by omega
              subst e9
              rw [HXo.out]
              intro h9
              exact absurd h9 HKK.out
        · have hmj : m = j := by omega
          subst hmj
          have HT9 : Hid (TakeTo l cs (m + 1) (max e (xa + yt))) := by
            have h9 := HTT.out.next HO.out.1 (by rw [HX.out]; exact ⟨by show (0 : Int) ≤ (k0 : Int); omega, by show (k0 : Int) < _; omega, by show (l.getD ((k0 : Int)).toNat paZ).fr = -1; rw [Int.toNat_natCast, HY.out], by show 0 ≤ xa; omega, by show xa ≤ 2000; omega⟩) (by rw [HX.out]; exact HM.out.2)
            rw [HX.out] at h9
            have e9 : (l.getD (Co.mk (k0 : Int) xa).k.toNat paZ).t = yt := by show (l.getD ((k0 : Int)).toNat paZ).t = yt; rw [Int.toNat_natCast, HY.out]
            rw [e9] at h9
            exact h9
          have HB9 : Hid (Below W6.heap.size W6 wr) := below_seq H14.out.2.1 HM.out.1
          have w1 : IntKind.i64.wrap (xa + yt) = xa + yt := by rw [IntKind.wrap_i64]; omega
          clear HM
          go_upto_region 20 with fail
          go_quiet (fail)
          go_wp2_with fail
          exact ⟨⟨m + 1, max e (xa + yt), by omega, rfl, by simp, below_seq HB9.out (below_drewN' (n := nq)), HT9.out⟩, by simp [intOf]; omega⟩
    · have hje : j = cs.length := by omega
      subst hje
      have HTT : Hid (TakeTo l cs cs.length e) := HT.out.2
      have HB : Hid (Below w.heap.size w wr) := below_seq HK.out.bel HT.out.1
      have HKw : Hid (KW w wr g 0 0 ts (.slice tad l.length tc)) := HK.out.grow HT.out.1
      clear HT a0 a1 a2
      by_cases he : 3000 < e
      · go_wp2_with fail
        go_ret
        exact ⟨rfl, HB.out⟩
      have HP : Hid (Calls Try.prog 7 #[.slice ad l.length c, .slice ad2 cs.length c2, .slice ad3 tk.length c3, .int .i64 e] wr (PlayPost wr l cs tk e (ordF cs))) := Play_any wr l cs tk e _ _ _ (ordF cs) (HV.out.1.below HB.out) (HV.out.2.1.below HB.out) (HV.out.2.2.1.below HB.out) (by omega) HV.out.2.2.2 (ordF_len cs) (ordF_mem cs) (fun W hb => inTime_full W cs _ (HV.out.2.1.below (below_seq HB.out hb)) (by omega))
      by_cases hz : (chkPl l cs tk e).1 = 0
      rotate_left 1
      · have h3 := chk3_of HO.out.2 hl2 HTT.out (by omega) hz
        obtain ⟨z, hze⟩ : ∃ z, (chkPl l cs tk e).2 = z := ⟨_, rfl⟩
        have HQ : Calls Try.prog 7 #[.slice ad l.length c, .slice ad2 cs.length c2, .slice ad3 tk.length c3, .int .i64 e] wr fun r w' => r = .returned (.tuple #[.slice none 0 0, .agg #[.int .i64 3, .int .i64 z]]) ∧ Below wr.heap.size wr w' := HP.out.mono fun r w' h => by
          rcases h with ⟨-, h2, h4⟩ | ⟨h1, -⟩
          · rw [h3, hze] at h2
            exact ⟨h2, h4⟩
          · exact absurd h1 hz
        clear HP h3 hz hze
        go_upto_region 25 with (go_at_call 7; refine HQ.mono ?_; rintro r w9 ⟨rfl, hb9⟩; have H9 : Hid (FB w w9 g) := ⟨below_seq HB.out hb9, HKw.out.fl.grow hb9, HKw.out.low⟩; obtain ⟨e0, e1, e2, e3, e4⟩ := H9.out.res2; clear hb9 HQ)
        have HB9 : Hid (Below w.heap.size w ((w9.setCell ⟨g, 0, none⟩ (.int .i64 3)).setCell ⟨g, 1, none⟩ (.int .i64 z))) := H9.out.set _ _
        go_wp2_with fail
        go_ret
        exact ⟨rfl, HB9.out⟩
      have HQ : Calls Try.prog 7 #[.slice ad l.length c, .slice ad2 cs.length c2, .slice ad3 tk.length c3, .int .i64 e] wr fun r w' => ∃ gE ev, r = .returned (.tuple #[.slice (some ⟨gE, 0, none⟩) cs.length cs.length, .agg #[.int .i64 0, .int .i64 0]]) ∧ KE w' gE ev (fun n => (playTo l tk cs (ordF cs) e.toNat).2.ends.getD n []) cs.length ∧ Below wr.heap.size wr w' := HP.out.mono fun r w' h => by
        rcases h with ⟨h1, -⟩ | ⟨-, gE, ev, h1, h2, h3, h4, -, -, h5⟩
        · exact absurd hz h1
        · exact ⟨gE, ev, h1, ⟨h2, h3, h4⟩, h5⟩
      clear HP hz
      go_upto_region 25 with (go_at_call 7; refine HQ.mono ?_; rintro r w9 ⟨gE, ev, rfl, hE, hb9⟩; have H9 : Hid (FB w w9 g ∧ KE w9 gE ev (fun n => (playTo l tk cs (ordF cs) e.toNat).2.ends.getD n []) cs.length ∧ RowSl nuV w9 ts (.slice tad l.length tc)) := ⟨⟨below_seq HB.out hb9, HKw.out.fl.grow hb9, HKw.out.low⟩, hE, HKw.out.ts.below hb9⟩; obtain ⟨e0, e1, e2, e3, e4⟩ := H9.out.1.res2; clear hb9 hE HQ)
      have HS : Hid (KE ((w9.setCell ⟨g, 0, none⟩ (.int .i64 0)).setCell ⟨g, 1, none⟩ (.int .i64 0)) gE ev (fun n => (playTo l tk cs (ordF cs) e.toNat).2.ends.getD n []) cs.length ∧ RowSl nuV ((w9.setCell ⟨g, 0, none⟩ (.int .i64 0)).setCell ⟨g, 1, none⟩ (.int .i64 0)) ts (.slice tad l.length tc) ∧ Below w.heap.size w ((w9.setCell ⟨g, 0, none⟩ (.int .i64 0)).setCell ⟨g, 1, none⟩ (.int .i64 0)) ∧ ((w9.setCell ⟨g, 0, none⟩ (.int .i64 0)).setCell ⟨g, 1, none⟩ (.int .i64 0)).cell? ⟨g, 0, none⟩ = some (.int .i64 0) ∧ g < ((w9.setCell ⟨g, 0, none⟩ (.int .i64 0)).setCell ⟨g, 1, none⟩ (.int .i64 0)).heap.size) := by
        have e9 := set_zero H9.out.1.res
        exact ⟨H9.out.2.1.same e9, H9.out.2.2.same (cell_same e9), H9.out.1.set _ _, (cells_of (l := [_, _]) ((e9 g).trans H9.out.1.res)).1 0 _ rfl, (Array.getElem?_eq_some_iff.1 ((e9 g).trans H9.out.1.res)).1⟩
      clear e0 e1 e2 e3 e4 H9
      generalize (w9.setCell ⟨g, 0, none⟩ (.int .i64 0)).setCell ⟨g, 1, none⟩ (.int .i64 0) = Wp at *
      obtain ⟨HSE, HST, HSB, e0, e4⟩ := HS.out
      have HS2 : Hid (KE Wp gE ev (fun n => (playTo l tk cs (ordF cs) e.toNat).2.ends.getD n []) cs.length ∧ RowSl nuV Wp ts (.slice tad l.length tc) ∧ Below w.heap.size w Wp) := ⟨HSE, HST, HSB⟩
      clear HSE HST HSB HS
      go_upto_region 29 with fail
      clear e0 e4
      go_wp2_with fail
      go_loopw [153] (fun iv wl => ∃ n : Nat, n ≤ cs.length ∧ iv = .int .i64 (n : Int) ∧ Hid (Below Wp.heap.size Wp wl)) (fun iv _ => cs.length - (intOf iv).toNat)
      case atStart => exact ⟨0, Nat.zero_le _, rfl, Below.refl _ _⟩
      case round =>
        obtain ⟨n, hn, rfl, HN⟩ := hrel
        by_cases hnl : n < cs.length
        · obtain ⟨x, hx, -⟩ := drop_at hnl
          have HX : Hid (Ck cs n = x) := getD_some hx
          have HB9 : Hid (Below w.heap.size w wr) := below_seq HS2.out.2.2 HN.out
          obtain ⟨ad9, cc9, e9, -, hcap, hrow⟩ := HV.out.2.1
          cases e9
          rcases hrow with h | ⟨b2, o2, rfl, hrow⟩
          · rw [h] at hnl; simp at hnl
          obtain ⟨x0, x1⟩ := co_at' (fun q u hq => below_cell HB9.out (hrow q u hq)) hx
          have lb2 : b2 < wr.heap.size := World.block_lt_of_cell? _ _ x0
          have hni : (n : Int) < (cs.length : Int) := by omega
          have hTc := (HTT.out.at_ n hnl).1
          rw [HX.out] at hTc
          obtain ⟨xk, xa⟩ := x
          obtain ⟨k0, rfl⟩ : ∃ k0 : Nat, xk = (k0 : Int) := ⟨xk.toNat, by have := hTc.1; dsimp only at this; omega⟩
          have hxa := hTc.2.2.2
          dsimp only at x0 x1 hxa
          clear hrow hx hTc
          go_upto_region 32 with fail
          have H32 : Hid (Below Wp.heap.size Wp (wr.alloc (.cells #[.int .i64 (k0 : Int), .int .i64 xa] 33)) ∧ FL2 (wr.alloc (.cells #[.int .i64 (k0 : Int), .int .i64 xa] 33)) wr.heap.size (k0 : Int) xa) := ⟨below_seq HN.out (below_new _ _), heap_alloc_new _ _⟩
          clear x0 x1 lb2 HN HB9
          generalize wr.alloc (.cells #[.int .i64 (k0 : Int), .int .i64 xa] 33) = Wc at *
          generalize wr.heap.size = gc at *
          have HE := HS2.out.1.grow H32.out.1
          have hel : n < ev.length := by rw [HE.len]; exact hnl
          obtain ⟨gn, cn, ex, hvn, hcn, hgn⟩ := HE.row n _ (List.getElem?_eq_getElem hel)
          have hrl : ((playTo l tk cs (ordF cs) e.toNat).2.ends.getD n []).length = l.length := by
            have hone := (resps_ok HR.out).1.one
            obtain ⟨r, v, x, h1, h2, -⟩ := said_of (tk := tk) HR.out HTT.out n 0 hnl (by omega)
            rw [h1]; exact h2
          have hE0 := (cells_of (l := ev) (by simpa using HE.blk)).1 n _ (List.getElem?_eq_getElem hel)
          rw [hvn, hrl] at hE0
          rw [hrl] at hcn
          have HG : Hid (Wc.heap[gn]? = some (.cells ((((playTo l tk cs (ordF cs) e.toNat).2.ends.getD n []).map (Value.int .i64)) ++ ex).toArray 3 (0, 0))) := hgn
          have lE : gE < Wc.heap.size := World.block_lt_of_cell? _ _ hE0
          obtain ⟨z0, z1, z2⟩ := H32.out.2.cells
          clear hgn HE hel hvn
          go_upto_region 34 with fail
          go_wp2_with fail
          go_loopw [168] (fun iv wl => ∃ k : Nat, k ≤ l.length ∧ iv = .int .i64 (k : Int) ∧ Hid (Below Wc.heap.size Wc wl)) (fun iv _ => l.length - (intOf iv).toNat)
          case atStart => exact ⟨0, Nat.zero_le _, rfl, Below.refl _ _⟩
          case round =>
            obtain ⟨k, hk, rfl, HKb⟩ := hrel
            by_cases hkl : k < l.length
            · have hki : (k : Int) < (l.length : Int) := by omega
              have HBk : Hid (Below w.heap.size w wr) := below_seq HS2.out.2.2 (below_seq H32.out.1 HKb.out)
              go_upto_region 37 with fail
              go_wp2_with fail
              go_loopw [18] (fun fv wl => ∃ f : Nat, f < l.length ∧ fv = .int .i64 (f : Int) ∧ wl = wr ∧ Hid (rt l f = rt l k)) (fun fv _ => (intOf fv).toNat)
              case atStart => exact ⟨k, hkl, rfl, rfl, rfl⟩
              case round =>
                obtain ⟨f, hfl, rfl, rfl, HF⟩ := hrel
                obtain ⟨y, hy, -⟩ := drop_at hfl
                obtain ⟨ad9, cc9, e9, -, -, hrowp⟩ := HV.out.1
                cases e9
                rcases hrowp with h | ⟨b1, o1, rfl, hrowp⟩
                · rw [h] at hfl; simp at hfl
                obtain ⟨y0, y1, y2, y3, y4, y5, y6⟩ := pa7_at (fun q u hq => below_cell HBk.out (hrowp q u hq)) hy
                have HY : Hid (l.getD f paZ = y) := getD_some hy
                have lb1 : b1 < wr.heap.size := World.block_lt_of_cell? _ _ y0
                have hfi : (f : Int) < (l.length : Int) := by omega
                obtain ⟨yco, yfr, yse, yc, yt, yd, yp⟩ := y
                dsimp only at y1
                clear y0 y2 y3 y4 y5 y6 hrowp hy
                have hfr : fr l f = yfr := by unfold fr; rw [HY.out]
                rcases Keep.fr_at (resps_ok HR.out).1 hfl with ⟨h1, -⟩ | ⟨f', h1, h2, -⟩
                · rw [hfr] at h1
                  subst h1
                  have HF2 : Hid (f = rt l k) := (rt_root hfr).symm.trans HF.out
                  have hneg : ¬ (0 : Int) ≤ -1 := by omega
                  go_upto_region 40 with fail
                  obtain ⟨r, vv, tx, s1, s2, s3, s4, s5, s6, s7, s8⟩ := said_of (tk := tk) HR.out HTT.out n k hnl hkl
                  rw [HX.out] at s7 s8
                  have hvc : wr.cell? ⟨gn, k, none⟩ = some (.int .i64 vv) := by
                    refine below_cell HKb.out ((cells_of (l := _) HG.out).1 k _ ?_)
                    rw [s1, List.getElem?_append_left (by rw [List.length_map, s2]; exact hkl), List.getElem?_map, s3]
                    rfl
                  obtain ⟨tad9, tcc9, te9, -, -, hrowt⟩ := HS2.out.2.1
                  rcases hrowt with h | ⟨bt, ot, te, hrowt⟩
                  · rw [h] at s4; simp at s4
                  rw [te] at te9
                  injection te9 with te1 te2 te3
                  subst te1
                  have htc : wr.cell? ⟨bt, ot + k, none⟩ = some (.int .i64 tx) := below_cell (below_seq H32.out.1 HKb.out) (nu_at hrowt s4)
                  have hec := below_cell HKb.out hE0
                  have hz0 := below_cell HKb.out z0
                  have hz1 := below_cell HKb.out z1
                  have l1 : gn < wr.heap.size := World.block_lt_of_cell? _ _ hvc
                  have l2 : bt < wr.heap.size := World.block_lt_of_cell? _ _ htc
                  have l3 : gE < wr.heap.size := World.block_lt_of_cell? _ _ hec
                  have l4 : gc < wr.heap.size := World.block_lt_of_cell? _ _ hz0
                  have hni2 : (n : Int) < (cs.length : Int) := by omega
                  clear hE0 z0 z1 z2 lE y1 lb1 te2 te3 hrowt s1 s2 s3 s4
                  dsimp only at s7 s8
                  rw [Int.toNat_natCast, ← HF2.out] at s7 s8
                  by_cases hfk : f = k0
                  · obtain ⟨q1, q2⟩ := s7 hfk
                    clear s7 s8
                    subst hfk
                    have q3 : ¬ vv < 0 := by omega
                    have q4 : IntKind.i64.wrap (vv - xa) = vv - xa := by rw [IntKind.wrap_i64]; omega
                    have q5 : ¬ tx < vv - xa := by omega
                    have q6 : ((f : Int) == (f : Int)) = true := by simp
                    go_quiet (fail)
                    go_wp2_with fail
                    exact ⟨⟨k + 1, by omega, by simp, below_seq HKb.out (below_drewN' (n := nq))⟩, by simp [intOf]; omega⟩
                  · have q1 := s8 hfk
                    clear s7 s8
                    subst q1
                    have q6 : ((f : Int) == (k0 : Int)) = false := by simp; omega
                    have q7 : ((f : Int) != (k0 : Int)) = true := by simp; omega
                    go_quiet (fail)
                    go_wp2_with fail
                    exact ⟨⟨k + 1, by omega, by simp, below_seq HKb.out (below_drewN' (n := nq))⟩, by simp [intOf]; omega⟩
                · rw [hfr] at h1
                  subst h1
                  have HF2 : Hid (rt l f' = rt l k) := (rt_up (resps_ok HR.out).1 hfl hfr).symm.trans HF.out
                  have hpos : (0 : Int) ≤ (f' : Int) := by omega
                  go_wp2_with fail
                  exact ⟨⟨f', by omega, rfl, trivial, HF2.out⟩, by simp [intOf]; omega⟩
            · have hke : k = l.length := by omega
              subst hke
              have HB8 : Hid (Below Wp.heap.size Wp wr) := below_seq H32.out.1 HKb.out
              go_wp2_with fail
              exact ⟨⟨n + 1, by omega, by simp, HB8.out⟩, by simp [intOf]; omega⟩
        · have hne : n = cs.length := by omega
          subst hne
          go_wp2_with fail
          go_ret
          exact ⟨rfl, below_seq HS2.out.2.2 HN.out⟩
end Go.Proofs.Ytccoobcggbbciam
