import Derived.Test.YtccoobcggbbciahDoorMC
import Derived.Test.YtccoobcggbbciahDoorFX
namespace Go.Proofs.YtccoobcggbbciahDoor
open Go.ChangeShapes Go.WideShapes Go.ChangeAt Go.RowKit

/-- What nothing is wrong with. -/
def okCr (x : Cr) : Prop := 1 ≤ x.c ∧ x.c ≤ x.h ∧ x.h ≤ x.d ∧ x.d ≤ x.t ∧ x.t ≤ 10000 ∧ 0 ≤ x.p ∧ x.p ≤ 1000
/-- What one asks for where all is well. -/
def upC (w : Int) (x : Cr) : Int := (w + x.t - 1) / x.t * x.c
/-- What one asks for where the mode turns. -/
def upI (wl v : Int) (x : Cr) : Int := if x.hi = true then (v + x.t - 1) / x.t * x.h else (wl + x.t - 1) / x.t * x.c
def aheadF (f : Cr → Int) (p : Int) : List Cr → Int
  | [] => 0
  | y :: r => (if p < y.p then f y else 0) + aheadF f p r

theorem part_range {w t c : Int} (hw : 0 ≤ w ∧ w ≤ 10000) (ht : 1 ≤ t ∧ t ≤ 10000) (hc : 0 ≤ c ∧ c ≤ 10000) : 0 ≤ (w + t - 1) / t * c ∧ (w + t - 1) / t * c ≤ 200000000 := by
  have q0 : 0 ≤ (w + t - 1) / t := Int.ediv_nonneg (by omega) (by omega)
  have q1 : (w + t - 1) / t ≤ w + t - 1 := Int.ediv_le_self t (by omega)
  refine ⟨Int.mul_nonneg q0 hc.1, ?_⟩
  have := Int.mul_le_mul (show (w + t - 1) / t ≤ 20000 by omega) hc.2 hc.1 (by omega)
  omega
theorem upw_range {x : Cr} (h : okCr x) {y : Int} (hy : 0 ≤ y ∧ y ≤ 10000) : 0 ≤ upC y x ∧ upC y x ≤ 200000000 := by
  obtain ⟨g1, g2, g3, g4, g5, g6, g7⟩ := h
  exact part_range hy (by omega) (by omega)
theorem upi_range {x : Cr} (h : okCr x) {y wl : Int} (hy : 0 ≤ y ∧ y ≤ 10000) (hz : 0 ≤ wl ∧ wl ≤ 10000) : 0 ≤ upI wl y x ∧ upI wl y x ≤ 200000000 := by
  obtain ⟨g1, g2, g3, g4, g5, g6, g7⟩ := h
  unfold upI
  split
  · exact part_range hy (by omega) (by omega)
  · exact part_range hz (by omega) (by omega)

theorem roundUpM_any (w : World) (a b : Int) (ha : 0 ≤ a ∧ a ≤ 1000000) (hb : 1 ≤ b ∧ b ≤ 1000000) : Calls Tryd.prog 30 #[.int .i64 a, .int .i64 b] w fun r w' => r = .returned (.int .i64 ((a + b - 1) / b)) ∧ w' = w := by
  have q1 : IntKind.i64.wrap (a + b) = a + b := by rw [IntKind.wrap_i64]; omega
  have q2 : IntKind.i64.wrap (a + b - 1) = a + b - 1 := by rw [IntKind.wrap_i64]; omega
  have q3 : (b == 0) = false := beq_eq_false_iff_ne.2 (by omega)
  have q4 : ¬ b = 0 := by omega
  have q5 : (a + b - 1).tdiv b = (a + b - 1) / b := Int.tdiv_eq_ediv_of_nonneg (by omega)
  have hq : 0 ≤ (a + b - 1) / b ∧ (a + b - 1) / b ≤ a + b - 1 := ⟨Int.ediv_nonneg (by omega) (by omega), Int.ediv_le_self _ (by omega)⟩
  have q6 : IntKind.i64.wrap ((a + b - 1) / b) = (a + b - 1) / b := by rw [IntKind.wrap_i64]; omega
  clear hq
  go_enter Tryd.func30, Tryd.ntmps30
  go_wp2_with fail
  go_ret
  exact ⟨rfl, rfl⟩
theorem roundUpM_q (w : World) (a b : Int) (ha : 0 ≤ a ∧ a ≤ 1000000) (hb : 1 ≤ b ∧ b ≤ 1000000) : Calls Tryd.prog 30 #[.int .i64 a, .int .i64 b] w fun r w' => r = .returned (.int .i64 ((a + b - 1) / b)) ∧ ∃ n, w' = w.drewN n :=
  (roundUpM_any w a b ha hb).mono (by rintro r w' ⟨rfl, rfl⟩; exact ⟨rfl, 0, rfl⟩)

set_option maxRecDepth 20000 in
set_option maxHeartbeats 1000000 in
theorem cw_any (w : World) (x : Cr) (gw : Nat) (y : Int) (hx : okCr x) (hy : 0 ≤ y ∧ y ≤ 10000) (hw : w.cell? ⟨gw, 0, none⟩ = some (.int .i64 y)) : Calls Tryd.prog 29 #[x.val, .pointer (some ⟨gw, 0, none⟩)] w fun r w' => r = .returned (.int .i64 (upC y x)) ∧ Below w.heap.size w w' := by
  have hr := upw_range hx hy
  obtain ⟨c, h, t, dd, hi, p⟩ := x
  unfold Cr.val
  dsimp only
  obtain ⟨g1, g2, g3, g4, g5, g6, g7⟩ := hx
  dsimp only at g1 g2 g3 g4 g5 g6 g7
  unfold upC at hr ⊢
  dsimp only at hr ⊢
  have l1 : gw < w.heap.size := World.block_lt_of_cell? _ _ hw
  have e2 : IntKind.i64.wrap ((y + t - 1) / t * c) = (y + t - 1) / t * c := by rw [IntKind.wrap_i64]; omega
  have HQ := fun W => roundUpM_q W y t (by omega) (by omega)
  clear hr
  go_enter Tryd.func29, Tryd.ntmps29
  go_wp2_with fail
  go_quiet (first | (go_at_call 30; exact Calls.quiet_of (HQ _)))
  go_wp2_with fail
  go_ret
  exact ⟨rfl, below_seq (below_new _ _) below_drewN'⟩

set_option maxRecDepth 20000 in
set_option maxHeartbeats 1000000 in
theorem ci_any (w : World) (x : Cr) (gw gz : Nat) (y wl : Int) (hx : okCr x) (hy : 0 ≤ y ∧ y ≤ 10000) (hz : 0 ≤ wl ∧ wl ≤ 10000) (hw : w.cell? ⟨gw, 0, none⟩ = some (.int .i64 y) ∧ w.cell? ⟨gz, 0, none⟩ = some (.int .i64 wl)) : Calls Tryd.prog 32 #[x.val, .pointer (some ⟨gw, 0, none⟩), .pointer (some ⟨gz, 0, none⟩)] w fun r w' => r = .returned (.int .i64 (upI wl y x)) ∧ Below w.heap.size w w' := by
  have hr := upi_range hx hy hz
  obtain ⟨c, h, t, dd, hi, p⟩ := x
  unfold Cr.val
  dsimp only
  obtain ⟨g1, g2, g3, g4, g5, g6, g7⟩ := hx
  dsimp only at g1 g2 g3 g4 g5 g6 g7
  unfold upI at hr ⊢
  dsimp only at hr ⊢
  obtain ⟨hw1, hw2⟩ := hw
  have l1 : gw < w.heap.size := World.block_lt_of_cell? _ _ hw1
  have l2 : gz < w.heap.size := World.block_lt_of_cell? _ _ hw2
  cases hi
  · simp only [Bool.false_eq_true, if_false] at hr ⊢
    have e2 : IntKind.i64.wrap ((wl + t - 1) / t * c) = (wl + t - 1) / t * c := by rw [IntKind.wrap_i64]; omega
    have HQ := fun W => roundUpM_q W wl t (by omega) (by omega)
    clear hr
    go_enter Tryd.func32, Tryd.ntmps32
    go_wp2_with fail
    go_quiet (first | (go_at_call 30; exact Calls.quiet_of (HQ _)))
    go_wp2_with fail
    go_ret
    exact ⟨rfl, below_seq (below_new _ _) below_drewN'⟩
  · simp only [if_true] at hr ⊢
    have e2 : IntKind.i64.wrap ((y + t - 1) / t * h) = (y + t - 1) / t * h := by rw [IntKind.wrap_i64]; omega
    have HQ := fun W => roundUpM_q W y t (by omega) (by omega)
    clear hr
    go_enter Tryd.func32, Tryd.ntmps32
    go_wp2_with fail
    go_quiet (first | (go_at_call 30; exact Calls.quiet_of (HQ _)))
    go_wp2_with fail
    go_ret
    exact ⟨rfl, below_seq (below_new _ _) below_drewN'⟩

set_option maxRecDepth 20000 in
set_option maxHeartbeats 2000000 in
theorem ahead_w_any (w : World) (l : List Cr) (v : Value) (x : Cr) (gw : Nat) (y : Int) (hl : l.length ≤ 8) (hok : ∀ x ∈ l, okCr x) (hy : 0 ≤ y ∧ y ≤ 10000) (hv : RowSl Cr.vals w l v) (hw : w.cell? ⟨gw, 0, none⟩ = some (.int .i64 y)) : Calls Tryd.prog 28 #[v, x.val, .func (Fn.func 29) #[] #[.pointer (some ⟨gw, 0, none⟩)]] w fun r w' => r = .returned (.int .i64 (aheadF (upC y) x.p l)) ∧ Below w.heap.size w w' := by
  obtain ⟨ad, c, rfl, -, hcap, hrow⟩ := hv
  obtain ⟨xc, xh, xt, xd, xi, xp⟩ := x
  unfold Cr.val
  dsimp only
  have HR : Hid ((l = [] ∨ ∃ b o, ad = some ⟨b, o, none⟩ ∧ ∀ q u, (l.flatMap Cr.vals)[q]? = some u → w.cell? ⟨b, o + q, none⟩ = some u) ∧ ∀ x ∈ l, okCr x) := ⟨hrow, hok⟩
  have HW : Hid (w.cell? ⟨gw, 0, none⟩ = some (.int .i64 y)) := hw
  clear hrow hok hw
  have HX : Hid ((w.alloc (.cells #[.int .i64 xc, .int .i64 xh, .int .i64 xt, .int .i64 xd, .bool xi, .int .i64 xp] 27)).cell? ⟨w.heap.size, 5, none⟩ = some (.int .i64 xp) ∧ Below w.heap.size w (w.alloc (.cells #[.int .i64 xc, .int .i64 xh, .int .i64 xt, .int .i64 xd, .bool xi, .int .i64 xp] 27))) := ⟨by go_simp, below_new _ _⟩
  go_enter Tryd.func28, Tryd.ntmps28
  go_wp2_with fail
  generalize (w.alloc (.cells #[.int .i64 xc, .int .i64 xh, .int .i64 xt, .int .i64 xd, .bool xi, .int .i64 xp] 27)) = w0 at *
  go_loopw [7, 12] (fun mv i wr => ∃ (j : Nat) (mm : Int), j ≤ l.length ∧ i = .int .i64 j ∧ mv = .int .i64 mm ∧ Below w0.heap.size w0 wr ∧ 0 ≤ mm ∧ mm ≤ (j : Int) * 200000000 ∧ Hid (mm + aheadF (upC y) xp (l.drop j) = aheadF (upC y) xp l)) (fun _ i _ => l.length - (intOf i).toNat)
  case atStart => exact ⟨0, 0, Nat.zero_le _, rfl, rfl, Below.refl _ _, by omega, by omega, by show 0 + aheadF (upC y) xp l = _; omega⟩
  case round =>
    obtain ⟨j, mm, hj, rfl, rfl, hb, h1, h2, HM⟩ := hrel
    by_cases hjl : j < l.length
    · obtain ⟨q, hx, hd⟩ := drop_at hjl
      rcases HR.out.1 with h | ⟨gb, go, rfl, hr1⟩
      · rw [h] at hjl; simp at hjl
      obtain ⟨y0, y1, y2, y3, y4, y5⟩ := cr_at (fun q u hq => below_cell hb (below_cell HX.out.2 (hr1 q u hq))) hx
      have z5 := below_cell hb HX.out.1
      have lz : w.heap.size < wr.heap.size := World.block_lt_of_cell? _ _ z5
      have lz2 : ¬ w.heap.size = wr.heap.size := by omega
      have hxo := HR.out.2 q (List.mem_of_getElem? hx)
      have hf := upw_range hxo hy
      have HF := fun W (h : Below w.heap.size w W) => cw_any W q gw y hxo hy (below_cell h HW.out)
      have HD : Hid (aheadF (upC y) xp (l.drop j) = (if xp < q.p then upC y q else 0) + aheadF (upC y) xp (l.drop (j + 1))) := by rw [hd]; rfl
      obtain ⟨yc, yh, yt, yd, yi, yp⟩ := q
      dsimp only at y0 y1 y2 y3 y4 y5
      simp only [Cr.val] at HF
      have HB : Hid (Below w.heap.size w wr ∧ Below w0.heap.size w0 wr) := ⟨below_seq HX.out.2 hb, hb⟩
      have HFH : Hid (∀ W, Below w.heap.size w W → Calls Tryd.prog 29 #[.agg #[.int .i64 yc, .int .i64 yh, .int .i64 yt, .int .i64 yd, .bool yi, .int .i64 yp], .pointer (some ⟨gw, 0, none⟩)] W fun r w' => r = .returned (.int .i64 (upC y ⟨yc, yh, yt, yd, yi, yp⟩)) ∧ Below W.heap.size W w') := HF
      clear hxo hd hx hr1 hb HF
      dsimp only at HD
      generalize upC y ⟨yc, yh, yt, yd, yi, yp⟩ = z at *
      have e1 : IntKind.i64.wrap (mm + z) = mm + z := by rw [IntKind.wrap_i64]; omega
      by_cases hp : xp < yp
      · go_wp2_with (go_at_call 29; refine (HFH.out _ (below_seq HB.out.1 (below_new _ _))).mono ?_; rintro r w2 ⟨rfl, hb2⟩; have H2 : Hid (Below w0.heap.size w0 w2) := below_seq (below_seq HB.out.2 (below_new _ _)) hb2; clear hb2)
        refine ⟨⟨j + 1, mm + z, by omega, by simp, rfl, H2.out, by omega, by omega, ?_⟩, by simp [intOf]; omega⟩
        have e : mm + z + aheadF (upC y) xp (l.drop (j + 1)) = aheadF (upC y) xp l := by
          rw [← HM.out, HD.out, if_pos hp]; omega
        exact e
      · go_wp2_with fail
        refine ⟨⟨j + 1, mm, by omega, by simp, rfl, below_seq HB.out.2 (below_new _ _), by omega, by omega, ?_⟩, by simp [intOf]; omega⟩
        have e : mm + aheadF (upC y) xp (l.drop (j + 1)) = aheadF (upC y) xp l := by
          rw [← HM.out, HD.out, if_neg hp]; omega
        exact e
    · have hje : j = l.length := by omega
      subst hje
      go_wp2_with fail
      go_ret
      refine ⟨?_, below_seq HX.out.2 hb⟩
      have := HM.out
      rw [List.drop_length] at this
      have e : mm = aheadF (upC y) xp l := by rw [← this]; simp only [aheadF]; omega
      rw [e]
      rfl

set_option maxRecDepth 20000 in
set_option maxHeartbeats 2000000 in
theorem ahead_i_any (w : World) (l : List Cr) (v : Value) (x : Cr) (gw gz : Nat) (y wl : Int) (hl : l.length ≤ 8) (hok : ∀ x ∈ l, okCr x) (hy : 0 ≤ y ∧ y ≤ 10000) (hz : 0 ≤ wl ∧ wl ≤ 10000) (hv : RowSl Cr.vals w l v) (hw : w.cell? ⟨gw, 0, none⟩ = some (.int .i64 y) ∧ w.cell? ⟨gz, 0, none⟩ = some (.int .i64 wl)) : Calls Tryd.prog 28 #[v, x.val, .func (Fn.func 32) #[] #[.pointer (some ⟨gw, 0, none⟩), .pointer (some ⟨gz, 0, none⟩)]] w fun r w' => r = .returned (.int .i64 (aheadF (upI wl y) x.p l)) ∧ Below w.heap.size w w' := by
  obtain ⟨ad, c, rfl, -, hcap, hrow⟩ := hv
  obtain ⟨xc, xh, xt, xd, xi, xp⟩ := x
  unfold Cr.val
  dsimp only
  have HR : Hid ((l = [] ∨ ∃ b o, ad = some ⟨b, o, none⟩ ∧ ∀ q u, (l.flatMap Cr.vals)[q]? = some u → w.cell? ⟨b, o + q, none⟩ = some u) ∧ ∀ x ∈ l, okCr x) := ⟨hrow, hok⟩
  have HW : Hid (w.cell? ⟨gw, 0, none⟩ = some (.int .i64 y) ∧ w.cell? ⟨gz, 0, none⟩ = some (.int .i64 wl)) := hw
  clear hrow hok hw
  have HX : Hid ((w.alloc (.cells #[.int .i64 xc, .int .i64 xh, .int .i64 xt, .int .i64 xd, .bool xi, .int .i64 xp] 27)).cell? ⟨w.heap.size, 5, none⟩ = some (.int .i64 xp) ∧ Below w.heap.size w (w.alloc (.cells #[.int .i64 xc, .int .i64 xh, .int .i64 xt, .int .i64 xd, .bool xi, .int .i64 xp] 27))) := ⟨by go_simp, below_new _ _⟩
  go_enter Tryd.func28, Tryd.ntmps28
  go_wp2_with fail
  generalize (w.alloc (.cells #[.int .i64 xc, .int .i64 xh, .int .i64 xt, .int .i64 xd, .bool xi, .int .i64 xp] 27)) = w0 at *
  go_loopw [7, 12] (fun mv i wr => ∃ (j : Nat) (mm : Int), j ≤ l.length ∧ i = .int .i64 j ∧ mv = .int .i64 mm ∧ Below w0.heap.size w0 wr ∧ 0 ≤ mm ∧ mm ≤ (j : Int) * 200000000 ∧ Hid (mm + aheadF (upI wl y) xp (l.drop j) = aheadF (upI wl y) xp l)) (fun _ i _ => l.length - (intOf i).toNat)
  case atStart => exact ⟨0, 0, Nat.zero_le _, rfl, rfl, Below.refl _ _, by omega, by omega, by show 0 + aheadF (upI wl y) xp l = _; omega⟩
  case round =>
    obtain ⟨j, mm, hj, rfl, rfl, hb, h1, h2, HM⟩ := hrel
    by_cases hjl : j < l.length
    · obtain ⟨q, hx, hd⟩ := drop_at hjl
      rcases HR.out.1 with h | ⟨gb, go, rfl, hr1⟩
      · rw [h] at hjl; simp at hjl
      obtain ⟨y0, y1, y2, y3, y4, y5⟩ := cr_at (fun q u hq => below_cell hb (below_cell HX.out.2 (hr1 q u hq))) hx
      have z5 := below_cell hb HX.out.1
      have lz : w.heap.size < wr.heap.size := World.block_lt_of_cell? _ _ z5
      have lz2 : ¬ w.heap.size = wr.heap.size := by omega
      have hxo := HR.out.2 q (List.mem_of_getElem? hx)
      have hf := upi_range hxo hy hz
      have HF := fun W (h : Below w.heap.size w W) => ci_any W q gw gz y wl hxo hy hz ⟨below_cell h HW.out.1, below_cell h HW.out.2⟩
      have HD : Hid (aheadF (upI wl y) xp (l.drop j) = (if xp < q.p then upI wl y q else 0) + aheadF (upI wl y) xp (l.drop (j + 1))) := by rw [hd]; rfl
      obtain ⟨yc, yh, yt, yd, yi, yp⟩ := q
      dsimp only at y0 y1 y2 y3 y4 y5
      simp only [Cr.val] at HF
      have HB : Hid (Below w.heap.size w wr ∧ Below w0.heap.size w0 wr) := ⟨below_seq HX.out.2 hb, hb⟩
      have HFH : Hid (∀ W, Below w.heap.size w W → Calls Tryd.prog 32 #[.agg #[.int .i64 yc, .int .i64 yh, .int .i64 yt, .int .i64 yd, .bool yi, .int .i64 yp], .pointer (some ⟨gw, 0, none⟩), .pointer (some ⟨gz, 0, none⟩)] W fun r w' => r = .returned (.int .i64 (upI wl y ⟨yc, yh, yt, yd, yi, yp⟩)) ∧ Below W.heap.size W w') := HF
      clear hxo hd hx hr1 hb HF
      dsimp only at HD
      generalize upI wl y ⟨yc, yh, yt, yd, yi, yp⟩ = z at *
      have e1 : IntKind.i64.wrap (mm + z) = mm + z := by rw [IntKind.wrap_i64]; omega
      by_cases hp : xp < yp
      · go_wp2_with (go_at_call 32; refine (HFH.out _ (below_seq HB.out.1 (below_new _ _))).mono ?_; rintro r w2 ⟨rfl, hb2⟩; have H2 : Hid (Below w0.heap.size w0 w2) := below_seq (below_seq HB.out.2 (below_new _ _)) hb2; clear hb2)
        refine ⟨⟨j + 1, mm + z, by omega, by simp, rfl, H2.out, by omega, by omega, ?_⟩, by simp [intOf]; omega⟩
        have e : mm + z + aheadF (upI wl y) xp (l.drop (j + 1)) = aheadF (upI wl y) xp l := by
          rw [← HM.out, HD.out, if_pos hp]; omega
        exact e
      · go_wp2_with fail
        refine ⟨⟨j + 1, mm, by omega, by simp, rfl, below_seq HB.out.2 (below_new _ _), by omega, by omega, ?_⟩, by simp [intOf]; omega⟩
        have e : mm + aheadF (upI wl y) xp (l.drop (j + 1)) = aheadF (upI wl y) xp l := by
          rw [← HM.out, HD.out, if_neg hp]; omega
        exact e
    · have hje : j = l.length := by omega
      subst hje
      go_wp2_with fail
      go_ret
      refine ⟨?_, below_seq HX.out.2 hb⟩
      have := HM.out
      rw [List.drop_length] at this
      have e : mm = aheadF (upI wl y) xp l := by rw [← this]; simp only [aheadF]; omega
      rw [e]
      rfl

end Go.Proofs.YtccoobcggbbciahDoor
namespace Go.Proofs.YtccoobcggbbciahDoor
open Go.ChangeShapes Go.WideShapes Go.ChangeAt Go.RowKit

theorem aheadF_range {f : Cr → Int} {p : Int} : ∀ (l : List Cr), (∀ m ∈ l, 0 ≤ f m ∧ f m ≤ 200000000) → 0 ≤ aheadF f p l ∧ aheadF f p l ≤ (l.length : Int) * 200000000
  | [], _ => by simp [aheadF]
  | m :: r, h => by
    have h1 := h m List.mem_cons_self
    have h2 := aheadF_range (f := f) (p := p) r (fun x hx => h x (List.mem_cons_of_mem _ hx))
    simp only [aheadF, List.length_cons]
    split <;> omega

theorem aheadF_mono {f g : Cr → Int} {p : Int} : ∀ (l : List Cr), (∀ m ∈ l, f m ≤ g m) → aheadF f p l ≤ aheadF g p l
  | [], _ => by simp [aheadF]
  | m :: r, h => by
    have h1 := h m List.mem_cons_self
    have h2 := aheadF_mono (f := f) (g := g) (p := p) r (fun x hx => h x (List.mem_cons_of_mem _ hx))
    simp only [aheadF]
    split <;> omega

theorem part_mono {x y t c : Int} (h : x ≤ y) (ht : 1 ≤ t) (hc : 0 ≤ c) : (x + t - 1) / t * c ≤ (y + t - 1) / t * c := Int.mul_le_mul_of_nonneg_right (Int.ediv_le_ediv (by omega) (by omega)) hc
theorem upC_mono {m : Cr} (hm : okCr m) {x y : Int} (h : x ≤ y) : upC x m ≤ upC y m := by
  obtain ⟨g1, g2, g3, g4, g5, g6, g7⟩ := hm
  exact part_mono h (by omega) (by omega)
theorem upI_mono {m : Cr} (hm : okCr m) {wl x y : Int} (h : x ≤ y) : upI wl x m ≤ upI wl y m := by
  obtain ⟨g1, g2, g3, g4, g5, g6, g7⟩ := hm
  unfold upI
  split
  · exact part_mono h (by omega) (by omega)
  · exact Int.le_refl _

theorem settleM_ends {w : World} {a : Act} {x y : Value} (h1 : a.tmps[4]?.getD undef = x) (h2 : a.tmps[5]?.getD undef = y) : (results Tryd.f26 a.tmps).run Tryd.prog w = .ok (.tuple #[x, y]) w := by
  simp [results, Tryd.results26, go_sem, h1, h2]

set_option maxRecDepth 20000 in
set_option maxHeartbeats 4000000 in
theorem askw_any (w : World) (l : List Cr) (v : Value) (xc xh xt xd : Int) (xi : Bool) (xp : Int) (gt gs : Nat) (z : Int) (hl8 : l.length ≤ 8) (hok : ∀ x ∈ l, okCr x) (hx : 1 ≤ xc ∧ xc ≤ 10000 ∧ 1 ≤ xh ∧ xh ≤ 10000) (hz : 0 ≤ z ∧ z ≤ 10000) (hv : RowSl Cr.vals w l v) (c0 : w.cell? ⟨gt, 0, none⟩ = some (.int .i64 xc)) (c1 : w.cell? ⟨gt, 1, none⟩ = some (.int .i64 xh)) (c2 : w.cell? ⟨gt, 2, none⟩ = some (.int .i64 xt)) (c3 : w.cell? ⟨gt, 3, none⟩ = some (.int .i64 xd)) (c4 : w.cell? ⟨gt, 4, none⟩ = some (.bool xi)) (c5 : w.cell? ⟨gt, 5, none⟩ = some (.int .i64 xp)) (c6 : w.cell? ⟨gs, 0, none⟩ = some v) :
    Calls Tryd.prog 27 #[.int .i64 z, .pointer (some ⟨gt, 0, none⟩), .pointer (some ⟨gs, 0, none⟩)] w fun r w' => r = .returned (.int .i64 (xc + aheadF (upC z) xp l)) ∧ Below w.heap.size w w' := by
  have HA : Hid (∀ W, Below (w.alloc (.cells #[.int .i64 z] 3)).heap.size (w.alloc (.cells #[.int .i64 z] 3)) W → Calls Tryd.prog 28 #[v, .agg #[.int .i64 xc, .int .i64 xh, .int .i64 xt, .int .i64 xd, .bool xi, .int .i64 xp], .func (Fn.func 29) #[] #[.pointer (some ⟨w.heap.size, 0, none⟩)]] W fun r w' => r = .returned (.int .i64 (aheadF (upC z) xp l)) ∧ Below W.heap.size W w') := fun W hb => ahead_w_any W l _ ⟨xc, xh, xt, xd, xi, xp⟩ w.heap.size z hl8 hok hz  (hv.below (below_seq (below_new _ _) hb)) (below_cell hb (by go_simp))
  have hr := aheadF_range (f := upC z) (p := xp) l (fun y hy => upw_range (hok y hy) hz )
  obtain ⟨ad, c, rfl⟩ := hv.len
  generalize aheadF (upC z) xp l = sm at *
  have r1 : IntKind.i64.wrap (xc + sm) = xc + sm := by rw [IntKind.wrap_i64]; omega
  have l0 : gt < w.heap.size := World.block_lt_of_cell? _ _ c0
  have l1 : gs < w.heap.size := World.block_lt_of_cell? _ _ c6
  clear hv hok hr
  go_enter Tryd.func27, Tryd.ntmps27
  go_wp2_with fail
  refine wp_region_noPanic ?_
  refine wp_region_held_drew (S := fun w' => w'.cell? ⟨gt, 0, none⟩ = some (.int .i64 xc) ∧ w'.cell? ⟨gt, 1, none⟩ = some (.int .i64 xh) ∧ w'.cell? ⟨gt, 2, none⟩ = some (.int .i64 xt) ∧ w'.cell? ⟨gt, 3, none⟩ = some (.int .i64 xd) ∧ w'.cell? ⟨gt, 4, none⟩ = some (.bool xi) ∧ w'.cell? ⟨gt, 5, none⟩ = some (.int .i64 xp) ∧ w'.cell? ⟨gs, 0, none⟩ = some (.slice ad l.length c)) (by kernel_rfl) ⟨(by go_simp), (by go_simp), (by go_simp), (by go_simp), (by go_simp), (by go_simp), (by go_simp)⟩ (fun hHeld => ?_)
  refine take_at (i := 0) (n := 5) (v := ?_) rfl rfl (by kernel_rfl) (by kernel_rfl) (by kernel_rfl) (fun _ _ _ h => h) (Or.inl ⟨by rfl, ?_⟩) (by assumption) ?_
  rotate_left 1
  · intro wz hSw
    obtain ⟨s0, s1, s2, s3, s4, s5, s6⟩ := hSw
    first | (go_simp; done) | (go_simp; with_reducible rfl)
  simp only [List.set_cons_zero, List.set_cons_succ]
  refine take_at (i := 1) (n := 6) (v := ?_) rfl rfl (by kernel_rfl) (by kernel_rfl) (by kernel_rfl) (fun _ _ _ h => h) (Or.inl ⟨by rfl, ?_⟩) (by assumption) ?_
  rotate_left 1
  · intro wz hSw
    obtain ⟨s0, s1, s2, s3, s4, s5, s6⟩ := hSw
    first | (go_simp; done) | (go_simp; with_reducible rfl)
  simp only [List.set_cons_zero, List.set_cons_succ]
  refine take_at (i := 2) (n := 7) (v := ?_) rfl rfl (by kernel_rfl) (by kernel_rfl) (by kernel_rfl) (fun _ _ _ h => h) (Or.inl ⟨by rfl, ?_⟩) (by assumption) ?_
  rotate_left 1
  · intro wz hSw
    obtain ⟨s0, s1, s2, s3, s4, s5, s6⟩ := hSw
    first | (go_simp; done) | (go_simp; with_reducible rfl)
  simp only [List.set_cons_zero, List.set_cons_succ]
  refine take_at (i := 3) (n := 8) (v := ?_) rfl rfl (by kernel_rfl) (by kernel_rfl) (by kernel_rfl) (fun _ _ _ h => h) (Or.inl ⟨by rfl, ?_⟩) (by assumption) ?_
  rotate_left 1
  · intro wz hSw
    obtain ⟨s0, s1, s2, s3, s4, s5, s6⟩ := hSw
    first | (go_simp; done) | (go_simp; with_reducible rfl)
  simp only [List.set_cons_zero, List.set_cons_succ]
  refine take_at (i := 4) (n := 9) (v := ?_) rfl rfl (by kernel_rfl) (by kernel_rfl) (by kernel_rfl) (fun _ _ _ h => h) (Or.inl ⟨by rfl, ?_⟩) (by assumption) ?_
  rotate_left 1
  · intro wz hSw
    obtain ⟨s0, s1, s2, s3, s4, s5, s6⟩ := hSw
    first | (go_simp; done) | (go_simp; with_reducible rfl)
  simp only [List.set_cons_zero, List.set_cons_succ]
  refine wpAnyH_ready (rs := [5]) (by kernel_rfl) (by simp) ?_
  refine AllReadyH.cons rfl (fun K hK => ?_) AllReadyH.nil
  go_simp
  go_wp2_with (go_at_call 28; refine (HA.out _ (Below.refl _ _).drew).mono ?_; rintro r w9 ⟨rfl, hb9⟩; have H9 : Hid (Below (w.alloc (.cells #[.int .i64 z] 3)).heap.size (w.alloc (.cells #[.int .i64 z] 3)) w9) := below_seq (Below.refl _ _).drew hb9; have d0 := below_cell (below_seq (below_new _ _) H9.out) c0; have d1 := below_cell (below_seq (below_new _ _) H9.out) c1; have d2 := below_cell (below_seq (below_new _ _) H9.out) c2; have d3 := below_cell (below_seq (below_new _ _) H9.out) c3; have d4 := below_cell (below_seq (below_new _ _) H9.out) c4; have d5 := below_cell (below_seq (below_new _ _) H9.out) c5; have d6 := below_cell (below_seq (below_new _ _) H9.out) c6; clear hb9)
  refine hK.out _ _ ⟨d0, d1, d2, d3, d4, d5, d6⟩ (fun hHeld => ?_)
  clear hK K
  try simp only [List.set_cons_zero, List.set_cons_succ]
  refine take_at (i := 6) (n := 11) (v := ?_) rfl rfl (by kernel_rfl) (by kernel_rfl) (by kernel_rfl) (fun _ _ _ h => h) (Or.inl ⟨by rfl, ?_⟩) (by assumption) ?_
  rotate_left 1
  · intro wz hSw
    obtain ⟨s0, s1, s2, s3, s4, s5, s6⟩ := hSw
    first | (go_simp; done) | (go_simp; with_reducible rfl)
  simp only [List.set_cons_zero, List.set_cons_succ]
  refine take_at (i := 7) (n := 4) (v := ?_) rfl rfl (by kernel_rfl) (by kernel_rfl) (by kernel_rfl) (fun _ _ _ h => h) (Or.inl ⟨by rfl, ?_⟩) (by assumption) ?_
  rotate_left 1
  · intro wz hSw
    obtain ⟨s0, s1, s2, s3, s4, s5, s6⟩ := hSw
    first | (go_simp; done) | (go_simp; with_reducible rfl)
  simp only [List.set_cons_zero, List.set_cons_succ]
  refine wpAnyH_done (by kernel_rfl) ?_ _
  refine NoPanic.normal ?_
  clear hHeld
  go_wp2_with fail
  go_ret
  exact ⟨rfl, below_seq (below_new _ _) H9.out⟩

set_option maxRecDepth 20000 in
set_option maxHeartbeats 4000000 in
theorem aski_any (w : World) (l : List Cr) (v : Value) (xc xh xt xd : Int) (xi : Bool) (xp : Int) (gt gs gl : Nat) (wl z : Int) (hl8 : l.length ≤ 8) (hok : ∀ x ∈ l, okCr x) (hx : 1 ≤ xc ∧ xc ≤ 10000 ∧ 1 ≤ xh ∧ xh ≤ 10000) (hz : 0 ≤ z ∧ z ≤ 10000) (hwl : 0 ≤ wl ∧ wl ≤ 10000) (hv : RowSl Cr.vals w l v) (c0 : w.cell? ⟨gt, 0, none⟩ = some (.int .i64 xc)) (c1 : w.cell? ⟨gt, 1, none⟩ = some (.int .i64 xh)) (c2 : w.cell? ⟨gt, 2, none⟩ = some (.int .i64 xt)) (c3 : w.cell? ⟨gt, 3, none⟩ = some (.int .i64 xd)) (c4 : w.cell? ⟨gt, 4, none⟩ = some (.bool xi)) (c5 : w.cell? ⟨gt, 5, none⟩ = some (.int .i64 xp)) (c6 : w.cell? ⟨gs, 0, none⟩ = some v) (c7 : w.cell? ⟨gl, 0, none⟩ = some (.int .i64 wl)) :
    Calls Tryd.prog 31 #[.int .i64 z, .pointer (some ⟨gt, 0, none⟩), .pointer (some ⟨gs, 0, none⟩), .pointer (some ⟨gl, 0, none⟩)] w fun r w' => r = .returned (.int .i64 (xh + aheadF (upI wl z) xp l)) ∧ Below w.heap.size w w' := by
  have HA : Hid (∀ W, Below (w.alloc (.cells #[.int .i64 z] 3)).heap.size (w.alloc (.cells #[.int .i64 z] 3)) W → Calls Tryd.prog 28 #[v, .agg #[.int .i64 xc, .int .i64 xh, .int .i64 xt, .int .i64 xd, .bool xi, .int .i64 xp], .func (Fn.func 32) #[] #[.pointer (some ⟨w.heap.size, 0, none⟩), .pointer (some ⟨gl, 0, none⟩)]] W fun r w' => r = .returned (.int .i64 (aheadF (upI wl z) xp l)) ∧ Below W.heap.size W w') := fun W hb => ahead_i_any W l _ ⟨xc, xh, xt, xd, xi, xp⟩ w.heap.size gl z wl hl8 hok hz hwl (hv.below (below_seq (below_new _ _) hb)) ⟨below_cell hb (by go_simp), below_cell (below_seq (below_new _ _) hb) c7⟩
  have hr := aheadF_range (f := upI wl z) (p := xp) l (fun y hy => upi_range (hok y hy) hz hwl)
  obtain ⟨ad, c, rfl⟩ := hv.len
  generalize aheadF (upI wl z) xp l = sm at *
  have r1 : IntKind.i64.wrap (xh + sm) = xh + sm := by rw [IntKind.wrap_i64]; omega
  have l0 : gt < w.heap.size := World.block_lt_of_cell? _ _ c0
  have l1 : gs < w.heap.size := World.block_lt_of_cell? _ _ c6
  have l2 : gl < w.heap.size := World.block_lt_of_cell? _ _ c7
  clear hv hok hr
  go_enter Tryd.func31, Tryd.ntmps31
  go_wp2_with fail
  refine wp_region_noPanic ?_
  refine wp_region_held_drew (S := fun w' => w'.cell? ⟨gt, 0, none⟩ = some (.int .i64 xc) ∧ w'.cell? ⟨gt, 1, none⟩ = some (.int .i64 xh) ∧ w'.cell? ⟨gt, 2, none⟩ = some (.int .i64 xt) ∧ w'.cell? ⟨gt, 3, none⟩ = some (.int .i64 xd) ∧ w'.cell? ⟨gt, 4, none⟩ = some (.bool xi) ∧ w'.cell? ⟨gt, 5, none⟩ = some (.int .i64 xp) ∧ w'.cell? ⟨gs, 0, none⟩ = some (.slice ad l.length c) ∧ w'.cell? ⟨gl, 0, none⟩ = some (.int .i64 wl)) (by kernel_rfl) ⟨(by go_simp), (by go_simp), (by go_simp), (by go_simp), (by go_simp), (by go_simp), (by go_simp), (by go_simp)⟩ (fun hHeld => ?_)
  refine take_at (i := 0) (n := 6) (v := ?_) rfl rfl (by kernel_rfl) (by kernel_rfl) (by kernel_rfl) (fun _ _ _ h => h) (Or.inl ⟨by rfl, ?_⟩) (by assumption) ?_
  rotate_left 1
  · intro wz hSw
    obtain ⟨s0, s1, s2, s3, s4, s5, s6, s7⟩ := hSw
    first | (go_simp; done) | (go_simp; with_reducible rfl)
  simp only [List.set_cons_zero, List.set_cons_succ]
  refine take_at (i := 1) (n := 7) (v := ?_) rfl rfl (by kernel_rfl) (by kernel_rfl) (by kernel_rfl) (fun _ _ _ h => h) (Or.inl ⟨by rfl, ?_⟩) (by assumption) ?_
  rotate_left 1
  · intro wz hSw
    obtain ⟨s0, s1, s2, s3, s4, s5, s6, s7⟩ := hSw
    first | (go_simp; done) | (go_simp; with_reducible rfl)
  simp only [List.set_cons_zero, List.set_cons_succ]
  refine take_at (i := 2) (n := 8) (v := ?_) rfl rfl (by kernel_rfl) (by kernel_rfl) (by kernel_rfl) (fun _ _ _ h => h) (Or.inl ⟨by rfl, ?_⟩) (by assumption) ?_
  rotate_left 1
  · intro wz hSw
    obtain ⟨s0, s1, s2, s3, s4, s5, s6, s7⟩ := hSw
    first | (go_simp; done) | (go_simp; with_reducible rfl)
  simp only [List.set_cons_zero, List.set_cons_succ]
  refine take_at (i := 3) (n := 9) (v := ?_) rfl rfl (by kernel_rfl) (by kernel_rfl) (by kernel_rfl) (fun _ _ _ h => h) (Or.inl ⟨by rfl, ?_⟩) (by assumption) ?_
  rotate_left 1
  · intro wz hSw
    obtain ⟨s0, s1, s2, s3, s4, s5, s6, s7⟩ := hSw
    first | (go_simp; done) | (go_simp; with_reducible rfl)
  simp only [List.set_cons_zero, List.set_cons_succ]
  refine take_at (i := 4) (n := 10) (v := ?_) rfl rfl (by kernel_rfl) (by kernel_rfl) (by kernel_rfl) (fun _ _ _ h => h) (Or.inl ⟨by rfl, ?_⟩) (by assumption) ?_
  rotate_left 1
  · intro wz hSw
    obtain ⟨s0, s1, s2, s3, s4, s5, s6, s7⟩ := hSw
    first | (go_simp; done) | (go_simp; with_reducible rfl)
  simp only [List.set_cons_zero, List.set_cons_succ]
  refine wpAnyH_ready (rs := [5]) (by kernel_rfl) (by simp) ?_
  refine AllReadyH.cons rfl (fun K hK => ?_) AllReadyH.nil
  go_simp
  go_wp2_with (go_at_call 28; refine (HA.out _ (Below.refl _ _).drew).mono ?_; rintro r w9 ⟨rfl, hb9⟩; have H9 : Hid (Below (w.alloc (.cells #[.int .i64 z] 3)).heap.size (w.alloc (.cells #[.int .i64 z] 3)) w9) := below_seq (Below.refl _ _).drew hb9; have d0 := below_cell (below_seq (below_new _ _) H9.out) c0; have d1 := below_cell (below_seq (below_new _ _) H9.out) c1; have d2 := below_cell (below_seq (below_new _ _) H9.out) c2; have d3 := below_cell (below_seq (below_new _ _) H9.out) c3; have d4 := below_cell (below_seq (below_new _ _) H9.out) c4; have d5 := below_cell (below_seq (below_new _ _) H9.out) c5; have d6 := below_cell (below_seq (below_new _ _) H9.out) c6; have d7 := below_cell (below_seq (below_new _ _) H9.out) c7; clear hb9)
  refine hK.out _ _ ⟨d0, d1, d2, d3, d4, d5, d6, d7⟩ (fun hHeld => ?_)
  clear hK K
  try simp only [List.set_cons_zero, List.set_cons_succ]
  refine take_at (i := 6) (n := 12) (v := ?_) rfl rfl (by kernel_rfl) (by kernel_rfl) (by kernel_rfl) (fun _ _ _ h => h) (Or.inl ⟨by rfl, ?_⟩) (by assumption) ?_
  rotate_left 1
  · intro wz hSw
    obtain ⟨s0, s1, s2, s3, s4, s5, s6, s7⟩ := hSw
    first | (go_simp; done) | (go_simp; with_reducible rfl)
  simp only [List.set_cons_zero, List.set_cons_succ]
  refine take_at (i := 7) (n := 5) (v := ?_) rfl rfl (by kernel_rfl) (by kernel_rfl) (by kernel_rfl) (fun _ _ _ h => h) (Or.inl ⟨by rfl, ?_⟩) (by assumption) ?_
  rotate_left 1
  · intro wz hSw
    obtain ⟨s0, s1, s2, s3, s4, s5, s6, s7⟩ := hSw
    first | (go_simp; done) | (go_simp; with_reducible rfl)
  simp only [List.set_cons_zero, List.set_cons_succ]
  refine wpAnyH_done (by kernel_rfl) ?_ _
  refine NoPanic.normal ?_
  clear hHeld
  go_wp2_with fail
  go_ret
  exact ⟨rfl, below_seq (below_new _ _) H9.out⟩

set_option maxRecDepth 20000 in
set_option maxHeartbeats 4000000 in
theorem settle_w_any (w : World) (most : Int) (p0 p1 : Value) (ask : Int → Int)
    (HA : ∀ W, Below w.heap.size w W → ∀ z, 1 ≤ z → z ≤ most → Calls Tryd.prog 27 #[.int .i64 z, p0, p1] W fun r w' => r = .returned (.int .i64 (ask z)) ∧ Below W.heap.size W w')
    (hup : 1 ≤ ask 1) (mono : ∀ x y, 1 ≤ x → x ≤ y → y ≤ most → ask x ≤ ask y) :
    Calls Tryd.prog 26 #[.int .i64 most, .func (Fn.func 27) #[] #[p0, p1]] w fun r w' => r = .returned (.tuple #[.int .i64 (wOf ask 0 most), .bool (decide (wOf ask 0 most ≠ 0))]) ∧ Below w.heap.size w w' := by
  have HS : Hid (∀ W, Below w.heap.size w W → ∀ z, 1 ≤ z → z ≤ most → Calls Tryd.prog 27 #[.int .i64 z, p0, p1] W fun r w' => r = .returned (.int .i64 (ask z)) ∧ Below W.heap.size W w') := HA
  have HM : Hid ((∀ x y, 1 ≤ x → x ≤ y → y ≤ most → ask x ≤ ask y) ∧ 1 ≤ ask 1) := ⟨mono, hup⟩
  obtain ⟨tot, htot⟩ : ∃ tot, wOf ask 0 most = tot := ⟨_, rfl⟩
  have HT : Hid (wOf ask 0 most = tot) := htot
  rw [htot]
  clear HA mono hup htot
  go_enter Tryd.func26, Tryd.ntmps26
  go_wp2_with fail
  go_loopw [6] (fun xv wr => ∃ x : Int, xv = .int .i64 x ∧ Below w.heap.size w wr ∧ 1 ≤ x ∧ Hid ((x ≤ most → x ≤ ask x) ∧ ∀ v, 1 ≤ v → v < x → v ≤ most → ask v ≠ v)) (fun xv _ => (most + 1 - intOf xv).toNat)
  case atStart => exact ⟨1, rfl, Below.refl _ _, by omega, fun _ => HM.out.2, fun v h1 h2 => by omega⟩
  case round =>
    obtain ⟨x, rfl, hb, hx1, HX⟩ := hrel
    have HB : Hid (Below w.heap.size w wr) := hb
    by_cases hle : x ≤ most
    · have HC := HS.out wr hb x hx1 hle
      obtain ⟨y, hy⟩ : ∃ y, ask x = y := ⟨_, rfl⟩
      have HY : Hid (ask x = y) := hy
      rw [hy] at HC
      clear hy hb
      by_cases hxy : y = x
      · subst hxy
        go_wp2_with (go_at_call 27; refine HC.mono ?_; rintro r w5 ⟨rfl, hb5⟩)
        refine bodyPost_ret (settleM_ends rfl rfl) rfl ?_
        have e : wOf ask 0 most = y + 0 := wOf_hit (Int.le_refl _) hx1 (by omega) HY.out fun v hv1 hv2 => HX.out.2 v hv1 hv2 (by omega)
        rw [HT.out] at e
        refine ⟨?_, below_seq HB.out hb5⟩
        rw [decide_eq_true (show tot ≠ 0 by omega), show tot = y by omega]
        rfl
      · have hb1 : (y == x) = false := beq_eq_false_iff_ne.2 hxy
        go_wp2_with (go_at_call 27; refine HC.mono ?_; rintro r w5 ⟨rfl, hb5⟩)
        have g1 := HX.out.1 hle
        have g2 := HY.out
        refine ⟨⟨y, rfl, below_seq HB.out hb5, by omega, fun hy => ?_, fun v hv1 hv2 hv3 he => ?_⟩, ?_⟩
        · have := HM.out.1 x y hx1 (by omega) hy
          omega
        · by_cases hvx : v < x
          · exact HX.out.2 v hv1 hvx hv3 he
          · have := HM.out.1 x v hx1 (by omega) hv3
            omega
        · simp [intOf]
          omega
    · go_wp2_with fail
      refine bodyPost_ret (settleM_ends rfl rfl) rfl ?_
      have e : wOf ask 0 most = 0 := wOf_none fun v hv1 hv2 => HX.out.2 v hv1 (by omega) (by omega)
      rw [HT.out] at e
      subst e
      exact ⟨rfl, HB.out⟩

set_option maxRecDepth 20000 in
set_option maxHeartbeats 4000000 in
theorem settle_i_any (w : World) (most : Int) (p0 p1 p2 : Value) (ask : Int → Int)
    (HA : ∀ W, Below w.heap.size w W → ∀ z, 1 ≤ z → z ≤ most → Calls Tryd.prog 31 #[.int .i64 z, p0, p1, p2] W fun r w' => r = .returned (.int .i64 (ask z)) ∧ Below W.heap.size W w')
    (hup : 1 ≤ ask 1) (mono : ∀ x y, 1 ≤ x → x ≤ y → y ≤ most → ask x ≤ ask y) :
    Calls Tryd.prog 26 #[.int .i64 most, .func (Fn.func 31) #[] #[p0, p1, p2]] w fun r w' => r = .returned (.tuple #[.int .i64 (wOf ask 0 most), .bool (decide (wOf ask 0 most ≠ 0))]) ∧ Below w.heap.size w w' := by
  have HS : Hid (∀ W, Below w.heap.size w W → ∀ z, 1 ≤ z → z ≤ most → Calls Tryd.prog 31 #[.int .i64 z, p0, p1, p2] W fun r w' => r = .returned (.int .i64 (ask z)) ∧ Below W.heap.size W w') := HA
  have HM : Hid ((∀ x y, 1 ≤ x → x ≤ y → y ≤ most → ask x ≤ ask y) ∧ 1 ≤ ask 1) := ⟨mono, hup⟩
  obtain ⟨tot, htot⟩ : ∃ tot, wOf ask 0 most = tot := ⟨_, rfl⟩
  have HT : Hid (wOf ask 0 most = tot) := htot
  rw [htot]
  clear HA mono hup htot
  go_enter Tryd.func26, Tryd.ntmps26
  go_wp2_with fail
  go_loopw [6] (fun xv wr => ∃ x : Int, xv = .int .i64 x ∧ Below w.heap.size w wr ∧ 1 ≤ x ∧ Hid ((x ≤ most → x ≤ ask x) ∧ ∀ v, 1 ≤ v → v < x → v ≤ most → ask v ≠ v)) (fun xv _ => (most + 1 - intOf xv).toNat)
  case atStart => exact ⟨1, rfl, Below.refl _ _, by omega, fun _ => HM.out.2, fun v h1 h2 => by omega⟩
  case round =>
    obtain ⟨x, rfl, hb, hx1, HX⟩ := hrel
    have HB : Hid (Below w.heap.size w wr) := hb
    by_cases hle : x ≤ most
    · have HC := HS.out wr hb x hx1 hle
      obtain ⟨y, hy⟩ : ∃ y, ask x = y := ⟨_, rfl⟩
      have HY : Hid (ask x = y) := hy
      rw [hy] at HC
      clear hy hb
      by_cases hxy : y = x
      · subst hxy
        go_wp2_with (go_at_call 31; refine HC.mono ?_; rintro r w5 ⟨rfl, hb5⟩)
        refine bodyPost_ret (settleM_ends rfl rfl) rfl ?_
        have e : wOf ask 0 most = y + 0 := wOf_hit (Int.le_refl _) hx1 (by omega) HY.out fun v hv1 hv2 => HX.out.2 v hv1 hv2 (by omega)
        rw [HT.out] at e
        refine ⟨?_, below_seq HB.out hb5⟩
        rw [decide_eq_true (show tot ≠ 0 by omega), show tot = y by omega]
        rfl
      · have hb1 : (y == x) = false := beq_eq_false_iff_ne.2 hxy
        go_wp2_with (go_at_call 31; refine HC.mono ?_; rintro r w5 ⟨rfl, hb5⟩)
        have g1 := HX.out.1 hle
        have g2 := HY.out
        refine ⟨⟨y, rfl, below_seq HB.out hb5, by omega, fun hy => ?_, fun v hv1 hv2 hv3 he => ?_⟩, ?_⟩
        · have := HM.out.1 x y hx1 (by omega) hy
          omega
        · by_cases hvx : v < x
          · exact HX.out.2 v hv1 hvx hv3 he
          · have := HM.out.1 x v hx1 (by omega) hv3
            omega
        · simp [intOf]
          omega
    · go_wp2_with fail
      refine bodyPost_ret (settleM_ends rfl rfl) rfl ?_
      have e : wOf ask 0 most = 0 := wOf_none fun v hv1 hv2 => HX.out.2 v hv1 (by omega) (by omega)
      rw [HT.out] at e
      subst e
      exact ⟨rfl, HB.out⟩

end Go.Proofs.YtccoobcggbbciahDoor
namespace Go.Proofs.YtccoobcggbbciahDoor
open Go.ChangeShapes Go.WideShapes Go.ChangeAt Go.RowKit

/-- How long one takes at worst where all is well; 0: more than it has. -/
def wellF (l : List Cr) (x : Cr) : Int := wOf (fun z => x.c + aheadF (upC z) x.p l) 0 x.d
/-- How long a high one takes at worst where the mode turns; 0: more than it has. -/
def illF (l : List Cr) (x : Cr) : Int := wOf (fun z => x.h + aheadF (upI (wellF l x) z) x.p l) 0 x.d
/-- worst's three answers. -/
def worstM (l : List Cr) (x : Cr) : Int × Int × Bool := if wellF l x = 0 then (0, 0, false) else if x.hi = false then (wellF l x, 0, true) else (wellF l x, illF l x, decide (illF l x ≠ 0))

/-- What worst holds: the set, the task, and the number that it has found. -/
structure WS (w W : World) (v : Value) (xc xh xt xd : Int) (xi : Bool) (xp : Int) (n : Int) : Prop where
  bel : Below w.heap.size w W
  b1 : W.heap[w.heap.size]? = some (.cells #[v] 22 (0, 0))
  b2 : W.heap[w.heap.size + 1]? = some (.cells #[.int .i64 xc, .int .i64 xh, .int .i64 xt, .int .i64 xd, .bool xi, .int .i64 xp] 27 (0, 0))
  b3 : W.heap[w.heap.size + 1 + 1]? = some (.cells #[.int .i64 n] 3 (0, 0))

theorem WS.grow {w W W' : World} {v : Value} {xc xh xt xd : Int} {xi : Bool} {xp n : Int} (h : WS w W v xc xh xt xd xi xp n) (hb : Below W.heap.size W W') : WS w W' v xc xh xt xd xi xp n :=
  ⟨below_seq h.bel hb, (hb.block _ (Array.getElem?_eq_some_iff.1 h.b1).1).trans h.b1, (hb.block _ (Array.getElem?_eq_some_iff.1 h.b2).1).trans h.b2, (hb.block _ (Array.getElem?_eq_some_iff.1 h.b3).1).trans h.b3⟩

theorem WS.start (w : World) (v : Value) (xc xh xt xd : Int) (xi : Bool) (xp : Int) : WS w (((w.alloc (.cells #[v] 22)).alloc (.cells #[.int .i64 xc, .int .i64 xh, .int .i64 xt, .int .i64 xd, .bool xi, .int .i64 xp] 27)).alloc (.cells #[.int .i64 0] 3)) v xc xh xt xd xi xp 0 := by
  refine ⟨below_seq (below_seq (below_new _ _) (below_new _ _)) (below_new _ _), ?_, ?_, ?_⟩
  · exact (Below.heap_alloc _ _ _ (by simp; omega)).trans ((Below.heap_alloc _ _ _ (by simp)).trans (heap_alloc_new _ _))
  · refine (Below.heap_alloc _ _ _ (by simp)).trans ?_
    have := heap_alloc_new (w.alloc (.cells #[v] 22)) (.cells #[.int .i64 xc, .int .i64 xh, .int .i64 xt, .int .i64 xd, .bool xi, .int .i64 xp] 27)
    simpa using this
  · have := heap_alloc_new ((w.alloc (.cells #[v] 22)).alloc (.cells #[.int .i64 xc, .int .i64 xh, .int .i64 xt, .int .i64 xd, .bool xi, .int .i64 xp] 27)) (.cells #[.int .i64 0] 3)
    simpa using this

theorem WS.set {w W : World} {v : Value} {xc xh xt xd : Int} {xi : Bool} {xp n : Int} (h : WS w W v xc xh xt xd xi xp n) (m : Int) : WS w (W.setCell ⟨w.heap.size + 1 + 1, 0, none⟩ (.int .i64 m)) v xc xh xt xd xi xp m :=
  ⟨h.bel.setCell (p := ⟨_, _, _⟩) (by show _ ≤ _ + 1 + 1; omega) _, (Below.heap_setCell _ _ _ _ (by show _ ≠ _ + 1 + 1; omega)).trans h.b1, (Below.heap_setCell _ _ _ _ (by show _ + 1 ≠ _ + 1 + 1; omega)).trans h.b2, by rw [setCell_at h.b3]; rfl⟩

theorem WS.cells {w W : World} {v : Value} {xc xh xt xd : Int} {xi : Bool} {xp n : Int} (h : WS w W v xc xh xt xd xi xp n) :
    (W.cell? ⟨w.heap.size + 1, 0, none⟩ = some (.int .i64 xc) ∧ W.cell? ⟨w.heap.size + 1, 1, none⟩ = some (.int .i64 xh) ∧ W.cell? ⟨w.heap.size + 1, 2, none⟩ = some (.int .i64 xt) ∧ W.cell? ⟨w.heap.size + 1, 3, none⟩ = some (.int .i64 xd) ∧ W.cell? ⟨w.heap.size + 1, 4, none⟩ = some (.bool xi) ∧ W.cell? ⟨w.heap.size + 1, 5, none⟩ = some (.int .i64 xp)) ∧ W.cell? ⟨w.heap.size, 0, none⟩ = some v ∧ W.cell? ⟨w.heap.size + 1 + 1, 0, none⟩ = some (.int .i64 n) ∧ W.frozen? ⟨w.heap.size + 1 + 1, 0, none⟩ = false ∧ w.heap.size + 1 + 1 < W.heap.size := by
  obtain ⟨k1, -, -⟩ := cells_of (l := [_]) h.b1
  obtain ⟨k2, -, -⟩ := cells_of (l := [_, _, _, _, _, _]) h.b2
  obtain ⟨k3, f3, l3⟩ := cells_of (l := [_]) h.b3
  exact ⟨⟨k2 0 _ rfl, k2 1 _ rfl, k2 2 _ rfl, k2 3 _ rfl, k2 4 _ rfl, k2 5 _ rfl⟩, k1 0 _ rfl, k3 0 _ rfl, f3 0, l3⟩

theorem worstM_ends {w : World} {g : Nat} {x y z : Value} {a : Act} (h : w.cell? ⟨g, 0, none⟩ = some x) (h0 : a.tmps[4]?.getD undef = .pointer (some ⟨g, 0, none⟩)) (h1 : a.tmps[5]?.getD undef = y) (h2 : a.tmps[6]?.getD undef = z) : (results Tryd.f16 a.tmps).run Tryd.prog w = .ok (.tuple #[x, y, z]) w := by
  simp [results, Tryd.results16, go_sem, h, h0, h1, h2]

theorem settleW (w W : World) (l : List Cr) (v : Value) (xc xh xt xd : Int) (xi : Bool) (xp : Int) (n : Int) (hl8 : l.length ≤ 8) (hok : ∀ x ∈ l, okCr x) (hx : okCr ⟨xc, xh, xt, xd, xi, xp⟩) (hv : RowSl Cr.vals w l v) (h : WS w W v xc xh xt xd xi xp n) :
    Calls Tryd.prog 26 #[.int .i64 xd, .func (Fn.func 27) #[] #[.pointer (some ⟨w.heap.size + 1, 0, none⟩), .pointer (some ⟨w.heap.size, 0, none⟩)]] W fun r w' => r = .returned (.tuple #[.int .i64 (wOf (fun z => xc + aheadF (upC z) xp l) 0 xd), .bool (decide (wOf (fun z => xc + aheadF (upC z) xp l) 0 xd ≠ 0))]) ∧ Below W.heap.size W w' := by
  obtain ⟨g1, g2, g3, g4, g5, g6, g7⟩ := hx
  dsimp only at g1 g2 g3 g4 g5 g6 g7
  refine settle_w_any W xd _ _ (fun z => xc + aheadF (upC z) xp l) (fun W' hb z h1 h2 => ?_) ?_ (fun x y _ hxy _ => ?_)
  · have hs := h.grow hb
    obtain ⟨⟨c0, c1, c2, c3, c4, c5⟩, c6, -⟩ := hs.cells
    exact askw_any W' l v xc xh xt xd xi xp _ _ z hl8 hok (by omega) (by omega) (hv.below hs.bel) c0 c1 c2 c3 c4 c5 c6
  · have := aheadF_range (f := upC 1) (p := xp) l (fun y hy => upw_range (hok y hy) (by omega))
    omega
  · have := aheadF_mono (f := upC x) (g := upC y) (p := xp) l (fun m hm => upC_mono (hok m hm) hxy)
    omega

theorem settleI (w W : World) (l : List Cr) (v : Value) (xc xh xt xd : Int) (xi : Bool) (xp : Int) (wl : Int) (hwl : 0 ≤ wl ∧ wl ≤ 10000) (hl8 : l.length ≤ 8) (hok : ∀ x ∈ l, okCr x) (hx : okCr ⟨xc, xh, xt, xd, xi, xp⟩) (hv : RowSl Cr.vals w l v) (h : WS w W v xc xh xt xd xi xp wl) :
    Calls Tryd.prog 26 #[.int .i64 xd, .func (Fn.func 31) #[] #[.pointer (some ⟨w.heap.size + 1, 0, none⟩), .pointer (some ⟨w.heap.size, 0, none⟩), .pointer (some ⟨w.heap.size + 1 + 1, 0, none⟩)]] W fun r w' => r = .returned (.tuple #[.int .i64 (wOf (fun z => xh + aheadF (upI wl z) xp l) 0 xd), .bool (decide (wOf (fun z => xh + aheadF (upI wl z) xp l) 0 xd ≠ 0))]) ∧ Below W.heap.size W w' := by
  obtain ⟨g1, g2, g3, g4, g5, g6, g7⟩ := hx
  dsimp only at g1 g2 g3 g4 g5 g6 g7
  refine settle_i_any W xd _ _ _ (fun z => xh + aheadF (upI wl z) xp l) (fun W' hb z h1 h2 => ?_) ?_ (fun x y _ hxy _ => ?_)
  · have hs := h.grow hb
    obtain ⟨⟨c0, c1, c2, c3, c4, c5⟩, c6, c7, -⟩ := hs.cells
    exact aski_any W' l v xc xh xt xd xi xp _ _ _ wl z hl8 hok (by omega) (by omega) hwl (hv.below hs.bel) c0 c1 c2 c3 c4 c5 c6 c7
  · have := aheadF_range (f := upI wl 1) (p := xp) l (fun y hy => upi_range (hok y hy) (by omega) hwl)
    omega
  · have := aheadF_mono (f := upI wl x) (g := upI wl y) (p := xp) l (fun m hm => upI_mono (hok m hm) hxy)
    omega

set_option maxRecDepth 20000 in
set_option maxHeartbeats 4000000 in
theorem worstM_any (w : World) (l : List Cr) (v : Value) (x : Cr) (hl8 : l.length ≤ 8) (hok : ∀ x ∈ l, okCr x) (hx : okCr x) (hv : RowSl Cr.vals w l v) :
    Calls Tryd.prog 16 #[v, x.val] w fun r w' => r = .returned (.tuple #[.int .i64 (worstM l x).1, .int .i64 (worstM l x).2.1, .bool (worstM l x).2.2]) ∧ Below w.heap.size w w' := by
  obtain ⟨xc, xh, xt, xd, xi, xp⟩ := x
  have hd : 0 ≤ xd ∧ xd ≤ 10000 := by
    obtain ⟨g1, g2, g3, g4, g5, g6, g7⟩ := hx
    dsimp only at g1 g2 g3 g4 g5 g6 g7
    omega
  have hwr : 0 ≤ wOf (fun z => xc + aheadF (upC z) xp l) 0 xd ∧ wOf (fun z => xc + aheadF (upC z) xp l) 0 xd ≤ xd := wOf_range (Int.le_refl _) hd.1
  have HC := fun W n (h : WS w W v xc xh xt xd xi xp n) => settleW w W l v xc xh xt xd xi xp n hl8 hok hx hv h
  have HI := fun W wl (hwl : 0 ≤ wl ∧ wl ≤ 10000) (h : WS w W v xc xh xt xd xi xp wl) => settleI w W l v xc xh xt xd xi xp wl hwl hl8 hok hx hv h
  have HF : Hid (worstM l ⟨xc, xh, xt, xd, xi, xp⟩ = if wOf (fun z => xc + aheadF (upC z) xp l) 0 xd = 0 then (0, 0, false) else if xi = false then (wOf (fun z => xc + aheadF (upC z) xp l) 0 xd, 0, true) else (wOf (fun z => xc + aheadF (upC z) xp l) 0 xd, wOf (fun z => xh + aheadF (upI (wOf (fun z => xc + aheadF (upC z) xp l) 0 xd) z) xp l) 0 xd, decide (wOf (fun z => xh + aheadF (upI (wOf (fun z => xc + aheadF (upC z) xp l) 0 xd) z) xp l) 0 xd ≠ 0))) := rfl
  obtain ⟨ad, c, rfl⟩ := hv.len
  have H0 : Hid (WS w (((w.alloc (.cells #[.slice ad l.length c] 22)).alloc (.cells #[.int .i64 xc, .int .i64 xh, .int .i64 xt, .int .i64 xd, .bool xi, .int .i64 xp] 27)).alloc (.cells #[.int .i64 0] 3)) (.slice ad l.length c) xc xh xt xd xi xp 0) := WS.start _ _ _ _ _ _ _ _
  unfold Cr.val
  dsimp only
  clear hv hok
  generalize wOf (fun z => xc + aheadF (upC z) xp l) 0 xd = wl at *
  obtain ⟨⟨c0, c1, c2, c3, c4, c5⟩, c6, c7, f7, l7⟩ := H0.out.cells
  have HCH : Hid (∀ W n, WS w W (.slice ad l.length c) xc xh xt xd xi xp n → Calls Tryd.prog 26 #[.int .i64 xd, .func (Fn.func 27) #[] #[.pointer (some ⟨w.heap.size + 1, 0, none⟩), .pointer (some ⟨w.heap.size, 0, none⟩)]] W fun r w' => r = .returned (.tuple #[.int .i64 wl, .bool (decide (wl ≠ 0))]) ∧ Below W.heap.size W w') := HC
  have HIH : Hid (∀ W wl, (0 ≤ wl ∧ wl ≤ 10000) → WS w W (.slice ad l.length c) xc xh xt xd xi xp wl → Calls Tryd.prog 26 #[.int .i64 xd, .func (Fn.func 31) #[] #[.pointer (some ⟨w.heap.size + 1, 0, none⟩), .pointer (some ⟨w.heap.size, 0, none⟩), .pointer (some ⟨w.heap.size + 1 + 1, 0, none⟩)]] W fun r w' => r = .returned (.tuple #[.int .i64 (wOf (fun z => xh + aheadF (upI wl z) xp l) 0 xd), .bool (decide (wOf (fun z => xh + aheadF (upI wl z) xp l) 0 xd ≠ 0))]) ∧ Below W.heap.size W w') := HI
  clear HC HI
  by_cases hz : wl = 0
  · subst hz
    rw [HF.out, if_pos rfl]
    have hd0 : decide ((0 : Int) ≠ 0) = false := by decide
    rw [hd0] at HCH
    go_enter Tryd.func16, Tryd.ntmps16
    go_wp2_with (go_at_call 26; refine (HCH.out _ _ H0.out).mono ?_; rintro r w5 ⟨rfl, hb5⟩; have H5 : Hid (WS w w5 (.slice ad l.length c) xc xh xt xd xi xp 0) := H0.out.grow hb5; obtain ⟨-, -, c7', f7', l7'⟩ := H5.out.cells; clear hb5)
    refine bodyPost_ret (worstM_ends (g := w.heap.size + 1 + 1) (((H5.out.set 0).set 0).cells.2.2.1) rfl rfl rfl) rfl ?_
    exact ⟨rfl, ((H5.out.set 0).set 0).bel⟩
  · have hd0 : decide (wl ≠ 0) = true := by simpa using hz
    rw [hd0] at HCH
    cases hxi : xi
    · subst hxi
      rw [HF.out, if_neg hz, if_pos rfl]
      go_enter Tryd.func16, Tryd.ntmps16
      go_wp2_with (go_at_call 26; refine (HCH.out _ _ H0.out).mono ?_; rintro r w5 ⟨rfl, hb5⟩; have H5 : Hid (WS w w5 (.slice ad l.length c) xc xh xt xd false xp 0) := H0.out.grow hb5; obtain ⟨⟨d0, d1, d2, d3, d4, d5⟩, d6, c7', f7', l7'⟩ := H5.out.cells; clear hb5)
      refine bodyPost_ret (worstM_ends (g := w.heap.size + 1 + 1) (((H5.out.set wl).set wl).cells.2.2.1) rfl rfl rfl) rfl ?_
      exact ⟨rfl, ((H5.out.set wl).set wl).bel⟩
    · subst hxi
      rw [HF.out, if_neg hz, if_neg (by decide)]
      go_enter Tryd.func16, Tryd.ntmps16
      go_wp2_with (first | (go_at_call 26; refine (HIH.out _ wl (by omega) H5.out).mono ?_; rintro r w6 ⟨rfl, hb6⟩; have H6 : Hid (WS w w6 (.slice ad l.length c) xc xh xt xd true xp wl) := H5.out.grow hb6; obtain ⟨⟨q0, q1, q2, q3, q4, q5⟩, q6, c7'', f7'', l7''⟩ := H6.out.cells; clear hb6) | (go_at_call 26; refine (HCH.out _ _ H0.out).mono ?_; rintro r w5 ⟨rfl, hb5⟩; have H5 : Hid (WS w (w5.setCell ⟨w.heap.size + 1 + 1, 0, none⟩ (.int .i64 wl)) (.slice ad l.length c) xc xh xt xd true xp wl) := (H0.out.grow hb5).set wl; obtain ⟨⟨d0, d1, d2, d3, d4, d5⟩, d6, c7', f7', l7'⟩ := (H0.out.grow hb5).cells; clear hb5))
      refine bodyPost_ret (worstM_ends (g := w.heap.size + 1 + 1) ((H6.out.set wl).cells.2.2.1) rfl rfl rfl) rfl ?_
      exact ⟨by simp, (H6.out.set wl).bel⟩
end Go.Proofs.YtccoobcggbbciahDoor
