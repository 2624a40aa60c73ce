import Derived.Test.YtccoobcggbbciaiGreatDoorTK
import Derived.Test.YtccoobcggbbciaiGreatDoorMB
namespace Go.Proofs.YtccoobcggbbciaiGreatDoor
open Go.ChangeShapes Go.WideShapes Go.ChangeAt Go.RowKit

theorem CheckM_ends {w : World} {g : Nat} {c k : Value} {a : Act} (h : w.heap[g]? = some (.cells #[c, k] 30 (0, 0))) (h3 : a.tmps[2]?.getD undef = .pointer (some ⟨g, 0, none⟩)) :
    (results Tryz.f61 a.tmps).run Tryz.prog w = .ok (.agg #[c, k]) w := by
  obtain ⟨c1, f1, l1⟩ := cells_of (l := [_, _]) h
  have c10 := c1 0 _ rfl
  have c11 := c1 1 _ rfl
  simp [results, Tryz.results61, go_sem, h3, c10, c11]

set_option maxRecDepth 20000 in
theorem CheckM_many (w : World) (n c : Nat) (ad : Option Addr) (h : n = 0 ∨ 8 < n) : Calls Tryz.prog 61 #[.slice ad n c] w fun r w' => r = .returned (.agg #[.int .i64 2, .int .i64 0]) ∧ Below w.heap.size w w' := by
  have hw : within (n : Int) 1 8 = false := by unfold within; simp; omega
  go_enter Tryz.func61, Tryz.ntmps61
  go_wp2_with (go_at_call 55; refine (withinM_any _ _ _ _).mono ?_; rintro r w1 ⟨rfl, rfl⟩; rw [hw])
  refine bodyPost_ret (CheckM_ends (heap_alloc_new _ _) rfl) rfl ?_
  exact ⟨rfl, below_new _ _⟩

set_option maxRecDepth 20000 in
set_option maxHeartbeats 4000000 in
theorem CheckM_few (w : World) (l : List Cr) (ad : Option Addr) (c : Nat) (h1 : l.length ≠ 0) (h8 : l.length ≤ 8) (hv : RowSl Cr.vals w l (.slice ad l.length c)) : Calls Tryz.prog 61 #[.slice ad l.length c] w fun r w' => r = .returned (.agg #[.int .i64 (chkCFrom l l 0).1, .int .i64 (chkCFrom l l 0).2]) ∧ Below w.heap.size w w' := by
  have hw : within (l.length : Int) 1 8 = true := by unfold within; simp; omega
  have HV : Hid (RowSl Cr.vals w l (.slice ad l.length c)) := hv
  obtain ⟨_, _, e, -, hcap, hrow⟩ := hv
  cases e
  rcases hrow with h | ⟨b, o, rfl, hrow⟩
  · rw [h] at h1; simp at h1
  have HR : Hid (∀ q u, (l.flatMap Cr.vals)[q]? = some u → w.cell? ⟨b, o + q, none⟩ = some u) := hrow
  clear hrow
  go_enter Tryz.func61, Tryz.ntmps61
  go_wp2_with (go_at_call 55; refine (withinM_any _ _ _ _).mono ?_; rintro r w1 ⟨rfl, rfl⟩; rw [hw])
  go_loopw [13] (fun i wr => ∃ j : Nat, j ≤ l.length ∧ i = .int .i64 j ∧ FB w wr w.heap.size ∧ chkCFrom l (l.drop j) j = chkCFrom l l 0) (fun i _ => l.length - (intOf i).toNat)
  case atStart => exact ⟨0, Nat.zero_le _, rfl, FB.start _, rfl⟩
  case round =>
    obtain ⟨j, hj, rfl, hb, hf⟩ := hrel
    by_cases hlt : j < l.length
    · obtain ⟨x, hx, hd⟩ := drop_at hlt
      rw [chkCFrom_at hd] at hf
      have ha := cr_at (fun q u hq => below_cell hb.bel (HR.out q u hq)) hx
      have hsl := (HV.out.below hb.bel).take j hj
      obtain ⟨c0, c1, c2, c3, c4, c5⟩ := ha
      have lb : b < wr.heap.size := World.block_lt_of_cell? _ _ c0
      have hj' : (j : Int) ≤ (l.length : Int) := by omega
      have hjc : (j : Int) ≤ (c : Int) := by omega
      have HW := checkTask_any ((wr.alloc (.cells #[.int .i64 x.c, .int .i64 x.h, .int .i64 x.t, .int .i64 x.d, .bool x.hi, .int .i64 x.p] 35)).drew) x (l.take j) (.slice (some ⟨b, o, none⟩) j c) (by simp; omega) ((hsl.below (below_new _ _)).below (Below.refl _ _).drew)
      unfold Cr.val at HW
      have HB : Hid (FB w (wr.alloc (.cells #[.int .i64 x.c, .int .i64 x.h, .int .i64 x.t, .int .i64 x.d, .bool x.hi, .int .i64 x.p] 35)).drew w.heap.size) := (hb.grow (below_new _ _)).grow (Below.refl _ _).drew
      have HF : Hid ((if wrongC x (List.take j l) = 0 then chkCFrom l (List.drop (j + 1) l) (j + 1) else (wrongC x (List.take j l), (j : Int))) = chkCFrom l l 0) := hf
      generalize wrongC x (l.take j) = z at *
      clear hsl hb hf
      go_wp2_with fail
      refine wp_region_noPanic ?_
      refine wp_region_held_drew (S := fun w' => w'.cell? ⟨wr.heap.size, 0, none⟩ = some (.int .i64 x.c) ∧ w'.cell? ⟨wr.heap.size, 1, none⟩ = some (.int .i64 x.h) ∧ w'.cell? ⟨wr.heap.size, 2, none⟩ = some (.int .i64 x.t) ∧ w'.cell? ⟨wr.heap.size, 3, none⟩ = some (.int .i64 x.d) ∧ w'.cell? ⟨wr.heap.size, 4, none⟩ = some (.bool x.hi) ∧ w'.cell? ⟨wr.heap.size, 5, none⟩ = some (.int .i64 x.p)) (by kernel_rfl) (by refine ⟨?_, ?_, ?_, ?_, ?_, ?_⟩ <;> go_simp) (fun hHeld => ?_)
      refine take_at (i := 0) (n := 18) (v := ?_) rfl rfl (by kernel_rfl) (by kernel_rfl) (by kernel_rfl) (fun _ _ _ h => h) (Or.inl ⟨by rfl, ?_⟩) (by assumption) ?_
      rotate_left 1
      · intro wz hSw
        obtain ⟨k0, k1, k2, k3, k4, k5⟩ := hSw
        first | (go_simp; done) | (go_simp; with_reducible rfl)
      simp only [List.set_cons_zero, List.set_cons_succ]
      refine take_at (i := 1) (n := 19) (v := ?_) rfl rfl (by kernel_rfl) (by kernel_rfl) (by kernel_rfl) (fun _ _ _ h => h) (Or.inl ⟨by rfl, ?_⟩) (by assumption) ?_
      rotate_left 1
      · intro wz hSw
        first | (go_simp; done) | (go_simp; with_reducible rfl)
      simp only [List.set_cons_zero, List.set_cons_succ]
      refine take_at (i := 2) (n := 20) (v := ?_) rfl rfl (by kernel_rfl) (by kernel_rfl) (by kernel_rfl) (fun _ _ _ h => h) (Or.inl ⟨by rfl, ?_⟩) (by assumption) ?_
      rotate_left 1
      · intro wz hSw
        first | (go_simp; done) | (go_simp; with_reducible rfl)
      simp only [List.set_cons_zero, List.set_cons_succ]
      refine take_at (i := 3) (n := 21) (v := ?_) rfl rfl (by kernel_rfl) (by kernel_rfl) (by kernel_rfl) (fun _ _ _ h => h) (Or.inl ⟨by rfl, ?_⟩) (by assumption) ?_
      rotate_left 1
      · intro wz hSw
        first | (go_simp; done) | (go_simp; with_reducible rfl)
      simp only [List.set_cons_zero, List.set_cons_succ]
      refine wpAnyH_ready (rs := [4]) (by kernel_rfl) (by simp) ?_
      refine AllReadyH.cons rfl (fun K hK => ?_) AllReadyH.nil
      go_wp2_with (go_at_call 95; refine HW.mono ?_; rintro r w1 ⟨rfl, hb1⟩)
      have H1 : Hid (FB w w1 w.heap.size) := HB.out.grow hb1
      refine hK.out _ _ (by refine ⟨?_, ?_, ?_, ?_, ?_, ?_⟩ <;> exact below_cell hb1 (by go_simp)) (fun hHeld => ?_)
      clear hK K HW
      refine take_at (i := 5) (n := 5) (v := ?_) rfl rfl (by kernel_rfl) (by kernel_rfl) (by kernel_rfl) (fun _ _ _ h => h) (Or.inl ⟨by rfl, ?_⟩) (by assumption) ?_
      rotate_left 1
      · intro wz hSw
        first | (go_simp; done) | (go_simp; with_reducible rfl)
      simp only [List.set_cons_zero, List.set_cons_succ]
      refine wpAnyH_done (by kernel_rfl) ?_ _
      refine NoPanic.normal ?_
      obtain ⟨rs1, rf1, rl1⟩ := cells_of (l := [_, _]) H1.out.res
      have r10 := rs1 0 _ rfl
      have r11 := rs1 1 _ rfl
      have f10 := rf1 0
      have f11 := rf1 1
      clear rs1 rf1 hb1 hHeld
      by_cases hz : z = 0
      · subst hz
        have e := HF.out
        rw [if_pos rfl] at e
        go_wp2_with fail
        go_roundw
        case rel => exact ⟨j + 1, by omega, by go_num, H1.out, e⟩
        case measure => simp [intOf]; omega
      · have e := HF.out
        rw [if_neg hz] at e
        have hzb : (z != 0) = true := by simpa using hz
        go_wp2_with fail
        refine bodyPost_ret (CheckM_ends (set_two H1.out.res) rfl) rfl ?_
        exact ⟨by rw [← e], H1.out.set _ _⟩
    · have hje : j = l.length := by omega
      subst hje
      rw [List.drop_length, chkCFrom] at hf
      have H1 : Hid (FB w wr w.heap.size) := hb
      obtain ⟨rs1, rf1, rl1⟩ := cells_of (l := [_, _]) hb.res
      have r10 := rs1 0 _ rfl
      have r11 := rs1 1 _ rfl
      have f10 := rf1 0
      have f11 := rf1 1
      clear rs1 rf1 hb
      have HF : Hid ((0, 0) = chkCFrom l l 0) := hf
      clear hf
      go_wp2_with fail
      refine bodyPost_ret (CheckM_ends (set_two H1.out.res) rfl) rfl ?_
      exact ⟨by rw [← HF.out], H1.out.set _ _⟩

/-- tasks.Check. -/
theorem CheckM_any (w : World) (l : List Cr) (v : Value) (hv : RowSl Cr.vals w l v) : Calls Tryz.prog 61 #[v] w fun r w' => r = .returned (.agg #[.int .i64 (chkC l).1, .int .i64 (chkC l).2]) ∧ Below w.heap.size w w' := by
  obtain ⟨ad, c, rfl⟩ := hv.len
  unfold chkC
  by_cases h : l.length = 0 ∨ 8 < l.length
  · rw [if_pos h]
    exact CheckM_many w l.length c ad h
  · rw [if_neg h]
    exact CheckM_few w l ad c (by omega) (by omega) hv
end Go.Proofs.YtccoobcggbbciaiGreatDoor
namespace Go.Proofs.YtccoobcggbbciaiGreatDoor
open Go.ChangeShapes Go.WideShapes Go.ChangeAt Go.RowKit

/-- What nothing is wrong with. -/
def okCr (x : Cr) : Prop := 1 ≤ x.c ∧ x.c ≤ x.h ∧ x.h ≤ x.d ∧ x.d ≤ x.t ∧ x.t ≤ 10000 ∧ 0 ≤ x.p ∧ x.p ≤ 1000
/-- What one asks for where all is well. -/
def upC (w : Int) (x : Cr) : Int := (w + x.t - 1) / x.t * x.c
/-- What one asks for where the mode turns. -/
def upI (wl v : Int) (x : Cr) : Int := if x.hi = true then (v + x.t - 1) / x.t * x.h else (wl + x.t - 1) / x.t * x.c
def aheadF (f : Cr → Int) (p : Int) : List Cr → Int
  | [] => 0
  | y :: r => (if p < y.p then f y else 0) + aheadF f p r

theorem part_range {w t c : Int} (hw : 0 ≤ w ∧ w ≤ 10000) (ht : 1 ≤ t ∧ t ≤ 10000) (hc : 0 ≤ c ∧ c ≤ 10000) : 0 ≤ (w + t - 1) / t * c ∧ (w + t - 1) / t * c ≤ 200000000 := by
  have q0 : 0 ≤ (w + t - 1) / t := Int.ediv_nonneg (by omega) (by omega)
  have q1 : (w + t - 1) / t ≤ w + t - 1 := Int.ediv_le_self t (by omega)
  refine ⟨Int.mul_nonneg q0 hc.1, ?_⟩
  have := Int.mul_le_mul (show (w + t - 1) / t ≤ 20000 by omega) hc.2 hc.1 (by omega)
  omega
theorem upw_range {x : Cr} (h : okCr x) {y : Int} (hy : 0 ≤ y ∧ y ≤ 10000) : 0 ≤ upC y x ∧ upC y x ≤ 200000000 := by
  obtain ⟨g1, g2, g3, g4, g5, g6, g7⟩ := h
  exact part_range hy (by omega) (by omega)
theorem upi_range {x : Cr} (h : okCr x) {y wl : Int} (hy : 0 ≤ y ∧ y ≤ 10000) (hz : 0 ≤ wl ∧ wl ≤ 10000) : 0 ≤ upI wl y x ∧ upI wl y x ≤ 200000000 := by
  obtain ⟨g1, g2, g3, g4, g5, g6, g7⟩ := h
  unfold upI
  split
  · exact part_range hy (by omega) (by omega)
  · exact part_range hz (by omega) (by omega)

theorem roundUpM_any (w : World) (a b : Int) (ha : 0 ≤ a ∧ a ≤ 1000000) (hb : 1 ≤ b ∧ b ≤ 1000000) : Calls Tryz.prog 77 #[.int .i64 a, .int .i64 b] w fun r w' => r = .returned (.int .i64 ((a + b - 1) / b)) ∧ w' = w := by
  have q1 : IntKind.i64.wrap (a + b) = a + b := by rw [IntKind.wrap_i64]; omega
  have q2 : IntKind.i64.wrap (a + b - 1) = a + b - 1 := by rw [IntKind.wrap_i64]; omega
  have q3 : (b == 0) = false := beq_eq_false_iff_ne.2 (by omega)
  have q4 : ¬ b = 0 := by omega
  have q5 : (a + b - 1).tdiv b = (a + b - 1) / b := Int.tdiv_eq_ediv_of_nonneg (by omega)
  have hq : 0 ≤ (a + b - 1) / b ∧ (a + b - 1) / b ≤ a + b - 1 := ⟨Int.ediv_nonneg (by omega) (by omega), Int.ediv_le_self _ (by omega)⟩
  have q6 : IntKind.i64.wrap ((a + b - 1) / b) = (a + b - 1) / b := by rw [IntKind.wrap_i64]; omega
  clear hq
  go_enter Tryz.func77, Tryz.ntmps77
  go_wp2_with fail
  go_ret
  exact ⟨rfl, rfl⟩
theorem roundUpM_q (w : World) (a b : Int) (ha : 0 ≤ a ∧ a ≤ 1000000) (hb : 1 ≤ b ∧ b ≤ 1000000) : Calls Tryz.prog 77 #[.int .i64 a, .int .i64 b] w fun r w' => r = .returned (.int .i64 ((a + b - 1) / b)) ∧ ∃ n, w' = w.drewN n :=
  (roundUpM_any w a b ha hb).mono (by rintro r w' ⟨rfl, rfl⟩; exact ⟨rfl, 0, rfl⟩)

set_option maxRecDepth 20000 in
set_option maxHeartbeats 1000000 in
theorem cw_any (w : World) (x : Cr) (gw : Nat) (y : Int) (hx : okCr x) (hy : 0 ≤ y ∧ y ≤ 10000) (hw : w.cell? ⟨gw, 0, none⟩ = some (.int .i64 y)) : Calls Tryz.prog 99 #[x.val, .pointer (some ⟨gw, 0, none⟩)] w fun r w' => r = .returned (.int .i64 (upC y x)) ∧ Below w.heap.size w w' := by
  have hr := upw_range hx hy
  obtain ⟨c, h, t, dd, hi, p⟩ := x
  unfold Cr.val
  dsimp only
  obtain ⟨g1, g2, g3, g4, g5, g6, g7⟩ := hx
  dsimp only at g1 g2 g3 g4 g5 g6 g7
  unfold upC at hr ⊢
  dsimp only at hr ⊢
  have l1 : gw < w.heap.size := World.block_lt_of_cell? _ _ hw
  have e2 : IntKind.i64.wrap ((y + t - 1) / t * c) = (y + t - 1) / t * c := by rw [IntKind.wrap_i64]; omega
  have HQ := fun W => roundUpM_q W y t (by omega) (by omega)
  clear hr
  go_enter Tryz.func99, Tryz.ntmps99
  go_wp2_with fail
  go_quiet (first | (go_at_call 77; exact Calls.quiet_of (HQ _)))
  go_wp2_with fail
  go_ret
  exact ⟨rfl, below_seq (below_new _ _) below_drewN'⟩

set_option maxRecDepth 20000 in
set_option maxHeartbeats 1000000 in
theorem ci_any (w : World) (x : Cr) (gw gz : Nat) (y wl : Int) (hx : okCr x) (hy : 0 ≤ y ∧ y ≤ 10000) (hz : 0 ≤ wl ∧ wl ≤ 10000) (hw : w.cell? ⟨gw, 0, none⟩ = some (.int .i64 y) ∧ w.cell? ⟨gz, 0, none⟩ = some (.int .i64 wl)) : Calls Tryz.prog 101 #[x.val, .pointer (some ⟨gw, 0, none⟩), .pointer (some ⟨gz, 0, none⟩)] w fun r w' => r = .returned (.int .i64 (upI wl y x)) ∧ Below w.heap.size w w' := by
  have hr := upi_range hx hy hz
  obtain ⟨c, h, t, dd, hi, p⟩ := x
  unfold Cr.val
  dsimp only
  obtain ⟨g1, g2, g3, g4, g5, g6, g7⟩ := hx
  dsimp only at g1 g2 g3 g4 g5 g6 g7
  unfold upI at hr ⊢
  dsimp only at hr ⊢
  obtain ⟨hw1, hw2⟩ := hw
  have l1 : gw < w.heap.size := World.block_lt_of_cell? _ _ hw1
  have l2 : gz < w.heap.size := World.block_lt_of_cell? _ _ hw2
  cases hi
  · simp only [Bool.false_eq_true, if_false] at hr ⊢
    have e2 : IntKind.i64.wrap ((wl + t - 1) / t * c) = (wl + t - 1) / t * c := by rw [IntKind.wrap_i64]; omega
    have HQ := fun W => roundUpM_q W wl t (by omega) (by omega)
    clear hr
    go_enter Tryz.func101, Tryz.ntmps101
    go_wp2_with fail
    go_quiet (first | (go_at_call 77; exact Calls.quiet_of (HQ _)))
    go_wp2_with fail
    go_ret
    exact ⟨rfl, below_seq (below_new _ _) below_drewN'⟩
  · simp only [if_true] at hr ⊢
    have e2 : IntKind.i64.wrap ((y + t - 1) / t * h) = (y + t - 1) / t * h := by rw [IntKind.wrap_i64]; omega
    have HQ := fun W => roundUpM_q W y t (by omega) (by omega)
    clear hr
    go_enter Tryz.func101, Tryz.ntmps101
    go_wp2_with fail
    go_quiet (first | (go_at_call 77; exact Calls.quiet_of (HQ _)))
    go_wp2_with fail
    go_ret
    exact ⟨rfl, below_seq (below_new _ _) below_drewN'⟩

set_option maxRecDepth 20000 in
set_option maxHeartbeats 2000000 in
theorem ahead_w_any (w : World) (l : List Cr) (v : Value) (x : Cr) (gw : Nat) (y : Int) (hl : l.length ≤ 8) (hok : ∀ x ∈ l, okCr x) (hy : 0 ≤ y ∧ y ≤ 10000) (hv : RowSl Cr.vals w l v) (hw : w.cell? ⟨gw, 0, none⟩ = some (.int .i64 y)) : Calls Tryz.prog 98 #[v, x.val, .func (Fn.func 99) #[] #[.pointer (some ⟨gw, 0, none⟩)]] w fun r w' => r = .returned (.int .i64 (aheadF (upC y) x.p l)) ∧ Below w.heap.size w w' := by
  obtain ⟨ad, c, rfl, -, hcap, hrow⟩ := hv
  obtain ⟨xc, xh, xt, xd, xi, xp⟩ := x
  unfold Cr.val
  dsimp only
  have HR : Hid ((l = [] ∨ ∃ b o, ad = some ⟨b, o, none⟩ ∧ ∀ q u, (l.flatMap Cr.vals)[q]? = some u → w.cell? ⟨b, o + q, none⟩ = some u) ∧ ∀ x ∈ l, okCr x) := ⟨hrow, hok⟩
  have HW : Hid (w.cell? ⟨gw, 0, none⟩ = some (.int .i64 y)) := hw
  clear hrow hok hw
  have HX : Hid ((w.alloc (.cells #[.int .i64 xc, .int .i64 xh, .int .i64 xt, .int .i64 xd, .bool xi, .int .i64 xp] 35)).cell? ⟨w.heap.size, 5, none⟩ = some (.int .i64 xp) ∧ Below w.heap.size w (w.alloc (.cells #[.int .i64 xc, .int .i64 xh, .int .i64 xt, .int .i64 xd, .bool xi, .int .i64 xp] 35))) := ⟨by go_simp, below_new _ _⟩
  go_enter Tryz.func98, Tryz.ntmps98
  go_wp2_with fail
  generalize (w.alloc (.cells #[.int .i64 xc, .int .i64 xh, .int .i64 xt, .int .i64 xd, .bool xi, .int .i64 xp] 35)) = w0 at *
  go_loopw [7, 12] (fun mv i wr => ∃ (j : Nat) (mm : Int), j ≤ l.length ∧ i = .int .i64 j ∧ mv = .int .i64 mm ∧ Below w0.heap.size w0 wr ∧ 0 ≤ mm ∧ mm ≤ (j : Int) * 200000000 ∧ Hid (mm + aheadF (upC y) xp (l.drop j) = aheadF (upC y) xp l)) (fun _ i _ => l.length - (intOf i).toNat)
  case atStart => exact ⟨0, 0, Nat.zero_le _, rfl, rfl, Below.refl _ _, by omega, by omega, by show 0 + aheadF (upC y) xp l = _; omega⟩
  case round =>
    obtain ⟨j, mm, hj, rfl, rfl, hb, h1, h2, HM⟩ := hrel
    by_cases hjl : j < l.length
    · obtain ⟨q, hx, hd⟩ := drop_at hjl
      rcases HR.out.1 with h | ⟨gb, go, rfl, hr1⟩
      · rw [h] at hjl; simp at hjl
      obtain ⟨y0, y1, y2, y3, y4, y5⟩ := cr_at (fun q u hq => below_cell hb (below_cell HX.out.2 (hr1 q u hq))) hx
      have z5 := below_cell hb HX.out.1
      have lz : w.heap.size < wr.heap.size := World.block_lt_of_cell? _ _ z5
      have lz2 : ¬ w.heap.size = wr.heap.size := by omega
      have hxo := HR.out.2 q (List.mem_of_getElem? hx)
      have hf := upw_range hxo hy
      have HF := fun W (h : Below w.heap.size w W) => cw_any W q gw y hxo hy (below_cell h HW.out)
      have HD : Hid (aheadF (upC y) xp (l.drop j) = (if xp < q.p then upC y q else 0) + aheadF (upC y) xp (l.drop (j + 1))) := by rw [hd]; rfl
      obtain ⟨yc, yh, yt, yd, yi, yp⟩ := q
      dsimp only at y0 y1 y2 y3 y4 y5
      simp only [Cr.val] at HF
      have HB : Hid (Below w.heap.size w wr ∧ Below w0.heap.size w0 wr) := ⟨below_seq HX.out.2 hb, hb⟩
      have HFH : Hid (∀ W, Below w.heap.size w W → Calls Tryz.prog 99 #[.agg #[.int .i64 yc, .int .i64 yh, .int .i64 yt, .int .i64 yd, .bool yi, .int .i64 yp], .pointer (some ⟨gw, 0, none⟩)] W fun r w' => r = .returned (.int .i64 (upC y ⟨yc, yh, yt, yd, yi, yp⟩)) ∧ Below W.heap.size W w') := HF
      clear hxo hd hx hr1 hb HF
      dsimp only at HD
      generalize upC y ⟨yc, yh, yt, yd, yi, yp⟩ = z at *
      have e1 : IntKind.i64.wrap (mm + z) = mm + z := by rw [IntKind.wrap_i64]; omega
      by_cases hp : xp < yp
      · go_wp2_with (go_at_call 99; refine (HFH.out _ (below_seq HB.out.1 (below_new _ _))).mono ?_; rintro r w2 ⟨rfl, hb2⟩; have H2 : Hid (Below w0.heap.size w0 w2) := below_seq (below_seq HB.out.2 (below_new _ _)) hb2; clear hb2)
        refine ⟨⟨j + 1, mm + z, by omega, by simp, rfl, H2.out, by omega, by omega, ?_⟩, by simp [intOf]; omega⟩
        have e : mm + z + aheadF (upC y) xp (l.drop (j + 1)) = aheadF (upC y) xp l := by
          rw [← HM.out, HD.out, if_pos hp]; omega
        exact e
      · go_wp2_with fail
        refine ⟨⟨j + 1, mm, by omega, by simp, rfl, below_seq HB.out.2 (below_new _ _), by omega, by omega, ?_⟩, by simp [intOf]; omega⟩
        have e : mm + aheadF (upC y) xp (l.drop (j + 1)) = aheadF (upC y) xp l := by
          rw [← HM.out, HD.out, if_neg hp]; omega
        exact e
    · have hje : j = l.length := by omega
      subst hje
      go_wp2_with fail
      go_ret
      refine ⟨?_, below_seq HX.out.2 hb⟩
      have := HM.out
      rw [List.drop_length] at this
      have e : mm = aheadF (upC y) xp l := by rw [← this]; simp only [aheadF]; omega
      rw [e]
      rfl

set_option maxRecDepth 20000 in
set_option maxHeartbeats 2000000 in
theorem ahead_i_any (w : World) (l : List Cr) (v : Value) (x : Cr) (gw gz : Nat) (y wl : Int) (hl : l.length ≤ 8) (hok : ∀ x ∈ l, okCr x) (hy : 0 ≤ y ∧ y ≤ 10000) (hz : 0 ≤ wl ∧ wl ≤ 10000) (hv : RowSl Cr.vals w l v) (hw : w.cell? ⟨gw, 0, none⟩ = some (.int .i64 y) ∧ w.cell? ⟨gz, 0, none⟩ = some (.int .i64 wl)) : Calls Tryz.prog 98 #[v, x.val, .func (Fn.func 101) #[] #[.pointer (some ⟨gw, 0, none⟩), .pointer (some ⟨gz, 0, none⟩)]] w fun r w' => r = .returned (.int .i64 (aheadF (upI wl y) x.p l)) ∧ Below w.heap.size w w' := by
  obtain ⟨ad, c, rfl, -, hcap, hrow⟩ := hv
  obtain ⟨xc, xh, xt, xd, xi, xp⟩ := x
  unfold Cr.val
  dsimp only
  have HR : Hid ((l = [] ∨ ∃ b o, ad = some ⟨b, o, none⟩ ∧ ∀ q u, (l.flatMap Cr.vals)[q]? = some u → w.cell? ⟨b, o + q, none⟩ = some u) ∧ ∀ x ∈ l, okCr x) := ⟨hrow, hok⟩
  have HW : Hid (w.cell? ⟨gw, 0, none⟩ = some (.int .i64 y) ∧ w.cell? ⟨gz, 0, none⟩ = some (.int .i64 wl)) := hw
  clear hrow hok hw
  have HX : Hid ((w.alloc (.cells #[.int .i64 xc, .int .i64 xh, .int .i64 xt, .int .i64 xd, .bool xi, .int .i64 xp] 35)).cell? ⟨w.heap.size, 5, none⟩ = some (.int .i64 xp) ∧ Below w.heap.size w (w.alloc (.cells #[.int .i64 xc, .int .i64 xh, .int .i64 xt, .int .i64 xd, .bool xi, .int .i64 xp] 35))) := ⟨by go_simp, below_new _ _⟩
  go_enter Tryz.func98, Tryz.ntmps98
  go_wp2_with fail
  generalize (w.alloc (.cells #[.int .i64 xc, .int .i64 xh, .int .i64 xt, .int .i64 xd, .bool xi, .int .i64 xp] 35)) = w0 at *
  go_loopw [7, 12] (fun mv i wr => ∃ (j : Nat) (mm : Int), j ≤ l.length ∧ i = .int .i64 j ∧ mv = .int .i64 mm ∧ Below w0.heap.size w0 wr ∧ 0 ≤ mm ∧ mm ≤ (j : Int) * 200000000 ∧ Hid (mm + aheadF (upI wl y) xp (l.drop j) = aheadF (upI wl y) xp l)) (fun _ i _ => l.length - (intOf i).toNat)
  case atStart => exact ⟨0, 0, Nat.zero_le _, rfl, rfl, Below.refl _ _, by omega, by omega, by show 0 + aheadF (upI wl y) xp l = _; omega⟩
  case round =>
    obtain ⟨j, mm, hj, rfl, rfl, hb, h1, h2, HM⟩ := hrel
    by_cases hjl : j < l.length
    · obtain ⟨q, hx, hd⟩ := drop_at hjl
      rcases HR.out.1 with h | ⟨gb, go, rfl, hr1⟩
      · rw [h] at hjl; simp at hjl
      obtain ⟨y0, y1, y2, y3, y4, y5⟩ := cr_at (fun q u hq => below_cell hb (below_cell HX.out.2 (hr1 q u hq))) hx
      have z5 := below_cell hb HX.out.1
      have lz : w.heap.size < wr.heap.size := World.block_lt_of_cell? _ _ z5
      have lz2 : ¬ w.heap.size = wr.heap.size := by omega
      have hxo := HR.out.2 q (List.mem_of_getElem? hx)
      have hf := upi_range hxo hy hz
      have HF := fun W (h : Below w.heap.size w W) => ci_any W q gw gz y wl hxo hy hz ⟨below_cell h HW.out.1, below_cell h HW.out.2⟩
      have HD : Hid (aheadF (upI wl y) xp (l.drop j) = (if xp < q.p then upI wl y q else 0) + aheadF (upI wl y) xp (l.drop (j + 1))) := by rw [hd]; rfl
      obtain ⟨yc, yh, yt, yd, yi, yp⟩ := q
      dsimp only at y0 y1 y2 y3 y4 y5
      simp only [Cr.val] at HF
      have HB : Hid (Below w.heap.size w wr ∧ Below w0.heap.size w0 wr) := ⟨below_seq HX.out.2 hb, hb⟩
      have HFH : Hid (∀ W, Below w.heap.size w W → Calls Tryz.prog 101 #[.agg #[.int .i64 yc, .int .i64 yh, .int .i64 yt, .int .i64 yd, .bool yi, .int .i64 yp], .pointer (some ⟨gw, 0, none⟩), .pointer (some ⟨gz, 0, none⟩)] W fun r w' => r = .returned (.int .i64 (upI wl y ⟨yc, yh, yt, yd, yi, yp⟩)) ∧ Below W.heap.size W w') := HF
      clear hxo hd hx hr1 hb HF
      dsimp only at HD
      generalize upI wl y ⟨yc, yh, yt, yd, yi, yp⟩ = z at *
      have e1 : IntKind.i64.wrap (mm + z) = mm + z := by rw [IntKind.wrap_i64]; omega
      by_cases hp : xp < yp
      · go_wp2_with (go_at_call 101; refine (HFH.out _ (below_seq HB.out.1 (below_new _ _))).mono ?_; rintro r w2 ⟨rfl, hb2⟩; have H2 : Hid (Below w0.heap.size w0 w2) := below_seq (below_seq HB.out.2 (below_new _ _)) hb2; clear hb2)
        refine ⟨⟨j + 1, mm + z, by omega, by simp, rfl, H2.out, by omega, by omega, ?_⟩, by simp [intOf]; omega⟩
        have e : mm + z + aheadF (upI wl y) xp (l.drop (j + 1)) = aheadF (upI wl y) xp l := by
          rw [← HM.out, HD.out, if_pos hp]; omega
        exact e
      · go_wp2_with fail
        refine ⟨⟨j + 1, mm, by omega, by simp, rfl, below_seq HB.out.2 (below_new _ _), by omega, by omega, ?_⟩, by simp [intOf]; omega⟩
        have e : mm + aheadF (upI wl y) xp (l.drop (j + 1)) = aheadF (upI wl y) xp l := by
          rw [← HM.out, HD.out, if_neg hp]; omega
        exact e
    · have hje : j = l.length := by omega
      subst hje
      go_wp2_with fail
      go_ret
      refine ⟨?_, below_seq HX.out.2 hb⟩
      have := HM.out
      rw [List.drop_length] at this
      have e : mm = aheadF (upI wl y) xp l := by rw [← this]; simp only [aheadF]; omega
      rw [e]
      rfl

end Go.Proofs.YtccoobcggbbciaiGreatDoor
