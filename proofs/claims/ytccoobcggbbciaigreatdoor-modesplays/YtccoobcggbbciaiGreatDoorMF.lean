import Derived.Test.YtccoobcggbbciaiGreatDoorMD
import Derived.Test.YtccoobcggbbciaiGreatDoorFX
namespace Go.Proofs.YtccoobcggbbciaiGreatDoor
open Go.ChangeShapes Go.WideShapes Go.ChangeAt Go.RowKit

theorem aheadF_range {f : Cr → Int} {p : Int} : ∀ (l : List Cr), (∀ m ∈ l, 0 ≤ f m ∧ f m ≤ 200000000) → 0 ≤ aheadF f p l ∧ aheadF f p l ≤ (l.length : Int) * 200000000
  | [], _ => by simp [aheadF]
  | m :: r, h => by
    have h1 := h m List.mem_cons_self
    have h2 := aheadF_range (f := f) (p := p) r (fun x hx => h x (List.mem_cons_of_mem _ hx))
    simp only [aheadF, List.length_cons]
    split <;> omega

theorem aheadF_mono {f g : Cr → Int} {p : Int} : ∀ (l : List Cr), (∀ m ∈ l, f m ≤ g m) → aheadF f p l ≤ aheadF g p l
  | [], _ => by simp [aheadF]
  | m :: r, h => by
    have h1 := h m List.mem_cons_self
    have h2 := aheadF_mono (f := f) (g := g) (p := p) r (fun x hx => h x (List.mem_cons_of_mem _ hx))
    simp only [aheadF]
    split <;> omega

theorem part_mono {x y t c : Int} (h : x ≤ y) (ht : 1 ≤ t) (hc : 0 ≤ c) : (x + t - 1) / t * c ≤ (y + t - 1) / t * c := Int.mul_le_mul_of_nonneg_right (Int.ediv_le_ediv (by omega) (by omega)) hc
theorem upC_mono {m : Cr} (hm : okCr m) {x y : Int} (h : x ≤ y) : upC x m ≤ upC y m := by
  obtain ⟨g1, g2, g3, g4, g5, g6, g7⟩ := hm
  exact part_mono h (by omega) (by omega)
theorem upI_mono {m : Cr} (hm : okCr m) {wl x y : Int} (h : x ≤ y) : upI wl x m ≤ upI wl y m := by
  obtain ⟨g1, g2, g3, g4, g5, g6, g7⟩ := hm
  unfold upI
  split
  · exact part_mono h (by omega) (by omega)
  · exact Int.le_refl _

theorem settleM_ends {w : World} {a : Act} {x y : Value} (h1 : a.tmps[4]?.getD undef = x) (h2 : a.tmps[5]?.getD undef = y) : (results Tryz.f96 a.tmps).run Tryz.prog w = .ok (.tuple #[x, y]) w := by
  simp [results, Tryz.results96, go_sem, h1, h2]

set_option maxRecDepth 20000 in
set_option maxHeartbeats 4000000 in
theorem askw_any (w : World) (l : List Cr) (v : Value) (xc xh xt xd : Int) (xi : Bool) (xp : Int) (gt gs : Nat) (z : Int) (hl8 : l.length ≤ 8) (hok : ∀ x ∈ l, okCr x) (hx : 1 ≤ xc ∧ xc ≤ 10000 ∧ 1 ≤ xh ∧ xh ≤ 10000) (hz : 0 ≤ z ∧ z ≤ 10000) (hv : RowSl Cr.vals w l v) (c0 : w.cell? ⟨gt, 0, none⟩ = some (.int .i64 xc)) (c1 : w.cell? ⟨gt, 1, none⟩ = some (.int .i64 xh)) (c2 : w.cell? ⟨gt, 2, none⟩ = some (.int .i64 xt)) (c3 : w.cell? ⟨gt, 3, none⟩ = some (.int .i64 xd)) (c4 : w.cell? ⟨gt, 4, none⟩ = some (.bool xi)) (c5 : w.cell? ⟨gt, 5, none⟩ = some (.int .i64 xp)) (c6 : w.cell? ⟨gs, 0, none⟩ = some v) :
    Calls Tryz.prog 97 #[.int .i64 z, .pointer (some ⟨gt, 0, none⟩), .pointer (some ⟨gs, 0, none⟩)] w fun r w' => r = .returned (.int .i64 (xc + aheadF (upC z) xp l)) ∧ Below w.heap.size w w' := by
  have HA : Hid (∀ W, Below (w.alloc (.cells #[.int .i64 z] 3)).heap.size (w.alloc (.cells #[.int .i64 z] 3)) W → Calls Tryz.prog 98 #[v, .agg #[.int .i64 xc, .int .i64 xh, .int .i64 xt, .int .i64 xd, .bool xi, .int .i64 xp], .func (Fn.func 99) #[] #[.pointer (some ⟨w.heap.size, 0, none⟩)]] W fun r w' => r = .returned (.int .i64 (aheadF (upC z) xp l)) ∧ Below W.heap.size W w') := fun W hb => ahead_w_any W l _ ⟨xc, xh, xt, xd, xi, xp⟩ w.heap.size z hl8 hok hz  (hv.below (below_seq (below_new _ _) hb)) (below_cell hb (by go_simp))
  have hr := aheadF_range (f := upC z) (p := xp) l (fun y hy => upw_range (hok y hy) hz )
  obtain ⟨ad, c, rfl⟩ := hv.len
  generalize aheadF (upC z) xp l = sm at *
  have r1 : IntKind.i64.wrap (xc + sm) = xc + sm := by rw [IntKind.wrap_i64]; omega
  have l0 : gt < w.heap.size := World.block_lt_of_cell? _ _ c0
  have l1 : gs < w.heap.size := World.block_lt_of_cell? _ _ c6
  clear hv hok hr
  go_enter Tryz.func97, Tryz.ntmps97
  go_wp2_with fail
  refine wp_region_noPanic ?_
  refine wp_region_held_drew (S := fun w' => w'.cell? ⟨gt, 0, none⟩ = some (.int .i64 xc) ∧ w'.cell? ⟨gt, 1, none⟩ = some (.int .i64 xh) ∧ w'.cell? ⟨gt, 2, none⟩ = some (.int .i64 xt) ∧ w'.cell? ⟨gt, 3, none⟩ = some (.int .i64 xd) ∧ w'.cell? ⟨gt, 4, none⟩ = some (.bool xi) ∧ w'.cell? ⟨gt, 5, none⟩ = some (.int .i64 xp) ∧ w'.cell? ⟨gs, 0, none⟩ = some (.slice ad l.length c)) (by kernel_rfl) ⟨(by go_simp), (by go_simp), (by go_simp), (by go_simp), (by go_simp), (by go_simp), (by go_simp)⟩ (fun hHeld => ?_)
  refine take_at (i := 0) (n := 5) (v := ?_) rfl rfl (by kernel_rfl) (by kernel_rfl) (by kernel_rfl) (fun _ _ _ h => h) (Or.inl ⟨by rfl, ?_⟩) (by assumption) ?_
  rotate_left 1
  · intro wz hSw
    obtain ⟨s0, s1, s2, s3, s4, s5, s6⟩ := hSw
    first | (go_simp; done) | (go_simp; with_reducible rfl)
  simp only [List.set_cons_zero, List.set_cons_succ]
  refine take_at (i := 1) (n := 6) (v := ?_) rfl rfl (by kernel_rfl) (by kernel_rfl) (by kernel_rfl) (fun _ _ _ h => h) (Or.inl ⟨by rfl, ?_⟩) (by assumption) ?_
  rotate_left 1
  · intro wz hSw
    obtain ⟨s0, s1, s2, s3, s4, s5, s6⟩ := hSw
    first | (go_simp; done) | (go_simp; with_reducible rfl)
  simp only [List.set_cons_zero, List.set_cons_succ]
  refine take_at (i := 2) (n := 7) (v := ?_) rfl rfl (by kernel_rfl) (by kernel_rfl) (by kernel_rfl) (fun _ _ _ h => h) (Or.inl ⟨by rfl, ?_⟩) (by assumption) ?_
  rotate_left 1
  · intro wz hSw
    obtain ⟨s0, s1, s2, s3, s4, s5, s6⟩ := hSw
    first | (go_simp; done) | (go_simp; with_reducible rfl)
  simp only [List.set_cons_zero, List.set_cons_succ]
  refine take_at (i := 3) (n := 8) (v := ?_) rfl rfl (by kernel_rfl) (by kernel_rfl) (by kernel_rfl) (fun _ _ _ h => h) (Or.inl ⟨by rfl, ?_⟩) (by assumption) ?_
  rotate_left 1
  · intro wz hSw
    obtain ⟨s0, s1, s2, s3, s4, s5, s6⟩ := hSw
    first | (go_simp; done) | (go_simp; with_reducible rfl)
  simp only [List.set_cons_zero, List.set_cons_succ]
  refine take_at (i := 4) (n := 9) (v := ?_) rfl rfl (by kernel_rfl) (by kernel_rfl) (by kernel_rfl) (fun _ _ _ h => h) (Or.inl ⟨by rfl, ?_⟩) (by assumption) ?_
  rotate_left 1
  · intro wz hSw
    obtain ⟨s0, s1, s2, s3, s4, s5, s6⟩ := hSw
    first | (go_simp; done) | (go_simp; with_reducible rfl)
  simp only [List.set_cons_zero, List.set_cons_succ]
  refine wpAnyH_ready (rs := [5]) (by kernel_rfl) (by simp) ?_
  refine AllReadyH.cons rfl (fun K hK => ?_) AllReadyH.nil
  go_simp
  go_wp2_with (go_at_call 98; refine (HA.out _ (Below.refl _ _).drew).mono ?_; rintro r w9 ⟨rfl, hb9⟩; have H9 : Hid (Below (w.alloc (.cells #[.int .i64 z] 3)).heap.size (w.alloc (.cells #[.int .i64 z] 3)) w9) := below_seq (Below.refl _ _).drew hb9; have d0 := below_cell (below_seq (below_new _ _) H9.out) c0; have d1 := below_cell (below_seq (below_new _ _) H9.out) c1; have d2 := below_cell (below_seq (below_new _ _) H9.out) c2; have d3 := below_cell (below_seq (below_new _ _) H9.out) c3; have d4 := below_cell (below_seq (below_new _ _) H9.out) c4; have d5 := below_cell (below_seq (below_new _ _) H9.out) c5; have d6 := below_cell (below_seq (below_new _ _) H9.out) c6; clear hb9)
  refine hK.out _ _ ⟨d0, d1, d2, d3, d4, d5, d6⟩ (fun hHeld => ?_)
  clear hK K
  try simp only [List.set_cons_zero, List.set_cons_succ]
  refine take_at (i := 6) (n := 11) (v := ?_) rfl rfl (by kernel_rfl) (by kernel_rfl) (by kernel_rfl) (fun _ _ _ h => h) (Or.inl ⟨by rfl, ?_⟩) (by assumption) ?_
  rotate_left 1
  · intro wz hSw
    obtain ⟨s0, s1, s2, s3, s4, s5, s6⟩ := hSw
    first | (go_simp; done) | (go_simp; with_reducible rfl)
  simp only [List.set_cons_zero, List.set_cons_succ]
  refine take_at (i := 7) (n := 4) (v := ?_) rfl rfl (by kernel_rfl) (by kernel_rfl) (by kernel_rfl) (fun _ _ _ h => h) (Or.inl ⟨by rfl, ?_⟩) (by assumption) ?_
  rotate_left 1
  · intro wz hSw
    obtain ⟨s0, s1, s2, s3, s4, s5, s6⟩ := hSw
    first | (go_simp; done) | (go_simp; with_reducible rfl)
  simp only [List.set_cons_zero, List.set_cons_succ]
  refine wpAnyH_done (by kernel_rfl) ?_ _
  refine NoPanic.normal ?_
  clear hHeld
  go_wp2_with fail
  go_ret
  exact ⟨rfl, below_seq (below_new _ _) H9.out⟩

set_option maxRecDepth 20000 in
set_option maxHeartbeats 4000000 in
theorem aski_any (w : World) (l : List Cr) (v : Value) (xc xh xt xd : Int) (xi : Bool) (xp : Int) (gt gs gl : Nat) (wl z : Int) (hl8 : l.length ≤ 8) (hok : ∀ x ∈ l, okCr x) (hx : 1 ≤ xc ∧ xc ≤ 10000 ∧ 1 ≤ xh ∧ xh ≤ 10000) (hz : 0 ≤ z ∧ z ≤ 10000) (hwl : 0 ≤ wl ∧ wl ≤ 10000) (hv : RowSl Cr.vals w l v) (c0 : w.cell? ⟨gt, 0, none⟩ = some (.int .i64 xc)) (c1 : w.cell? ⟨gt, 1, none⟩ = some (.int .i64 xh)) (c2 : w.cell? ⟨gt, 2, none⟩ = some (.int .i64 xt)) (c3 : w.cell? ⟨gt, 3, none⟩ = some (.int .i64 xd)) (c4 : w.cell? ⟨gt, 4, none⟩ = some (.bool xi)) (c5 : w.cell? ⟨gt, 5, none⟩ = some (.int .i64 xp)) (c6 : w.cell? ⟨gs, 0, none⟩ = some v) (c7 : w.cell? ⟨gl, 0, none⟩ = some (.int .i64 wl)) :
    Calls Tryz.prog 100 #[.int .i64 z, .pointer (some ⟨gt, 0, none⟩), .pointer (some ⟨gs, 0, none⟩), .pointer (some ⟨gl, 0, none⟩)] w fun r w' => r = .returned (.int .i64 (xh + aheadF (upI wl z) xp l)) ∧ Below w.heap.size w w' := by
  have HA : Hid (∀ W, Below (w.alloc (.cells #[.int .i64 z] 3)).heap.size (w.alloc (.cells #[.int .i64 z] 3)) W → Calls Tryz.prog 98 #[v, .agg #[.int .i64 xc, .int .i64 xh, .int .i64 xt, .int .i64 xd, .bool xi, .int .i64 xp], .func (Fn.func 101) #[] #[.pointer (some ⟨w.heap.size, 0, none⟩), .pointer (some ⟨gl, 0, none⟩)]] W fun r w' => r = .returned (.int .i64 (aheadF (upI wl z) xp l)) ∧ Below W.heap.size W w') := fun W hb => ahead_i_any W l _ ⟨xc, xh, xt, xd, xi, xp⟩ w.heap.size gl z wl hl8 hok hz hwl (hv.below (below_seq (below_new _ _) hb)) ⟨below_cell hb (by go_simp), below_cell (below_seq (below_new _ _) hb) c7⟩
  have hr := aheadF_range (f := upI wl z) (p := xp) l (fun y hy => upi_range (hok y hy) hz hwl)
  obtain ⟨ad, c, rfl⟩ := hv.len
  generalize aheadF (upI wl z) xp l = sm at *
  have r1 : IntKind.i64.wrap (xh + sm) = xh + sm := by rw [IntKind.wrap_i64]; omega
  have l0 : gt < w.heap.size := World.block_lt_of_cell? _ _ c0
  have l1 : gs < w.heap.size := World.block_lt_of_cell? _ _ c6
  have l2 : gl < w.heap.size := World.block_lt_of_cell? _ _ c7
  clear hv hok hr
  go_enter Tryz.func100, Tryz.ntmps100
  go_wp2_with fail
  refine wp_region_noPanic ?_
  refine wp_region_held_drew (S := fun w' => w'.cell? ⟨gt, 0, none⟩ = some (.int .i64 xc) ∧ w'.cell? ⟨gt, 1, none⟩ = some (.int .i64 xh) ∧ w'.cell? ⟨gt, 2, none⟩ = some (.int .i64 xt) ∧ w'.cell? ⟨gt, 3, none⟩ = some (.int .i64 xd) ∧ w'.cell? ⟨gt, 4, none⟩ = some (.bool xi) ∧ w'.cell? ⟨gt, 5, none⟩ = some (.int .i64 xp) ∧ w'.cell? ⟨gs, 0, none⟩ = some (.slice ad l.length c) ∧ w'.cell? ⟨gl, 0, none⟩ = some (.int .i64 wl)) (by kernel_rfl) ⟨(by go_simp), (by go_simp), (by go_simp), (by go_simp), (by go_simp), (by go_simp), (by go_simp), (by go_simp)⟩ (fun hHeld => ?_)
  refine take_at (i := 0) (n := 6) (v := ?_) rfl rfl (by kernel_rfl) (by kernel_rfl) (by kernel_rfl) (fun _ _ _ h => h) (Or.inl ⟨by rfl, ?_⟩) (by assumption) ?_
  rotate_left 1
  · intro wz hSw
    obtain ⟨s0, s1, s2, s3, s4, s5, s6, s7⟩ := hSw
    first | (go_simp; done) | (go_simp; with_reducible rfl)
  simp only [List.set_cons_zero, List.set_cons_succ]
  refine take_at (i := 1) (n := 7) (v := ?_) rfl rfl (by kernel_rfl) (by kernel_rfl) (by kernel_rfl) (fun _ _ _ h => h) (Or.inl ⟨by rfl, ?_⟩) (by assumption) ?_
  rotate_left 1
  · intro wz hSw
    obtain ⟨s0, s1, s2, s3, s4, s5, s6, s7⟩ := hSw
    first | (go_simp; done) | (go_simp; with_reducible rfl)
  simp only [List.set_cons_zero, List.set_cons_succ]
  refine take_at (i := 2) (n := 8) (v := ?_) rfl rfl (by kernel_rfl) (by kernel_rfl) (by kernel_rfl) (fun _ _ _ h => h) (Or.inl ⟨by rfl, ?_⟩) (by assumption) ?_
  rotate_left 1
  · intro wz hSw
    obtain ⟨s0, s1, s2, s3, s4, s5, s6, s7⟩ := hSw
    first | (go_simp; done) | (go_simp; with_reducible rfl)
  simp only [List.set_cons_zero, List.set_cons_succ]
  refine take_at (i := 3) (n := 9) (v := ?_) rfl rfl (by kernel_rfl) (by kernel_rfl) (by kernel_rfl) (fun _ _ _ h => h) (Or.inl ⟨by rfl, ?_⟩) (by assumption) ?_
  rotate_left 1
  · intro wz hSw
    obtain ⟨s0, s1, s2, s3, s4, s5, s6, s7⟩ := hSw
    first | (go_simp; done) | (go_simp; with_reducible rfl)
  simp only [List.set_cons_zero, List.set_cons_succ]
  refine take_at (i := 4) (n := 10) (v := ?_) rfl rfl (by kernel_rfl) (by kernel_rfl) (by kernel_rfl) (fun _ _ _ h => h) (Or.inl ⟨by rfl, ?_⟩) (by assumption) ?_
  rotate_left 1
  · intro wz hSw
    obtain ⟨s0, s1, s2, s3, s4, s5, s6, s7⟩ := hSw
    first | (go_simp; done) | (go_simp; with_reducible rfl)
  simp only [List.set_cons_zero, List.set_cons_succ]
  refine wpAnyH_ready (rs := [5]) (by kernel_rfl) (by simp) ?_
  refine AllReadyH.cons rfl (fun K hK => ?_) AllReadyH.nil
  go_simp
  go_wp2_with (go_at_call 98; refine (HA.out _ (Below.refl _ _).drew).mono ?_; rintro r w9 ⟨rfl, hb9⟩; have H9 : Hid (Below (w.alloc (.cells #[.int .i64 z] 3)).heap.size (w.alloc (.cells #[.int .i64 z] 3)) w9) := below_seq (Below.refl _ _).drew hb9; have d0 := below_cell (below_seq (below_new _ _) H9.out) c0; have d1 := below_cell (below_seq (below_new _ _) H9.out) c1; have d2 := below_cell (below_seq (below_new _ _) H9.out) c2; have d3 := below_cell (below_seq (below_new _ _) H9.out) c3; have d4 := below_cell (below_seq (below_new _ _) H9.out) c4; have d5 := below_cell (below_seq (below_new _ _) H9.out) c5; have d6 := below_cell (below_seq (below_new _ _) H9.out) c6; have d7 := below_cell (below_seq (below_new _ _) H9.out) c7; clear hb9)
  refine hK.out _ _ ⟨d0, d1, d2, d3, d4, d5, d6, d7⟩ (fun hHeld => ?_)
  clear hK K
  try simp only [List.set_cons_zero, List.set_cons_succ]
  refine take_at (i := 6) (n := 12) (v := ?_) rfl rfl (by kernel_rfl) (by kernel_rfl) (by kernel_rfl) (fun _ _ _ h => h) (Or.inl ⟨by rfl, ?_⟩) (by assumption) ?_
  rotate_left 1
  · intro wz hSw
    obtain ⟨s0, s1, s2, s3, s4, s5, s6, s7⟩ := hSw
    first | (go_simp; done) | (go_simp; with_reducible rfl)
  simp only [List.set_cons_zero, List.set_cons_succ]
  refine take_at (i := 7) (n := 5) (v := ?_) rfl rfl (by kernel_rfl) (by kernel_rfl) (by kernel_rfl) (fun _ _ _ h => h) (Or.inl ⟨by rfl, ?_⟩) (by assumption) ?_
  rotate_left 1
  · intro wz hSw
    obtain ⟨s0, s1, s2, s3, s4, s5, s6, s7⟩ := hSw
    first | (go_simp; done) | (go_simp; with_reducible rfl)
  simp only [List.set_cons_zero, List.set_cons_succ]
  refine wpAnyH_done (by kernel_rfl) ?_ _
  refine NoPanic.normal ?_
  clear hHeld
  go_wp2_with fail
  go_ret
  exact ⟨rfl, below_seq (below_new _ _) H9.out⟩

set_option maxRecDepth 20000 in
set_option maxHeartbeats 4000000 in
theorem settle_w_any (w : World) (most : Int) (p0 p1 : Value) (ask : Int → Int)
    (HA : ∀ W, Below w.heap.size w W → ∀ z, 1 ≤ z → z ≤ most → Calls Tryz.prog 97 #[.int .i64 z, p0, p1] W fun r w' => r = .returned (.int .i64 (ask z)) ∧ Below W.heap.size W w')
    (hup : 1 ≤ ask 1) (mono : ∀ x y, 1 ≤ x → x ≤ y → y ≤ most → ask x ≤ ask y) :
    Calls Tryz.prog 96 #[.int .i64 most, .func (Fn.func 97) #[] #[p0, p1]] w fun r w' => r = .returned (.tuple #[.int .i64 (wOf ask 0 most), .bool (decide (wOf ask 0 most ≠ 0))]) ∧ Below w.heap.size w w' := by
  have HS : Hid (∀ W, Below w.heap.size w W → ∀ z, 1 ≤ z → z ≤ most → Calls Tryz.prog 97 #[.int .i64 z, p0, p1] W fun r w' => r = .returned (.int .i64 (ask z)) ∧ Below W.heap.size W w') := HA
  have HM : Hid ((∀ x y, 1 ≤ x → x ≤ y → y ≤ most → ask x ≤ ask y) ∧ 1 ≤ ask 1) := ⟨mono, hup⟩
  obtain ⟨tot, htot⟩ : ∃ tot, wOf ask 0 most = tot := ⟨_, rfl⟩
  have HT : Hid (wOf ask 0 most = tot) := htot
  rw [htot]
  clear HA mono hup htot
  go_enter Tryz.func96, Tryz.ntmps96
  go_wp2_with fail
  go_loopw [6] (fun xv wr => ∃ x : Int, xv = .int .i64 x ∧ Below w.heap.size w wr ∧ 1 ≤ x ∧ Hid ((x ≤ most → x ≤ ask x) ∧ ∀ v, 1 ≤ v → v < x → v ≤ most → ask v ≠ v)) (fun xv _ => (most + 1 - intOf xv).toNat)
  case atStart => exact ⟨1, rfl, Below.refl _ _, by omega, fun _ => HM.out.2, fun v h1 h2 => by omega⟩
  case round =>
    obtain ⟨x, rfl, hb, hx1, HX⟩ := hrel
    have HB : Hid (Below w.heap.size w wr) := hb
    by_cases hle : x ≤ most
    · have HC := HS.out wr hb x hx1 hle
      obtain ⟨y, hy⟩ : ∃ y, ask x = y := ⟨_, rfl⟩
      have HY : Hid (ask x = y) := hy
      rw [hy] at HC
      clear hy hb
      by_cases hxy : y = x
      · subst hxy
        go_wp2_with (go_at_call 97; refine HC.mono ?_; rintro r w5 ⟨rfl, hb5⟩)
        refine bodyPost_ret (settleM_ends rfl rfl) rfl ?_
        have e : wOf ask 0 most = y + 0 := wOf_hit (Int.le_refl _) hx1 (by omega) HY.out fun v hv1 hv2 => HX.out.2 v hv1 hv2 (by omega)
        rw [HT.out] at e
        refine ⟨?_, below_seq HB.out hb5⟩
        rw [decide_eq_true (show tot ≠ 0 by omega), show tot = y by omega]
        rfl
      · have hb1 : (y == x) = false := beq_eq_false_iff_ne.2 hxy
        go_wp2_with (go_at_call 97; refine HC.mono ?_; rintro r w5 ⟨rfl, hb5⟩)
        have g1 := HX.out.1 hle
        have g2 := HY.out
        refine ⟨⟨y, rfl, below_seq HB.out hb5, by omega, fun hy => ?_, fun v hv1 hv2 hv3 he => ?_⟩, ?_⟩
        · have := HM.out.1 x y hx1 (by omega) hy
          omega
        · by_cases hvx : v < x
          · exact HX.out.2 v hv1 hvx hv3 he
          · have := HM.out.1 x v hx1 (by omega) hv3
            omega
        · simp [intOf]
          omega
    · go_wp2_with fail
      refine bodyPost_ret (settleM_ends rfl rfl) rfl ?_
      have e : wOf ask 0 most = 0 := wOf_none fun v hv1 hv2 => HX.out.2 v hv1 (by omega) (by omega)
      rw [HT.out] at e
      subst e
      exact ⟨rfl, HB.out⟩

set_option maxRecDepth 20000 in
set_option maxHeartbeats 4000000 in
theorem settle_i_any (w : World) (most : Int) (p0 p1 p2 : Value) (ask : Int → Int)
    (HA : ∀ W, Below w.heap.size w W → ∀ z, 1 ≤ z → z ≤ most → Calls Tryz.prog 100 #[.int .i64 z, p0, p1, p2] W fun r w' => r = .returned (.int .i64 (ask z)) ∧ Below W.heap.size W w')
    (hup : 1 ≤ ask 1) (mono : ∀ x y, 1 ≤ x → x ≤ y → y ≤ most → ask x ≤ ask y) :
    Calls Tryz.prog 96 #[.int .i64 most, .func (Fn.func 100) #[] #[p0, p1, p2]] w fun r w' => r = .returned (.tuple #[.int .i64 (wOf ask 0 most), .bool (decide (wOf ask 0 most ≠ 0))]) ∧ Below w.heap.size w w' := by
  have HS : Hid (∀ W, Below w.heap.size w W → ∀ z, 1 ≤ z → z ≤ most → Calls Tryz.prog 100 #[.int .i64 z, p0, p1, p2] W fun r w' => r = .returned (.int .i64 (ask z)) ∧ Below W.heap.size W w') := HA
  have HM : Hid ((∀ x y, 1 ≤ x → x ≤ y → y ≤ most → ask x ≤ ask y) ∧ 1 ≤ ask 1) := ⟨mono, hup⟩
  obtain ⟨tot, htot⟩ : ∃ tot, wOf ask 0 most = tot := ⟨_, rfl⟩
  have HT : Hid (wOf ask 0 most = tot) := htot
  rw [htot]
  clear HA mono hup htot
  go_enter Tryz.func96, Tryz.ntmps96
  go_wp2_with fail
  go_loopw [6] (fun xv wr => ∃ x : Int, xv = .int .i64 x ∧ Below w.heap.size w wr ∧ 1 ≤ x ∧ Hid ((x ≤ most → x ≤ ask x) ∧ ∀ v, 1 ≤ v → v < x → v ≤ most → ask v ≠ v)) (fun xv _ => (most + 1 - intOf xv).toNat)
  case atStart => exact ⟨1, rfl, Below.refl _ _, by omega, fun _ => HM.out.2, fun v h1 h2 => by omega⟩
  case round =>
    obtain ⟨x, rfl, hb, hx1, HX⟩ := hrel
    have HB : Hid (Below w.heap.size w wr) := hb
    by_cases hle : x ≤ most
    · have HC := HS.out wr hb x hx1 hle
      obtain ⟨y, hy⟩ : ∃ y, ask x = y := ⟨_, rfl⟩
      have HY : Hid (ask x = y) := hy
      rw [hy] at HC
      clear hy hb
      by_cases hxy : y = x
      · subst hxy
        go_wp2_with (go_at_call 100; refine HC.mono ?_; rintro r w5 ⟨rfl, hb5⟩)
        refine bodyPost_ret (settleM_ends rfl rfl) rfl ?_
        have e : wOf ask 0 most = y + 0 := wOf_hit (Int.le_refl _) hx1 (by omega) HY.out fun v hv1 hv2 => HX.out.2 v hv1 hv2 (by omega)
        rw [HT.out] at e
        refine ⟨?_, below_seq HB.out hb5⟩
        rw [decide_eq_true (show tot ≠ 0 by omega), show tot = y by omega]
        rfl
      · have hb1 : (y == x) = false := beq_eq_false_iff_ne.2 hxy
        go_wp2_with (go_at_call 100; refine HC.mono ?_; rintro r w5 ⟨rfl, hb5⟩)
        have g1 := HX.out.1 hle
        have g2 := HY.out
        refine ⟨⟨y, rfl, below_seq HB.out hb5, by omega, fun hy => ?_, fun v hv1 hv2 hv3 he => ?_⟩, ?_⟩
        · have := HM.out.1 x y hx1 (by omega) hy
          omega
        · by_cases hvx : v < x
          · exact HX.out.2 v hv1 hvx hv3 he
          · have := HM.out.1 x v hx1 (by omega) hv3
            omega
        · simp [intOf]
          omega
    · go_wp2_with fail
      refine bodyPost_ret (settleM_ends rfl rfl) rfl ?_
      have e : wOf ask 0 most = 0 := wOf_none fun v hv1 hv2 => HX.out.2 v hv1 (by omega) (by omega)
      rw [HT.out] at e
      subst e
      exact ⟨rfl, HB.out⟩

end Go.Proofs.YtccoobcggbbciaiGreatDoor
namespace Go.Proofs.YtccoobcggbbciaiGreatDoor
open Go.ChangeShapes Go.WideShapes Go.ChangeAt Go.RowKit

/-- How long one takes at worst where all is well; 0: more than it has. -/
def wellF (l : List Cr) (x : Cr) : Int := wOf (fun z => x.c + aheadF (upC z) x.p l) 0 x.d
/-- How long a high one takes at worst where the mode turns; 0: more than it has. -/
def illF (l : List Cr) (x : Cr) : Int := wOf (fun z => x.h + aheadF (upI (wellF l x) z) x.p l) 0 x.d
/-- worst's three answers. -/
def worstM (l : List Cr) (x : Cr) : Int × Int × Bool := if wellF l x = 0 then (0, 0, false) else if x.hi = false then (wellF l x, 0, true) else (wellF l x, illF l x, decide (illF l x ≠ 0))

/-- What worst holds: the set, the task, and the number that it has found. -/
structure WS (w W : World) (v : Value) (xc xh xt xd : Int) (xi : Bool) (xp : Int) (n : Int) : Prop where
  bel : Below w.heap.size w W
  b1 : W.heap[w.heap.size]? = some (.cells #[v] 22 (0, 0))
  b2 : W.heap[w.heap.size + 1]? = some (.cells #[.int .i64 xc, .int .i64 xh, .int .i64 xt, .int .i64 xd, .bool xi, .int .i64 xp] 35 (0, 0))
  b3 : W.heap[w.heap.size + 1 + 1]? = some (.cells #[.int .i64 n] 3 (0, 0))

theorem WS.grow {w W W' : World} {v : Value} {xc xh xt xd : Int} {xi : Bool} {xp n : Int} (h : WS w W v xc xh xt xd xi xp n) (hb : Below W.heap.size W W') : WS w W' v xc xh xt xd xi xp n :=
  ⟨below_seq h.bel hb, (hb.block _ (Array.getElem?_eq_some_iff.1 h.b1).1).trans h.b1, (hb.block _ (Array.getElem?_eq_some_iff.1 h.b2).1).trans h.b2, (hb.block _ (Array.getElem?_eq_some_iff.1 h.b3).1).trans h.b3⟩

theorem WS.start (w : World) (v : Value) (xc xh xt xd : Int) (xi : Bool) (xp : Int) : WS w (((w.alloc (.cells #[v] 22)).alloc (.cells #[.int .i64 xc, .int .i64 xh, .int .i64 xt, .int .i64 xd, .bool xi, .int .i64 xp] 35)).alloc (.cells #[.int .i64 0] 3)) v xc xh xt xd xi xp 0 := by
  refine ⟨below_seq (below_seq (below_new _ _) (below_new _ _)) (below_new _ _), ?_, ?_, ?_⟩
  · exact (Below.heap_alloc _ _ _ (by simp; omega)).trans ((Below.heap_alloc _ _ _ (by simp)).trans (heap_alloc_new _ _))
  · refine (Below.heap_alloc _ _ _ (by simp)).trans ?_
    have := heap_alloc_new (w.alloc (.cells #[v] 22)) (.cells #[.int .i64 xc, .int .i64 xh, .int .i64 xt, .int .i64 xd, .bool xi, .int .i64 xp] 35)
    simpa using this
  · have := heap_alloc_new ((w.alloc (.cells #[v] 22)).alloc (.cells #[.int .i64 xc, .int .i64 xh, .int .i64 xt, .int .i64 xd, .bool xi, .int .i64 xp] 35)) (.cells #[.int .i64 0] 3)
    simpa using this

theorem WS.set {w W : World} {v : Value} {xc xh xt xd : Int} {xi : Bool} {xp n : Int} (h : WS w W v xc xh xt xd xi xp n) (m : Int) : WS w (W.setCell ⟨w.heap.size + 1 + 1, 0, none⟩ (.int .i64 m)) v xc xh xt xd xi xp m :=
  ⟨h.bel.setCell (p := ⟨_, _, _⟩) (by show _ ≤ _ + 1 + 1; omega) _, (Below.heap_setCell _ _ _ _ (by show _ ≠ _ + 1 + 1; omega)).trans h.b1, (Below.heap_setCell _ _ _ _ (by show _ + 1 ≠ _ + 1 + 1; omega)).trans h.b2, by rw [setCell_at h.b3]; rfl⟩

theorem WS.cells {w W : World} {v : Value} {xc xh xt xd : Int} {xi : Bool} {xp n : Int} (h : WS w W v xc xh xt xd xi xp n) :
    (W.cell? ⟨w.heap.size + 1, 0, none⟩ = some (.int .i64 xc) ∧ W.cell? ⟨w.heap.size + 1, 1, none⟩ = some (.int .i64 xh) ∧ W.cell? ⟨w.heap.size + 1, 2, none⟩ = some (.int .i64 xt) ∧ W.cell? ⟨w.heap.size + 1, 3, none⟩ = some (.int .i64 xd) ∧ W.cell? ⟨w.heap.size + 1, 4, none⟩ = some (.bool xi) ∧ W.cell? ⟨w.heap.size + 1, 5, none⟩ = some (.int .i64 xp)) ∧ W.cell? ⟨w.heap.size, 0, none⟩ = some v ∧ W.cell? ⟨w.heap.size + 1 + 1, 0, none⟩ = some (.int .i64 n) ∧ W.frozen? ⟨w.heap.size + 1 + 1, 0, none⟩ = false ∧ w.heap.size + 1 + 1 < W.heap.size := by
  obtain ⟨k1, -, -⟩ := cells_of (l := [_]) h.b1
  obtain ⟨k2, -, -⟩ := cells_of (l := [_, _, _, _, _, _]) h.b2
  obtain ⟨k3, f3, l3⟩ := cells_of (l := [_]) h.b3
  exact ⟨⟨k2 0 _ rfl, k2 1 _ rfl, k2 2 _ rfl, k2 3 _ rfl, k2 4 _ rfl, k2 5 _ rfl⟩, k1 0 _ rfl, k3 0 _ rfl, f3 0, l3⟩

theorem worstM_ends {w : World} {g : Nat} {x y z : Value} {a : Act} (h : w.cell? ⟨g, 0, none⟩ = some x) (h0 : a.tmps[4]?.getD undef = .pointer (some ⟨g, 0, none⟩)) (h1 : a.tmps[5]?.getD undef = y) (h2 : a.tmps[6]?.getD undef = z) : (results Tryz.f62 a.tmps).run Tryz.prog w = .ok (.tuple #[x, y, z]) w := by
  simp [results, Tryz.results62, go_sem, h, h0, h1, h2]

theorem settleW (w W : World) (l : List Cr) (v : Value) (xc xh xt xd : Int) (xi : Bool) (xp : Int) (n : Int) (hl8 : l.length ≤ 8) (hok : ∀ x ∈ l, okCr x) (hx : okCr ⟨xc, xh, xt, xd, xi, xp⟩) (hv : RowSl Cr.vals w l v) (h : WS w W v xc xh xt xd xi xp n) :
    Calls Tryz.prog 96 #[.int .i64 xd, .func (Fn.func 97) #[] #[.pointer (some ⟨w.heap.size + 1, 0, none⟩), .pointer (some ⟨w.heap.size, 0, none⟩)]] W fun r w' => r = .returned (.tuple #[.int .i64 (wOf (fun z => xc + aheadF (upC z) xp l) 0 xd), .bool (decide (wOf (fun z => xc + aheadF (upC z) xp l) 0 xd ≠ 0))]) ∧ Below W.heap.size W w' := by
  obtain ⟨g1, g2, g3, g4, g5, g6, g7⟩ := hx
  dsimp only at g1 g2 g3 g4 g5 g6 g7
  refine settle_w_any W xd _ _ (fun z => xc + aheadF (upC z) xp l) (fun W' hb z h1 h2 => ?_) ?_ (fun x y _ hxy _ => ?_)
  · have hs := h.grow hb
    obtain ⟨⟨c0, c1, c2, c3, c4, c5⟩, c6, -⟩ := hs.cells
    exact askw_any W' l v xc xh xt xd xi xp _ _ z hl8 hok (by omega) (by omega) (hv.below hs.bel) c0 c1 c2 c3 c4 c5 c6
  · have := aheadF_range (f := upC 1) (p := xp) l (fun y hy => upw_range (hok y hy) (by omega))
    omega
  · have := aheadF_mono (f := upC x) (g := upC y) (p := xp) l (fun m hm => upC_mono (hok m hm) hxy)
    omega

theorem settleI (w W : World) (l : List Cr) (v : Value) (xc xh xt xd : Int) (xi : Bool) (xp : Int) (wl : Int) (hwl : 0 ≤ wl ∧ wl ≤ 10000) (hl8 : l.length ≤ 8) (hok : ∀ x ∈ l, okCr x) (hx : okCr ⟨xc, xh, xt, xd, xi, xp⟩) (hv : RowSl Cr.vals w l v) (h : WS w W v xc xh xt xd xi xp wl) :
    Calls Tryz.prog 96 #[.int .i64 xd, .func (Fn.func 100) #[] #[.pointer (some ⟨w.heap.size + 1, 0, none⟩), .pointer (some ⟨w.heap.size, 0, none⟩), .pointer (some ⟨w.heap.size + 1 + 1, 0, none⟩)]] W fun r w' => r = .returned (.tuple #[.int .i64 (wOf (fun z => xh + aheadF (upI wl z) xp l) 0 xd), .bool (decide (wOf (fun z => xh + aheadF (upI wl z) xp l) 0 xd ≠ 0))]) ∧ Below W.heap.size W w' := by
  obtain ⟨g1, g2, g3, g4, g5, g6, g7⟩ := hx
  dsimp only at g1 g2 g3 g4 g5 g6 g7
  refine settle_i_any W xd _ _ _ (fun z => xh + aheadF (upI wl z) xp l) (fun W' hb z h1 h2 => ?_) ?_ (fun x y _ hxy _ => ?_)
  · have hs := h.grow hb
    obtain ⟨⟨c0, c1, c2, c3, c4, c5⟩, c6, c7, -⟩ := hs.cells
    exact aski_any W' l v xc xh xt xd xi xp _ _ _ wl z hl8 hok (by omega) (by omega) hwl (hv.below hs.bel) c0 c1 c2 c3 c4 c5 c6 c7
  · have := aheadF_range (f := upI wl 1) (p := xp) l (fun y hy => upi_range (hok y hy) (by omega) hwl)
    omega
  · have := aheadF_mono (f := upI wl x) (g := upI wl y) (p := xp) l (fun m hm => upI_mono (hok m hm) hxy)
    omega

set_option maxRecDepth 20000 in
set_option maxHeartbeats 4000000 in
theorem worstM_any (w : World) (l : List Cr) (v : Value) (x : Cr) (hl8 : l.length ≤ 8) (hok : ∀ x ∈ l, okCr x) (hx : okCr x) (hv : RowSl Cr.vals w l v) :
    Calls Tryz.prog 62 #[v, x.val] w fun r w' => r = .returned (.tuple #[.int .i64 (worstM l x).1, .int .i64 (worstM l x).2.1, .bool (worstM l x).2.2]) ∧ Below w.heap.size w w' := by
  obtain ⟨xc, xh, xt, xd, xi, xp⟩ := x
  have hd : 0 ≤ xd ∧ xd ≤ 10000 := by
    obtain ⟨g1, g2, g3, g4, g5, g6, g7⟩ := hx
    dsimp only at g1 g2 g3 g4 g5 g6 g7
    omega
  have hwr : 0 ≤ wOf (fun z => xc + aheadF (upC z) xp l) 0 xd ∧ wOf (fun z => xc + aheadF (upC z) xp l) 0 xd ≤ xd := wOf_range (Int.le_refl _) hd.1
  have HC := fun W n (h : WS w W v xc xh xt xd xi xp n) => settleW w W l v xc xh xt xd xi xp n hl8 hok hx hv h
  have HI := fun W wl (hwl : 0 ≤ wl ∧ wl ≤ 10000) (h : WS w W v xc xh xt xd xi xp wl) => settleI w W l v xc xh xt xd xi xp wl hwl hl8 hok hx hv h
  have HF : Hid (worstM l ⟨xc, xh, xt, xd, xi, xp⟩ = if wOf (fun z => xc + aheadF (upC z) xp l) 0 xd = 0 then (0, 0, false) else if xi = false then (wOf (fun z => xc + aheadF (upC z) xp l) 0 xd, 0, true) else (wOf (fun z => xc + aheadF (upC z) xp l) 0 xd, wOf (fun z => xh + aheadF (upI (wOf (fun z => xc + aheadF (upC z) xp l) 0 xd) z) xp l) 0 xd, decide (wOf (fun z => xh + aheadF (upI (wOf (fun z => xc + aheadF (upC z) xp l) 0 xd) z) xp l) 0 xd ≠ 0))) := rfl
  obtain ⟨ad, c, rfl⟩ := hv.len
  have H0 : Hid (WS w (((w.alloc (.cells #[.slice ad l.length c] 22)).alloc (.cells #[.int .i64 xc, .int .i64 xh, .int .i64 xt, .int .i64 xd, .bool xi, .int .i64 xp] 35)).alloc (.cells #[.int .i64 0] 3)) (.slice ad l.length c) xc xh xt xd xi xp 0) := WS.start _ _ _ _ _ _ _ _
  unfold Cr.val
  dsimp only
  clear hv hok
  generalize wOf (fun z => xc + aheadF (upC z) xp l) 0 xd = wl at *
  obtain ⟨⟨c0, c1, c2, c3, c4, c5⟩, c6, c7, f7, l7⟩ := H0.out.cells
  have HCH : Hid (∀ W n, WS w W (.slice ad l.length c) xc xh xt xd xi xp n → Calls Tryz.prog 96 #[.int .i64 xd, .func (Fn.func 97) #[] #[.pointer (some ⟨w.heap.size + 1, 0, none⟩), .pointer (some ⟨w.heap.size, 0, none⟩)]] W fun r w' => r = .returned (.tuple #[.int .i64 wl, .bool (decide (wl ≠ 0))]) ∧ Below W.heap.size W w') := HC
  have HIH : Hid (∀ W wl, (0 ≤ wl ∧ wl ≤ 10000) → WS w W (.slice ad l.length c) xc xh xt xd xi xp wl → Calls Tryz.prog 96 #[.int .i64 xd, .func (Fn.func 100) #[] #[.pointer (some ⟨w.heap.size + 1, 0, none⟩), .pointer (some ⟨w.heap.size, 0, none⟩), .pointer (some ⟨w.heap.size + 1 + 1, 0, none⟩)]] W fun r w' => r = .returned (.tuple #[.int .i64 (wOf (fun z => xh + aheadF (upI wl z) xp l) 0 xd), .bool (decide (wOf (fun z => xh + aheadF (upI wl z) xp l) 0 xd ≠ 0))]) ∧ Below W.heap.size W w') := HI
  clear HC HI
  by_cases hz : wl = 0
  · subst hz
    rw [HF.out, if_pos rfl]
    have hd0 : decide ((0 : Int) ≠ 0) = false := by decide
    rw [hd0] at HCH
    go_enter Tryz.func62, Tryz.ntmps62
    go_wp2_with (go_at_call 96; refine (HCH.out _ _ H0.out).mono ?_; rintro r w5 ⟨rfl, hb5⟩; have H5 : Hid (WS w w5 (.slice ad l.length c) xc xh xt xd xi xp 0) := H0.out.grow hb5; obtain ⟨-, -, c7', f7', l7'⟩ := H5.out.cells; clear hb5)
    refine bodyPost_ret (worstM_ends (g := w.heap.size + 1 + 1) (((H5.out.set 0).set 0).cells.2.2.1) rfl rfl rfl) rfl ?_
    exact ⟨rfl, ((H5.out.set 0).set 0).bel⟩
  · have hd0 : decide (wl ≠ 0) = true := by simpa using hz
    rw [hd0] at HCH
    cases hxi : xi
    · subst hxi
      rw [HF.out, if_neg hz, if_pos rfl]
      go_enter Tryz.func62, Tryz.ntmps62
      go_wp2_with (go_at_call 96; refine (HCH.out _ _ H0.out).mono ?_; rintro r w5 ⟨rfl, hb5⟩; have H5 : Hid (WS w w5 (.slice ad l.length c) xc xh xt xd false xp 0) := H0.out.grow hb5; obtain ⟨⟨d0, d1, d2, d3, d4, d5⟩, d6, c7', f7', l7'⟩ := H5.out.cells; clear hb5)
      refine bodyPost_ret (worstM_ends (g := w.heap.size + 1 + 1) (((H5.out.set wl).set wl).cells.2.2.1) rfl rfl rfl) rfl ?_
      exact ⟨rfl, ((H5.out.set wl).set wl).bel⟩
    · subst hxi
      rw [HF.out, if_neg hz, if_neg (by decide)]
      go_enter Tryz.func62, Tryz.ntmps62
      go_wp2_with (first | (go_at_call 96; refine (HIH.out _ wl (by omega) H5.out).mono ?_; rintro r w6 ⟨rfl, hb6⟩; have H6 : Hid (WS w w6 (.slice ad l.length c) xc xh xt xd true xp wl) := H5.out.grow hb6; obtain ⟨⟨q0, q1, q2, q3, q4, q5⟩, q6, c7'', f7'', l7''⟩ := H6.out.cells; clear hb6) | (go_at_call 96; refine (HCH.out _ _ H0.out).mono ?_; rintro r w5 ⟨rfl, hb5⟩; have H5 : Hid (WS w (w5.setCell ⟨w.heap.size + 1 + 1, 0, none⟩ (.int .i64 wl)) (.slice ad l.length c) xc xh xt xd true xp wl) := (H0.out.grow hb5).set wl; obtain ⟨⟨d0, d1, d2, d3, d4, d5⟩, d6, c7', f7', l7'⟩ := (H0.out.grow hb5).cells; clear hb5))
      refine bodyPost_ret (worstM_ends (g := w.heap.size + 1 + 1) ((H6.out.set wl).cells.2.2.1) rfl rfl rfl) rfl ?_
      exact ⟨by simp, (H6.out.set wl).bel⟩
end Go.Proofs.YtccoobcggbbciaiGreatDoor
