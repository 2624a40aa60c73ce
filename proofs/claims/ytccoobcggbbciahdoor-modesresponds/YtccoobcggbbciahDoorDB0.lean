import Derived.Test.YtccoobcggbbciahDoorMH
namespace Go.Proofs.YtccoobcggbbciahDoor
open Go.ChangeShapes Go.WideShapes Go.ChangeAt Go.RowKit

set_option maxRecDepth 20000 in
theorem up_any (w : World) (a b : Int) (h0 : 0 ≤ a) (h1 : a ≤ 100000) (h2 : 1 ≤ b) (h3 : b ≤ 10000) : Calls Tryd.prog 19 #[.int .i64 a, .int .i64 b] w fun r w' => r = .returned (.int .i64 ((a + b - 1) / b)) ∧ w' = w := by
  rw [← up_eq (a := a) (b := b) (by omega)]
  have e := Int.mul_ediv_add_emod a b
  have e1 := Int.emod_nonneg a (show b ≠ 0 by omega)
  have q0 : 0 ≤ a / b := Int.ediv_nonneg h0 (by omega)
  have q1 : a / b ≤ a := Int.ediv_le_self b h0
  have e5 : a.tdiv b = a / b := Int.tdiv_eq_ediv_of_nonneg h0
  rw [Int.mul_comm] at e
  have e6 : IntKind.i64.wrap (a / b) = a / b := by rw [IntKind.wrap_i64]; omega
  have e7 : IntKind.i64.wrap (a / b * b) = a / b * b := by rw [IntKind.wrap_i64]; have : 0 ≤ a / b * b := Int.mul_nonneg q0 (by omega); omega
  have e8 : IntKind.i64.wrap (a / b + 1) = a / b + 1 := by rw [IntKind.wrap_i64]; omega
  have hb : (b == 0) = false := by simp; omega
  have hb' : ¬ b = 0 := by omega
  by_cases hlt : a / b * b < a
  · rw [if_pos hlt]
    clear e
    go_enter Tryd.func19, Tryd.ntmps19
    go_wp2_with fail
    go_ret
    exact ⟨rfl, rfl⟩
  · rw [if_neg hlt]
    clear e
    go_enter Tryd.func19, Tryd.ntmps19
    go_wp2_with fail
    go_ret
    exact ⟨rfl, rfl⟩

theorem aheadF_snoc (f : Cr → Int) (p : Int) (x : Cr) : ∀ l : List Cr, aheadF f p (l ++ [x]) = aheadF f p l + (if p < x.p then f x else 0)
  | [] => by simp [aheadF]
  | y :: r => by rw [List.cons_append, aheadF, aheadF_snoc f p x r, aheadF]; omega

theorem sum_range1 {z p : Int} (hz : 0 ≤ z ∧ z ≤ 10000) : ∀ l : List Cr, (∀ y ∈ l, okCr y) → 0 ≤ aheadF (upC z) p l ∧ aheadF (upC z) p l ≤ l.length * 200000000
  | [], _ => by simp [aheadF]
  | y :: r, h => by
    have ih := sum_range1 (p := p) hz r (fun q hq => h q (List.mem_cons_of_mem _ hq))
    have h1 := upw_range (h y List.mem_cons_self) hz
    rw [aheadF, List.length_cons]
    split <;> omega

theorem sum_range2 {wl z p : Int} (hz : 0 ≤ z ∧ z ≤ 10000) (hw : 0 ≤ wl ∧ wl ≤ 10000) : ∀ l : List Cr, (∀ y ∈ l, okCr y) → 0 ≤ aheadF (upI wl z) p l ∧ aheadF (upI wl z) p l ≤ l.length * 200000000
  | [], _ => by simp [aheadF]
  | y :: r, h => by
    have ih := sum_range2 (p := p) hz hw r (fun q hq => h q (List.mem_cons_of_mem _ hq))
    have h1 := upi_range (h y List.mem_cons_self) hz hw
    rw [aheadF, List.length_cons]
    split <;> omega

set_option maxRecDepth 20000 in
set_option maxHeartbeats 4000000 in
theorem need1_any (W : World) (l : List Cr) (v : Value) (x : Cr) (gt gl : Nat) (z : Int) (hl8 : l.length ≤ 8) (hok : ∀ y ∈ l, okCr y) (hx : okCr x) (hv : RowSl Cr.vals W l v) (hgt : W.heap[gt]? = some (.cells x.vals.toArray 27 (0, 0))) (hgl : W.cell? ⟨gl, 0, none⟩ = some v) (hz : 0 ≤ z ∧ z ≤ 10000) :
    Calls Tryd.prog 18 #[.int .i64 z, .pointer (some ⟨gt, 0, none⟩), .pointer (some ⟨gl, 0, none⟩)] W fun r w' => r = .returned (.int .i64 (x.c + aheadF (upC z) x.p l)) ∧ Below W.heap.size W w' := by
  have HV : Hid ((∀ y ∈ l, okCr y) ∧ RowSl Cr.vals W l v) := ⟨hok, hv⟩
  obtain ⟨ad, c, rfl⟩ := hv.len
  obtain ⟨xc, xh, xt, xd, xi, xp⟩ := x
  obtain ⟨ts, -, tl⟩ := cells_of (l := [_, _, _, _, _, _]) hgt
  have t0 := ts 0 _ rfl
  have t1 := ts 1 _ rfl
  have t5 := ts 5 _ rfl
  unfold okCr at hx
  dsimp only at hx ⊢
  clear ts hok hv hgt
  go_enter Tryd.func18, Tryd.ntmps18
  go_wp2_with fail
  go_loopw [5, 12] (fun sv iv wr => ∃ (j : Nat), j ≤ l.length ∧ iv = .int .i64 (j : Int) ∧ sv = .int .i64 (xc + aheadF (upC z) xp (l.take j)) ∧ Below W.heap.size W wr) (fun _ iv _ => l.length - (intOf iv).toNat)
  case atStart => exact ⟨0, Nat.zero_le _, rfl, by simp [aheadF], Below.refl _ _⟩
  case round =>
    obtain ⟨j, hj, rfl, rfl, hb⟩ := hrel
    by_cases hjl : j < l.length
    · obtain ⟨y, hy, -⟩ := drop_at hjl
      have hyo := HV.out.1 y (List.mem_of_getElem? hy)
      have hv1 := HV.out.2
      obtain ⟨ad', c', eq, -, -, hr⟩ := hv1
      cases eq
      rcases hr with h | ⟨ab, ao, rfl, hr⟩
      · rw [h] at hjl; simp at hjl
      obtain ⟨y0, y1, y2, y3, y4, y5⟩ := cr_at (fun q u hq => below_cell hb (hr q u hq)) hy
      have hsn : l.take (j + 1) = l.take j ++ [y] := by rw [List.take_add_one, hy]; rfl
      have hsum := sum_range1 (z := z) (p := xp) hz (l.take j) (fun q hq => HV.out.1 q (List.mem_of_mem_take hq))
      have htl : (l.take j).length ≤ 8 := by rw [List.length_take]; omega
      have hrg := upw_range hyo hz
      have HA : Hid (aheadF (upC z) xp (l.take (j + 1)) = aheadF (upC z) xp (l.take j) + (if xp < y.p then upC z y else 0)) := by
        have e : aheadF (upC z) xp (l.take (j + 1)) = aheadF (upC z) xp (l.take j) + (if xp < y.p then upC z y else 0) := by rw [hsn, aheadF_snoc]
        exact e
      unfold okCr at hyo
      have hbn := below_new wr (.cells #[.int .i64 y.c, .int .i64 y.h, .int .i64 y.t, .int .i64 y.d, .bool y.hi, .int .i64 y.p] 27)
      have d0 := cells_of (l := [_, _, _, _, _, _]) (heap_alloc_new wr (.cells #[.int .i64 y.c, .int .i64 y.h, .int .i64 y.t, .int .i64 y.d, .bool y.hi, .int .i64 y.p] 27))
      have yg0 := d0.1 0 _ rfl
      have yg1 := d0.1 1 _ rfl
      have yg2 := d0.1 2 _ rfl
      have yg4 := d0.1 4 _ rfl
      have yg5 := d0.1 5 _ rfl
      have ygl := d0.2.2
      have u5 := below_cell (below_seq hb hbn) t5
      have ul := World.block_lt_of_cell? _ _ u5
      have HB : Hid (Below W.heap.size W (wr.alloc (.cells #[.int .i64 y.c, .int .i64 y.h, .int .i64 y.t, .int .i64 y.d, .bool y.hi, .int .i64 y.p] 27))) := below_seq hb hbn
      obtain ⟨yc, yh, yt, yd, yi, yp⟩ := y
      dsimp only at y0 y1 y2 y3 y4 y5 yg0 yg1 yg2 yg4 yg5 hyo HA hrg HB ygl u5 ul
      have hji : (j : Int) < (l.length : Int) := by omega
      obtain ⟨A, hA⟩ : ∃ A, aheadF (upC z) xp (l.take j) = A := ⟨_, rfl⟩
      rw [hA] at HA hsum
      rw [hA]
      clear hr hy hsn hA hbn d0 hb
      unfold upC at hrg
      dsimp only at hrg
      go_upto_region 5 with fail
      clear y0 y1 y2 y3 y4 y5
      generalize (wr.alloc (.cells #[.int .i64 yc, .int .i64 yh, .int .i64 yt, .int .i64 yd, .bool yi, .int .i64 yp] 27)) = w5 at *
      obtain ⟨yg, hyg⟩ : ∃ yg, wr.heap.size = yg := ⟨_, rfl⟩
      rw [hyg] at yg0 yg1 yg2 yg4 yg5 ygl ⊢
      clear hyg
      by_cases hp : xp < yp
      · have hm : IntKind.i64.wrap ((z + yt - 1) / yt * yc) = (z + yt - 1) / yt * yc := by rw [IntKind.wrap_i64]; omega
        have ha : IntKind.i64.wrap (xc + A + (z + yt - 1) / yt * yc) = xc + A + (z + yt - 1) / yt * yc := by rw [IntKind.wrap_i64]; omega
        go_upto_region 6 with fail
        refine wp_region_noPanic ?_
        refine wp_region_held_drew (S := fun w' => w'.cell? ⟨yg, 2, none⟩ = some (.int .i64 yt) ∧ w'.cell? ⟨yg, 0, none⟩ = some (.int .i64 yc)) (by kernel_rfl) ⟨yg2, yg0⟩ (fun hHeld => ?_)
        refine take_at (i := 0) (n := 21) (v := ?_) rfl rfl (by kernel_rfl) (by kernel_rfl) (by kernel_rfl) (fun _ _ _ h => h) (Or.inl ⟨by rfl, ?_⟩) (by assumption) ?_
        rotate_left 1
        · intro wz hSw
          obtain ⟨s0, s1⟩ := hSw
          first | (go_simp; done) | (go_simp; with_reducible rfl)
        simp only [List.set_cons_zero, List.set_cons_succ]
        refine take_at (i := 1) (n := 22) (v := ?_) rfl rfl (by kernel_rfl) (by kernel_rfl) (by kernel_rfl) (fun _ _ _ h => h) (Or.inl ⟨by rfl, ?_⟩) (by assumption) ?_
        rotate_left 1
        · intro wz hSw
          obtain ⟨s0, s1⟩ := hSw
          first | (go_simp; done) | (go_simp; with_reducible rfl)
        simp only [List.set_cons_zero, List.set_cons_succ]
        refine take_at (i := 2) (n := 23) (v := ?_) rfl rfl (by kernel_rfl) (by kernel_rfl) (by kernel_rfl) (fun _ _ _ h => h) (Or.inl ⟨by rfl, ?_⟩) (by assumption) ?_
        rotate_left 1
        · intro wz hSw
          obtain ⟨s0, s1⟩ := hSw
          first | (go_simp; done) | (go_simp; with_reducible rfl)
        simp only [List.set_cons_zero, List.set_cons_succ]
        refine take_at (i := 3) (n := 24) (v := ?_) rfl rfl (by kernel_rfl) (by kernel_rfl) (by kernel_rfl) (fun _ _ _ h => h) (Or.inl ⟨by rfl, ?_⟩) (by assumption) ?_
        rotate_left 1
        · intro wz hSw
          obtain ⟨s0, s1⟩ := hSw
          first | (go_simp; done) | (go_simp; with_reducible rfl)
        simp only [List.set_cons_zero, List.set_cons_succ]
        refine take_at (i := 5) (n := 26) (v := ?_) rfl rfl (by kernel_rfl) (by kernel_rfl) (by kernel_rfl) (fun _ _ _ h => h) (Or.inl ⟨by rfl, ?_⟩) (by assumption) ?_
        rotate_left 1
        · intro wz hSw
          obtain ⟨s0, s1⟩ := hSw
          first | (go_simp; done) | (go_simp; with_reducible rfl)
        simp only [List.set_cons_zero, List.set_cons_succ]
        refine take_at (i := 6) (n := 27) (v := ?_) rfl rfl (by kernel_rfl) (by kernel_rfl) (by kernel_rfl) (fun _ _ _ h => h) (Or.inl ⟨by rfl, ?_⟩) (by assumption) ?_
        rotate_left 1
        · intro wz hSw
          obtain ⟨s0, s1⟩ := hSw
          first | (go_simp; done) | (go_simp; with_reducible rfl)
        simp only [List.set_cons_zero, List.set_cons_succ]
        refine wpAnyH_ready (rs := [4]) (by kernel_rfl) (by simp) ?_
        refine AllReadyH.cons rfl (fun K hK => ?_) AllReadyH.nil
        go_simp
        go_wp2_with (go_at_call 19; refine (up_any _ z yt hz.1 (by omega) (by omega) (by omega)).mono ?_; rintro r w9 ⟨rfl, hw9⟩; have hw8 := hw9.symm; subst hw8; clear hw9)
        refine hK.out _ _ ⟨yg2, yg0⟩ (fun hHeld => ?_)
        clear hK K
        try simp only [List.set_cons_zero, List.set_cons_succ]
        refine take_at (i := 7) (n := 28) (v := ?_) rfl rfl (by kernel_rfl) (by kernel_rfl) (by kernel_rfl) (fun _ _ _ h => h) (Or.inl ⟨by rfl, ?_⟩) (by assumption) ?_
        rotate_left 1
        · intro wz hSw
          obtain ⟨s0, s1⟩ := hSw
          first | (go_simp; done) | (go_simp; with_reducible rfl)
        simp only [List.set_cons_zero, List.set_cons_succ]
        refine take_at (i := 8) (n := 29) (v := ?_) rfl rfl (by kernel_rfl) (by kernel_rfl) (by kernel_rfl) (fun _ _ _ h => h) (Or.inl ⟨by rfl, ?_⟩) (by assumption) ?_
        rotate_left 1
        · intro wz hSw
          obtain ⟨s0, s1⟩ := hSw
          first | (go_simp; done) | (go_simp; with_reducible rfl)
        simp only [List.set_cons_zero, List.set_cons_succ]
        refine take_at (i := 9) (n := 5) (v := ?_) rfl rfl (by kernel_rfl) (by kernel_rfl) (by kernel_rfl) (fun _ _ _ h => h) (Or.inl ⟨by rfl, ?_⟩) (by assumption) ?_
        rotate_left 1
        · intro wz hSw
          obtain ⟨s0, s1⟩ := hSw
          first | (go_simp; done) | (go_simp; with_reducible rfl)
        simp only [List.set_cons_zero, List.set_cons_succ]
        refine wpAnyH_done (by kernel_rfl) ?_ _
        refine NoPanic.normal ?_
        clear hHeld
        go_wp2_with fail
        refine ⟨⟨j + 1, by omega, by simp, ?_, HB.out.drew⟩, by simp [intOf]; omega⟩
        congr 1
        rw [HA.out, if_pos hp]
        unfold upC
        dsimp only
        omega
      · go_wp2_with fail
        refine ⟨⟨j + 1, by omega, by simp, ?_, HB.out⟩, by simp [intOf]; omega⟩
        congr 1
        rw [HA.out, if_neg hp]
        omega
    · have hje : j = l.length := by omega
      subst hje
      rw [List.take_length]
      have HE : Hid (Below W.heap.size W wr) := hb
      clear hb
      go_wp2_with fail
      go_ret
      exact ⟨rfl, HE.out⟩

set_option maxRecDepth 20000 in
set_option maxHeartbeats 4000000 in
theorem need2_any (W : World) (l : List Cr) (v : Value) (x : Cr) (gt gl : Nat) (z : Int) (gw : Nat) (wl : Int) (hgw : W.cell? ⟨gw, 0, none⟩ = some (.int .i64 wl)) (hwl : 0 ≤ wl ∧ wl ≤ 10000) (hl8 : l.length ≤ 8) (hok : ∀ y ∈ l, okCr y) (hx : okCr x) (hv : RowSl Cr.vals W l v) (hgt : W.heap[gt]? = some (.cells x.vals.toArray 27 (0, 0))) (hgl : W.cell? ⟨gl, 0, none⟩ = some v) (hz : 0 ≤ z ∧ z ≤ 10000) :
    Calls Tryd.prog 20 #[.int .i64 z, .pointer (some ⟨gt, 0, none⟩), .pointer (some ⟨gl, 0, none⟩), .pointer (some ⟨gw, 0, none⟩)] W fun r w' => r = .returned (.int .i64 (x.h + aheadF (upI wl z) x.p l)) ∧ Below W.heap.size W w' := by
  have HV : Hid ((∀ y ∈ l, okCr y) ∧ RowSl Cr.vals W l v) := ⟨hok, hv⟩
  obtain ⟨ad, c, rfl⟩ := hv.len
  obtain ⟨xc, xh, xt, xd, xi, xp⟩ := x
  obtain ⟨ts, -, tl⟩ := cells_of (l := [_, _, _, _, _, _]) hgt
  have t0 := ts 0 _ rfl
  have t1 := ts 1 _ rfl
  have t5 := ts 5 _ rfl
  unfold okCr at hx
  dsimp only at hx ⊢
  clear ts hok hv hgt
  go_enter Tryd.func20, Tryd.ntmps20
  go_wp2_with fail
  go_loopw [6, 13] (fun sv iv wr => ∃ (j : Nat), j ≤ l.length ∧ iv = .int .i64 (j : Int) ∧ sv = .int .i64 (xh + aheadF (upI wl z) xp (l.take j)) ∧ Below W.heap.size W wr) (fun _ iv _ => l.length - (intOf iv).toNat)
  case atStart => exact ⟨0, Nat.zero_le _, rfl, by simp [aheadF], Below.refl _ _⟩
  case round =>
    obtain ⟨j, hj, rfl, rfl, hb⟩ := hrel
    by_cases hjl : j < l.length
    · obtain ⟨y, hy, -⟩ := drop_at hjl
      have hyo := HV.out.1 y (List.mem_of_getElem? hy)
      have hv1 := HV.out.2
      obtain ⟨ad', c', eq, -, -, hr⟩ := hv1
      cases eq
      rcases hr with h | ⟨ab, ao, rfl, hr⟩
      · rw [h] at hjl; simp at hjl
      obtain ⟨y0, y1, y2, y3, y4, y5⟩ := cr_at (fun q u hq => below_cell hb (hr q u hq)) hy
      have hsn : l.take (j + 1) = l.take j ++ [y] := by rw [List.take_add_one, hy]; rfl
      have hsum := sum_range2 (wl := wl) (z := z) (p := xp) hz hwl (l.take j) (fun q hq => HV.out.1 q (List.mem_of_mem_take hq))
      have htl : (l.take j).length ≤ 8 := by rw [List.length_take]; omega
      have hrg := upi_range hyo hz hwl
      have HA : Hid (aheadF (upI wl z) xp (l.take (j + 1)) = aheadF (upI wl z) xp (l.take j) + (if xp < y.p then upI wl z y else 0)) := by
        have e : aheadF (upI wl z) xp (l.take (j + 1)) = aheadF (upI wl z) xp (l.take j) + (if xp < y.p then upI wl z y else 0) := by rw [hsn, aheadF_snoc]
        exact e
      unfold okCr at hyo
      have hbn := below_new wr (.cells #[.int .i64 y.c, .int .i64 y.h, .int .i64 y.t, .int .i64 y.d, .bool y.hi, .int .i64 y.p] 27)
      have d0 := cells_of (l := [_, _, _, _, _, _]) (heap_alloc_new wr (.cells #[.int .i64 y.c, .int .i64 y.h, .int .i64 y.t, .int .i64 y.d, .bool y.hi, .int .i64 y.p] 27))
      have yg0 := d0.1 0 _ rfl
      have yg1 := d0.1 1 _ rfl
      have yg2 := d0.1 2 _ rfl
      have yg4 := d0.1 4 _ rfl
      have yg5 := d0.1 5 _ rfl
      have ygl := d0.2.2
      have u5 := below_cell (below_seq hb hbn) t5
      have ul := World.block_lt_of_cell? _ _ u5
      have uw := below_cell (below_seq hb hbn) hgw
      have HB : Hid (Below W.heap.size W (wr.alloc (.cells #[.int .i64 y.c, .int .i64 y.h, .int .i64 y.t, .int .i64 y.d, .bool y.hi, .int .i64 y.p] 27))) := below_seq hb hbn
      obtain ⟨yc, yh, yt, yd, yi, yp⟩ := y
      dsimp only at y0 y1 y2 y3 y4 y5 yg0 yg1 yg2 yg4 yg5 hyo HA hrg HB ygl u5 ul uw
      have hji : (j : Int) < (l.length : Int) := by omega
      obtain ⟨A, hA⟩ : ∃ A, aheadF (upI wl z) xp (l.take j) = A := ⟨_, rfl⟩
      rw [hA] at HA hsum
      rw [hA]
      clear hr hy hsn hA hbn d0 hb
      unfold upI at hrg
      dsimp only at hrg
      go_upto_region 5 with fail
      clear y0 y1 y2 y3 y4 y5
      generalize (wr.alloc (.cells #[.int .i64 yc, .int .i64 yh, .int .i64 yt, .int .i64 yd, .bool yi, .int .i64 yp] 27)) = w5 at *
      obtain ⟨yg, hyg⟩ : ∃ yg, wr.heap.size = yg := ⟨_, rfl⟩
      rw [hyg] at yg0 yg1 yg2 yg4 yg5 ygl ⊢
      clear hyg
      by_cases hp : xp < yp
      · cases yi with
        | true =>
          rw [if_pos rfl] at hrg
          have hm : IntKind.i64.wrap ((z + yt - 1) / yt * yh) = (z + yt - 1) / yt * yh := by rw [IntKind.wrap_i64]; omega
          have ha : IntKind.i64.wrap (xh + A + (z + yt - 1) / yt * yh) = xh + A + (z + yt - 1) / yt * yh := by rw [IntKind.wrap_i64]; omega
          go_upto_region 6 with fail
          refine wp_region_noPanic ?_
          refine wp_region_held_drew (S := fun w' => w'.cell? ⟨yg, 2, none⟩ = some (.int .i64 yt) ∧ w'.cell? ⟨yg, 1, none⟩ = some (.int .i64 yh)) (by kernel_rfl) ⟨yg2, yg1⟩ (fun hHeld => ?_)
          refine take_at (i := 0) (n := 26) (v := ?_) rfl rfl (by kernel_rfl) (by kernel_rfl) (by kernel_rfl) (fun _ _ _ h => h) (Or.inl ⟨by rfl, ?_⟩) (by assumption) ?_
          rotate_left 1
          · intro wz hSw
            obtain ⟨s0, s1⟩ := hSw
            first | (go_simp; done) | (go_simp; with_reducible rfl)
          simp only [List.set_cons_zero, List.set_cons_succ]
          refine take_at (i := 1) (n := 27) (v := ?_) rfl rfl (by kernel_rfl) (by kernel_rfl) (by kernel_rfl) (fun _ _ _ h => h) (Or.inl ⟨by rfl, ?_⟩) (by assumption) ?_
          rotate_left 1
          · intro wz hSw
            obtain ⟨s0, s1⟩ := hSw
            first | (go_simp; done) | (go_simp; with_reducible rfl)
          simp only [List.set_cons_zero, List.set_cons_succ]
          refine take_at (i := 2) (n := 28) (v := ?_) rfl rfl (by kernel_rfl) (by kernel_rfl) (by kernel_rfl) (fun _ _ _ h => h) (Or.inl ⟨by rfl, ?_⟩) (by assumption) ?_
          rotate_left 1
          · intro wz hSw
            obtain ⟨s0, s1⟩ := hSw
            first | (go_simp; done) | (go_simp; with_reducible rfl)
          simp only [List.set_cons_zero, List.set_cons_succ]
          refine take_at (i := 3) (n := 29) (v := ?_) rfl rfl (by kernel_rfl) (by kernel_rfl) (by kernel_rfl) (fun _ _ _ h => h) (Or.inl ⟨by rfl, ?_⟩) (by assumption) ?_
          rotate_left 1
          · intro wz hSw
            obtain ⟨s0, s1⟩ := hSw
            first | (go_simp; done) | (go_simp; with_reducible rfl)
          simp only [List.set_cons_zero, List.set_cons_succ]
          refine take_at (i := 5) (n := 31) (v := ?_) rfl rfl (by kernel_rfl) (by kernel_rfl) (by kernel_rfl) (fun _ _ _ h => h) (Or.inl ⟨by rfl, ?_⟩) (by assumption) ?_
          rotate_left 1
          · intro wz hSw
            obtain ⟨s0, s1⟩ := hSw
            first | (go_simp; done) | (go_simp; with_reducible rfl)
          simp only [List.set_cons_zero, List.set_cons_succ]
          refine take_at (i := 6) (n := 32) (v := ?_) rfl rfl (by kernel_rfl) (by kernel_rfl) (by kernel_rfl) (fun _ _ _ h => h) (Or.inl ⟨by rfl, ?_⟩) (by assumption) ?_
          rotate_left 1
          · intro wz hSw
            obtain ⟨s0, s1⟩ := hSw
            first | (go_simp; done) | (go_simp; with_reducible rfl)
          simp only [List.set_cons_zero, List.set_cons_succ]
          refine wpAnyH_ready (rs := [4]) (by kernel_rfl) (by simp) ?_
          refine AllReadyH.cons rfl (fun K hK => ?_) AllReadyH.nil
          go_simp
          go_wp2_with (go_at_call 19; refine (up_any _ z yt hz.1 (by omega) (by omega) (by omega)).mono ?_; rintro r w9 ⟨rfl, hw9⟩; have hw8 := hw9.symm; subst hw8; clear hw9)
          refine hK.out _ _ ⟨yg2, yg1⟩ (fun hHeld => ?_)
          clear hK K
          try simp only [List.set_cons_zero, List.set_cons_succ]
          refine take_at (i := 7) (n := 33) (v := ?_) rfl rfl (by kernel_rfl) (by kernel_rfl) (by kernel_rfl) (fun _ _ _ h => h) (Or.inl ⟨by rfl, ?_⟩) (by assumption) ?_
          rotate_left 1
          · intro wz hSw
            obtain ⟨s0, s1⟩ := hSw
            first | (go_simp; done) | (go_simp; with_reducible rfl)
          simp only [List.set_cons_zero, List.set_cons_succ]
          refine take_at (i := 8) (n := 34) (v := ?_) rfl rfl (by kernel_rfl) (by kernel_rfl) (by kernel_rfl) (fun _ _ _ h => h) (Or.inl ⟨by rfl, ?_⟩) (by assumption) ?_
          rotate_left 1
          · intro wz hSw
            obtain ⟨s0, s1⟩ := hSw
            first | (go_simp; done) | (go_simp; with_reducible rfl)
          simp only [List.set_cons_zero, List.set_cons_succ]
          refine take_at (i := 9) (n := 6) (v := ?_) rfl rfl (by kernel_rfl) (by kernel_rfl) (by kernel_rfl) (fun _ _ _ h => h) (Or.inl ⟨by rfl, ?_⟩) (by assumption) ?_
          rotate_left 1
          · intro wz hSw
            obtain ⟨s0, s1⟩ := hSw
            first | (go_simp; done) | (go_simp; with_reducible rfl)
          simp only [List.set_cons_zero, List.set_cons_succ]
          refine wpAnyH_done (by kernel_rfl) ?_ _
          refine NoPanic.normal ?_
          clear hHeld
          go_wp2_with fail
          refine ⟨⟨j + 1, by omega, by simp, ?_, HB.out.drew⟩, by simp [intOf]; omega⟩
          congr 1
          rw [HA.out, if_pos hp]
          unfold upI
          dsimp only
          rw [if_pos rfl]
          omega
        | false =>
          rw [if_neg (by decide)] at hrg
          have hm : IntKind.i64.wrap ((wl + yt - 1) / yt * yc) = (wl + yt - 1) / yt * yc := by rw [IntKind.wrap_i64]; omega
          have ha : IntKind.i64.wrap (xh + A + (wl + yt - 1) / yt * yc) = xh + A + (wl + yt - 1) / yt * yc := by rw [IntKind.wrap_i64]; omega
          go_upto_region 8 with fail
          refine wp_region_noPanic ?_
          refine wp_region_held_drew (S := fun w' => w'.cell? ⟨yg, 2, none⟩ = some (.int .i64 yt) ∧ w'.cell? ⟨yg, 0, none⟩ = some (.int .i64 yc) ∧ w'.cell? ⟨gw, 0, none⟩ = some (.int .i64 wl)) (by kernel_rfl) ⟨yg2, yg0, uw⟩ (fun hHeld => ?_)
          refine take_at (i := 0) (n := 45) (v := ?_) rfl rfl (by kernel_rfl) (by kernel_rfl) (by kernel_rfl) (fun _ _ _ h => h) (Or.inl ⟨by rfl, ?_⟩) (by assumption) ?_
          rotate_left 1
          · intro wz hSw
            obtain ⟨s0, s1, s2⟩ := hSw
            first | (go_simp; done) | (go_simp; with_reducible rfl)
          simp only [List.set_cons_zero, List.set_cons_succ]
          refine take_at (i := 1) (n := 46) (v := ?_) rfl rfl (by kernel_rfl) (by kernel_rfl) (by kernel_rfl) (fun _ _ _ h => h) (Or.inl ⟨by rfl, ?_⟩) (by assumption) ?_
          rotate_left 1
          · intro wz hSw
            obtain ⟨s0, s1, s2⟩ := hSw
            first | (go_simp; done) | (go_simp; with_reducible rfl)
          simp only [List.set_cons_zero, List.set_cons_succ]
          refine take_at (i := 2) (n := 47) (v := ?_) rfl rfl (by kernel_rfl) (by kernel_rfl) (by kernel_rfl) (fun _ _ _ h => h) (Or.inl ⟨by rfl, ?_⟩) (by assumption) ?_
          rotate_left 1
          · intro wz hSw
            obtain ⟨s0, s1, s2⟩ := hSw
            first | (go_simp; done) | (go_simp; with_reducible rfl)
          simp only [List.set_cons_zero, List.set_cons_succ]
          refine take_at (i := 3) (n := 48) (v := ?_) rfl rfl (by kernel_rfl) (by kernel_rfl) (by kernel_rfl) (fun _ _ _ h => h) (Or.inl ⟨by rfl, ?_⟩) (by assumption) ?_
          rotate_left 1
          · intro wz hSw
            obtain ⟨s0, s1, s2⟩ := hSw
            first | (go_simp; done) | (go_simp; with_reducible rfl)
          simp only [List.set_cons_zero, List.set_cons_succ]
          refine take_at (i := 5) (n := 50) (v := ?_) rfl rfl (by kernel_rfl) (by kernel_rfl) (by kernel_rfl) (fun _ _ _ h => h) (Or.inl ⟨by rfl, ?_⟩) (by assumption) ?_
          rotate_left 1
          · intro wz hSw
            obtain ⟨s0, s1, s2⟩ := hSw
            first | (go_simp; done) | (go_simp; with_reducible rfl)
          simp only [List.set_cons_zero, List.set_cons_succ]
          refine take_at (i := 6) (n := 51) (v := ?_) rfl rfl (by kernel_rfl) (by kernel_rfl) (by kernel_rfl) (fun _ _ _ h => h) (Or.inl ⟨by rfl, ?_⟩) (by assumption) ?_
          rotate_left 1
          · intro wz hSw
            obtain ⟨s0, s1, s2⟩ := hSw
            first | (go_simp; done) | (go_simp; with_reducible rfl)
          simp only [List.set_cons_zero, List.set_cons_succ]
          refine wpAnyH_ready (rs := [4]) (by kernel_rfl) (by simp) ?_
          refine AllReadyH.cons rfl (fun K hK => ?_) AllReadyH.nil
          go_simp
          go_wp2_with (go_at_call 19; refine (up_any _ wl yt hwl.1 (by omega) (by omega) (by omega)).mono ?_; rintro r w9 ⟨rfl, hw9⟩; have hw8 := hw9.symm; subst hw8; clear hw9)
          refine hK.out _ _ ⟨yg2, yg0, uw⟩ (fun hHeld => ?_)
          clear hK K
          try simp only [List.set_cons_zero, List.set_cons_succ]
          refine take_at (i := 7) (n := 52) (v := ?_) rfl rfl (by kernel_rfl) (by kernel_rfl) (by kernel_rfl) (fun _ _ _ h => h) (Or.inl ⟨by rfl, ?_⟩) (by assumption) ?_
          rotate_left 1
          · intro wz hSw
            obtain ⟨s0, s1, s2⟩ := hSw
            first | (go_simp; done) | (go_simp; with_reducible rfl)
          simp only [List.set_cons_zero, List.set_cons_succ]
          refine take_at (i := 8) (n := 53) (v := ?_) rfl rfl (by kernel_rfl) (by kernel_rfl) (by kernel_rfl) (fun _ _ _ h => h) (Or.inl ⟨by rfl, ?_⟩) (by assumption) ?_
          rotate_left 1
          · intro wz hSw
            obtain ⟨s0, s1, s2⟩ := hSw
            first | (go_simp; done) | (go_simp; with_reducible rfl)
          simp only [List.set_cons_zero, List.set_cons_succ]
          refine take_at (i := 9) (n := 6) (v := ?_) rfl rfl (by kernel_rfl) (by kernel_rfl) (by kernel_rfl) (fun _ _ _ h => h) (Or.inl ⟨by rfl, ?_⟩) (by assumption) ?_
          rotate_left 1
          · intro wz hSw
            obtain ⟨s0, s1, s2⟩ := hSw
            first | (go_simp; done) | (go_simp; with_reducible rfl)
          simp only [List.set_cons_zero, List.set_cons_succ]
          refine wpAnyH_done (by kernel_rfl) ?_ _
          refine NoPanic.normal ?_
          clear hHeld
          go_wp2_with fail
          refine ⟨⟨j + 1, by omega, by simp, ?_, HB.out.drew⟩, by simp [intOf]; omega⟩
          congr 1
          rw [HA.out, if_pos hp]
          unfold upI
          dsimp only
          rw [if_neg (by decide)]
          omega
      · go_wp2_with fail
        refine ⟨⟨j + 1, by omega, by simp, ?_, HB.out⟩, by simp [intOf]; omega⟩
        congr 1
        rw [HA.out, if_neg hp]
        omega
    · have hje : j = l.length := by omega
      subst hje
      rw [List.take_length]
      have HE : Hid (Below W.heap.size W wr) := hb
      clear hb
      go_wp2_with fail
      go_ret
      exact ⟨rfl, HE.out⟩
end Go.Proofs.YtccoobcggbbciahDoor
namespace Go.Proofs.YtccoobcggbbciahDoor
open Go.ChangeShapes Go.WideShapes Go.ChangeAt Go.RowKit

set_option maxRecDepth 20000 in
set_option maxHeartbeats 4000000 in
theorem least1_any (W : World) (l : List Cr) (v : Value) (x : Cr) (gt gl : Nat) (most : Int) (hl8 : l.length ≤ 8) (hok : ∀ y ∈ l, okCr y) (hx : okCr x) (hv : RowSl Cr.vals W l v) (hgt : W.heap[gt]? = some (.cells x.vals.toArray 27 (0, 0))) (hgl : W.cell? ⟨gl, 0, none⟩ = some v) (hm : 0 ≤ most ∧ most ≤ 10000) :
    Calls Tryd.prog 17 #[.int .i64 most, .func (.func 18) #[] #[.pointer (some ⟨gt, 0, none⟩), .pointer (some ⟨gl, 0, none⟩)]] W fun r w' => r = .returned (.int .i64 (wOf (fun z => x.c + aheadF (upC z) x.p l) 0 most)) ∧ Below W.heap.size W w' := by
  have HV : Hid ((∀ y ∈ l, okCr y) ∧ okCr x ∧ RowSl Cr.vals W l v ∧ W.heap[gt]? = some (.cells x.vals.toArray 27 (0, 0)) ∧ W.cell? ⟨gl, 0, none⟩ = some v) := ⟨hok, hx, hv, hgt, hgl⟩
  clear hok hx hv hgt hgl
  obtain ⟨ask, hask⟩ : ∃ ask : Int → Int, ask = (fun z => x.c + aheadF (upC z) x.p l) := ⟨_, rfl⟩
  have HA : Hid (ask = (fun z => x.c + aheadF (upC z) x.p l)) := hask
  rw [← hask]
  clear hask
  go_enter Tryd.func17, Tryd.ntmps17
  go_wp2_with fail
  go_loopw [5] (fun zv wr => ∃ z : Int, 1 ≤ z ∧ z ≤ most + 1 ∧ zv = .int .i64 z ∧ Below W.heap.size W wr ∧ ∀ u, 1 ≤ u → u < z → ask u ≠ u) (fun zv _ => (most + 1 - intOf zv).toNat)
  case atStart => exact ⟨1, by omega, by omega, rfl, Below.refl _ _, fun u h1 h2 => by omega⟩
  case round =>
    obtain ⟨z, hz1, hz2, rfl, hb, hno⟩ := hrel
    by_cases hzm : z ≤ most
    · have HC := need1_any wr l v x gt gl z hl8 HV.out.1 HV.out.2.1 (HV.out.2.2.1.below hb) ((hb.block gt (Array.getElem?_eq_some_iff.1 HV.out.2.2.2.1).1).trans HV.out.2.2.2.1) (below_cell hb HV.out.2.2.2.2) ⟨by omega, by omega⟩
      have HB : Hid (Below W.heap.size W wr ∧ ∀ u, 1 ≤ u → u < z → ask u ≠ u) := ⟨hb, hno⟩
      have hq : x.c + aheadF (upC z) x.p l = ask z := by rw [HA.out]
      rw [hq] at HC
      clear hq hb hno
      by_cases he : ask z = z
      · rw [he] at HC
        have HE : Hid (ask z = z) := he
        clear he
        go_wp2_with (go_at_call 18; refine HC.mono ?_; rintro r w1 ⟨rfl, hb1⟩; have H1 : Hid (Below W.heap.size W w1) := below_seq HB.out.1 hb1; clear hb1 HC)
        go_ret
        refine ⟨?_, H1.out⟩
        rw [wOf_hit (w := z) (by omega) hz1 (by omega) HE.out HB.out.2]
        show Ending.returned (.int .i64 z) = _
        rw [Int.add_zero]
      · obtain ⟨az, haz⟩ : ∃ az, ask z = az := ⟨_, rfl⟩
        rw [haz] at HC he
        have HE : Hid (ask z = az) := haz
        have heb : (az == z) = false := by simpa using he
        clear haz
        have hz31 : z + 1 < 2147483648 := by omega
        go_wp2_with (go_at_call 18; refine HC.mono ?_; rintro r w1 ⟨rfl, hb1⟩; have H1 : Hid (Below W.heap.size W w1) := below_seq HB.out.1 hb1; clear hb1 HC)
        refine ⟨⟨z + 1, by omega, by omega, by simp, H1.out, fun u h1 h2 => ?_⟩, by simp [intOf]; omega⟩
        by_cases hu : u = z
        · rw [hu, HE.out]; exact he
        · exact HB.out.2 u h1 (by omega)
    · have HB : Hid (Below W.heap.size W wr ∧ ∀ u, 1 ≤ u → u < z → ask u ≠ u) := ⟨hb, hno⟩
      clear hb hno
      go_wp2_with fail
      go_ret
      refine ⟨?_, HB.out.1⟩
      rw [wOf_none (fun u h1 h2 => HB.out.2 u h1 (by omega))]
      rfl

set_option maxRecDepth 20000 in
set_option maxHeartbeats 4000000 in
theorem least2_any (W : World) (l : List Cr) (v : Value) (x : Cr) (gt gl : Nat) (most : Int) (gw : Nat) (wl : Int) (hgw : W.cell? ⟨gw, 0, none⟩ = some (.int .i64 wl)) (hwl : 0 ≤ wl ∧ wl ≤ 10000) (hl8 : l.length ≤ 8) (hok : ∀ y ∈ l, okCr y) (hx : okCr x) (hv : RowSl Cr.vals W l v) (hgt : W.heap[gt]? = some (.cells x.vals.toArray 27 (0, 0))) (hgl : W.cell? ⟨gl, 0, none⟩ = some v) (hm : 0 ≤ most ∧ most ≤ 10000) :
    Calls Tryd.prog 17 #[.int .i64 most, .func (.func 20) #[] #[.pointer (some ⟨gt, 0, none⟩), .pointer (some ⟨gl, 0, none⟩), .pointer (some ⟨gw, 0, none⟩)]] W fun r w' => r = .returned (.int .i64 (wOf (fun z => x.h + aheadF (upI wl z) x.p l) 0 most)) ∧ Below W.heap.size W w' := by
  have HV : Hid ((∀ y ∈ l, okCr y) ∧ okCr x ∧ RowSl Cr.vals W l v ∧ W.heap[gt]? = some (.cells x.vals.toArray 27 (0, 0)) ∧ W.cell? ⟨gl, 0, none⟩ = some v) := ⟨hok, hx, hv, hgt, hgl⟩
  have HG : Hid (W.cell? ⟨gw, 0, none⟩ = some (.int .i64 wl)) := hgw
  clear hgw
  clear hok hx hv hgt hgl
  obtain ⟨ask, hask⟩ : ∃ ask : Int → Int, ask = (fun z => x.h + aheadF (upI wl z) x.p l) := ⟨_, rfl⟩
  have HA : Hid (ask = (fun z => x.h + aheadF (upI wl z) x.p l)) := hask
  rw [← hask]
  clear hask
  go_enter Tryd.func17, Tryd.ntmps17
  go_wp2_with fail
  go_loopw [5] (fun zv wr => ∃ z : Int, 1 ≤ z ∧ z ≤ most + 1 ∧ zv = .int .i64 z ∧ Below W.heap.size W wr ∧ ∀ u, 1 ≤ u → u < z → ask u ≠ u) (fun zv _ => (most + 1 - intOf zv).toNat)
  case atStart => exact ⟨1, by omega, by omega, rfl, Below.refl _ _, fun u h1 h2 => by omega⟩
  case round =>
    obtain ⟨z, hz1, hz2, rfl, hb, hno⟩ := hrel
    by_cases hzm : z ≤ most
    · have HC := need2_any wr l v x gt gl z gw wl (below_cell hb HG.out) hwl hl8 HV.out.1 HV.out.2.1 (HV.out.2.2.1.below hb) ((hb.block gt (Array.getElem?_eq_some_iff.1 HV.out.2.2.2.1).1).trans HV.out.2.2.2.1) (below_cell hb HV.out.2.2.2.2) ⟨by omega, by omega⟩
      have HB : Hid (Below W.heap.size W wr ∧ ∀ u, 1 ≤ u → u < z → ask u ≠ u) := ⟨hb, hno⟩
      have hq : x.h + aheadF (upI wl z) x.p l = ask z := by rw [HA.out]
      rw [hq] at HC
      clear hq hb hno
      by_cases he : ask z = z
      · rw [he] at HC
        have HE : Hid (ask z = z) := he
        clear he
        go_wp2_with (go_at_call 20; refine HC.mono ?_; rintro r w1 ⟨rfl, hb1⟩; have H1 : Hid (Below W.heap.size W w1) := below_seq HB.out.1 hb1; clear hb1 HC)
        go_ret
        refine ⟨?_, H1.out⟩
        rw [wOf_hit (w := z) (by omega) hz1 (by omega) HE.out HB.out.2]
        show Ending.returned (.int .i64 z) = _
        rw [Int.add_zero]
      · obtain ⟨az, haz⟩ : ∃ az, ask z = az := ⟨_, rfl⟩
        rw [haz] at HC he
        have HE : Hid (ask z = az) := haz
        have heb : (az == z) = false := by simpa using he
        clear haz
        have hz31 : z + 1 < 2147483648 := by omega
        go_wp2_with (go_at_call 20; refine HC.mono ?_; rintro r w1 ⟨rfl, hb1⟩; have H1 : Hid (Below W.heap.size W w1) := below_seq HB.out.1 hb1; clear hb1 HC)
        refine ⟨⟨z + 1, by omega, by omega, by simp, H1.out, fun u h1 h2 => ?_⟩, by simp [intOf]; omega⟩
        by_cases hu : u = z
        · rw [hu, HE.out]; exact he
        · exact HB.out.2 u h1 (by omega)
    · have HB : Hid (Below W.heap.size W wr ∧ ∀ u, 1 ≤ u → u < z → ask u ≠ u) := ⟨hb, hno⟩
      clear hb hno
      go_wp2_with fail
      go_ret
      refine ⟨?_, HB.out.1⟩
      rw [wOf_none (fun u h1 h2 => HB.out.2 u h1 (by omega))]
      rfl
end Go.Proofs.YtccoobcggbbciahDoor
