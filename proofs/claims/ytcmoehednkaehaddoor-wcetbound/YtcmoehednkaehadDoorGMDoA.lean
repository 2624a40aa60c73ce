import Derived.Test.YtcmoehednkaehadDoorGMPut
namespace Go.Proofs.YtcmoehednkaehadDoor
open Go.ChangeShapes Go.WideShapes Go.ChangeAt Go.RowKit
section
variable (w : World) (mb B : Nat) (l : List In) (iv ov : Value) (ins : List Int) (sp : Int) (s : MS) (sv pv : Value)

set_option maxRecDepth 20000 in
set_option maxHeartbeats 4000000 in
theorem do_1 (a b : Int) (h : MM w mb B l iv ov ins sp s sv pv) (hl : s.st.length ≤ 1000) (hpc : s.pc ≤ 1000000) : Calls Tryd.prog 46 #[.pointer (some ⟨mb, 0, none⟩), .agg #[.int .i64 1, .int .i64 a, .int .i64 b]] w (Does w mb B l iv ov ins sp s sv pv ⟨1, a, b⟩) := by
  have HM : Hid (DS w (w.alloc (.cells #[.int .i64 1, .int .i64 a, .int .i64 b] 27)) mb B l iv ov ins sp ⟨1, a, b⟩ s sv pv sv pv) := DS.start h ⟨1, a, b⟩
  have c23 := h.c_pc
  have lm := h.lt
  obtain ⟨q, g, hov, hq, hg, hqm, hgm⟩ := h.ops
  subst hov
  have HO : Hid (MM w mb B l iv (.map (some q)) ins sp s sv pv ∧ q < mb ∧ g < mb ∧ w.heap[q]? = some (.map (opsEs g) 5) ∧ w.heap[g]? = some (.cells #[.func (Fn.func 107) #[] #[]] 165 (0, 0))) := ⟨h, hq, hg, hqm, hgm⟩
  clear h hqm hgm hq hg
  go_enter Tryd.func46, Tryd.ntmps46
  go_wp2_with (first
    | (go_at_call 45; refine (over_other _ mb 1 _ _ (by first | decide | omega) (by first | decide | omega) (by first | decide | omega)).mono ?_; rintro r w3 ⟨rfl, hb3⟩; have H3 : Hid (DS _ w3 _ _ _ _ _ _ _ _ _ _ _ _ _) := HM.out.grow hb3; obtain ⟨x0, x1, x2, y0, y1, yf, ym, yx, yn⟩ := H3.out.reads; clear hb3)
    | (go_at_call 83; refine (push_any _ mb B l iv _ ins sp _ _ _ a H3.out.setA1.mm (by dsimp only; omega)).mono ?_; rintro r w5 ⟨rfl, sv5, hm5, hr5⟩; have H5 : Hid (DS w w5 _ _ _ _ _ _ _ _ _ _ _ _ _) := H3.out.setA1.step hm5 hr5; obtain ⟨u0, u1, u2, v0, v1, vf, vm, vx, vn⟩ := H5.out.reads; clear hm5 hr5))
  have hqk := (H5.out.old HO.out.1 HO.out.2.1).trans HO.out.2.2.2.1
  obtain ⟨ku0, -, -, -, kv1, -, -, -, -⟩ := H5.out.reads
  have hlk := look_none (w := w5.drew) (z := 1) hqk (ops_none g (by omega))
  have hS0 : w5.drew.cell? ⟨w.heap.size, 0, none⟩ = some (.int .i64 1) ∧ w5.drew.cell? ⟨mb, 25, none⟩ = some (.map (some q)) := ⟨ku0, kv1⟩
  refine wp_region_noPanic ?_
  refine wp_region_held_drew (S := fun w' => w'.cell? ⟨w.heap.size, 0, none⟩ = some (.int .i64 1) ∧ w'.cell? ⟨mb, 25, none⟩ = some (.map (some q))) (by kernel_rfl) hS0 (fun hHeld => ?_)
  refine take_at (i := 0) (n := 125) (v := ?_) rfl rfl (by kernel_rfl) (by kernel_rfl) (by kernel_rfl) (fun _ _ _ h => h) (Or.inl ⟨by rfl, ?_⟩) (by assumption) ?_
  rotate_left 1
  · intro wz hSw
    first | (go_simp; done) | (go_simp; with_reducible rfl)
  simp only [List.set_cons_zero, List.set_cons_succ]
  refine take_at (i := 1) (n := 126) (v := ?_) rfl rfl (by kernel_rfl) (by kernel_rfl) (by kernel_rfl) (fun _ _ _ h => h) (Or.inl ⟨by rfl, ?_⟩) (by assumption) ?_
  rotate_left 1
  · intro wz hSw
    first | (go_simp; done) | (go_simp; with_reducible rfl)
  simp only [List.set_cons_zero, List.set_cons_succ]
  refine take_at (i := 2) (n := 127) (v := ?_) rfl rfl (by kernel_rfl) (by kernel_rfl) (by kernel_rfl) (fun _ _ _ h => h) (Or.inl ⟨by rfl, ?_⟩) (by assumption) ?_
  rotate_left 1
  · intro wz hSw
    first | (go_simp; done) | (go_simp; with_reducible rfl)
  simp only [List.set_cons_zero, List.set_cons_succ]
  refine take_at (i := 3) (n := 128) (v := ?_) rfl rfl (by kernel_rfl) (by kernel_rfl) (by kernel_rfl) (fun _ _ _ h => h) (Or.inl ⟨by rfl, ?_⟩) (by assumption) ?_
  rotate_left 1
  · intro wz hSw
    first | (go_simp; done) | (go_simp; with_reducible rfl)
  simp only [List.set_cons_zero, List.set_cons_succ]
  refine take_at (i := 4) (n := 129) (v := ?_) rfl rfl (by kernel_rfl) (by kernel_rfl) (by kernel_rfl) (fun _ _ _ h => h) (Or.inl ⟨by rfl, ?_⟩) (by assumption) ?_
  rotate_left 1
  · intro wz hSw
    first | (go_simp; done) | (go_simp; with_reducible rfl)
  simp only [List.set_cons_zero, List.set_cons_succ]
  refine take_at (i := 5) (n := 130) (v := ?_) rfl rfl (by kernel_rfl) (by kernel_rfl) (by kernel_rfl) (fun _ _ _ h => h) (Or.inl ⟨by rfl, ?_⟩) (by assumption) ?_
  rotate_left 1
  · intro wz hSw
    first | (go_simp; done) | (go_simp; with_reducible rfl)
  simp only [List.set_cons_zero, List.set_cons_succ]
  refine wpAnyH_ready (rs := [6]) (by kernel_rfl) (by simp) ?_
  refine AllReadyH.cons rfl (fun K hK => ?_) AllReadyH.nil
  go_simp
  refine hK.out _ _ hS0 (fun hHeld => ?_)
  clear hK K
  refine take_at (i := 7) (n := 124) (v := ?_) rfl rfl (by kernel_rfl) (by kernel_rfl) (by kernel_rfl) (fun _ _ _ h => h) (Or.inl ⟨by rfl, ?_⟩) (by assumption) ?_
  rotate_left 1
  · intro wz hSw
    first | (go_simp; done) | (go_simp; with_reducible rfl)
  simp only [List.set_cons_zero, List.set_cons_succ]
  refine take_at (i := 8) (n := 132) (v := ?_) rfl rfl (by kernel_rfl) (by kernel_rfl) (by kernel_rfl) (fun _ _ _ h => h) (Or.inl ⟨by rfl, ?_⟩) (by assumption) ?_
  rotate_left 1
  · intro wz hSw
    first | (go_simp; done) | (go_simp; with_reducible rfl)
  simp only [List.set_cons_zero, List.set_cons_succ]
  refine take_at (i := 9) (n := 133) (v := ?_) rfl rfl (by kernel_rfl) (by kernel_rfl) (by kernel_rfl) (fun _ _ _ h => h) (Or.inl ⟨by rfl, ?_⟩) (by assumption) ?_
  rotate_left 1
  · intro wz hSw
    first | (go_simp; done) | (go_simp; with_reducible rfl)
  simp only [List.set_cons_zero, List.set_cons_succ]
  refine take_at (i := 10) (n := 5) (v := ?_) rfl rfl (by kernel_rfl) (by kernel_rfl) (by kernel_rfl) (fun _ _ _ h => h) (Or.inl ⟨by rfl, ?_⟩) (by assumption) ?_
  rotate_left 1
  · intro wz hSw
    first | (go_simp; done) | (go_simp; with_reducible rfl)
  simp only [List.set_cons_zero, List.set_cons_succ]
  refine take_at (i := 11) (n := 6) (v := ?_) rfl rfl (by kernel_rfl) (by kernel_rfl) (by kernel_rfl) (fun _ _ _ h => h) (Or.inl ⟨by rfl, ?_⟩) (by assumption) ?_
  rotate_left 1
  · intro wz hSw
    first | (go_simp; done) | (go_simp; with_reducible rfl)
  simp only [List.set_cons_zero, List.set_cons_succ]
  refine wpAnyH_done (by kernel_rfl) ?_ _
  refine NoPanic.normal ?_
  go_wp2_with fail
  go_end0
  exact ⟨rfl, sv5, pv, (H5.out.grow (Below.refl _ _).drew).mm, (H5.out.grow (Below.refl _ _).drew).mr⟩

set_option maxRecDepth 20000 in
set_option maxHeartbeats 4000000 in
theorem do_16 (a b : Int) (h : MM w mb B l iv ov ins sp s sv pv) (_ : s.st.length ≤ 1000) (hpc : s.pc ≤ 1000000) : Calls Tryd.prog 46 #[.pointer (some ⟨mb, 0, none⟩), .agg #[.int .i64 16, .int .i64 a, .int .i64 b]] w (Does w mb B l iv ov ins sp s sv pv ⟨16, a, b⟩) := by
  have HM : Hid (DS w (w.alloc (.cells #[.int .i64 16, .int .i64 a, .int .i64 b] 27)) mb B l iv ov ins sp ⟨16, a, b⟩ s sv pv sv pv) := DS.start h ⟨16, a, b⟩
  have c23 := h.c_pc
  have lm := h.lt
  obtain ⟨q, g, hov, hq, hg, hqm, hgm⟩ := h.ops
  subst hov
  have HO : Hid (MM w mb B l iv (.map (some q)) ins sp s sv pv ∧ q < mb ∧ g < mb ∧ w.heap[q]? = some (.map (opsEs g) 5) ∧ w.heap[g]? = some (.cells #[.func (Fn.func 107) #[] #[]] 165 (0, 0))) := ⟨h, hq, hg, hqm, hgm⟩
  clear h hqm hgm hq hg
  go_enter Tryd.func46, Tryd.ntmps46
  go_wp2_with (go_at_call 45; refine (over_other _ mb 16 _ _ (by first | decide | omega) (by first | decide | omega) (by first | decide | omega)).mono ?_; rintro r w3 ⟨rfl, hb3⟩; have H3 : Hid (DS _ w3 _ _ _ _ _ _ _ _ _ _ _ _ _) := HM.out.grow hb3; obtain ⟨x0, x1, x2, y0, y1, yf, ym, yx, yn⟩ := H3.out.reads; clear hb3)
  have H4 : Hid (DS w (w3.setCell ⟨mb, 23, none⟩ (.int .i64 ((s.pc : Int) + 1))) _ _ _ _ _ _ _ _ _ _ _ _ _) := H3.out.setA1
  generalize hw4 : (w3.setCell ⟨mb, 23, none⟩ (.int .i64 ((s.pc : Int) + 1))) = w4 at *
  clear hw4
  have hqk := (H4.out.old HO.out.1 HO.out.2.1).trans HO.out.2.2.2.1
  obtain ⟨ku0, -, -, -, kv1, -, -, -, -⟩ := H4.out.reads
  have hlk := look_none (w := w4.drew) (z := 16) hqk (ops_none g (by omega))
  have hS0 : w4.drew.cell? ⟨w.heap.size, 0, none⟩ = some (.int .i64 16) ∧ w4.drew.cell? ⟨mb, 25, none⟩ = some (.map (some q)) := ⟨ku0, kv1⟩
  refine wp_region_noPanic ?_
  refine wp_region_held_drew (S := fun w' => w'.cell? ⟨w.heap.size, 0, none⟩ = some (.int .i64 16) ∧ w'.cell? ⟨mb, 25, none⟩ = some (.map (some q))) (by kernel_rfl) hS0 (fun hHeld => ?_)
  refine take_at (i := 0) (n := 125) (v := ?_) rfl rfl (by kernel_rfl) (by kernel_rfl) (by kernel_rfl) (fun _ _ _ h => h) (Or.inl ⟨by rfl, ?_⟩) (by assumption) ?_
  rotate_left 1
  · intro wz hSw
    first | (go_simp; done) | (go_simp; with_reducible rfl)
  simp only [List.set_cons_zero, List.set_cons_succ]
  refine take_at (i := 1) (n := 126) (v := ?_) rfl rfl (by kernel_rfl) (by kernel_rfl) (by kernel_rfl) (fun _ _ _ h => h) (Or.inl ⟨by rfl, ?_⟩) (by assumption) ?_
  rotate_left 1
  · intro wz hSw
    first | (go_simp; done) | (go_simp; with_reducible rfl)
  simp only [List.set_cons_zero, List.set_cons_succ]
  refine take_at (i := 2) (n := 127) (v := ?_) rfl rfl (by kernel_rfl) (by kernel_rfl) (by kernel_rfl) (fun _ _ _ h => h) (Or.inl ⟨by rfl, ?_⟩) (by assumption) ?_
  rotate_left 1
  · intro wz hSw
    first | (go_simp; done) | (go_simp; with_reducible rfl)
  simp only [List.set_cons_zero, List.set_cons_succ]
  refine take_at (i := 3) (n := 128) (v := ?_) rfl rfl (by kernel_rfl) (by kernel_rfl) (by kernel_rfl) (fun _ _ _ h => h) (Or.inl ⟨by rfl, ?_⟩) (by assumption) ?_
  rotate_left 1
  · intro wz hSw
    first | (go_simp; done) | (go_simp; with_reducible rfl)
  simp only [List.set_cons_zero, List.set_cons_succ]
  refine take_at (i := 4) (n := 129) (v := ?_) rfl rfl (by kernel_rfl) (by kernel_rfl) (by kernel_rfl) (fun _ _ _ h => h) (Or.inl ⟨by rfl, ?_⟩) (by assumption) ?_
  rotate_left 1
  · intro wz hSw
    first | (go_simp; done) | (go_simp; with_reducible rfl)
  simp only [List.set_cons_zero, List.set_cons_succ]
  refine take_at (i := 5) (n := 130) (v := ?_) rfl rfl (by kernel_rfl) (by kernel_rfl) (by kernel_rfl) (fun _ _ _ h => h) (Or.inl ⟨by rfl, ?_⟩) (by assumption) ?_
  rotate_left 1
  · intro wz hSw
    first | (go_simp; done) | (go_simp; with_reducible rfl)
  simp only [List.set_cons_zero, List.set_cons_succ]
  refine wpAnyH_ready (rs := [6]) (by kernel_rfl) (by simp) ?_
  refine AllReadyH.cons rfl (fun K hK => ?_) AllReadyH.nil
  go_simp
  refine hK.out _ _ hS0 (fun hHeld => ?_)
  clear hK K
  refine take_at (i := 7) (n := 124) (v := ?_) rfl rfl (by kernel_rfl) (by kernel_rfl) (by kernel_rfl) (fun _ _ _ h => h) (Or.inl ⟨by rfl, ?_⟩) (by assumption) ?_
  rotate_left 1
  · intro wz hSw
    first | (go_simp; done) | (go_simp; with_reducible rfl)
  simp only [List.set_cons_zero, List.set_cons_succ]
  refine take_at (i := 8) (n := 132) (v := ?_) rfl rfl (by kernel_rfl) (by kernel_rfl) (by kernel_rfl) (fun _ _ _ h => h) (Or.inl ⟨by rfl, ?_⟩) (by assumption) ?_
  rotate_left 1
  · intro wz hSw
    first | (go_simp; done) | (go_simp; with_reducible rfl)
  simp only [List.set_cons_zero, List.set_cons_succ]
  refine take_at (i := 9) (n := 133) (v := ?_) rfl rfl (by kernel_rfl) (by kernel_rfl) (by kernel_rfl) (fun _ _ _ h => h) (Or.inl ⟨by rfl, ?_⟩) (by assumption) ?_
  rotate_left 1
  · intro wz hSw
    first | (go_simp; done) | (go_simp; with_reducible rfl)
  simp only [List.set_cons_zero, List.set_cons_succ]
  refine take_at (i := 10) (n := 5) (v := ?_) rfl rfl (by kernel_rfl) (by kernel_rfl) (by kernel_rfl) (fun _ _ _ h => h) (Or.inl ⟨by rfl, ?_⟩) (by assumption) ?_
  rotate_left 1
  · intro wz hSw
    first | (go_simp; done) | (go_simp; with_reducible rfl)
  simp only [List.set_cons_zero, List.set_cons_succ]
  refine take_at (i := 11) (n := 6) (v := ?_) rfl rfl (by kernel_rfl) (by kernel_rfl) (by kernel_rfl) (fun _ _ _ h => h) (Or.inl ⟨by rfl, ?_⟩) (by assumption) ?_
  rotate_left 1
  · intro wz hSw
    first | (go_simp; done) | (go_simp; with_reducible rfl)
  simp only [List.set_cons_zero, List.set_cons_succ]
  refine wpAnyH_done (by kernel_rfl) ?_ _
  refine NoPanic.normal ?_
  go_wp2_with fail
  go_end0
  exact ⟨rfl, sv, pv, (H4.out.grow (Below.refl _ _).drew).mm, (H4.out.grow (Below.refl _ _).drew).mr⟩

set_option maxRecDepth 20000 in
set_option maxHeartbeats 4000000 in
theorem do_17 (a b : Int) (h : MM w mb B l iv ov ins sp s sv pv) (_ : s.st.length ≤ 1000) (hpc : s.pc ≤ 1000000) : Calls Tryd.prog 46 #[.pointer (some ⟨mb, 0, none⟩), .agg #[.int .i64 17, .int .i64 a, .int .i64 b]] w (Does w mb B l iv ov ins sp s sv pv ⟨17, a, b⟩) := by
  have HM : Hid (DS w (w.alloc (.cells #[.int .i64 17, .int .i64 a, .int .i64 b] 27)) mb B l iv ov ins sp ⟨17, a, b⟩ s sv pv sv pv) := DS.start h ⟨17, a, b⟩
  have c23 := h.c_pc
  have lm := h.lt
  obtain ⟨q, g, hov, hq, hg, hqm, hgm⟩ := h.ops
  subst hov
  have HO : Hid (MM w mb B l iv (.map (some q)) ins sp s sv pv ∧ q < mb ∧ g < mb ∧ w.heap[q]? = some (.map (opsEs g) 5) ∧ w.heap[g]? = some (.cells #[.func (Fn.func 107) #[] #[]] 165 (0, 0))) := ⟨h, hq, hg, hqm, hgm⟩
  clear h hqm hgm hq hg
  go_enter Tryd.func46, Tryd.ntmps46
  go_wp2_with (go_at_call 45; refine (over_other _ mb 17 _ _ (by first | decide | omega) (by first | decide | omega) (by first | decide | omega)).mono ?_; rintro r w3 ⟨rfl, hb3⟩; have H3 : Hid (DS _ w3 _ _ _ _ _ _ _ _ _ _ _ _ _) := HM.out.grow hb3; obtain ⟨x0, x1, x2, y0, y1, yf, ym, yx, yn⟩ := H3.out.reads; clear hb3)
  have H4 : Hid (DS w (w3.setCell ⟨mb, 23, none⟩ (.int .i64 ((s.pc : Int) + 1))) _ _ _ _ _ _ _ _ _ _ _ _ _) := H3.out.setA1
  generalize hw4 : (w3.setCell ⟨mb, 23, none⟩ (.int .i64 ((s.pc : Int) + 1))) = w4 at *
  clear hw4
  have hqk := (H4.out.old HO.out.1 HO.out.2.1).trans HO.out.2.2.2.1
  obtain ⟨ku0, -, -, -, kv1, -, -, -, -⟩ := H4.out.reads
  have hlk := look_none (w := w4.drew) (z := 17) hqk (ops_none g (by omega))
  have hS0 : w4.drew.cell? ⟨w.heap.size, 0, none⟩ = some (.int .i64 17) ∧ w4.drew.cell? ⟨mb, 25, none⟩ = some (.map (some q)) := ⟨ku0, kv1⟩
  refine wp_region_noPanic ?_
  refine wp_region_held_drew (S := fun w' => w'.cell? ⟨w.heap.size, 0, none⟩ = some (.int .i64 17) ∧ w'.cell? ⟨mb, 25, none⟩ = some (.map (some q))) (by kernel_rfl) hS0 (fun hHeld => ?_)
  refine take_at (i := 0) (n := 125) (v := ?_) rfl rfl (by kernel_rfl) (by kernel_rfl) (by kernel_rfl) (fun _ _ _ h => h) (Or.inl ⟨by rfl, ?_⟩) (by assumption) ?_
  rotate_left 1
  · intro wz hSw
    first | (go_simp; done) | (go_simp; with_reducible rfl)
  simp only [List.set_cons_zero, List.set_cons_succ]
  refine take_at (i := 1) (n := 126) (v := ?_) rfl rfl (by kernel_rfl) (by kernel_rfl) (by kernel_rfl) (fun _ _ _ h => h) (Or.inl ⟨by rfl, ?_⟩) (by assumption) ?_
  rotate_left 1
  · intro wz hSw
    first | (go_simp; done) | (go_simp; with_reducible rfl)
  simp only [List.set_cons_zero, List.set_cons_succ]
  refine take_at (i := 2) (n := 127) (v := ?_) rfl rfl (by kernel_rfl) (by kernel_rfl) (by kernel_rfl) (fun _ _ _ h => h) (Or.inl ⟨by rfl, ?_⟩) (by assumption) ?_
  rotate_left 1
  · intro wz hSw
    first | (go_simp; done) | (go_simp; with_reducible rfl)
  simp only [List.set_cons_zero, List.set_cons_succ]
  refine take_at (i := 3) (n := 128) (v := ?_) rfl rfl (by kernel_rfl) (by kernel_rfl) (by kernel_rfl) (fun _ _ _ h => h) (Or.inl ⟨by rfl, ?_⟩) (by assumption) ?_
  rotate_left 1
  · intro wz hSw
    first | (go_simp; done) | (go_simp; with_reducible rfl)
  simp only [List.set_cons_zero, List.set_cons_succ]
  refine take_at (i := 4) (n := 129) (v := ?_) rfl rfl (by kernel_rfl) (by kernel_rfl) (by kernel_rfl) (fun _ _ _ h => h) (Or.inl ⟨by rfl, ?_⟩) (by assumption) ?_
  rotate_left 1
  · intro wz hSw
    first | (go_simp; done) | (go_simp; with_reducible rfl)
  simp only [List.set_cons_zero, List.set_cons_succ]
  refine take_at (i := 5) (n := 130) (v := ?_) rfl rfl (by kernel_rfl) (by kernel_rfl) (by kernel_rfl) (fun _ _ _ h => h) (Or.inl ⟨by rfl, ?_⟩) (by assumption) ?_
  rotate_left 1
  · intro wz hSw
    first | (go_simp; done) | (go_simp; with_reducible rfl)
  simp only [List.set_cons_zero, List.set_cons_succ]
  refine wpAnyH_ready (rs := [6]) (by kernel_rfl) (by simp) ?_
  refine AllReadyH.cons rfl (fun K hK => ?_) AllReadyH.nil
  go_simp
  refine hK.out _ _ hS0 (fun hHeld => ?_)
  clear hK K
  refine take_at (i := 7) (n := 124) (v := ?_) rfl rfl (by kernel_rfl) (by kernel_rfl) (by kernel_rfl) (fun _ _ _ h => h) (Or.inl ⟨by rfl, ?_⟩) (by assumption) ?_
  rotate_left 1
  · intro wz hSw
    first | (go_simp; done) | (go_simp; with_reducible rfl)
  simp only [List.set_cons_zero, List.set_cons_succ]
  refine take_at (i := 8) (n := 132) (v := ?_) rfl rfl (by kernel_rfl) (by kernel_rfl) (by kernel_rfl) (fun _ _ _ h => h) (Or.inl ⟨by rfl, ?_⟩) (by assumption) ?_
  rotate_left 1
  · intro wz hSw
    first | (go_simp; done) | (go_simp; with_reducible rfl)
  simp only [List.set_cons_zero, List.set_cons_succ]
  refine take_at (i := 9) (n := 133) (v := ?_) rfl rfl (by kernel_rfl) (by kernel_rfl) (by kernel_rfl) (fun _ _ _ h => h) (Or.inl ⟨by rfl, ?_⟩) (by assumption) ?_
  rotate_left 1
  · intro wz hSw
    first | (go_simp; done) | (go_simp; with_reducible rfl)
  simp only [List.set_cons_zero, List.set_cons_succ]
  refine take_at (i := 10) (n := 5) (v := ?_) rfl rfl (by kernel_rfl) (by kernel_rfl) (by kernel_rfl) (fun _ _ _ h => h) (Or.inl ⟨by rfl, ?_⟩) (by assumption) ?_
  rotate_left 1
  · intro wz hSw
    first | (go_simp; done) | (go_simp; with_reducible rfl)
  simp only [List.set_cons_zero, List.set_cons_succ]
  refine take_at (i := 11) (n := 6) (v := ?_) rfl rfl (by kernel_rfl) (by kernel_rfl) (by kernel_rfl) (fun _ _ _ h => h) (Or.inl ⟨by rfl, ?_⟩) (by assumption) ?_
  rotate_left 1
  · intro wz hSw
    first | (go_simp; done) | (go_simp; with_reducible rfl)
  simp only [List.set_cons_zero, List.set_cons_succ]
  refine wpAnyH_done (by kernel_rfl) ?_ _
  refine NoPanic.normal ?_
  go_wp2_with fail
  go_end0
  exact ⟨rfl, sv, pv, (H4.out.grow (Below.refl _ _).drew).mm, (H4.out.grow (Below.refl _ _).drew).mr⟩

set_option maxRecDepth 20000 in
set_option maxHeartbeats 4000000 in
theorem do_18 (a b : Int) (h : MM w mb B l iv ov ins sp s sv pv) (_ : s.st.length ≤ 1000) (hpc : s.pc ≤ 1000000) : Calls Tryd.prog 46 #[.pointer (some ⟨mb, 0, none⟩), .agg #[.int .i64 18, .int .i64 a, .int .i64 b]] w (Does w mb B l iv ov ins sp s sv pv ⟨18, a, b⟩) := by
  have HM : Hid (DS w (w.alloc (.cells #[.int .i64 18, .int .i64 a, .int .i64 b] 27)) mb B l iv ov ins sp ⟨18, a, b⟩ s sv pv sv pv) := DS.start h ⟨18, a, b⟩
  have c23 := h.c_pc
  have lm := h.lt
  obtain ⟨q, g, hov, hq, hg, hqm, hgm⟩ := h.ops
  subst hov
  have HO : Hid (MM w mb B l iv (.map (some q)) ins sp s sv pv ∧ q < mb ∧ g < mb ∧ w.heap[q]? = some (.map (opsEs g) 5) ∧ w.heap[g]? = some (.cells #[.func (Fn.func 107) #[] #[]] 165 (0, 0))) := ⟨h, hq, hg, hqm, hgm⟩
  clear h hqm hgm hq hg
  go_enter Tryd.func46, Tryd.ntmps46
  go_wp2_with (go_at_call 45; refine (over_other _ mb 18 _ _ (by first | decide | omega) (by first | decide | omega) (by first | decide | omega)).mono ?_; rintro r w3 ⟨rfl, hb3⟩; have H3 : Hid (DS _ w3 _ _ _ _ _ _ _ _ _ _ _ _ _) := HM.out.grow hb3; obtain ⟨x0, x1, x2, y0, y1, yf, ym, yx, yn⟩ := H3.out.reads; clear hb3)
  have H4 : Hid (DS w (w3.setCell ⟨mb, 23, none⟩ (.int .i64 ((s.pc : Int) + 1))) _ _ _ _ _ _ _ _ _ _ _ _ _) := H3.out.setA1
  generalize hw4 : (w3.setCell ⟨mb, 23, none⟩ (.int .i64 ((s.pc : Int) + 1))) = w4 at *
  clear hw4
  have hqk := (H4.out.old HO.out.1 HO.out.2.1).trans HO.out.2.2.2.1
  obtain ⟨ku0, -, -, -, kv1, -, -, -, -⟩ := H4.out.reads
  have hlk := look_none (w := w4.drew) (z := 18) hqk (ops_none g (by omega))
  have hS0 : w4.drew.cell? ⟨w.heap.size, 0, none⟩ = some (.int .i64 18) ∧ w4.drew.cell? ⟨mb, 25, none⟩ = some (.map (some q)) := ⟨ku0, kv1⟩
  refine wp_region_noPanic ?_
  refine wp_region_held_drew (S := fun w' => w'.cell? ⟨w.heap.size, 0, none⟩ = some (.int .i64 18) ∧ w'.cell? ⟨mb, 25, none⟩ = some (.map (some q))) (by kernel_rfl) hS0 (fun hHeld => ?_)
  refine take_at (i := 0) (n := 125) (v := ?_) rfl rfl (by kernel_rfl) (by kernel_rfl) (by kernel_rfl) (fun _ _ _ h => h) (Or.inl ⟨by rfl, ?_⟩) (by assumption) ?_
  rotate_left 1
  · intro wz hSw
    first | (go_simp; done) | (go_simp; with_reducible rfl)
  simp only [List.set_cons_zero, List.set_cons_succ]
  refine take_at (i := 1) (n := 126) (v := ?_) rfl rfl (by kernel_rfl) (by kernel_rfl) (by kernel_rfl) (fun _ _ _ h => h) (Or.inl ⟨by rfl, ?_⟩) (by assumption) ?_
  rotate_left 1
  · intro wz hSw
    first | (go_simp; done) | (go_simp; with_reducible rfl)
  simp only [List.set_cons_zero, List.set_cons_succ]
  refine take_at (i := 2) (n := 127) (v := ?_) rfl rfl (by kernel_rfl) (by kernel_rfl) (by kernel_rfl) (fun _ _ _ h => h) (Or.inl ⟨by rfl, ?_⟩) (by assumption) ?_
  rotate_left 1
  · intro wz hSw
    first | (go_simp; done) | (go_simp; with_reducible rfl)
  simp only [List.set_cons_zero, List.set_cons_succ]
  refine take_at (i := 3) (n := 128) (v := ?_) rfl rfl (by kernel_rfl) (by kernel_rfl) (by kernel_rfl) (fun _ _ _ h => h) (Or.inl ⟨by rfl, ?_⟩) (by assumption) ?_
  rotate_left 1
  · intro wz hSw
    first | (go_simp; done) | (go_simp; with_reducible rfl)
  simp only [List.set_cons_zero, List.set_cons_succ]
  refine take_at (i := 4) (n := 129) (v := ?_) rfl rfl (by kernel_rfl) (by kernel_rfl) (by kernel_rfl) (fun _ _ _ h => h) (Or.inl ⟨by rfl, ?_⟩) (by assumption) ?_
  rotate_left 1
  · intro wz hSw
    first | (go_simp; done) | (go_simp; with_reducible rfl)
  simp only [List.set_cons_zero, List.set_cons_succ]
  refine take_at (i := 5) (n := 130) (v := ?_) rfl rfl (by kernel_rfl) (by kernel_rfl) (by kernel_rfl) (fun _ _ _ h => h) (Or.inl ⟨by rfl, ?_⟩) (by assumption) ?_
  rotate_left 1
  · intro wz hSw
    first | (go_simp; done) | (go_simp; with_reducible rfl)
  simp only [List.set_cons_zero, List.set_cons_succ]
  refine wpAnyH_ready (rs := [6]) (by kernel_rfl) (by simp) ?_
  refine AllReadyH.cons rfl (fun K hK => ?_) AllReadyH.nil
  go_simp
  refine hK.out _ _ hS0 (fun hHeld => ?_)
  clear hK K
  refine take_at (i := 7) (n := 124) (v := ?_) rfl rfl (by kernel_rfl) (by kernel_rfl) (by kernel_rfl) (fun _ _ _ h => h) (Or.inl ⟨by rfl, ?_⟩) (by assumption) ?_
  rotate_left 1
  · intro wz hSw
    first | (go_simp; done) | (go_simp; with_reducible rfl)
  simp only [List.set_cons_zero, List.set_cons_succ]
  refine take_at (i := 8) (n := 132) (v := ?_) rfl rfl (by kernel_rfl) (by kernel_rfl) (by kernel_rfl) (fun _ _ _ h => h) (Or.inl ⟨by rfl, ?_⟩) (by assumption) ?_
  rotate_left 1
  · intro wz hSw
    first | (go_simp; done) | (go_simp; with_reducible rfl)
  simp only [List.set_cons_zero, List.set_cons_succ]
  refine take_at (i := 9) (n := 133) (v := ?_) rfl rfl (by kernel_rfl) (by kernel_rfl) (by kernel_rfl) (fun _ _ _ h => h) (Or.inl ⟨by rfl, ?_⟩) (by assumption) ?_
  rotate_left 1
  · intro wz hSw
    first | (go_simp; done) | (go_simp; with_reducible rfl)
  simp only [List.set_cons_zero, List.set_cons_succ]
  refine take_at (i := 10) (n := 5) (v := ?_) rfl rfl (by kernel_rfl) (by kernel_rfl) (by kernel_rfl) (fun _ _ _ h => h) (Or.inl ⟨by rfl, ?_⟩) (by assumption) ?_
  rotate_left 1
  · intro wz hSw
    first | (go_simp; done) | (go_simp; with_reducible rfl)
  simp only [List.set_cons_zero, List.set_cons_succ]
  refine take_at (i := 11) (n := 6) (v := ?_) rfl rfl (by kernel_rfl) (by kernel_rfl) (by kernel_rfl) (fun _ _ _ h => h) (Or.inl ⟨by rfl, ?_⟩) (by assumption) ?_
  rotate_left 1
  · intro wz hSw
    first | (go_simp; done) | (go_simp; with_reducible rfl)
  simp only [List.set_cons_zero, List.set_cons_succ]
  refine wpAnyH_done (by kernel_rfl) ?_ _
  refine NoPanic.normal ?_
  go_wp2_with fail
  go_end0
  exact ⟨rfl, sv, pv, (H4.out.grow (Below.refl _ _).drew).mm, (H4.out.grow (Below.refl _ _).drew).mr⟩
end
end Go.Proofs.YtcmoehednkaehadDoor
