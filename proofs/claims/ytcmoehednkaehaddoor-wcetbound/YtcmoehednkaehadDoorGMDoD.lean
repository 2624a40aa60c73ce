import Derived.Test.YtcmoehednkaehadDoorGMPut
namespace Go.Proofs.YtcmoehednkaehadDoor
open Go.ChangeShapes Go.WideShapes Go.ChangeAt Go.RowKit
section
variable (w : World) (mb B : Nat) (l : List In) (iv ov : Value) (ins : List Int) (sp : Int) (s : MS) (sv pv : Value)

set_option maxRecDepth 20000 in
set_option maxHeartbeats 4000000 in
theorem do_4 (a b : Int) (n : Nat) (h : MM w mb B l iv ov ins sp s sv pv) (hl : s.st.length ≤ 1000) (hpc : s.pc ≤ 1000000) (hn : s.st.length = n + 2) : Calls Tryd.prog 46 #[.pointer (some ⟨mb, 0, none⟩), .agg #[.int .i64 4, .int .i64 a, .int .i64 b]] w (Does w mb B l iv ov ins sp s sv pv ⟨4, a, b⟩) := by
  have HM : Hid (DS w (w.alloc (.cells #[.int .i64 4, .int .i64 a, .int .i64 b] 27)) mb B l iv ov ins sp ⟨4, a, b⟩ s sv pv sv pv) := DS.start h ⟨4, a, b⟩
  have c23 := h.c_pc
  have lm := h.lt
  obtain ⟨q, g, hov, hq, hg, hqm, hgm⟩ := h.ops
  subst hov
  have HO : Hid (MM w mb B l iv (.map (some q)) ins sp s sv pv ∧ q < mb ∧ g < mb ∧ w.heap[q]? = some (.map (opsEs g) 5) ∧ w.heap[g]? = some (.cells #[.func (Fn.func 107) #[] #[]] 165 (0, 0))) := ⟨h, hq, hg, hqm, hgm⟩
  clear h hqm hgm hq hg
  go_enter Tryd.func46, Tryd.ntmps46
  go_wp2_with (go_at_call 45; refine (over_other _ mb 4 _ _ (by first | decide | omega) (by first | decide | omega) (by first | decide | omega)).mono ?_; rintro r w3 ⟨rfl, hb3⟩; have H3 : Hid (DS _ w3 _ _ _ _ _ _ _ _ _ _ _ _ _) := HM.out.grow hb3; obtain ⟨x0, x1, x2, y0, y1, yf, ym, yx, yn⟩ := H3.out.reads; clear hb3)
  have H4 : Hid (DS w (w3.setCell ⟨mb, 23, none⟩ (.int .i64 ((s.pc : Int) + 1))) _ _ _ _ _ _ _ _ _ _ _ _ _) := H3.out.setA1
  generalize hw4 : (w3.setCell ⟨mb, 23, none⟩ (.int .i64 ((s.pc : Int) + 1))) = w4 at *
  clear hw4
  have hqk := (H4.out.old HO.out.1 HO.out.2.1).trans HO.out.2.2.2.1
  obtain ⟨ku0, -, -, -, kv1, -, -, -, -⟩ := H4.out.reads
  have hlk := look_found (w := w4.drew) (z := 4) hqk (ops_find g).1
  have hS0 : w4.drew.cell? ⟨w.heap.size, 0, none⟩ = some (.int .i64 4) ∧ w4.drew.cell? ⟨mb, 25, none⟩ = some (.map (some q)) := ⟨ku0, kv1⟩
  refine wp_region_noPanic ?_
  refine wp_region_held_drew (S := fun w' => w'.cell? ⟨w.heap.size, 0, none⟩ = some (.int .i64 4) ∧ w'.cell? ⟨mb, 25, none⟩ = some (.map (some q))) (by kernel_rfl) hS0 (fun hHeld => ?_)
  refine take_at (i := 0) (n := 125) (v := ?_) rfl rfl (by kernel_rfl) (by kernel_rfl) (by kernel_rfl) (fun _ _ _ h => h) (Or.inl ⟨by rfl, ?_⟩) (by assumption) ?_
  rotate_left 1
  · intro wz hSw
    first | (go_simp; done) | (go_simp; with_reducible rfl)
  simp only [List.set_cons_zero, List.set_cons_succ]
  refine take_at (i := 1) (n := 126) (v := ?_) rfl rfl (by kernel_rfl) (by kernel_rfl) (by kernel_rfl) (fun _ _ _ h => h) (Or.inl ⟨by rfl, ?_⟩) (by assumption) ?_
  rotate_left 1
  · intro wz hSw
    first | (go_simp; done) | (go_simp; with_reducible rfl)
  simp only [List.set_cons_zero, List.set_cons_succ]
  refine take_at (i := 2) (n := 127) (v := ?_) rfl rfl (by kernel_rfl) (by kernel_rfl) (by kernel_rfl) (fun _ _ _ h => h) (Or.inl ⟨by rfl, ?_⟩) (by assumption) ?_
  rotate_left 1
  · intro wz hSw
    first | (go_simp; done) | (go_simp; with_reducible rfl)
  simp only [List.set_cons_zero, List.set_cons_succ]
  refine take_at (i := 3) (n := 128) (v := ?_) rfl rfl (by kernel_rfl) (by kernel_rfl) (by kernel_rfl) (fun _ _ _ h => h) (Or.inl ⟨by rfl, ?_⟩) (by assumption) ?_
  rotate_left 1
  · intro wz hSw
    first | (go_simp; done) | (go_simp; with_reducible rfl)
  simp only [List.set_cons_zero, List.set_cons_succ]
  refine take_at (i := 4) (n := 129) (v := ?_) rfl rfl (by kernel_rfl) (by kernel_rfl) (by kernel_rfl) (fun _ _ _ h => h) (Or.inl ⟨by rfl, ?_⟩) (by assumption) ?_
  rotate_left 1
  · intro wz hSw
    first | (go_simp; done) | (go_simp; with_reducible rfl)
  simp only [List.set_cons_zero, List.set_cons_succ]
  refine take_at (i := 5) (n := 130) (v := ?_) rfl rfl (by kernel_rfl) (by kernel_rfl) (by kernel_rfl) (fun _ _ _ h => h) (Or.inl ⟨by rfl, ?_⟩) (by assumption) ?_
  rotate_left 1
  · intro wz hSw
    first | (go_simp; done) | (go_simp; with_reducible rfl)
  simp only [List.set_cons_zero, List.set_cons_succ]
  refine wpAnyH_ready (rs := [6]) (by kernel_rfl) (by simp) ?_
  refine AllReadyH.cons rfl (fun K hK => ?_) AllReadyH.nil
  go_simp
  refine hK.out _ _ hS0 (fun hHeld => ?_)
  clear hK K
  refine take_at (i := 7) (n := 124) (v := ?_) rfl rfl (by kernel_rfl) (by kernel_rfl) (by kernel_rfl) (fun _ _ _ h => h) (Or.inl ⟨by rfl, ?_⟩) (by assumption) ?_
  rotate_left 1
  · intro wz hSw
    first | (go_simp; done) | (go_simp; with_reducible rfl)
  simp only [List.set_cons_zero, List.set_cons_succ]
  refine take_at (i := 8) (n := 132) (v := ?_) rfl rfl (by kernel_rfl) (by kernel_rfl) (by kernel_rfl) (fun _ _ _ h => h) (Or.inl ⟨by rfl, ?_⟩) (by assumption) ?_
  rotate_left 1
  · intro wz hSw
    first | (go_simp; done) | (go_simp; with_reducible rfl)
  simp only [List.set_cons_zero, List.set_cons_succ]
  refine take_at (i := 9) (n := 133) (v := ?_) rfl rfl (by kernel_rfl) (by kernel_rfl) (by kernel_rfl) (fun _ _ _ h => h) (Or.inl ⟨by rfl, ?_⟩) (by assumption) ?_
  rotate_left 1
  · intro wz hSw
    first | (go_simp; done) | (go_simp; with_reducible rfl)
  simp only [List.set_cons_zero, List.set_cons_succ]
  refine take_at (i := 10) (n := 5) (v := ?_) rfl rfl (by kernel_rfl) (by kernel_rfl) (by kernel_rfl) (fun _ _ _ h => h) (Or.inl ⟨by rfl, ?_⟩) (by assumption) ?_
  rotate_left 1
  · intro wz hSw
    first | (go_simp; done) | (go_simp; with_reducible rfl)
  simp only [List.set_cons_zero, List.set_cons_succ]
  refine take_at (i := 11) (n := 6) (v := ?_) rfl rfl (by kernel_rfl) (by kernel_rfl) (by kernel_rfl) (fun _ _ _ h => h) (Or.inl ⟨by rfl, ?_⟩) (by assumption) ?_
  rotate_left 1
  · intro wz hSw
    first | (go_simp; done) | (go_simp; with_reducible rfl)
  simp only [List.set_cons_zero, List.set_cons_succ]
  refine wpAnyH_done (by kernel_rfl) ?_ _
  refine NoPanic.normal ?_
  have H4d : Hid (DS w w4.drew _ _ _ _ _ _ _ _ _ _ _ _ _) := H4.out.grow (Below.refl _ _).drew
  have htop : ({ pc := s.pc + 1, st := s.st.dropLast, vs := s.vs, cs := s.cs, ps := s.ps } : MS).top = s.second := rfl
  go_wp2_with (first
    | (go_at_call 84; guard_hyp H4d : Hid _; refine (pop_any _ mb B l iv _ ins sp _ _ _ (n + 1) H4d.out.mm (by dsimp only; omega) (by omega)).mono ?_; rintro r w5 ⟨rfl, sv5, hm5, hr5⟩; have H5 : Hid (DS w w5 _ _ _ _ _ _ _ _ _ _ _ _ _) := H4d.out.step hm5 hr5; clear hm5 hr5 H4d)
    | (go_at_call 84; refine (pop_any _ mb B l iv _ ins sp _ _ _ n H5.out.mm (by dsimp only; simp only [List.length_dropLast]; omega) (by omega)).mono ?_; rw [htop]; rintro r w6 ⟨rfl, sv6, hm6, hr6⟩; have H6 : Hid (DS w w6 _ _ _ _ _ _ _ _ _ _ _ _ _) := H5.out.step hm6 hr6; clear hm6 hr6)
    | (go_at_call 108; refine (add_any _ s.second s.top).mono ?_; rintro r w7 ⟨rfl, rfl⟩)
    | (go_at_call 83; refine (push_any _ mb B l iv _ ins sp _ _ _ (wrap64 (s.second + s.top)) H6.out.mm (by dsimp only; simp only [List.length_dropLast]; omega)).mono ?_; rintro r w8 ⟨rfl, sv8, hm5, hr5⟩; have H8 : Hid (DS w w8 _ _ _ _ _ _ _ _ _ _ _ _ _) := H6.out.step hm5 hr5; obtain ⟨u0, u1, u2, v0, v1, vf, vm, vx, vn⟩ := H8.out.reads; clear hm5 hr5))
  go_end0
  exact ⟨rfl, sv8, pv, H8.out.mm, H8.out.mr⟩

set_option maxRecDepth 20000 in
set_option maxHeartbeats 4000000 in
theorem do_5 (a b : Int) (n : Nat) (h : MM w mb B l iv ov ins sp s sv pv) (hl : s.st.length ≤ 1000) (hpc : s.pc ≤ 1000000) (hn : s.st.length = n + 2) : Calls Tryd.prog 46 #[.pointer (some ⟨mb, 0, none⟩), .agg #[.int .i64 5, .int .i64 a, .int .i64 b]] w (Does w mb B l iv ov ins sp s sv pv ⟨5, a, b⟩) := by
  have HM : Hid (DS w (w.alloc (.cells #[.int .i64 5, .int .i64 a, .int .i64 b] 27)) mb B l iv ov ins sp ⟨5, a, b⟩ s sv pv sv pv) := DS.start h ⟨5, a, b⟩
  have c23 := h.c_pc
  have lm := h.lt
  obtain ⟨q, g, hov, hq, hg, hqm, hgm⟩ := h.ops
  subst hov
  have HO : Hid (MM w mb B l iv (.map (some q)) ins sp s sv pv ∧ q < mb ∧ g < mb ∧ w.heap[q]? = some (.map (opsEs g) 5) ∧ w.heap[g]? = some (.cells #[.func (Fn.func 107) #[] #[]] 165 (0, 0))) := ⟨h, hq, hg, hqm, hgm⟩
  clear h hqm hgm hq hg
  go_enter Tryd.func46, Tryd.ntmps46
  go_wp2_with (go_at_call 45; refine (over_other _ mb 5 _ _ (by first | decide | omega) (by first | decide | omega) (by first | decide | omega)).mono ?_; rintro r w3 ⟨rfl, hb3⟩; have H3 : Hid (DS _ w3 _ _ _ _ _ _ _ _ _ _ _ _ _) := HM.out.grow hb3; obtain ⟨x0, x1, x2, y0, y1, yf, ym, yx, yn⟩ := H3.out.reads; clear hb3)
  have H4 : Hid (DS w (w3.setCell ⟨mb, 23, none⟩ (.int .i64 ((s.pc : Int) + 1))) _ _ _ _ _ _ _ _ _ _ _ _ _) := H3.out.setA1
  generalize hw4 : (w3.setCell ⟨mb, 23, none⟩ (.int .i64 ((s.pc : Int) + 1))) = w4 at *
  clear hw4
  have hqk := (H4.out.old HO.out.1 HO.out.2.1).trans HO.out.2.2.2.1
  obtain ⟨ku0, -, -, -, kv1, -, -, -, -⟩ := H4.out.reads
  have hlk := look_found (w := w4.drew) (z := 5) hqk (ops_find g).2.1
  have hS0 : w4.drew.cell? ⟨w.heap.size, 0, none⟩ = some (.int .i64 5) ∧ w4.drew.cell? ⟨mb, 25, none⟩ = some (.map (some q)) := ⟨ku0, kv1⟩
  refine wp_region_noPanic ?_
  refine wp_region_held_drew (S := fun w' => w'.cell? ⟨w.heap.size, 0, none⟩ = some (.int .i64 5) ∧ w'.cell? ⟨mb, 25, none⟩ = some (.map (some q))) (by kernel_rfl) hS0 (fun hHeld => ?_)
  refine take_at (i := 0) (n := 125) (v := ?_) rfl rfl (by kernel_rfl) (by kernel_rfl) (by kernel_rfl) (fun _ _ _ h => h) (Or.inl ⟨by rfl, ?_⟩) (by assumption) ?_
  rotate_left 1
  · intro wz hSw
    first | (go_simp; done) | (go_simp; with_reducible rfl)
  simp only [List.set_cons_zero, List.set_cons_succ]
  refine take_at (i := 1) (n := 126) (v := ?_) rfl rfl (by kernel_rfl) (by kernel_rfl) (by kernel_rfl) (fun _ _ _ h => h) (Or.inl ⟨by rfl, ?_⟩) (by assumption) ?_
  rotate_left 1
  · intro wz hSw
    first | (go_simp; done) | (go_simp; with_reducible rfl)
  simp only [List.set_cons_zero, List.set_cons_succ]
  refine take_at (i := 2) (n := 127) (v := ?_) rfl rfl (by kernel_rfl) (by kernel_rfl) (by kernel_rfl) (fun _ _ _ h => h) (Or.inl ⟨by rfl, ?_⟩) (by assumption) ?_
  rotate_left 1
  · intro wz hSw
    first | (go_simp; done) | (go_simp; with_reducible rfl)
  simp only [List.set_cons_zero, List.set_cons_succ]
  refine take_at (i := 3) (n := 128) (v := ?_) rfl rfl (by kernel_rfl) (by kernel_rfl) (by kernel_rfl) (fun _ _ _ h => h) (Or.inl ⟨by rfl, ?_⟩) (by assumption) ?_
  rotate_left 1
  · intro wz hSw
    first | (go_simp; done) | (go_simp; with_reducible rfl)
  simp only [List.set_cons_zero, List.set_cons_succ]
  refine take_at (i := 4) (n := 129) (v := ?_) rfl rfl (by kernel_rfl) (by kernel_rfl) (by kernel_rfl) (fun _ _ _ h => h) (Or.inl ⟨by rfl, ?_⟩) (by assumption) ?_
  rotate_left 1
  · intro wz hSw
    first | (go_simp; done) | (go_simp; with_reducible rfl)
  simp only [List.set_cons_zero, List.set_cons_succ]
  refine take_at (i := 5) (n := 130) (v := ?_) rfl rfl (by kernel_rfl) (by kernel_rfl) (by kernel_rfl) (fun _ _ _ h => h) (Or.inl ⟨by rfl, ?_⟩) (by assumption) ?_
  rotate_left 1
  · intro wz hSw
    first | (go_simp; done) | (go_simp; with_reducible rfl)
  simp only [List.set_cons_zero, List.set_cons_succ]
  refine wpAnyH_ready (rs := [6]) (by kernel_rfl) (by simp) ?_
  refine AllReadyH.cons rfl (fun K hK => ?_) AllReadyH.nil
  go_simp
  refine hK.out _ _ hS0 (fun hHeld => ?_)
  clear hK K
  refine take_at (i := 7) (n := 124) (v := ?_) rfl rfl (by kernel_rfl) (by kernel_rfl) (by kernel_rfl) (fun _ _ _ h => h) (Or.inl ⟨by rfl, ?_⟩) (by assumption) ?_
  rotate_left 1
  · intro wz hSw
    first | (go_simp; done) | (go_simp; with_reducible rfl)
  simp only [List.set_cons_zero, List.set_cons_succ]
  refine take_at (i := 8) (n := 132) (v := ?_) rfl rfl (by kernel_rfl) (by kernel_rfl) (by kernel_rfl) (fun _ _ _ h => h) (Or.inl ⟨by rfl, ?_⟩) (by assumption) ?_
  rotate_left 1
  · intro wz hSw
    first | (go_simp; done) | (go_simp; with_reducible rfl)
  simp only [List.set_cons_zero, List.set_cons_succ]
  refine take_at (i := 9) (n := 133) (v := ?_) rfl rfl (by kernel_rfl) (by kernel_rfl) (by kernel_rfl) (fun _ _ _ h => h) (Or.inl ⟨by rfl, ?_⟩) (by assumption) ?_
  rotate_left 1
  · intro wz hSw
    first | (go_simp; done) | (go_simp; with_reducible rfl)
  simp only [List.set_cons_zero, List.set_cons_succ]
  refine take_at (i := 10) (n := 5) (v := ?_) rfl rfl (by kernel_rfl) (by kernel_rfl) (by kernel_rfl) (fun _ _ _ h => h) (Or.inl ⟨by rfl, ?_⟩) (by assumption) ?_
  rotate_left 1
  · intro wz hSw
    first | (go_simp; done) | (go_simp; with_reducible rfl)
  simp only [List.set_cons_zero, List.set_cons_succ]
  refine take_at (i := 11) (n := 6) (v := ?_) rfl rfl (by kernel_rfl) (by kernel_rfl) (by kernel_rfl) (fun _ _ _ h => h) (Or.inl ⟨by rfl, ?_⟩) (by assumption) ?_
  rotate_left 1
  · intro wz hSw
    first | (go_simp; done) | (go_simp; with_reducible rfl)
  simp only [List.set_cons_zero, List.set_cons_succ]
  refine wpAnyH_done (by kernel_rfl) ?_ _
  refine NoPanic.normal ?_
  have H4d : Hid (DS w w4.drew _ _ _ _ _ _ _ _ _ _ _ _ _) := H4.out.grow (Below.refl _ _).drew
  have htop : ({ pc := s.pc + 1, st := s.st.dropLast, vs := s.vs, cs := s.cs, ps := s.ps } : MS).top = s.second := rfl
  go_wp2_with (first
    | (go_at_call 84; guard_hyp H4d : Hid _; refine (pop_any _ mb B l iv _ ins sp _ _ _ (n + 1) H4d.out.mm (by dsimp only; omega) (by omega)).mono ?_; rintro r w5 ⟨rfl, sv5, hm5, hr5⟩; have H5 : Hid (DS w w5 _ _ _ _ _ _ _ _ _ _ _ _ _) := H4d.out.step hm5 hr5; clear hm5 hr5 H4d)
    | (go_at_call 84; refine (pop_any _ mb B l iv _ ins sp _ _ _ n H5.out.mm (by dsimp only; simp only [List.length_dropLast]; omega) (by omega)).mono ?_; rw [htop]; rintro r w6 ⟨rfl, sv6, hm6, hr6⟩; have H6 : Hid (DS w w6 _ _ _ _ _ _ _ _ _ _ _ _ _) := H5.out.step hm6 hr6; clear hm6 hr6)
    | (go_at_call 109; refine (sub_any _ s.second s.top).mono ?_; rintro r w7 ⟨rfl, rfl⟩)
    | (go_at_call 83; refine (push_any _ mb B l iv _ ins sp _ _ _ (wrap64 (s.second - s.top)) H6.out.mm (by dsimp only; simp only [List.length_dropLast]; omega)).mono ?_; rintro r w8 ⟨rfl, sv8, hm5, hr5⟩; have H8 : Hid (DS w w8 _ _ _ _ _ _ _ _ _ _ _ _ _) := H6.out.step hm5 hr5; obtain ⟨u0, u1, u2, v0, v1, vf, vm, vx, vn⟩ := H8.out.reads; clear hm5 hr5))
  go_end0
  exact ⟨rfl, sv8, pv, H8.out.mm, H8.out.mr⟩

set_option maxRecDepth 20000 in
set_option maxHeartbeats 4000000 in
theorem do_6 (a b : Int) (n : Nat) (h : MM w mb B l iv ov ins sp s sv pv) (hl : s.st.length ≤ 1000) (hpc : s.pc ≤ 1000000) (hn : s.st.length = n + 2) : Calls Tryd.prog 46 #[.pointer (some ⟨mb, 0, none⟩), .agg #[.int .i64 6, .int .i64 a, .int .i64 b]] w (Does w mb B l iv ov ins sp s sv pv ⟨6, a, b⟩) := by
  have HM : Hid (DS w (w.alloc (.cells #[.int .i64 6, .int .i64 a, .int .i64 b] 27)) mb B l iv ov ins sp ⟨6, a, b⟩ s sv pv sv pv) := DS.start h ⟨6, a, b⟩
  have c23 := h.c_pc
  have lm := h.lt
  obtain ⟨q, g, hov, hq, hg, hqm, hgm⟩ := h.ops
  subst hov
  have HO : Hid (MM w mb B l iv (.map (some q)) ins sp s sv pv ∧ q < mb ∧ g < mb ∧ w.heap[q]? = some (.map (opsEs g) 5) ∧ w.heap[g]? = some (.cells #[.func (Fn.func 107) #[] #[]] 165 (0, 0))) := ⟨h, hq, hg, hqm, hgm⟩
  clear h hqm hgm hq hg
  go_enter Tryd.func46, Tryd.ntmps46
  go_wp2_with (go_at_call 45; refine (over_other _ mb 6 _ _ (by first | decide | omega) (by first | decide | omega) (by first | decide | omega)).mono ?_; rintro r w3 ⟨rfl, hb3⟩; have H3 : Hid (DS _ w3 _ _ _ _ _ _ _ _ _ _ _ _ _) := HM.out.grow hb3; obtain ⟨x0, x1, x2, y0, y1, yf, ym, yx, yn⟩ := H3.out.reads; clear hb3)
  have H4 : Hid (DS w (w3.setCell ⟨mb, 23, none⟩ (.int .i64 ((s.pc : Int) + 1))) _ _ _ _ _ _ _ _ _ _ _ _ _) := H3.out.setA1
  generalize hw4 : (w3.setCell ⟨mb, 23, none⟩ (.int .i64 ((s.pc : Int) + 1))) = w4 at *
  clear hw4
  have hqk := (H4.out.old HO.out.1 HO.out.2.1).trans HO.out.2.2.2.1
  obtain ⟨ku0, -, -, -, kv1, -, -, -, -⟩ := H4.out.reads
  have hlk := look_found (w := w4.drew) (z := 6) hqk (ops_find g).2.2.1
  have hS0 : w4.drew.cell? ⟨w.heap.size, 0, none⟩ = some (.int .i64 6) ∧ w4.drew.cell? ⟨mb, 25, none⟩ = some (.map (some q)) := ⟨ku0, kv1⟩
  refine wp_region_noPanic ?_
  refine wp_region_held_drew (S := fun w' => w'.cell? ⟨w.heap.size, 0, none⟩ = some (.int .i64 6) ∧ w'.cell? ⟨mb, 25, none⟩ = some (.map (some q))) (by kernel_rfl) hS0 (fun hHeld => ?_)
  refine take_at (i := 0) (n := 125) (v := ?_) rfl rfl (by kernel_rfl) (by kernel_rfl) (by kernel_rfl) (fun _ _ _ h => h) (Or.inl ⟨by rfl, ?_⟩) (by assumption) ?_
  rotate_left 1
  · intro wz hSw
    first | (go_simp; done) | (go_simp; with_reducible rfl)
  simp only [List.set_cons_zero, List.set_cons_succ]
  refine take_at (i := 1) (n := 126) (v := ?_) rfl rfl (by kernel_rfl) (by kernel_rfl) (by kernel_rfl) (fun _ _ _ h => h) (Or.inl ⟨by rfl, ?_⟩) (by assumption) ?_
  rotate_left 1
  · intro wz hSw
    first | (go_simp; done) | (go_simp; with_reducible rfl)
  simp only [List.set_cons_zero, List.set_cons_succ]
  refine take_at (i := 2) (n := 127) (v := ?_) rfl rfl (by kernel_rfl) (by kernel_rfl) (by kernel_rfl) (fun _ _ _ h => h) (Or.inl ⟨by rfl, ?_⟩) (by assumption) ?_
  rotate_left 1
  · intro wz hSw
    first | (go_simp; done) | (go_simp; with_reducible rfl)
  simp only [List.set_cons_zero, List.set_cons_succ]
  refine take_at (i := 3) (n := 128) (v := ?_) rfl rfl (by kernel_rfl) (by kernel_rfl) (by kernel_rfl) (fun _ _ _ h => h) (Or.inl ⟨by rfl, ?_⟩) (by assumption) ?_
  rotate_left 1
  · intro wz hSw
    first | (go_simp; done) | (go_simp; with_reducible rfl)
  simp only [List.set_cons_zero, List.set_cons_succ]
  refine take_at (i := 4) (n := 129) (v := ?_) rfl rfl (by kernel_rfl) (by kernel_rfl) (by kernel_rfl) (fun _ _ _ h => h) (Or.inl ⟨by rfl, ?_⟩) (by assumption) ?_
  rotate_left 1
  · intro wz hSw
    first | (go_simp; done) | (go_simp; with_reducible rfl)
  simp only [List.set_cons_zero, List.set_cons_succ]
  refine take_at (i := 5) (n := 130) (v := ?_) rfl rfl (by kernel_rfl) (by kernel_rfl) (by kernel_rfl) (fun _ _ _ h => h) (Or.inl ⟨by rfl, ?_⟩) (by assumption) ?_
  rotate_left 1
  · intro wz hSw
    first | (go_simp; done) | (go_simp; with_reducible rfl)
  simp only [List.set_cons_zero, List.set_cons_succ]
  refine wpAnyH_ready (rs := [6]) (by kernel_rfl) (by simp) ?_
  refine AllReadyH.cons rfl (fun K hK => ?_) AllReadyH.nil
  go_simp
  refine hK.out _ _ hS0 (fun hHeld => ?_)
  clear hK K
  refine take_at (i := 7) (n := 124) (v := ?_) rfl rfl (by kernel_rfl) (by kernel_rfl) (by kernel_rfl) (fun _ _ _ h => h) (Or.inl ⟨by rfl, ?_⟩) (by assumption) ?_
  rotate_left 1
  · intro wz hSw
    first | (go_simp; done) | (go_simp; with_reducible rfl)
  simp only [List.set_cons_zero, List.set_cons_succ]
  refine take_at (i := 8) (n := 132) (v := ?_) rfl rfl (by kernel_rfl) (by kernel_rfl) (by kernel_rfl) (fun _ _ _ h => h) (Or.inl ⟨by rfl, ?_⟩) (by assumption) ?_
  rotate_left 1
  · intro wz hSw
    first | (go_simp; done) | (go_simp; with_reducible rfl)
  simp only [List.set_cons_zero, List.set_cons_succ]
  refine take_at (i := 9) (n := 133) (v := ?_) rfl rfl (by kernel_rfl) (by kernel_rfl) (by kernel_rfl) (fun _ _ _ h => h) (Or.inl ⟨by rfl, ?_⟩) (by assumption) ?_
  rotate_left 1
  · intro wz hSw
    first | (go_simp; done) | (go_simp; with_reducible rfl)
  simp only [List.set_cons_zero, List.set_cons_succ]
  refine take_at (i := 10) (n := 5) (v := ?_) rfl rfl (by kernel_rfl) (by kernel_rfl) (by kernel_rfl) (fun _ _ _ h => h) (Or.inl ⟨by rfl, ?_⟩) (by assumption) ?_
  rotate_left 1
  · intro wz hSw
    first | (go_simp; done) | (go_simp; with_reducible rfl)
  simp only [List.set_cons_zero, List.set_cons_succ]
  refine take_at (i := 11) (n := 6) (v := ?_) rfl rfl (by kernel_rfl) (by kernel_rfl) (by kernel_rfl) (fun _ _ _ h => h) (Or.inl ⟨by rfl, ?_⟩) (by assumption) ?_
  rotate_left 1
  · intro wz hSw
    first | (go_simp; done) | (go_simp; with_reducible rfl)
  simp only [List.set_cons_zero, List.set_cons_succ]
  refine wpAnyH_done (by kernel_rfl) ?_ _
  refine NoPanic.normal ?_
  have H4d : Hid (DS w w4.drew _ _ _ _ _ _ _ _ _ _ _ _ _) := H4.out.grow (Below.refl _ _).drew
  have htop : ({ pc := s.pc + 1, st := s.st.dropLast, vs := s.vs, cs := s.cs, ps := s.ps } : MS).top = s.second := rfl
  go_wp2_with (first
    | (go_at_call 84; guard_hyp H4d : Hid _; refine (pop_any _ mb B l iv _ ins sp _ _ _ (n + 1) H4d.out.mm (by dsimp only; omega) (by omega)).mono ?_; rintro r w5 ⟨rfl, sv5, hm5, hr5⟩; have H5 : Hid (DS w w5 _ _ _ _ _ _ _ _ _ _ _ _ _) := H4d.out.step hm5 hr5; clear hm5 hr5 H4d)
    | (go_at_call 84; refine (pop_any _ mb B l iv _ ins sp _ _ _ n H5.out.mm (by dsimp only; simp only [List.length_dropLast]; omega) (by omega)).mono ?_; rw [htop]; rintro r w6 ⟨rfl, sv6, hm6, hr6⟩; have H6 : Hid (DS w w6 _ _ _ _ _ _ _ _ _ _ _ _ _) := H5.out.step hm6 hr6; clear hm6 hr6)
    | (go_at_call 110; refine (mul_any _ s.second s.top).mono ?_; rintro r w7 ⟨rfl, rfl⟩)
    | (go_at_call 83; refine (push_any _ mb B l iv _ ins sp _ _ _ (wrap64 (s.second * s.top)) H6.out.mm (by dsimp only; simp only [List.length_dropLast]; omega)).mono ?_; rintro r w8 ⟨rfl, sv8, hm5, hr5⟩; have H8 : Hid (DS w w8 _ _ _ _ _ _ _ _ _ _ _ _ _) := H6.out.step hm5 hr5; obtain ⟨u0, u1, u2, v0, v1, vf, vm, vx, vn⟩ := H8.out.reads; clear hm5 hr5))
  go_end0
  exact ⟨rfl, sv8, pv, H8.out.mm, H8.out.mr⟩

set_option maxRecDepth 20000 in
set_option maxHeartbeats 4000000 in
theorem do_7 (a b : Int) (n : Nat) (h : MM w mb B l iv ov ins sp s sv pv) (hl : s.st.length ≤ 1000) (hpc : s.pc ≤ 1000000) (hn : s.st.length = n + 2) : Calls Tryd.prog 46 #[.pointer (some ⟨mb, 0, none⟩), .agg #[.int .i64 7, .int .i64 a, .int .i64 b]] w (Does w mb B l iv ov ins sp s sv pv ⟨7, a, b⟩) := by
  have HM : Hid (DS w (w.alloc (.cells #[.int .i64 7, .int .i64 a, .int .i64 b] 27)) mb B l iv ov ins sp ⟨7, a, b⟩ s sv pv sv pv) := DS.start h ⟨7, a, b⟩
  have c23 := h.c_pc
  have lm := h.lt
  obtain ⟨q, g, hov, hq, hg, hqm, hgm⟩ := h.ops
  subst hov
  have HO : Hid (MM w mb B l iv (.map (some q)) ins sp s sv pv ∧ q < mb ∧ g < mb ∧ w.heap[q]? = some (.map (opsEs g) 5) ∧ w.heap[g]? = some (.cells #[.func (Fn.func 107) #[] #[]] 165 (0, 0))) := ⟨h, hq, hg, hqm, hgm⟩
  clear h hqm hgm hq hg
  go_enter Tryd.func46, Tryd.ntmps46
  go_wp2_with (go_at_call 45; refine (over_other _ mb 7 _ _ (by first | decide | omega) (by first | decide | omega) (by first | decide | omega)).mono ?_; rintro r w3 ⟨rfl, hb3⟩; have H3 : Hid (DS _ w3 _ _ _ _ _ _ _ _ _ _ _ _ _) := HM.out.grow hb3; obtain ⟨x0, x1, x2, y0, y1, yf, ym, yx, yn⟩ := H3.out.reads; clear hb3)
  have H4 : Hid (DS w (w3.setCell ⟨mb, 23, none⟩ (.int .i64 ((s.pc : Int) + 1))) _ _ _ _ _ _ _ _ _ _ _ _ _) := H3.out.setA1
  generalize hw4 : (w3.setCell ⟨mb, 23, none⟩ (.int .i64 ((s.pc : Int) + 1))) = w4 at *
  clear hw4
  have hqk := (H4.out.old HO.out.1 HO.out.2.1).trans HO.out.2.2.2.1
  obtain ⟨ku0, -, -, -, kv1, -, -, -, -⟩ := H4.out.reads
  have hlk := look_found (w := w4.drew) (z := 7) hqk (ops_find g).2.2.2.1
  have hS0 : w4.drew.cell? ⟨w.heap.size, 0, none⟩ = some (.int .i64 7) ∧ w4.drew.cell? ⟨mb, 25, none⟩ = some (.map (some q)) := ⟨ku0, kv1⟩
  refine wp_region_noPanic ?_
  refine wp_region_held_drew (S := fun w' => w'.cell? ⟨w.heap.size, 0, none⟩ = some (.int .i64 7) ∧ w'.cell? ⟨mb, 25, none⟩ = some (.map (some q))) (by kernel_rfl) hS0 (fun hHeld => ?_)
  refine take_at (i := 0) (n := 125) (v := ?_) rfl rfl (by kernel_rfl) (by kernel_rfl) (by kernel_rfl) (fun _ _ _ h => h) (Or.inl ⟨by rfl, ?_⟩) (by assumption) ?_
  rotate_left 1
  · intro wz hSw
    first | (go_simp; done) | (go_simp; with_reducible rfl)
  simp only [List.set_cons_zero, List.set_cons_succ]
  refine take_at (i := 1) (n := 126) (v := ?_) rfl rfl (by kernel_rfl) (by kernel_rfl) (by kernel_rfl) (fun _ _ _ h => h) (Or.inl ⟨by rfl, ?_⟩) (by assumption) ?_
  rotate_left 1
  · intro wz hSw
    first | (go_simp; done) | (go_simp; with_reducible rfl)
  simp only [List.set_cons_zero, List.set_cons_succ]
  refine take_at (i := 2) (n := 127) (v := ?_) rfl rfl (by kernel_rfl) (by kernel_rfl) (by kernel_rfl) (fun _ _ _ h => h) (Or.inl ⟨by rfl, ?_⟩) (by assumption) ?_
  rotate_left 1
  · intro wz hSw
    first | (go_simp; done) | (go_simp; with_reducible rfl)
  simp only [List.set_cons_zero, List.set_cons_succ]
  refine take_at (i := 3) (n := 128) (v := ?_) rfl rfl (by kernel_rfl) (by kernel_rfl) (by kernel_rfl) (fun _ _ _ h => h) (Or.inl ⟨by rfl, ?_⟩) (by assumption) ?_
  rotate_left 1
  · intro wz hSw
    first | (go_simp; done) | (go_simp; with_reducible rfl)
  simp only [List.set_cons_zero, List.set_cons_succ]
  refine take_at (i := 4) (n := 129) (v := ?_) rfl rfl (by kernel_rfl) (by kernel_rfl) (by kernel_rfl) (fun _ _ _ h => h) (Or.inl ⟨by rfl, ?_⟩) (by assumption) ?_
  rotate_left 1
  · intro wz hSw
    first | (go_simp; done) | (go_simp; with_reducible rfl)
  simp only [List.set_cons_zero, List.set_cons_succ]
  refine take_at (i := 5) (n := 130) (v := ?_) rfl rfl (by kernel_rfl) (by kernel_rfl) (by kernel_rfl) (fun _ _ _ h => h) (Or.inl ⟨by rfl, ?_⟩) (by assumption) ?_
  rotate_left 1
  · intro wz hSw
    first | (go_simp; done) | (go_simp; with_reducible rfl)
  simp only [List.set_cons_zero, List.set_cons_succ]
  refine wpAnyH_ready (rs := [6]) (by kernel_rfl) (by simp) ?_
  refine AllReadyH.cons rfl (fun K hK => ?_) AllReadyH.nil
  go_simp
  refine hK.out _ _ hS0 (fun hHeld => ?_)
  clear hK K
  refine take_at (i := 7) (n := 124) (v := ?_) rfl rfl (by kernel_rfl) (by kernel_rfl) (by kernel_rfl) (fun _ _ _ h => h) (Or.inl ⟨by rfl, ?_⟩) (by assumption) ?_
  rotate_left 1
  · intro wz hSw
    first | (go_simp; done) | (go_simp; with_reducible rfl)
  simp only [List.set_cons_zero, List.set_cons_succ]
  refine take_at (i := 8) (n := 132) (v := ?_) rfl rfl (by kernel_rfl) (by kernel_rfl) (by kernel_rfl) (fun _ _ _ h => h) (Or.inl ⟨by rfl, ?_⟩) (by assumption) ?_
  rotate_left 1
  · intro wz hSw
    first | (go_simp; done) | (go_simp; with_reducible rfl)
  simp only [List.set_cons_zero, List.set_cons_succ]
  refine take_at (i := 9) (n := 133) (v := ?_) rfl rfl (by kernel_rfl) (by kernel_rfl) (by kernel_rfl) (fun _ _ _ h => h) (Or.inl ⟨by rfl, ?_⟩) (by assumption) ?_
  rotate_left 1
  · intro wz hSw
    first | (go_simp; done) | (go_simp; with_reducible rfl)
  simp only [List.set_cons_zero, List.set_cons_succ]
  refine take_at (i := 10) (n := 5) (v := ?_) rfl rfl (by kernel_rfl) (by kernel_rfl) (by kernel_rfl) (fun _ _ _ h => h) (Or.inl ⟨by rfl, ?_⟩) (by assumption) ?_
  rotate_left 1
  · intro wz hSw
    first | (go_simp; done) | (go_simp; with_reducible rfl)
  simp only [List.set_cons_zero, List.set_cons_succ]
  refine take_at (i := 11) (n := 6) (v := ?_) rfl rfl (by kernel_rfl) (by kernel_rfl) (by kernel_rfl) (fun _ _ _ h => h) (Or.inl ⟨by rfl, ?_⟩) (by assumption) ?_
  rotate_left 1
  · intro wz hSw
    first | (go_simp; done) | (go_simp; with_reducible rfl)
  simp only [List.set_cons_zero, List.set_cons_succ]
  refine wpAnyH_done (by kernel_rfl) ?_ _
  refine NoPanic.normal ?_
  have H4d : Hid (DS w w4.drew _ _ _ _ _ _ _ _ _ _ _ _ _) := H4.out.grow (Below.refl _ _).drew
  have htop : ({ pc := s.pc + 1, st := s.st.dropLast, vs := s.vs, cs := s.cs, ps := s.ps } : MS).top = s.second := rfl
  go_wp2_with (first
    | (go_at_call 84; guard_hyp H4d : Hid _; refine (pop_any _ mb B l iv _ ins sp _ _ _ (n + 1) H4d.out.mm (by dsimp only; omega) (by omega)).mono ?_; rintro r w5 ⟨rfl, sv5, hm5, hr5⟩; have H5 : Hid (DS w w5 _ _ _ _ _ _ _ _ _ _ _ _ _) := H4d.out.step hm5 hr5; clear hm5 hr5 H4d)
    | (go_at_call 84; refine (pop_any _ mb B l iv _ ins sp _ _ _ n H5.out.mm (by dsimp only; simp only [List.length_dropLast]; omega) (by omega)).mono ?_; rw [htop]; rintro r w6 ⟨rfl, sv6, hm6, hr6⟩; have H6 : Hid (DS w w6 _ _ _ _ _ _ _ _ _ _ _ _ _) := H5.out.step hm6 hr6; clear hm6 hr6)
    | (go_at_call 111; refine (less_any _ s.second s.top g ((cells_of (l := [_]) ((H6.out.old HO.out.1 HO.out.2.2.1).trans HO.out.2.2.2.2)).1 0 _ rfl)).mono ?_; rintro r w7 ⟨rfl, rfl⟩)
    | (go_at_call 83; refine (push_any _ mb B l iv _ ins sp _ _ _ (if s.second < s.top then 1 else 0) H6.out.mm (by dsimp only; simp only [List.length_dropLast]; omega)).mono ?_; rintro r w8 ⟨rfl, sv8, hm5, hr5⟩; have H8 : Hid (DS w w8 _ _ _ _ _ _ _ _ _ _ _ _ _) := H6.out.step hm5 hr5; obtain ⟨u0, u1, u2, v0, v1, vf, vm, vx, vn⟩ := H8.out.reads; clear hm5 hr5))
  all_goals go_end0
  all_goals exact ⟨rfl, sv8, pv, H8.out.mm, H8.out.mr⟩

set_option maxRecDepth 20000 in
set_option maxHeartbeats 4000000 in
theorem do_8 (a b : Int) (n : Nat) (h : MM w mb B l iv ov ins sp s sv pv) (hl : s.st.length ≤ 1000) (hpc : s.pc ≤ 1000000) (hn : s.st.length = n + 2) : Calls Tryd.prog 46 #[.pointer (some ⟨mb, 0, none⟩), .agg #[.int .i64 8, .int .i64 a, .int .i64 b]] w (Does w mb B l iv ov ins sp s sv pv ⟨8, a, b⟩) := by
  have HM : Hid (DS w (w.alloc (.cells #[.int .i64 8, .int .i64 a, .int .i64 b] 27)) mb B l iv ov ins sp ⟨8, a, b⟩ s sv pv sv pv) := DS.start h ⟨8, a, b⟩
  have c23 := h.c_pc
  have lm := h.lt
  obtain ⟨q, g, hov, hq, hg, hqm, hgm⟩ := h.ops
  subst hov
  have HO : Hid (MM w mb B l iv (.map (some q)) ins sp s sv pv ∧ q < mb ∧ g < mb ∧ w.heap[q]? = some (.map (opsEs g) 5) ∧ w.heap[g]? = some (.cells #[.func (Fn.func 107) #[] #[]] 165 (0, 0))) := ⟨h, hq, hg, hqm, hgm⟩
  clear h hqm hgm hq hg
  go_enter Tryd.func46, Tryd.ntmps46
  go_wp2_with (go_at_call 45; refine (over_other _ mb 8 _ _ (by first | decide | omega) (by first | decide | omega) (by first | decide | omega)).mono ?_; rintro r w3 ⟨rfl, hb3⟩; have H3 : Hid (DS _ w3 _ _ _ _ _ _ _ _ _ _ _ _ _) := HM.out.grow hb3; obtain ⟨x0, x1, x2, y0, y1, yf, ym, yx, yn⟩ := H3.out.reads; clear hb3)
  have H4 : Hid (DS w (w3.setCell ⟨mb, 23, none⟩ (.int .i64 ((s.pc : Int) + 1))) _ _ _ _ _ _ _ _ _ _ _ _ _) := H3.out.setA1
  generalize hw4 : (w3.setCell ⟨mb, 23, none⟩ (.int .i64 ((s.pc : Int) + 1))) = w4 at *
  clear hw4
  have hqk := (H4.out.old HO.out.1 HO.out.2.1).trans HO.out.2.2.2.1
  obtain ⟨ku0, -, -, -, kv1, -, -, -, -⟩ := H4.out.reads
  have hlk := look_found (w := w4.drew) (z := 8) hqk (ops_find g).2.2.2.2
  have hS0 : w4.drew.cell? ⟨w.heap.size, 0, none⟩ = some (.int .i64 8) ∧ w4.drew.cell? ⟨mb, 25, none⟩ = some (.map (some q)) := ⟨ku0, kv1⟩
  refine wp_region_noPanic ?_
  refine wp_region_held_drew (S := fun w' => w'.cell? ⟨w.heap.size, 0, none⟩ = some (.int .i64 8) ∧ w'.cell? ⟨mb, 25, none⟩ = some (.map (some q))) (by kernel_rfl) hS0 (fun hHeld => ?_)
  refine take_at (i := 0) (n := 125) (v := ?_) rfl rfl (by kernel_rfl) (by kernel_rfl) (by kernel_rfl) (fun _ _ _ h => h) (Or.inl ⟨by rfl, ?_⟩) (by assumption) ?_
  rotate_left 1
  · intro wz hSw
    first | (go_simp; done) | (go_simp; with_reducible rfl)
  simp only [List.set_cons_zero, List.set_cons_succ]
  refine take_at (i := 1) (n := 126) (v := ?_) rfl rfl (by kernel_rfl) (by kernel_rfl) (by kernel_rfl) (fun _ _ _ h => h) (Or.inl ⟨by rfl, ?_⟩) (by assumption) ?_
  rotate_left 1
  · intro wz hSw
    first | (go_simp; done) | (go_simp; with_reducible rfl)
  simp only [List.set_cons_zero, List.set_cons_succ]
  refine take_at (i := 2) (n := 127) (v := ?_) rfl rfl (by kernel_rfl) (by kernel_rfl) (by kernel_rfl) (fun _ _ _ h => h) (Or.inl ⟨by rfl, ?_⟩) (by assumption) ?_
  rotate_left 1
  · intro wz hSw
    first | (go_simp; done) | (go_simp; with_reducible rfl)
  simp only [List.set_cons_zero, List.set_cons_succ]
  refine take_at (i := 3) (n := 128) (v := ?_) rfl rfl (by kernel_rfl) (by kernel_rfl) (by kernel_rfl) (fun _ _ _ h => h) (Or.inl ⟨by rfl, ?_⟩) (by assumption) ?_
  rotate_left 1
  · intro wz hSw
    first | (go_simp; done) | (go_simp; with_reducible rfl)
  simp only [List.set_cons_zero, List.set_cons_succ]
  refine take_at (i := 4) (n := 129) (v := ?_) rfl rfl (by kernel_rfl) (by kernel_rfl) (by kernel_rfl) (fun _ _ _ h => h) (Or.inl ⟨by rfl, ?_⟩) (by assumption) ?_
  rotate_left 1
  · intro wz hSw
    first | (go_simp; done) | (go_simp; with_reducible rfl)
  simp only [List.set_cons_zero, List.set_cons_succ]
  refine take_at (i := 5) (n := 130) (v := ?_) rfl rfl (by kernel_rfl) (by kernel_rfl) (by kernel_rfl) (fun _ _ _ h => h) (Or.inl ⟨by rfl, ?_⟩) (by assumption) ?_
  rotate_left 1
  · intro wz hSw
    first | (go_simp; done) | (go_simp; with_reducible rfl)
  simp only [List.set_cons_zero, List.set_cons_succ]
  refine wpAnyH_ready (rs := [6]) (by kernel_rfl) (by simp) ?_
  refine AllReadyH.cons rfl (fun K hK => ?_) AllReadyH.nil
  go_simp
  refine hK.out _ _ hS0 (fun hHeld => ?_)
  clear hK K
  refine take_at (i := 7) (n := 124) (v := ?_) rfl rfl (by kernel_rfl) (by kernel_rfl) (by kernel_rfl) (fun _ _ _ h => h) (Or.inl ⟨by rfl, ?_⟩) (by assumption) ?_
  rotate_left 1
  · intro wz hSw
    first | (go_simp; done) | (go_simp; with_reducible rfl)
  simp only [List.set_cons_zero, List.set_cons_succ]
  refine take_at (i := 8) (n := 132) (v := ?_) rfl rfl (by kernel_rfl) (by kernel_rfl) (by kernel_rfl) (fun _ _ _ h => h) (Or.inl ⟨by rfl, ?_⟩) (by assumption) ?_
  rotate_left 1
  · intro wz hSw
    first | (go_simp; done) | (go_simp; with_reducible rfl)
  simp only [List.set_cons_zero, List.set_cons_succ]
  refine take_at (i := 9) (n := 133) (v := ?_) rfl rfl (by kernel_rfl) (by kernel_rfl) (by kernel_rfl) (fun _ _ _ h => h) (Or.inl ⟨by rfl, ?_⟩) (by assumption) ?_
  rotate_left 1
  · intro wz hSw
    first | (go_simp; done) | (go_simp; with_reducible rfl)
  simp only [List.set_cons_zero, List.set_cons_succ]
  refine take_at (i := 10) (n := 5) (v := ?_) rfl rfl (by kernel_rfl) (by kernel_rfl) (by kernel_rfl) (fun _ _ _ h => h) (Or.inl ⟨by rfl, ?_⟩) (by assumption) ?_
  rotate_left 1
  · intro wz hSw
    first | (go_simp; done) | (go_simp; with_reducible rfl)
  simp only [List.set_cons_zero, List.set_cons_succ]
  refine take_at (i := 11) (n := 6) (v := ?_) rfl rfl (by kernel_rfl) (by kernel_rfl) (by kernel_rfl) (fun _ _ _ h => h) (Or.inl ⟨by rfl, ?_⟩) (by assumption) ?_
  rotate_left 1
  · intro wz hSw
    first | (go_simp; done) | (go_simp; with_reducible rfl)
  simp only [List.set_cons_zero, List.set_cons_succ]
  refine wpAnyH_done (by kernel_rfl) ?_ _
  refine NoPanic.normal ?_
  have H4d : Hid (DS w w4.drew _ _ _ _ _ _ _ _ _ _ _ _ _) := H4.out.grow (Below.refl _ _).drew
  have htop : ({ pc := s.pc + 1, st := s.st.dropLast, vs := s.vs, cs := s.cs, ps := s.ps } : MS).top = s.second := rfl
  go_wp2_with (first
    | (go_at_call 84; guard_hyp H4d : Hid _; refine (pop_any _ mb B l iv _ ins sp _ _ _ (n + 1) H4d.out.mm (by dsimp only; omega) (by omega)).mono ?_; rintro r w5 ⟨rfl, sv5, hm5, hr5⟩; have H5 : Hid (DS w w5 _ _ _ _ _ _ _ _ _ _ _ _ _) := H4d.out.step hm5 hr5; clear hm5 hr5 H4d)
    | (go_at_call 84; refine (pop_any _ mb B l iv _ ins sp _ _ _ n H5.out.mm (by dsimp only; simp only [List.length_dropLast]; omega) (by omega)).mono ?_; rw [htop]; rintro r w6 ⟨rfl, sv6, hm6, hr6⟩; have H6 : Hid (DS w w6 _ _ _ _ _ _ _ _ _ _ _ _ _) := H5.out.step hm6 hr6; clear hm6 hr6)
    | (go_at_call 112; refine (same_any _ s.second s.top g ((cells_of (l := [_]) ((H6.out.old HO.out.1 HO.out.2.2.1).trans HO.out.2.2.2.2)).1 0 _ rfl)).mono ?_; rintro r w7 ⟨rfl, rfl⟩)
    | (go_at_call 83; refine (push_any _ mb B l iv _ ins sp _ _ _ (if s.second = s.top then 1 else 0) H6.out.mm (by dsimp only; simp only [List.length_dropLast]; omega)).mono ?_; rintro r w8 ⟨rfl, sv8, hm5, hr5⟩; have H8 : Hid (DS w w8 _ _ _ _ _ _ _ _ _ _ _ _ _) := H6.out.step hm5 hr5; obtain ⟨u0, u1, u2, v0, v1, vf, vm, vx, vn⟩ := H8.out.reads; clear hm5 hr5))
  all_goals go_end0
  all_goals exact ⟨rfl, sv8, pv, H8.out.mm, H8.out.mr⟩
end
end Go.Proofs.YtcmoehednkaehadDoor
