import Derived.Test.YtccoobcggbbciamLa0
namespace Go.Proofs.Ytccoobcggbbciam
open Go.ChangeShapes Go.WideShapes Go.ChangeAt Go.RowKit

theorem SW.cJ {A : Ad} {W : World} {jv mv ev : List Value} {s : Sc} (h : SW A W jv mv ev s) {i : Nat} {v : Value} (hv : jv[i]? = some v) : W.cell? ⟨A.gs, 2, none⟩ = some (.slice (some ⟨A.gJ, 0, none⟩) A.l.length A.l.length) ∧ W.cell? ⟨A.gJ, i, none⟩ = some v ∧ W.cell? ⟨A.gs, 1, none⟩ = some (.func (Fn.func 32) #[] #[.pointer (some ⟨A.gt, 0, none⟩), .pointer (some ⟨A.gp, 0, none⟩)]) := by
  obtain ⟨c, -, -⟩ := cells_of (l := [_, _, _, _, _, _]) h.sc
  exact ⟨c 2 _ rfl, (cells_of h.jr).1 i _ hv, c 1 _ rfl⟩
theorem SW.cJ0 {A : Ad} {W : World} {jv mv ev : List Value} {s : Sc} (h : SW A W jv mv ev s) : W.cell? ⟨A.gs, 2, none⟩ = some (.slice (some ⟨A.gJ, 0, none⟩) A.l.length A.l.length) := (cells_of (l := [_, _, _, _, _, _]) h.sc).1 2 _ rfl
theorem SW.cM0 {A : Ad} {W : World} {jv mv ev : List Value} {s : Sc} (h : SW A W jv mv ev s) : W.cell? ⟨A.gs, 3, none⟩ = some (.slice (some ⟨A.gM, 0, none⟩) A.l.length A.l.length) := (cells_of (l := [_, _, _, _, _, _]) h.sc).1 3 _ rfl
theorem SW.cW {A : Ad} {W : World} {jv mv ev : List Value} {s : Sc} (h : SW A W jv mv ev s) : W.cell? ⟨A.gs, 1, none⟩ = some (.func (Fn.func 32) #[] #[.pointer (some ⟨A.gt, 0, none⟩), .pointer (some ⟨A.gp, 0, none⟩)]) := (cells_of (l := [_, _, _, _, _, _]) h.sc).1 1 _ rfl
theorem SW.cM {A : Ad} {W : World} {jv mv ev : List Value} {s : Sc} (h : SW A W jv mv ev s) {i : Nat} {v : Value} (hv : mv[i]? = some v) : W.cell? ⟨A.gs, 3, none⟩ = some (.slice (some ⟨A.gM, 0, none⟩) A.l.length A.l.length) ∧ W.cell? ⟨A.gM, i, none⟩ = some v := by
  obtain ⟨c, -, -⟩ := cells_of (l := [_, _, _, _, _, _]) h.sc
  exact ⟨c 3 _ rfl, (cells_of h.mr).1 i _ hv⟩
theorem SW.cP {A : Ad} {W : World} {jv mv ev : List Value} {s : Sc} (h : SW A W jv mv ev s) {v : Value} (hv : A.pv = v) : W.cell? ⟨A.gs, 0, none⟩ = some v := by
  obtain ⟨c, -, -⟩ := cells_of (l := [_, _, _, _, _, _]) h.sc
  rw [← hv]
  exact c 0 _ rfl
theorem SW.fresh {A : Ad} {W : World} {jv mv ev : List Value} {s : Sc} (h : SW A W jv mv ev s) {g : Nat} (hg : W.heap.size ≤ g) : A.w.heap.size ≤ g ∧ (∀ u ∈ jv ++ mv ++ ev, u.ownBlock ≠ some g) ∧ ∀ p ∈ A.F, p.1 ≠ g := by
  refine ⟨Nat.le_trans h.bel.size hg, fun u hu e => ?_, fun p hp e => ?_⟩
  · rcases List.mem_append.1 hu with hu | hu
    · rcases List.mem_append.1 hu with hu | hu
      · obtain ⟨i, hi⟩ := List.getElem?_of_mem hu
        obtain ⟨c, hc⟩ := (h.ljs i u hi).ty e
        have := heap_lt hc
        omega
      · obtain ⟨i, hi⟩ := List.getElem?_of_mem hu
        obtain ⟨c, hc⟩ := (h.lms i u hi).ty e
        have := heap_lt hc
        omega
    · obtain ⟨i, hi⟩ := List.getElem?_of_mem hu
      obtain ⟨c, hc⟩ := (h.ens i u hi).ty e
      have := heap_lt hc
      omega
  · have := heap_lt (h.fr p hp)
    omega
/-- What the scene stands over. -/
structure Inp (A : Ad) : Prop where
  ok : PsOk A.l
  pr : RowSl Pa.vals A.w A.l A.pv
  tr : RowSl nuV A.w A.tk A.tv
  t0 : ∀ z ∈ A.tk, 0 ≤ z
  tl : A.tk.length ≤ 9223372036854775807
  m : A.m ≤ 4000

set_option maxRecDepth 20000 in
set_option maxHeartbeats 4000000 in
theorem addJ_any (A : Ad) (W : World) (jv mv ev : List Value) (s : Sc) (part cm K : Nat) (now : Int) (hI : Inp A) (hS : SOk A.l A.m K s) (h : SW A W jv mv ev s) (hp : part < A.l.length) (hc : cm < A.m) (hK : K ≤ 900000) : Calls Try.prog 20 #[.pointer (some ⟨A.gs, 0, none⟩), .int .i64 (part : Int), .int .i64 (cm : Int), .int .i64 now] W fun r w' => r = .returned (.tuple #[]) ∧ ∃ jv', SW A w' jv' mv ev (addJ A.l A.tk s part cm now) := by
  obtain ⟨v, hv⟩ : ∃ v, jv[part]? = some v := ⟨_, List.getElem?_eq_getElem (by rw [h.lj]; exact hp)⟩
  obtain ⟨q, hq⟩ : ∃ q, s.jobs.getD part [] = q := ⟨_, rfl⟩
  have hln := h.ljs part v hv
  rw [hq] at hln
  obtain ⟨ad0, c0, rfl⟩ := hln.val
  have hql : q.length ≤ K := by
    rw [← hq]
    exact (hS.pj part _ (some_getD (d := []) (by rw [hS.lj]; exact hp))).1
  have HQ : Hid (s.jobs.getD part [] = q) := hq
  have HPL : Hid (part < s.jobs.length) := (by rw [hS.lj]; exact hp : part < s.jobs.length)
  have HS0 : Hid (SW A W jv mv ev s) := h
  obtain ⟨wz, hwz⟩ : ∃ wz, wkF A.l A.tk part cm = wz := ⟨_, rfl⟩
  have HWZ : Hid (wkF A.l A.tk part cm = wz) := hwz
  have HWK : Hid (∀ W', Below W.heap.size W W' → Calls Try.prog 32 #[.int .i64 (part : Int), .int .i64 (cm : Int), .pointer (some ⟨A.gt, 0, none⟩), .pointer (some ⟨A.gp, 0, none⟩)] W' fun r w' => r = .returned (.int .i64 wz) ∧ Below W'.heap.size W' w') := fun W' hb => by
    have h' := h.grow hb
    have h9 := wk_any W' A.l A.tk A.pv A.tv A.gp A.gt part cm ((cells_of (l := [_]) h'.bp).1 0 _ rfl) ((cells_of (l := [_]) h'.bt).1 0 _ rfl) (hI.pr.below h'.bel) (hI.tr.below h'.bel) hI.ok hp (by have := hI.m; omega) hI.tl hI.t0
    rwa [hwz] at h9
  have hpi : (part : Int) < (A.l.length : Int) := by omega
  have hlgs := heap_lt h.sc
  have hlgJ := heap_lt h.jr
  obtain ⟨k0, k1, k2⟩ := h.cJ hv
  clear hS hI hln hq hwz h
  go_enter Try.func20, Try.ntmps20
  refine wp_region_noPanic ?_
  refine wp_region_last (S := fun w' => w'.cell? ⟨A.gs, 2, none⟩ = some (.slice (some ⟨A.gJ, 0, none⟩) A.l.length A.l.length) ∧ w'.cell? ⟨A.gJ, part, none⟩ = some (.slice ad0 q.length c0) ∧ w'.cell? ⟨A.gs, 1, none⟩ = some (.func (Fn.func 32) #[] #[.pointer (some ⟨A.gt, 0, none⟩), .pointer (some ⟨A.gp, 0, none⟩)])) (L := 25) (by kernel_rfl) ?_
  have hS1 : Hid (SW A W.drew jv mv ev s) := HS0.out.grow (Below.refl _ _).drew
  have hHeld := (hS1.out.cJ hv)
  refine takeL_at (i := 0) (n := 8) (v := ?_) rfl rfl (by kernel_rfl) (by kernel_rfl) (by decide) (by kernel_rfl) (by kernel_rfl) (by kernel_rfl) (fun _ _ _ h => h) (Or.inl ⟨by rfl, ?_⟩) (by assumption) ?_
  rotate_left 1
  · intro wz hSw
    obtain ⟨s0, s1, s2⟩ := hSw
    first | (go_simp; done) | (go_simp; with_reducible rfl)
  simp only [List.set_cons_zero, List.set_cons_succ]
  refine takeL_at (i := 1) (n := 9) (v := ?_) rfl rfl (by kernel_rfl) (by kernel_rfl) (by decide) (by kernel_rfl) (by kernel_rfl) (by kernel_rfl) (fun _ _ _ h => h) (Or.inl ⟨by rfl, ?_⟩) (by assumption) ?_
  rotate_left 1
  · intro wz hSw
    obtain ⟨s0, s1, s2⟩ := hSw
    first | (go_simp; done) | (go_simp; with_reducible rfl)
  simp only [List.set_cons_zero, List.set_cons_succ]
  refine takeL_at (i := 2) (n := 10) (v := ?_) rfl rfl (by kernel_rfl) (by kernel_rfl) (by decide) (by kernel_rfl) (by kernel_rfl) (by kernel_rfl) (fun _ _ _ h => h) (Or.inl ⟨by rfl, ?_⟩) (by assumption) ?_
  rotate_left 1
  · intro wz hSw
    obtain ⟨s0, s1, s2⟩ := hSw
    first | (go_simp; done) | (go_simp; with_reducible rfl)
  simp only [List.set_cons_zero, List.set_cons_succ]
  refine takeL_at (i := 3) (n := 11) (v := ?_) rfl rfl (by kernel_rfl) (by kernel_rfl) (by decide) (by kernel_rfl) (by kernel_rfl) (by kernel_rfl) (fun _ _ _ h => h) (Or.inl ⟨by rfl, ?_⟩) (by assumption) ?_
  rotate_left 1
  · intro wz hSw
    obtain ⟨s0, s1, s2⟩ := hSw
    first | (go_simp; done) | (go_simp; with_reducible rfl)
  simp only [List.set_cons_zero, List.set_cons_succ]
  refine takeL_at (i := 4) (n := 12) (v := ?_) rfl rfl (by kernel_rfl) (by kernel_rfl) (by decide) (by kernel_rfl) (by kernel_rfl) (by kernel_rfl) (fun _ _ _ h => h) (Or.inl ⟨by rfl, ?_⟩) (by assumption) ?_
  rotate_left 1
  · intro wz hSw
    obtain ⟨s0, s1, s2⟩ := hSw
    first | (go_simp; done) | (go_simp; with_reducible rfl)
  simp only [List.set_cons_zero, List.set_cons_succ]
  refine takeL_at (i := 5) (n := 13) (v := ?_) rfl rfl (by kernel_rfl) (by kernel_rfl) (by decide) (by kernel_rfl) (by kernel_rfl) (by kernel_rfl) (fun _ _ _ h => h) (Or.inl ⟨by rfl, ?_⟩) (by assumption) ?_
  rotate_left 1
  · intro wz hSw
    obtain ⟨s0, s1, s2⟩ := hSw
    first | (go_simp; done) | (go_simp; with_reducible rfl)
  simp only [List.set_cons_zero, List.set_cons_succ]
  refine takeL_at (i := 6) (n := 14) (v := ?_) rfl rfl (by kernel_rfl) (by kernel_rfl) (by decide) (by kernel_rfl) (by kernel_rfl) (by kernel_rfl) (fun _ _ _ h => h) (Or.inl ⟨by rfl, ?_⟩) (by assumption) ?_
  rotate_left 1
  · intro wz hSw
    obtain ⟨s0, s1, s2⟩ := hSw
    first | (go_simp; done) | (go_simp; with_reducible rfl)
  simp only [List.set_cons_zero, List.set_cons_succ]
  refine takeL_at (i := 7) (n := 15) (v := ?_) rfl rfl (by kernel_rfl) (by kernel_rfl) (by decide) (by kernel_rfl) (by kernel_rfl) (by kernel_rfl) (fun _ _ _ h => h) (Or.inl ⟨by rfl, ?_⟩) (by assumption) ?_
  rotate_left 1
  · intro wz hSw
    obtain ⟨s0, s1, s2⟩ := hSw
    first | (go_simp; done) | (go_simp; with_reducible rfl)
  simp only [List.set_cons_zero, List.set_cons_succ]
  refine takeL_at (i := 8) (n := 16) (v := ?_) rfl rfl (by kernel_rfl) (by kernel_rfl) (by decide) (by kernel_rfl) (by kernel_rfl) (by kernel_rfl) (fun _ _ _ h => h) (Or.inl ⟨by rfl, ?_⟩) (by assumption) ?_
  rotate_left 1
  · intro wz hSw
    obtain ⟨s0, s1, s2⟩ := hSw
    first | (go_simp; done) | (go_simp; with_reducible rfl)
  simp only [List.set_cons_zero, List.set_cons_succ]
  refine takeL_at (i := 9) (n := 17) (v := ?_) rfl rfl (by kernel_rfl) (by kernel_rfl) (by decide) (by kernel_rfl) (by kernel_rfl) (by kernel_rfl) (fun _ _ _ h => h) (Or.inl ⟨by rfl, ?_⟩) (by assumption) ?_
  rotate_left 1
  · intro wz hSw
    obtain ⟨s0, s1, s2⟩ := hSw
    first | (go_simp; done) | (go_simp; with_reducible rfl)
  simp only [List.set_cons_zero, List.set_cons_succ]
  refine takeL_at (i := 10) (n := 18) (v := ?_) rfl rfl (by kernel_rfl) (by kernel_rfl) (by decide) (by kernel_rfl) (by kernel_rfl) (by kernel_rfl) (fun _ _ _ h => h) (Or.inl ⟨by rfl, ?_⟩) (by assumption) ?_
  rotate_left 1
  · intro wz hSw
    obtain ⟨s0, s1, s2⟩ := hSw
    first | (go_simp; done) | (go_simp; with_reducible rfl)
  simp only [List.set_cons_zero, List.set_cons_succ]
  refine takeL_at (i := 11) (n := 19) (v := ?_) rfl rfl (by kernel_rfl) (by kernel_rfl) (by decide) (by kernel_rfl) (by kernel_rfl) (by kernel_rfl) (fun _ _ _ h => h) (Or.inl ⟨by rfl, ?_⟩) (by assumption) ?_
  rotate_left 1
  · intro wz hSw
    obtain ⟨s0, s1, s2⟩ := hSw
    first | (go_simp; done) | (go_simp; with_reducible rfl)
  simp only [List.set_cons_zero, List.set_cons_succ]
  refine takeL_at (i := 12) (n := 20) (v := ?_) rfl rfl (by kernel_rfl) (by kernel_rfl) (by decide) (by kernel_rfl) (by kernel_rfl) (by kernel_rfl) (fun _ _ _ h => h) (Or.inl ⟨by rfl, ?_⟩) (by assumption) ?_
  rotate_left 1
  · intro wz hSw
    obtain ⟨s0, s1, s2⟩ := hSw
    first | (go_simp; done) | (go_simp; with_reducible rfl)
  simp only [List.set_cons_zero, List.set_cons_succ]
  refine takeL_at (i := 13) (n := 21) (v := ?_) rfl rfl (by kernel_rfl) (by kernel_rfl) (by decide) (by kernel_rfl) (by kernel_rfl) (by kernel_rfl) (fun _ _ _ h => h) (Or.inl ⟨by rfl, ?_⟩) (by assumption) ?_
  rotate_left 1
  · intro wz hSw
    obtain ⟨s0, s1, s2⟩ := hSw
    first | (go_simp; done) | (go_simp; with_reducible rfl)
  simp only [List.set_cons_zero, List.set_cons_succ]
  refine takeL_at (i := 14) (n := 22) (v := ?_) rfl rfl (by kernel_rfl) (by kernel_rfl) (by decide) (by kernel_rfl) (by kernel_rfl) (by kernel_rfl) (fun _ _ _ h => h) (Or.inl ⟨by rfl, ?_⟩) (by assumption) ?_
  rotate_left 1
  · intro wz hSw
    obtain ⟨s0, s1, s2⟩ := hSw
    first | (go_simp; done) | (go_simp; with_reducible rfl)
  simp only [List.set_cons_zero, List.set_cons_succ]
  refine takeL_at (i := 15) (n := 23) (v := ?_) rfl rfl (by kernel_rfl) (by kernel_rfl) (by decide) (by kernel_rfl) (by kernel_rfl) (by kernel_rfl) (fun _ _ _ h => h) (Or.inl ⟨by rfl, ?_⟩) (by assumption) ?_
  rotate_left 1
  · intro wz hSw
    obtain ⟨s0, s1, s2⟩ := hSw
    first | (go_simp; done) | (go_simp; with_reducible rfl)
  simp only [List.set_cons_zero, List.set_cons_succ]
  refine takeL_at (i := 16) (n := 24) (v := ?_) rfl rfl (by kernel_rfl) (by kernel_rfl) (by decide) (by kernel_rfl) (by kernel_rfl) (by kernel_rfl) (fun _ _ _ h => h) (Or.inl ⟨by rfl, ?_⟩) (by assumption) ?_
  rotate_left 1
  · intro wz hSw
    obtain ⟨s0, s1, s2⟩ := hSw
    first | (go_simp; done) | (go_simp; with_reducible rfl)
  simp only [List.set_cons_zero, List.set_cons_succ]
  refine takeL_at (i := 17) (n := 25) (v := ?_) rfl rfl (by kernel_rfl) (by kernel_rfl) (by decide) (by kernel_rfl) (by kernel_rfl) (by kernel_rfl) (fun _ _ _ h => h) (Or.inl ⟨by rfl, ?_⟩) (by assumption) ?_
  rotate_left 1
  · intro wz hSw
    obtain ⟨s0, s1, s2⟩ := hSw
    first | (go_simp; done) | (go_simp; with_reducible rfl)
  simp only [List.set_cons_zero, List.set_cons_succ]
  refine takeL_at (i := 18) (n := 26) (v := ?_) rfl rfl (by kernel_rfl) (by kernel_rfl) (by decide) (by kernel_rfl) (by kernel_rfl) (by kernel_rfl) (fun _ _ _ h => h) (Or.inl ⟨by rfl, ?_⟩) (by assumption) ?_
  rotate_left 1
  · intro wz hSw
    obtain ⟨s0, s1, s2⟩ := hSw
    first | (go_simp; done) | (go_simp; with_reducible rfl)
  simp only [List.set_cons_zero, List.set_cons_succ]
  refine takeL_at (i := 19) (n := 27) (v := ?_) rfl rfl (by kernel_rfl) (by kernel_rfl) (by decide) (by kernel_rfl) (by kernel_rfl) (by kernel_rfl) (fun _ _ _ h => h) (Or.inl ⟨by rfl, ?_⟩) (by assumption) ?_
  rotate_left 1
  · intro wz hSw
    obtain ⟨s0, s1, s2⟩ := hSw
    first | (go_simp; done) | (go_simp; with_reducible rfl)
  simp only [List.set_cons_zero, List.set_cons_succ]
  refine wpAnyL_one (i := 20) (by kernel_rfl) rfl (fun K hK => ?_)
  go_simp
  go_wp2_with (go_at_call 32; refine (HWK.out _ (Below.refl _ _).drew).mono ?_; rintro r w4 ⟨rfl, hb4⟩)
  have HS4 : Hid (SW A w4 jv mv ev s) := hS1.out.grow hb4
  clear hb4
  refine hK.out _ _ (fun _ => (HS4.out.cJ hv)) ?_
  clear hK K
  try simp only [List.set_cons_zero, List.set_cons_succ]
  clear hHeld
  have hHeld := (HS4.out.cJ hv)
  refine takeL_at (i := 21) (n := 29) (v := ?_) rfl rfl (by kernel_rfl) (by kernel_rfl) (by decide) (by kernel_rfl) (by kernel_rfl) (by kernel_rfl) (fun _ _ _ h => h) (Or.inl ⟨by rfl, ?_⟩) (by assumption) ?_
  rotate_left 1
  · intro wz hSw
    obtain ⟨s0, s1, s2⟩ := hSw
    first | (go_simp; done) | (go_simp; with_reducible rfl)
  simp only [List.set_cons_zero, List.set_cons_succ]
  refine wpAnyL_one (i := 22) (by kernel_rfl) rfl (fun K hK => ?_)
  go_simp
  have HS5 : Hid (SW A ((w4.alloc (.cells #[.int .i64 (cm : Int), .int .i64 now, .int .i64 wz] 76))) jv mv ev s) := HS4.out.grow (below_new w4 (.cells #[.int .i64 (cm : Int), .int .i64 now, .int .i64 wz] 76))
  have f5 : ((w4.alloc (.cells #[.int .i64 (cm : Int), .int .i64 now, .int .i64 wz] 76))).heap[w4.heap.size]? = some (.cells #[.int .i64 (cm : Int), .int .i64 now, .int .i64 wz] 76 (0, 0)) := heap_alloc_new w4 _
  have n5 : (Value.slice ad0 q.length c0).ownBlock ≠ some w4.heap.size := fun e => by
    obtain ⟨cc, hcc⟩ := (HS4.out.ljs part _ hv).ty e
    exact Nat.lt_irrefl _ (heap_lt hcc)
  generalize (w4.alloc (.cells #[.int .i64 (cm : Int), .int .i64 now, .int .i64 wz] 76)) = w5 at HS5 f5 ⊢
  generalize w4.heap.size = ge at f5 n5 ⊢
  refine hK.out _ _ (fun _ => (HS5.out.cJ hv)) ?_
  clear hK K
  try simp only [List.set_cons_zero, List.set_cons_succ]
  clear hHeld
  have hHeld := (HS5.out.cJ hv)
  have hl5 := HS5.out.ljs part _ hv
  rw [HQ.out] at hl5
  obtain ⟨ad8, c8, w8, hrun, hl8, hold, hgb, hblk⟩ := hl5.push ⟨(cm : Int), now, wz⟩ f5 n5 (by omega)
  have HS8 : Hid (SW A w8 jv mv ev { s with jobs := s.jobs.set part q }) := HS5.out.lineJ hv HPL.out hgb hold
  have HS9 : Hid (SW A (w8.setCell ⟨A.gJ, part, none⟩ (.slice ad8 (q.length + 1) c8)) (jv.set part (.slice ad8 (q.length + 1) c8)) mv ev (addJ A.l A.tk s part cm now)) := by
    have h9 := HS8.out.putJ hv (by show part < (s.jobs.set part q).length; rw [List.length_set]; exact HPL.out) hl8 (fun g hg => by
      rcases hblk g hg with h | h
      · exact .inl h
      · exact .inr (HS5.out.fresh h))
    rw [show ({ ({ s with jobs := s.jobs.set part q } : Sc) with jobs := (s.jobs.set part q).set part (q ++ [⟨(cm : Int), now, wz⟩]) } : Sc) = addJ A.l A.tk s part cm now by rw [List.set_set]; unfold addJ; rw [HQ.out, HWZ.out]] at h9
    exact h9
  have hfz0 := (cells_of HS8.out.jr).2.1 part
  refine wpAnyL_one (i := 23) (by kernel_rfl) rfl (fun K hK => ?_)
  refine region_append2 rfl (.tmp 19) (.tmp 30) 74 31 rfl rfl rfl hrun rfl ?_
  clear hrun hl5 hl8 hold hgb hblk
  refine hK.out _ _ (fun _ => (HS8.out.cJ hv)) ?_
  clear hK K
  try simp only [List.set_cons_zero, List.set_cons_succ]
  clear hHeld
  have hHeld := (HS8.out.cJ hv)
  simp only [Act.put, List.setIfInBounds_toArray]
  try simp only [List.set_cons_zero, List.set_cons_succ]
  refine takeL_at (i := 24) (n := 32) (v := ?_) rfl rfl (by kernel_rfl) (by kernel_rfl) (by decide) (by kernel_rfl) (by kernel_rfl) (by kernel_rfl) (fun _ _ _ h => h) (Or.inl ⟨by rfl, ?_⟩) (by assumption) ?_
  rotate_left 1
  · intro wz hSw
    obtain ⟨s0, s1, s2⟩ := hSw
    first | (go_simp; done) | (go_simp; with_reducible rfl)
  simp only [List.set_cons_zero, List.set_cons_succ]
  have t0 := (HS8.out.cJ hv).2.1
  have lt0 := World.block_lt_of_cell? _ _ t0
  refine wpAnyL_one (i := 25) (by kernel_rfl) rfl (fun K hK => ?_)
  go_simp
  refine hK.out _ _ (fun h => absurd rfl h) ?_
  clear hK K
  try simp only [List.set_cons_zero, List.set_cons_succ]
  refine wpAnyL_done (by kernel_rfl) ?_ _
  refine NoPanic.normal ?_
  go_end0
  exact ⟨rfl, _, HS9.out⟩

set_option maxRecDepth 20000 in
set_option maxHeartbeats 4000000 in
theorem addM_any (A : Ad) (W : World) (jv mv ev : List Value) (s : Sc) (part cm K : Nat) (now : Int) (hI : Inp A) (hS : SOk A.l A.m K s) (h : SW A W jv mv ev s) (hp : part < A.l.length) (hK : K ≤ 900000) : Calls Try.prog 53 #[.pointer (some ⟨A.gs, 0, none⟩), .int .i64 (part : Int), .int .i64 (cm : Int), .int .i64 now] W fun r w' => r = .returned (.tuple #[]) ∧ ∃ mv', SW A w' jv mv' ev (addM A.l s part cm now) := by
  obtain ⟨v, hv⟩ : ∃ v, mv[part]? = some v := ⟨_, List.getElem?_eq_getElem (by rw [h.lm]; exact hp)⟩
  obtain ⟨q, hq⟩ : ∃ q, s.mail.getD part [] = q := ⟨_, rfl⟩
  have hln := h.lms part v hv
  rw [hq] at hln
  obtain ⟨ad0, c0, rfl⟩ := hln.val
  have hql : q.length ≤ K := by
    rw [← hq]
    exact (hS.pm part _ (some_getD (d := []) (by rw [hS.lm]; exact hp))).1
  have HQ : Hid (s.mail.getD part [] = q) := hq
  have HPL : Hid (part < s.mail.length) := (by rw [hS.lm]; exact hp : part < s.mail.length)
  have HS0 : Hid (SW A W jv mv ev s) := h
  obtain ⟨ad1, cl, hpv, -, hcap, hrow⟩ := hI.pr
  rcases hrow with h9 | ⟨b, o, rfl, hrow⟩
  · rw [h9] at hp; simp at hp
  obtain ⟨x, hx⟩ : ∃ x, A.l[part]? = some x := ⟨_, List.getElem?_eq_getElem hp⟩
  obtain ⟨-, -, y2, -⟩ := pa7_at hrow hx
  obtain ⟨se, hse⟩ : ∃ se, x.se = se := ⟨_, rfl⟩
  rw [hse] at y2
  have HSX : Hid ((A.l.getD part paZ).se = se) := (by rw [getD_some hx]; exact hse : (A.l.getD part paZ).se = se)
  have HSE : Hid (∀ W', Below A.w.heap.size A.w W' → W'.cell? ⟨b, o + part * 7 + 2, none⟩ = some (.int .i64 se)) := fun W' hb => below_cell hb y2
  have HPV : Hid (A.pv = .slice (some ⟨b, o, none⟩) A.l.length cl) := hpv
  have hpi : (part : Int) < (A.l.length : Int) := by omega
  have hlgs := heap_lt h.sc
  have hlgM := heap_lt h.mr
  obtain ⟨k0, k1⟩ := h.cM hv
  have k2 := h.cP hpv
  have k3 := HSE.out _ h.bel
  clear hS hI hln hq h hpv hrow hx hse y2
  go_enter Try.func53, Try.ntmps53
  refine wp_region_noPanic ?_
  refine wp_region_last (S := fun w' => w'.cell? ⟨A.gs, 3, none⟩ = some (.slice (some ⟨A.gM, 0, none⟩) A.l.length A.l.length) ∧ w'.cell? ⟨A.gM, part, none⟩ = some (.slice ad0 q.length c0) ∧ w'.cell? ⟨A.gs, 0, none⟩ = some (.slice (some ⟨b, o, none⟩) A.l.length cl) ∧ w'.cell? ⟨b, o + part * 7 + 2, none⟩ = some (.int .i64 se)) (L := 26) (by kernel_rfl) ?_
  have hS1 : Hid (SW A W.drew jv mv ev s) := HS0.out.grow (Below.refl _ _).drew
  have hHeld := (⟨(hS1.out.cM hv).1, (hS1.out.cM hv).2, hS1.out.cP HPV.out, HSE.out _ hS1.out.bel⟩ : _ ∧ _ ∧ _ ∧ _)
  refine takeL_at (i := 0) (n := 8) (v := ?_) rfl rfl (by kernel_rfl) (by kernel_rfl) (by decide) (by kernel_rfl) (by kernel_rfl) (by kernel_rfl) (fun _ _ _ h => h) (Or.inl ⟨by rfl, ?_⟩) (by assumption) ?_
  rotate_left 1
  · intro wz hSw
    obtain ⟨s0, s1, s2, s3⟩ := hSw
    first | (go_simp; done) | (go_simp; with_reducible rfl)
  simp only [List.set_cons_zero, List.set_cons_succ]
  refine takeL_at (i := 1) (n := 9) (v := ?_) rfl rfl (by kernel_rfl) (by kernel_rfl) (by decide) (by kernel_rfl) (by kernel_rfl) (by kernel_rfl) (fun _ _ _ h => h) (Or.inl ⟨by rfl, ?_⟩) (by assumption) ?_
  rotate_left 1
  · intro wz hSw
    obtain ⟨s0, s1, s2, s3⟩ := hSw
    first | (go_simp; done) | (go_simp; with_reducible rfl)
  simp only [List.set_cons_zero, List.set_cons_succ]
  refine takeL_at (i := 2) (n := 10) (v := ?_) rfl rfl (by kernel_rfl) (by kernel_rfl) (by decide) (by kernel_rfl) (by kernel_rfl) (by kernel_rfl) (fun _ _ _ h => h) (Or.inl ⟨by rfl, ?_⟩) (by assumption) ?_
  rotate_left 1
  · intro wz hSw
    obtain ⟨s0, s1, s2, s3⟩ := hSw
    first | (go_simp; done) | (go_simp; with_reducible rfl)
  simp only [List.set_cons_zero, List.set_cons_succ]
  refine takeL_at (i := 3) (n := 11) (v := ?_) rfl rfl (by kernel_rfl) (by kernel_rfl) (by decide) (by kernel_rfl) (by kernel_rfl) (by kernel_rfl) (fun _ _ _ h => h) (Or.inl ⟨by rfl, ?_⟩) (by assumption) ?_
  rotate_left 1
  · intro wz hSw
    obtain ⟨s0, s1, s2, s3⟩ := hSw
    first | (go_simp; done) | (go_simp; with_reducible rfl)
  simp only [List.set_cons_zero, List.set_cons_succ]
  refine takeL_at (i := 4) (n := 12) (v := ?_) rfl rfl (by kernel_rfl) (by kernel_rfl) (by decide) (by kernel_rfl) (by kernel_rfl) (by kernel_rfl) (fun _ _ _ h => h) (Or.inl ⟨by rfl, ?_⟩) (by assumption) ?_
  rotate_left 1
  · intro wz hSw
    obtain ⟨s0, s1, s2, s3⟩ := hSw
    first | (go_simp; done) | (go_simp; with_reducible rfl)
  simp only [List.set_cons_zero, List.set_cons_succ]
  refine takeL_at (i := 5) (n := 13) (v := ?_) rfl rfl (by kernel_rfl) (by kernel_rfl) (by decide) (by kernel_rfl) (by kernel_rfl) (by kernel_rfl) (fun _ _ _ h => h) (Or.inl ⟨by rfl, ?_⟩) (by assumption) ?_
  rotate_left 1
  · intro wz hSw
    obtain ⟨s0, s1, s2, s3⟩ := hSw
    first | (go_simp; done) | (go_simp; with_reducible rfl)
  simp only [List.set_cons_zero, List.set_cons_succ]
  refine takeL_at (i := 6) (n := 14) (v := ?_) rfl rfl (by kernel_rfl) (by kernel_rfl) (by decide) (by kernel_rfl) (by kernel_rfl) (by kernel_rfl) (fun _ _ _ h => h) (Or.inl ⟨by rfl, ?_⟩) (by assumption) ?_
  rotate_left 1
  · intro wz hSw
    obtain ⟨s0, s1, s2, s3⟩ := hSw
    first | (go_simp; done) | (go_simp; with_reducible rfl)
  simp only [List.set_cons_zero, List.set_cons_succ]
  refine takeL_at (i := 7) (n := 15) (v := ?_) rfl rfl (by kernel_rfl) (by kernel_rfl) (by decide) (by kernel_rfl) (by kernel_rfl) (by kernel_rfl) (fun _ _ _ h => h) (Or.inl ⟨by rfl, ?_⟩) (by assumption) ?_
  rotate_left 1
  · intro wz hSw
    obtain ⟨s0, s1, s2, s3⟩ := hSw
    first | (go_simp; done) | (go_simp; with_reducible rfl)
  simp only [List.set_cons_zero, List.set_cons_succ]
  refine takeL_at (i := 8) (n := 16) (v := ?_) rfl rfl (by kernel_rfl) (by kernel_rfl) (by decide) (by kernel_rfl) (by kernel_rfl) (by kernel_rfl) (fun _ _ _ h => h) (Or.inl ⟨by rfl, ?_⟩) (by assumption) ?_
  rotate_left 1
  · intro wz hSw
    obtain ⟨s0, s1, s2, s3⟩ := hSw
    first | (go_simp; done) | (go_simp; with_reducible rfl)
  simp only [List.set_cons_zero, List.set_cons_succ]
  refine takeL_at (i := 9) (n := 17) (v := ?_) rfl rfl (by kernel_rfl) (by kernel_rfl) (by decide) (by kernel_rfl) (by kernel_rfl) (by kernel_rfl) (fun _ _ _ h => h) (Or.inl ⟨by rfl, ?_⟩) (by assumption) ?_
  rotate_left 1
  · intro wz hSw
    obtain ⟨s0, s1, s2, s3⟩ := hSw
    first | (go_simp; done) | (go_simp; with_reducible rfl)
  simp only [List.set_cons_zero, List.set_cons_succ]
  refine takeL_at (i := 10) (n := 18) (v := ?_) rfl rfl (by kernel_rfl) (by kernel_rfl) (by decide) (by kernel_rfl) (by kernel_rfl) (by kernel_rfl) (fun _ _ _ h => h) (Or.inl ⟨by rfl, ?_⟩) (by assumption) ?_
  rotate_left 1
  · intro wz hSw
    obtain ⟨s0, s1, s2, s3⟩ := hSw
    first | (go_simp; done) | (go_simp; with_reducible rfl)
  simp only [List.set_cons_zero, List.set_cons_succ]
  refine takeL_at (i := 11) (n := 19) (v := ?_) rfl rfl (by kernel_rfl) (by kernel_rfl) (by decide) (by kernel_rfl) (by kernel_rfl) (by kernel_rfl) (fun _ _ _ h => h) (Or.inl ⟨by rfl, ?_⟩) (by assumption) ?_
  rotate_left 1
  · intro wz hSw
    obtain ⟨s0, s1, s2, s3⟩ := hSw
    first | (go_simp; done) | (go_simp; with_reducible rfl)
  simp only [List.set_cons_zero, List.set_cons_succ]
  refine takeL_at (i := 12) (n := 20) (v := ?_) rfl rfl (by kernel_rfl) (by kernel_rfl) (by decide) (by kernel_rfl) (by kernel_rfl) (by kernel_rfl) (fun _ _ _ h => h) (Or.inl ⟨by rfl, ?_⟩) (by assumption) ?_
  rotate_left 1
  · intro wz hSw
    obtain ⟨s0, s1, s2, s3⟩ := hSw
    first | (go_simp; done) | (go_simp; with_reducible rfl)
  simp only [List.set_cons_zero, List.set_cons_succ]
  refine takeL_at (i := 13) (n := 21) (v := ?_) rfl rfl (by kernel_rfl) (by kernel_rfl) (by decide) (by kernel_rfl) (by kernel_rfl) (by kernel_rfl) (fun _ _ _ h => h) (Or.inl ⟨by rfl, ?_⟩) (by assumption) ?_
  rotate_left 1
  · intro wz hSw
    obtain ⟨s0, s1, s2, s3⟩ := hSw
    first | (go_simp; done) | (go_simp; with_reducible rfl)
  simp only [List.set_cons_zero, List.set_cons_succ]
  refine takeL_at (i := 14) (n := 22) (v := ?_) rfl rfl (by kernel_rfl) (by kernel_rfl) (by decide) (by kernel_rfl) (by kernel_rfl) (by kernel_rfl) (fun _ _ _ h => h) (Or.inl ⟨by rfl, ?_⟩) (by assumption) ?_
  rotate_left 1
  · intro wz hSw
    obtain ⟨s0, s1, s2, s3⟩ := hSw
    first | (go_simp; done) | (go_simp; with_reducible rfl)
  simp only [List.set_cons_zero, List.set_cons_succ]
  refine takeL_at (i := 15) (n := 23) (v := ?_) rfl rfl (by kernel_rfl) (by kernel_rfl) (by decide) (by kernel_rfl) (by kernel_rfl) (by kernel_rfl) (fun _ _ _ h => h) (Or.inl ⟨by rfl, ?_⟩) (by assumption) ?_
  rotate_left 1
  · intro wz hSw
    obtain ⟨s0, s1, s2, s3⟩ := hSw
    first | (go_simp; done) | (go_simp; with_reducible rfl)
  simp only [List.set_cons_zero, List.set_cons_succ]
  refine takeL_at (i := 16) (n := 24) (v := ?_) rfl rfl (by kernel_rfl) (by kernel_rfl) (by decide) (by kernel_rfl) (by kernel_rfl) (by kernel_rfl) (fun _ _ _ h => h) (Or.inl ⟨by rfl, ?_⟩) (by assumption) ?_
  rotate_left 1
  · intro wz hSw
    obtain ⟨s0, s1, s2, s3⟩ := hSw
    first | (go_simp; done) | (go_simp; with_reducible rfl)
  simp only [List.set_cons_zero, List.set_cons_succ]
  refine takeL_at (i := 17) (n := 25) (v := ?_) rfl rfl (by kernel_rfl) (by kernel_rfl) (by decide) (by kernel_rfl) (by kernel_rfl) (by kernel_rfl) (fun _ _ _ h => h) (Or.inl ⟨by rfl, ?_⟩) (by assumption) ?_
  rotate_left 1
  · intro wz hSw
    obtain ⟨s0, s1, s2, s3⟩ := hSw
    first | (go_simp; done) | (go_simp; with_reducible rfl)
  simp only [List.set_cons_zero, List.set_cons_succ]
  refine takeL_at (i := 18) (n := 26) (v := ?_) rfl rfl (by kernel_rfl) (by kernel_rfl) (by decide) (by kernel_rfl) (by kernel_rfl) (by kernel_rfl) (fun _ _ _ h => h) (Or.inl ⟨by rfl, ?_⟩) (by assumption) ?_
  rotate_left 1
  · intro wz hSw
    obtain ⟨s0, s1, s2, s3⟩ := hSw
    first | (go_simp; done) | (go_simp; with_reducible rfl)
  simp only [List.set_cons_zero, List.set_cons_succ]
  refine takeL_at (i := 19) (n := 27) (v := ?_) rfl rfl (by kernel_rfl) (by kernel_rfl) (by decide) (by kernel_rfl) (by kernel_rfl) (by kernel_rfl) (fun _ _ _ h => h) (Or.inl ⟨by rfl, ?_⟩) (by assumption) ?_
  rotate_left 1
  · intro wz hSw
    obtain ⟨s0, s1, s2, s3⟩ := hSw
    first | (go_simp; done) | (go_simp; with_reducible rfl)
  simp only [List.set_cons_zero, List.set_cons_succ]
  refine takeL_at (i := 20) (n := 28) (v := ?_) rfl rfl (by kernel_rfl) (by kernel_rfl) (by decide) (by kernel_rfl) (by kernel_rfl) (by kernel_rfl) (fun _ _ _ h => h) (Or.inl ⟨by rfl, ?_⟩) (by assumption) ?_
  rotate_left 1
  · intro wz hSw
    obtain ⟨s0, s1, s2, s3⟩ := hSw
    first | (go_simp; done) | (go_simp; with_reducible rfl)
  simp only [List.set_cons_zero, List.set_cons_succ]
  refine takeL_at (i := 21) (n := 29) (v := ?_) rfl rfl (by kernel_rfl) (by kernel_rfl) (by decide) (by kernel_rfl) (by kernel_rfl) (by kernel_rfl) (fun _ _ _ h => h) (Or.inl ⟨by rfl, ?_⟩) (by assumption) ?_
  rotate_left 1
  · intro wz hSw
    obtain ⟨s0, s1, s2, s3⟩ := hSw
    first | (go_simp; done) | (go_simp; with_reducible rfl)
  simp only [List.set_cons_zero, List.set_cons_succ]
  refine takeL_at (i := 22) (n := 30) (v := ?_) rfl rfl (by kernel_rfl) (by kernel_rfl) (by decide) (by kernel_rfl) (by kernel_rfl) (by kernel_rfl) (fun _ _ _ h => h) (Or.inl ⟨by rfl, ?_⟩) (by assumption) ?_
  rotate_left 1
  · intro wz hSw
    obtain ⟨s0, s1, s2, s3⟩ := hSw
    first | (go_simp; done) | (go_simp; with_reducible rfl)
  simp only [List.set_cons_zero, List.set_cons_succ]
  refine wpAnyL_one (i := 23) (by kernel_rfl) rfl (fun K hK => ?_)
  go_simp
  have HS5 : Hid (SW A ((W.alloc (.cells #[.int .i64 (cm : Int), .int .i64 now, .int .i64 se] 76)).drew) jv mv ev s) := HS0.out.grow (below_new W (.cells #[.int .i64 (cm : Int), .int .i64 now, .int .i64 se] 76)).drew
  have f5 : ((W.alloc (.cells #[.int .i64 (cm : Int), .int .i64 now, .int .i64 se] 76)).drew).heap[W.heap.size]? = some (.cells #[.int .i64 (cm : Int), .int .i64 now, .int .i64 se] 76 (0, 0)) := heap_alloc_new W _
  have n5 : (Value.slice ad0 q.length c0).ownBlock ≠ some W.heap.size := fun e => by
    obtain ⟨cc, hcc⟩ := (HS0.out.lms part _ hv).ty e
    exact Nat.lt_irrefl _ (heap_lt hcc)
  generalize (W.alloc (.cells #[.int .i64 (cm : Int), .int .i64 now, .int .i64 se] 76)).drew = w5 at HS5 f5 ⊢
  generalize W.heap.size = ge at f5 n5 ⊢
  refine hK.out _ _ (fun _ => (⟨(HS5.out.cM hv).1, (HS5.out.cM hv).2, HS5.out.cP HPV.out, HSE.out _ HS5.out.bel⟩ : _ ∧ _ ∧ _ ∧ _)) ?_
  clear hK K
  try simp only [List.set_cons_zero, List.set_cons_succ]
  clear hHeld
  have hHeld := (⟨(HS5.out.cM hv).1, (HS5.out.cM hv).2, HS5.out.cP HPV.out, HSE.out _ HS5.out.bel⟩ : _ ∧ _ ∧ _ ∧ _)
  have hl5 := HS5.out.lms part _ hv
  rw [HQ.out] at hl5
  obtain ⟨ad8, c8, w8, hrun, hl8, hold, hgb, hblk⟩ := hl5.push ⟨(cm : Int), now, se⟩ f5 n5 (by omega)
  have HS8 : Hid (SW A w8 jv mv ev { s with mail := s.mail.set part q }) := HS5.out.lineM hv HPL.out hgb hold
  have HS9 : Hid (SW A (w8.setCell ⟨A.gM, part, none⟩ (.slice ad8 (q.length + 1) c8)) jv (mv.set part (.slice ad8 (q.length + 1) c8)) ev (addM A.l s part cm now)) := by
    have h9 := HS8.out.putM hv (by show part < (s.mail.set part q).length; rw [List.length_set]; exact HPL.out) hl8 (fun g hg => by
      rcases hblk g hg with h | h
      · exact .inl h
      · exact .inr (HS5.out.fresh h))
    rw [show ({ ({ s with mail := s.mail.set part q } : Sc) with mail := (s.mail.set part q).set part (q ++ [⟨(cm : Int), now, se⟩]) } : Sc) = addM A.l s part cm now by rw [List.set_set]; unfold addM; rw [HQ.out, HSX.out]] at h9
    exact h9
  have hfz0 := (cells_of HS8.out.mr).2.1 part
  refine wpAnyL_one (i := 24) (by kernel_rfl) rfl (fun K hK => ?_)
  refine region_append2 rfl (.tmp 19) (.tmp 31) 74 32 rfl rfl rfl hrun rfl ?_
  clear hrun hl5 hl8 hold hgb hblk
  refine hK.out _ _ (fun _ => (⟨(HS8.out.cM hv).1, (HS8.out.cM hv).2, HS8.out.cP HPV.out, HSE.out _ HS8.out.bel⟩ : _ ∧ _ ∧ _ ∧ _)) ?_
  clear hK K
  try simp only [List.set_cons_zero, List.set_cons_succ]
  clear hHeld
  have hHeld := (⟨(HS8.out.cM hv).1, (HS8.out.cM hv).2, HS8.out.cP HPV.out, HSE.out _ HS8.out.bel⟩ : _ ∧ _ ∧ _ ∧ _)
  simp only [Act.put, List.setIfInBounds_toArray]
  try simp only [List.set_cons_zero, List.set_cons_succ]
  refine takeL_at (i := 25) (n := 33) (v := ?_) rfl rfl (by kernel_rfl) (by kernel_rfl) (by decide) (by kernel_rfl) (by kernel_rfl) (by kernel_rfl) (fun _ _ _ h => h) (Or.inl ⟨by rfl, ?_⟩) (by assumption) ?_
  rotate_left 1
  · intro wz hSw
    obtain ⟨s0, s1, s2, s3⟩ := hSw
    first | (go_simp; done) | (go_simp; with_reducible rfl)
  simp only [List.set_cons_zero, List.set_cons_succ]
  have t0 := (HS8.out.cM hv).2
  have lt0 := World.block_lt_of_cell? _ _ t0
  refine wpAnyL_one (i := 26) (by kernel_rfl) rfl (fun K hK => ?_)
  go_simp
  refine hK.out _ _ (fun h => absurd rfl h) ?_
  clear hK K
  try simp only [List.set_cons_zero, List.set_cons_succ]
  refine wpAnyL_done (by kernel_rfl) ?_ _
  refine NoPanic.normal ?_
  go_end0
  exact ⟨rfl, _, HS9.out⟩

end Go.Proofs.Ytccoobcggbbciam
