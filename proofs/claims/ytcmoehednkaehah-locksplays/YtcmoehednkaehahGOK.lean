import Derived.Test.YtcmoehednkaehahGOJ
namespace Go.Proofs.Ytcmoehednkaehah
open Go.ChangeShapes Go.WideShapes Go.ChangeAt Go.RowKit

/-- One ends its act. -/
def endF (x : Rs) (i : Nat) (e : En) (now : Int) : Rs := { x with es := x.es.set i { e with nx := e.nx + 1, rn := 0 }, en := if e.nx + 1 = e.x.acts.length then x.en.set i now else x.en }

theorem end_run (w0 w : World) (A : Ad) (pr : Int) (tp : List Int) (n : Nat) (rv : Value) (x : Rs) (h : RunW w0 w A pr tp n rv x) (i : Nat) (e : En) (now : Int) (he : x.es[i]? = some e) (ad : Option Addr) (cap : Nat) (hv : e.x.v = .slice ad e.x.acts.length cap) (hnx : e.nx < e.x.acts.length) (hl : e.x.acts.length ≤ 200) :
    Calls Try.prog 42 #[.pointer (some ⟨A.R, 0, none⟩), .int .i64 i, .int .i64 now] w fun r w' => r = .returned (.tuple #[]) ∧ RunW w0 w' A pr tp n rv (endF x i e now) := by
  obtain ⟨-, -, c2, c3, c4, -, -, -⟩ := h.job he
  obtain ⟨-, d1, -, d4, -, -⟩ := h.own
  have hi : i < n := by have := (List.getElem?_eq_some_iff.1 he).1; have := h.ln.1; omega
  rw [hv] at c2
  have s1 := h.setJ (k := 3) (u := .int .i64 ((e.nx : Int) + 1)) (e' := { e with nx := e.nx + 1 }) he (by omega) (by simp [En.vals])
  have s2 := s1.setJ (i := i) (k := 4) (u := .int .i64 0) (e := { e with nx := e.nx + 1 }) (e' := { e with nx := e.nx + 1, rn := 0 }) (by dsimp only; rw [List.getElem?_set_self (by have := (List.getElem?_eq_some_iff.1 he).1; omega)]) (by omega) rfl
  dsimp only at s2
  rw [List.set_set] at s2
  by_cases hlast : e.nx + 1 = e.x.acts.length
  · obtain ⟨z, hz⟩ := at_lt h.ln.2.1 hi
    refine (end_last w A.R A.J A.E n n n n i e.nx e.rn now z ad e.x.acts.length cap hi hi (by omega) (by omega) d1 d4 c2 c3 c4 (h.ends hz) (h.frz.2.1 _) (h.frz.2.1 _) (h.frz.2.2.1 _)).mono ?_
    rintro r w' ⟨rfl, k, rfl⟩
    refine ⟨rfl, ?_⟩
    have s3 := (s2.drewN (k := k)).setE i now
    unfold endF
    rw [if_pos hlast]
    rw [show ((e.nx : Int) + 1) = (e.x.acts.length : Int) by omega] at s3
    exact s3
  · refine (end_more w A.R A.J n n i e.nx e.rn now ad e.x.acts.length cap hi (by omega) (by omega) (by omega) d4 c2 c3 c4 (h.frz.2.1 _) (h.frz.2.1 _)).mono ?_
    rintro r w' ⟨rfl, k, rfl⟩
    refine ⟨rfl, ?_⟩
    unfold endF
    rw [if_neg hlast]
    exact s2.drewN

def begF (e : En) : En := { e with bg := true }

set_option maxRecDepth 20000 in
set_option maxHeartbeats 2000000 in
/-- One that has nothing to do is done. -/
theorem act_none (w0 w : World) (A : Ad) (pr : Int) (tp : List Int) (n : Nat) (rv : Value) (x : Rs) (h : RunW w0 w A pr tp n rv x) (i : Nat) (e : En) (now : Int) (he : x.es[i]? = some e) (ad : Option Addr) (cap : Nat) (hv : e.x.v = .slice ad 0 cap) :
    Calls Try.prog 35 #[.pointer (some ⟨A.R, 0, none⟩), .int .i64 i, .int .i64 now] w fun r w' => r = .returned (.bool false) ∧ RunW w0 w' A pr tp n rv { x with es := x.es.set i (begF e), en := x.en.set i now } := by
  obtain ⟨-, -, c2, -, -, c5, -, -⟩ := h.job he
  obtain ⟨-, d1, -, d4, -, -⟩ := h.own
  have hi : i < n := by have := (List.getElem?_eq_some_iff.1 he).1; have := h.ln.1; omega
  have hii : (i : Int) < (n : Int) := by omega
  rw [hv] at c2
  have s1 := h.setJ (k := 5) (u := .bool true) (e' := begF e) he (by omega) rfl
  have s2 := s1.setE i now
  obtain ⟨z, hz⟩ := at_lt h.ln.2.1 hi
  have hez := h.ends hz
  have f5 := h.frz.2.1 (i * 8 + 5)
  have fe := h.frz.2.2.1 i
  obtain ⟨n1, n2, -, -⟩ := h.ne.1
  have n3 := h.ne.2.1.1
  obtain ⟨l1, l2, l3, -, -⟩ := h.lts
  have H2 : Hid (RunW w0 ((w.setCell ⟨A.J, i * 8 + 5, none⟩ (.bool true)).setCell ⟨A.E, i, none⟩ (.int .i64 now)) A pr tp n rv { x with es := x.es.set i (begF e), en := x.en.set i now }) := s2
  clear s1 s2 h he hz
  go_enter Try.func35, Try.ntmps35
  go_wp2_with fail
  go_ret
  exact ⟨rfl, H2.out⟩

theorem unF_x (m : Int) (e : En) : (unF m e).x = e.x := by unfold unF; split <;> rfl
theorem unF_nx (m : Int) (e : En) : (unF m e).nx = e.nx := by unfold unF; split <;> rfl

set_option maxRecDepth 20000 in
set_option maxHeartbeats 4000000 in
/-- One works, and its act goes on. -/
theorem act_work (w0 w : World) (A : Ad) (pr : Int) (tp : List Int) (n : Nat) (rv : Value) (x : Rs) (h : RunW w0 w A pr tp n rv x) (_hn : n ≤ 100) (i : Nat) (e : En) (now : Int) (he : x.es[i]? = some e) (hv : RowSl Ac.vals w0 e.x.acts e.x.v) (_hl : e.x.acts.length ≤ 200) (an : Int) (ha : e.x.acts[e.nx]? = some ⟨1, an⟩) (hr0 : 0 ≤ e.rn) (hr1 : e.rn + 1 < an) (hr2 : an ≤ 1000) :
    Calls Try.prog 35 #[.pointer (some ⟨A.R, 0, none⟩), .int .i64 i, .int .i64 now] w fun r w' => r = .returned (.bool true) ∧ RunW w0 w' A pr tp n rv ({ x with es := x.es.set i { e with bg := true, rn := e.rn + 1 } }) := by
  obtain ⟨ad, cap, hsl, -, -, hrow⟩ := hv.below h.bel
  have hnx : e.nx < e.x.acts.length := (List.getElem?_eq_some_iff.1 ha).1
  rcases hrow with h0 | ⟨b, o, rfl, hrow⟩
  · rw [h0] at hnx; simp at hnx
  obtain ⟨a0, a1⟩ := ac_at hrow ha
  dsimp only at a0 a1
  obtain ⟨-, -, c2, c3, c4, c5, c6, -⟩ := h.job he
  obtain ⟨-, -, -, d4, -, -⟩ := h.own
  have hi : i < n := by have := (List.getElem?_eq_some_iff.1 he).1; have := h.ln.1; omega
  have hii : (i : Int) < (n : Int) := by omega
  have hnl : ¬ ((e.x.acts.length : Int) = 0) := by omega
  have hnl2 : ((e.x.acts.length : Int) == 0) = false := by rw [beq_eq_false_iff_ne]; omega
  have hnxi : (e.nx : Int) < (e.x.acts.length : Int) := by omega
  rw [hsl] at c2
  have s1 := h.setJ (k := 5) (u := .bool true) (e' := begF e) he (by omega) rfl
  have he1 : (x.es.set i (begF e))[i]? = some (begF e) := List.getElem?_set_self (by have := (List.getElem?_eq_some_iff.1 he).1; omega)
  have f5 := h.frz.2.1 (i * 8 + 5)
  obtain ⟨n1, -, -, -⟩ := h.ne.1
  obtain ⟨l1, l2, -, -, -⟩ := h.lts
  have lb : b < w.heap.size := World.block_lt_of_cell? _ _ a0
  have hbJ : b ≠ A.J := by
    intro e9
    have hlow : A.J < w0.heap.size := by
      obtain ⟨_, _, e8, -, -, h8⟩ := hv
      rw [hsl] at e8
      cases e8
      rcases h8 with h8 | ⟨b', o', e7, h7⟩
      · rw [h8] at hnx; simp at hnx
      · cases e7
        rw [← e9]
        exact World.block_lt_of_cell? _ _ (ac_at h7 ha).1
    have := h.lo.2.1
    omega
  have f4 := h.frz.2.1 (i * 8 + 4)
  have s2 := s1.setJ (k := 4) (u := .int .i64 (e.rn + 1)) (e' := { e with bg := true, rn := e.rn + 1 }) he1 (by omega) rfl
  dsimp only at s2
  rw [List.set_set] at s2
  have H2 : Hid (RunW w0 ((w.setCell ⟨A.J, i * 8 + 5, none⟩ (.bool true)).setCell ⟨A.J, i * 8 + 4, none⟩ (.int .i64 (e.rn + 1))) A pr tp n rv { x with es := x.es.set i { e with bg := true, rn := e.rn + 1 } } ∧ (x.es.set i { e with bg := true, rn := e.rn + 1 })[i]? = some { e with bg := true, rn := e.rn + 1 }) := ⟨s2, List.getElem?_set_self (by have := (List.getElem?_eq_some_iff.1 he).1; omega)⟩
  clear s2
  have H1 : Hid (RunW w0 (w.setCell ⟨A.J, i * 8 + 5, none⟩ (.bool true)) A pr tp n rv { x with es := x.es.set i (begF e) } ∧ (x.es.set i (begF e))[i]? = some (begF e) ∧ e.nx < e.x.acts.length ∧ e.x.v = .slice (some ⟨b, o, none⟩) e.x.acts.length cap) := ⟨s1, he1, hnx, hsl⟩
  clear s1 h he hv hrow ha he1 hsl hnx
  go_enter Try.func35, Try.ntmps35
  go_wp2_with fail
  refine wp_region_noPanic ?_
  refine wp_region_held_drew (S := fun w' => w'.cell? ⟨A.J, i * 8 + 2, none⟩ = some (.slice (some ⟨b, o, none⟩) e.x.acts.length cap) ∧ w'.cell? ⟨A.J, i * 8 + 3, none⟩ = some (.int .i64 e.nx) ∧ w'.cell? ⟨b, o + e.nx * 2, none⟩ = some (.int .i64 1) ∧ w'.cell? ⟨b, o + e.nx * 2 + 1, none⟩ = some (.int .i64 an)) (by kernel_rfl) (by refine ⟨?_, ?_, ?_, ?_⟩ <;> go_simp) (fun hHeld => ?_)
  refine take_at (i := 0) (n := 34) (v := ?_) rfl rfl (by kernel_rfl) (by kernel_rfl) (by kernel_rfl) (fun _ _ _ h => h) (Or.inl ⟨by rfl, ?_⟩) (by assumption) ?_
  rotate_left 1
  · intro wz hSw
    obtain ⟨s0, s1, s2, s3⟩ := hSw
    first | (go_simp; done) | (go_simp; with_reducible rfl)
  simp only [List.set_cons_zero, List.set_cons_succ]
  refine take_at (i := 1) (n := 35) (v := ?_) rfl rfl (by kernel_rfl) (by kernel_rfl) (by kernel_rfl) (fun _ _ _ h => h) (Or.inl ⟨by rfl, ?_⟩) (by assumption) ?_
  rotate_left 1
  · intro wz hSw
    obtain ⟨s0, s1, s2, s3⟩ := hSw
    first | (go_simp; done) | (go_simp; with_reducible rfl)
  simp only [List.set_cons_zero, List.set_cons_succ]
  refine take_at (i := 2) (n := 36) (v := ?_) rfl rfl (by kernel_rfl) (by kernel_rfl) (by kernel_rfl) (fun _ _ _ h => h) (Or.inl ⟨by rfl, ?_⟩) (by assumption) ?_
  rotate_left 1
  · intro wz hSw
    obtain ⟨s0, s1, s2, s3⟩ := hSw
    first | (go_simp; done) | (go_simp; with_reducible rfl)
  simp only [List.set_cons_zero, List.set_cons_succ]
  refine take_at (i := 3) (n := 37) (v := ?_) rfl rfl (by kernel_rfl) (by kernel_rfl) (by kernel_rfl) (fun _ _ _ h => h) (Or.inl ⟨by rfl, ?_⟩) (by assumption) ?_
  rotate_left 1
  · intro wz hSw
    obtain ⟨s0, s1, s2, s3⟩ := hSw
    first | (go_simp; done) | (go_simp; with_reducible rfl)
  simp only [List.set_cons_zero, List.set_cons_succ]
  refine take_at (i := 4) (n := 38) (v := ?_) rfl rfl (by kernel_rfl) (by kernel_rfl) (by kernel_rfl) (fun _ _ _ h => h) (Or.inl ⟨by rfl, ?_⟩) (by assumption) ?_
  rotate_left 1
  · intro wz hSw
    obtain ⟨s0, s1, s2, s3⟩ := hSw
    first | (go_simp; done) | (go_simp; with_reducible rfl)
  simp only [List.set_cons_zero, List.set_cons_succ]
  refine take_at (i := 5) (n := 39) (v := ?_) rfl rfl (by kernel_rfl) (by kernel_rfl) (by kernel_rfl) (fun _ _ _ h => h) (Or.inl ⟨by rfl, ?_⟩) (by assumption) ?_
  rotate_left 1
  · intro wz hSw
    obtain ⟨s0, s1, s2, s3⟩ := hSw
    first | (go_simp; done) | (go_simp; with_reducible rfl)
  simp only [List.set_cons_zero, List.set_cons_succ]
  refine take_at (i := 6) (n := 40) (v := ?_) rfl rfl (by kernel_rfl) (by kernel_rfl) (by kernel_rfl) (fun _ _ _ h => h) (Or.inl ⟨by rfl, ?_⟩) (by assumption) ?_
  rotate_left 1
  · intro wz hSw
    obtain ⟨s0, s1, s2, s3⟩ := hSw
    first | (go_simp; done) | (go_simp; with_reducible rfl)
  simp only [List.set_cons_zero, List.set_cons_succ]
  refine take_at (i := 7) (n := 41) (v := ?_) rfl rfl (by kernel_rfl) (by kernel_rfl) (by kernel_rfl) (fun _ _ _ h => h) (Or.inl ⟨by rfl, ?_⟩) (by assumption) ?_
  rotate_left 1
  · intro wz hSw
    obtain ⟨s0, s1, s2, s3⟩ := hSw
    first | (go_simp; done) | (go_simp; with_reducible rfl)
  simp only [List.set_cons_zero, List.set_cons_succ]
  refine take_at (i := 8) (n := 42) (v := ?_) rfl rfl (by kernel_rfl) (by kernel_rfl) (by kernel_rfl) (fun _ _ _ h => h) (Or.inl ⟨by rfl, ?_⟩) (by assumption) ?_
  rotate_left 1
  · intro wz hSw
    obtain ⟨s0, s1, s2, s3⟩ := hSw
    first | (go_simp; done) | (go_simp; with_reducible rfl)
  simp only [List.set_cons_zero, List.set_cons_succ]
  refine take_at (i := 9) (n := 43) (v := ?_) rfl rfl (by kernel_rfl) (by kernel_rfl) (by kernel_rfl) (fun _ _ _ h => h) (Or.inl ⟨by rfl, ?_⟩) (by assumption) ?_
  rotate_left 1
  · intro wz hSw
    obtain ⟨s0, s1, s2, s3⟩ := hSw
    first | (go_simp; done) | (go_simp; with_reducible rfl)
  simp only [List.set_cons_zero, List.set_cons_succ]
  refine take_at (i := 10) (n := 44) (v := ?_) rfl rfl (by kernel_rfl) (by kernel_rfl) (by kernel_rfl) (fun _ _ _ h => h) (Or.inl ⟨by rfl, ?_⟩) (by assumption) ?_
  rotate_left 1
  · intro wz hSw
    obtain ⟨s0, s1, s2, s3⟩ := hSw
    first | (go_simp; done) | (go_simp; with_reducible rfl)
  simp only [List.set_cons_zero, List.set_cons_succ]
  refine wpAnyH_ready (rs := [11]) (by kernel_rfl) (by simp) ?_
  refine AllReadyH.cons rfl (fun K hK => ?_) AllReadyH.nil
  go_simp
  refine hK.out _ _ (by refine ⟨?_, ?_, ?_, ?_⟩ <;> go_simp) (fun hHeld => ?_)
  clear hK K
  refine wpAnyH_ready (rs := [12]) (by kernel_rfl) (by simp) ?_
  refine AllReadyH.cons rfl (fun K hK => ?_) AllReadyH.nil
  go_simp
  refine hK.out _ _ (by refine ⟨?_, ?_, ?_, ?_⟩ <;> go_simp) (fun hHeld => ?_)
  clear hK K
  refine wpAnyH_done (by kernel_rfl) ?_ _
  refine NoPanic.normal ?_
  go_wp2_with fail
  go_quiet (fail)
  go_wp2_with fail
  go_ret
  exact ⟨rfl, (H2.out.1.grow (below_new _ _)).drew.drewN⟩

set_option maxRecDepth 20000 in
set_option maxHeartbeats 4000000 in
/-- One works, and its act is over. -/
theorem act_worked (w0 w : World) (A : Ad) (pr : Int) (tp : List Int) (n : Nat) (rv : Value) (x : Rs) (h : RunW w0 w A pr tp n rv x) (_hn : n ≤ 100) (i : Nat) (e : En) (now : Int) (he : x.es[i]? = some e) (hv : RowSl Ac.vals w0 e.x.acts e.x.v) (_hl : e.x.acts.length ≤ 200) (an : Int) (ha : e.x.acts[e.nx]? = some ⟨1, an⟩) (hr1 : e.rn + 1 = an) (hr2 : an ≤ 1000) (hr3 : 0 ≤ e.rn) (hnow : 0 ≤ now) (hnow2 : now ≤ 1000000) :
    Calls Try.prog 35 #[.pointer (some ⟨A.R, 0, none⟩), .int .i64 i, .int .i64 now] w fun r w' => r = .returned (.bool true) ∧ RunW w0 w' A pr tp n rv (endF { x with es := x.es.set i { e with bg := true, rn := e.rn + 1 } } i { e with bg := true, rn := e.rn + 1 } (now + 1)) := by
  obtain ⟨ad, cap, hsl, -, -, hrow⟩ := hv.below h.bel
  have hnx : e.nx < e.x.acts.length := (List.getElem?_eq_some_iff.1 ha).1
  rcases hrow with h0 | ⟨b, o, rfl, hrow⟩
  · rw [h0] at hnx; simp at hnx
  obtain ⟨a0, a1⟩ := ac_at hrow ha
  dsimp only at a0 a1
  obtain ⟨-, -, c2, c3, c4, c5, c6, -⟩ := h.job he
  obtain ⟨-, -, -, d4, -, -⟩ := h.own
  have hi : i < n := by have := (List.getElem?_eq_some_iff.1 he).1; have := h.ln.1; omega
  have hii : (i : Int) < (n : Int) := by omega
  have hnl : ¬ ((e.x.acts.length : Int) = 0) := by omega
  have hnl2 : ((e.x.acts.length : Int) == 0) = false := by rw [beq_eq_false_iff_ne]; omega
  have hnxi : (e.nx : Int) < (e.x.acts.length : Int) := by omega
  rw [hsl] at c2
  have s1 := h.setJ (k := 5) (u := .bool true) (e' := begF e) he (by omega) rfl
  have he1 : (x.es.set i (begF e))[i]? = some (begF e) := List.getElem?_set_self (by have := (List.getElem?_eq_some_iff.1 he).1; omega)
  have f5 := h.frz.2.1 (i * 8 + 5)
  obtain ⟨n1, -, -, -⟩ := h.ne.1
  obtain ⟨l1, l2, -, -, -⟩ := h.lts
  have lb : b < w.heap.size := World.block_lt_of_cell? _ _ a0
  have hbJ : b ≠ A.J := by
    intro e9
    have hlow : A.J < w0.heap.size := by
      obtain ⟨_, _, e8, -, -, h8⟩ := hv
      rw [hsl] at e8
      cases e8
      rcases h8 with h8 | ⟨b', o', e7, h7⟩
      · rw [h8] at hnx; simp at hnx
      · cases e7
        rw [← e9]
        exact World.block_lt_of_cell? _ _ (ac_at h7 ha).1
    have := h.lo.2.1
    omega
  have f4 := h.frz.2.1 (i * 8 + 4)
  have s2 := s1.setJ (k := 4) (u := .int .i64 (e.rn + 1)) (e' := { e with bg := true, rn := e.rn + 1 }) he1 (by omega) rfl
  dsimp only at s2
  rw [List.set_set] at s2
  have H2 : Hid (RunW w0 ((w.setCell ⟨A.J, i * 8 + 5, none⟩ (.bool true)).setCell ⟨A.J, i * 8 + 4, none⟩ (.int .i64 (e.rn + 1))) A pr tp n rv { x with es := x.es.set i { e with bg := true, rn := e.rn + 1 } } ∧ (x.es.set i { e with bg := true, rn := e.rn + 1 })[i]? = some { e with bg := true, rn := e.rn + 1 }) := ⟨s2, List.getElem?_set_self (by have := (List.getElem?_eq_some_iff.1 he).1; omega)⟩
  clear s2
  subst hr1
  have H1 : Hid (RunW w0 (w.setCell ⟨A.J, i * 8 + 5, none⟩ (.bool true)) A pr tp n rv { x with es := x.es.set i (begF e) } ∧ (x.es.set i (begF e))[i]? = some (begF e) ∧ e.nx < e.x.acts.length ∧ e.x.v = .slice (some ⟨b, o, none⟩) e.x.acts.length cap) := ⟨s1, he1, hnx, hsl⟩
  clear s1 h he hv hrow ha he1 hsl hnx
  go_enter Try.func35, Try.ntmps35
  go_wp2_with fail
  refine wp_region_noPanic ?_
  refine wp_region_held_drew (S := fun w' => w'.cell? ⟨A.J, i * 8 + 2, none⟩ = some (.slice (some ⟨b, o, none⟩) e.x.acts.length cap) ∧ w'.cell? ⟨A.J, i * 8 + 3, none⟩ = some (.int .i64 e.nx) ∧ w'.cell? ⟨b, o + e.nx * 2, none⟩ = some (.int .i64 1) ∧ w'.cell? ⟨b, o + e.nx * 2 + 1, none⟩ = some (.int .i64 (e.rn + 1))) (by kernel_rfl) (by refine ⟨?_, ?_, ?_, ?_⟩ <;> go_simp) (fun hHeld => ?_)
  refine take_at (i := 0) (n := 34) (v := ?_) rfl rfl (by kernel_rfl) (by kernel_rfl) (by kernel_rfl) (fun _ _ _ h => h) (Or.inl ⟨by rfl, ?_⟩) (by assumption) ?_
  rotate_left 1
  · intro wz hSw
    obtain ⟨s0, s1, s2, s3⟩ := hSw
    first | (go_simp; done) | (go_simp; with_reducible rfl)
  simp only [List.set_cons_zero, List.set_cons_succ]
  refine take_at (i := 1) (n := 35) (v := ?_) rfl rfl (by kernel_rfl) (by kernel_rfl) (by kernel_rfl) (fun _ _ _ h => h) (Or.inl ⟨by rfl, ?_⟩) (by assumption) ?_
  rotate_left 1
  · intro wz hSw
    obtain ⟨s0, s1, s2, s3⟩ := hSw
    first | (go_simp; done) | (go_simp; with_reducible rfl)
  simp only [List.set_cons_zero, List.set_cons_succ]
  refine take_at (i := 2) (n := 36) (v := ?_) rfl rfl (by kernel_rfl) (by kernel_rfl) (by kernel_rfl) (fun _ _ _ h => h) (Or.inl ⟨by rfl, ?_⟩) (by assumption) ?_
  rotate_left 1
  · intro wz hSw
    obtain ⟨s0, s1, s2, s3⟩ := hSw
    first | (go_simp; done) | (go_simp; with_reducible rfl)
  simp only [List.set_cons_zero, List.set_cons_succ]
  refine take_at (i := 3) (n := 37) (v := ?_) rfl rfl (by kernel_rfl) (by kernel_rfl) (by kernel_rfl) (fun _ _ _ h => h) (Or.inl ⟨by rfl, ?_⟩) (by assumption) ?_
  rotate_left 1
  · intro wz hSw
    obtain ⟨s0, s1, s2, s3⟩ := hSw
    first | (go_simp; done) | (go_simp; with_reducible rfl)
  simp only [List.set_cons_zero, List.set_cons_succ]
  refine take_at (i := 4) (n := 38) (v := ?_) rfl rfl (by kernel_rfl) (by kernel_rfl) (by kernel_rfl) (fun _ _ _ h => h) (Or.inl ⟨by rfl, ?_⟩) (by assumption) ?_
  rotate_left 1
  · intro wz hSw
    obtain ⟨s0, s1, s2, s3⟩ := hSw
    first | (go_simp; done) | (go_simp; with_reducible rfl)
  simp only [List.set_cons_zero, List.set_cons_succ]
  refine take_at (i := 5) (n := 39) (v := ?_) rfl rfl (by kernel_rfl) (by kernel_rfl) (by kernel_rfl) (fun _ _ _ h => h) (Or.inl ⟨by rfl, ?_⟩) (by assumption) ?_
  rotate_left 1
  · intro wz hSw
    obtain ⟨s0, s1, s2, s3⟩ := hSw
    first | (go_simp; done) | (go_simp; with_reducible rfl)
  simp only [List.set_cons_zero, List.set_cons_succ]
  refine take_at (i := 6) (n := 40) (v := ?_) rfl rfl (by kernel_rfl) (by kernel_rfl) (by kernel_rfl) (fun _ _ _ h => h) (Or.inl ⟨by rfl, ?_⟩) (by assumption) ?_
  rotate_left 1
  · intro wz hSw
    obtain ⟨s0, s1, s2, s3⟩ := hSw
    first | (go_simp; done) | (go_simp; with_reducible rfl)
  simp only [List.set_cons_zero, List.set_cons_succ]
  refine take_at (i := 7) (n := 41) (v := ?_) rfl rfl (by kernel_rfl) (by kernel_rfl) (by kernel_rfl) (fun _ _ _ h => h) (Or.inl ⟨by rfl, ?_⟩) (by assumption) ?_
  rotate_left 1
  · intro wz hSw
    obtain ⟨s0, s1, s2, s3⟩ := hSw
    first | (go_simp; done) | (go_simp; with_reducible rfl)
  simp only [List.set_cons_zero, List.set_cons_succ]
  refine take_at (i := 8) (n := 42) (v := ?_) rfl rfl (by kernel_rfl) (by kernel_rfl) (by kernel_rfl) (fun _ _ _ h => h) (Or.inl ⟨by rfl, ?_⟩) (by assumption) ?_
  rotate_left 1
  · intro wz hSw
    obtain ⟨s0, s1, s2, s3⟩ := hSw
    first | (go_simp; done) | (go_simp; with_reducible rfl)
  simp only [List.set_cons_zero, List.set_cons_succ]
  refine take_at (i := 9) (n := 43) (v := ?_) rfl rfl (by kernel_rfl) (by kernel_rfl) (by kernel_rfl) (fun _ _ _ h => h) (Or.inl ⟨by rfl, ?_⟩) (by assumption) ?_
  rotate_left 1
  · intro wz hSw
    obtain ⟨s0, s1, s2, s3⟩ := hSw
    first | (go_simp; done) | (go_simp; with_reducible rfl)
  simp only [List.set_cons_zero, List.set_cons_succ]
  refine take_at (i := 10) (n := 44) (v := ?_) rfl rfl (by kernel_rfl) (by kernel_rfl) (by kernel_rfl) (fun _ _ _ h => h) (Or.inl ⟨by rfl, ?_⟩) (by assumption) ?_
  rotate_left 1
  · intro wz hSw
    obtain ⟨s0, s1, s2, s3⟩ := hSw
    first | (go_simp; done) | (go_simp; with_reducible rfl)
  simp only [List.set_cons_zero, List.set_cons_succ]
  refine wpAnyH_ready (rs := [11]) (by kernel_rfl) (by simp) ?_
  refine AllReadyH.cons rfl (fun K hK => ?_) AllReadyH.nil
  go_simp
  refine hK.out _ _ (by refine ⟨?_, ?_, ?_, ?_⟩ <;> go_simp) (fun hHeld => ?_)
  clear hK K
  refine wpAnyH_ready (rs := [12]) (by kernel_rfl) (by simp) ?_
  refine AllReadyH.cons rfl (fun K hK => ?_) AllReadyH.nil
  go_simp
  refine hK.out _ _ (by refine ⟨?_, ?_, ?_, ?_⟩ <;> go_simp) (fun hHeld => ?_)
  clear hK K
  refine wpAnyH_done (by kernel_rfl) ?_ _
  refine NoPanic.normal ?_
  go_wp2_with fail
  go_quiet (fail)
  go_wp2_with (go_at_call 42; refine (end_run w0 _ A pr tp n rv _ (H2.out.1.grow (below_new _ _)).drewN i { e with bg := true, rn := e.rn + 1 } (now + 1) H2.out.2 (some ⟨b, o, none⟩) cap H1.out.2.2.2 H1.out.2.2.1 _hl).mono ?_; rintro r w2 ⟨rfl, h2⟩; have H3 : Hid (RunW w0 w2 A pr tp n rv (endF { x with es := x.es.set i { e with bg := true, rn := e.rn + 1 } } i { e with bg := true, rn := e.rn + 1 } (now + 1))) := h2; clear h2)
  go_ret
  exact ⟨rfl, H3.out⟩

set_option maxRecDepth 20000 in
set_option maxHeartbeats 4000000 in
/-- One gives a lock back. -/
theorem act_give (w0 w : World) (A : Ad) (pr : Int) (tp : List Int) (n : Nat) (rv : Value) (x : Rs) (h : RunW w0 w A pr tp n rv x) (_hn : n ≤ 100) (i : Nat) (e : En) (now : Int) (he : x.es[i]? = some e) (hv : RowSl Ac.vals w0 e.x.acts e.x.v) (_hl : e.x.acts.length ≤ 200) (m : Nat) (ha : e.x.acts[e.nx]? = some ⟨3, m⟩) (hm : m < 4) :
    Calls Try.prog 35 #[.pointer (some ⟨A.R, 0, none⟩), .int .i64 i, .int .i64 now] w fun r w' => r = .returned (.bool false) ∧ RunW w0 w' A pr tp n rv (endF { x with hs := x.hs.set m (-1), es := (x.es.set i (begF e)).map (unF m) } i (unF m (begF e)) now) := by
  obtain ⟨ad, cap, hsl, -, -, hrow⟩ := hv.below h.bel
  have hnx : e.nx < e.x.acts.length := (List.getElem?_eq_some_iff.1 ha).1
  rcases hrow with h0 | ⟨b, o, rfl, hrow⟩
  · rw [h0] at hnx; simp at hnx
  obtain ⟨a0, a1⟩ := ac_at hrow ha
  dsimp only at a0 a1
  obtain ⟨-, -, c2, c3, c4, c5, c6, -⟩ := h.job he
  obtain ⟨-, -, -, d4, -, -⟩ := h.own
  have hi : i < n := by have := (List.getElem?_eq_some_iff.1 he).1; have := h.ln.1; omega
  have hii : (i : Int) < (n : Int) := by omega
  have hnl : ¬ ((e.x.acts.length : Int) = 0) := by omega
  have hnl2 : ((e.x.acts.length : Int) == 0) = false := by rw [beq_eq_false_iff_ne]; omega
  have hnxi : (e.nx : Int) < (e.x.acts.length : Int) := by omega
  rw [hsl] at c2
  have s1 := h.setJ (k := 5) (u := .bool true) (e' := begF e) he (by omega) rfl
  have he1 : (x.es.set i (begF e))[i]? = some (begF e) := List.getElem?_set_self (by have := (List.getElem?_eq_some_iff.1 he).1; omega)
  have f5 := h.frz.2.1 (i * 8 + 5)
  obtain ⟨n1, -, -, -⟩ := h.ne.1
  obtain ⟨l1, l2, -, -, -⟩ := h.lts
  have lb : b < w.heap.size := World.block_lt_of_cell? _ _ a0
  have hbJ : b ≠ A.J := by
    intro e9
    have hlow : A.J < w0.heap.size := by
      obtain ⟨_, _, e8, -, -, h8⟩ := hv
      rw [hsl] at e8
      cases e8
      rcases h8 with h8 | ⟨b', o', e7, h7⟩
      · rw [h8] at hnx; simp at hnx
      · cases e7
        rw [← e9]
        exact World.block_lt_of_cell? _ _ (ac_at h7 ha).1
    have := h.lo.2.1
    omega
  have HG : Hid (((x.es.set i (begF e)).map (unF m))[i]? = some (unF m (begF e))) := by
    show _ = _
    rw [List.getElem?_map, he1]
    rfl
  have H1 : Hid (RunW w0 (w.setCell ⟨A.J, i * 8 + 5, none⟩ (.bool true)) A pr tp n rv { x with es := x.es.set i (begF e) } ∧ (x.es.set i (begF e))[i]? = some (begF e) ∧ e.nx < e.x.acts.length ∧ e.x.v = .slice (some ⟨b, o, none⟩) e.x.acts.length cap) := ⟨s1, he1, hnx, hsl⟩
  clear s1 h he hv hrow ha he1 hsl hnx
  go_enter Try.func35, Try.ntmps35
  go_wp2_with fail
  refine wp_region_noPanic ?_
  refine wp_region_held_drew (S := fun w' => w'.cell? ⟨A.J, i * 8 + 2, none⟩ = some (.slice (some ⟨b, o, none⟩) e.x.acts.length cap) ∧ w'.cell? ⟨A.J, i * 8 + 3, none⟩ = some (.int .i64 e.nx) ∧ w'.cell? ⟨b, o + e.nx * 2, none⟩ = some (.int .i64 3) ∧ w'.cell? ⟨b, o + e.nx * 2 + 1, none⟩ = some (.int .i64 m)) (by kernel_rfl) (by refine ⟨?_, ?_, ?_, ?_⟩ <;> go_simp) (fun hHeld => ?_)
  refine take_at (i := 0) (n := 34) (v := ?_) rfl rfl (by kernel_rfl) (by kernel_rfl) (by kernel_rfl) (fun _ _ _ h => h) (Or.inl ⟨by rfl, ?_⟩) (by assumption) ?_
  rotate_left 1
  · intro wz hSw
    obtain ⟨s0, s1, s2, s3⟩ := hSw
    first | (go_simp; done) | (go_simp; with_reducible rfl)
  simp only [List.set_cons_zero, List.set_cons_succ]
  refine take_at (i := 1) (n := 35) (v := ?_) rfl rfl (by kernel_rfl) (by kernel_rfl) (by kernel_rfl) (fun _ _ _ h => h) (Or.inl ⟨by rfl, ?_⟩) (by assumption) ?_
  rotate_left 1
  · intro wz hSw
    obtain ⟨s0, s1, s2, s3⟩ := hSw
    first | (go_simp; done) | (go_simp; with_reducible rfl)
  simp only [List.set_cons_zero, List.set_cons_succ]
  refine take_at (i := 2) (n := 36) (v := ?_) rfl rfl (by kernel_rfl) (by kernel_rfl) (by kernel_rfl) (fun _ _ _ h => h) (Or.inl ⟨by rfl, ?_⟩) (by assumption) ?_
  rotate_left 1
  · intro wz hSw
    obtain ⟨s0, s1, s2, s3⟩ := hSw
    first | (go_simp; done) | (go_simp; with_reducible rfl)
  simp only [List.set_cons_zero, List.set_cons_succ]
  refine take_at (i := 3) (n := 37) (v := ?_) rfl rfl (by kernel_rfl) (by kernel_rfl) (by kernel_rfl) (fun _ _ _ h => h) (Or.inl ⟨by rfl, ?_⟩) (by assumption) ?_
  rotate_left 1
  · intro wz hSw
    obtain ⟨s0, s1, s2, s3⟩ := hSw
    first | (go_simp; done) | (go_simp; with_reducible rfl)
  simp only [List.set_cons_zero, List.set_cons_succ]
  refine take_at (i := 4) (n := 38) (v := ?_) rfl rfl (by kernel_rfl) (by kernel_rfl) (by kernel_rfl) (fun _ _ _ h => h) (Or.inl ⟨by rfl, ?_⟩) (by assumption) ?_
  rotate_left 1
  · intro wz hSw
    obtain ⟨s0, s1, s2, s3⟩ := hSw
    first | (go_simp; done) | (go_simp; with_reducible rfl)
  simp only [List.set_cons_zero, List.set_cons_succ]
  refine take_at (i := 5) (n := 39) (v := ?_) rfl rfl (by kernel_rfl) (by kernel_rfl) (by kernel_rfl) (fun _ _ _ h => h) (Or.inl ⟨by rfl, ?_⟩) (by assumption) ?_
  rotate_left 1
  · intro wz hSw
    obtain ⟨s0, s1, s2, s3⟩ := hSw
    first | (go_simp; done) | (go_simp; with_reducible rfl)
  simp only [List.set_cons_zero, List.set_cons_succ]
  refine take_at (i := 6) (n := 40) (v := ?_) rfl rfl (by kernel_rfl) (by kernel_rfl) (by kernel_rfl) (fun _ _ _ h => h) (Or.inl ⟨by rfl, ?_⟩) (by assumption) ?_
  rotate_left 1
  · intro wz hSw
    obtain ⟨s0, s1, s2, s3⟩ := hSw
    first | (go_simp; done) | (go_simp; with_reducible rfl)
  simp only [List.set_cons_zero, List.set_cons_succ]
  refine take_at (i := 7) (n := 41) (v := ?_) rfl rfl (by kernel_rfl) (by kernel_rfl) (by kernel_rfl) (fun _ _ _ h => h) (Or.inl ⟨by rfl, ?_⟩) (by assumption) ?_
  rotate_left 1
  · intro wz hSw
    obtain ⟨s0, s1, s2, s3⟩ := hSw
    first | (go_simp; done) | (go_simp; with_reducible rfl)
  simp only [List.set_cons_zero, List.set_cons_succ]
  refine take_at (i := 8) (n := 42) (v := ?_) rfl rfl (by kernel_rfl) (by kernel_rfl) (by kernel_rfl) (fun _ _ _ h => h) (Or.inl ⟨by rfl, ?_⟩) (by assumption) ?_
  rotate_left 1
  · intro wz hSw
    obtain ⟨s0, s1, s2, s3⟩ := hSw
    first | (go_simp; done) | (go_simp; with_reducible rfl)
  simp only [List.set_cons_zero, List.set_cons_succ]
  refine take_at (i := 9) (n := 43) (v := ?_) rfl rfl (by kernel_rfl) (by kernel_rfl) (by kernel_rfl) (fun _ _ _ h => h) (Or.inl ⟨by rfl, ?_⟩) (by assumption) ?_
  rotate_left 1
  · intro wz hSw
    obtain ⟨s0, s1, s2, s3⟩ := hSw
    first | (go_simp; done) | (go_simp; with_reducible rfl)
  simp only [List.set_cons_zero, List.set_cons_succ]
  refine take_at (i := 10) (n := 44) (v := ?_) rfl rfl (by kernel_rfl) (by kernel_rfl) (by kernel_rfl) (fun _ _ _ h => h) (Or.inl ⟨by rfl, ?_⟩) (by assumption) ?_
  rotate_left 1
  · intro wz hSw
    obtain ⟨s0, s1, s2, s3⟩ := hSw
    first | (go_simp; done) | (go_simp; with_reducible rfl)
  simp only [List.set_cons_zero, List.set_cons_succ]
  refine wpAnyH_ready (rs := [11]) (by kernel_rfl) (by simp) ?_
  refine AllReadyH.cons rfl (fun K hK => ?_) AllReadyH.nil
  go_simp
  refine hK.out _ _ (by refine ⟨?_, ?_, ?_, ?_⟩ <;> go_simp) (fun hHeld => ?_)
  clear hK K
  refine wpAnyH_ready (rs := [12]) (by kernel_rfl) (by simp) ?_
  refine AllReadyH.cons rfl (fun K hK => ?_) AllReadyH.nil
  go_simp
  refine hK.out _ _ (by refine ⟨?_, ?_, ?_, ?_⟩ <;> go_simp) (fun hHeld => ?_)
  clear hK K
  refine wpAnyH_done (by kernel_rfl) ?_ _
  refine NoPanic.normal ?_
  go_wp2_with (first | (go_at_call 41; refine (free_any w0 _ A pr tp n rv _ (H1.out.1.grow (below_new _ _)).drew m hm _hn).mono ?_; rintro r w2 ⟨rfl, h2⟩; have H3 : Hid (RunW w0 w2 A pr tp n rv { x with hs := x.hs.set m (-1), es := (x.es.set i (begF e)).map (unF m) }) := h2; clear h2) | (go_at_call 42; refine (end_run w0 _ A pr tp n rv _ H3.out i (unF m (begF e)) now HG.out (some ⟨b, o, none⟩) cap (by rw [unF_x]; exact H1.out.2.2.2) (by rw [unF_x, unF_nx]; exact H1.out.2.2.1) (by rw [unF_x]; exact _hl)).mono ?_; rintro r w3 ⟨rfl, h3⟩; have H4 : Hid (RunW w0 w3 A pr tp n rv (endF { x with hs := x.hs.set m (-1), es := (x.es.set i (begF e)).map (unF m) } i (unF m (begF e)) now)) := h3; clear h3))
  go_ret
  exact ⟨rfl, H4.out⟩

set_option maxRecDepth 20000 in
set_option maxHeartbeats 4000000 in
/-- One takes a lock. -/
theorem act_take (w0 w : World) (A : Ad) (pr : Int) (tp : List Int) (n : Nat) (rv : Value) (x : Rs) (h : RunW w0 w A pr tp n rv x) (_hn : n ≤ 100) (i : Nat) (e : En) (now : Int) (he : x.es[i]? = some e) (hv : RowSl Ac.vals w0 e.x.acts e.x.v) (_hl : e.x.acts.length ≤ 200) (m : Nat) (ha : e.x.acts[e.nx]? = some ⟨2, m⟩) (hm : m < 4) (hh : x.hs[m]? = some (-1)) :
    Calls Try.prog 35 #[.pointer (some ⟨A.R, 0, none⟩), .int .i64 i, .int .i64 now] w fun r w' => r = .returned (.bool false) ∧ RunW w0 w' A pr tp n rv (endF { x with hs := x.hs.set m i, es := x.es.set i (begF e) } i (begF e) now) := by
  obtain ⟨ad, cap, hsl, -, -, hrow⟩ := hv.below h.bel
  have hnx : e.nx < e.x.acts.length := (List.getElem?_eq_some_iff.1 ha).1
  rcases hrow with h0 | ⟨b, o, rfl, hrow⟩
  · rw [h0] at hnx; simp at hnx
  obtain ⟨a0, a1⟩ := ac_at hrow ha
  dsimp only at a0 a1
  obtain ⟨-, -, c2, c3, c4, c5, c6, -⟩ := h.job he
  obtain ⟨-, -, -, d4, -, -⟩ := h.own
  have hi : i < n := by have := (List.getElem?_eq_some_iff.1 he).1; have := h.ln.1; omega
  have hii : (i : Int) < (n : Int) := by omega
  have hnl : ¬ ((e.x.acts.length : Int) = 0) := by omega
  have hnl2 : ((e.x.acts.length : Int) == 0) = false := by rw [beq_eq_false_iff_ne]; omega
  have hnxi : (e.nx : Int) < (e.x.acts.length : Int) := by omega
  rw [hsl] at c2
  have s1 := h.setJ (k := 5) (u := .bool true) (e' := begF e) he (by omega) rfl
  have he1 : (x.es.set i (begF e))[i]? = some (begF e) := List.getElem?_set_self (by have := (List.getElem?_eq_some_iff.1 he).1; omega)
  have f5 := h.frz.2.1 (i * 8 + 5)
  obtain ⟨n1, -, -, -⟩ := h.ne.1
  obtain ⟨l1, l2, -, -, -⟩ := h.lts
  have lb : b < w.heap.size := World.block_lt_of_cell? _ _ a0
  have hbJ : b ≠ A.J := by
    intro e9
    have hlow : A.J < w0.heap.size := by
      obtain ⟨_, _, e8, -, -, h8⟩ := hv
      rw [hsl] at e8
      cases e8
      rcases h8 with h8 | ⟨b', o', e7, h7⟩
      · rw [h8] at hnx; simp at hnx
      · cases e7
        rw [← e9]
        exact World.block_lt_of_cell? _ _ (ac_at h7 ha).1
    have := h.lo.2.1
    omega
  have hmi : (m : Int) < 4 := by omega
  have hhc := h.hold hh
  have fh := h.frz.1 (7 + m)
  have H1 : Hid (RunW w0 (w.setCell ⟨A.J, i * 8 + 5, none⟩ (.bool true)) A pr tp n rv { x with es := x.es.set i (begF e) } ∧ (x.es.set i (begF e))[i]? = some (begF e) ∧ e.nx < e.x.acts.length ∧ e.x.v = .slice (some ⟨b, o, none⟩) e.x.acts.length cap) := ⟨s1, he1, hnx, hsl⟩
  clear s1 h he hv hrow ha he1 hsl hnx
  go_enter Try.func35, Try.ntmps35
  go_wp2_with fail
  refine wp_region_noPanic ?_
  refine wp_region_held_drew (S := fun w' => w'.cell? ⟨A.J, i * 8 + 2, none⟩ = some (.slice (some ⟨b, o, none⟩) e.x.acts.length cap) ∧ w'.cell? ⟨A.J, i * 8 + 3, none⟩ = some (.int .i64 e.nx) ∧ w'.cell? ⟨b, o + e.nx * 2, none⟩ = some (.int .i64 2) ∧ w'.cell? ⟨b, o + e.nx * 2 + 1, none⟩ = some (.int .i64 m)) (by kernel_rfl) (by refine ⟨?_, ?_, ?_, ?_⟩ <;> go_simp) (fun hHeld => ?_)
  refine take_at (i := 0) (n := 34) (v := ?_) rfl rfl (by kernel_rfl) (by kernel_rfl) (by kernel_rfl) (fun _ _ _ h => h) (Or.inl ⟨by rfl, ?_⟩) (by assumption) ?_
  rotate_left 1
  · intro wz hSw
    obtain ⟨s0, s1, s2, s3⟩ := hSw
    first | (go_simp; done) | (go_simp; with_reducible rfl)
  simp only [List.set_cons_zero, List.set_cons_succ]
  refine take_at (i := 1) (n := 35) (v := ?_) rfl rfl (by kernel_rfl) (by kernel_rfl) (by kernel_rfl) (fun _ _ _ h => h) (Or.inl ⟨by rfl, ?_⟩) (by assumption) ?_
  rotate_left 1
  · intro wz hSw
    obtain ⟨s0, s1, s2, s3⟩ := hSw
    first | (go_simp; done) | (go_simp; with_reducible rfl)
  simp only [List.set_cons_zero, List.set_cons_succ]
  refine take_at (i := 2) (n := 36) (v := ?_) rfl rfl (by kernel_rfl) (by kernel_rfl) (by kernel_rfl) (fun _ _ _ h => h) (Or.inl ⟨by rfl, ?_⟩) (by assumption) ?_
  rotate_left 1
  · intro wz hSw
    obtain ⟨s0, s1, s2, s3⟩ := hSw
    first | (go_simp; done) | (go_simp; with_reducible rfl)
  simp only [List.set_cons_zero, List.set_cons_succ]
  refine take_at (i := 3) (n := 37) (v := ?_) rfl rfl (by kernel_rfl) (by kernel_rfl) (by kernel_rfl) (fun _ _ _ h => h) (Or.inl ⟨by rfl, ?_⟩) (by assumption) ?_
  rotate_left 1
  · intro wz hSw
    obtain ⟨s0, s1, s2, s3⟩ := hSw
    first | (go_simp; done) | (go_simp; with_reducible rfl)
  simp only [List.set_cons_zero, List.set_cons_succ]
  refine take_at (i := 4) (n := 38) (v := ?_) rfl rfl (by kernel_rfl) (by kernel_rfl) (by kernel_rfl) (fun _ _ _ h => h) (Or.inl ⟨by rfl, ?_⟩) (by assumption) ?_
  rotate_left 1
  · intro wz hSw
    obtain ⟨s0, s1, s2, s3⟩ := hSw
    first | (go_simp; done) | (go_simp; with_reducible rfl)
  simp only [List.set_cons_zero, List.set_cons_succ]
  refine take_at (i := 5) (n := 39) (v := ?_) rfl rfl (by kernel_rfl) (by kernel_rfl) (by kernel_rfl) (fun _ _ _ h => h) (Or.inl ⟨by rfl, ?_⟩) (by assumption) ?_
  rotate_left 1
  · intro wz hSw
    obtain ⟨s0, s1, s2, s3⟩ := hSw
    first | (go_simp; done) | (go_simp; with_reducible rfl)
  simp only [List.set_cons_zero, List.set_cons_succ]
  refine take_at (i := 6) (n := 40) (v := ?_) rfl rfl (by kernel_rfl) (by kernel_rfl) (by kernel_rfl) (fun _ _ _ h => h) (Or.inl ⟨by rfl, ?_⟩) (by assumption) ?_
  rotate_left 1
  · intro wz hSw
    obtain ⟨s0, s1, s2, s3⟩ := hSw
    first | (go_simp; done) | (go_simp; with_reducible rfl)
  simp only [List.set_cons_zero, List.set_cons_succ]
  refine take_at (i := 7) (n := 41) (v := ?_) rfl rfl (by kernel_rfl) (by kernel_rfl) (by kernel_rfl) (fun _ _ _ h => h) (Or.inl ⟨by rfl, ?_⟩) (by assumption) ?_
  rotate_left 1
  · intro wz hSw
    obtain ⟨s0, s1, s2, s3⟩ := hSw
    first | (go_simp; done) | (go_simp; with_reducible rfl)
  simp only [List.set_cons_zero, List.set_cons_succ]
  refine take_at (i := 8) (n := 42) (v := ?_) rfl rfl (by kernel_rfl) (by kernel_rfl) (by kernel_rfl) (fun _ _ _ h => h) (Or.inl ⟨by rfl, ?_⟩) (by assumption) ?_
  rotate_left 1
  · intro wz hSw
    obtain ⟨s0, s1, s2, s3⟩ := hSw
    first | (go_simp; done) | (go_simp; with_reducible rfl)
  simp only [List.set_cons_zero, List.set_cons_succ]
  refine take_at (i := 9) (n := 43) (v := ?_) rfl rfl (by kernel_rfl) (by kernel_rfl) (by kernel_rfl) (fun _ _ _ h => h) (Or.inl ⟨by rfl, ?_⟩) (by assumption) ?_
  rotate_left 1
  · intro wz hSw
    obtain ⟨s0, s1, s2, s3⟩ := hSw
    first | (go_simp; done) | (go_simp; with_reducible rfl)
  simp only [List.set_cons_zero, List.set_cons_succ]
  refine take_at (i := 10) (n := 44) (v := ?_) rfl rfl (by kernel_rfl) (by kernel_rfl) (by kernel_rfl) (fun _ _ _ h => h) (Or.inl ⟨by rfl, ?_⟩) (by assumption) ?_
  rotate_left 1
  · intro wz hSw
    obtain ⟨s0, s1, s2, s3⟩ := hSw
    first | (go_simp; done) | (go_simp; with_reducible rfl)
  simp only [List.set_cons_zero, List.set_cons_succ]
  refine wpAnyH_ready (rs := [11]) (by kernel_rfl) (by simp) ?_
  refine AllReadyH.cons rfl (fun K hK => ?_) AllReadyH.nil
  go_simp
  refine hK.out _ _ (by refine ⟨?_, ?_, ?_, ?_⟩ <;> go_simp) (fun hHeld => ?_)
  clear hK K
  refine wpAnyH_ready (rs := [12]) (by kernel_rfl) (by simp) ?_
  refine AllReadyH.cons rfl (fun K hK => ?_) AllReadyH.nil
  go_simp
  refine hK.out _ _ (by refine ⟨?_, ?_, ?_, ?_⟩ <;> go_simp) (fun hHeld => ?_)
  clear hK K
  refine wpAnyH_done (by kernel_rfl) ?_ _
  refine NoPanic.normal ?_
  go_wp2_with fail
  go_quiet (fail)
  go_wp2_with fail
  refine wp_region_noPanic ?_
  refine wp_region_held_drew (S := fun w' => w'.cell? ⟨w.heap.size, 1, none⟩ = some (.int .i64 (m : Int))) (by kernel_rfl) (by go_simp) (fun hHeld => ?_)
  refine take_at (i := 0) (n := 62) (v := ?_) rfl rfl (by kernel_rfl) (by kernel_rfl) (by kernel_rfl) (fun _ _ _ h => h) (Or.inl ⟨by rfl, ?_⟩) (by assumption) ?_
  rotate_left 1
  · intro wz hSw
    first | (go_simp; done) | (go_simp; with_reducible rfl)
  simp only [List.set_cons_zero, List.set_cons_succ]
  refine take_at (i := 1) (n := 63) (v := ?_) rfl rfl (by kernel_rfl) (by kernel_rfl) (by kernel_rfl) (fun _ _ _ h => h) (Or.inl ⟨by rfl, ?_⟩) (by assumption) ?_
  rotate_left 1
  · intro wz hSw
    first | (go_simp; done) | (go_simp; with_reducible rfl)
  simp only [List.set_cons_zero, List.set_cons_succ]
  refine take_at (i := 2) (n := 64) (v := ?_) rfl rfl (by kernel_rfl) (by kernel_rfl) (by kernel_rfl) (fun _ _ _ h => h) (Or.inl ⟨by rfl, ?_⟩) (by assumption) ?_
  rotate_left 1
  · intro wz hSw
    first | (go_simp; done) | (go_simp; with_reducible rfl)
  simp only [List.set_cons_zero, List.set_cons_succ]
  refine take_at (i := 3) (n := 65) (v := ?_) rfl rfl (by kernel_rfl) (by kernel_rfl) (by kernel_rfl) (fun _ _ _ h => h) (Or.inl ⟨by rfl, ?_⟩) (by assumption) ?_
  rotate_left 1
  · intro wz hSw
    first | (go_simp; done) | (go_simp; with_reducible rfl)
  simp only [List.set_cons_zero, List.set_cons_succ]
  refine take_at (i := 4) (n := 66) (v := ?_) rfl rfl (by kernel_rfl) (by kernel_rfl) (by kernel_rfl) (fun _ _ _ h => h) (Or.inl ⟨by rfl, ?_⟩) (by assumption) ?_
  rotate_left 1
  · intro wz hSw
    first | (go_simp; done) | (go_simp; with_reducible rfl)
  simp only [List.set_cons_zero, List.set_cons_succ]
  refine take_at (i := 5) (n := 67) (v := ?_) rfl rfl (by kernel_rfl) (by kernel_rfl) (by kernel_rfl) (fun _ _ _ h => h) (Or.inl ⟨by rfl, ?_⟩) (by assumption) ?_
  rotate_left 1
  · intro wz hSw
    first | (go_simp; done) | (go_simp; with_reducible rfl)
  simp only [List.set_cons_zero, List.set_cons_succ]
  refine take_at (i := 6) (n := 68) (v := ?_) rfl rfl (by kernel_rfl) (by kernel_rfl) (by kernel_rfl) (fun _ _ _ h => h) (Or.inl ⟨by rfl, ?_⟩) (by assumption) ?_
  rotate_left 1
  · intro wz hSw
    first | (go_simp; done) | (go_simp; with_reducible rfl)
  simp only [List.set_cons_zero, List.set_cons_succ]
  refine wpAnyH_ready (rs := [7]) (by kernel_rfl) (by simp) ?_
  refine AllReadyH.cons rfl (fun K hK => ?_) AllReadyH.nil
  go_simp
  refine hK.out _ _ (by go_simp) (fun hHeld => ?_)
  clear hK K
  refine wpAnyH_done (by kernel_rfl) ?_ _
  refine NoPanic.normal ?_
  go_wp2_with (go_at_call 42; refine (end_run w0 _ A pr tp n rv _ (((H1.out.1.grow (below_new _ _)).drewN.setH m i)) i (begF e) now H1.out.2.1 (some ⟨b, o, none⟩) cap H1.out.2.2.2 H1.out.2.2.1 _hl).mono ?_; rintro r w3 ⟨rfl, h3⟩; have H4 : Hid (RunW w0 w3 A pr tp n rv (endF { x with hs := x.hs.set m i, es := x.es.set i (begF e) } i (begF e) now)) := h3; clear h3)
  go_ret
  exact ⟨rfl, H4.out⟩

set_option maxRecDepth 20000 in
set_option maxHeartbeats 4000000 in
/-- One has to wait for a lock. -/
theorem act_wait (w0 w : World) (A : Ad) (pr : Int) (tp : List Int) (n : Nat) (rv : Value) (x : Rs) (h : RunW w0 w A pr tp n rv x) (_hn : n ≤ 100) (i : Nat) (e : En) (now : Int) (he : x.es[i]? = some e) (hv : RowSl Ac.vals w0 e.x.acts e.x.v) (_hl : e.x.acts.length ≤ 200) (m : Nat) (ha : e.x.acts[e.nx]? = some ⟨2, m⟩) (hm : m < 4) (z : Int) (hh : x.hs[m]? = some z) (hz : z ≠ -1) :
    Calls Try.prog 35 #[.pointer (some ⟨A.R, 0, none⟩), .int .i64 i, .int .i64 now] w fun r w' => r = .returned (.bool false) ∧ RunW w0 w' A pr tp n rv ({ x with es := x.es.set i { e with bg := true, wt := m } }) := by
  obtain ⟨ad, cap, hsl, -, -, hrow⟩ := hv.below h.bel
  have hnx : e.nx < e.x.acts.length := (List.getElem?_eq_some_iff.1 ha).1
  rcases hrow with h0 | ⟨b, o, rfl, hrow⟩
  · rw [h0] at hnx; simp at hnx
  obtain ⟨a0, a1⟩ := ac_at hrow ha
  dsimp only at a0 a1
  obtain ⟨-, -, c2, c3, c4, c5, c6, -⟩ := h.job he
  obtain ⟨-, -, -, d4, -, -⟩ := h.own
  have hi : i < n := by have := (List.getElem?_eq_some_iff.1 he).1; have := h.ln.1; omega
  have hii : (i : Int) < (n : Int) := by omega
  have hnl : ¬ ((e.x.acts.length : Int) = 0) := by omega
  have hnl2 : ((e.x.acts.length : Int) == 0) = false := by rw [beq_eq_false_iff_ne]; omega
  have hnxi : (e.nx : Int) < (e.x.acts.length : Int) := by omega
  rw [hsl] at c2
  have s1 := h.setJ (k := 5) (u := .bool true) (e' := begF e) he (by omega) rfl
  have he1 : (x.es.set i (begF e))[i]? = some (begF e) := List.getElem?_set_self (by have := (List.getElem?_eq_some_iff.1 he).1; omega)
  have f5 := h.frz.2.1 (i * 8 + 5)
  obtain ⟨n1, -, -, -⟩ := h.ne.1
  obtain ⟨l1, l2, -, -, -⟩ := h.lts
  have lb : b < w.heap.size := World.block_lt_of_cell? _ _ a0
  have hbJ : b ≠ A.J := by
    intro e9
    have hlow : A.J < w0.heap.size := by
      obtain ⟨_, _, e8, -, -, h8⟩ := hv
      rw [hsl] at e8
      cases e8
      rcases h8 with h8 | ⟨b', o', e7, h7⟩
      · rw [h8] at hnx; simp at hnx
      · cases e7
        rw [← e9]
        exact World.block_lt_of_cell? _ _ (ac_at h7 ha).1
    have := h.lo.2.1
    omega
  have hmi : (m : Int) < 4 := by omega
  have hhc := h.hold hh
  have f6 := h.frz.2.1 (i * 8 + 6)
  have H1 : Hid (RunW w0 (w.setCell ⟨A.J, i * 8 + 5, none⟩ (.bool true)) A pr tp n rv { x with es := x.es.set i (begF e) } ∧ (x.es.set i (begF e))[i]? = some (begF e) ∧ e.nx < e.x.acts.length ∧ e.x.v = .slice (some ⟨b, o, none⟩) e.x.acts.length cap) := ⟨s1, he1, hnx, hsl⟩
  clear s1 h he hv hrow ha he1 hsl hnx
  go_enter Try.func35, Try.ntmps35
  go_wp2_with fail
  refine wp_region_noPanic ?_
  refine wp_region_held_drew (S := fun w' => w'.cell? ⟨A.J, i * 8 + 2, none⟩ = some (.slice (some ⟨b, o, none⟩) e.x.acts.length cap) ∧ w'.cell? ⟨A.J, i * 8 + 3, none⟩ = some (.int .i64 e.nx) ∧ w'.cell? ⟨b, o + e.nx * 2, none⟩ = some (.int .i64 2) ∧ w'.cell? ⟨b, o + e.nx * 2 + 1, none⟩ = some (.int .i64 m)) (by kernel_rfl) (by refine ⟨?_, ?_, ?_, ?_⟩ <;> go_simp) (fun hHeld => ?_)
  refine take_at (i := 0) (n := 34) (v := ?_) rfl rfl (by kernel_rfl) (by kernel_rfl) (by kernel_rfl) (fun _ _ _ h => h) (Or.inl ⟨by rfl, ?_⟩) (by assumption) ?_
  rotate_left 1
  · intro wz hSw
    obtain ⟨s0, s1, s2, s3⟩ := hSw
    first | (go_simp; done) | (go_simp; with_reducible rfl)
  simp only [List.set_cons_zero, List.set_cons_succ]
  refine take_at (i := 1) (n := 35) (v := ?_) rfl rfl (by kernel_rfl) (by kernel_rfl) (by kernel_rfl) (fun _ _ _ h => h) (Or.inl ⟨by rfl, ?_⟩) (by assumption) ?_
  rotate_left 1
  · intro wz hSw
    obtain ⟨s0, s1, s2, s3⟩ := hSw
    first | (go_simp; done) | (go_simp; with_reducible rfl)
  simp only [List.set_cons_zero, List.set_cons_succ]
  refine take_at (i := 2) (n := 36) (v := ?_) rfl rfl (by kernel_rfl) (by kernel_rfl) (by kernel_rfl) (fun _ _ _ h => h) (Or.inl ⟨by rfl, ?_⟩) (by assumption) ?_
  rotate_left 1
  · intro wz hSw
    obtain ⟨s0, s1, s2, s3⟩ := hSw
    first | (go_simp; done) | (go_simp; with_reducible rfl)
  simp only [List.set_cons_zero, List.set_cons_succ]
  refine take_at (i := 3) (n := 37) (v := ?_) rfl rfl (by kernel_rfl) (by kernel_rfl) (by kernel_rfl) (fun _ _ _ h => h) (Or.inl ⟨by rfl, ?_⟩) (by assumption) ?_
  rotate_left 1
  · intro wz hSw
    obtain ⟨s0, s1, s2, s3⟩ := hSw
    first | (go_simp; done) | (go_simp; with_reducible rfl)
  simp only [List.set_cons_zero, List.set_cons_succ]
  refine take_at (i := 4) (n := 38) (v := ?_) rfl rfl (by kernel_rfl) (by kernel_rfl) (by kernel_rfl) (fun _ _ _ h => h) (Or.inl ⟨by rfl, ?_⟩) (by assumption) ?_
  rotate_left 1
  · intro wz hSw
    obtain ⟨s0, s1, s2, s3⟩ := hSw
    first | (go_simp; done) | (go_simp; with_reducible rfl)
  simp only [List.set_cons_zero, List.set_cons_succ]
  refine take_at (i := 5) (n := 39) (v := ?_) rfl rfl (by kernel_rfl) (by kernel_rfl) (by kernel_rfl) (fun _ _ _ h => h) (Or.inl ⟨by rfl, ?_⟩) (by assumption) ?_
  rotate_left 1
  · intro wz hSw
    obtain ⟨s0, s1, s2, s3⟩ := hSw
    first | (go_simp; done) | (go_simp; with_reducible rfl)
  simp only [List.set_cons_zero, List.set_cons_succ]
  refine take_at (i := 6) (n := 40) (v := ?_) rfl rfl (by kernel_rfl) (by kernel_rfl) (by kernel_rfl) (fun _ _ _ h => h) (Or.inl ⟨by rfl, ?_⟩) (by assumption) ?_
  rotate_left 1
  · intro wz hSw
    obtain ⟨s0, s1, s2, s3⟩ := hSw
    first | (go_simp; done) | (go_simp; with_reducible rfl)
  simp only [List.set_cons_zero, List.set_cons_succ]
  refine take_at (i := 7) (n := 41) (v := ?_) rfl rfl (by kernel_rfl) (by kernel_rfl) (by kernel_rfl) (fun _ _ _ h => h) (Or.inl ⟨by rfl, ?_⟩) (by assumption) ?_
  rotate_left 1
  · intro wz hSw
    obtain ⟨s0, s1, s2, s3⟩ := hSw
    first | (go_simp; done) | (go_simp; with_reducible rfl)
  simp only [List.set_cons_zero, List.set_cons_succ]
  refine take_at (i := 8) (n := 42) (v := ?_) rfl rfl (by kernel_rfl) (by kernel_rfl) (by kernel_rfl) (fun _ _ _ h => h) (Or.inl ⟨by rfl, ?_⟩) (by assumption) ?_
  rotate_left 1
  · intro wz hSw
    obtain ⟨s0, s1, s2, s3⟩ := hSw
    first | (go_simp; done) | (go_simp; with_reducible rfl)
  simp only [List.set_cons_zero, List.set_cons_succ]
  refine take_at (i := 9) (n := 43) (v := ?_) rfl rfl (by kernel_rfl) (by kernel_rfl) (by kernel_rfl) (fun _ _ _ h => h) (Or.inl ⟨by rfl, ?_⟩) (by assumption) ?_
  rotate_left 1
  · intro wz hSw
    obtain ⟨s0, s1, s2, s3⟩ := hSw
    first | (go_simp; done) | (go_simp; with_reducible rfl)
  simp only [List.set_cons_zero, List.set_cons_succ]
  refine take_at (i := 10) (n := 44) (v := ?_) rfl rfl (by kernel_rfl) (by kernel_rfl) (by kernel_rfl) (fun _ _ _ h => h) (Or.inl ⟨by rfl, ?_⟩) (by assumption) ?_
  rotate_left 1
  · intro wz hSw
    obtain ⟨s0, s1, s2, s3⟩ := hSw
    first | (go_simp; done) | (go_simp; with_reducible rfl)
  simp only [List.set_cons_zero, List.set_cons_succ]
  refine wpAnyH_ready (rs := [11]) (by kernel_rfl) (by simp) ?_
  refine AllReadyH.cons rfl (fun K hK => ?_) AllReadyH.nil
  go_simp
  refine hK.out _ _ (by refine ⟨?_, ?_, ?_, ?_⟩ <;> go_simp) (fun hHeld => ?_)
  clear hK K
  refine wpAnyH_ready (rs := [12]) (by kernel_rfl) (by simp) ?_
  refine AllReadyH.cons rfl (fun K hK => ?_) AllReadyH.nil
  go_simp
  refine hK.out _ _ (by refine ⟨?_, ?_, ?_, ?_⟩ <;> go_simp) (fun hHeld => ?_)
  clear hK K
  refine wpAnyH_done (by kernel_rfl) ?_ _
  refine NoPanic.normal ?_
  go_wp2_with fail
  go_quiet (fail)
  go_wp2_with fail
  go_ret
  have s2 := ((H1.out.1.grow (below_new _ (.cells #[.int .i64 2, .int .i64 (m : Int)] 61))).drewN (k := 1 + nq)).setJ (k := 6) (u := .int .i64 (m : Int)) (e' := { e with bg := true, wt := m }) H1.out.2.1 (by omega) rfl
  dsimp only at s2
  rw [List.set_set] at s2
  exact ⟨rfl, s2⟩
end Go.Proofs.Ytcmoehednkaehah
