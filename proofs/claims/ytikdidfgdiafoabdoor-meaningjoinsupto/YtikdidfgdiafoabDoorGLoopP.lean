import Derived.Test.YtikdidfgdiafoabDoorGStepA
namespace Go.Proofs.YtikdidfgdiafoabDoor
open Go.ChangeShapes Go.WideShapes Go.ChangeAt Go.RowKit

set_option maxRecDepth 20000 in
set_option maxHeartbeats 4000000 in
theorem loop_4 (w0 w : World) (rb vb B vc nb nc : Nat) (iv pv : Value) (L : List Nd) (is : List Int) (s : Ms) (at_ : Nat) (hh : Here w0 w rb vb B vc nb nc iv pv L is s) (hA : at_ < L.length) (hL : L.length ≤ 2097152) (m : Nat) (hm : m ≤ 1000) (b : List St) (yad : Option Addr) (yc : Nat) (N : Nat) (hP : ListP w0 rb vb B vc nb nc iv L is N) (hbN : St.bulkAll b ≤ N) (hok : St.OkAll b) (hsub : Sub L b (at_ + 1))
    (c0 : w.cell? ⟨nb, at_ * 16, none⟩ = some (.int .i64 4)) (c1 : w.cell? ⟨nb, at_ * 16 + 1, none⟩ = some (.int .i64 (m : Nat))) (c12 : w.cell? ⟨nb, at_ * 16 + 12, none⟩ = some (.slice yad b.length yc)) (c15 : w.cell? ⟨nb, at_ * 16 + 15, none⟩ = some (.int .i64 ((at_ + 1 + St.countAll b : Nat) : Int))) :
    Calls Tryd.prog 59 #[.pointer (some ⟨rb, 0, none⟩), .int .i64 at_] w (RunPost rb vb B vc iv (.slice (some ⟨nb, 0, none⟩) L.length nc) w pv (again (fun _ => true) (fun s => St.runAll is b (at_ + 1) s) m s)) := by
  obtain ⟨r0, r1, r2, r3, r4, rf, rl⟩ := hh.rn.cells
  have hsl := hsub.le
  have HP : Hid (ListP w0 rb vb B vc nb nc iv L is N ∧ St.OkAll b ∧ Sub L b (at_ + 1) ∧ Here w0 w rb vb B vc nb nc iv pv L is s) := ⟨hP, hok, hsub, hh⟩
  have HNO : Hid (some nb ≠ pv.ownBlock) := fun e => by have := (hh.rn.own_lt nb e.symm).1; have := hh.nB; omega
  clear hP hok hsub hh
  by_cases hb0 : b = []
  · subst hb0
    rw [again_nil]
    go_enter Tryd.func59, Tryd.ntmps59
    go_wp2_with fail
    first | go_end0 | refine bodyPost_ret (results_none rfl _ _ _) rfl ?_
    exact ⟨rfl, pv, HP.out.2.2.2.rn, RR.refl _ _ _ _⟩
  have hbl : ((b.length : Int) == 0) = false := by
    have := List.length_pos_iff.2 hb0
    simp; omega
  clear hb0
  have HD : Hid (w.cell? ⟨nb, at_ * 16, none⟩ = some (.int .i64 4) ∧ w.cell? ⟨nb, at_ * 16 + 1, none⟩ = some (.int .i64 (m : Nat)) ∧ w.cell? ⟨nb, at_ * 16 + 12, none⟩ = some (.slice yad b.length yc) ∧ w.cell? ⟨nb, at_ * 16 + 15, none⟩ = some (.int .i64 ((at_ + 1 + St.countAll b : Nat) : Int))) := ⟨c0, c1, c12, c15⟩
  go_enter Tryd.func59, Tryd.ntmps59
  go_wp2_with fail
  clear c0 c1 c12 c15 r0 r1 r2 r3 r4 rf rl
  go_loopw [23] (fun x wr => ∃ (j : Nat) (pv' : Value) (s' : Ms), j ≤ m ∧ x = .int .i64 j ∧ Here w0 wr rb vb B vc nb nc iv pv' L is s' ∧ RR rb vb w wr pv pv' ∧ loopRest (fun _ => true) (fun s => St.runAll is b (at_ + 1) s) (m - j) (s', none) = again (fun _ => true) (fun s => St.runAll is b (at_ + 1) s) m s) (fun x _ => m - (intOf x).toNat)
  case atStart => exact ⟨0, pv, s, Nat.zero_le _, rfl, HP.out.2.2.2, RR.refl _ _ _ _, rfl⟩
  case round =>
    obtain ⟨j, pv', s', hj, rfl, hk, hrr, hrest⟩ := hrel
    obtain ⟨c0, c1, c12, c15⟩ := HD.out
    have g0 := hrr.cell hk.nr hk.nv HNO.out c0
    have g1 := hrr.cell hk.nr hk.nv HNO.out c1
    have g12 := hrr.cell hk.nr hk.nv HNO.out c12
    have g15 := hrr.cell hk.nr hk.nv HNO.out c15
    obtain ⟨r0, r1, r2, r3, r4, rf, rl⟩ := hk.rn.cells
    have HI : Hid (Here w0 wr rb vb B vc nb nc iv pv' L is s' ∧ RR rb vb w wr pv pv' ∧ loopRest (fun _ => true) (fun s => St.runAll is b (at_ + 1) s) (m - j) (s', none) = again (fun _ => true) (fun s => St.runAll is b (at_ + 1) s) m s) := ⟨hk, hrr, hrest⟩
    clear c0 c1 c12 c15 hk hrr hrest
    by_cases hlt : j < m
    · have hdj : decide ((j : Int) < (m : Int)) = true := decide_eq_true (by omega)
      rcases hz : St.runAll is b (at_ + 1) s' with ⟨s3, _ | z⟩
      · have HZ : Hid (_ = _) := hz
        have HKP : Hid (s3.steps ≤ 20000 ∧ s3.puts.length ≤ s3.steps) := by
          have h1 := (St.runAll_keep is b (at_ + 1) s' HI.out.1.rn.vars.1).2.1 HI.out.1.st
          have h2 := St.runAll_puts is b (at_ + 1) s' HI.out.1.pt
          rw [hz] at h1 h2
          exact ⟨h1, h2⟩
        clear hz
        go_wp2_with (go_at_call 37; refine (HP.out.1 b _ pv' s' (at_ + 1) hbN HP.out.2.1 HP.out.2.2.1 HI.out.1).mono ?_; intro r w3 hpost; unfold RunPost at hpost; rw [HZ.out] at hpost; obtain ⟨rfl, pv3, hk3, hr3⟩ := hpost; have H3 : Hid (Here w0 w3 rb vb B vc nb nc iv pv3 L is s3 ∧ _) := ⟨HI.out.1.next hk3 hr3 HKP.out.1 HKP.out.2 HI.out.1.nl, hr3⟩; clear hk3 hr3)
        go_roundw
        case rel =>
          refine ⟨j + 1, pv3, s3, by omega, by go_num, H3.out.1, HI.out.2.1.trans (H3.out.2), ?_⟩
          rw [← HI.out.2.2, show m - j = (m - (j + 1)) + 1 by omega, loopRest_step (rfl), HZ.out]
        case measure => simp [intOf]; omega
      · have HZ : Hid (_ = _) := hz
        clear hz
        have HF : Hid ((s3, some z) = again (fun _ => true) (fun s => St.runAll is b (at_ + 1) s) m s) := by
          show (s3, some z) = again (fun _ => true) (fun s => St.runAll is b (at_ + 1) s) m s
          rw [← HI.out.2.2, show m - j = (m - (j + 1)) + 1 by omega, loopRest_step (rfl), HZ.out]
          rfl
        go_wp2_with (go_at_call 37; refine (HP.out.1 b _ pv' s' (at_ + 1) hbN HP.out.2.1 HP.out.2.2.1 HI.out.1).mono ?_; intro r w3 hpost; unfold RunPost at hpost; rw [HZ.out] at hpost; obtain ⟨rfl, pv3, hr3⟩ := hpost; have H3 : Hid _ := hr3; clear hr3)
        refine ⟨rfl, ?_⟩
        rw [← HF.out]
        exact ⟨rfl, pv3, HI.out.2.1.trans (H3.out)⟩
    · have hje : j = m := by omega
      subst hje
      have HF : Hid ((s', none) = again (fun _ => true) (fun s => St.runAll is b (at_ + 1) s) j s) := by
        show (s', none) = again (fun _ => true) (fun s => St.runAll is b (at_ + 1) s) j s
        rw [← HI.out.2.2, Nat.sub_self, loopRest_zero]
      go_wp2_with fail
      first | go_end0 | refine bodyPost_ret (results_none rfl _ _ _) rfl ?_
      rw [← HF.out]
      exact ⟨rfl, pv', HI.out.1.rn, HI.out.2.1⟩

set_option maxRecDepth 20000 in
set_option maxHeartbeats 4000000 in
theorem loop_5 (w0 w : World) (rb vb B vc nb nc : Nat) (iv pv : Value) (L : List Nd) (is : List Int) (s : Ms) (at_ : Nat) (hh : Here w0 w rb vb B vc nb nc iv pv L is s) (hA : at_ < L.length) (hL : L.length ≤ 2097152) (m : Nat) (hm : m ≤ 1000) (b : List St) (yad : Option Addr) (yc : Nat) (ck ak an bk bn : Int) (aad bad : Option Addr) (am ac bm bc : Nat) (ca cb : Ex) (hck : 1 ≤ ck ∧ ck ≤ 4) (hna : ca.nodes ≤ 1048576) (hnb : cb.nodes ≤ 1048576) (hoka : ca.Ok) (hokb : cb.Ok) (hca : ca.In w0 (.agg #[.int .i64 ak, .int .i64 an, .slice aad am ac])) (hcb : cb.In w0 (.agg #[.int .i64 bk, .int .i64 bn, .slice bad bm bc])) (N : Nat) (hP : ListP w0 rb vb B vc nb nc iv L is N) (hbN : St.bulkAll b ≤ N) (hok : St.OkAll b) (hsub : Sub L b (at_ + 1))
    (c0 : w.cell? ⟨nb, at_ * 16, none⟩ = some (.int .i64 5)) (c1 : w.cell? ⟨nb, at_ * 16 + 1, none⟩ = some (.int .i64 (m : Nat))) (c5 : w.cell? ⟨nb, at_ * 16 + 5, none⟩ = some (.int .i64 ck)) (c6 : w.cell? ⟨nb, at_ * 16 + 6, none⟩ = some (.int .i64 ak)) (c7 : w.cell? ⟨nb, at_ * 16 + 7, none⟩ = some (.int .i64 an)) (c8 : w.cell? ⟨nb, at_ * 16 + 8, none⟩ = some (.slice aad am ac)) (c9 : w.cell? ⟨nb, at_ * 16 + 9, none⟩ = some (.int .i64 bk)) (c10 : w.cell? ⟨nb, at_ * 16 + 10, none⟩ = some (.int .i64 bn)) (c11 : w.cell? ⟨nb, at_ * 16 + 11, none⟩ = some (.slice bad bm bc)) (c12 : w.cell? ⟨nb, at_ * 16 + 12, none⟩ = some (.slice yad b.length yc)) (c15 : w.cell? ⟨nb, at_ * 16 + 15, none⟩ = some (.int .i64 ((at_ + 1 + St.countAll b : Nat) : Int))) :
    Calls Tryd.prog 59 #[.pointer (some ⟨rb, 0, none⟩), .int .i64 at_] w (RunPost rb vb B vc iv (.slice (some ⟨nb, 0, none⟩) L.length nc) w pv (again (condOf is ck ca cb) (fun s => St.runAll is b (at_ + 1) s) m s)) := by
  obtain ⟨r0, r1, r2, r3, r4, rf, rl⟩ := hh.rn.cells
  have hsl := hsub.le
  have HP : Hid (ListP w0 rb vb B vc nb nc iv L is N ∧ St.OkAll b ∧ Sub L b (at_ + 1) ∧ Here w0 w rb vb B vc nb nc iv pv L is s ∧ ca.Ok ∧ cb.Ok ∧ ca.In w0 (.agg #[.int .i64 ak, .int .i64 an, .slice aad am ac]) ∧ cb.In w0 (.agg #[.int .i64 bk, .int .i64 bn, .slice bad bm bc])) := ⟨hP, hok, hsub, hh, hoka, hokb, hca, hcb⟩
  have HNO : Hid (some nb ≠ pv.ownBlock) := fun e => by have := (hh.rn.own_lt nb e.symm).1; have := hh.nB; omega
  clear hP hok hsub hh hoka hokb hca hcb
  by_cases hb0 : b = []
  · subst hb0
    rw [again_nil]
    go_enter Tryd.func59, Tryd.ntmps59
    go_wp2_with fail
    first | go_end0 | refine bodyPost_ret (results_none rfl _ _ _) rfl ?_
    exact ⟨rfl, pv, HP.out.2.2.2.1.rn, RR.refl _ _ _ _⟩
  have hbl : ((b.length : Int) == 0) = false := by
    have := List.length_pos_iff.2 hb0
    simp; omega
  clear hb0
  have HD : Hid (w.cell? ⟨nb, at_ * 16, none⟩ = some (.int .i64 5) ∧ w.cell? ⟨nb, at_ * 16 + 1, none⟩ = some (.int .i64 (m : Nat)) ∧ w.cell? ⟨nb, at_ * 16 + 5, none⟩ = some (.int .i64 ck) ∧ w.cell? ⟨nb, at_ * 16 + 6, none⟩ = some (.int .i64 ak) ∧ w.cell? ⟨nb, at_ * 16 + 7, none⟩ = some (.int .i64 an) ∧ w.cell? ⟨nb, at_ * 16 + 8, none⟩ = some (.slice aad am ac) ∧ w.cell? ⟨nb, at_ * 16 + 9, none⟩ = some (.int .i64 bk) ∧ w.cell? ⟨nb, at_ * 16 + 10, none⟩ = some (.int .i64 bn) ∧ w.cell? ⟨nb, at_ * 16 + 11, none⟩ = some (.slice bad bm bc) ∧ w.cell? ⟨nb, at_ * 16 + 12, none⟩ = some (.slice yad b.length yc) ∧ w.cell? ⟨nb, at_ * 16 + 15, none⟩ = some (.int .i64 ((at_ + 1 + St.countAll b : Nat) : Int))) := ⟨c0, c1, c5, c6, c7, c8, c9, c10, c11, c12, c15⟩
  go_enter Tryd.func59, Tryd.ntmps59
  go_wp2_with fail
  clear c0 c1 c5 c6 c7 c8 c9 c10 c11 c12 c15 r0 r1 r2 r3 r4 rf rl
  go_loopw [23] (fun x wr => ∃ (j : Nat) (pv' : Value) (s' : Ms), j ≤ m ∧ x = .int .i64 j ∧ Here w0 wr rb vb B vc nb nc iv pv' L is s' ∧ RR rb vb w wr pv pv' ∧ loopRest (condOf is ck ca cb) (fun s => St.runAll is b (at_ + 1) s) (m - j) (s', none) = again (condOf is ck ca cb) (fun s => St.runAll is b (at_ + 1) s) m s) (fun x _ => m - (intOf x).toNat)
  case atStart => exact ⟨0, pv, s, Nat.zero_le _, rfl, HP.out.2.2.2.1, RR.refl _ _ _ _, rfl⟩
  case round =>
    obtain ⟨j, pv', s', hj, rfl, hk, hrr, hrest⟩ := hrel
    obtain ⟨c0, c1, c5, c6, c7, c8, c9, c10, c11, c12, c15⟩ := HD.out
    have g0 := hrr.cell hk.nr hk.nv HNO.out c0
    have g1 := hrr.cell hk.nr hk.nv HNO.out c1
    have g5 := hrr.cell hk.nr hk.nv HNO.out c5
    have g6 := hrr.cell hk.nr hk.nv HNO.out c6
    have g7 := hrr.cell hk.nr hk.nv HNO.out c7
    have g8 := hrr.cell hk.nr hk.nv HNO.out c8
    have g9 := hrr.cell hk.nr hk.nv HNO.out c9
    have g10 := hrr.cell hk.nr hk.nv HNO.out c10
    have g11 := hrr.cell hk.nr hk.nv HNO.out c11
    have g12 := hrr.cell hk.nr hk.nv HNO.out c12
    have g15 := hrr.cell hk.nr hk.nv HNO.out c15
    obtain ⟨r0, r1, r2, r3, r4, rf, rl⟩ := hk.rn.cells
    have HI : Hid (Here w0 wr rb vb B vc nb nc iv pv' L is s' ∧ RR rb vb w wr pv pv' ∧ loopRest (condOf is ck ca cb) (fun s => St.runAll is b (at_ + 1) s) (m - j) (s', none) = again (condOf is ck ca cb) (fun s => St.runAll is b (at_ + 1) s) m s) := ⟨hk, hrr, hrest⟩
    clear c0 c1 c5 c6 c7 c8 c9 c10 c11 c12 c15 hk hrr hrest
    by_cases hlt : j < m
    · have hdj : decide ((j : Int) < (m : Int)) = true := decide_eq_true (by omega)
      cases hcv : condVal ck (ca.val s'.vars is) (cb.val s'.vars is)
      · have HCV : Hid (condVal ck (ca.val s'.vars is) (cb.val s'.vars is) = false) := hcv
        clear hcv
        have HF : Hid ((s', none) = again (condOf is ck ca cb) (fun s => St.runAll is b (at_ + 1) s) m s) := by
          show (s', none) = again (condOf is ck ca cb) (fun s => St.runAll is b (at_ + 1) s) m s
          rw [← HI.out.2.2, loopRest_stop HCV.out]
        go_wp2_with (go_at_call 58; refine (holds_any rb s'.vars is ck ak an bk bn hck ca cb aad bad am ac bm bc _ hna hnb HP.out.2.2.2.2.1 HP.out.2.2.2.2.2.1 (HI.out.1.rn.val HI.out.1.ins HI.out.1.low) (HP.out.2.2.2.2.2.2.1.below HI.out.1.low) (HP.out.2.2.2.2.2.2.2.below HI.out.1.low)).mono ?_; rintro r w6 ⟨rfl, hb6⟩; rw [HCV.out]; have g15b := below_cell hb6 g15; have H6 : Hid (Here w0 w6 rb vb B vc nb nc iv pv' L is s' ∧ Below wr.heap.size wr w6) := ⟨HI.out.1.below hb6 HI.out.1.nl, hb6⟩; clear hb6)
        first | go_end0 | refine bodyPost_ret (results_none rfl _ _ _) rfl ?_
        rw [← HF.out]
        exact ⟨rfl, pv', H6.out.1.rn, HI.out.2.1.trans (RR.of_below H6.out.2)⟩
      · have HCV : Hid (condVal ck (ca.val s'.vars is) (cb.val s'.vars is) = true) := hcv
        clear hcv
        rcases hz : St.runAll is b (at_ + 1) s' with ⟨s3, _ | z⟩
        · have HZ : Hid (_ = _) := hz
          have HKP : Hid (s3.steps ≤ 20000 ∧ s3.puts.length ≤ s3.steps) := by
            have h1 := (St.runAll_keep is b (at_ + 1) s' HI.out.1.rn.vars.1).2.1 HI.out.1.st
            have h2 := St.runAll_puts is b (at_ + 1) s' HI.out.1.pt
            rw [hz] at h1 h2
            exact ⟨h1, h2⟩
          clear hz
          go_wp2_with (first | (go_at_call 58; refine (holds_any rb s'.vars is ck ak an bk bn hck ca cb aad bad am ac bm bc _ hna hnb HP.out.2.2.2.2.1 HP.out.2.2.2.2.2.1 (HI.out.1.rn.val HI.out.1.ins HI.out.1.low) (HP.out.2.2.2.2.2.2.1.below HI.out.1.low) (HP.out.2.2.2.2.2.2.2.below HI.out.1.low)).mono ?_; rintro r w6 ⟨rfl, hb6⟩; rw [HCV.out]; have g15b := below_cell hb6 g15; have H6 : Hid (Here w0 w6 rb vb B vc nb nc iv pv' L is s' ∧ Below wr.heap.size wr w6) := ⟨HI.out.1.below hb6 HI.out.1.nl, hb6⟩; clear hb6) | (go_at_call 37; refine (HP.out.1 b _ pv' s' (at_ + 1) hbN HP.out.2.1 HP.out.2.2.1 H6.out.1).mono ?_; intro r w3 hpost; unfold RunPost at hpost; rw [HZ.out] at hpost; obtain ⟨rfl, pv3, hk3, hr3⟩ := hpost; have H3 : Hid (Here w0 w3 rb vb B vc nb nc iv pv3 L is s3 ∧ _) := ⟨H6.out.1.next hk3 hr3 HKP.out.1 HKP.out.2 H6.out.1.nl, hr3⟩; clear hk3 hr3))
          go_roundw
          case rel =>
            refine ⟨j + 1, pv3, s3, by omega, by go_num, H3.out.1, HI.out.2.1.trans ((RR.of_below H6.out.2).trans (H3.out.2)), ?_⟩
            rw [← HI.out.2.2, show m - j = (m - (j + 1)) + 1 by omega, loopRest_step (HCV.out), HZ.out]
          case measure => simp [intOf]; omega
        · have HZ : Hid (_ = _) := hz
          clear hz
          have HF : Hid ((s3, some z) = again (condOf is ck ca cb) (fun s => St.runAll is b (at_ + 1) s) m s) := by
            show (s3, some z) = again (condOf is ck ca cb) (fun s => St.runAll is b (at_ + 1) s) m s
            rw [← HI.out.2.2, show m - j = (m - (j + 1)) + 1 by omega, loopRest_step (HCV.out), HZ.out]
            rfl
          go_wp2_with (first | (go_at_call 58; refine (holds_any rb s'.vars is ck ak an bk bn hck ca cb aad bad am ac bm bc _ hna hnb HP.out.2.2.2.2.1 HP.out.2.2.2.2.2.1 (HI.out.1.rn.val HI.out.1.ins HI.out.1.low) (HP.out.2.2.2.2.2.2.1.below HI.out.1.low) (HP.out.2.2.2.2.2.2.2.below HI.out.1.low)).mono ?_; rintro r w6 ⟨rfl, hb6⟩; rw [HCV.out]; have g15b := below_cell hb6 g15; have H6 : Hid (Here w0 w6 rb vb B vc nb nc iv pv' L is s' ∧ Below wr.heap.size wr w6) := ⟨HI.out.1.below hb6 HI.out.1.nl, hb6⟩; clear hb6) | (go_at_call 37; refine (HP.out.1 b _ pv' s' (at_ + 1) hbN HP.out.2.1 HP.out.2.2.1 H6.out.1).mono ?_; intro r w3 hpost; unfold RunPost at hpost; rw [HZ.out] at hpost; obtain ⟨rfl, pv3, hr3⟩ := hpost; have H3 : Hid _ := hr3; clear hr3))
          refine ⟨rfl, ?_⟩
          rw [← HF.out]
          exact ⟨rfl, pv3, HI.out.2.1.trans ((RR.of_below H6.out.2).trans (H3.out))⟩
    · have hje : j = m := by omega
      subst hje
      have HF : Hid ((s', none) = again (condOf is ck ca cb) (fun s => St.runAll is b (at_ + 1) s) j s) := by
        show (s', none) = again (condOf is ck ca cb) (fun s => St.runAll is b (at_ + 1) s) j s
        rw [← HI.out.2.2, Nat.sub_self, loopRest_zero]
      go_wp2_with fail
      first | go_end0 | refine bodyPost_ret (results_none rfl _ _ _) rfl ?_
      rw [← HF.out]
      exact ⟨rfl, pv', HI.out.1.rn, HI.out.2.1⟩
end Go.Proofs.YtikdidfgdiafoabDoor
